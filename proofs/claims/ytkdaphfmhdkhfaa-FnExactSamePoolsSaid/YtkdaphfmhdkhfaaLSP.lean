/- At any two pools the program's SamePools answers as its model does and writes into no argument: the law FnExactSamePools is true at every argument, with no condition. -/
import Derived.Test.YtkdaphfmhdkhfaaRows
import Derived.Test.YtkdaphfmhdkhfaaYS
import Derived.Test.YtkdaphfmhdkhfaaPV2
import Derived.Test.YtkdaphfmhdkhfaaRowP
namespace Go.Proofs.Ytkdaphfmhdkhfaa
open Go.RowKit

theorem fo_lens {w : World} {o : Bool} {l u : Nat} {an : Option Addr} {nn cn : Nat} {ab : Option Addr} {nb cb : Nat} {K : Nat → KS} {f : Fo} (h : FoAt w o l u an nn cn ab nb cb K f) {N : Nat} (hk : kl f.1 nn ≤ N) : ∀ i, i < nn → (K i).2.1 ≤ N := fun i hi => by
  have h1 := h.nodes.nKids hi
  have h2 := kl_at (ns := f.1) (i := i) (by rw [h.nodes.len]; exact hi)
  rw [h.nodes.len] at h2
  omega
set_option maxRecDepth 20000 in
set_option maxHeartbeats 8000000 in
theorem lawSamePools {o0 o2 o3 o4 : Bool} (an : Option Addr) (nn cn : Nat) (ab : Option Addr) (nb cb : Nat) (av : Option Addr) (nv cv : Nat) (an' : Option Addr) (nn' cn' : Nat) (ab' : Option Addr) (nb' cb' : Nat) (av' : Option Addr) (nv' cv' : Nat) (K K' : Nat → KS) (f f' : Fo) (vs vs' : List Vo) (w : World) (h0 : FoAt w o0 0 w.heap.size an nn cn ab nb cb K f) (hv : RowAt w o2 0 w.heap.size 3 av nv cv (trips vs)) (h0' : FoAt w o3 0 w.heap.size an' nn' cn' ab' nb' cb' K' f') (hv' : RowAt w o4 0 w.heap.size 3 av' nv' cv' (trips vs')) (hn : nn ≤ maxLen) (hm : nb ≤ maxLen) (hK : ∀ i, i < nn → (K i).2.1 ≤ maxLen) (hvn : nv ≤ maxLen) (hn' : nn' ≤ maxLen) (hm' : nb' ≤ maxLen) (hK' : ∀ i, i < nn' → (K' i).2.1 ≤ maxLen) (hvn' : nv' ≤ maxLen) :
    Calls Try.prog 35 #[.agg #[.slice an nn cn, .slice ab nb cb, .slice av nv cv], .agg #[.slice an' nn' cn', .slice ab' nb' cb', .slice av' nv' cv']] w fun e w' => e = .returned (.bool true) ∧ Below w.heap.size w w' := by
  have B : Below w.heap.size w w := Below.refl _ _
  obtain ⟨d, hd⟩ : ∃ d, (decide (f = f') && decide (vs = vs')) = d := ⟨_, rfl⟩
  have HD : Hid _ := hd
  clear hd
  have hdd : (d != d) = false := by simp
  go_enter Try.func35, Try.ntmps35
  go_wp2_with fail
  have A1 : Below w.heap.size w (w.alloc (.cells #[.slice an nn cn, .slice ab nb cb, .slice av nv cv] 137)) := (Below.refl _ _).alloc (Nat.le_refl _) _
  replace B := below_next B A1
  have S2 := A1.size
  clear A1
  have E2 : w.heap.size + 1 ≤ (w.alloc (.cells #[.slice an nn cn, .slice ab nb cb, .slice av nv cv] 137)).heap.size := by simp
  have fb0 : (w.alloc (.cells #[.slice an nn cn, .slice ab nb cb, .slice av nv cv] 137)).cell? ⟨w.heap.size, 0, none⟩ = some (.slice an nn cn) := by simp
  have fb1 : (w.alloc (.cells #[.slice an nn cn, .slice ab nb cb, .slice av nv cv] 137)).cell? ⟨w.heap.size, 1, none⟩ = some (.slice ab nb cb) := by simp
  have fb2 : (w.alloc (.cells #[.slice an nn cn, .slice ab nb cb, .slice av nv cv] 137)).cell? ⟨w.heap.size, 2, none⟩ = some (.slice av nv cv) := by simp
  have lfb : w.heap.size < (w.alloc (.cells #[.slice an nn cn, .slice ab nb cb, .slice av nv cv] 137)).heap.size := by simp
  have A3 : Below (w.alloc (.cells #[.slice an nn cn, .slice ab nb cb, .slice av nv cv] 137)).heap.size (w.alloc (.cells #[.slice an nn cn, .slice ab nb cb, .slice av nv cv] 137)) ((w.alloc (.cells #[.slice an nn cn, .slice ab nb cb, .slice av nv cv] 137)).alloc (.cells #[.slice an' nn' cn', .slice ab' nb' cb', .slice av' nv' cv'] 137)) := (Below.refl _ _).alloc (Nat.le_refl _) _
  replace fb0 := cell_later A3 fb0
  replace fb1 := cell_later A3 fb1
  replace fb2 := cell_later A3 fb2
  replace lfb := Nat.lt_of_lt_of_le lfb A3.size
  replace B := below_next B A3
  have S4 := A3.size
  clear A3
  have E4 : (w.alloc (.cells #[.slice an nn cn, .slice ab nb cb, .slice av nv cv] 137)).heap.size + 1 ≤ ((w.alloc (.cells #[.slice an nn cn, .slice ab nb cb, .slice av nv cv] 137)).alloc (.cells #[.slice an' nn' cn', .slice ab' nb' cb', .slice av' nv' cv'] 137)).heap.size := by simp
  have gb0 : ((w.alloc (.cells #[.slice an nn cn, .slice ab nb cb, .slice av nv cv] 137)).alloc (.cells #[.slice an' nn' cn', .slice ab' nb' cb', .slice av' nv' cv'] 137)).cell? ⟨(w.alloc (.cells #[.slice an nn cn, .slice ab nb cb, .slice av nv cv] 137)).heap.size, 0, none⟩ = some (.slice an' nn' cn') := by simp
  have gb1 : ((w.alloc (.cells #[.slice an nn cn, .slice ab nb cb, .slice av nv cv] 137)).alloc (.cells #[.slice an' nn' cn', .slice ab' nb' cb', .slice av' nv' cv'] 137)).cell? ⟨(w.alloc (.cells #[.slice an nn cn, .slice ab nb cb, .slice av nv cv] 137)).heap.size, 1, none⟩ = some (.slice ab' nb' cb') := by simp
  have gb2 : ((w.alloc (.cells #[.slice an nn cn, .slice ab nb cb, .slice av nv cv] 137)).alloc (.cells #[.slice an' nn' cn', .slice ab' nb' cb', .slice av' nv' cv'] 137)).cell? ⟨(w.alloc (.cells #[.slice an nn cn, .slice ab nb cb, .slice av nv cv] 137)).heap.size, 2, none⟩ = some (.slice av' nv' cv') := by simp
  have lgb : (w.alloc (.cells #[.slice an nn cn, .slice ab nb cb, .slice av nv cv] 137)).heap.size < ((w.alloc (.cells #[.slice an nn cn, .slice ab nb cb, .slice av nv cv] 137)).alloc (.cells #[.slice an' nn' cn', .slice ab' nb' cb', .slice av' nv' cv'] 137)).heap.size := by simp
  have ez : (w.alloc (.cells #[.slice an nn cn, .slice ab nb cb, .slice av nv cv] 137)).heap.size = w.heap.size + 1 := by simp
  rw [ez] at gb0 gb1 gb2 lgb
  clear ez
  go_wp2_with fail
  refine (szPool_left an nn cn ab nb cb av nv cv K f vs _ (by exact h0.below B) (by exact hv.below B) hn hm hK hvn 1048576 (by omega) (by omega)).mono ?_
  rintro e w1 ⟨rw1, rfl, hb, hr⟩
  replace fb0 := cell_later hb fb0
  replace fb1 := cell_later hb fb1
  replace fb2 := cell_later hb fb2
  replace gb0 := cell_later hb gb0
  replace gb1 := cell_later hb gb1
  replace gb2 := cell_later hb gb2
  replace lfb := Nat.lt_of_lt_of_le lfb hb.size
  replace lgb := Nat.lt_of_lt_of_le lgb hb.size
  replace B := below_next B hb
  have S5 := hb.size
  clear hb
  rcases hr with hr | ⟨hr, hszw1⟩
  · go_wp2
    go_ret
    exact ⟨rfl, B⟩
  have hrw1 : ¬ rw1 < 0 := by omega
  clear hr
  have hle : rw1 ≤ 1048576 := by omega
  have hge : 0 ≤ rw1 := by omega
  go_wp2_with fail
  refine (szPool_left an' nn' cn' ab' nb' cb' av' nv' cv' K' f' vs' _ (by exact h0'.below B) (by exact hv'.below B) hn' hm' hK' hvn' rw1 hge hle).mono ?_
  rintro e w2 ⟨rw2, rfl, hb, hr⟩
  replace fb0 := cell_later hb fb0
  replace fb1 := cell_later hb fb1
  replace fb2 := cell_later hb fb2
  replace gb0 := cell_later hb gb0
  replace gb1 := cell_later hb gb1
  replace gb2 := cell_later hb gb2
  replace lfb := Nat.lt_of_lt_of_le lfb hb.size
  replace lgb := Nat.lt_of_lt_of_le lgb hb.size
  replace B := below_next B hb
  have S6 := hb.size
  clear hb
  rcases hr with hr | ⟨hr, hszw2⟩
  · go_wp2
    go_ret
    exact ⟨rfl, B⟩
  have hrw2 : ¬ rw2 < 0 := by omega
  clear hr
  have a1 : nn ≤ 1048576 := by omega
  have a2 : nb ≤ 1048576 := by omega
  have a3 : nv ≤ 1048576 := by omega
  have a4 : kl f.1 nn ≤ 1048576 := by omega
  have b1 : nn ≤ 2097152 := by omega
  have b2 : nb ≤ 2097152 := by omega
  have b3 : nv ≤ 2097152 := by omega
  have b4 : kl f.1 nn ≤ 2097152 := by omega
  have HK : Hid _ := fo_lens h0 a4
  have a1' : nn' ≤ 1048576 := by omega
  have a2' : nb' ≤ 1048576 := by omega
  have a3' : nv' ≤ 1048576 := by omega
  have a4' : kl f'.1 nn' ≤ 1048576 := by omega
  have b1' : nn' ≤ 2097152 := by omega
  have b2' : nb' ≤ 2097152 := by omega
  have b3' : nv' ≤ 2097152 := by omega
  have b4' : kl f'.1 nn' ≤ 2097152 := by omega
  have HK' : Hid _ := fo_lens h0' a4'
  clear hszw1 hszw2 hle hge
  have D : Below w2.heap.size w2 w2.drew := (Below.refl _ _).drew
  replace fb0 := cell_later D fb0
  replace fb1 := cell_later D fb1
  replace fb2 := cell_later D fb2
  replace gb0 := cell_later D gb0
  replace gb1 := cell_later D gb1
  replace gb2 := cell_later D gb2
  replace lfb := Nat.lt_of_lt_of_le lfb D.size
  replace lgb := Nat.lt_of_lt_of_le lgb D.size
  replace B := below_next B D
  have S7 := D.size
  clear D
  have ga := h0.below B
  have gv := hv.below B
  have gc := h0'.below B
  have gd := hv'.below B
  go_wp2_with fail
  go_region_held3 (fun w' => w'.cell? ⟨w.heap.size, 0, none⟩ = some (.slice an nn cn) ∧ w'.cell? ⟨w.heap.size, 1, none⟩ = some (.slice ab nb cb) ∧ w'.cell? ⟨w.heap.size, 2, none⟩ = some (.slice av nv cv) ∧ w'.cell? ⟨w.heap.size + 1, 0, none⟩ = some (.slice an' nn' cn') ∧ w'.cell? ⟨w.heap.size + 1, 1, none⟩ = some (.slice ab' nb' cb') ∧ w'.cell? ⟨w.heap.size + 1, 2, none⟩ = some (.slice av' nv' cv')) (exact ⟨fb0, fb1, fb2, gb0, gb1, gb2⟩)
    (first | (go_at_call 125; (with_reducible refine (toPool_any an nn cn ab nb cb av nv cv K f vs _ ga gv a1 a2 HK.out a3).mono ?_); rintro e w3 ⟨tn, tb, tv, tmid, tK, rfl, rt, qt, _, _, hb⟩; have fb0 := cell_later hb fb0; have fb1 := cell_later hb fb1; have fb2 := cell_later hb fb2; have gb0 := cell_later hb gb0; have gb1 := cell_later hb gb1; have gb2 := cell_later hb gb2; have ga := ga.below hb; have gv := gv.below hb; have gc := gc.below hb; have gd := gd.below hb; have lfb := Nat.lt_of_lt_of_le lfb hb.size; have lgb := Nat.lt_of_lt_of_le lgb hb.size; have B := below_next B hb; clear hb) | (go_at_call 125; (with_reducible refine (toPool_any an' nn' cn' ab' nb' cb' av' nv' cv' K' f' vs' _ gc gd a1' a2' HK'.out a3').mono ?_); rintro e w4 ⟨sn, sb, sv, smid, sK, rfl, rs, qs, _, _, hb⟩; have fb0 := cell_later hb fb0; have fb1 := cell_later hb fb1; have fb2 := cell_later hb fb2; have gb0 := cell_later hb gb0; have gb1 := cell_later hb gb1; have gb2 := cell_later hb gb2; have ga := ga.below hb; have gv := gv.below hb; have gc := gc.below hb; have gd := gd.below hb; have rt := rt.below hb; have qt := qt.below hb; have lfb := Nat.lt_of_lt_of_le lfb hb.size; have lgb := Nat.lt_of_lt_of_le lgb hb.size; have B := below_next B hb; clear hb) | (go_at_call 135; (with_reducible refine (specSame_is tn nn nn tb nb nb sn nn' nn' sb nb' nb' tv nv nv sv nv' nv' tK sK f f' vs vs' _ rt rs qt qs b3 b3' b1 b2 (fo_lens rt b4) b1' b2' (fo_lens rs b4') d HD.out).mono ?_); rintro e w5 ⟨rfl, hb⟩; have fb0 := cell_later hb fb0; have fb1 := cell_later hb fb1; have fb2 := cell_later hb fb2; have gb0 := cell_later hb gb0; have gb1 := cell_later hb gb1; have gb2 := cell_later hb gb2; have ga := ga.below hb; have gv := gv.below hb; have gc := gc.below hb; have gd := gd.below hb; have rt := rt.below hb; have qt := qt.below hb; have rs := rs.below hb; have qs := qs.below hb; have lfb := Nat.lt_of_lt_of_le lfb hb.size; have lgb := Nat.lt_of_lt_of_le lgb hb.size; have B := below_next B hb; clear hb))
  clear rt qt rs qs ga gv gc gd
  go_wp2_with fail
  refine (toPool_any an nn cn ab nb cb av nv cv K f vs _ (by exact h0.below B) (by exact hv.below B) a1 a2 HK.out a3).mono ?_
  rintro e w6 ⟨xn, xb, xv, xmid, xK, rfl, rx, qx, _, _, hb⟩
  replace fb0 := cell_later hb fb0
  replace fb1 := cell_later hb fb1
  replace fb2 := cell_later hb fb2
  replace gb0 := cell_later hb gb0
  replace gb1 := cell_later hb gb1
  replace gb2 := cell_later hb gb2
  replace lfb := Nat.lt_of_lt_of_le lfb hb.size
  replace lgb := Nat.lt_of_lt_of_le lgb hb.size
  replace B := below_next B hb
  have S8 := hb.size
  clear hb
  go_wp2_with fail
  have A9 : Below w6.heap.size w6 (w6.alloc (.cells #[.slice xn nn nn, .slice xb nb nb, .slice xv nv nv] 77)) := (Below.refl _ _).alloc (Nat.le_refl _) _
  replace fb0 := cell_later A9 fb0
  replace fb1 := cell_later A9 fb1
  replace fb2 := cell_later A9 fb2
  replace gb0 := cell_later A9 gb0
  replace gb1 := cell_later A9 gb1
  replace gb2 := cell_later A9 gb2
  replace rx := rx.below A9
  replace qx := qx.below A9
  replace lfb := Nat.lt_of_lt_of_le lfb A9.size
  replace lgb := Nat.lt_of_lt_of_le lgb A9.size
  replace B := below_next B A9
  have S10 := A9.size
  clear A9
  have E10 : w6.heap.size + 1 ≤ (w6.alloc (.cells #[.slice xn nn nn, .slice xb nb nb, .slice xv nv nv] 77)).heap.size := by simp
  have xx0 : (w6.alloc (.cells #[.slice xn nn nn, .slice xb nb nb, .slice xv nv nv] 77)).cell? ⟨w6.heap.size, 0, none⟩ = some (.slice xn nn nn) := by simp
  have xx1 : (w6.alloc (.cells #[.slice xn nn nn, .slice xb nb nb, .slice xv nv nv] 77)).cell? ⟨w6.heap.size, 1, none⟩ = some (.slice xb nb nb) := by simp
  have xx2 : (w6.alloc (.cells #[.slice xn nn nn, .slice xb nb nb, .slice xv nv nv] 77)).cell? ⟨w6.heap.size, 2, none⟩ = some (.slice xv nv nv) := by simp
  have lxx : w6.heap.size < (w6.alloc (.cells #[.slice xn nn nn, .slice xb nb nb, .slice xv nv nv] 77)).heap.size := by simp
  go_wp2_with fail
  refine (toPool_any an' nn' cn' ab' nb' cb' av' nv' cv' K' f' vs' _ (by exact h0'.below B) (by exact hv'.below B) a1' a2' HK'.out a3').mono ?_
  rintro e w7 ⟨yn, yb, yv, ymid, yK, rfl, ry, qy, _, _, hb⟩
  replace fb0 := cell_later hb fb0
  replace fb1 := cell_later hb fb1
  replace fb2 := cell_later hb fb2
  replace gb0 := cell_later hb gb0
  replace gb1 := cell_later hb gb1
  replace gb2 := cell_later hb gb2
  replace xx0 := cell_later hb xx0
  replace xx1 := cell_later hb xx1
  replace xx2 := cell_later hb xx2
  replace rx := rx.below hb
  replace qx := qx.below hb
  replace lfb := Nat.lt_of_lt_of_le lfb hb.size
  replace lgb := Nat.lt_of_lt_of_le lgb hb.size
  replace lxx := Nat.lt_of_lt_of_le lxx hb.size
  replace B := below_next B hb
  have S11 := hb.size
  clear hb
  go_wp2_with fail
  have A12 : Below w7.heap.size w7 (w7.alloc (.cells #[.slice yn nn' nn', .slice yb nb' nb', .slice yv nv' nv'] 77)) := (Below.refl _ _).alloc (Nat.le_refl _) _
  replace fb0 := cell_later A12 fb0
  replace fb1 := cell_later A12 fb1
  replace fb2 := cell_later A12 fb2
  replace gb0 := cell_later A12 gb0
  replace gb1 := cell_later A12 gb1
  replace gb2 := cell_later A12 gb2
  replace xx0 := cell_later A12 xx0
  replace xx1 := cell_later A12 xx1
  replace xx2 := cell_later A12 xx2
  replace rx := rx.below A12
  replace qx := qx.below A12
  replace ry := ry.below A12
  replace qy := qy.below A12
  replace lfb := Nat.lt_of_lt_of_le lfb A12.size
  replace lgb := Nat.lt_of_lt_of_le lgb A12.size
  replace lxx := Nat.lt_of_lt_of_le lxx A12.size
  replace B := below_next B A12
  have S13 := A12.size
  clear A12
  have E13 : w7.heap.size + 1 ≤ (w7.alloc (.cells #[.slice yn nn' nn', .slice yb nb' nb', .slice yv nv' nv'] 77)).heap.size := by simp
  have yy0 : (w7.alloc (.cells #[.slice yn nn' nn', .slice yb nb' nb', .slice yv nv' nv'] 77)).cell? ⟨w7.heap.size, 0, none⟩ = some (.slice yn nn' nn') := by simp
  have yy1 : (w7.alloc (.cells #[.slice yn nn' nn', .slice yb nb' nb', .slice yv nv' nv'] 77)).cell? ⟨w7.heap.size, 1, none⟩ = some (.slice yb nb' nb') := by simp
  have yy2 : (w7.alloc (.cells #[.slice yn nn' nn', .slice yb nb' nb', .slice yv nv' nv'] 77)).cell? ⟨w7.heap.size, 2, none⟩ = some (.slice yv nv' nv') := by simp
  have lyy : w7.heap.size < (w7.alloc (.cells #[.slice yn nn' nn', .slice yb nb' nb', .slice yv nv' nv'] 77)).heap.size := by simp
  go_wp2_with fail
  refine (implSame_is xn nn nn xb nb nb yn nn' nn' yb nb' nb' xv nv nv yv nv' nv' xK yK f f' vs vs' _ rx ry qx qy b3 b3' b1 b2 (fo_lens rx b4) b1' b2' (fo_lens ry b4') d HD.out).mono ?_
  rintro e w8 ⟨rfl, hb⟩
  replace fb0 := cell_later hb fb0
  replace fb1 := cell_later hb fb1
  replace fb2 := cell_later hb fb2
  replace gb0 := cell_later hb gb0
  replace gb1 := cell_later hb gb1
  replace gb2 := cell_later hb gb2
  replace xx0 := cell_later hb xx0
  replace xx1 := cell_later hb xx1
  replace xx2 := cell_later hb xx2
  replace yy0 := cell_later hb yy0
  replace yy1 := cell_later hb yy1
  replace yy2 := cell_later hb yy2
  replace rx := rx.below hb
  replace qx := qx.below hb
  replace ry := ry.below hb
  replace qy := qy.below hb
  replace lfb := Nat.lt_of_lt_of_le lfb hb.size
  replace lgb := Nat.lt_of_lt_of_le lgb hb.size
  replace lxx := Nat.lt_of_lt_of_le lxx hb.size
  replace lyy := Nat.lt_of_lt_of_le lyy hb.size
  replace B := below_next B hb
  have S14 := hb.size
  clear hb
  have D : Below w8.heap.size w8 w8.drew := (Below.refl _ _).drew
  replace fb0 := cell_later D fb0
  replace fb1 := cell_later D fb1
  replace fb2 := cell_later D fb2
  replace gb0 := cell_later D gb0
  replace gb1 := cell_later D gb1
  replace gb2 := cell_later D gb2
  replace xx0 := cell_later D xx0
  replace xx1 := cell_later D xx1
  replace xx2 := cell_later D xx2
  replace yy0 := cell_later D yy0
  replace yy1 := cell_later D yy1
  replace yy2 := cell_later D yy2
  replace rx := rx.below D
  replace qx := qx.below D
  replace ry := ry.below D
  replace qy := qy.below D
  replace lfb := Nat.lt_of_lt_of_le lfb D.size
  replace lgb := Nat.lt_of_lt_of_le lgb D.size
  replace lxx := Nat.lt_of_lt_of_le lxx D.size
  replace lyy := Nat.lt_of_lt_of_le lyy D.size
  replace B := below_next B D
  have S15 := D.size
  clear D
  have g0 := h0.below B
  have g2 := hv.below B
  go_wp2_with fail
  go_region_held3 (fun w' => w'.cell? ⟨w.heap.size, 0, none⟩ = some (.slice an nn cn) ∧ w'.cell? ⟨w.heap.size, 1, none⟩ = some (.slice ab nb cb) ∧ w'.cell? ⟨w.heap.size, 2, none⟩ = some (.slice av nv cv) ∧ w'.cell? ⟨w6.heap.size, 0, none⟩ = some (.slice xn nn nn) ∧ w'.cell? ⟨w6.heap.size, 1, none⟩ = some (.slice xb nb nb) ∧ w'.cell? ⟨w6.heap.size, 2, none⟩ = some (.slice xv nv nv)) (exact ⟨fb0, fb1, fb2, xx0, xx1, xx2⟩)
    (first | (go_at_call 125; refine (toPool_any an nn cn ab nb cb av nv cv K f vs _ g0 g2 a1 a2 HK.out a3).mono ?_; rintro e w9a ⟨zn, zb, zv, zmid, zK, rfl, rz, qz, _, _, hb⟩; have fb0 := cell_later hb fb0; have fb1 := cell_later hb fb1; have fb2 := cell_later hb fb2; have gb0 := cell_later hb gb0; have gb1 := cell_later hb gb1; have gb2 := cell_later hb gb2; have xx0 := cell_later hb xx0; have xx1 := cell_later hb xx1; have xx2 := cell_later hb xx2; have yy0 := cell_later hb yy0; have yy1 := cell_later hb yy1; have yy2 := cell_later hb yy2; have rx := rx.below hb; have qx := qx.below hb; have ry := ry.below hb; have qy := qy.below hb; have lfb := Nat.lt_of_lt_of_le lfb hb.size; have lgb := Nat.lt_of_lt_of_le lgb hb.size; have lxx := Nat.lt_of_lt_of_le lxx hb.size; have lyy := Nat.lt_of_lt_of_le lyy hb.size; have B := below_next B hb; clear hb) | (go_at_call 127; refine (eqPool_yes _ _ _ _ _ _ _ _ _ _ _ _ _ _ _ _ _ _ xK zK f vs _ rx qx rz qz b1 b2 (fo_lens rx b4) b3).mono ?_; rintro e w9 ⟨rfl, hb⟩; have fb0 := cell_later hb fb0; have fb1 := cell_later hb fb1; have fb2 := cell_later hb fb2; have gb0 := cell_later hb gb0; have gb1 := cell_later hb gb1; have gb2 := cell_later hb gb2; have xx0 := cell_later hb xx0; have xx1 := cell_later hb xx1; have xx2 := cell_later hb xx2; have yy0 := cell_later hb yy0; have yy1 := cell_later hb yy1; have yy2 := cell_later hb yy2; have rx := rx.below hb; have qx := qx.below hb; have ry := ry.below hb; have qy := qy.below hb; have lfb := Nat.lt_of_lt_of_le lfb hb.size; have lgb := Nat.lt_of_lt_of_le lgb hb.size; have lxx := Nat.lt_of_lt_of_le lxx hb.size; have lyy := Nat.lt_of_lt_of_le lyy hb.size; have B := below_next B hb; clear hb rz qz))
  clear g0 g2
  have D : Below w9.heap.size w9 w9.drew := (Below.refl _ _).drew
  replace fb0 := cell_later D fb0
  replace fb1 := cell_later D fb1
  replace fb2 := cell_later D fb2
  replace gb0 := cell_later D gb0
  replace gb1 := cell_later D gb1
  replace gb2 := cell_later D gb2
  replace xx0 := cell_later D xx0
  replace xx1 := cell_later D xx1
  replace xx2 := cell_later D xx2
  replace yy0 := cell_later D yy0
  replace yy1 := cell_later D yy1
  replace yy2 := cell_later D yy2
  replace rx := rx.below D
  replace qx := qx.below D
  replace ry := ry.below D
  replace qy := qy.below D
  replace lfb := Nat.lt_of_lt_of_le lfb D.size
  replace lgb := Nat.lt_of_lt_of_le lgb D.size
  replace lxx := Nat.lt_of_lt_of_le lxx D.size
  replace lyy := Nat.lt_of_lt_of_le lyy D.size
  replace B := below_next B D
  have S16 := D.size
  clear D
  have g0 := h0'.below B
  have g2 := hv'.below B
  go_wp2_with fail
  go_region_held3 (fun w' => w'.cell? ⟨w.heap.size + 1, 0, none⟩ = some (.slice an' nn' cn') ∧ w'.cell? ⟨w.heap.size + 1, 1, none⟩ = some (.slice ab' nb' cb') ∧ w'.cell? ⟨w.heap.size + 1, 2, none⟩ = some (.slice av' nv' cv') ∧ w'.cell? ⟨w7.heap.size, 0, none⟩ = some (.slice yn nn' nn') ∧ w'.cell? ⟨w7.heap.size, 1, none⟩ = some (.slice yb nb' nb') ∧ w'.cell? ⟨w7.heap.size, 2, none⟩ = some (.slice yv nv' nv')) (exact ⟨gb0, gb1, gb2, yy0, yy1, yy2⟩)
    (first | (go_at_call 125; refine (toPool_any an' nn' cn' ab' nb' cb' av' nv' cv' K' f' vs' _ g0 g2 a1' a2' HK'.out a3').mono ?_; rintro e w10a ⟨zn, zb, zv, zmid, zK, rfl, rz, qz, _, _, hb⟩; have fb0 := cell_later hb fb0; have fb1 := cell_later hb fb1; have fb2 := cell_later hb fb2; have gb0 := cell_later hb gb0; have gb1 := cell_later hb gb1; have gb2 := cell_later hb gb2; have xx0 := cell_later hb xx0; have xx1 := cell_later hb xx1; have xx2 := cell_later hb xx2; have yy0 := cell_later hb yy0; have yy1 := cell_later hb yy1; have yy2 := cell_later hb yy2; have rx := rx.below hb; have qx := qx.below hb; have ry := ry.below hb; have qy := qy.below hb; have lfb := Nat.lt_of_lt_of_le lfb hb.size; have lgb := Nat.lt_of_lt_of_le lgb hb.size; have lxx := Nat.lt_of_lt_of_le lxx hb.size; have lyy := Nat.lt_of_lt_of_le lyy hb.size; have B := below_next B hb; clear hb) | (go_at_call 127; refine (eqPool_yes _ _ _ _ _ _ _ _ _ _ _ _ _ _ _ _ _ _ yK zK f' vs' _ ry qy rz qz b1' b2' (fo_lens ry b4') b3').mono ?_; rintro e w10 ⟨rfl, hb⟩; have fb0 := cell_later hb fb0; have fb1 := cell_later hb fb1; have fb2 := cell_later hb fb2; have gb0 := cell_later hb gb0; have gb1 := cell_later hb gb1; have gb2 := cell_later hb gb2; have xx0 := cell_later hb xx0; have xx1 := cell_later hb xx1; have xx2 := cell_later hb xx2; have yy0 := cell_later hb yy0; have yy1 := cell_later hb yy1; have yy2 := cell_later hb yy2; have rx := rx.below hb; have qx := qx.below hb; have ry := ry.below hb; have qy := qy.below hb; have lfb := Nat.lt_of_lt_of_le lfb hb.size; have lgb := Nat.lt_of_lt_of_le lgb hb.size; have lxx := Nat.lt_of_lt_of_le lxx hb.size; have lyy := Nat.lt_of_lt_of_le lyy hb.size; have B := below_next B hb; clear hb rz qz))
  clear g0 g2
  go_wp2
  go_ret
  exact ⟨rfl, B⟩

open Go.ChangeShapes Go.WideShapes Go.ChangeAt Go.Joins

set_option maxRecDepth 100000 in
theorem liftedSamePools (os : Os) (started : os.Started) (H : Type) (enc : TypeId × Value → H) :
    ReturnsInHanded {} Try.checked os 35 .any (Rows.fnExactSamePoolsSpec.pre6 enc Try.prog Try.f35 Rows.fnExactSamePoolsRow.domain false) (Rows.fnExactSamePoolsSpec.post enc Try.prog Try.f35 false true false false) := by
  refine returnsInHanded_of_change (C := Try.checked) Try.own started (by kernel_rfl) Try.func35
    (ChangeSpec.witness6 (enc := enc) (C := Try.checked) false ⟨#[], #[.agg #[.slice none 0 0, .slice none 0 0, .slice none 0 0], .agg #[.slice none 0 0, .slice none 0 0, .slice none 0 0]], []⟩ 8 (by kernel_rfl) (by kernel_rfl) (by kernel_rfl) (by kernel_rfl)) ?_
  intro W base args ds gs before hval0 hW hcnd _
  have hval : ∀ (j : Nat) t v, Try.f35.params[j]? = some t → args[j]? = some v → Value.okWide Try.prog W .any base t v := hval0
  have hW' := hW
  obtain ⟨p, q, hA0, hV, rfl, hfz, hnd⟩ := hW
  have hA : DataW.TrodAll enc Try.prog W 0 (fun _ => true) true Try.f35.params.toList args.toList ds p := hA0
  rw [Try.params35] at hA hval
  obtain ⟨v0, vs0, d0, ds0, p0, q0, hargs, rfl, rfl, h0, r0⟩ := trodAll_cons hA
  obtain ⟨v1, vs1, d1, ds1, p1, q1, rfl, rfl, rfl, h1, r1⟩ := trodAll_cons r0
  obtain ⟨rfl, rfl, rfl⟩ := trodAll_nil r1
  obtain rfl : args = #[v0, v1] := by cases args; simp_all
  obtain ⟨rfl, rfl⟩ := trodVars_none hV
  have lt0 : ∀ x ∈ p0, x.block < W.heap.size := by obtain ⟨m, hm⟩ := h0; exact DataW.trod_lt m _ _ _ hm
  have k0 := h0
  obtain ⟨e00, e10, e20, y00, y10, y20, m0, m'0, rfl, hy00, hy10, hy20⟩ := open_pool Try.underlying137 rfl rfl Try.cellsForest Try.cellsVols Try.cellsPool Try.underlying120 rfl rfl Try.cellsNodes Try.cellsBlocks (hval 0 137 v0 rfl rfl) h0
  obtain ⟨an0, nn0, cn0, Kf0, ns0, rfl, hnf0, hKf0, sn0⟩ := read_nodes Try.underlying118 Try.underlying263 Try.cellsNode rfl rfl rfl Try.underlying2 Try.underlying4 Try.underlying24 Try.underlying2 Try.cellsInt Try.cellsBool Try.cellsInts Try.cellsInt hy00
  obtain ⟨ab0, nb0, cb0, bs0, rfl, hmf0, sbk0⟩ := read_pairs Try.underlying108 Try.underlying205 Try.cellsBlock rfl rfl Try.underlying2 Try.underlying2 Try.cellsInt Try.cellsInt hy10
  obtain ⟨av0, nv0, cv0, vs0, rfl, hvf0, sv0⟩ := read_vols Try.underlying135 Try.underlying270 Try.cellsVol rfl rfl rfl Try.underlying2 Try.underlying2 Try.underlying2 Try.cellsInt Try.cellsInt Try.cellsInt hy20
  have sf0 : FoAt W false 0 W.heap.size an0 nn0 cn0 ab0 nb0 cb0 Kf0 (ns0, bs0) := ⟨sn0, sbk0, fun hx => by cases hx⟩
  have lt1 : ∀ x ∈ p1, x.block < W.heap.size := by obtain ⟨m, hm⟩ := h1; exact DataW.trod_lt m _ _ _ hm
  have k1 := h1
  obtain ⟨e01, e11, e21, y01, y11, y21, m1, m'1, rfl, hy01, hy11, hy21⟩ := open_pool Try.underlying137 rfl rfl Try.cellsForest Try.cellsVols Try.cellsPool Try.underlying120 rfl rfl Try.cellsNodes Try.cellsBlocks (hval 1 137 v1 rfl rfl) h1
  obtain ⟨an1, nn1, cn1, Kf1, ns1, rfl, hnf1, hKf1, sn1⟩ := read_nodes Try.underlying118 Try.underlying263 Try.cellsNode rfl rfl rfl Try.underlying2 Try.underlying4 Try.underlying24 Try.underlying2 Try.cellsInt Try.cellsBool Try.cellsInts Try.cellsInt hy01
  obtain ⟨ab1, nb1, cb1, bs1, rfl, hmf1, sbk1⟩ := read_pairs Try.underlying108 Try.underlying205 Try.cellsBlock rfl rfl Try.underlying2 Try.underlying2 Try.cellsInt Try.cellsInt hy11
  obtain ⟨av1, nv1, cv1, vs1, rfl, hvf1, sv1⟩ := read_vols Try.underlying135 Try.underlying270 Try.cellsVol rfl rfl rfl Try.underlying2 Try.underlying2 Try.underlying2 Try.cellsInt Try.cellsInt Try.cellsInt hy21
  have sf1 : FoAt W false 0 W.heap.size an1 nn1 cn1 ab1 nb1 cb1 Kf1 (ns1, bs1) := ⟨sn1, sbk1, fun hx => by cases hx⟩
  clear hA0 hval0
  refine (lawSamePools _ _ _ _ _ _ _ _ _ _ _ _ _ _ _ _ _ _ _ _ (ns0, bs0) (ns1, bs1) vs0 vs1 W sf0 sv0 sf1 sv1 hnf0 hmf0 hKf0 hvf0 hnf1 hmf1 hKf1 hvf1).mono fun e W' ⟨he, bel⟩ => ?_
  subst he
  exact ⟨_, rfl, _, _, _, [], _, [], hW', trodAll_mk1 (shut_bool Try.underlying4 _), (trodAll_cons_mk (Below.trod Try.laidOut (by kernel_rfl) (of_decide_eq_true (by kernel_rfl)) k0 bel lt0) (trodAll_cons_mk (Below.trod Try.laidOut (by kernel_rfl) (of_decide_eq_true (by kernel_rfl)) k1 bel lt1) trodAll_mk0)), rfl, bel.frame _, fun h => by cases h⟩

set_option maxRecDepth 100000 in
set_option maxHeartbeats 0 in
theorem closedSamePools : joinedFacts Try.prog 35 Try.f35 Rows.fnExactSamePoolsSpec Rows.fnExactSamePoolsRow = true := by
  have q1 : (Rows.fnExactSamePoolsRow.inPlace == Try.prog.inPlace 35) = true := by rw [inPlace_at leads_is inp_is]; kernel_rfl
  have q2 : (Rows.fnExactSamePoolsRow.unfollowed == Try.prog.unfollowed 35) = true := by rw [unfollowed_at leads_is unf_is]; kernel_rfl
  have q3 : (Rows.fnExactSamePoolsRow.recurses == Try.prog.recurses 35) = true := (by rw [recurses_unf leads_is (by rw [unfollowed_at leads_is unf_is]; kernel_rfl)]; rfl)
  have q4 : (Rows.fnExactSamePoolsRow.named == Try.prog.varsNamed 35) = true := by rw [varsNamed_at leads_is var_ok ent_is]; kernel_rfl
  have q5 : (Try.prog.make == some Rows.fnExactSamePoolsRow.make) = true := by rw [made_cut]; rfl
  have q6 : (Rows.fnExactSamePoolsRow.lifted == Try.prog.liftsFinal) = true := by rw [lifts_no]; rfl
  have q7 : Try.prog.mayEnter = true := may_enter
  have q8 : laidOutB Try.prog = true := Try.laidOut
  unfold joinedFacts
  repeat' (with_reducible refine Bool.and_eq_true_iff.2 ⟨?_, ?_⟩)
  all_goals (first | with_reducible exact q1 | with_reducible exact q2 | with_reducible exact q3 | with_reducible exact q4 | with_reducible exact q5 | with_reducible exact q6 | with_reducible exact q7 | with_reducible exact q8 | (as_aux_lemma => kernel_rfl))

theorem samePools_holds : Rows.FnExactSamePoolsSaid :=
  OpenClaim.holds_of_wide 35 Try.f35 rfl rfl rfl rfl rfl rfl rfl ⟨rfl, rfl, rfl, rfl, rfl⟩ rfl rfl rfl rfl rfl (by as_aux_lemma => kernel_rfl) Try.func35 closedSamePools
    (of_decide_eq_true (by as_aux_lemma => kernel_rfl)) (by unfold Func.isWrapper; first | (rw [if_pos (by decide +kernel)]; kernel_rfl) | (rw [if_neg (by decide +kernel)]; exact ⟨rfl, rfl⟩))
    (fun os started H enc _ => liftedSamePools os started H enc)

#print axioms samePools_holds

end Go.Proofs.Ytkdaphfmhdkhfaa
