/- At every forest and root and at' the program's ClearTree answers as its model does, field by field, writes into no argument and owns what it answers: the law FnExactClearTree is true at every argument, with no condition. -/
import Derived.Test.YtkdaphfmhdkhfaaRows
import Derived.Test.YtkdaphfmhdkhfaaZH
import Derived.Test.YtkdaphfmhdkhfaaZX
import Derived.Test.YtkdaphfmhdkhfaaZM
import Derived.Test.YtkdaphfmhdkhfaaZR
namespace Go.Proofs.Ytkdaphfmhdkhfaa
open Go.RowKit

theorem fo_lens {w : World} {o : Bool} {l u : Nat} {an : Option Addr} {nn cn : Nat} {ab : Option Addr} {nb cb : Nat} {K : Nat → KS} {f : Fo} (h : FoAt w o l u an nn cn ab nb cb K f) {N : Nat} (hk : kl f.1 nn ≤ N) : ∀ i, i < nn → (K i).2.1 ≤ N := fun i hi => by
  have h1 := h.nodes.nKids hi
  have h2 := kl_at (ns := f.1) (i := i) (by rw [h.nodes.len]; exact hi)
  rw [h.nodes.len] at h2
  omega

set_option maxRecDepth 20000 in
set_option maxHeartbeats 8000000 in
theorem lawClearTree {o0 : Bool} (an : Option Addr) (nn cn : Nat) (ab : Option Addr) (nb cb : Nat) (K : Nat → KS) (f : Fo) (root : Int) (at' : Int) (w : World) (h0 : FoAt w o0 0 w.heap.size an nn cn ab nb cb K f) (hn : nn ≤ maxLen) (hm : nb ≤ maxLen) (hK : ∀ i, i < nn → (K i).2.1 ≤ maxLen) :
    Calls Try.prog 26 #[.agg #[.slice an nn cn, .slice ab nb cb], .int .i64 root, .int .i64 at'] w fun e w' => e = .returned (.bool true) ∧ Below w.heap.size w w' := by
  have B : Below w.heap.size w w := Below.refl _ _
  obtain ⟨cd, hcd⟩ : ∃ cd, clearTCode f root at' = cd := ⟨_, rfl⟩
  obtain ⟨rt, hrt⟩ : ∃ rt, clearRootT f root at' = rt := ⟨_, rfl⟩
  obtain ⟨g, hg⟩ : ∃ g, clearFo f root at' = g := ⟨_, rfl⟩
  obtain ⟨hg1, hg2, hg3⟩ : Lesser g := by rw [← hg]; exact clear_size f root at'
  have Hcd : Hid _ := hcd
  have Hrt : Hid _ := hrt
  have Hg : Hid _ := hg
  clear hcd hrt hg
  go_enter Try.func26, Try.ntmps26
  go_wp2_with fail
  have A1 : Below w.heap.size w (w.alloc (.cells #[.slice an nn cn, .slice ab nb cb] 120)) := (Below.refl _ _).alloc (Nat.le_refl _) _
  replace B := below_next B A1
  have S2 := A1.size
  clear A1
  have E2 : w.heap.size + 1 ≤ (w.alloc (.cells #[.slice an nn cn, .slice ab nb cb] 120)).heap.size := by simp
  have fb0 : (w.alloc (.cells #[.slice an nn cn, .slice ab nb cb] 120)).cell? ⟨w.heap.size, 0, none⟩ = some (.slice an nn cn) := by simp
  have fb1 : (w.alloc (.cells #[.slice an nn cn, .slice ab nb cb] 120)).cell? ⟨w.heap.size, 1, none⟩ = some (.slice ab nb cb) := by simp
  have lfb : w.heap.size < (w.alloc (.cells #[.slice an nn cn, .slice ab nb cb] 120)).heap.size := by simp
  go_wp2_with fail
  refine (szForest_any an nn cn ab nb cb K f _ (by exact h0.below B) hn hm hK).mono ?_
  rintro e w1 ⟨r, rfl, hb, hr⟩
  replace fb0 := cell_later hb fb0
  replace fb1 := cell_later hb fb1
  replace lfb := Nat.lt_of_lt_of_le lfb hb.size
  replace B := below_next B hb
  have S3 := hb.size
  clear hb
  rcases hr with hr | ⟨hr, hsz⟩
  · go_wp2
    go_ret
    exact ⟨rfl, B⟩
  have hr' : ¬ r < 0 := by omega
  have hn1 : nn ≤ 1048576 := by omega
  have hm1 : nb ≤ 1048576 := by omega
  have hkl : kl f.1 nn ≤ 1048576 := by omega
  have hn2 : nn ≤ 2097152 := by omega
  have hm2 : nb ≤ 2097152 := by omega
  have hkl2 : kl f.1 nn ≤ 2097152 := by omega
  have hmk : kOf f.1 1 nn ≤ 4194304 := by unfold kOf; omega
  have HK1 : Hid _ := fo_lens h0 hkl
  clear hr hsz
  go_wp2_with fail
  refine (toForest_any an nn cn ab nb cb K f _ (by exact h0.below B) hn1 hm1 HK1.out).mono ?_
  rintro e w2 ⟨tn, tb, tK, rfl, rT, hb⟩
  replace fb0 := cell_later hb fb0
  replace fb1 := cell_later hb fb1
  replace lfb := Nat.lt_of_lt_of_le lfb hb.size
  replace B := below_next B hb
  have S4 := hb.size
  clear hb
  go_wp2_with fail
  refine (specClearT_is tn nn nn tb nb nb tK f _ rT hn2 hm2 (fo_lens rT hkl2) root at' cd rt g Hcd.out Hrt.out Hg.out).mono ?_
  rintro e w3 ⟨pn, p1, p2, pb, p3, p4, pK, rfl, dP, hb⟩
  replace fb0 := cell_later hb fb0
  replace fb1 := cell_later hb fb1
  replace lfb := Nat.lt_of_lt_of_le lfb hb.size
  replace B := below_next B hb
  have S5 := hb.size
  clear hb
  have pL : p1 ≤ 2097152 := by rw [← dP.nodes.len]; omega
  have pM : p3 ≤ 2097152 := by rw [← dP.blocks.nPairs]; omega
  have pX : kl g.1 p1 ≤ 1048576 := by rw [← dP.nodes.len]; exact hg3
  have pY : kOf g.1 1 p1 ≤ 4194304 := by have := dP.nodes.len; unfold kOf; omega
  clear rT
  go_wp2_with fail
  have A6 : Below w3.heap.size w3 (w3.alloc (.cells #[.int .i64 cd, .int .i64 rt, .slice pn p1 p2, .slice pb p3 p4] 64)) := (Below.refl _ _).alloc (Nat.le_refl _) _
  replace fb0 := cell_later A6 fb0
  replace fb1 := cell_later A6 fb1
  replace dP := dP.below A6
  replace lfb := Nat.lt_of_lt_of_le lfb A6.size
  replace B := below_next B A6
  have S7 := A6.size
  clear A6
  have E7 : w3.heap.size + 1 ≤ (w3.alloc (.cells #[.int .i64 cd, .int .i64 rt, .slice pn p1 p2, .slice pb p3 p4] 64)).heap.size := by simp
  have pb0 : (w3.alloc (.cells #[.int .i64 cd, .int .i64 rt, .slice pn p1 p2, .slice pb p3 p4] 64)).cell? ⟨w3.heap.size, 0, none⟩ = some (.int .i64 cd) := by simp
  have pb1 : (w3.alloc (.cells #[.int .i64 cd, .int .i64 rt, .slice pn p1 p2, .slice pb p3 p4] 64)).cell? ⟨w3.heap.size, 1, none⟩ = some (.int .i64 rt) := by simp
  have pb2 : (w3.alloc (.cells #[.int .i64 cd, .int .i64 rt, .slice pn p1 p2, .slice pb p3 p4] 64)).cell? ⟨w3.heap.size, 2, none⟩ = some (.slice pn p1 p2) := by simp
  have pb3 : (w3.alloc (.cells #[.int .i64 cd, .int .i64 rt, .slice pn p1 p2, .slice pb p3 p4] 64)).cell? ⟨w3.heap.size, 3, none⟩ = some (.slice pb p3 p4) := by simp
  have lpb : w3.heap.size < (w3.alloc (.cells #[.int .i64 cd, .int .i64 rt, .slice pn p1 p2, .slice pb p3 p4] 64)).heap.size := by simp
  go_wp2_with fail
  refine (toForest_any an nn cn ab nb cb K f _ (by exact h0.below B) hn1 hm1 HK1.out).mono ?_
  rintro e w4 ⟨xn, xb, xK, rfl, rX, hb⟩
  replace fb0 := cell_later hb fb0
  replace fb1 := cell_later hb fb1
  replace pb0 := cell_later hb pb0
  replace pb1 := cell_later hb pb1
  replace pb2 := cell_later hb pb2
  replace pb3 := cell_later hb pb3
  replace dP := dP.below hb
  replace lfb := Nat.lt_of_lt_of_le lfb hb.size
  replace lpb := Nat.lt_of_lt_of_le lpb hb.size
  replace B := below_next B hb
  have S8 := hb.size
  clear hb
  go_wp2_with fail
  have A9 : Below w4.heap.size w4 (w4.alloc (.cells #[.slice xn nn nn, .slice xb nb nb] 60)) := (Below.refl _ _).alloc (Nat.le_refl _) _
  replace fb0 := cell_later A9 fb0
  replace fb1 := cell_later A9 fb1
  replace pb0 := cell_later A9 pb0
  replace pb1 := cell_later A9 pb1
  replace pb2 := cell_later A9 pb2
  replace pb3 := cell_later A9 pb3
  replace dP := dP.below A9
  replace rX := rX.below A9
  replace lfb := Nat.lt_of_lt_of_le lfb A9.size
  replace lpb := Nat.lt_of_lt_of_le lpb A9.size
  replace B := below_next B A9
  have S10 := A9.size
  clear A9
  have E10 : w4.heap.size + 1 ≤ (w4.alloc (.cells #[.slice xn nn nn, .slice xb nb nb] 60)).heap.size := by simp
  have xx0 : (w4.alloc (.cells #[.slice xn nn nn, .slice xb nb nb] 60)).cell? ⟨w4.heap.size, 0, none⟩ = some (.slice xn nn nn) := by simp
  have xx1 : (w4.alloc (.cells #[.slice xn nn nn, .slice xb nb nb] 60)).cell? ⟨w4.heap.size, 1, none⟩ = some (.slice xb nb nb) := by simp
  have lxx : w4.heap.size < (w4.alloc (.cells #[.slice xn nn nn, .slice xb nb nb] 60)).heap.size := by simp
  go_wp2_with fail
  refine (implClearT_is xn nn nn xb nb nb xK f _ rX hn2 hm2 (fo_lens rX hkl2) root at' cd rt g Hcd.out Hrt.out Hg.out).mono ?_
  rintro e w5 ⟨qn, q1, q2, qb, q3, q4, qK, rfl, dQ, hb⟩
  replace fb0 := cell_later hb fb0
  replace fb1 := cell_later hb fb1
  replace pb0 := cell_later hb pb0
  replace pb1 := cell_later hb pb1
  replace pb2 := cell_later hb pb2
  replace pb3 := cell_later hb pb3
  replace xx0 := cell_later hb xx0
  replace xx1 := cell_later hb xx1
  replace dP := dP.below hb
  replace rX := rX.below hb
  replace lfb := Nat.lt_of_lt_of_le lfb hb.size
  replace lpb := Nat.lt_of_lt_of_le lpb hb.size
  replace lxx := Nat.lt_of_lt_of_le lxx hb.size
  replace B := below_next B hb
  have S11 := hb.size
  clear hb
  have qL : q1 ≤ 2097152 := by rw [← dQ.nodes.len]; omega
  have qM : q3 ≤ 2097152 := by rw [← dQ.blocks.nPairs]; omega
  have qX : kl g.1 q1 ≤ 1048576 := by rw [← dQ.nodes.len]; exact hg3
  have qY : kOf g.1 1 q1 ≤ 4194304 := by have := dQ.nodes.len; unfold kOf; omega
  go_wp2_with fail
  have A12 : Below w5.heap.size w5 (w5.alloc (.cells #[.int .i64 cd, .int .i64 rt, .slice qn q1 q2, .slice qb q3 q4] 64)) := (Below.refl _ _).alloc (Nat.le_refl _) _
  replace fb0 := cell_later A12 fb0
  replace fb1 := cell_later A12 fb1
  replace pb0 := cell_later A12 pb0
  replace pb1 := cell_later A12 pb1
  replace pb2 := cell_later A12 pb2
  replace pb3 := cell_later A12 pb3
  replace xx0 := cell_later A12 xx0
  replace xx1 := cell_later A12 xx1
  replace dP := dP.below A12
  replace rX := rX.below A12
  replace dQ := dQ.below A12
  replace lfb := Nat.lt_of_lt_of_le lfb A12.size
  replace lpb := Nat.lt_of_lt_of_le lpb A12.size
  replace lxx := Nat.lt_of_lt_of_le lxx A12.size
  replace B := below_next B A12
  have S13 := A12.size
  clear A12
  have E13 : w5.heap.size + 1 ≤ (w5.alloc (.cells #[.int .i64 cd, .int .i64 rt, .slice qn q1 q2, .slice qb q3 q4] 64)).heap.size := by simp
  have qb0 : (w5.alloc (.cells #[.int .i64 cd, .int .i64 rt, .slice qn q1 q2, .slice qb q3 q4] 64)).cell? ⟨w5.heap.size, 0, none⟩ = some (.int .i64 cd) := by simp
  have qb1 : (w5.alloc (.cells #[.int .i64 cd, .int .i64 rt, .slice qn q1 q2, .slice qb q3 q4] 64)).cell? ⟨w5.heap.size, 1, none⟩ = some (.int .i64 rt) := by simp
  have qb2 : (w5.alloc (.cells #[.int .i64 cd, .int .i64 rt, .slice qn q1 q2, .slice qb q3 q4] 64)).cell? ⟨w5.heap.size, 2, none⟩ = some (.slice qn q1 q2) := by simp
  have qb3 : (w5.alloc (.cells #[.int .i64 cd, .int .i64 rt, .slice qn q1 q2, .slice qb q3 q4] 64)).cell? ⟨w5.heap.size, 3, none⟩ = some (.slice qb q3 q4) := by simp
  have lqb : w5.heap.size < (w5.alloc (.cells #[.int .i64 cd, .int .i64 rt, .slice qn q1 q2, .slice qb q3 q4] 64)).heap.size := by simp
  go_wp2_with fail
  refine (eqFRes_yes cd rt _ _ _ _ _ _ _ _ _ _ _ _ qK pK g _ dQ dP qL qM (fo_lens dQ (Nat.le_trans qX (by omega)))).mono ?_
  rintro e w6 ⟨rfl, hb⟩
  replace fb0 := cell_later hb fb0
  replace fb1 := cell_later hb fb1
  replace pb0 := cell_later hb pb0
  replace pb1 := cell_later hb pb1
  replace pb2 := cell_later hb pb2
  replace pb3 := cell_later hb pb3
  replace xx0 := cell_later hb xx0
  replace xx1 := cell_later hb xx1
  replace qb0 := cell_later hb qb0
  replace qb1 := cell_later hb qb1
  replace qb2 := cell_later hb qb2
  replace qb3 := cell_later hb qb3
  replace dP := dP.below hb
  replace rX := rX.below hb
  replace dQ := dQ.below hb
  replace lfb := Nat.lt_of_lt_of_le lfb hb.size
  replace lpb := Nat.lt_of_lt_of_le lpb hb.size
  replace lxx := Nat.lt_of_lt_of_le lxx hb.size
  replace lqb := Nat.lt_of_lt_of_le lqb hb.size
  replace B := below_next B hb
  have S14 := hb.size
  clear hb
  have D7 : Below w6.heap.size w6 w6.drew := (Below.refl _ _).drew
  replace fb0 := cell_later D7 fb0
  replace fb1 := cell_later D7 fb1
  replace pb0 := cell_later D7 pb0
  replace pb1 := cell_later D7 pb1
  replace pb2 := cell_later D7 pb2
  replace pb3 := cell_later D7 pb3
  replace xx0 := cell_later D7 xx0
  replace xx1 := cell_later D7 xx1
  replace qb0 := cell_later D7 qb0
  replace qb1 := cell_later D7 qb1
  replace qb2 := cell_later D7 qb2
  replace qb3 := cell_later D7 qb3
  replace dP := dP.below D7
  replace rX := rX.below D7
  replace dQ := dQ.below D7
  replace lfb := Nat.lt_of_lt_of_le lfb D7.size
  replace lpb := Nat.lt_of_lt_of_le lpb D7.size
  replace lxx := Nat.lt_of_lt_of_le lxx D7.size
  replace lqb := Nat.lt_of_lt_of_le lqb D7.size
  replace B := below_next B D7
  have S15 := D7.size
  clear D7
  have g0 := h0.below B
  go_wp2_with fail
  go_region_held3 (fun w' => w'.cell? ⟨w.heap.size, 0, none⟩ = some (.slice an nn cn) ∧ w'.cell? ⟨w.heap.size, 1, none⟩ = some (.slice ab nb cb) ∧ w'.cell? ⟨w4.heap.size, 0, none⟩ = some (.slice xn nn nn) ∧ w'.cell? ⟨w4.heap.size, 1, none⟩ = some (.slice xb nb nb)) (exact ⟨fb0, fb1, xx0, xx1⟩)
    (first | (go_at_call 111; refine (toForest_any an nn cn ab nb cb K f _ g0 hn1 hm1 HK1.out).mono ?_; rintro e w7 ⟨yn, yb, yK, rfl, rY, hb⟩; have fb0 := cell_later hb fb0; have fb1 := cell_later hb fb1; have pb0 := cell_later hb pb0; have pb1 := cell_later hb pb1; have pb2 := cell_later hb pb2; have pb3 := cell_later hb pb3; have xx0 := cell_later hb xx0; have xx1 := cell_later hb xx1; have qb0 := cell_later hb qb0; have qb1 := cell_later hb qb1; have qb2 := cell_later hb qb2; have qb3 := cell_later hb qb3; have dP := dP.below hb; have rX := rX.below hb; have dQ := dQ.below hb; have lfb := Nat.lt_of_lt_of_le lfb hb.size; have lpb := Nat.lt_of_lt_of_le lpb hb.size; have lxx := Nat.lt_of_lt_of_le lxx hb.size; have lqb := Nat.lt_of_lt_of_le lqb hb.size; have B := below_next B hb; have S70 : w6.heap.size ≤ w7.heap.size := hb.size; clear hb) | (go_at_call 112; refine (eqForest_yes _ _ _ _ _ _ _ _ _ _ _ _ xK yK f _ rX rY hn2 hm2 (fo_lens rX hkl2)).mono ?_; rintro e w8 ⟨rfl, hb⟩; have fb0 := cell_later hb fb0; have fb1 := cell_later hb fb1; have pb0 := cell_later hb pb0; have pb1 := cell_later hb pb1; have pb2 := cell_later hb pb2; have pb3 := cell_later hb pb3; have xx0 := cell_later hb xx0; have xx1 := cell_later hb xx1; have qb0 := cell_later hb qb0; have qb1 := cell_later hb qb1; have qb2 := cell_later hb qb2; have qb3 := cell_later hb qb3; have dP := dP.below hb; have rX := rX.below hb; have dQ := dQ.below hb; have lfb := Nat.lt_of_lt_of_le lfb hb.size; have lpb := Nat.lt_of_lt_of_le lpb hb.size; have lxx := Nat.lt_of_lt_of_le lxx hb.size; have lqb := Nat.lt_of_lt_of_le lqb hb.size; have B := below_next B hb; have S71 := hb.size; clear hb rY))
  go_wp2_with fail
  refine (markForest_any xn nn nn xb nb nb xK f _ rX hmk (by omega)).mono ?_
  rintro e w9 ⟨rfl, rX', KK⟩
  replace fb0 := KK.cell fb0 (by omega)
  replace fb1 := KK.cell fb1 (by omega)
  replace pb0 := KK.cell pb0 (by omega)
  replace pb1 := KK.cell pb1 (by omega)
  replace pb2 := KK.cell pb2 (by omega)
  replace pb3 := KK.cell pb3 (by omega)
  replace xx0 := KK.cell xx0 (by omega)
  replace xx1 := KK.cell xx1 (by omega)
  replace qb0 := KK.cell qb0 (by omega)
  replace qb1 := KK.cell qb1 (by omega)
  replace qb2 := KK.cell qb2 (by omega)
  replace qb3 := KK.cell qb3 (by omega)
  replace dP := dP.kept KK (by omega)
  replace dQ := dQ.kept KK (by omega)
  replace lfb := Nat.lt_of_lt_of_le lfb KK.size
  replace lpb := Nat.lt_of_lt_of_le lpb KK.size
  replace lxx := Nat.lt_of_lt_of_le lxx KK.size
  replace lqb := Nat.lt_of_lt_of_le lqb KK.size
  replace B := B.trans (KK.below _ (by omega) (by omega))
  have S16 := KK.size
  clear rX rX' KK
  have hk : ¬ (endF f nn nb < 0) := by unfold endF kOf; omega
  go_wp2_with fail
  refine (eqFRes_yes cd rt _ _ _ _ _ _ _ _ _ _ _ _ qK pK g _ dQ dP qL qM (fo_lens dQ (Nat.le_trans qX (by omega)))).mono ?_
  rintro e w10 ⟨rfl, hb⟩
  replace fb0 := cell_later hb fb0
  replace fb1 := cell_later hb fb1
  replace pb0 := cell_later hb pb0
  replace pb1 := cell_later hb pb1
  replace pb2 := cell_later hb pb2
  replace pb3 := cell_later hb pb3
  replace xx0 := cell_later hb xx0
  replace xx1 := cell_later hb xx1
  replace qb0 := cell_later hb qb0
  replace qb1 := cell_later hb qb1
  replace qb2 := cell_later hb qb2
  replace qb3 := cell_later hb qb3
  replace dP := dP.below hb
  replace dQ := dQ.below hb
  replace lfb := Nat.lt_of_lt_of_le lfb hb.size
  replace lpb := Nat.lt_of_lt_of_le lpb hb.size
  replace lxx := Nat.lt_of_lt_of_le lxx hb.size
  replace lqb := Nat.lt_of_lt_of_le lqb hb.size
  replace B := below_next B hb
  have S17 := hb.size
  clear hb
  go_wp2_with fail
  refine (markFRes_any cd rt _ _ _ _ _ _ qK g _ dQ qY (by omega)).mono ?_
  rintro e w11 ⟨rfl, dM, KK⟩
  replace fb0 := KK.cell fb0 (by omega)
  replace fb1 := KK.cell fb1 (by omega)
  replace pb0 := KK.cell pb0 (by omega)
  replace pb1 := KK.cell pb1 (by omega)
  replace pb2 := KK.cell pb2 (by omega)
  replace pb3 := KK.cell pb3 (by omega)
  replace xx0 := KK.cell xx0 (by omega)
  replace xx1 := KK.cell xx1 (by omega)
  replace qb0 := KK.cell qb0 (by omega)
  replace qb1 := KK.cell qb1 (by omega)
  replace qb2 := KK.cell qb2 (by omega)
  replace qb3 := KK.cell qb3 (by omega)
  replace dP := dP.kept KK (by omega)
  replace lfb := Nat.lt_of_lt_of_le lfb KK.size
  replace lpb := Nat.lt_of_lt_of_le lpb KK.size
  replace lxx := Nat.lt_of_lt_of_le lxx KK.size
  replace lqb := Nat.lt_of_lt_of_le lqb KK.size
  replace B := B.trans (KK.below _ (by omega) (by omega))
  have S18 := KK.size
  clear dQ KK
  go_wp2_with fail
  refine (heldFRes_any cd rt _ _ _ _ _ _ qK g _ dM qY (by omega)).mono ?_
  rintro e w12 ⟨rfl, hb⟩
  replace fb0 := cell_later hb fb0
  replace fb1 := cell_later hb fb1
  replace pb0 := cell_later hb pb0
  replace pb1 := cell_later hb pb1
  replace pb2 := cell_later hb pb2
  replace pb3 := cell_later hb pb3
  replace xx0 := cell_later hb xx0
  replace xx1 := cell_later hb xx1
  replace qb0 := cell_later hb qb0
  replace qb1 := cell_later hb qb1
  replace qb2 := cell_later hb qb2
  replace qb3 := cell_later hb qb3
  replace dP := dP.below hb
  replace dM := dM.below hb
  replace lfb := Nat.lt_of_lt_of_le lfb hb.size
  replace lpb := Nat.lt_of_lt_of_le lpb hb.size
  replace lxx := Nat.lt_of_lt_of_le lxx hb.size
  replace lqb := Nat.lt_of_lt_of_le lqb hb.size
  replace B := below_next B hb
  have S19 := hb.size
  clear hb
  have hq : ¬ (endF g q1 q3 < 0) := by unfold endF kOf; omega
  have he : ((endF g q1 q3) != (endF g q1 q3)) = false := by simp
  go_wp2_with fail
  refine (toForest_any an nn cn ab nb cb K f _ (by exact h0.below B) hn1 hm1 HK1.out).mono ?_
  rintro e w13 ⟨tn, tb, tK, rfl, rT, hb⟩
  replace fb0 := cell_later hb fb0
  replace fb1 := cell_later hb fb1
  replace pb0 := cell_later hb pb0
  replace pb1 := cell_later hb pb1
  replace pb2 := cell_later hb pb2
  replace pb3 := cell_later hb pb3
  replace xx0 := cell_later hb xx0
  replace xx1 := cell_later hb xx1
  replace qb0 := cell_later hb qb0
  replace qb1 := cell_later hb qb1
  replace qb2 := cell_later hb qb2
  replace qb3 := cell_later hb qb3
  replace dP := dP.below hb
  replace dM := dM.below hb
  replace lfb := Nat.lt_of_lt_of_le lfb hb.size
  replace lpb := Nat.lt_of_lt_of_le lpb hb.size
  replace lxx := Nat.lt_of_lt_of_le lxx hb.size
  replace lqb := Nat.lt_of_lt_of_le lqb hb.size
  replace B := below_next B hb
  have S20 := hb.size
  clear hb
  go_wp2_with fail
  refine (implClearT_is tn nn nn tb nb nb tK f _ rT hn2 hm2 (fo_lens rT hkl2) root at' cd rt g Hcd.out Hrt.out Hg.out).mono ?_
  rintro e w14 ⟨hn, h1, h2, hb, h3, h4, hK, rfl, dH, hb⟩
  replace fb0 := cell_later hb fb0
  replace fb1 := cell_later hb fb1
  replace pb0 := cell_later hb pb0
  replace pb1 := cell_later hb pb1
  replace pb2 := cell_later hb pb2
  replace pb3 := cell_later hb pb3
  replace xx0 := cell_later hb xx0
  replace xx1 := cell_later hb xx1
  replace qb0 := cell_later hb qb0
  replace qb1 := cell_later hb qb1
  replace qb2 := cell_later hb qb2
  replace qb3 := cell_later hb qb3
  replace dP := dP.below hb
  replace dM := dM.below hb
  replace lfb := Nat.lt_of_lt_of_le lfb hb.size
  replace lpb := Nat.lt_of_lt_of_le lpb hb.size
  replace lxx := Nat.lt_of_lt_of_le lxx hb.size
  replace lqb := Nat.lt_of_lt_of_le lqb hb.size
  replace B := below_next B hb
  have S21 := hb.size
  clear hb
  have hL : h1 ≤ 2097152 := by rw [← dH.nodes.len]; omega
  have hM : h3 ≤ 2097152 := by rw [← dH.blocks.nPairs]; omega
  have hX : kl g.1 h1 ≤ 1048576 := by rw [← dH.nodes.len]; exact hg3
  have hY : kOf g.1 1 h1 ≤ 4194304 := by have := dH.nodes.len; unfold kOf; omega
  clear rT
  go_wp2_with fail
  have A22 : Below w14.heap.size w14 (w14.alloc (.cells #[.int .i64 cd, .int .i64 rt, .slice hn h1 h2, .slice hb h3 h4] 64)) := (Below.refl _ _).alloc (Nat.le_refl _) _
  replace fb0 := cell_later A22 fb0
  replace fb1 := cell_later A22 fb1
  replace pb0 := cell_later A22 pb0
  replace pb1 := cell_later A22 pb1
  replace pb2 := cell_later A22 pb2
  replace pb3 := cell_later A22 pb3
  replace xx0 := cell_later A22 xx0
  replace xx1 := cell_later A22 xx1
  replace qb0 := cell_later A22 qb0
  replace qb1 := cell_later A22 qb1
  replace qb2 := cell_later A22 qb2
  replace qb3 := cell_later A22 qb3
  replace dP := dP.below A22
  replace dM := dM.below A22
  replace dH := dH.below A22
  replace lfb := Nat.lt_of_lt_of_le lfb A22.size
  replace lpb := Nat.lt_of_lt_of_le lpb A22.size
  replace lxx := Nat.lt_of_lt_of_le lxx A22.size
  replace lqb := Nat.lt_of_lt_of_le lqb A22.size
  replace B := below_next B A22
  have S23 := A22.size
  clear A22
  have E23 : w14.heap.size + 1 ≤ (w14.alloc (.cells #[.int .i64 cd, .int .i64 rt, .slice hn h1 h2, .slice hb h3 h4] 64)).heap.size := by simp
  have hb0 : (w14.alloc (.cells #[.int .i64 cd, .int .i64 rt, .slice hn h1 h2, .slice hb h3 h4] 64)).cell? ⟨w14.heap.size, 0, none⟩ = some (.int .i64 cd) := by simp
  have hb1 : (w14.alloc (.cells #[.int .i64 cd, .int .i64 rt, .slice hn h1 h2, .slice hb h3 h4] 64)).cell? ⟨w14.heap.size, 1, none⟩ = some (.int .i64 rt) := by simp
  have hb2 : (w14.alloc (.cells #[.int .i64 cd, .int .i64 rt, .slice hn h1 h2, .slice hb h3 h4] 64)).cell? ⟨w14.heap.size, 2, none⟩ = some (.slice hn h1 h2) := by simp
  have hb3 : (w14.alloc (.cells #[.int .i64 cd, .int .i64 rt, .slice hn h1 h2, .slice hb h3 h4] 64)).cell? ⟨w14.heap.size, 3, none⟩ = some (.slice hb h3 h4) := by simp
  have lhb : w14.heap.size < (w14.alloc (.cells #[.int .i64 cd, .int .i64 rt, .slice hn h1 h2, .slice hb h3 h4] 64)).heap.size := by simp
  go_wp2_with fail
  refine (eqFRes_yes cd rt _ _ _ _ _ _ _ _ _ _ _ _ hK pK g _ dH dP hL hM (fo_lens dH (Nat.le_trans hX (by omega)))).mono ?_
  rintro e w15 ⟨rfl, hb⟩
  replace fb0 := cell_later hb fb0
  replace fb1 := cell_later hb fb1
  replace pb0 := cell_later hb pb0
  replace pb1 := cell_later hb pb1
  replace pb2 := cell_later hb pb2
  replace pb3 := cell_later hb pb3
  replace xx0 := cell_later hb xx0
  replace xx1 := cell_later hb xx1
  replace qb0 := cell_later hb qb0
  replace qb1 := cell_later hb qb1
  replace qb2 := cell_later hb qb2
  replace qb3 := cell_later hb qb3
  replace hb0 := cell_later hb hb0
  replace hb1 := cell_later hb hb1
  replace hb2 := cell_later hb hb2
  replace hb3 := cell_later hb hb3
  replace dP := dP.below hb
  replace dM := dM.below hb
  replace dH := dH.below hb
  replace lfb := Nat.lt_of_lt_of_le lfb hb.size
  replace lpb := Nat.lt_of_lt_of_le lpb hb.size
  replace lxx := Nat.lt_of_lt_of_le lxx hb.size
  replace lqb := Nat.lt_of_lt_of_le lqb hb.size
  replace lhb := Nat.lt_of_lt_of_le lhb hb.size
  replace B := below_next B hb
  have S24 := hb.size
  clear hb
  go_wp2_with fail
  refine (heldFRes_any cd rt _ _ _ _ _ _ qK g _ dM qY (by omega)).mono ?_
  rintro e w16 ⟨rfl, hb⟩
  replace fb0 := cell_later hb fb0
  replace fb1 := cell_later hb fb1
  replace pb0 := cell_later hb pb0
  replace pb1 := cell_later hb pb1
  replace pb2 := cell_later hb pb2
  replace pb3 := cell_later hb pb3
  replace xx0 := cell_later hb xx0
  replace xx1 := cell_later hb xx1
  replace qb0 := cell_later hb qb0
  replace qb1 := cell_later hb qb1
  replace qb2 := cell_later hb qb2
  replace qb3 := cell_later hb qb3
  replace hb0 := cell_later hb hb0
  replace hb1 := cell_later hb hb1
  replace hb2 := cell_later hb hb2
  replace hb3 := cell_later hb hb3
  replace dP := dP.below hb
  replace dM := dM.below hb
  replace dH := dH.below hb
  replace lfb := Nat.lt_of_lt_of_le lfb hb.size
  replace lpb := Nat.lt_of_lt_of_le lpb hb.size
  replace lxx := Nat.lt_of_lt_of_le lxx hb.size
  replace lqb := Nat.lt_of_lt_of_le lqb hb.size
  replace lhb := Nat.lt_of_lt_of_le lhb hb.size
  replace B := below_next B hb
  have S25 := hb.size
  clear hb
  go_wp2
  go_ret
  exact ⟨rfl, B⟩

open Go.ChangeShapes Go.WideShapes Go.ChangeAt Go.Joins

set_option maxRecDepth 100000 in
theorem liftedClearTree (os : Os) (started : os.Started) (H : Type) (enc : TypeId × Value → H) :
    ReturnsInHanded {} Try.checked os 26 .any (Rows.fnExactClearTreeSpec.pre6 enc Try.prog Try.f26 Rows.fnExactClearTreeRow.domain false) (Rows.fnExactClearTreeSpec.post enc Try.prog Try.f26 false true false false) := by
  refine returnsInHanded_of_change (C := Try.checked) Try.own started (by kernel_rfl) Try.func26
    (ChangeSpec.witness6 (enc := enc) (C := Try.checked) false ⟨#[], #[.agg #[.slice none 0 0, .slice none 0 0], .int .i64 0, .int .i64 0], []⟩ 8 (by kernel_rfl) (by kernel_rfl) (by kernel_rfl) (by kernel_rfl)) ?_
  intro W base args ds gs before hval0 hW hcnd _
  have hval : ∀ (j : Nat) t v, Try.f26.params[j]? = some t → args[j]? = some v → Value.okWide Try.prog W .any base t v := hval0
  have hW' := hW
  obtain ⟨p, q, hA0, hV, rfl, hfz, hnd⟩ := hW
  have hA : DataW.TrodAll enc Try.prog W 0 (fun _ => true) true Try.f26.params.toList args.toList ds p := hA0
  rw [Try.params26] at hA hval
  obtain ⟨v0, vs0, d0, ds0, p0, q0, hargs, rfl, rfl, h0, r0⟩ := trodAll_cons hA
  obtain ⟨v1, vs1, d1, ds1, p1, q1, rfl, rfl, rfl, h1, r1⟩ := trodAll_cons r0
  obtain ⟨v2, vs2, d2, ds2, p2, q2, rfl, rfl, rfl, h2, r2⟩ := trodAll_cons r1
  obtain ⟨rfl, rfl, rfl⟩ := trodAll_nil r2
  obtain rfl : args = #[v0, v1, v2] := by cases args; simp_all
  obtain ⟨rfl, rfl⟩ := trodVars_none hV
  have lt0 : ∀ x ∈ p0, x.block < W.heap.size := by obtain ⟨m, hm⟩ := h0; exact DataW.trod_lt m _ _ _ hm
  have k0 := h0
  obtain ⟨e0, e1, y0, y1, m, rfl, _, _, hy0, hy1⟩ := open_agg2 Try.underlying120 (by kernel_rfl) Try.cellsForest (hval 0 120 v0 rfl rfl) h0
  obtain ⟨an, nn, cn, Kf, ns, rfl, hnf, hKf, sn⟩ := read_nodes Try.underlying118 Try.underlying263 Try.cellsNode rfl rfl rfl Try.underlying2 Try.underlying4 Try.underlying24 Try.underlying2 Try.cellsInt Try.cellsBool Try.cellsInts Try.cellsInt hy0
  obtain ⟨ab, nb, cb, bs, rfl, hmf, sbk⟩ := read_pairs Try.underlying108 Try.underlying205 Try.cellsBlock rfl rfl Try.underlying2 Try.underlying2 Try.cellsInt Try.cellsInt hy1
  have sf : FoAt W false 0 W.heap.size an nn cn ab nb cb Kf (ns, bs) := ⟨sn, sbk, fun hx => by cases hx⟩
  obtain ⟨x1, rfl, rfl, rfl, wx1⟩ := open_int Try.underlying2 (hval 1 2 v1 rfl rfl) h1
  obtain ⟨x2, rfl, rfl, rfl, wx2⟩ := open_int Try.underlying2 (hval 2 2 v2 rfl rfl) h2
  clear hA0 hval0
  refine (lawClearTree _ _ _ _ _ _ Kf (ns, bs) x1 x2 W sf hnf hmf hKf).mono fun e W' ⟨he, bel⟩ => ?_
  subst he
  exact ⟨_, rfl, _, _, _, [], _, [], hW', trodAll_mk1 (shut_bool Try.underlying4 _), (trodAll_cons_mk (Below.trod Try.laidOut (by kernel_rfl) (of_decide_eq_true (by kernel_rfl)) k0 bel lt0) (trodAll_cons_mk (shut_int Try.underlying2 wx1) (trodAll_cons_mk (shut_int Try.underlying2 wx2) trodAll_mk0))), rfl, bel.frame _, fun h => by cases h⟩

set_option maxRecDepth 100000 in
set_option maxHeartbeats 0 in
theorem closedClearTree : joinedFacts Try.prog 26 Try.f26 Rows.fnExactClearTreeSpec Rows.fnExactClearTreeRow = true := by
  have q1 : (Rows.fnExactClearTreeRow.inPlace == Try.prog.inPlace 26) = true := by rw [inPlace_at leads_is inp_is]; kernel_rfl
  have q2 : (Rows.fnExactClearTreeRow.unfollowed == Try.prog.unfollowed 26) = true := by rw [unfollowed_at leads_is unf_is]; kernel_rfl
  have q3 : (Rows.fnExactClearTreeRow.recurses == Try.prog.recurses 26) = true := (by rw [recurses_yes leads_is (g := 174) (x := 240) (by kernel_rfl) (by kernel_rfl) (by kernel_rfl)]; rfl)
  have q4 : (Rows.fnExactClearTreeRow.named == Try.prog.varsNamed 26) = true := by rw [varsNamed_at leads_is var_ok ent_is]; kernel_rfl
  have q5 : (Try.prog.make == some Rows.fnExactClearTreeRow.make) = true := by rw [made_cut]; rfl
  have q6 : (Rows.fnExactClearTreeRow.lifted == Try.prog.liftsFinal) = true := by rw [lifts_no]; rfl
  have q7 : Try.prog.mayEnter = true := may_enter
  have q8 : laidOutB Try.prog = true := Try.laidOut
  unfold joinedFacts
  repeat' (with_reducible refine Bool.and_eq_true_iff.2 ⟨?_, ?_⟩)
  all_goals (first | with_reducible exact q1 | with_reducible exact q2 | with_reducible exact q3 | with_reducible exact q4 | with_reducible exact q5 | with_reducible exact q6 | with_reducible exact q7 | with_reducible exact q8 | (as_aux_lemma => kernel_rfl))

theorem clearTree_holds : Rows.FnExactClearTreeSaid :=
  OpenClaim.holds_of_wide 26 Try.f26 rfl rfl rfl rfl rfl rfl rfl ⟨rfl, rfl, rfl, rfl, rfl⟩ rfl rfl rfl rfl rfl (by as_aux_lemma => kernel_rfl) Try.func26 closedClearTree
    (of_decide_eq_true (by as_aux_lemma => kernel_rfl)) (by unfold Func.isWrapper; first | (rw [if_pos (by decide +kernel)]; kernel_rfl) | (rw [if_neg (by decide +kernel)]; exact ⟨rfl, rfl⟩))
    (fun os started H enc _ => liftedClearTree os started H enc)

#print axioms clearTree_holds
end Go.Proofs.Ytkdaphfmhdkhfaa
