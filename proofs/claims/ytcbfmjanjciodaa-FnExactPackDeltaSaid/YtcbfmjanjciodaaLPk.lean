/- At every difference the program's PackDelta answers as its model does, field by field, writes into no argument and owns what it answers: the law FnExactPackDelta is true at every argument, with no condition. -/
import Derived.Test.YtcbfmjanjciodaaEX
import Derived.Test.YtcbfmjanjciodaaRows
import Derived.Test.YtcbfmjanjciodaaYR
import Derived.Test.YtcbfmjanjciodaaYT
import Derived.Test.YtcbfmjanjciodaaAll
import Derived.Test.YtcbfmjanjciodaaYO
namespace Go.Proofs.Ytcbfmjanjciodaa
open Go.RowKit

theorem de_of {w : World} {o : Bool} {lo mid hi : Nat} {av : Option Addr} {nv cv : Nat} {aq : Option Addr} {nq cq : Nat} {vs : List Vo} {ss : List St} (hv : RowAt w o lo mid 3 av nv cv (trips vs)) (hs : RowAt w o mid hi 4 aq nq cq (quads ss)) (h1 : lo ≤ mid) (h2 : mid ≤ hi) : DeAt w o lo hi av nv cv aq nq cq vs ss := ⟨hv.widen (Nat.le_refl _) h2, hs.widen h1 (Nat.le_refl _)⟩
theorem packL_len (fr tt : Int) (vs : List Vo) (ss : List St) : (packL fr tt vs ss).length ≤ 1000 := by
  unfold packL
  split
  case isTrue h => have := de_ok h; rw [packW_len]; omega
  case isFalse => exact Nat.zero_le _

set_option maxRecDepth 20000 in
set_option maxHeartbeats 8000000 in
theorem lawPackDelta {o : Bool} (fr tt : Int) (av : Option Addr) (nv cv : Nat) (aq : Option Addr) (nq cq : Nat) (vs : List Vo) (ss : List St) (w : World) (h : DeAt w o 0 w.heap.size av nv cv aq nq cq vs ss) (z1 : nv ≤ maxLen) (z2 : nq ≤ maxLen) :
    Calls Try.prog 11 #[.agg #[.int .i64 fr, .int .i64 tt, .slice av nv cv, .slice aq nq cq]] w fun e w' => e = .returned (.bool true) ∧ Below w.heap.size w w' := by
  have B : Below w.heap.size w w := Below.refl _ _
  obtain ⟨cd, hcd⟩ : ∃ cd, deFault fr tt vs ss = cd := ⟨_, rfl⟩
  obtain ⟨ys, hys⟩ : ∃ ys, packL fr tt vs ss = ys := ⟨_, rfl⟩
  have hb2 : ys.length ≤ 1000 := by rw [← hys]; exact packL_len _ _ _ _
  have Hcd : Hid _ := hcd
  have Hys : Hid _ := hys
  clear hcd hys
  go_enter Try.func11, Try.ntmps11
  go_wp2_with fail
  have A1 : Below w.heap.size w (w.alloc (.cells #[.int .i64 fr, .int .i64 tt, .slice av nv cv, .slice aq nq cq] 73)) := (Below.refl _ _).alloc (Nat.le_refl _) _
  replace B := below_next B A1
  have S2 := A1.size
  clear A1
  have E2 : w.heap.size + 1 ≤ (w.alloc (.cells #[.int .i64 fr, .int .i64 tt, .slice av nv cv, .slice aq nq cq] 73)).heap.size := by simp
  have fb0 : (w.alloc (.cells #[.int .i64 fr, .int .i64 tt, .slice av nv cv, .slice aq nq cq] 73)).cell? ⟨w.heap.size, 0, none⟩ = some (.int .i64 fr) := by simp
  have fb1 : (w.alloc (.cells #[.int .i64 fr, .int .i64 tt, .slice av nv cv, .slice aq nq cq] 73)).cell? ⟨w.heap.size, 1, none⟩ = some (.int .i64 tt) := by simp
  have fb2 : (w.alloc (.cells #[.int .i64 fr, .int .i64 tt, .slice av nv cv, .slice aq nq cq] 73)).cell? ⟨w.heap.size, 2, none⟩ = some (.slice av nv cv) := by simp
  have fb3 : (w.alloc (.cells #[.int .i64 fr, .int .i64 tt, .slice av nv cv, .slice aq nq cq] 73)).cell? ⟨w.heap.size, 3, none⟩ = some (.slice aq nq cq) := by simp
  have lfb : w.heap.size < (w.alloc (.cells #[.int .i64 fr, .int .i64 tt, .slice av nv cv, .slice aq nq cq] 73)).heap.size := by simp
  go_wp2_with fail
  refine (szDelta_left fr tt av nv cv aq nq cq 1048576 _ z1 z2 (by omega) (by omega)).mono ?_
  rintro e w1 ⟨r, rfl, hb, hr⟩
  replace fb0 := cell_later hb fb0
  replace fb1 := cell_later hb fb1
  replace fb2 := cell_later hb fb2
  replace fb3 := cell_later hb fb3
  replace lfb := Nat.lt_of_lt_of_le lfb hb.size
  replace B := below_next B hb
  have S3 := hb.size
  clear hb
  rcases hr with hr | ⟨hr, hsz⟩
  · go_wp2
    go_ret
    exact ⟨rfl, B⟩
  have hr' : ¬ r < 0 := by omega
  have q1 : nv ≤ 1048576 := by omega
  have q2 : nq ≤ 1048576 := by omega
  have p1 : nv ≤ 2097152 := by omega
  have p2 : nq ≤ 2097152 := by omega
  clear hr hsz
  go_wp2_with fail
  refine (toDelta_two fr tt av nv cv aq nq cq vs ss _ (by exact h.below B) q1 q2).mono ?_
  rintro e w2 ⟨ta, tb, tc, td, tm, rfl, vt, st, m1t, m2t, hb⟩
  replace fb0 := cell_later hb fb0
  replace fb1 := cell_later hb fb1
  replace fb2 := cell_later hb fb2
  replace fb3 := cell_later hb fb3
  replace lfb := Nat.lt_of_lt_of_le lfb hb.size
  replace B := below_next B hb
  have S4 := hb.size
  clear hb
  go_wp2_with fail
  refine (specPack_is fr tt ta nv tb tc nq td vs ss _ (de_of vt st m1t m2t) p1 p2 cd ys Hcd.out Hys.out).mono ?_
  rintro e w3 ⟨pa, pn, pc, rfl, dP, hb⟩
  replace fb0 := cell_later hb fb0
  replace fb1 := cell_later hb fb1
  replace fb2 := cell_later hb fb2
  replace fb3 := cell_later hb fb3
  replace lfb := Nat.lt_of_lt_of_le lfb hb.size
  replace B := below_next B hb
  have S5 := hb.size
  clear hb
  have pL : pn ≤ 2097152 := by rw [← dP.nInts]; omega
  clear vt st m1t m2t
  go_wp2_with fail
  have A6 : Below w3.heap.size w3 (w3.alloc (.cells #[.int .i64 cd, .slice pa pn pc] 92)) := (Below.refl _ _).alloc (Nat.le_refl _) _
  replace fb0 := cell_later A6 fb0
  replace fb1 := cell_later A6 fb1
  replace fb2 := cell_later A6 fb2
  replace fb3 := cell_later A6 fb3
  replace dP := dP.below A6
  replace lfb := Nat.lt_of_lt_of_le lfb A6.size
  replace B := below_next B A6
  have S7 := A6.size
  clear A6
  have E7 : w3.heap.size + 1 ≤ (w3.alloc (.cells #[.int .i64 cd, .slice pa pn pc] 92)).heap.size := by simp
  have pb0 : (w3.alloc (.cells #[.int .i64 cd, .slice pa pn pc] 92)).cell? ⟨w3.heap.size, 0, none⟩ = some (.int .i64 cd) := by simp
  have pb1 : (w3.alloc (.cells #[.int .i64 cd, .slice pa pn pc] 92)).cell? ⟨w3.heap.size, 1, none⟩ = some (.slice pa pn pc) := by simp
  have lpb : w3.heap.size < (w3.alloc (.cells #[.int .i64 cd, .slice pa pn pc] 92)).heap.size := by simp
  go_wp2_with fail
  refine (toDelta_two fr tt av nv cv aq nq cq vs ss _ (by exact h.below B) q1 q2).mono ?_
  rintro e w4 ⟨xa, xb, xc, xd, xm, rfl, vx, sx, m1x, m2x, hb⟩
  replace fb0 := cell_later hb fb0
  replace fb1 := cell_later hb fb1
  replace fb2 := cell_later hb fb2
  replace fb3 := cell_later hb fb3
  replace pb0 := cell_later hb pb0
  replace pb1 := cell_later hb pb1
  replace dP := dP.below hb
  replace lfb := Nat.lt_of_lt_of_le lfb hb.size
  replace lpb := Nat.lt_of_lt_of_le lpb hb.size
  replace B := below_next B hb
  have S8 := hb.size
  clear hb
  go_wp2_with fail
  have A9 : Below w4.heap.size w4 (w4.alloc (.cells #[.int .i64 fr, .int .i64 tt, .slice xa nv xb, .slice xc nq xd] 78)) := (Below.refl _ _).alloc (Nat.le_refl _) _
  replace fb0 := cell_later A9 fb0
  replace fb1 := cell_later A9 fb1
  replace fb2 := cell_later A9 fb2
  replace fb3 := cell_later A9 fb3
  replace pb0 := cell_later A9 pb0
  replace pb1 := cell_later A9 pb1
  replace dP := dP.below A9
  replace vx := vx.below A9
  replace sx := sx.below A9
  replace lfb := Nat.lt_of_lt_of_le lfb A9.size
  replace lpb := Nat.lt_of_lt_of_le lpb A9.size
  replace B := below_next B A9
  have S10 := A9.size
  clear A9
  have E10 : w4.heap.size + 1 ≤ (w4.alloc (.cells #[.int .i64 fr, .int .i64 tt, .slice xa nv xb, .slice xc nq xd] 78)).heap.size := by simp
  have xx0 : (w4.alloc (.cells #[.int .i64 fr, .int .i64 tt, .slice xa nv xb, .slice xc nq xd] 78)).cell? ⟨w4.heap.size, 0, none⟩ = some (.int .i64 fr) := by simp
  have xx1 : (w4.alloc (.cells #[.int .i64 fr, .int .i64 tt, .slice xa nv xb, .slice xc nq xd] 78)).cell? ⟨w4.heap.size, 1, none⟩ = some (.int .i64 tt) := by simp
  have xx2 : (w4.alloc (.cells #[.int .i64 fr, .int .i64 tt, .slice xa nv xb, .slice xc nq xd] 78)).cell? ⟨w4.heap.size, 2, none⟩ = some (.slice xa nv xb) := by simp
  have xx3 : (w4.alloc (.cells #[.int .i64 fr, .int .i64 tt, .slice xa nv xb, .slice xc nq xd] 78)).cell? ⟨w4.heap.size, 3, none⟩ = some (.slice xc nq xd) := by simp
  have lxx : w4.heap.size < (w4.alloc (.cells #[.int .i64 fr, .int .i64 tt, .slice xa nv xb, .slice xc nq xd] 78)).heap.size := by simp
  go_wp2_with fail
  refine (implPack_is fr tt xa nv xb xc nq xd vs ss _ (de_of vx sx m1x m2x) p1 p2 cd ys Hcd.out Hys.out).mono ?_
  rintro e w5 ⟨qa, qn, qc, rfl, dQ, hb⟩
  replace fb0 := cell_later hb fb0
  replace fb1 := cell_later hb fb1
  replace fb2 := cell_later hb fb2
  replace fb3 := cell_later hb fb3
  replace pb0 := cell_later hb pb0
  replace pb1 := cell_later hb pb1
  replace xx0 := cell_later hb xx0
  replace xx1 := cell_later hb xx1
  replace xx2 := cell_later hb xx2
  replace xx3 := cell_later hb xx3
  replace dP := dP.below hb
  replace vx := vx.below hb
  replace sx := sx.below hb
  replace lfb := Nat.lt_of_lt_of_le lfb hb.size
  replace lpb := Nat.lt_of_lt_of_le lpb hb.size
  replace lxx := Nat.lt_of_lt_of_le lxx hb.size
  replace B := below_next B hb
  have S11 := hb.size
  clear hb
  have qL : qn ≤ 2097152 := by rw [← dQ.nInts]; omega
  go_wp2_with fail
  have A12 : Below w5.heap.size w5 (w5.alloc (.cells #[.int .i64 cd, .slice qa qn qc] 92)) := (Below.refl _ _).alloc (Nat.le_refl _) _
  replace fb0 := cell_later A12 fb0
  replace fb1 := cell_later A12 fb1
  replace fb2 := cell_later A12 fb2
  replace fb3 := cell_later A12 fb3
  replace pb0 := cell_later A12 pb0
  replace pb1 := cell_later A12 pb1
  replace xx0 := cell_later A12 xx0
  replace xx1 := cell_later A12 xx1
  replace xx2 := cell_later A12 xx2
  replace xx3 := cell_later A12 xx3
  replace dP := dP.below A12
  replace vx := vx.below A12
  replace sx := sx.below A12
  replace dQ := dQ.below A12
  replace lfb := Nat.lt_of_lt_of_le lfb A12.size
  replace lpb := Nat.lt_of_lt_of_le lpb A12.size
  replace lxx := Nat.lt_of_lt_of_le lxx A12.size
  replace B := below_next B A12
  have S13 := A12.size
  clear A12
  have E13 : w5.heap.size + 1 ≤ (w5.alloc (.cells #[.int .i64 cd, .slice qa qn qc] 92)).heap.size := by simp
  have qb0 : (w5.alloc (.cells #[.int .i64 cd, .slice qa qn qc] 92)).cell? ⟨w5.heap.size, 0, none⟩ = some (.int .i64 cd) := by simp
  have qb1 : (w5.alloc (.cells #[.int .i64 cd, .slice qa qn qc] 92)).cell? ⟨w5.heap.size, 1, none⟩ = some (.slice qa qn qc) := by simp
  have lqb : w5.heap.size < (w5.alloc (.cells #[.int .i64 cd, .slice qa qn qc] 92)).heap.size := by simp
  go_wp2_with fail
  refine (eqIRes_yes _ _ _ _ _ _ _ _ _ dQ dP qL).mono ?_
  rintro e w6 ⟨rfl, hb⟩
  replace fb0 := cell_later hb fb0
  replace fb1 := cell_later hb fb1
  replace fb2 := cell_later hb fb2
  replace fb3 := cell_later hb fb3
  replace pb0 := cell_later hb pb0
  replace pb1 := cell_later hb pb1
  replace xx0 := cell_later hb xx0
  replace xx1 := cell_later hb xx1
  replace xx2 := cell_later hb xx2
  replace xx3 := cell_later hb xx3
  replace qb0 := cell_later hb qb0
  replace qb1 := cell_later hb qb1
  replace dP := dP.below hb
  replace vx := vx.below hb
  replace sx := sx.below hb
  replace dQ := dQ.below hb
  replace lfb := Nat.lt_of_lt_of_le lfb hb.size
  replace lpb := Nat.lt_of_lt_of_le lpb hb.size
  replace lxx := Nat.lt_of_lt_of_le lxx hb.size
  replace lqb := Nat.lt_of_lt_of_le lqb hb.size
  replace B := below_next B hb
  have S14 := hb.size
  clear hb
  have D7 : Below w6.heap.size w6 w6.drew := (Below.refl _ _).drew
  replace fb0 := cell_later D7 fb0
  replace fb1 := cell_later D7 fb1
  replace fb2 := cell_later D7 fb2
  replace fb3 := cell_later D7 fb3
  replace pb0 := cell_later D7 pb0
  replace pb1 := cell_later D7 pb1
  replace xx0 := cell_later D7 xx0
  replace xx1 := cell_later D7 xx1
  replace xx2 := cell_later D7 xx2
  replace xx3 := cell_later D7 xx3
  replace qb0 := cell_later D7 qb0
  replace qb1 := cell_later D7 qb1
  replace dP := dP.below D7
  replace vx := vx.below D7
  replace sx := sx.below D7
  replace dQ := dQ.below D7
  replace lfb := Nat.lt_of_lt_of_le lfb D7.size
  replace lpb := Nat.lt_of_lt_of_le lpb D7.size
  replace lxx := Nat.lt_of_lt_of_le lxx D7.size
  replace lqb := Nat.lt_of_lt_of_le lqb D7.size
  replace B := below_next B D7
  have S15 := D7.size
  clear D7
  have g0 := h.below B
  go_wp2_with fail
  go_region_held3 (fun w' => w'.cell? ⟨w.heap.size, 0, none⟩ = some (.int .i64 fr) ∧ w'.cell? ⟨w.heap.size, 1, none⟩ = some (.int .i64 tt) ∧ w'.cell? ⟨w.heap.size, 2, none⟩ = some (.slice av nv cv) ∧ w'.cell? ⟨w.heap.size, 3, none⟩ = some (.slice aq nq cq) ∧ w'.cell? ⟨w4.heap.size, 0, none⟩ = some (.int .i64 fr) ∧ w'.cell? ⟨w4.heap.size, 1, none⟩ = some (.int .i64 tt) ∧ w'.cell? ⟨w4.heap.size, 2, none⟩ = some (.slice xa nv xb) ∧ w'.cell? ⟨w4.heap.size, 3, none⟩ = some (.slice xc nq xd)) (exact ⟨fb0, fb1, fb2, fb3, xx0, xx1, xx2, xx3⟩)
    (first | (go_at_call 39; refine (toDelta_any fr tt av nv cv aq nq cq vs ss _ g0 q1 q2).mono ?_; rintro e w7 ⟨ya, yb, yc, yd, rfl, rY, hb⟩; have fb0 := cell_later hb fb0; have fb1 := cell_later hb fb1; have fb2 := cell_later hb fb2; have fb3 := cell_later hb fb3; have pb0 := cell_later hb pb0; have pb1 := cell_later hb pb1; have xx0 := cell_later hb xx0; have xx1 := cell_later hb xx1; have xx2 := cell_later hb xx2; have xx3 := cell_later hb xx3; have qb0 := cell_later hb qb0; have qb1 := cell_later hb qb1; have dP := dP.below hb; have vx := vx.below hb; have sx := sx.below hb; have dQ := dQ.below hb; have lfb := Nat.lt_of_lt_of_le lfb hb.size; have lpb := Nat.lt_of_lt_of_le lpb hb.size; have lxx := Nat.lt_of_lt_of_le lxx hb.size; have lqb := Nat.lt_of_lt_of_le lqb hb.size; have B := below_next B hb; have S70 : w6.heap.size ≤ w7.heap.size := hb.size; clear hb) | (go_at_call 41; refine (eqDelta_yes fr tt xa nv xb xc nq xd vs ss _ (de_of vx sx m1x m2x) ya yb yc yd rY p1 p2).mono ?_; rintro e w8 ⟨rfl, hb⟩; have fb0 := cell_later hb fb0; have fb1 := cell_later hb fb1; have fb2 := cell_later hb fb2; have fb3 := cell_later hb fb3; have pb0 := cell_later hb pb0; have pb1 := cell_later hb pb1; have xx0 := cell_later hb xx0; have xx1 := cell_later hb xx1; have xx2 := cell_later hb xx2; have xx3 := cell_later hb xx3; have qb0 := cell_later hb qb0; have qb1 := cell_later hb qb1; have dP := dP.below hb; have vx := vx.below hb; have sx := sx.below hb; have dQ := dQ.below hb; have lfb := Nat.lt_of_lt_of_le lfb hb.size; have lpb := Nat.lt_of_lt_of_le lpb hb.size; have lxx := Nat.lt_of_lt_of_le lxx hb.size; have lqb := Nat.lt_of_lt_of_le lqb hb.size; have B := below_next B hb; have S71 := hb.size; clear hb rY))
  go_wp2_with fail
  refine (markDelta_any fr tt xa nv xb xc nq xd vs ss _ vx sx (by omega) (by omega) m1x m2x (by omega)).mono ?_
  rintro e w9 ⟨rfl, _, _, KK⟩
  replace fb0 := KK.cell fb0 (by omega)
  replace fb1 := KK.cell fb1 (by omega)
  replace fb2 := KK.cell fb2 (by omega)
  replace fb3 := KK.cell fb3 (by omega)
  replace pb0 := KK.cell pb0 (by omega)
  replace pb1 := KK.cell pb1 (by omega)
  replace xx0 := KK.cell xx0 (by omega)
  replace xx1 := KK.cell xx1 (by omega)
  replace xx2 := KK.cell xx2 (by omega)
  replace xx3 := KK.cell xx3 (by omega)
  replace qb0 := KK.cell qb0 (by omega)
  replace qb1 := KK.cell qb1 (by omega)
  replace dP := dP.kept KK (by omega)
  replace dQ := dQ.kept KK (by omega)
  replace lfb := Nat.lt_of_lt_of_le lfb KK.size
  replace lpb := Nat.lt_of_lt_of_le lpb KK.size
  replace lxx := Nat.lt_of_lt_of_le lxx KK.size
  replace lqb := Nat.lt_of_lt_of_le lqb KK.size
  replace B := B.trans (KK.below _ (by omega) (by omega))
  have S16 := KK.size
  clear vx sx KK
  have hk : ¬ ((1 : Int) + 3 * nv + 4 * nq < 0) := by omega
  go_wp2_with fail
  refine (eqIRes_yes _ _ _ _ _ _ _ _ _ dQ dP qL).mono ?_
  rintro e w10 ⟨rfl, hb⟩
  replace fb0 := cell_later hb fb0
  replace fb1 := cell_later hb fb1
  replace fb2 := cell_later hb fb2
  replace fb3 := cell_later hb fb3
  replace pb0 := cell_later hb pb0
  replace pb1 := cell_later hb pb1
  replace xx0 := cell_later hb xx0
  replace xx1 := cell_later hb xx1
  replace xx2 := cell_later hb xx2
  replace xx3 := cell_later hb xx3
  replace qb0 := cell_later hb qb0
  replace qb1 := cell_later hb qb1
  replace dP := dP.below hb
  replace dQ := dQ.below hb
  replace lfb := Nat.lt_of_lt_of_le lfb hb.size
  replace lpb := Nat.lt_of_lt_of_le lpb hb.size
  replace lxx := Nat.lt_of_lt_of_le lxx hb.size
  replace lqb := Nat.lt_of_lt_of_le lqb hb.size
  replace B := below_next B hb
  have S17 := hb.size
  clear hb
  go_wp2_with fail
  refine (markIRes_any _ _ _ _ _ _ dQ (by omega)).mono ?_
  rintro e w11 ⟨rfl, dM, KK⟩
  replace fb0 := KK.cell fb0 (by omega)
  replace fb1 := KK.cell fb1 (by omega)
  replace fb2 := KK.cell fb2 (by omega)
  replace fb3 := KK.cell fb3 (by omega)
  replace pb0 := KK.cell pb0 (by omega)
  replace pb1 := KK.cell pb1 (by omega)
  replace xx0 := KK.cell xx0 (by omega)
  replace xx1 := KK.cell xx1 (by omega)
  replace xx2 := KK.cell xx2 (by omega)
  replace xx3 := KK.cell xx3 (by omega)
  replace qb0 := KK.cell qb0 (by omega)
  replace qb1 := KK.cell qb1 (by omega)
  replace dP := dP.kept KK (by omega)
  replace lfb := Nat.lt_of_lt_of_le lfb KK.size
  replace lpb := Nat.lt_of_lt_of_le lpb KK.size
  replace lxx := Nat.lt_of_lt_of_le lxx KK.size
  replace lqb := Nat.lt_of_lt_of_le lqb KK.size
  replace B := B.trans (KK.below _ (by omega) (by omega))
  have S18 := KK.size
  clear dQ KK
  go_wp2_with fail
  refine (heldIRes_any _ _ _ _ _ dM (by omega)).mono ?_
  rintro e w12 ⟨rfl, hb⟩
  replace fb0 := cell_later hb fb0
  replace fb1 := cell_later hb fb1
  replace fb2 := cell_later hb fb2
  replace fb3 := cell_later hb fb3
  replace pb0 := cell_later hb pb0
  replace pb1 := cell_later hb pb1
  replace xx0 := cell_later hb xx0
  replace xx1 := cell_later hb xx1
  replace xx2 := cell_later hb xx2
  replace xx3 := cell_later hb xx3
  replace qb0 := cell_later hb qb0
  replace qb1 := cell_later hb qb1
  replace dP := dP.below hb
  replace dM := dM.below hb
  replace lfb := Nat.lt_of_lt_of_le lfb hb.size
  replace lpb := Nat.lt_of_lt_of_le lpb hb.size
  replace lxx := Nat.lt_of_lt_of_le lxx hb.size
  replace lqb := Nat.lt_of_lt_of_le lqb hb.size
  replace B := below_next B hb
  have S19 := hb.size
  clear hb
  have hq : ¬ ((1 : Int) + qn < 0) := by omega
  have he : (((1 : Int) + qn) != ((1 : Int) + qn)) = false := by simp
  go_wp2_with fail
  refine (toDelta_two fr tt av nv cv aq nq cq vs ss _ (by exact h.below B) q1 q2).mono ?_
  rintro e w13 ⟨ta, tb, tc, td, tm, rfl, vt, st, m1t, m2t, hb⟩
  replace fb0 := cell_later hb fb0
  replace fb1 := cell_later hb fb1
  replace fb2 := cell_later hb fb2
  replace fb3 := cell_later hb fb3
  replace pb0 := cell_later hb pb0
  replace pb1 := cell_later hb pb1
  replace xx0 := cell_later hb xx0
  replace xx1 := cell_later hb xx1
  replace xx2 := cell_later hb xx2
  replace xx3 := cell_later hb xx3
  replace qb0 := cell_later hb qb0
  replace qb1 := cell_later hb qb1
  replace dP := dP.below hb
  replace dM := dM.below hb
  replace lfb := Nat.lt_of_lt_of_le lfb hb.size
  replace lpb := Nat.lt_of_lt_of_le lpb hb.size
  replace lxx := Nat.lt_of_lt_of_le lxx hb.size
  replace lqb := Nat.lt_of_lt_of_le lqb hb.size
  replace B := below_next B hb
  have S20 := hb.size
  clear hb
  go_wp2_with fail
  refine (implPack_is fr tt ta nv tb tc nq td vs ss _ (de_of vt st m1t m2t) p1 p2 cd ys Hcd.out Hys.out).mono ?_
  rintro e w14 ⟨ha, hn, hc, rfl, dH, hb⟩
  replace fb0 := cell_later hb fb0
  replace fb1 := cell_later hb fb1
  replace fb2 := cell_later hb fb2
  replace fb3 := cell_later hb fb3
  replace pb0 := cell_later hb pb0
  replace pb1 := cell_later hb pb1
  replace xx0 := cell_later hb xx0
  replace xx1 := cell_later hb xx1
  replace xx2 := cell_later hb xx2
  replace xx3 := cell_later hb xx3
  replace qb0 := cell_later hb qb0
  replace qb1 := cell_later hb qb1
  replace dP := dP.below hb
  replace dM := dM.below hb
  replace lfb := Nat.lt_of_lt_of_le lfb hb.size
  replace lpb := Nat.lt_of_lt_of_le lpb hb.size
  replace lxx := Nat.lt_of_lt_of_le lxx hb.size
  replace lqb := Nat.lt_of_lt_of_le lqb hb.size
  replace B := below_next B hb
  have S21 := hb.size
  clear hb
  have hL : hn ≤ 2097152 := by rw [← dH.nInts]; omega
  clear vt st
  go_wp2_with fail
  have A22 : Below w14.heap.size w14 (w14.alloc (.cells #[.int .i64 cd, .slice ha hn hc] 92)) := (Below.refl _ _).alloc (Nat.le_refl _) _
  replace fb0 := cell_later A22 fb0
  replace fb1 := cell_later A22 fb1
  replace fb2 := cell_later A22 fb2
  replace fb3 := cell_later A22 fb3
  replace pb0 := cell_later A22 pb0
  replace pb1 := cell_later A22 pb1
  replace xx0 := cell_later A22 xx0
  replace xx1 := cell_later A22 xx1
  replace xx2 := cell_later A22 xx2
  replace xx3 := cell_later A22 xx3
  replace qb0 := cell_later A22 qb0
  replace qb1 := cell_later A22 qb1
  replace dP := dP.below A22
  replace dM := dM.below A22
  replace dH := dH.below A22
  replace lfb := Nat.lt_of_lt_of_le lfb A22.size
  replace lpb := Nat.lt_of_lt_of_le lpb A22.size
  replace lxx := Nat.lt_of_lt_of_le lxx A22.size
  replace lqb := Nat.lt_of_lt_of_le lqb A22.size
  replace B := below_next B A22
  have S23 := A22.size
  clear A22
  have E23 : w14.heap.size + 1 ≤ (w14.alloc (.cells #[.int .i64 cd, .slice ha hn hc] 92)).heap.size := by simp
  have hb0 : (w14.alloc (.cells #[.int .i64 cd, .slice ha hn hc] 92)).cell? ⟨w14.heap.size, 0, none⟩ = some (.int .i64 cd) := by simp
  have hb1 : (w14.alloc (.cells #[.int .i64 cd, .slice ha hn hc] 92)).cell? ⟨w14.heap.size, 1, none⟩ = some (.slice ha hn hc) := by simp
  have lhb : w14.heap.size < (w14.alloc (.cells #[.int .i64 cd, .slice ha hn hc] 92)).heap.size := by simp
  go_wp2_with fail
  refine (eqIRes_yes _ _ _ _ _ _ _ _ _ dH dP hL).mono ?_
  rintro e w15 ⟨rfl, hb⟩
  replace fb0 := cell_later hb fb0
  replace fb1 := cell_later hb fb1
  replace fb2 := cell_later hb fb2
  replace fb3 := cell_later hb fb3
  replace pb0 := cell_later hb pb0
  replace pb1 := cell_later hb pb1
  replace xx0 := cell_later hb xx0
  replace xx1 := cell_later hb xx1
  replace xx2 := cell_later hb xx2
  replace xx3 := cell_later hb xx3
  replace qb0 := cell_later hb qb0
  replace qb1 := cell_later hb qb1
  replace hb0 := cell_later hb hb0
  replace hb1 := cell_later hb hb1
  replace dP := dP.below hb
  replace dM := dM.below hb
  replace dH := dH.below hb
  replace lfb := Nat.lt_of_lt_of_le lfb hb.size
  replace lpb := Nat.lt_of_lt_of_le lpb hb.size
  replace lxx := Nat.lt_of_lt_of_le lxx hb.size
  replace lqb := Nat.lt_of_lt_of_le lqb hb.size
  replace lhb := Nat.lt_of_lt_of_le lhb hb.size
  replace B := below_next B hb
  have S24 := hb.size
  clear hb
  go_wp2_with fail
  refine (heldIRes_any _ _ _ _ _ dM (by omega)).mono ?_
  rintro e w16 ⟨rfl, hb⟩
  replace fb0 := cell_later hb fb0
  replace fb1 := cell_later hb fb1
  replace fb2 := cell_later hb fb2
  replace fb3 := cell_later hb fb3
  replace pb0 := cell_later hb pb0
  replace pb1 := cell_later hb pb1
  replace xx0 := cell_later hb xx0
  replace xx1 := cell_later hb xx1
  replace xx2 := cell_later hb xx2
  replace xx3 := cell_later hb xx3
  replace qb0 := cell_later hb qb0
  replace qb1 := cell_later hb qb1
  replace hb0 := cell_later hb hb0
  replace hb1 := cell_later hb hb1
  replace dP := dP.below hb
  replace dM := dM.below hb
  replace dH := dH.below hb
  replace lfb := Nat.lt_of_lt_of_le lfb hb.size
  replace lpb := Nat.lt_of_lt_of_le lpb hb.size
  replace lxx := Nat.lt_of_lt_of_le lxx hb.size
  replace lqb := Nat.lt_of_lt_of_le lqb hb.size
  replace lhb := Nat.lt_of_lt_of_le lhb hb.size
  replace B := below_next B hb
  have S25 := hb.size
  clear hb
  go_wp2
  go_ret
  exact ⟨rfl, B⟩

open Go.ChangeShapes Go.WideShapes Go.ChangeAt Go.Joins

set_option maxRecDepth 100000 in
theorem liftedPackDelta (os : Os) (started : os.Started) (H : Type) (enc : TypeId × Value → H) :
    ReturnsInHanded {} Try.checked os 11 .any (Rows.fnExactPackDeltaSpec.pre6 enc Try.prog Try.f11 Rows.fnExactPackDeltaRow.domain false) (Rows.fnExactPackDeltaSpec.post enc Try.prog Try.f11 false true false false) := by
  refine returnsInHanded_of_change (C := Try.checked) Try.own started (by kernel_rfl) Try.func11
    (ChangeSpec.witness6 (enc := enc) (C := Try.checked) false ⟨#[], #[.agg #[.int .i64 0, .int .i64 0, .slice none 0 0, .slice none 0 0]], []⟩ 8 (by kernel_rfl) (by kernel_rfl) (by kernel_rfl) (by kernel_rfl)) ?_
  intro W base args ds gs before hval0 hW hcnd _
  have hval : ∀ (j : Nat) t v, Try.f11.params[j]? = some t → args[j]? = some v → Value.okWide Try.prog W .any base t v := hval0
  have hW' := hW
  obtain ⟨p, q, hA0, hV, rfl, hfz, hnd⟩ := hW
  have hA : DataW.TrodAll enc Try.prog W 0 (fun _ => true) true Try.f11.params.toList args.toList ds p := hA0
  rw [Try.params11] at hA hval
  obtain ⟨v0, vs0, d0, ds0, p0, q0, hargs, rfl, rfl, h0, r0⟩ := trodAll_cons hA
  obtain ⟨rfl, rfl, rfl⟩ := trodAll_nil r0
  obtain rfl : args = #[v0] := by cases args; simp_all
  obtain ⟨rfl, rfl⟩ := trodVars_none hV
  have lt0 : ∀ x ∈ p0, x.block < W.heap.size := by obtain ⟨m, hm⟩ := h0; exact DataW.trod_lt m _ _ _ hm
  have k0 := h0
  obtain ⟨e0d, e1d, e2d, e3d, y0d, y1d, y2d, y3d, mmd, rfl, _, _, hy0d, hy1d, hy2d, hy3d⟩ := open_agg4 Try.underlying73 (by kernel_rfl) Try.cellsDelta (hval 0 73 v0 rfl rfl) h0
  obtain ⟨fr, hq0d, _, _⟩ := DataW.trod_int Try.underlying2 hy0d
  simp only [List.cons.injEq, and_true] at hq0d
  subst hq0d
  obtain ⟨tt, hq1d, _, _⟩ := DataW.trod_int Try.underlying2 hy1d
  simp only [List.cons.injEq, and_true] at hq1d
  subst hq1d
  obtain ⟨avd, nvd, cvd, vsd, rfl, hvfd, svd⟩ := read_vols Try.underlying26 Try.underlying181 Try.cellsVol rfl rfl rfl Try.underlying2 Try.underlying2 Try.underlying2 Try.cellsInt Try.cellsInt Try.cellsInt hy2d
  obtain ⟨aqd, nqd, cqd, ssd, rfl, hsfd, ssq⟩ := read_steps Try.underlying71 Try.underlying218 Try.cellsStep rfl rfl rfl rfl Try.underlying4 Try.underlying2 Try.underlying2 Try.underlying2 Try.cellsBool Try.cellsInt Try.cellsInt Try.cellsInt hy3d
  have sd : DeAt W false 0 W.heap.size avd nvd cvd aqd nqd cqd vsd ssd := ⟨svd, ssq⟩
  clear hA0 hval0
  refine (lawPackDelta _ _ _ _ _ _ _ _ vsd ssd W sd hvfd hsfd).mono fun e W' ⟨he, bel⟩ => ?_
  subst he
  exact ⟨_, rfl, _, _, _, [], _, [], hW', trodAll_mk1 (shut_bool Try.underlying4 _), (trodAll_cons_mk (Below.trod Try.laidOut (by kernel_rfl) (of_decide_eq_true (by kernel_rfl)) k0 bel lt0) trodAll_mk0), rfl, bel.frame _, fun h => by cases h⟩

set_option maxRecDepth 100000 in
set_option maxHeartbeats 0 in
theorem closedPackDelta : joinedFacts Try.prog 11 Try.f11 Rows.fnExactPackDeltaSpec Rows.fnExactPackDeltaRow = true := by
  have q1 : (Rows.fnExactPackDeltaRow.inPlace == Try.prog.inPlace 11) = true := by rw [inPlace_at leads_is inp_is]; kernel_rfl
  have q2 : (Rows.fnExactPackDeltaRow.unfollowed == Try.prog.unfollowed 11) = true := by rw [unfollowed_at leads_is unf_is]; kernel_rfl
  have q3 : (Rows.fnExactPackDeltaRow.recurses == Try.prog.recurses 11) = true := (by rw [recurses_no leads_is (by rw [unfollowed_at leads_is unf_is]; kernel_rfl) ranks_ok (by kernel_rfl)]; rfl)
  have q4 : (Rows.fnExactPackDeltaRow.named == Try.prog.varsNamed 11) = true := by rw [varsNamed_at leads_is var_ok ent_is]; kernel_rfl
  have q5 : (Try.prog.make == some Rows.fnExactPackDeltaRow.make) = true := by rw [made_cut]; rfl
  have q6 : (Rows.fnExactPackDeltaRow.lifted == Try.prog.liftsFinal) = true := by rw [lifts_no]; rfl
  have q7 : Try.prog.mayEnter = true := may_enter
  have q8 : laidOutB Try.prog = true := Try.laidOut
  unfold joinedFacts
  repeat' (with_reducible refine Bool.and_eq_true_iff.2 ⟨?_, ?_⟩)
  all_goals (first | with_reducible exact q1 | with_reducible exact q2 | with_reducible exact q3 | with_reducible exact q4 | with_reducible exact q5 | with_reducible exact q6 | with_reducible exact q7 | with_reducible exact q8 | (as_aux_lemma => kernel_rfl))

theorem packDelta_holds : Rows.FnExactPackDeltaSaid :=
  OpenClaim.holds_of_wide 11 Try.f11 rfl rfl rfl rfl rfl rfl rfl ⟨rfl, rfl, rfl, rfl, rfl⟩ rfl rfl rfl rfl rfl (by as_aux_lemma => kernel_rfl) Try.func11 closedPackDelta
    (of_decide_eq_true (by as_aux_lemma => kernel_rfl)) (by unfold Func.isWrapper; first | (rw [if_pos (by decide +kernel)]; kernel_rfl) | (rw [if_neg (by decide +kernel)]; exact ⟨rfl, rfl⟩))
    (fun os started H enc _ => liftedPackDelta os started H enc)

#print axioms packDelta_holds

end Go.Proofs.Ytcbfmjanjciodaa
