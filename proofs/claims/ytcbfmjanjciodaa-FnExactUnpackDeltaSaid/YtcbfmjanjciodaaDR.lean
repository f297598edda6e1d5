/- Chapter 7: results with a difference compared, marked and held by the laws. -/
import Derived.Test.YtcbfmjanjciodaaEX
import Derived.Test.YtcbfmjanjciodaaYT
namespace Go.Proofs.Ytcbfmjanjciodaa
open Go.RowKit

set_option maxRecDepth 20000 in
set_option maxHeartbeats 4000000 in
theorem eqDRes_yes {o : Bool} {lo hi : Nat} (cd fr tt : Int) (av : Option Addr) (nv cv : Nat) (aq : Option Addr) (nq cq : Nat) (vs : List Vo) (ss : List St) (w : World) (h : DeAt w o lo hi av nv cv aq nq cq vs ss) {o2 : Bool} {lo2 hi2 : Nat} (av2 : Option Addr) (nv2 cv2 : Nat) (aq2 : Option Addr) (nq2 cq2 : Nat) (h2 : DeAt w o2 lo2 hi2 av2 nv2 cv2 aq2 nq2 cq2 vs ss) (hnv : nv ≤ 2097152) (hnq : nq ≤ 2097152) :
    Calls Try.prog 44 #[.agg #[.int .i64 cd, .int .i64 fr, .int .i64 tt, .slice av nv cv, .slice aq nq cq], .agg #[.int .i64 cd, .int .i64 fr, .int .i64 tt, .slice av2 nv2 cv2, .slice aq2 nq2 cq2]] w fun e w' => e = .returned (.bool true) ∧ Below w.heap.size w w' := by
  obtain rfl : nv = nv2 := by rw [← h.vol.nTrips, ← h2.vol.nTrips]
  obtain rfl : nq = nq2 := by rw [← h.ste.nQuads, ← h2.ste.nQuads]
  have e1 : (cd != cd) = false := by simp
  go_enter Try.func44, Try.ntmps44
  go_wp2_with (first | (have g1 := H0.out; clear g1; (with_reducible refine box_new 83 #[.int .i64 cd, .int .i64 fr, .int .i64 tt, .slice av2 nv cv2, .slice aq2 nq cq2] rfl ?_); intro b1 W1 N1; have O1 : Hid (b0 < b1) := Nat.lt_of_lt_of_le H0.out N1.ge; replace c0_0 := cell_later N1.below c0_0; replace c0_1 := cell_later N1.below c0_1; replace c0_2 := cell_later N1.below c0_2; replace c0_3 := cell_later N1.below c0_3; replace c0_4 := cell_later N1.below c0_4; replace H0 : Hid (b0 < W1.heap.size) := Nat.lt_of_lt_of_le H0.out N1.below.size; replace B := below_next B N1.below; have H1 : Hid (b1 < W1.heap.size) := N1.lt; have c1_0 : W1.cell? ⟨b1, 0, none⟩ = some (.int .i64 cd) := N1.cell 0 _ rfl; have c1_1 : W1.cell? ⟨b1, 1, none⟩ = some (.int .i64 fr) := N1.cell 1 _ rfl; have c1_2 : W1.cell? ⟨b1, 2, none⟩ = some (.int .i64 tt) := N1.cell 2 _ rfl; have c1_3 : W1.cell? ⟨b1, 3, none⟩ = some (.slice av2 nv cv2) := N1.cell 3 _ rfl; have c1_4 : W1.cell? ⟨b1, 4, none⟩ = some (.slice aq2 nq cq2) := N1.cell 4 _ rfl; clear N1) | ((with_reducible refine box_new 83 #[.int .i64 cd, .int .i64 fr, .int .i64 tt, .slice av nv cv, .slice aq nq cq] rfl ?_); intro b0 W0 N0; have O0 : Hid (w.heap.size ≤ b0) := N0.ge; have B := N0.below; have H0 : Hid (b0 < W0.heap.size) := N0.lt; have c0_0 : W0.cell? ⟨b0, 0, none⟩ = some (.int .i64 cd) := N0.cell 0 _ rfl; have c0_1 : W0.cell? ⟨b0, 1, none⟩ = some (.int .i64 fr) := N0.cell 1 _ rfl; have c0_2 : W0.cell? ⟨b0, 2, none⟩ = some (.int .i64 tt) := N0.cell 2 _ rfl; have c0_3 : W0.cell? ⟨b0, 3, none⟩ = some (.slice av nv cv) := N0.cell 3 _ rfl; have c0_4 : W0.cell? ⟨b0, 4, none⟩ = some (.slice aq nq cq) := N0.cell 4 _ rfl; clear N0) | fail)
  refine (eqDelta_yes fr tt av nv cv aq nq cq vs ss _ (h.below B) av2 cv2 aq2 cq2 (h2.below B) hnv hnq).mono ?_
  rintro e w1 ⟨rfl, BB⟩
  replace c0_0 := cell_later BB c0_0
  replace c0_1 := cell_later BB c0_1
  replace c0_2 := cell_later BB c0_2
  replace c0_3 := cell_later BB c0_3
  replace c0_4 := cell_later BB c0_4
  replace H0 : Hid (b0 < w1.heap.size) := Nat.lt_of_lt_of_le H0.out BB.size
  replace c1_0 := cell_later BB c1_0
  replace c1_1 := cell_later BB c1_1
  replace c1_2 := cell_later BB c1_2
  replace c1_3 := cell_later BB c1_3
  replace c1_4 := cell_later BB c1_4
  replace H1 : Hid (b1 < w1.heap.size) := Nat.lt_of_lt_of_le H1.out BB.size
  replace B := below_next B BB
  clear BB
  go_wp2
  go_ret
  exact ⟨rfl, B⟩

set_option maxRecDepth 20000 in
set_option maxHeartbeats 4000000 in
theorem heldDelta_any {o o2 : Bool} {l u l2 u2 : Nat} (fr tt : Int) (av : Option Addr) (nv cv : Nat) (aq : Option Addr) (nq cq : Nat) (w : World) (hv : RowAt w o l u 3 av nv cv (trips (marks3 1 nv))) (hs : RowAt w o2 l2 u2 4 aq nq cq (quads (marks4 (1 + 3 * nv) nq))) (h1 : nv ≤ 4194304) (h2 : nq ≤ 4194304) :
    Calls Try.prog 111 #[.agg #[.int .i64 fr, .int .i64 tt, .slice av nv cv, .slice aq nq cq], .int .i64 1] w fun e w' => e = .returned (.int .i64 (1 + 3 * nv + 4 * nq)) ∧ Below w.heap.size w w' := by
  have B1 : Below w.heap.size w (w.alloc (.cells #[.int .i64 fr, .int .i64 tt, .slice av nv cv, .slice aq nq cq] 78)) := (Below.refl _ _).alloc (Nat.le_refl _) _
  have g3 : (w.alloc (.cells #[.int .i64 fr, .int .i64 tt, .slice av nv cv, .slice aq nq cq] 78)).cell? ⟨w.heap.size, 3, none⟩ = some (.slice aq nq cq) := by simp
  have p1 : ¬ ((1 : Int) + 3 * nv < 0) := by omega
  have p2 : ¬ ((1 : Int) + 3 * nv + 4 * nq < 0) := by omega
  go_enter Try.func111, Try.ntmps111
  go_wp2_with fail
  refine (heldVols_any av nv cv 1 _ (hv.below B1) h1 (by omega) (by omega)).mono ?_
  rintro e w1 ⟨rfl, rfl⟩
  go_wp2_with fail
  refine (heldSteps_any aq nq cq (1 + 3 * nv) _ (hs.below B1) h2 (by omega) (by omega)).mono ?_
  rintro e w1 ⟨rfl, rfl⟩
  go_wp2
  go_ret
  exact ⟨rfl, B1⟩
set_option maxRecDepth 20000 in
set_option maxHeartbeats 4000000 in
theorem markDRes_any {lo mid hi : Nat} (cd fr tt : Int) (av : Option Addr) (nv cv : Nat) (aq : Option Addr) (nq cq : Nat) (vs : List Vo) (ss : List St) (w : World) (hv : RowAt w true lo mid 3 av nv cv (trips vs)) (hs : RowAt w true mid hi 4 aq nq cq (quads ss)) (h1 : nv ≤ 4194304) (h2 : nq ≤ 4194304) (hm : lo ≤ mid) (hm2 : mid ≤ hi) (hm3 : mid ≤ w.heap.size) :
    Calls Try.prog 45 #[.agg #[.int .i64 cd, .int .i64 fr, .int .i64 tt, .slice av nv cv, .slice aq nq cq], .int .i64 1] w fun e w' => e = .returned (.int .i64 (1 + 3 * nv + 4 * nq)) ∧ RowAt w' true lo mid 3 av nv cv (trips (marks3 1 nv)) ∧ RowAt w' true mid hi 4 aq nq cq (quads (marks4 (1 + 3 * nv) nq)) ∧ Kept lo hi w w' := by
  have B1 : Below w.heap.size w (w.alloc (.cells #[.int .i64 cd, .int .i64 fr, .int .i64 tt, .slice av nv cv, .slice aq nq cq] 83)) := (Below.refl _ _).alloc (Nat.le_refl _) _
  go_enter Try.func45, Try.ntmps45
  go_wp2_with fail
  refine (markDelta_any fr tt av nv cv aq nq cq vs ss _ (hv.below B1) (hs.below B1) h1 h2 hm hm2 (Nat.le_trans hm3 B1.size)).mono ?_
  rintro e w1 ⟨rfl, v1, s1, K1⟩
  go_wp2
  go_ret
  exact ⟨rfl, v1, s1, (Kept.of_below B1).trans K1⟩
set_option maxRecDepth 20000 in
set_option maxHeartbeats 4000000 in
theorem heldDRes_any {o o2 : Bool} {l u l2 u2 : Nat} (cd fr tt : Int) (av : Option Addr) (nv cv : Nat) (aq : Option Addr) (nq cq : Nat) (w : World) (hv : RowAt w o l u 3 av nv cv (trips (marks3 1 nv))) (hs : RowAt w o2 l2 u2 4 aq nq cq (quads (marks4 (1 + 3 * nv) nq))) (h1 : nv ≤ 4194304) (h2 : nq ≤ 4194304) :
    Calls Try.prog 46 #[.agg #[.int .i64 cd, .int .i64 fr, .int .i64 tt, .slice av nv cv, .slice aq nq cq], .int .i64 1] w fun e w' => e = .returned (.int .i64 (1 + 3 * nv + 4 * nq)) ∧ Below w.heap.size w w' := by
  have B1 : Below w.heap.size w (w.alloc (.cells #[.int .i64 cd, .int .i64 fr, .int .i64 tt, .slice av nv cv, .slice aq nq cq] 83)) := (Below.refl _ _).alloc (Nat.le_refl _) _
  have p2 : ¬ ((1 : Int) + 3 * nv + 4 * nq < 0) := by omega
  go_enter Try.func46, Try.ntmps46
  go_wp2_with fail
  refine (heldDelta_any fr tt av nv cv aq nq cq _ (hv.below B1) (hs.below B1) h1 h2).mono ?_
  rintro e w1 ⟨rfl, B2⟩
  replace B2 := below_next B1 B2
  go_wp2
  go_ret
  exact ⟨rfl, B2⟩

end Go.Proofs.Ytcbfmjanjciodaa
