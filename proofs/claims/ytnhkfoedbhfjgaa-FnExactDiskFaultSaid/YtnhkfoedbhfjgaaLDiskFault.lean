/- At every disk the program's DiskFault answers as its model does, and writes into no argument: the law FnExactDiskFault is true at every argument, with no condition. -/
import Derived.Test.YtnhkfoedbhfjgaaRows
import Derived.Test.YtnhkfoedbhfjgaaFault
import Derived.Test.YtnhkfoedbhfjgaaEq
import Derived.Test.YtnhkfoedbhfjgaaOpen
namespace Go.Proofs.Ytnhkfoedbhfjgaa
open Go.RowKit

set_option maxHeartbeats 1000000 in
theorem lawDiskFault {o0 o1 : Bool} {l0 u0 l1 u1 : Nat} (a0 a1 : Option Addr) (n0 c0 n1 c1 : Nat) (xs : List Int) (ys : List (Int × Int)) (w : World) (h0 : RowAt w o0 l0 u0 1 a0 n0 c0 (ints xs)) (h1 : RowAt w o1 l1 u1 2 a1 n1 c1 (pairs ys)) (hn : n0 ≤ maxLen) (hm : n1 ≤ maxLen) :
    Calls Try.prog 4 #[.agg #[.slice a0 n0 c0, .slice a1 n1 c1]] w fun e w' => e = .returned (.bool true) ∧ Below w.heap.size w w' := by
  have B1 : Below w.heap.size w (w.alloc (.cells #[.slice a0 n0 c0, .slice a1 n1 c1] 49)) := (Below.refl _ _).alloc (Nat.le_refl _) _
  go_enter Try.func4, Try.ntmps4
  go_wp2_with fail
  refine (szDisk_any _ _ _ _ _ _ _ hn hm).mono ?_
  rintro e w1 ⟨r, rfl, hb1, hr⟩
  have B2 := below_next B1 hb1
  have k0 : w1.cell? ⟨w.heap.size, 0, none⟩ = some (.slice a0 n0 c0) := cell_later hb1 (by simp)
  have k1 : w1.cell? ⟨w.heap.size, 1, none⟩ = some (.slice a1 n1 c1) := cell_later hb1 (by simp)
  clear hb1
  rcases hr with hr | ⟨hr, hsz⟩
  · go_wp2
    go_ret
    exact ⟨rfl, B2⟩
  · have hr' : ¬ r < 0 := by omega
    go_wp2_with fail
    refine (toDisk_any _ _ _ _ _ _ xs ys _ (by exact h0.below B2) (by exact h1.below B2) hsz).mono ?_
    rintro e w2 ⟨b0, b1, rfl, hd2, hb2⟩
    have B3 := below_next B2 hb2
    have k0 := cell_later hb2 k0
    have k1 := cell_later hb2 k1
    clear hb2
    obtain ⟨mid, _, _, r0, r1⟩ := hd2.parts
    go_wp2_with fail
    refine (specFault_any _ _ _ _ _ _ xs ys _ r0 r1 (by omega) (by omega)).mono ?_
    rintro e w3 ⟨rfl, hb3⟩
    have B4 := below_next B3 hb3
    have k0 := cell_later hb3 k0
    have k1 := cell_later hb3 k1
    clear hb3 r0 r1 hd2
    go_wp2_with fail
    refine (toDisk_any _ _ _ _ _ _ xs ys _ (by exact h0.below B4) (by exact h1.below B4) hsz).mono ?_
    rintro e w4 ⟨d0, d1, rfl, hd4, hb4⟩
    have B5 := below_next B4 hb4
    have k0 := cell_later hb4 k0
    have k1 := cell_later hb4 k1
    clear hb4
    go_wp2_with fail
    have A6 : Below w4.heap.size w4 (w4.alloc (.cells #[.slice d0 n0 n0, .slice d1 n1 n1] 27)) := (Below.refl _ _).alloc (Nat.le_refl _) _
    have B6 := below_next B5 A6
    obtain ⟨mid', _, _, r0, r1⟩ := (hd4.below A6).parts
    have k0 := cell_later A6 k0
    have k1 := cell_later A6 k1
    refine (implFault_any _ _ _ _ _ _ xs ys _ r0 r1 (by omega) (by omega)).mono ?_
    rintro e w5 ⟨rfl, hb5⟩
    have x0 : w5.cell? ⟨w4.heap.size, 0, none⟩ = some (.slice d0 n0 n0) := cell_later hb5 (by simp)
    have x1 : w5.cell? ⟨w4.heap.size, 1, none⟩ = some (.slice d1 n1 n1) := cell_later hb5 (by simp)
    have B7 := below_next B6 hb5
    have r0 := r0.below hb5
    have r1 := r1.below hb5
    have k0 := cell_later hb5 k0
    have k1 := cell_later hb5 k1
    clear A6 hb5 hd4
    have D7 : Below w5.heap.size w5 w5.drew := (Below.refl _ _).drew
    have B8 := below_next B7 D7
    have r0 := r0.below D7
    have r1 := r1.below D7
    have q0 := h0.below B8
    have q1 := h1.below B8
    have hn0 : n0 ≤ 2097152 := by omega
    have hn1 : n1 ≤ 2097152 := by omega
    go_wp2_with fail
    go_region_held3 (fun w' => w'.cell? ⟨w.heap.size, 0, none⟩ = some (.slice a0 n0 c0) ∧ w'.cell? ⟨w.heap.size, 1, none⟩ = some (.slice a1 n1 c1) ∧ w'.cell? ⟨w4.heap.size, 0, none⟩ = some (.slice d0 n0 n0) ∧ w'.cell? ⟨w4.heap.size, 1, none⟩ = some (.slice d1 n1 n1)) (go_keep)
      (first | (go_at_call 23; refine (toDisk_any _ _ _ _ _ _ xs ys _ q0 q1 hsz).mono ?_; rintro e w6 ⟨f0, f1, rfl, hd6, hb6⟩; have k0 := cell_later hb6 k0; have k1 := cell_later hb6 k1; have x0 := cell_later hb6 x0; have x1 := cell_later hb6 x1; have r0 := r0.below hb6; have r1 := r1.below hb6; have B9 := below_next B8 hb6; clear hb6; obtain ⟨m6, _, _, s0, s1⟩ := hd6.parts) | (go_at_call 24; refine (eqDisk_yes _ _ _ _ _ _ _ _ _ _ _ _ xs ys _ r0 r1 s0 s1 hn0 hn1).mono ?_; rintro e w7 ⟨rfl, hb7⟩; have k0 := cell_later hb7 k0; have k1 := cell_later hb7 k1; have x0 := cell_later hb7 x0; have x1 := cell_later hb7 x1; have B10 := below_next B9 hb7))
    go_wp2
    go_ret
    exact ⟨rfl, B10⟩

open Go.ChangeShapes Go.WideShapes Go.ChangeAt Go.Joins

theorem Try.own : ownKnob Try.prog.godebug = none := by kernel_rfl
theorem Try.laidOut : laidOutB Try.prog = true := by kernel_rfl
theorem Try.cellsDisk : Try.prog.cellsOf 49 = 2 := by kernel_rfl
theorem Try.cellsInt : Try.prog.cellsOf 2 = 1 := by kernel_rfl
theorem Try.cellsPut : Try.prog.cellsOf 99 = 2 := by kernel_rfl

set_option maxRecDepth 100000 in
theorem liftedDiskFault (os : Os) (started : os.Started) (H : Type) (enc : TypeId × Value → H) :
    ReturnsInHanded {} Try.checked os 4 .any (Rows.fnExactDiskFaultSpec.pre6 enc Try.prog Try.f4 Rows.fnExactDiskFaultRow.domain false) (Rows.fnExactDiskFaultSpec.post enc Try.prog Try.f4 false true false false) := by
  refine returnsInHanded_of_change (C := Try.checked) Try.own started (by kernel_rfl) Try.func4
    (ChangeSpec.witness6 (enc := enc) (C := Try.checked) false ⟨#[], #[.agg #[.slice none 0 0, .slice none 0 0]], []⟩ 8 (by kernel_rfl) (by kernel_rfl) (by kernel_rfl) (by kernel_rfl)) ?_
  intro W base args ds gs before hval0 hW hcnd _
  have hval : ∀ (j : Nat) t v, Try.f4.params[j]? = some t → args[j]? = some v → Value.okWide Try.prog W .any base t v := hval0
  have hW' := hW
  obtain ⟨p, q, hA0, hV, rfl, hfz, hnd⟩ := hW
  have hA : DataW.TrodAll enc Try.prog W 0 (fun _ => true) true Try.f4.params.toList args.toList ds p := hA0
  rw [Try.params4] at hA hval
  obtain ⟨v0, d0, rfl, rfl, h0⟩ := trodAll_one hA
  obtain ⟨rfl, rfl⟩ := trodVars_none hV
  have lt0 : ∀ x ∈ p, x.block < W.heap.size := by obtain ⟨m, hm⟩ := h0; exact DataW.trod_lt m _ _ _ hm
  have k0 := h0
  obtain ⟨e0, e1, y0, y1, m, rfl, _, _, hy0, hy1⟩ := open_agg2 Try.underlying49 (by kernel_rfl) Try.cellsDisk (hval 0 49 v0 rfl rfl) h0
  obtain ⟨a0, n0, c0, xs, rfl, hn0, r0⟩ := read_ints Try.underlying24 Try.underlying2 Try.cellsInt hy0
  obtain ⟨a1, n1, c1, ys, rfl, hn1, r1⟩ := read_pairs Try.underlying47 Try.underlying99 Try.cellsPut rfl rfl Try.underlying2 Try.underlying2 Try.cellsInt Try.cellsInt hy1
  clear hA0 hval0
  refine (lawDiskFault a0 a1 n0 c0 n1 c1 xs ys W r0 r1 hn0 hn1).mono fun e W' ⟨he, bel⟩ => ?_
  subst he
  exact ⟨_, rfl, _, _, _, [], _, [], hW', trodAll_mk1 (shut_bool Try.underlying4 _), trodAll_mk1 (Below.trod Try.laidOut (by kernel_rfl) (of_decide_eq_true (by kernel_rfl)) k0 bel lt0), rfl, bel.frame _, fun h => by cases h⟩

theorem diskFault_holds : Rows.FnExactDiskFaultSaid :=
  OpenClaim.holds_of_wide 4 Try.f4 rfl rfl rfl rfl rfl rfl rfl ⟨rfl, rfl, rfl, rfl, rfl⟩ rfl rfl rfl rfl rfl (by kernel_rfl) Try.func4 (by kernel_rfl)
    (of_decide_eq_true (by kernel_rfl)) (by unfold Func.isWrapper; first | (rw [if_pos (by decide +kernel)]; kernel_rfl) | (rw [if_neg (by decide +kernel)]; exact ⟨rfl, rfl⟩))
    (fun os started H enc _ => liftedDiskFault os started H enc)

#print axioms diskFault_holds
end Go.Proofs.Ytnhkfoedbhfjgaa
