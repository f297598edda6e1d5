/- What the laws' marks of a disk and of an answer with one, and their reading, answer; and that two alike answers are told to be equal. -/
import Derived.Test.YtkdaphfmhdkhfaaMark
import Derived.Test.YtkdaphfmhdkhfaaEq
namespace Go.Proofs.Ytkdaphfmhdkhfaa
open Go.RowKit

theorem Kept.cell {lo hi : Nat} {w w' : World} (h : Kept lo hi w w') {b o : Nat} {v : Value} (hc : w.cell? ⟨b, o, none⟩ = some v) (hb : b < lo ∨ hi ≤ b) : w'.cell? ⟨b, o, none⟩ = some v := by
  rw [World.cell?_of_block (w := w) (a := ⟨b, o, none⟩) (h.block b (World.block_lt_of_cell? w _ hc) hb)]; exact hc

set_option maxHeartbeats 400000 in
theorem markDisk_any {lo hi : Nat} (a0 a1 : Option Addr) (n0 c0 n1 c1 : Nat) (xs : List Int) (ys : List (Int × Int)) (w : World) (h : DiskAt w lo hi a0 n0 c0 a1 n1 c1 xs ys) (hhi : hi ≤ w.heap.size) (hn0 : n0 ≤ 4194304) (hn1 : n1 ≤ 4194304) :
    Calls Try.prog 85 #[.agg #[.slice a0 n0 c0, .slice a1 n1 c1], .int .i64 1] w fun e w' => e = .returned (.int .i64 (1 + n0 + 2 * n1)) ∧ DiskAt w' lo hi a0 n0 c0 a1 n1 c1 (marks 1 n0) (marks2 (1 + n0) n1) ∧ Kept lo hi w w' := by
  obtain ⟨mid, m1, m2, r0, r1⟩ := h.parts
  have B1 : Below w.heap.size w (w.alloc (.cells #[.slice a0 n0 c0, .slice a1 n1 c1] 27)) := (Below.refl _ _).alloc (Nat.le_refl _) _
  go_enter Try.func85, Try.ntmps85
  go_wp2_with fail
  refine (markInts_any _ _ _ xs _ _ (by exact r0.below B1) hn0 (by omega) (by omega)).mono ?_
  rintro e w1 ⟨rfl, s0, K1⟩
  have k1 : w1.cell? ⟨w.heap.size, 1, none⟩ = some (.slice a1 n1 c1) := K1.cell (by simp) (Or.inr (by omega))
  have s1 := (r1.below B1).kept K1 (by omega)
  go_wp2_with fail
  refine (markPuts_any _ _ _ ys _ _ s1 hn1 (by omega) (by omega)).mono ?_
  rintro e w2 ⟨rfl, t1, K2⟩
  have t0 := s0.kept K2 (by omega)
  go_wp2
  go_ret
  exact ⟨rfl, ⟨mid, m1, m2, t0, t1⟩, (Kept.of_below B1).trans ((K1.mono (Nat.le_refl _) m2).trans (K2.mono m1 (Nat.le_refl _)))⟩

set_option maxHeartbeats 400000 in
theorem markRes_any {lo hi : Nat} (c : Int) (a0 a1 : Option Addr) (n0 c0 n1 c1 : Nat) (xs : List Int) (ys : List (Int × Int)) (w : World) (h : DiskAt w lo hi a0 n0 c0 a1 n1 c1 xs ys) (hhi : hi ≤ w.heap.size) (hn0 : n0 ≤ 4194304) (hn1 : n1 ≤ 4194304) :
    Calls Try.prog 82 #[.agg #[.int .i64 c, .slice a0 n0 c0, .slice a1 n1 c1], .int .i64 1] w fun e w' => e = .returned (.int .i64 (1 + n0 + 2 * n1)) ∧ DiskAt w' lo hi a0 n0 c0 a1 n1 c1 (marks 1 n0) (marks2 (1 + n0) n1) ∧ Kept lo hi w w' := by
  have B1 : Below w.heap.size w (w.alloc (.cells #[.int .i64 c, .slice a0 n0 c0, .slice a1 n1 c1] 32)) := (Below.refl _ _).alloc (Nat.le_refl _) _
  go_enter Try.func82, Try.ntmps82
  go_wp2_with fail
  refine (markDisk_any _ _ _ _ _ _ xs ys _ (by exact h.below B1) (by simp; omega) hn0 hn1).mono ?_
  rintro e w1 ⟨rfl, s0, K1⟩
  go_wp2
  go_ret
  exact ⟨rfl, s0, (Kept.of_below B1).trans K1⟩

set_option maxHeartbeats 400000 in
theorem heldDisk_any {lo hi : Nat} (a0 a1 : Option Addr) (n0 c0 n1 c1 : Nat) (w : World) (h : DiskAt w lo hi a0 n0 c0 a1 n1 c1 (marks 1 n0) (marks2 (1 + n0) n1)) (hn0 : n0 ≤ 4194304) (hn1 : n1 ≤ 4194304) :
    Calls Try.prog 188 #[.agg #[.slice a0 n0 c0, .slice a1 n1 c1], .int .i64 1] w fun e w' => e = .returned (.int .i64 (1 + n0 + 2 * n1)) ∧ Below w.heap.size w w' := by
  obtain ⟨mid, m1, m2, r0, r1⟩ := h.parts
  have B1 : Below w.heap.size w (w.alloc (.cells #[.slice a0 n0 c0, .slice a1 n1 c1] 27)) := (Below.refl _ _).alloc (Nat.le_refl _) _
  go_enter Try.func188, Try.ntmps188
  go_wp2_with fail
  refine (heldInts_any _ _ _ _ _ (by exact r0.below B1) hn0 (by omega) (by omega)).mono ?_
  rintro e w1 ⟨rfl, rfl⟩
  have hp : ¬ ((1 : Int) + n0 < 0) := by omega
  go_wp2_with fail
  refine (heldPuts_any _ _ _ _ _ (by exact r1.below B1) hn1 (by omega) (by omega)).mono ?_
  rintro e w2 ⟨rfl, rfl⟩
  have hp2 : ¬ ((1 : Int) + n0 + 2 * n1 < 0) := by omega
  go_wp2
  go_ret
  exact ⟨rfl, B1⟩

set_option maxHeartbeats 400000 in
theorem heldRes_any {lo hi : Nat} (c : Int) (a0 a1 : Option Addr) (n0 c0 n1 c1 : Nat) (w : World) (h : DiskAt w lo hi a0 n0 c0 a1 n1 c1 (marks 1 n0) (marks2 (1 + n0) n1)) (hn0 : n0 ≤ 4194304) (hn1 : n1 ≤ 4194304) :
    Calls Try.prog 83 #[.agg #[.int .i64 c, .slice a0 n0 c0, .slice a1 n1 c1], .int .i64 1] w fun e w' => e = .returned (.int .i64 (1 + n0 + 2 * n1)) ∧ Below w.heap.size w w' := by
  have B1 : Below w.heap.size w (w.alloc (.cells #[.int .i64 c, .slice a0 n0 c0, .slice a1 n1 c1] 32)) := (Below.refl _ _).alloc (Nat.le_refl _) _
  go_enter Try.func83, Try.ntmps83
  go_wp2_with fail
  refine (heldDisk_any _ _ _ _ _ _ _ (by exact h.below B1) hn0 hn1).mono ?_
  rintro e w1 ⟨rfl, hb1⟩
  have B2 := below_next B1 hb1
  have hp2 : ¬ ((1 : Int) + n0 + 2 * n1 < 0) := by omega
  go_wp2
  go_ret
  exact ⟨rfl, B2⟩

set_option maxHeartbeats 400000 in
theorem eqRes_yes {l1 u1 l2 u2 : Nat} (c : Int) (a1 a2 : Option Addr) (n1 c1 n2 c2 : Nat) (b1 b2 : Option Addr) (m1 d1 m2 d2 : Nat) (xs : List Int) (ys : List (Int × Int)) (w : World)
    (h : DiskAt w l1 u1 a1 n1 c1 a2 n2 c2 xs ys) (g : DiskAt w l2 u2 b1 m1 d1 b2 m2 d2 xs ys) (hn : n1 ≤ 2097152) (hm : n2 ≤ 2097152) :
    Calls Try.prog 79 #[.agg #[.int .i64 c, .slice a1 n1 c1, .slice a2 n2 c2], .agg #[.int .i64 c, .slice b1 m1 d1, .slice b2 m2 d2]] w fun e w' => e = .returned (.bool true) ∧ Below w.heap.size w w' := by
  have B1 : Below w.heap.size w ((w.alloc (.cells #[.int .i64 c, .slice a1 n1 c1, .slice a2 n2 c2] 32)).alloc (.cells #[.int .i64 c, .slice b1 m1 d1, .slice b2 m2 d2] 32)) := ((Below.refl _ _).alloc (Nat.le_refl _) _).alloc (by simp) _
  obtain ⟨mid, _, _, r0, r1⟩ := (h.below B1).parts
  obtain ⟨mid', _, _, s0, s1⟩ := (g.below B1).parts
  have he : (c != c) = false := by simp
  go_enter Try.func79, Try.ntmps79
  go_wp2_with fail
  refine (eqDisk_yes _ _ _ _ _ _ _ _ _ _ _ _ xs ys _ r0 r1 s0 s1 hn hm).mono ?_
  rintro e w1 ⟨rfl, hb1⟩
  have B2 := below_next B1 hb1
  go_wp2
  go_ret
  exact ⟨rfl, B2⟩

end Go.Proofs.Ytkdaphfmhdkhfaa
