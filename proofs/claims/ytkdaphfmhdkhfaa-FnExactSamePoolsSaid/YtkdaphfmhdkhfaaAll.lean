/- What the program's and the model's AllWords answer, and the laws' helpers on an answer of a code and a list. -/
import Derived.Test.YtkdaphfmhdkhfaaSFlush
import Derived.Test.YtkdaphfmhdkhfaaMark2
import Derived.Deep.WholeRow
namespace Go.Proofs.Ytkdaphfmhdkhfaa
open Go.RowKit

/-- A whole array into the block that was made last, the operation written out. -/
theorem store_new {P : Program} {ops : Array Oper} {rest : List Oper} {dst : Option Tmp} {type : TypeId} {pos : String} {after : Array Edge} {a : Act} {Q : Exit → Act → World → Prop} (ty : TypeId) {x y : Operand}
    (w : World) (c c' : Array Value) (t : TypeId) (hi : (P.info? ty).map (·.size) = some c'.size) (hold : c.size = c'.size) (h1 : c'.all (·.oneCell') = true)
    (hx : a.eval x = .pointer (some ⟨w.heap.size, 0, none⟩)) (hy : a.eval y = .agg c')
    (h : wpList P ops Q rest (a.put dst undef) (w.alloc (.cells c' t))) : wpList P ops Q (⟨dst, .store ty x y, type, pos, after, none⟩ :: rest) a (w.alloc (.cells c t)) :=
  wpList_store_row rfl ty x y rfl w.heap.size c' hx hy t c (heap_alloc_new w _) hi hold h1 (by rw [World.setRow_alloc_new]; exact h)

/-- An answer of a code and a list: what is told, and that it lies in new memory. -/
def IntsRes (w w' : World) (e : Ending) (code : Int) (xs : List Int) : Prop :=
  ∃ b0 n0 c0, e = .returned (.agg #[.int .i64 code, .slice b0 n0 c0]) ∧ RowAt w' true w.heap.size w'.heap.size 1 b0 n0 c0 (ints xs) ∧ Below w.heap.size w w'

set_option maxRecDepth 20000 in
set_option maxHeartbeats 1000000 in
theorem implAll_any {o0 o1 : Bool} {l0 u0 l1 u1 : Nat} (a0 a1 : Option Addr) (n0 c0 n1 c1 : Nat) (xs : List Int) (ys : List (Int × Int)) (w : World) (h0 : RowAt w o0 l0 u0 1 a0 n0 c0 (ints xs)) (h1 : RowAt w o1 l1 u1 2 a1 n1 c1 (pairs ys)) (hn : n0 ≤ 2097152) (hm : n1 ≤ 2097152) :
    Calls Try.prog 42 #[.agg #[.slice a0 n0 c0, .slice a1 n1 c1]] w fun e w' => IntsRes w w' e (faultOf xs ys) (flushRes xs ys) := by
  have B1 : Below w.heap.size w ((w.alloc (.cells #[.slice a0 n0 c0, .slice a1 n1 c1] 27)).alloc (.cells #[.int .i64 0, .slice none 0 0] 37)) := ((Below.refl _ _).alloc (Nat.le_refl _) _).alloc (by simp) _
  by_cases h0f : faultOf xs ys = 0
  · obtain ⟨hx, hy, hpl⟩ := fault_zero h0f
    have hr : flushRes xs ys = putAll xs ys := if_pos h0f
    have HF : Hid _ := h0f
    rw [hr, h0f]
    clear hr h0f
    go_enter Try.func42, Try.ntmps42
    go_wp2_with fail
    refine (implFault_is _ _ _ _ _ _ xs ys _ (by exact h0.below B1) (by exact h1.below B1) hn hm _ HF.out).mono ?_
    rintro e w1 ⟨rfl, hb1⟩
    have B2 := below_next B1 hb1
    have k0 : w1.cell? ⟨w.heap.size, 0, none⟩ = some (.slice a0 n0 c0) := cell_later hb1 (by simp)
    have k1 : w1.cell? ⟨w.heap.size, 1, none⟩ = some (.slice a1 n1 c1) := cell_later hb1 (by simp)
    have z0 : w1.cell? ⟨w.heap.size + 1, 0, none⟩ = some (.int .i64 0) := cell_later hb1 (by simp)
    have z1 : w1.cell? ⟨w.heap.size + 1, 1, none⟩ = some (.slice none 0 0) := cell_later hb1 (by simp)
    have y0 : w1.frozen? ⟨w.heap.size + 1, 0, none⟩ = false := frozen_later hb1 (by simp) (by simp)
    have y1 : w1.frozen? ⟨w.heap.size + 1, 1, none⟩ = false := frozen_later hb1 (by simp) (by simp)
    have hz : w.heap.size + 1 < w1.heap.size := by have := hb1.size; simp at this; omega
    clear hb1
    go_wp2_with fail
    refine (seenOf_any _ _ _ _ _ _ xs ys _ (by exact h0.below B2) (by exact h1.below B2) hx hm hpl).mono ?_
    rintro e w2 ⟨rfl, hb2⟩
    have B3 := below_next B2 hb2
    have z0 := cell_later hb2 z0
    have z1 := cell_later hb2 z1
    have y0 := frozen_later hb2 hz y0
    have y1 := frozen_later hb2 hz y1
    have hz := Nat.lt_of_lt_of_le hz hb2.size
    clear hb2 k0 k1
    have hl : (ints (putAll xs ys)).length = 64 := by rw [ints_length, putAll_len, hx]
    obtain ⟨A, hA⟩ : ∃ A, (ints (putAll xs ys)).toArray = A := ⟨_, rfl⟩
    rw [hA]
    have HO : Hid (A.all (·.oneCell') = true) := by show _ = _; rw [← hA]; exact ints_one _
    have hs : A.size = 64 := by rw [← hA]; simpa using hl
    have HZ : Hid ((Try.prog.info? 153).map (·.size) = some A.size) := by show _ = _; rw [hs]; exact Try.infoSec
    have HS : Hid (64 = A.size) := hs.symm
    have HA : Hid _ := hA
    have HL : Hid _ := hl
    clear hs hA hl
    go_wp2_with (first | ((with_reducible refine store_new 153 w2 _ A _ HZ.out ?_ HO.out ?_ ?_ ?_); exact HS.out; rfl; rfl))
    have HB : Hid ((((w2.setCell ⟨w.heap.size + 1, 0, none⟩ (.int .i64 0)).setCell ⟨w.heap.size + 1, 1, none⟩ (.slice (some ⟨w2.heap.size, 0, none⟩) 64 64)).alloc (.cells A 153)).heap[w2.heap.size]? = some (.cells (ints (putAll xs ys)).toArray 153 (0, 0))) := by
      show _ = _
      rw [HA.out]
      have := heap_alloc_new ((w2.setCell ⟨w.heap.size + 1, 0, none⟩ (.int .i64 0)).setCell ⟨w.heap.size + 1, 1, none⟩ (.slice (some ⟨w2.heap.size, 0, none⟩) 64 64)) (.cells A 153)
      simpa using this
    have hz2 := B3.size
    refine bodyPost_ret (v := .agg #[.int .i64 0, .slice (some ⟨w2.heap.size, 0, none⟩) 64 64]) (by simp [results, Try.results42, go_sem, z0, z1, hz]) rfl ⟨_, _, _, rfl, RowAt.widen (RowAt.of_block HB.out HL.out) (by omega) (by simp), ?_⟩
    refine Below.alloc (Below.setCell (Below.setCell B3 ?_ _) ?_ _) ?_ _ <;> simp <;> omega
  · have hr : flushRes xs ys = [] := if_neg h0f
    rw [hr]
    obtain ⟨f, hf⟩ : ∃ f, faultOf xs ys = f := ⟨_, rfl⟩
    rw [hf] at h0f ⊢
    have hne : (f != 0) = true := by simp [h0f]
    have HF : Hid _ := hf
    clear hr h0f hf
    go_enter Try.func42, Try.ntmps42
    go_wp2_with fail
    refine (implFault_is _ _ _ _ _ _ xs ys _ (by exact h0.below B1) (by exact h1.below B1) hn hm _ HF.out).mono ?_
    rintro e w1 ⟨rfl, hb1⟩
    have B2 := below_next B1 hb1
    have z0 : w1.cell? ⟨w.heap.size + 1, 0, none⟩ = some (.int .i64 0) := cell_later hb1 (by simp)
    have z1 : w1.cell? ⟨w.heap.size + 1, 1, none⟩ = some (.slice none 0 0) := cell_later hb1 (by simp)
    have y0 : w1.frozen? ⟨w.heap.size + 1, 0, none⟩ = false := frozen_later hb1 (by simp) (by simp)
    have y1 : w1.frozen? ⟨w.heap.size + 1, 1, none⟩ = false := frozen_later hb1 (by simp) (by simp)
    clear hb1
    go_wp2
    refine bodyPost_ret (v := .agg #[.int .i64 f, .slice none 0 0]) (by simp [results, Try.results42, go_sem, z0, z1]) rfl ⟨_, _, _, rfl, RowAt.nil _ _ _ _ _, ?_⟩
    refine Below.setCell (Below.setCell B2 ?_ _) ?_ _ <;> simp

set_option maxRecDepth 20000 in
set_option maxHeartbeats 1000000 in
theorem specAll_any {o0 o1 : Bool} {l0 u0 l1 u1 : Nat} (a0 a1 : Option Addr) (n0 c0 n1 c1 : Nat) (xs : List Int) (ys : List (Int × Int)) (w : World) (h0 : RowAt w o0 l0 u0 1 a0 n0 c0 (ints xs)) (h1 : RowAt w o1 l1 u1 2 a1 n1 c1 (pairs ys)) (hn : n0 ≤ 2097152) (hm : n1 ≤ 2097152) :
    Calls Try.prog 93 #[.agg #[.slice a0 n0 c0, .slice a1 n1 c1]] w fun e w' => IntsRes w w' e (faultOf xs ys) (flushRes xs ys) := by
  have B1 : Below w.heap.size w ((w.alloc (.cells #[.slice a0 n0 c0, .slice a1 n1 c1] 27)).alloc (.cells #[.int .i64 0, .slice none 0 0] 37)) := ((Below.refl _ _).alloc (Nat.le_refl _) _).alloc (by simp) _
  by_cases h0f : faultOf xs ys = 0
  · obtain ⟨hx, hy, hpl⟩ := fault_zero h0f
    have hr : flushRes xs ys = putAll xs ys := if_pos h0f
    have HF : Hid _ := h0f
    rw [hr, h0f]
    clear hr h0f
    go_enter Try.func93, Try.ntmps93
    go_wp2_with fail
    refine (l1Fault_is _ a0 a1 n0 c0 n1 c1 xs ys _ (by exact h0.below B1) (by exact h1.below B1) hn hm (by simp) (by simp) _ HF.out).mono ?_
    rintro e w1 ⟨rfl, rfl⟩
    go_wp2_with fail
    refine (l1All_any _ a0 a1 n0 c0 n1 c1 xs ys _ (by exact h0.below B1) (by exact h1.below B1) hx hm hpl (by simp) (by simp)).mono ?_
    rintro e w2 ⟨ao, cap, rfl, r2, hb2⟩
    have B2 := below_next B1 hb2
    have z0 : w2.cell? ⟨w.heap.size + 1, 0, none⟩ = some (.int .i64 0) := cell_later hb2 (by simp)
    have z1 : w2.cell? ⟨w.heap.size + 1, 1, none⟩ = some (.slice none 0 0) := cell_later hb2 (by simp)
    have y0 : w2.frozen? ⟨w.heap.size + 1, 0, none⟩ = false := frozen_later hb2 (by simp) (by simp)
    have y1 : w2.frozen? ⟨w.heap.size + 1, 1, none⟩ = false := frozen_later hb2 (by simp) (by simp)
    have hz : w.heap.size + 2 ≤ w2.heap.size := by have := hb2.size; simp at this; omega
    have r2' : RowAt w2 true (w.heap.size + 2) w2.heap.size 1 ao 64 cap (ints (putAll xs ys)) := by simpa using r2
    clear hb2 r2
    go_wp2
    refine bodyPost_ret (v := .agg #[.int .i64 0, .slice ao 64 cap]) (by simp [results, Try.results93, go_sem, z0, z1]) rfl ⟨_, _, _, rfl, RowAt.widen (RowAt.kept r2' (l := w.heap.size + 1) (u := w.heap.size + 2) ?_ (by omega)) (by omega) ?_, ?_⟩
    · refine Kept.setCell (Kept.setCell (Kept.refl _ _ _) ?_ ?_ _) ?_ ?_ _ <;> simp
    · simp
    · refine Below.setCell (Below.setCell B2 ?_ _) ?_ _ <;> simp
  · have hr : flushRes xs ys = [] := if_neg h0f
    rw [hr]
    obtain ⟨f, hf⟩ : ∃ f, faultOf xs ys = f := ⟨_, rfl⟩
    rw [hf] at h0f ⊢
    have hne : (f != 0) = true := by simp [h0f]
    have HF : Hid _ := hf
    clear hr h0f hf
    go_enter Try.func93, Try.ntmps93
    go_wp2_with fail
    refine (l1Fault_is _ a0 a1 n0 c0 n1 c1 xs ys _ (by exact h0.below B1) (by exact h1.below B1) hn hm (by simp) (by simp) _ HF.out).mono ?_
    rintro e w1 ⟨rfl, rfl⟩
    go_wp2
    refine bodyPost_ret (v := .agg #[.int .i64 f, .slice none 0 0]) (by simp [results, Try.results93, go_sem]) rfl ⟨_, _, _, rfl, RowAt.nil _ _ _ _ _, ?_⟩
    exact ((Below.refl _ _).alloc (Nat.le_refl _) _).alloc (by simp) _

set_option maxHeartbeats 400000 in
theorem markIRes_any {lo hi : Nat} (c : Int) (a0 : Option Addr) (n0 c0 : Nat) (xs : List Int) (w : World) (h : RowAt w true lo hi 1 a0 n0 c0 (ints xs)) (hn0 : n0 ≤ 4194304) :
    Calls Try.prog 95 #[.agg #[.int .i64 c, .slice a0 n0 c0], .int .i64 1] w fun e w' => e = .returned (.int .i64 (1 + n0)) ∧ RowAt w' true lo hi 1 a0 n0 c0 (ints (marks 1 n0)) ∧ Kept lo hi w w' := by
  have B1 : Below w.heap.size w (w.alloc (.cells #[.int .i64 c, .slice a0 n0 c0] 37)) := (Below.refl _ _).alloc (Nat.le_refl _) _
  go_enter Try.func95, Try.ntmps95
  go_wp2_with fail
  refine (markInts_any _ _ _ xs _ _ (by exact h.below B1) hn0 (by omega) (by omega)).mono ?_
  rintro e w1 ⟨rfl, s0, K1⟩
  go_wp2
  go_ret
  exact ⟨rfl, s0, (Kept.of_below B1).trans K1⟩

set_option maxHeartbeats 400000 in
theorem heldIRes_any {lo hi : Nat} (c : Int) (a0 : Option Addr) (n0 c0 : Nat) (w : World) (h : RowAt w true lo hi 1 a0 n0 c0 (ints (marks 1 n0))) (hn0 : n0 ≤ 4194304) :
    Calls Try.prog 96 #[.agg #[.int .i64 c, .slice a0 n0 c0], .int .i64 1] w fun e w' => e = .returned (.int .i64 (1 + n0)) ∧ Below w.heap.size w w' := by
  have B1 : Below w.heap.size w (w.alloc (.cells #[.int .i64 c, .slice a0 n0 c0] 37)) := (Below.refl _ _).alloc (Nat.le_refl _) _
  go_enter Try.func96, Try.ntmps96
  go_wp2_with fail
  refine (heldInts_any _ _ _ _ _ (by exact h.below B1) hn0 (by omega) (by omega)).mono ?_
  rintro e w1 ⟨rfl, rfl⟩
  have hp2 : ¬ ((1 : Int) + n0 < 0) := by omega
  go_wp2
  go_ret
  exact ⟨rfl, B1⟩

set_option maxHeartbeats 400000 in
theorem eqIRes_yes {o1 o2 : Bool} {l1 u1 l2 u2 : Nat} (c : Int) (a1 : Option Addr) (n1 c1 : Nat) (b1 : Option Addr) (m1 d1 : Nat) (xs : List Int) (w : World)
    (h : RowAt w o1 l1 u1 1 a1 n1 c1 (ints xs)) (g : RowAt w o2 l2 u2 1 b1 m1 d1 (ints xs)) (hn : n1 ≤ 2097152) :
    Calls Try.prog 94 #[.agg #[.int .i64 c, .slice a1 n1 c1], .agg #[.int .i64 c, .slice b1 m1 d1]] w fun e w' => e = .returned (.bool true) ∧ Below w.heap.size w w' := by
  have hm1 : m1 = n1 := by rw [← h.nInts, ← g.nInts]
  subst hm1
  have B1 : Below w.heap.size w ((w.alloc (.cells #[.int .i64 c, .slice a1 m1 c1] 37)).alloc (.cells #[.int .i64 c, .slice b1 m1 d1] 37)) := ((Below.refl _ _).alloc (Nat.le_refl _) _).alloc (by simp) _
  have he : (c != c) = false := by simp
  go_enter Try.func94, Try.ntmps94
  go_wp2_with fail
  refine (eqInts_is _ _ _ _ _ _ xs xs _ (by exact h.below B1) (by exact g.below B1) hn hn true (by simp)).mono ?_
  rintro e w1 ⟨rfl, hb1⟩
  have B2 := below_next B1 hb1
  go_wp2
  go_ret
  exact ⟨rfl, B2⟩

end Go.Proofs.Ytkdaphfmhdkhfaa
