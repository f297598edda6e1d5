/- What the model's FlushDisk answers: the same as the program's. -/
import Derived.Test.YtkdaphfmhdkhfaaSpec1
namespace Go.Proofs.Ytkdaphfmhdkhfaa
open Go.RowKit

set_option maxRecDepth 20000 in
set_option maxHeartbeats 1000000 in
theorem specFlush_any {o0 o1 : Bool} {l0 u0 l1 u1 : Nat} (a0 a1 : Option Addr) (n0 c0 n1 c1 : Nat) (xs : List Int) (ys : List (Int × Int)) (w : World) (h0 : RowAt w o0 l0 u0 1 a0 n0 c0 (ints xs)) (h1 : RowAt w o1 l1 u1 2 a1 n1 c1 (pairs ys)) (hn : n0 ≤ 2097152) (hm : n1 ≤ 2097152) :
    Calls Try.prog 88 #[.agg #[.slice a0 n0 c0, .slice a1 n1 c1]] w fun e w' => DiskRes w w' e (faultOf xs ys) (flushRes xs ys) [] := by
  have B1 : Below w.heap.size w ((w.alloc (.cells #[.slice a0 n0 c0, .slice a1 n1 c1] 27)).alloc (.cells #[.int .i64 0, .slice none 0 0, .slice none 0 0] 32)) := ((Below.refl _ _).alloc (Nat.le_refl _) _).alloc (by simp) _
  by_cases h0f : faultOf xs ys = 0
  · obtain ⟨hx, hy, hpl⟩ := fault_zero h0f
    have hr : flushRes xs ys = putAll xs ys := if_pos h0f
    have HF : Hid _ := h0f
    rw [hr, h0f]
    clear hr h0f
    go_enter Try.func88, Try.ntmps88
    go_wp2_with fail
    refine (l1Fault_is _ a0 a1 n0 c0 n1 c1 xs ys _ (by exact h0.below B1) (by exact h1.below B1) hn hm (by simp) (by simp) _ HF.out).mono ?_
    rintro e w1 ⟨rfl, rfl⟩
    go_wp2_with fail
    refine (l1All_any _ a0 a1 n0 c0 n1 c1 xs ys _ (by exact h0.below B1) (by exact h1.below B1) hx hm hpl (by simp) (by simp)).mono ?_
    rintro e w2 ⟨ao, cap, rfl, r2, hb2⟩
    have B2 := below_next B1 hb2
    have z0 : w2.cell? ⟨w.heap.size + 1, 0, none⟩ = some (.int .i64 0) := cell_later hb2 (by simp)
    have z1 : w2.cell? ⟨w.heap.size + 1, 1, none⟩ = some (.slice none 0 0) := cell_later hb2 (by simp)
    have z2 : w2.cell? ⟨w.heap.size + 1, 2, none⟩ = some (.slice none 0 0) := cell_later hb2 (by simp)
    have y0 : w2.frozen? ⟨w.heap.size + 1, 0, none⟩ = false := frozen_later hb2 (by simp) (by simp)
    have y1 : w2.frozen? ⟨w.heap.size + 1, 1, none⟩ = false := frozen_later hb2 (by simp) (by simp)
    have y2 : w2.frozen? ⟨w.heap.size + 1, 2, none⟩ = false := frozen_later hb2 (by simp) (by simp)
    have hz : w.heap.size + 2 ≤ w2.heap.size := by have := hb2.size; simp at this; omega
    have r2' : RowAt w2 true (w.heap.size + 2) w2.heap.size 1 ao 64 cap (ints (putAll xs ys)) := by simpa using r2
    clear hb2 r2
    go_wp2
    refine bodyPost_ret (v := .agg #[.int .i64 0, .slice ao 64 cap, .slice none 0 0]) (by simp [results, Try.results88, go_sem, z0, z1, z2]) rfl ⟨_, _, _, _, _, _, rfl, ⟨_, ?_, Nat.le_refl _, RowAt.widen (RowAt.kept r2' (l := w.heap.size + 1) (u := w.heap.size + 2) ?_ (by omega)) (by omega) ?_, RowAt.nil _ _ _ _ _⟩, ?_⟩
    · simp; omega
    · refine Kept.setCell (Kept.setCell (Kept.setCell (Kept.refl _ _ _) ?_ ?_ _) ?_ ?_ _) ?_ ?_ _ <;> simp
    · simp
    · refine Below.setCell (Below.setCell (Below.setCell B2 ?_ _) ?_ _) ?_ _ <;> simp
  · have hr : flushRes xs ys = [] := if_neg h0f
    rw [hr]
    obtain ⟨f, hf⟩ : ∃ f, faultOf xs ys = f := ⟨_, rfl⟩
    rw [hf] at h0f ⊢
    have hne : (f != 0) = true := by simp [h0f]
    have HF : Hid _ := hf
    clear hr h0f hf
    go_enter Try.func88, Try.ntmps88
    go_wp2_with fail
    refine (l1Fault_is _ a0 a1 n0 c0 n1 c1 xs ys _ (by exact h0.below B1) (by exact h1.below B1) hn hm (by simp) (by simp) _ HF.out).mono ?_
    rintro e w1 ⟨rfl, rfl⟩
    go_wp2
    refine bodyPost_ret (v := .agg #[.int .i64 f, .slice none 0 0, .slice none 0 0]) (by simp [results, Try.results88, go_sem]) rfl ⟨_, _, _, _, _, _, rfl, ⟨w.heap.size, Nat.le_refl _, ?_, RowAt.nil _ _ _ _ _, RowAt.nil _ _ _ _ _⟩, ?_⟩
    · simp; omega
    · exact ((Below.refl _ _).alloc (Nat.le_refl _) _).alloc (by simp) _

end Go.Proofs.Ytkdaphfmhdkhfaa
