/- What the program's FlushDisk answers. -/
import Derived.Test.YtkdaphfmhdkhfaaArr
namespace Go.Proofs.Ytkdaphfmhdkhfaa
open Go.RowKit

/-- An answer of a code, words and a cache: what is told, and that it lies in new memory. -/
def DiskRes (w w' : World) (e : Ending) (code : Int) (xs : List Int) (ys : List (Int × Int)) : Prop :=
  ∃ b0 n0 c0 b1 n1 c1, e = .returned (.agg #[.int .i64 code, .slice b0 n0 c0, .slice b1 n1 c1]) ∧ DiskAt w' w.heap.size w'.heap.size b0 n0 c0 b1 n1 c1 xs ys ∧ Below w.heap.size w w'

/-- what fault says of the words and of the places, where it is 0 -/
theorem fault_zero {ws : List Int} {cs : List (Int × Int)} (h : faultOf ws cs = 0) : ws.length = 64 ∧ cs.length ≤ 200 ∧ placesB cs = true := by
  unfold faultOf at h
  split at h
  · omega
  · split at h
    · omega
    · split at h
      · rename_i h1 h2 h3
        refine ⟨by omega, by omega, ?_⟩
        simp only [Bool.and_eq_true, List.all_eq_true] at h3
        exact List.all_eq_true.2 fun p hp => (h3.2 p hp).1
      · omega

def flushRes (xs : List Int) (ys : List (Int × Int)) : List Int := if faultOf xs ys = 0 then putAll xs ys else []

set_option maxRecDepth 20000 in
set_option maxHeartbeats 1000000 in
theorem implFlush_any {o0 o1 : Bool} {l0 u0 l1 u1 : Nat} (a0 a1 : Option Addr) (n0 c0 n1 c1 : Nat) (xs : List Int) (ys : List (Int × Int)) (w : World) (h0 : RowAt w o0 l0 u0 1 a0 n0 c0 (ints xs)) (h1 : RowAt w o1 l1 u1 2 a1 n1 c1 (pairs ys)) (hn : n0 ≤ 2097152) (hm : n1 ≤ 2097152) :
    Calls Try.prog 39 #[.agg #[.slice a0 n0 c0, .slice a1 n1 c1]] w fun e w' => DiskRes w w' e (faultOf xs ys) (flushRes xs ys) [] := by
  have B1 : Below w.heap.size w ((w.alloc (.cells #[.slice a0 n0 c0, .slice a1 n1 c1] 27)).alloc (.cells #[.int .i64 0, .slice none 0 0, .slice none 0 0] 32)) := ((Below.refl _ _).alloc (Nat.le_refl _) _).alloc (by simp) _
  by_cases h0f : faultOf xs ys = 0
  · obtain ⟨hx, hy, hpl⟩ := fault_zero h0f
    have hr : flushRes xs ys = putAll xs ys := if_pos h0f
    have HF : Hid _ := h0f
    rw [hr, h0f]
    clear hr h0f
    go_enter Try.func39, Try.ntmps39
    go_wp2_with fail
    refine (implFault_is _ _ _ _ _ _ xs ys _ (by exact h0.below B1) (by exact h1.below B1) hn hm _ HF.out).mono ?_
    rintro e w1 ⟨rfl, hb1⟩
    have B2 := below_next B1 hb1
    have k0 : w1.cell? ⟨w.heap.size, 0, none⟩ = some (.slice a0 n0 c0) := cell_later hb1 (by simp)
    have k1 : w1.cell? ⟨w.heap.size, 1, none⟩ = some (.slice a1 n1 c1) := cell_later hb1 (by simp)
    have z0 : w1.cell? ⟨w.heap.size + 1, 0, none⟩ = some (.int .i64 0) := cell_later hb1 (by simp)
    have z1 : w1.cell? ⟨w.heap.size + 1, 1, none⟩ = some (.slice none 0 0) := cell_later hb1 (by simp)
    have z2 : w1.cell? ⟨w.heap.size + 1, 2, none⟩ = some (.slice none 0 0) := cell_later hb1 (by simp)
    have y0 : w1.frozen? ⟨w.heap.size + 1, 0, none⟩ = false := frozen_later hb1 (by simp) (by simp)
    have y1 : w1.frozen? ⟨w.heap.size + 1, 1, none⟩ = false := frozen_later hb1 (by simp) (by simp)
    have y2 : w1.frozen? ⟨w.heap.size + 1, 2, none⟩ = false := frozen_later hb1 (by simp) (by simp)
    have hz : w.heap.size + 1 < w1.heap.size := by have := hb1.size; simp at this; omega
    clear hb1
    go_wp2_with fail
    refine (seenOf_any _ _ _ _ _ _ xs ys _ (by exact h0.below B2) (by exact h1.below B2) hx hm hpl).mono ?_
    rintro e w2 ⟨rfl, hb2⟩
    have B3 := below_next B2 hb2
    have z0 := cell_later hb2 z0
    have z1 := cell_later hb2 z1
    have z2 := cell_later hb2 z2
    have y0 := frozen_later hb2 hz y0
    have y1 := frozen_later hb2 hz y1
    have y2 := frozen_later hb2 hz y2
    have hz := Nat.lt_of_lt_of_le hz hb2.size
    clear hb2
    go_wp2_with fail
    refine (cleanDisk_any (putAll xs ys) (by rw [putAll_len]; exact hx) _).mono ?_
    rintro e w3 ⟨rfl, r3, hb3⟩
    have B4 := below_next B3 hb3
    have z0 := cell_later hb3 z0
    have z1 := cell_later hb3 z1
    have z2 := cell_later hb3 z2
    have y0 := frozen_later hb3 hz y0
    have y1 := frozen_later hb3 hz y1
    have y2 := frozen_later hb3 hz y2
    have hs3 := hb3.size
    have hs2 := B3.size
    clear hb3
    go_wp2
    refine bodyPost_ret (v := .agg #[.int .i64 0, .slice (some ⟨w2.heap.size, 0, none⟩) 64 64, .slice none 0 0]) (by simp [results, Try.results39, go_sem, z0, z1, z2]) rfl ⟨_, _, _, _, _, _, rfl, ⟨_, ?_, Nat.le_refl _, RowAt.widen (RowAt.kept r3 (l := w.heap.size + 1) (u := w.heap.size + 2) ?_ (by omega)) (by omega) ?_, RowAt.nil _ _ _ _ _⟩, ?_⟩
    · simp; omega
    · refine Kept.setCell (Kept.setCell (Kept.setCell (Kept.refl _ _ _) ?_ ?_ _) ?_ ?_ _) ?_ ?_ _ <;> simp
    · simp
    · refine Below.setCell (Below.setCell (Below.setCell B4 ?_ _) ?_ _) ?_ _ <;> simp
  · have hr : flushRes xs ys = [] := if_neg h0f
    rw [hr]
    obtain ⟨f, hf⟩ : ∃ f, faultOf xs ys = f := ⟨_, rfl⟩
    rw [hf] at h0f ⊢
    have hne : (f != 0) = true := by simp [h0f]
    have HF : Hid _ := hf
    clear hr h0f hf
    go_enter Try.func39, Try.ntmps39
    go_wp2_with fail
    refine (implFault_is _ _ _ _ _ _ xs ys _ (by exact h0.below B1) (by exact h1.below B1) hn hm _ HF.out).mono ?_
    rintro e w1 ⟨rfl, hb1⟩
    have B2 := below_next B1 hb1
    have k0 : w1.cell? ⟨w.heap.size, 0, none⟩ = some (.slice a0 n0 c0) := cell_later hb1 (by simp)
    have k1 : w1.cell? ⟨w.heap.size, 1, none⟩ = some (.slice a1 n1 c1) := cell_later hb1 (by simp)
    have z0 : w1.cell? ⟨w.heap.size + 1, 0, none⟩ = some (.int .i64 0) := cell_later hb1 (by simp)
    have z1 : w1.cell? ⟨w.heap.size + 1, 1, none⟩ = some (.slice none 0 0) := cell_later hb1 (by simp)
    have z2 : w1.cell? ⟨w.heap.size + 1, 2, none⟩ = some (.slice none 0 0) := cell_later hb1 (by simp)
    have y0 : w1.frozen? ⟨w.heap.size + 1, 0, none⟩ = false := frozen_later hb1 (by simp) (by simp)
    have y1 : w1.frozen? ⟨w.heap.size + 1, 1, none⟩ = false := frozen_later hb1 (by simp) (by simp)
    have y2 : w1.frozen? ⟨w.heap.size + 1, 2, none⟩ = false := frozen_later hb1 (by simp) (by simp)
    have hz : w.heap.size + 1 < w1.heap.size := by have := hb1.size; simp at this; omega
    clear hb1
    go_wp2
    refine bodyPost_ret (v := .agg #[.int .i64 f, .slice none 0 0, .slice none 0 0]) (by simp [results, Try.results39, go_sem, z0, z1, z2]) rfl ⟨_, _, _, _, _, _, rfl, ⟨w.heap.size, Nat.le_refl _, ?_, RowAt.nil _ _ _ _ _, RowAt.nil _ _ _ _ _⟩, ?_⟩
    · simp; omega
    · refine Below.setCell (Below.setCell (Below.setCell B2 ?_ _) ?_ _) ?_ _ <;> simp

end Go.Proofs.Ytkdaphfmhdkhfaa
