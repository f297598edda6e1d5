/- What the program's and the model's NewDisk answer. -/
import Derived.Test.YtkpbmffklcgecaaAll
namespace Go.Proofs.Ytkpbmffklcgecaa
open Go.RowKit

def newCode (xs : List Int) : Int := faultOf (pad xs) []
def newList (xs : List Int) : List Int := if newCode xs = 0 then pad xs else []
theorem newCode_long {xs : List Int} (h : 64 < xs.length) : newCode xs = 1 := fault_form (by simp [pad]; omega)

set_option maxRecDepth 20000 in
set_option maxHeartbeats 1000000 in
theorem implNew_any {o0 : Bool} {l0 u0 : Nat} (a0 : Option Addr) (n0 c0 : Nat) (xs : List Int) (w : World) (h0 : RowAt w o0 l0 u0 1 a0 n0 c0 (ints xs)) (hn : n0 ≤ 2097152) :
    Calls Try.prog 28 #[.slice a0 n0 c0] w fun e w' => DiskRes w w' e (newCode xs) (newList xs) [] := by
  have hx := h0.nInts
  have B1 : Below w.heap.size w (w.alloc (.cells #[.int .i64 0, .slice none 0 0, .slice none 0 0] 32)) := (Below.refl _ _).alloc (Nat.le_refl _) _
  by_cases hlen : 64 < n0
  · have hc := newCode_long (xs := xs) (by omega)
    have hl : newList xs = [] := by simp [newList, hc]
    rw [hc, hl]
    have ht : (64 : Int) < n0 := by omega
    clear hc hl
    go_enter Try.func28, Try.ntmps28
    go_wp2
    refine bodyPost_ret (v := .agg #[.int .i64 1, .slice none 0 0, .slice none 0 0]) (by simp [results, Try.results28, go_sem]) rfl ⟨_, _, _, _, _, _, rfl, ⟨w.heap.size, Nat.le_refl _, ?_, RowAt.nil _ _ _ _ _, RowAt.nil _ _ _ _ _⟩, ?_⟩
    · simp
    · exact (Below.refl _ _).alloc (Nat.le_refl _) _
  · have ht : ¬ ((64 : Int) < n0) := by omega
    obtain ⟨f, hf⟩ : ∃ f, newCode xs = f := ⟨_, rfl⟩
    have HF : Hid (faultOf (pad xs) [] = f) := hf
    have hpl : (pad xs).length = 64 := pad_len (by omega)
    by_cases hf0 : f = 0
    · subst hf0
      have hl : newList xs = pad xs := by simp [newList, hf]
      rw [hf, hl]
      clear hf hl
      go_enter Try.func28, Try.ntmps28
      go_wp2_with fail
      refine (sectorsOf_any _ _ _ xs _ (by exact h0.below B1) (by omega)).mono ?_
      rintro e w1 ⟨rfl, hb1⟩
      have B2 := below_next B1 hb1
      have z0 : w1.cell? ⟨w.heap.size, 0, none⟩ = some (.int .i64 0) := cell_later hb1 (by simp)
      have z1 : w1.cell? ⟨w.heap.size, 1, none⟩ = some (.slice none 0 0) := cell_later hb1 (by simp)
      have z2 : w1.cell? ⟨w.heap.size, 2, none⟩ = some (.slice none 0 0) := cell_later hb1 (by simp)
      have y0 : w1.frozen? ⟨w.heap.size, 0, none⟩ = false := frozen_later hb1 (by simp) (by simp)
      have y1 : w1.frozen? ⟨w.heap.size, 1, none⟩ = false := frozen_later hb1 (by simp) (by simp)
      have y2 : w1.frozen? ⟨w.heap.size, 2, none⟩ = false := frozen_later hb1 (by simp) (by simp)
      have hz : w.heap.size < w1.heap.size := by have := hb1.size; simp at this; omega
      clear hb1
      go_wp2_with fail
      refine (cleanDisk_any (pad xs) hpl _).mono ?_
      rintro e w2 ⟨rfl, r2, hb2⟩
      have B3 := below_next B2 hb2
      have z0 := cell_later hb2 z0
      have z1 := cell_later hb2 z1
      have z2 := cell_later hb2 z2
      have y0 := frozen_later hb2 hz y0
      have y1 := frozen_later hb2 hz y1
      have y2 := frozen_later hb2 hz y2
      have hz1 := hz
      have hz := Nat.lt_of_lt_of_le hz hb2.size
      have hs2 := hb2.size
      clear hb2
      go_wp2_with fail
      have A3 : Below w2.heap.size w2 (w2.alloc (.cells #[.int .i64 0, .slice (some ⟨w1.heap.size, 0, none⟩) 64 64, .slice none 0 0] 32)) := (Below.refl _ _).alloc (Nat.le_refl _) _
      have B4 := below_next B3 A3
      have r3 := r2.below A3
      refine (implFault_is _ _ _ _ _ _ (pad xs) [] _ r3 (RowAt.nil _ true 0 0 2) (by omega) (by omega) _ HF.out).mono ?_
      rintro e w3 ⟨rfl, hb3⟩
      have B5 := below_next B4 hb3
      have r4 := r3.below hb3
      have m0 : w3.cell? ⟨w2.heap.size, 0, none⟩ = some (.int .i64 0) := cell_later hb3 (by simp)
      have m1 : w3.cell? ⟨w2.heap.size, 1, none⟩ = some (.slice (some ⟨w1.heap.size, 0, none⟩) 64 64) := cell_later hb3 (by simp)
      have m2 : w3.cell? ⟨w2.heap.size, 2, none⟩ = some (.slice none 0 0) := cell_later hb3 (by simp)
      have z0 := cell_later hb3 (cell_later A3 z0)
      have z1 := cell_later hb3 (cell_later A3 z1)
      have z2 := cell_later hb3 (cell_later A3 z2)
      have hz' : w.heap.size < (w2.alloc (.cells #[.int .i64 0, .slice (some ⟨w1.heap.size, 0, none⟩) 64 64, .slice none 0 0] 32)).heap.size := by simp; omega
      have y0 := frozen_later hb3 hz' (frozen_later A3 hz y0)
      have y1 := frozen_later hb3 hz' (frozen_later A3 hz y1)
      have y2 := frozen_later hb3 hz' (frozen_later A3 hz y2)
      have hs3 : w2.heap.size + 1 ≤ w3.heap.size := by have := hb3.size; simp at this; exact this
      clear hb3 A3 r2 r3 hz'
      go_wp2
      refine bodyPost_ret (v := .agg #[.int .i64 0, .slice (some ⟨w1.heap.size, 0, none⟩) 64 64, .slice none 0 0]) (by simp [results, Try.results28, go_sem, z0, z1, z2]) rfl ⟨_, _, _, _, _, _, rfl, ⟨_, ?_, Nat.le_refl _, RowAt.widen (RowAt.kept r4 (l := w.heap.size) (u := w.heap.size + 1) ?_ (by omega)) (by omega) ?_, RowAt.nil _ _ _ _ _⟩, ?_⟩
      · simp; omega
      · refine Kept.setCell (Kept.setCell (Kept.setCell (Kept.refl _ _ _) ?_ ?_ _) ?_ ?_ _) ?_ ?_ _ <;> simp
      · simp; omega
      · refine Below.setCell (Below.setCell (Below.setCell B5 ?_ _) ?_ _) ?_ _ <;> simp
    · have hl : newList xs = [] := by rw [newList, if_neg (by rw [hf]; exact hf0)]
      rw [hf, hl]
      have hne : (f != 0) = true := by simp [hf0]
      clear hf hl hf0
      go_enter Try.func28, Try.ntmps28
      go_wp2_with fail
      refine (sectorsOf_any _ _ _ xs _ (by exact h0.below B1) (by omega)).mono ?_
      rintro e w1 ⟨rfl, hb1⟩
      have B2 := below_next B1 hb1
      have z0 : w1.cell? ⟨w.heap.size, 0, none⟩ = some (.int .i64 0) := cell_later hb1 (by simp)
      have z1 : w1.cell? ⟨w.heap.size, 1, none⟩ = some (.slice none 0 0) := cell_later hb1 (by simp)
      have z2 : w1.cell? ⟨w.heap.size, 2, none⟩ = some (.slice none 0 0) := cell_later hb1 (by simp)
      have y0 : w1.frozen? ⟨w.heap.size, 0, none⟩ = false := frozen_later hb1 (by simp) (by simp)
      have y1 : w1.frozen? ⟨w.heap.size, 1, none⟩ = false := frozen_later hb1 (by simp) (by simp)
      have y2 : w1.frozen? ⟨w.heap.size, 2, none⟩ = false := frozen_later hb1 (by simp) (by simp)
      have hz : w.heap.size < w1.heap.size := by have := hb1.size; simp at this; omega
      clear hb1
      go_wp2_with fail
      refine (cleanDisk_any (pad xs) hpl _).mono ?_
      rintro e w2 ⟨rfl, r2, hb2⟩
      have B3 := below_next B2 hb2
      have z0 := cell_later hb2 z0
      have z1 := cell_later hb2 z1
      have z2 := cell_later hb2 z2
      have y0 := frozen_later hb2 hz y0
      have y1 := frozen_later hb2 hz y1
      have y2 := frozen_later hb2 hz y2
      have hz := Nat.lt_of_lt_of_le hz hb2.size
      clear hb2
      go_wp2_with fail
      have A3 : Below w2.heap.size w2 (w2.alloc (.cells #[.int .i64 0, .slice (some ⟨w1.heap.size, 0, none⟩) 64 64, .slice none 0 0] 32)) := (Below.refl _ _).alloc (Nat.le_refl _) _
      have B4 := below_next B3 A3
      have r3 := r2.below A3
      refine (implFault_is _ _ _ _ _ _ (pad xs) [] _ r3 (RowAt.nil _ true 0 0 2) (by omega) (by omega) _ HF.out).mono ?_
      rintro e w3 ⟨rfl, hb3⟩
      have B5 := below_next B4 hb3
      have z0 := cell_later hb3 (cell_later A3 z0)
      have z1 := cell_later hb3 (cell_later A3 z1)
      have z2 := cell_later hb3 (cell_later A3 z2)
      have hz' : w.heap.size < (w2.alloc (.cells #[.int .i64 0, .slice (some ⟨w1.heap.size, 0, none⟩) 64 64, .slice none 0 0] 32)).heap.size := by simp; omega
      have y0 := frozen_later hb3 hz' (frozen_later A3 hz y0)
      have y1 := frozen_later hb3 hz' (frozen_later A3 hz y1)
      have y2 := frozen_later hb3 hz' (frozen_later A3 hz y2)
      have hs3 := B5.size
      clear hb3 A3 r2 r3 hz'
      go_wp2
      refine bodyPost_ret (v := .agg #[.int .i64 f, .slice none 0 0, .slice none 0 0]) (by simp [results, Try.results28, go_sem, z0, z1, z2]) rfl ⟨_, _, _, _, _, _, rfl, ⟨w.heap.size, Nat.le_refl _, ?_, RowAt.nil _ _ _ _ _, RowAt.nil _ _ _ _ _⟩, ?_⟩
      · simp; omega
      · refine Below.setCell (Below.setCell (Below.setCell B5 ?_ _) ?_ _) ?_ _ <;> simp

end Go.Proofs.Ytkpbmffklcgecaa
