/- Small facts: what a disk without a fault has; a row of one pair. -/
import Derived.Test.YtkpbmffklcgecaaSpec1
import Derived.Test.YtkpbmffklcgecaaPutS
namespace Go.Proofs.Ytkpbmffklcgecaa
open Go.RowKit

theorem fault_all {xs : List Int} {ys : List (Int × Int)} (h : faultOf xs ys = 0) : xs.all wordB = true ∧ ys.all (fun p => placeB p.1 && wordB p.2) = true := by
  obtain ⟨h1, h2, _⟩ := fault_zero h
  rw [faultOf, if_neg (by omega), if_neg (by omega)] at h
  by_cases e : (xs.all wordB && ys.all (fun p => placeB p.1 && wordB p.2)) = true
  · rw [Bool.and_eq_true] at e; exact e
  · rw [if_neg e] at h; exact absurd h (by decide)
theorem fault_of {xs : List Int} {ys : List (Int × Int)} (h1 : xs.length = 64) (h2 : ys.length ≤ 200) (h3 : xs.all wordB = true) (h4 : ys.all (fun p => placeB p.1 && wordB p.2) = true) : faultOf xs ys = 0 := by
  rw [faultOf, if_neg (by omega), if_neg (by omega), h3, h4]; rfl
theorem row_two (W : World) (t : TypeId) (x y : Int) : RowAt (W.alloc (.cells #[.int .i64 x, .int .i64 y] t)) true W.heap.size (W.heap.size + 1) 2 (some ⟨W.heap.size, 0, none⟩) 1 1 [.int .i64 x, .int .i64 y] :=
  RowAt.of_front (rest := #[]) (t := t) (by simpa using heap_alloc_new W _) rfl (Nat.le_refl _)
theorem DiskAt.widen {w : World} {lo hi lo' hi' : Nat} {a0 : Option Addr} {n0 c0 : Nat} {a1 : Option Addr} {n1 c1 : Nat} {xs : List Int} {ys : List (Int × Int)} (h : DiskAt w lo hi a0 n0 c0 a1 n1 c1 xs ys) (h1 : lo' ≤ lo) (h2 : hi ≤ hi') : DiskAt w lo' hi' a0 n0 c0 a1 n1 c1 xs ys := by
  obtain ⟨mid, m1, m2, r0, r1⟩ := h.parts
  exact ⟨mid, by omega, by omega, r0.widen h1 (Nat.le_refl _), r1.widen (Nat.le_refl _) h2⟩

end Go.Proofs.Ytkpbmffklcgecaa
