/- What the laws' copies answer: a slice of numbers, of pairs, a disk, copied into new memory. -/
import Derived.Test.YtikplcpgocgogaaChecked
import Derived.Test.YtikplcpgocgogaaBase
import Derived.WalkLawsBesides
namespace Go.Proofs.Ytikplcpgocgogaa
open Go.RowKit

theorem Try.info2' : (Try.prog.info? 2).map (fun i => (i.zero, i.size, i.bytes)) = some (some (.int .i64 0), 1, 8) := by kernel_rfl

/-- A disk in new memory: its words and its cache lie in blocks of their own. -/
structure DiskAt (w : World) (lo hi : Nat) (a0 : Option Addr) (n0 c0 : Nat) (a1 : Option Addr) (n1 c1 : Nat) (xs : List Int) (ys : List (Int × Int)) : Prop where
  parts : ∃ mid, lo ≤ mid ∧ mid ≤ hi ∧ RowAt w true lo mid 1 a0 n0 c0 (ints xs) ∧ RowAt w true mid hi 2 a1 n1 c1 (pairs ys)

theorem DiskAt.kept {w w' : World} {lo hi : Nat} {a0 : Option Addr} {n0 c0 : Nat} {a1 : Option Addr} {n1 c1 : Nat} {xs : List Int} {ys : List (Int × Int)} (h : DiskAt w lo hi a0 n0 c0 a1 n1 c1 xs ys) {l u : Nat} (hk : Kept l u w w') (hd : hi ≤ l ∨ u ≤ lo) : DiskAt w' lo hi a0 n0 c0 a1 n1 c1 xs ys := by
  obtain ⟨mid, m1, m2, r1, r2⟩ := h.parts
  exact ⟨mid, m1, m2, r1.kept hk (by omega), r2.kept hk (by omega)⟩
theorem DiskAt.below {w w' : World} {lo hi : Nat} {a0 : Option Addr} {n0 c0 : Nat} {a1 : Option Addr} {n1 c1 : Nat} {xs : List Int} {ys : List (Int × Int)} (h : DiskAt w lo hi a0 n0 c0 a1 n1 c1 xs ys) (hk : Below w.heap.size w w') : DiskAt w' lo hi a0 n0 c0 a1 n1 c1 xs ys :=
  h.kept (l := hi) (u := hi) (Kept.of_below hk) (Or.inl (Nat.le_refl _))

end Go.Proofs.Ytikplcpgocgogaa
