/- What the library's slices.Grow (of a nil slice) and slices.Concat (of two slices of puts) answer. -/
import Derived.Test.YtkdaphfmhdkhfaaPutC
import Derived.Lib.AppendZeros
namespace Go.Proofs.Ytkdaphfmhdkhfaa
open Go.RowKit

/-- Nothing is appended: the slice is as it was. -/
theorem run_append_none {P : Program} {w : World} {base : Nat} {e : TypeId} {size : Nat} {v : Value} {n : Nat} {xs : List Value} (t ty : TypeId) (i : TypeInfo) (ht : P.underlying t = some (.slice e)) (hi : P.info? e = some i) (hown : w.ownsRow base e size v n xs) (c : Nat) :
    (Builtin.append_ #[t, t] ty #[v, .slice none 0 c]).run P w = .ok v w := by
  rcases hown.2 with ⟨rfl, rfl⟩ | ⟨g, cap, cur, rfl, _, _, hnc, _⟩
  · simp [Builtin.append_, run_underlying ht, sizeOf, typeInfo, hi, Builtin.lenOf, Builtin.firstCells]
  · simp [Builtin.append_, run_underlying ht, sizeOf, typeInfo, hi, Builtin.lenOf, Builtin.firstCells, hnc, storeCells]

end Go.Proofs.Ytkdaphfmhdkhfaa
