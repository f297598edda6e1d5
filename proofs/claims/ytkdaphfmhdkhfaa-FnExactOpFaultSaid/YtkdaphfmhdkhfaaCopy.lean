/- What the laws' copies answer: a slice of numbers, of pairs, a disk, copied into new memory. -/
import Derived.Test.YtkdaphfmhdkhfaaChecked
import Derived.Test.YtkdaphfmhdkhfaaBase
import Derived.WalkLawsBesides
namespace Go.Proofs.Ytkdaphfmhdkhfaa
open Go.RowKit

/-- A disk in new memory: its words and its cache lie in blocks of their own. -/
structure DiskAt (w : World) (lo hi : Nat) (a0 : Option Addr) (n0 c0 : Nat) (a1 : Option Addr) (n1 c1 : Nat) (xs : List Int) (ys : List (Int × Int)) : Prop where
  parts : ∃ mid, lo ≤ mid ∧ mid ≤ hi ∧ RowAt w true lo mid 1 a0 n0 c0 (ints xs) ∧ RowAt w true mid hi 2 a1 n1 c1 (pairs ys)

end Go.Proofs.Ytkdaphfmhdkhfaa
