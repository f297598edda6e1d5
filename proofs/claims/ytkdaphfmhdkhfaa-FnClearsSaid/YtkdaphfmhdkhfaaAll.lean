/- What the program's and the model's AllWords answer, and the laws' helpers on an answer of a code and a list. -/
import Derived.Test.YtkdaphfmhdkhfaaSFlush
import Derived.Test.YtkdaphfmhdkhfaaMark2
import Derived.Deep.WholeRow
namespace Go.Proofs.Ytkdaphfmhdkhfaa
open Go.RowKit

/-- An answer of a code and a list: what is told, and that it lies in new memory. -/
def IntsRes (w w' : World) (e : Ending) (code : Int) (xs : List Int) : Prop :=
  ∃ b0 n0 c0, e = .returned (.agg #[.int .i64 code, .slice b0 n0 c0]) ∧ RowAt w' true w.heap.size w'.heap.size 1 b0 n0 c0 (ints xs) ∧ Below w.heap.size w w'

end Go.Proofs.Ytkdaphfmhdkhfaa
