/- What the program's and the model's AllWords answer, and the laws' helpers on an answer of a code and a list. -/
import Derived.Test.YtkdaphfmhdkhfaaSFlush
import Derived.Test.YtkdaphfmhdkhfaaMark2
import Derived.Deep.WholeRow
namespace Go.Proofs.Ytkdaphfmhdkhfaa
open Go.RowKit

end Go.Proofs.Ytkdaphfmhdkhfaa
