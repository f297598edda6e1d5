/- What the program's and the model's AllWords answer, and the laws' helpers on an answer of a code and a list. -/
import Derived.Test.YtcefhlkbbipmmaaSFlush
import Derived.Test.YtcefhlkbbipmmaaMark2
import Derived.Deep.WholeRow
namespace Go.Proofs.Ytcefhlkbbipmmaa
open Go.RowKit

end Go.Proofs.Ytcefhlkbbipmmaa
