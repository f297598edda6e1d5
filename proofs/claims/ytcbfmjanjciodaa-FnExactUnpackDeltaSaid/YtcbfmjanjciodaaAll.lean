/- What the program's and the model's AllWords answer, and the laws' helpers on an answer of a code and a list. -/
import Derived.Test.YtcbfmjanjciodaaSFlush
import Derived.Test.YtcbfmjanjciodaaMark2
import Derived.Deep.WholeRow
namespace Go.Proofs.Ytcbfmjanjciodaa
open Go.RowKit

end Go.Proofs.Ytcbfmjanjciodaa
