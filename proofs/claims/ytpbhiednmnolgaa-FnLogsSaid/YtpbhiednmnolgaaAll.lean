/- What the program's and the model's AllWords answer, and the laws' helpers on an answer of a code and a list. -/
import Derived.Test.YtpbhiednmnolgaaSFlush
import Derived.Test.YtpbhiednmnolgaaMark2
import Derived.Deep.WholeRow
namespace Go.Proofs.Ytpbhiednmnolgaa
open Go.RowKit

end Go.Proofs.Ytpbhiednmnolgaa
