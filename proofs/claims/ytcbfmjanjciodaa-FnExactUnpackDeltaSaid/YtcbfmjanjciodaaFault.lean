/- What the two DiskFault answer: the same number, a plain function of the words and the cache. -/
import Derived.Test.YtcbfmjanjciodaaSm
import Derived.Test.YtcbfmjanjciodaaCopy
namespace Go.Proofs.Ytcbfmjanjciodaa
open Go.RowKit

end Go.Proofs.Ytcbfmjanjciodaa
