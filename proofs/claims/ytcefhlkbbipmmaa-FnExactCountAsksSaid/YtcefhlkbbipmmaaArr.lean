/- What the program's inner functions over its array of words answer. -/
import Derived.Test.YtcefhlkbbipmmaaFault
import Derived.Deep.MidRow
import Derived.Deep.RegionHeld3
namespace Go.Proofs.Ytcefhlkbbipmmaa
open Go.RowKit

end Go.Proofs.Ytcefhlkbbipmmaa
