/- What the program's inner functions over its array of words answer. -/
import Derived.Test.YtpbhiednmnolgaaFault
import Derived.Deep.MidRow
import Derived.Deep.RegionHeld3
namespace Go.Proofs.Ytpbhiednmnolgaa
open Go.RowKit

end Go.Proofs.Ytpbhiednmnolgaa
