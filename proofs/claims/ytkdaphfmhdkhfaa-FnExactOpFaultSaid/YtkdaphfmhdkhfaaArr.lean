/- What the program's inner functions over its array of words answer. -/
import Derived.Test.YtkdaphfmhdkhfaaFault
import Derived.Deep.MidRow
import Derived.Deep.RegionHeld3
namespace Go.Proofs.Ytkdaphfmhdkhfaa
open Go.RowKit

end Go.Proofs.Ytkdaphfmhdkhfaa
