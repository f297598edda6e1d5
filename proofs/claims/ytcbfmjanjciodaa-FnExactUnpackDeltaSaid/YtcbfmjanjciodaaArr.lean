/- What the program's inner functions over its array of words answer. -/
import Derived.Test.YtcbfmjanjciodaaFault
import Derived.Deep.MidRow
import Derived.Deep.RegionHeld3
namespace Go.Proofs.Ytcbfmjanjciodaa
open Go.RowKit

end Go.Proofs.Ytcbfmjanjciodaa
