/- What the program's inner functions over its array of words answer. -/
import Derived.Test.YtikjndmgljkhhaaFault
import Derived.Deep.MidRow
import Derived.Deep.RegionHeld3
namespace Go.Proofs.Ytikjndmgljkhhaa
open Go.RowKit

end Go.Proofs.Ytikjndmgljkhhaa
