/- What the laws' comparisons answer. -/
import Derived.Test.YtikjndmgljkhhaaChecked
import Derived.Test.YtikjndmgljkhhaaBase
import Derived.WalkLawsBesides
import Derived.Deep.QuietTactic
import Derived.BigQuiet
import Derived.Deep.RegionHeld3
namespace Go.Proofs.Ytikjndmgljkhhaa
open Go.RowKit

end Go.Proofs.Ytikjndmgljkhhaa
