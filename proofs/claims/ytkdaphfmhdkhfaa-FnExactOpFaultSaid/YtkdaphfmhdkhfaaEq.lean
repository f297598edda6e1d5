/- What the laws' comparisons answer. -/
import Derived.Test.YtkdaphfmhdkhfaaChecked
import Derived.Test.YtkdaphfmhdkhfaaBase
import Derived.WalkLawsBesides
import Derived.Deep.QuietTactic
import Derived.BigQuiet
import Derived.Deep.RegionHeld3
namespace Go.Proofs.Ytkdaphfmhdkhfaa
open Go.RowKit

end Go.Proofs.Ytkdaphfmhdkhfaa
