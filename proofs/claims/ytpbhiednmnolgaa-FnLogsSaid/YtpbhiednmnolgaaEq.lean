/- What the laws' comparisons answer. -/
import Derived.Test.YtpbhiednmnolgaaChecked
import Derived.Test.YtpbhiednmnolgaaBase
import Derived.WalkLawsBesides
import Derived.Deep.QuietTactic
import Derived.BigQuiet
import Derived.Deep.RegionHeld3
namespace Go.Proofs.Ytpbhiednmnolgaa
open Go.RowKit

end Go.Proofs.Ytpbhiednmnolgaa
