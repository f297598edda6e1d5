/- What the laws' comparisons answer. -/
import Derived.Test.YtpfocemiipmkiaaChecked
import Derived.Test.YtpfocemiipmkiaaBase
import Derived.WalkLawsBesides
import Derived.Deep.QuietTactic
import Derived.BigQuiet
import Derived.Deep.RegionHeld3
namespace Go.Proofs.Ytpfocemiipmkiaa
open Go.RowKit

end Go.Proofs.Ytpfocemiipmkiaa
