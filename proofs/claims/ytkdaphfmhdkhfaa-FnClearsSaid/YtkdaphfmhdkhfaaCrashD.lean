/- What the program's CrashDisk answers. -/
import Derived.Test.YtkdaphfmhdkhfaaAll
import Derived.Test.YtkdaphfmhdkhfaaBools
namespace Go.Proofs.Ytkdaphfmhdkhfaa
open Go.RowKit

end Go.Proofs.Ytkdaphfmhdkhfaa
