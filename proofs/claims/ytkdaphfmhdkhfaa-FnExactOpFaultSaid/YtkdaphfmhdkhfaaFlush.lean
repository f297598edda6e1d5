/- What the program's FlushDisk answers. -/
import Derived.Test.YtkdaphfmhdkhfaaArr
namespace Go.Proofs.Ytkdaphfmhdkhfaa
open Go.RowKit

end Go.Proofs.Ytkdaphfmhdkhfaa
