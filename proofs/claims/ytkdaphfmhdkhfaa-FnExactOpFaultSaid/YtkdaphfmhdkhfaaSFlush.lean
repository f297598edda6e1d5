/- What the model's FlushDisk answers: the same as the program's. -/
import Derived.Test.YtkdaphfmhdkhfaaSpec1
namespace Go.Proofs.Ytkdaphfmhdkhfaa
open Go.RowKit

end Go.Proofs.Ytkdaphfmhdkhfaa
