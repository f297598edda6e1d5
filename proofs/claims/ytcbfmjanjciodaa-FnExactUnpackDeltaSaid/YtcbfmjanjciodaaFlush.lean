/- What the program's FlushDisk answers. -/
import Derived.Test.YtcbfmjanjciodaaArr
namespace Go.Proofs.Ytcbfmjanjciodaa
open Go.RowKit

end Go.Proofs.Ytcbfmjanjciodaa
