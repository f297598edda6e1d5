/- What the model's FlushDisk answers: the same as the program's. -/
import Derived.Test.YtcbfmjanjciodaaSpec1
namespace Go.Proofs.Ytcbfmjanjciodaa
open Go.RowKit

end Go.Proofs.Ytcbfmjanjciodaa
