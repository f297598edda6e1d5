/- What the model's FlushDisk answers: the same as the program's. -/
import Derived.Test.YtcefhlkbbipmmaaSpec1
namespace Go.Proofs.Ytcefhlkbbipmmaa
open Go.RowKit

end Go.Proofs.Ytcefhlkbbipmmaa
