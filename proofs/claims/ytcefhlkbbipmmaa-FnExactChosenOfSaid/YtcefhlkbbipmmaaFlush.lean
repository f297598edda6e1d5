/- What the program's FlushDisk answers. -/
import Derived.Test.YtcefhlkbbipmmaaArr
namespace Go.Proofs.Ytcefhlkbbipmmaa
open Go.RowKit

end Go.Proofs.Ytcefhlkbbipmmaa
