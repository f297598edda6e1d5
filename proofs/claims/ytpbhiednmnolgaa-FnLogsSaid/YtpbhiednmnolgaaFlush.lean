/- What the program's FlushDisk answers. -/
import Derived.Test.YtpbhiednmnolgaaArr
namespace Go.Proofs.Ytpbhiednmnolgaa
open Go.RowKit

end Go.Proofs.Ytpbhiednmnolgaa
