/- What the model's FlushDisk answers: the same as the program's. -/
import Derived.Test.YtpbhiednmnolgaaSpec1
namespace Go.Proofs.Ytpbhiednmnolgaa
open Go.RowKit

end Go.Proofs.Ytpbhiednmnolgaa
