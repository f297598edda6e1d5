/- Small facts: what a disk without a fault has; a row of one pair. -/
import Derived.Test.YtpbhiednmnolgaaSpec1
import Derived.Test.YtpbhiednmnolgaaPutS
namespace Go.Proofs.Ytpbhiednmnolgaa
open Go.RowKit

end Go.Proofs.Ytpbhiednmnolgaa
