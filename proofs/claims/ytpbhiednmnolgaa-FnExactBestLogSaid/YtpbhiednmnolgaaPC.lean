/- Chapter 6: cells copied, compared and counted by the laws. -/
import Derived.Test.YtpbhiednmnolgaaEX
import Derived.Test.YtpbhiednmnolgaaYP
namespace Go.Proofs.Ytpbhiednmnolgaa
open Go.RowKit

end Go.Proofs.Ytpbhiednmnolgaa
