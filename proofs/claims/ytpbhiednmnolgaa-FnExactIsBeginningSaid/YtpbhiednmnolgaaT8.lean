/- Chapter 4: what the functions answer is right, and not great. -/
import Derived.Test.YtpbhiednmnolgaaZT
import Derived.Test.YtpbhiednmnolgaaZM
namespace Go.Proofs.Ytpbhiednmnolgaa
open Go.RowKit

end Go.Proofs.Ytpbhiednmnolgaa
