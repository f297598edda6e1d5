/- Chapter 4: what the functions answer is right, and not great. -/
import Derived.Test.YtcefhlkbbipmmaaZT
import Derived.Test.YtcefhlkbbipmmaaZM
namespace Go.Proofs.Ytcefhlkbbipmmaa
open Go.RowKit

end Go.Proofs.Ytcefhlkbbipmmaa
