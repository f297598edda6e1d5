/- Chapter 4: what is so when the model's SetTree gives nodes back. -/
import Derived.Test.YtcefhlkbbipmmaaZT
namespace Go.Proofs.Ytcefhlkbbipmmaa
open Go.RowKit

end Go.Proofs.Ytcefhlkbbipmmaa

