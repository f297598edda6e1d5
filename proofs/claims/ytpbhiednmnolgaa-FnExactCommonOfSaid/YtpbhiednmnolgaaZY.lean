/- Chapter 4: what is so when the model's SetTree gives nodes back. -/
import Derived.Test.YtpbhiednmnolgaaZT
namespace Go.Proofs.Ytpbhiednmnolgaa
open Go.RowKit

end Go.Proofs.Ytpbhiednmnolgaa

