/- Chapter 3: blocks taken, shared and dropped: what the model answers. -/
import Derived.Test.YtpbhiednmnolgaaP2
namespace Go.Proofs.Ytpbhiednmnolgaa
open Go.RowKit

end Go.Proofs.Ytpbhiednmnolgaa
