/- Chapter 3: new blocks: what the model answers. -/
import Derived.Test.YtpbhiednmnolgaaP2
namespace Go.Proofs.Ytpbhiednmnolgaa
open Go.RowKit

end Go.Proofs.Ytpbhiednmnolgaa
