/- Chapter 3: new blocks: what the model answers. -/
import Derived.Test.YtcefhlkbbipmmaaP2
namespace Go.Proofs.Ytcefhlkbbipmmaa
open Go.RowKit

end Go.Proofs.Ytcefhlkbbipmmaa
