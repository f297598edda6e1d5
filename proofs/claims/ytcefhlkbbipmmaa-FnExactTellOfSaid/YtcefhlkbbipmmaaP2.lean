/- Chapter 3: blocks: what the model's functions answer. -/
import Derived.Test.YtcefhlkbbipmmaaP1
import Derived.Test.YtcefhlkbbipmmaaFacts
namespace Go.Proofs.Ytcefhlkbbipmmaa
open Go.RowKit

end Go.Proofs.Ytcefhlkbbipmmaa
