/- What the model's inner functions of chapter 1 answer. -/
import Derived.Test.YtcefhlkbbipmmaaFlush
namespace Go.Proofs.Ytcefhlkbbipmmaa
open Go.RowKit

end Go.Proofs.Ytcefhlkbbipmmaa
