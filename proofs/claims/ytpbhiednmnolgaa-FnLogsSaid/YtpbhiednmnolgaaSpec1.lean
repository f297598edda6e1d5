/- What the model's inner functions of chapter 1 answer. -/
import Derived.Test.YtpbhiednmnolgaaFlush
namespace Go.Proofs.Ytpbhiednmnolgaa
open Go.RowKit

end Go.Proofs.Ytpbhiednmnolgaa
