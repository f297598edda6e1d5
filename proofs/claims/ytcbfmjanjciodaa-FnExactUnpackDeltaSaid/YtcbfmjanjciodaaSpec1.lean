/- What the model's inner functions of chapter 1 answer. -/
import Derived.Test.YtcbfmjanjciodaaFlush
namespace Go.Proofs.Ytcbfmjanjciodaa
open Go.RowKit

end Go.Proofs.Ytcbfmjanjciodaa
