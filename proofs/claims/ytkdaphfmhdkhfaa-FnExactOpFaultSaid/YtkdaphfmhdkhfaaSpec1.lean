/- What the model's inner functions of chapter 1 answer. -/
import Derived.Test.YtkdaphfmhdkhfaaFlush
namespace Go.Proofs.Ytkdaphfmhdkhfaa
open Go.RowKit

end Go.Proofs.Ytkdaphfmhdkhfaa
