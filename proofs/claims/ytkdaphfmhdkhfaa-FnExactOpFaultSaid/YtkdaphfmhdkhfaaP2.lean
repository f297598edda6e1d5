/- Chapter 3: blocks: what the model's functions answer. -/
import Derived.Test.YtkdaphfmhdkhfaaP1
import Derived.Test.YtkdaphfmhdkhfaaFacts
namespace Go.Proofs.Ytkdaphfmhdkhfaa
open Go.RowKit

end Go.Proofs.Ytkdaphfmhdkhfaa
