/- Chapter 3: new blocks: what the model answers. -/
import Derived.Test.YtkdaphfmhdkhfaaP2
namespace Go.Proofs.Ytkdaphfmhdkhfaa
open Go.RowKit

end Go.Proofs.Ytkdaphfmhdkhfaa
