/- Chapter 4: what the functions answer is right, and not great. -/
import Derived.Test.YtkdaphfmhdkhfaaZT
import Derived.Test.YtkdaphfmhdkhfaaZM
namespace Go.Proofs.Ytkdaphfmhdkhfaa
open Go.RowKit

end Go.Proofs.Ytkdaphfmhdkhfaa
