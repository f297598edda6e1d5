/- Chapter 4: what is so when the model's SetTree gives nodes back. -/
import Derived.Test.YtkdaphfmhdkhfaaZT
namespace Go.Proofs.Ytkdaphfmhdkhfaa
open Go.RowKit

end Go.Proofs.Ytkdaphfmhdkhfaa

