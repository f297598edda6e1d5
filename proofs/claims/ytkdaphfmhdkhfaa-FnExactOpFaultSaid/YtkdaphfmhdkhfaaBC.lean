/- Chapter 3: blocks copied, compared, marked and held by the laws. -/
import Derived.Test.YtkdaphfmhdkhfaaMark2
import Derived.Test.YtkdaphfmhdkhfaaEq
import Derived.Test.YtkdaphfmhdkhfaaZT
namespace Go.Proofs.Ytkdaphfmhdkhfaa
open Go.RowKit

section
variable (cd u : Int)
end

end Go.Proofs.Ytkdaphfmhdkhfaa
