/- Chapter 3: blocks copied, compared, marked and held by the laws. -/
import Derived.Test.YtcefhlkbbipmmaaMark2
import Derived.Test.YtcefhlkbbipmmaaEq
import Derived.Test.YtcefhlkbbipmmaaZT
namespace Go.Proofs.Ytcefhlkbbipmmaa
open Go.RowKit

section
variable (cd u : Int)
end

end Go.Proofs.Ytcefhlkbbipmmaa
