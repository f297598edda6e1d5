/- Chapter 3: blocks copied, compared, marked and held by the laws. -/
import Derived.Test.YtcbfmjanjciodaaMark2
import Derived.Test.YtcbfmjanjciodaaEq
import Derived.Test.YtcbfmjanjciodaaZT
namespace Go.Proofs.Ytcbfmjanjciodaa
open Go.RowKit

section
variable (cd u : Int)
end

end Go.Proofs.Ytcbfmjanjciodaa
