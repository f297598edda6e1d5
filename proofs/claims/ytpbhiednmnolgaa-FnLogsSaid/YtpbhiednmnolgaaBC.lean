/- Chapter 3: blocks copied, compared, marked and held by the laws. -/
import Derived.Test.YtpbhiednmnolgaaMark2
import Derived.Test.YtpbhiednmnolgaaEq
import Derived.Test.YtpbhiednmnolgaaZT
namespace Go.Proofs.Ytpbhiednmnolgaa
open Go.RowKit

section
variable (cd u : Int)
end

end Go.Proofs.Ytpbhiednmnolgaa
