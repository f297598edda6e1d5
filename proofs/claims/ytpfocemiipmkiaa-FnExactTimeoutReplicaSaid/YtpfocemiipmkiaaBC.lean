/- Chapter 3: blocks copied, compared, marked and held by the laws. -/
import Derived.Test.YtpfocemiipmkiaaMark2
import Derived.Test.YtpfocemiipmkiaaEq
import Derived.Test.YtpfocemiipmkiaaZT
namespace Go.Proofs.Ytpfocemiipmkiaa
open Go.RowKit

section
variable (cd u : Int)
end

end Go.Proofs.Ytpfocemiipmkiaa
