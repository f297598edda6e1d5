/- Chapter 4: what the functions answer is right, and not great. -/
import Derived.Test.YtpfocemiipmkiaaZT
import Derived.Test.YtpfocemiipmkiaaZM
namespace Go.Proofs.Ytpfocemiipmkiaa
open Go.RowKit

end Go.Proofs.Ytpfocemiipmkiaa
