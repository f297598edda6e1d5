/- Chapter 8: the fault of a log, of the model and of the program. -/
import Derived.Test.YtpfocemiipmkiaaXA
import Derived.Test.YtpfocemiipmkiaaYE
namespace Go.Proofs.Ytpfocemiipmkiaa
open Go.RowKit

end Go.Proofs.Ytpfocemiipmkiaa

