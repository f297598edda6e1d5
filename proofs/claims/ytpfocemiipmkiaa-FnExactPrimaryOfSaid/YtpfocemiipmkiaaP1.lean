/- Chapter 3: blocks: what the model's smaller functions answer. -/
import Derived.Test.YtpfocemiipmkiaaBC
import Derived.Test.YtpfocemiipmkiaaZT
import Derived.Test.YtpfocemiipmkiaaFault
namespace Go.Proofs.Ytpfocemiipmkiaa
open Go.RowKit

end Go.Proofs.Ytpfocemiipmkiaa
