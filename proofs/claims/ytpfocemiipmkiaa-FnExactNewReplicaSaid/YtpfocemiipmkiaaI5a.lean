/- Chapter 9: the fault of a replica, of the model. -/
import Derived.Test.YtpfocemiipmkiaaWC
namespace Go.Proofs.Ytpfocemiipmkiaa
open Go.RowKit

end Go.Proofs.Ytpfocemiipmkiaa
