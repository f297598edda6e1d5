/- Chapter 3: blocks taken, shared and dropped: what the model answers. -/
import Derived.Test.YtpfocemiipmkiaaP2
namespace Go.Proofs.Ytpfocemiipmkiaa
open Go.RowKit

end Go.Proofs.Ytpfocemiipmkiaa
