/- Chapter 3: new blocks: what the model answers. -/
import Derived.Test.YtpfocemiipmkiaaP2
namespace Go.Proofs.Ytpfocemiipmkiaa
open Go.RowKit

end Go.Proofs.Ytpfocemiipmkiaa
