/- Chapter 3: blocks: what the model's functions answer. -/
import Derived.Test.YtpfocemiipmkiaaP1
import Derived.Test.YtpfocemiipmkiaaFacts
namespace Go.Proofs.Ytpfocemiipmkiaa
open Go.RowKit

end Go.Proofs.Ytpfocemiipmkiaa
