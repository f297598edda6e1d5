/- What the model's inner functions of chapter 1 answer. -/
import Derived.Test.YtpfocemiipmkiaaFlush
namespace Go.Proofs.Ytpfocemiipmkiaa
open Go.RowKit

end Go.Proofs.Ytpfocemiipmkiaa
