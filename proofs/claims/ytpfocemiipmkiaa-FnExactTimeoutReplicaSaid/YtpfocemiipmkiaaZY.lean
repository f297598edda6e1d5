/- Chapter 4: what is so when the model's SetTree gives nodes back. -/
import Derived.Test.YtpfocemiipmkiaaZT
namespace Go.Proofs.Ytpfocemiipmkiaa
open Go.RowKit

end Go.Proofs.Ytpfocemiipmkiaa

