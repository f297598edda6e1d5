/- What the program's and the model's AllWords answer, and the laws' helpers on an answer of a code and a list. -/
import Derived.Test.YtpfocemiipmkiaaSFlush
import Derived.Test.YtpfocemiipmkiaaMark2
import Derived.Deep.WholeRow
namespace Go.Proofs.Ytpfocemiipmkiaa
open Go.RowKit

end Go.Proofs.Ytpfocemiipmkiaa
