/- Chapter 5: the fault of an operation, of the model and of the program. -/
import Derived.Test.YtpfocemiipmkiaaO1b
import Derived.Laws.Tables
import Derived.Deep.WholeRow
namespace Go.Proofs.Ytpfocemiipmkiaa
open Go.RowKit

end Go.Proofs.Ytpfocemiipmkiaa
