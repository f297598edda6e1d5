/- Chapter 5, plain: volumes, how many blocks a tree has, the fault of a pool. -/
import Derived.Test.YtpfocemiipmkiaaZZ
import Derived.Test.YtpfocemiipmkiaaZM
import Derived.Test.YtpfocemiipmkiaaZV
import Derived.Test.YtpfocemiipmkiaaZU
namespace Go.Proofs.Ytpfocemiipmkiaa
open Go.RowKit

end Go.Proofs.Ytpfocemiipmkiaa

/- Chapter 5: the fault of an operation, plain, and the ids of volumes. -/
namespace Go.Proofs.Ytpfocemiipmkiaa
open Go.RowKit

end Go.Proofs.Ytpfocemiipmkiaa
