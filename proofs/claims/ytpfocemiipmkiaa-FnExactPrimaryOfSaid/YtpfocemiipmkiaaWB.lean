/- Chapter 9: doers copied, compared and counted by the laws. -/
import Derived.Test.YtpfocemiipmkiaaWA
import Derived.Test.YtpfocemiipmkiaaXA
namespace Go.Proofs.Ytpfocemiipmkiaa
open Go.RowKit

end Go.Proofs.Ytpfocemiipmkiaa

/- Chapter 9: replicas copied, compared and counted by the laws. -/
namespace Go.Proofs.Ytpfocemiipmkiaa
open Go.RowKit

end Go.Proofs.Ytpfocemiipmkiaa
