/- What the two DiskFault answer: the same number, a plain function of the words and the cache. -/
import Derived.Test.YtpfocemiipmkiaaSm
import Derived.Test.YtpfocemiipmkiaaCopy
namespace Go.Proofs.Ytpfocemiipmkiaa
open Go.RowKit

end Go.Proofs.Ytpfocemiipmkiaa
