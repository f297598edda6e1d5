/- What the program's inner functions over its array of words answer. -/
import Derived.Test.YtpfocemiipmkiaaFault
import Derived.Deep.MidRow
import Derived.Deep.RegionHeld3
namespace Go.Proofs.Ytpfocemiipmkiaa
open Go.RowKit

end Go.Proofs.Ytpfocemiipmkiaa
