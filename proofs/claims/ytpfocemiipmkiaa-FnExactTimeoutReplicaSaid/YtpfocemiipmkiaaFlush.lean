/- What the program's FlushDisk answers. -/
import Derived.Test.YtpfocemiipmkiaaArr
namespace Go.Proofs.Ytpfocemiipmkiaa
open Go.RowKit

end Go.Proofs.Ytpfocemiipmkiaa
