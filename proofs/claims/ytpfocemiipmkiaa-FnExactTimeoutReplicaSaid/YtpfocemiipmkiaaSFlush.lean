/- What the model's FlushDisk answers: the same as the program's. -/
import Derived.Test.YtpfocemiipmkiaaSpec1
namespace Go.Proofs.Ytpfocemiipmkiaa
open Go.RowKit

end Go.Proofs.Ytpfocemiipmkiaa
