/- Small whole numbers as floats, and a block as a complex number: there and back. -/
import Derived.Test.YtpfocemiipmkiaaBase
import Derived.Laws.ComplexArith
import Derived.Test.YtpfocemiipmkiaaP2
namespace Go.Proofs.Ytpfocemiipmkiaa
open Go.RowKit

section
variable {x : Int} (h0 : 0 ≤ x) (h1 : x ≤ 256)
include h0 h1
end
end Go.Proofs.Ytpfocemiipmkiaa

/- Chapter 3: the program's smaller functions: blocks as complex numbers. -/
namespace Go.Proofs.Ytpfocemiipmkiaa
open Go.RowKit

end Go.Proofs.Ytpfocemiipmkiaa

/- Chapter 3: the program's BlocksFault; blocks as numbers and back. -/
namespace Go.Proofs.Ytpfocemiipmkiaa
open Go.RowKit

end Go.Proofs.Ytpfocemiipmkiaa
