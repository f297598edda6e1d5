/- Small whole numbers as floats, and a block as a complex number: there and back. -/
import Derived.Test.YtcefhlkbbipmmaaBase
import Derived.Laws.ComplexArith
import Derived.Test.YtcefhlkbbipmmaaP2
namespace Go.Proofs.Ytcefhlkbbipmmaa
open Go.RowKit

section
variable {x : Int} (h0 : 0 ≤ x) (h1 : x ≤ 256)
include h0 h1
end
end Go.Proofs.Ytcefhlkbbipmmaa

/- Chapter 3: the program's smaller functions: blocks as complex numbers. -/
namespace Go.Proofs.Ytcefhlkbbipmmaa
open Go.RowKit

end Go.Proofs.Ytcefhlkbbipmmaa

/- Chapter 3: the program's BlocksFault; blocks as numbers and back. -/
namespace Go.Proofs.Ytcefhlkbbipmmaa
open Go.RowKit

end Go.Proofs.Ytcefhlkbbipmmaa
