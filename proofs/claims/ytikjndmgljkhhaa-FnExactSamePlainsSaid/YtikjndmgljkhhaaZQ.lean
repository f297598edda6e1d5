/- Small whole numbers as floats, and a block as a complex number: there and back. -/
import Derived.Test.YtikjndmgljkhhaaBase
import Derived.Laws.ComplexArith
import Derived.Test.YtikjndmgljkhhaaP2
namespace Go.Proofs.Ytikjndmgljkhhaa
open Go.RowKit

section
variable {x : Int} (h0 : 0 ≤ x) (h1 : x ≤ 256)
include h0 h1
end
end Go.Proofs.Ytikjndmgljkhhaa

/- Chapter 3: the program's smaller functions: blocks as complex numbers. -/
namespace Go.Proofs.Ytikjndmgljkhhaa
open Go.RowKit

end Go.Proofs.Ytikjndmgljkhhaa

/- Chapter 3: the program's BlocksFault; blocks as numbers and back. -/
namespace Go.Proofs.Ytikjndmgljkhhaa
open Go.RowKit

end Go.Proofs.Ytikjndmgljkhhaa
