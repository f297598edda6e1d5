/- Chapter 3: blocks copied, compared, marked and held by the laws. -/
import Derived.Test.YtikjndmgljkhhaaMark2
import Derived.Test.YtikjndmgljkhhaaEq
import Derived.Test.YtikjndmgljkhhaaZT
namespace Go.Proofs.Ytikjndmgljkhhaa
open Go.RowKit

section
variable (cd u : Int)
end

end Go.Proofs.Ytikjndmgljkhhaa
