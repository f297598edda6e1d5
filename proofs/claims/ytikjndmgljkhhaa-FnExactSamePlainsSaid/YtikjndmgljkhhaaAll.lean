/- What the program's and the model's AllWords answer, and the laws' helpers on an answer of a code and a list. -/
import Derived.Test.YtikjndmgljkhhaaSFlush
import Derived.Test.YtikjndmgljkhhaaMark2
import Derived.Deep.WholeRow
namespace Go.Proofs.Ytikjndmgljkhhaa
open Go.RowKit

end Go.Proofs.Ytikjndmgljkhhaa
