/- What the library's slices.Grow (of a nil slice) and slices.Concat (of two slices of puts) answer. -/
import Derived.Test.YtikjndmgljkhhaaPutC
import Derived.Lib.AppendZeros
namespace Go.Proofs.Ytikjndmgljkhhaa
open Go.RowKit

end Go.Proofs.Ytikjndmgljkhhaa
