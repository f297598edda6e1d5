/- What the program's FlushDisk answers. -/
import Derived.Test.YtikjndmgljkhhaaArr
namespace Go.Proofs.Ytikjndmgljkhhaa
open Go.RowKit

end Go.Proofs.Ytikjndmgljkhhaa
