/- What the program's CrashDisk answers. -/
import Derived.Test.YtikjndmgljkhhaaAll
import Derived.Test.YtikjndmgljkhhaaBools
namespace Go.Proofs.Ytikjndmgljkhhaa
open Go.RowKit

end Go.Proofs.Ytikjndmgljkhhaa
