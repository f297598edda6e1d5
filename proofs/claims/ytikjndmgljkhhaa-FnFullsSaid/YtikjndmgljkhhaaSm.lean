/- The small functions of the disk's laws: what each answers. -/
import Derived.Test.YtikjndmgljkhhaaChecked
import Derived.Test.YtikjndmgljkhhaaBase
import Derived.WalkLawsBesides
namespace Go.Proofs.Ytikjndmgljkhhaa
open Go.RowKit

end Go.Proofs.Ytikjndmgljkhhaa
