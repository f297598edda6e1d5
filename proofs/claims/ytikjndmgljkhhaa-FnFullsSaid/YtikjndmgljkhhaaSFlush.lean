/- What the model's FlushDisk answers: the same as the program's. -/
import Derived.Test.YtikjndmgljkhhaaSpec1
namespace Go.Proofs.Ytikjndmgljkhhaa
open Go.RowKit

end Go.Proofs.Ytikjndmgljkhhaa
