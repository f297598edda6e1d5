/- Chapter 3: blocks: what the model's smaller functions answer. -/
import Derived.Test.YtikjndmgljkhhaaBC
import Derived.Test.YtikjndmgljkhhaaZT
import Derived.Test.YtikjndmgljkhhaaFault
namespace Go.Proofs.Ytikjndmgljkhhaa
open Go.RowKit

end Go.Proofs.Ytikjndmgljkhhaa
