/- Chapter 4: what the functions answer is right, and not great. -/
import Derived.Test.YtikjndmgljkhhaaZT
import Derived.Test.YtikjndmgljkhhaaZM
namespace Go.Proofs.Ytikjndmgljkhhaa
open Go.RowKit

end Go.Proofs.Ytikjndmgljkhhaa
