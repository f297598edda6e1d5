/- Chapter 3: blocks: what the model's functions answer. -/
import Derived.Test.YtikjndmgljkhhaaP1
import Derived.Test.YtikjndmgljkhhaaFacts
namespace Go.Proofs.Ytikjndmgljkhhaa
open Go.RowKit

end Go.Proofs.Ytikjndmgljkhhaa
