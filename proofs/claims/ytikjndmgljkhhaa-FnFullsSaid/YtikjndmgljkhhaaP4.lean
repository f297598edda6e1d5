/- Chapter 3: new blocks: what the model answers. -/
import Derived.Test.YtikjndmgljkhhaaP2
namespace Go.Proofs.Ytikjndmgljkhhaa
open Go.RowKit

end Go.Proofs.Ytikjndmgljkhhaa
