/- Chapter 3: blocks taken, shared and dropped: what the model answers. -/
import Derived.Test.YtikjndmgljkhhaaP2
namespace Go.Proofs.Ytikjndmgljkhhaa
open Go.RowKit

end Go.Proofs.Ytikjndmgljkhhaa
