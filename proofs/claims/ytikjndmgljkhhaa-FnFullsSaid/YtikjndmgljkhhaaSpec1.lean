/- What the model's inner functions of chapter 1 answer. -/
import Derived.Test.YtikjndmgljkhhaaFlush
namespace Go.Proofs.Ytikjndmgljkhhaa
open Go.RowKit

end Go.Proofs.Ytikjndmgljkhhaa
