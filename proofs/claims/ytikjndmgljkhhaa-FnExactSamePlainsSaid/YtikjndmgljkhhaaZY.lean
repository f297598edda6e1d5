/- Chapter 4: what is so when the model's SetTree gives nodes back. -/
import Derived.Test.YtikjndmgljkhhaaZT
namespace Go.Proofs.Ytikjndmgljkhhaa
open Go.RowKit

end Go.Proofs.Ytikjndmgljkhhaa

