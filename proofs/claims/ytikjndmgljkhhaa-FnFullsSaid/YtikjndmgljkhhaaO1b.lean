/- Chapter 5: the fault of an operation, of the model and of the program. -/
import Derived.Test.YtikjndmgljkhhaaYP
namespace Go.Proofs.Ytikjndmgljkhhaa
open Go.RowKit

end Go.Proofs.Ytikjndmgljkhhaa
