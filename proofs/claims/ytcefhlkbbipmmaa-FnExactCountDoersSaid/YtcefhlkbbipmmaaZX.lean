/- Chapter 4: one more refers to each of some kids: what the model does. -/
import Derived.Test.YtcefhlkbbipmmaaZW
import Derived.BigQuiet
import Derived.Test.YtcefhlkbbipmmaaZY
namespace Go.Proofs.Ytcefhlkbbipmmaa
open Go.RowKit

end Go.Proofs.Ytcefhlkbbipmmaa

/- Chapter 4: the leaf of a place with another block there: what the model does. -/
namespace Go.Proofs.Ytcefhlkbbipmmaa
open Go.RowKit

end Go.Proofs.Ytcefhlkbbipmmaa

/- Chapter 4: the root with another leaf at a place: what the model does. -/
namespace Go.Proofs.Ytcefhlkbbipmmaa
open Go.RowKit

end Go.Proofs.Ytcefhlkbbipmmaa

/- Chapter 4: a place with another block: what the model does. -/
namespace Go.Proofs.Ytcefhlkbbipmmaa
open Go.RowKit

end Go.Proofs.Ytcefhlkbbipmmaa
