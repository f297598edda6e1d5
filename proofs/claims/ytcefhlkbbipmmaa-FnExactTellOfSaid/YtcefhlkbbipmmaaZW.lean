/- Chapter 4: a forest that the model's call makes and changes: where it lies. -/
import Derived.Test.YtcefhlkbbipmmaaZU
import Derived.Test.YtcefhlkbbipmmaaZM
import Derived.Deep.AppendLies
import Derived.Lib.AppendZeros
import Derived.Test.YtcefhlkbbipmmaaT8
import Derived.Test.YtcefhlkbbipmmaaZT
import Derived.BigQuiet
import Derived.Deep.RegionLaw
namespace Go.Proofs.Ytcefhlkbbipmmaa
open Go.RowKit

section
variable {w w' : World} {lo P : Nat} {vn : Value} {ab : Option Addr} {nb cb : Nat} {K : Nat → KS} {f : Fo}
end

end Go.Proofs.Ytcefhlkbbipmmaa

/- Chapter 4: the model's copy of a forest. -/
namespace Go.Proofs.Ytcefhlkbbipmmaa
open Go.RowKit

end Go.Proofs.Ytcefhlkbbipmmaa

/- Chapter 4: the model's ShareTree. -/
namespace Go.Proofs.Ytcefhlkbbipmmaa
open Go.RowKit

end Go.Proofs.Ytcefhlkbbipmmaa

/- Chapter 4: one less refers to a node: what the model does. -/
namespace Go.Proofs.Ytcefhlkbbipmmaa
open Go.RowKit

end Go.Proofs.Ytcefhlkbbipmmaa

/- Chapter 4: one less refers to a root: what the model does. -/
namespace Go.Proofs.Ytcefhlkbbipmmaa
open Go.RowKit

end Go.Proofs.Ytcefhlkbbipmmaa

/- Chapter 4: the model's DropTree. -/
namespace Go.Proofs.Ytcefhlkbbipmmaa
open Go.RowKit

end Go.Proofs.Ytcefhlkbbipmmaa

/- Chapter 4: kids that are none, kids with another one: what the model answers. -/
namespace Go.Proofs.Ytcefhlkbbipmmaa
open Go.RowKit

end Go.Proofs.Ytcefhlkbbipmmaa

/- Chapter 4: a new node: what the model does. -/
namespace Go.Proofs.Ytcefhlkbbipmmaa
open Go.RowKit

end Go.Proofs.Ytcefhlkbbipmmaa
