/- Chapter 4: a forest that the model's call makes and changes: where it lies. -/
import Derived.Test.YtpfocemiipmkiaaZU
import Derived.Test.YtpfocemiipmkiaaZM
import Derived.Deep.AppendLies
import Derived.Lib.AppendZeros
import Derived.Test.YtpfocemiipmkiaaT8
import Derived.Test.YtpfocemiipmkiaaZT
import Derived.BigQuiet
import Derived.Deep.RegionLaw
namespace Go.Proofs.Ytpfocemiipmkiaa
open Go.RowKit

section
variable {w w' : World} {lo P : Nat} {vn : Value} {ab : Option Addr} {nb cb : Nat} {K : Nat → KS} {f : Fo}
end

end Go.Proofs.Ytpfocemiipmkiaa

/- Chapter 4: the model's copy of a forest. -/
namespace Go.Proofs.Ytpfocemiipmkiaa
open Go.RowKit

end Go.Proofs.Ytpfocemiipmkiaa

/- Chapter 4: the model's ShareTree. -/
namespace Go.Proofs.Ytpfocemiipmkiaa
open Go.RowKit

end Go.Proofs.Ytpfocemiipmkiaa

/- Chapter 4: one less refers to a node: what the model does. -/
namespace Go.Proofs.Ytpfocemiipmkiaa
open Go.RowKit

end Go.Proofs.Ytpfocemiipmkiaa

/- Chapter 4: one less refers to a root: what the model does. -/
namespace Go.Proofs.Ytpfocemiipmkiaa
open Go.RowKit

end Go.Proofs.Ytpfocemiipmkiaa

/- Chapter 4: the model's DropTree. -/
namespace Go.Proofs.Ytpfocemiipmkiaa
open Go.RowKit

end Go.Proofs.Ytpfocemiipmkiaa

/- Chapter 4: kids that are none, kids with another one: what the model answers. -/
namespace Go.Proofs.Ytpfocemiipmkiaa
open Go.RowKit

end Go.Proofs.Ytpfocemiipmkiaa

/- Chapter 4: a new node: what the model does. -/
namespace Go.Proofs.Ytpfocemiipmkiaa
open Go.RowKit

end Go.Proofs.Ytpfocemiipmkiaa
