/- Chapter 4: the program's small questions on forests. -/
import Derived.Test.YtpfocemiipmkiaaZU
import Derived.Test.YtpfocemiipmkiaaZQ
import Derived.BigQuiet
namespace Go.Proofs.Ytpfocemiipmkiaa
open Go.RowKit

section
variable {o : Bool} {l u : Nat} (an : Option Addr) (nn cn : Nat) (ab : Option Addr) (nb cb : Nat) (K : Nat → KS) (f : Fo) (w : World) (h : FoAt w o l u an nn cn ab nb cb K f) (hn : nn ≤ 2097152) (hb : nb ≤ 2097152)
include h hn hb

end

end Go.Proofs.Ytpfocemiipmkiaa

