/- Chapter 3: the model's answers by what they are told to be; how long they are. -/
import Derived.Test.YtcefhlkbbipmmaaP3
import Derived.Test.YtcefhlkbbipmmaaP4
namespace Go.Proofs.Ytcefhlkbbipmmaa
open Go.RowKit

section
variable {o : Bool} {l u : Nat} (ao : Option Addr) (n cap : Nat) (bs : List (Int × Int)) (w : World) (h : RowAt w o l u 2 ao n cap (pairs bs)) (hn : n ≤ 2097152)
include h hn
end
end Go.Proofs.Ytcefhlkbbipmmaa
