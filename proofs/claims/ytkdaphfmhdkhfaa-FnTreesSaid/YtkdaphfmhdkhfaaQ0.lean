/- Chapter 3: the model's answers by what they are told to be; how long they are. -/
import Derived.Test.YtkdaphfmhdkhfaaP3
import Derived.Test.YtkdaphfmhdkhfaaP4
namespace Go.Proofs.Ytkdaphfmhdkhfaa
open Go.RowKit

section
variable {o : Bool} {l u : Nat} (ao : Option Addr) (n cap : Nat) (bs : List (Int × Int)) (w : World) (h : RowAt w o l u 2 ao n cap (pairs bs)) (hn : n ≤ 2097152)
include h hn
end
theorem specNewBlocks_is (x : Int) (w : World) (cd : Int) (bl : List (Int × Int)) (hc : newBCode x = cd) (hb : newBList x = bl) :
    Calls Try.prog 101 #[.int .i64 x] w fun e w' => BlkRes w w' e cd 0 bl := by subst hc; subst hb; exact specNewB_any x w
end Go.Proofs.Ytkdaphfmhdkhfaa
