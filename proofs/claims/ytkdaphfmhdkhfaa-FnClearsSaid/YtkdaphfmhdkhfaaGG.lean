/- Chapter 4: the program shares and drops trees. -/
import Derived.Test.YtkdaphfmhdkhfaaZG
import Derived.Test.YtkdaphfmhdkhfaaZV
import Derived.Test.YtkdaphfmhdkhfaaT8
namespace Go.Proofs.Ytkdaphfmhdkhfaa
open Go.RowKit

theorem below_S {B : Nat} {a b c : World} (h : Below B a b) (k : KeptS (fun x => B ≤ x) b c) (hB : B ≤ b.heap.size) : Below B a c := h.trans ⟨k.os, k.tape, k.output, k.size, fun i hi => k.block i (by omega) (by omega)⟩
/-- the answer with a code -/
theorem FoRes.bad {w w' : World} (cd : Int) (hb : Below w.heap.size w w') : FoRes true w w' (.returned (.agg #[.int .i64 cd, .int .i64 0, .slice none 0 0, .slice none 0 0])) cd 0 ([], []) := ⟨_, _, _, _, _, _, _, rfl, FoAt.nil _ _ _ _, hb⟩
section
variable {o : Bool} {l u : Nat} (an : Option Addr) (nn cn : Nat) (ab : Option Addr) (nb cb : Nat) (K : Nat → KS) (f : Fo) (w : World) (h : FoAt w o l u an nn cn ab nb cb K f) (hn : nn ≤ 2097152) (hb : nb ≤ 2097152) (hK : ∀ i, i < nn → (K i).2.1 ≤ 2097152)
include h hn hb hK

end

end Go.Proofs.Ytkdaphfmhdkhfaa
