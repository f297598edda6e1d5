/- Short names for what a walk says again and again. No program is named here. -/
import Derived.Test.YtannjgdginfgeaaWA
import Derived.Deep.RegionHeld
namespace Go.Proofs.Ytannjgdginfgeaa
open Go.RowKit
theorem Bx.kp {w W : World} {b lo hi : Nat} {vs : List Value} (h : Bx w b vs) (hk : Kept lo hi w W) (hd : b < lo ∨ hi ≤ b := by omega) : Bx W b vs := h.kept hk hd
theorem bkp {w W W' : World} {b u : Nat} (B : Below w.heap.size w W) (hk : Kept b u W W') (h : w.heap.size ≤ b := by omega) : Below w.heap.size w W' := B.trans (hk.below _ h B.size)
theorem ltl {a b c : Nat} (h : a < b) (k : b ≤ c) : a < c := Nat.lt_of_lt_of_le h k
/-- the one operation that may come next -/
theorem rd1 {P : Program} {ops : Array Oper} {Q : Exit → Act → World → Prop} {md : Region.Mode} {S : World → Prop} (i : Nat) {o : Oper} {fuel : Nat} {listed : Array Bool} {a : Act} {w : World}
    (h : ∀ K' : Act → World → Prop, Shut (∀ a w, S w → (S w → wpAnyH P md ops Q S fuel (listed.setIfInBounds i true) a w) → K' a w) → if Region.wanted o (yielded ops a.tmps) = true then Oper.wp P o a w K' Q else K' (a.put o.dst undef) w)
    (hr : Region.ready md ops listed = [i] := by kernel_rfl) (ho : ops[i]? = some o := by rfl) : wpAnyH P md ops Q S (fuel + 1) listed a w := wpAnyH_ready hr (by simp) (AllReadyH.cons ho h AllReadyH.nil)
end Go.Proofs.Ytannjgdginfgeaa
