/- Chapter 11: a cluster that is answered, told with its range. No function is named here. -/
import Derived.Test.YtannjgdginfgeaaCZ0
namespace Go.Proofs.Ytannjgdginfgeaa
open Go.RowKit

/-- a cluster that is answered, told with the range that its lists lie in -/
def ClZ (own : Bool) (w w' : World) (e : Ending) (cd : Int) (rs : List Rep) (ms : List Ml) (es : List En) : Prop := ∃ (z u : Nat) (N M S : Hd) (xs : List Nod) (ys : List Mal), e = .returned (.agg #[.int .i64 cd, .slice N.1 N.2.1 N.2.2, .slice M.1 M.2.1 M.2.2, .slice S.1 S.2.1 S.2.2]) ∧ w.heap.size ≤ z ∧ u ≤ w'.heap.size ∧ ClAt w' own z u N M S xs ys es ∧ ClSz N M S xs ys 1048576 ∧ xs.map (·.1) = rs ∧ ys.map (·.1) = ms ∧ Below w.heap.size w w'
theorem ClRes.z {own : Bool} {w w' : World} {e : Ending} {cd : Int} {rs : List Rep} {ms : List Ml} {es : List En} (h : ClRes own w w' e cd rs ms es) : ClZ own w w' e cd rs ms es := by
  obtain ⟨N, M, S, xs, ys, e1, x, s, e2, e3, b⟩ := h
  exact ⟨_, _, N, M, S, xs, ys, e1, Nat.le_refl _, Nat.le_refl _, x, s, e2, e3, b⟩
theorem clz_sum {w : World} {o : Bool} {z u : Nat} {N M S : Hd} {xs : List Nod} {ys : List Mal} {es : List En} (x : ClAt w o z u N M S xs ys es) : nsum xs = nlen (xs.map (·.1)) := nsum_eq xs x.nodes.each

end Go.Proofs.Ytannjgdginfgeaa
