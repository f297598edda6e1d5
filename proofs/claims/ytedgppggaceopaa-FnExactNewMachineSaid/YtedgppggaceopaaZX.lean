/- Chapter 4: one more refers to each of some kids: what the model does. -/
import Derived.Test.YtedgppggaceopaaZW
import Derived.BigQuiet
import Derived.Test.YtedgppggaceopaaZT
namespace Go.Proofs.Ytedgppggaceopaa
open Go.RowKit

end Go.Proofs.Ytedgppggaceopaa

/- Chapter 4: the leaf of a place with another block there: what the model does. -/
namespace Go.Proofs.Ytedgppggaceopaa
open Go.RowKit

def LeafRes (w w' : World) (e : Ending) (lo P : Nat) (ab : Option Addr) (nb cb : Nat) (r : Int × Int × Fo) : Prop :=
  (r.2.1 ≠ 0 ∧ e = .returned (.tuple #[.int .i64 (-1), .int .i64 r.2.1]) ∧ Below lo w w') ∨
  (r.2.1 = 0 ∧ e = .returned (.tuple #[.int .i64 r.1, .int .i64 0]) ∧ (∃ vn' K', OutAt w' lo P vn' ab nb cb K' r.2.2) ∧ Below lo w w')
theorem LeafRes.ok {w w' : World} {e : Ending} {lo P : Nat} {ab : Option Addr} {nb cb : Nat} {x : Int} {g : Fo} {vn' : Value} {K' : Nat → KS} (he : e = .returned (.tuple #[.int .i64 x, .int .i64 0])) (I : OutAt w' lo P vn' ab nb cb K' g) (hb : Below lo w w') : LeafRes w w' e lo P ab nb cb (x, 0, g) := Or.inr ⟨rfl, he, ⟨_, _, I⟩, hb⟩
end Go.Proofs.Ytedgppggaceopaa

/- Chapter 4: the root with another leaf at a place: what the model does. -/
namespace Go.Proofs.Ytedgppggaceopaa
open Go.RowKit

end Go.Proofs.Ytedgppggaceopaa

/- Chapter 4: a place with another block: what the model does. -/
namespace Go.Proofs.Ytedgppggaceopaa
open Go.RowKit

end Go.Proofs.Ytedgppggaceopaa
