/- Chapter 10: how many ask, by the program and by the model. -/
import Derived.Test.YtannjgdginfgeaaWS
import Derived.Test.YtannjgdginfgeaaWN
import Derived.Deep.DeepCutAuto
namespace Go.Proofs.Ytannjgdginfgeaa
open Go.RowKit

end Go.Proofs.Ytannjgdginfgeaa

/- Chapter 10: who told of itself, and how many, by the program and by the model. -/
namespace Go.Proofs.Ytannjgdginfgeaa
open Go.RowKit

/-- does the one of that Id tell: itself, or a Known one where it is not normal -/
def telB (r : Rep) (k : Nat) : Prop := (k : Int) = r.id ∨ r.normal = false ∧ (r.doers.getD k dr0).1 = true
instance (r : Rep) (k : Nat) : Decidable (telB r k) := inferInstanceAs (Decidable (_ ∨ _))
end Go.Proofs.Ytannjgdginfgeaa
