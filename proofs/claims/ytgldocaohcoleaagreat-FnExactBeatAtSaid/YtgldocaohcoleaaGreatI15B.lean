/- What is asked of a mail's numbers, in plain words. -/
import Derived.Test.YtgldocaohcoleaaGreatWHB
namespace Go.Proofs.YtgldocaohcoleaaGreat
open Go.RowKit
def numN (A P L : Bool) (m : Ml) : Prop := (A = true → 0 ≤ m.at_ ∧ m.at_ ≤ 40) ∧ (P = true → 0 ≤ m.commit ∧ m.commit ≤ 40) ∧ (L = true → 0 ≤ m.last ∧ m.last ≤ m.view)
instance (A P L : Bool) (m : Ml) : Decidable (numN A P L m) := by unfold numN; infer_instance
end Go.Proofs.YtgldocaohcoleaaGreat
