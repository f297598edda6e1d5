/- Chapter 9: the numbers of a mail, and what it has that its kind has not, of the model. -/
import Derived.Test.YtclghfoinologaaGreatWH
import Derived.Test.YtclghfoinologaaGreatI5a
set_option maxRecDepth 20000
set_option maxHeartbeats 16000000
namespace Go.Proofs.YtclghfoinologaaGreat
open Go.RowKit
def numN (A P L : Bool) (m : Ml) : Prop := (A = true → 0 ≤ m.at_ ∧ m.at_ ≤ 40) ∧ (P = true → 0 ≤ m.commit ∧ m.commit ≤ 40) ∧ (L = true → 0 ≤ m.last ∧ m.last ≤ m.view)
instance (A P L : Bool) (m : Ml) : Decidable (numN A P L m) := by unfold numN; infer_instance
end Go.Proofs.YtclghfoinologaaGreat
