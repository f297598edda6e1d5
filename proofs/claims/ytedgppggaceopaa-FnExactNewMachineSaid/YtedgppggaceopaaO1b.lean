/- Chapter 5: the fault of an operation, of the model and of the program. -/
import Derived.Test.YtedgppggaceopaaYP
namespace Go.Proofs.Ytedgppggaceopaa
open Go.RowKit

theorem l1In_is' (x a b : Int) (w : World) (d : Bool) (h : decide (a ≤ x ∧ x ≤ b) = d) : Calls Try.prog 45 #[.int .i64 x, .int .i64 a, .int .i64 b] w fun e w' => e = .returned (.bool d) ∧ w' = w := by rw [← h]; exact l1In_any x a b w

end Go.Proofs.Ytedgppggaceopaa
