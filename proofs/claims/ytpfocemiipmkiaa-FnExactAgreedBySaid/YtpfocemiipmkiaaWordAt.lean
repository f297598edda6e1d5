/- What the program's and the model's WordAt answer, and that two alike answers are told to be equal. -/
import Derived.Test.YtpfocemiipmkiaaEX
import Derived.Test.YtpfocemiipmkiaaAll
namespace Go.Proofs.Ytpfocemiipmkiaa
open Go.RowKit

set_option maxHeartbeats 400000 in
theorem eqNRes_yes (c v : Int) (w : World) :
    Calls Try.prog 33 #[.agg #[.int .i64 c, .int .i64 v], .agg #[.int .i64 c, .int .i64 v]] w fun e w' => e = .returned (.bool true) ∧ Below w.heap.size w w' := by
  have he : (c != c) = false := by simp
  have hv : (v != v) = false := by simp
  go_enter Try.func33, Try.ntmps33
  go_wp2
  go_ret
  exact ⟨rfl, ((Below.refl _ _).alloc (Nat.le_refl _) _).alloc (by simp) _⟩

end Go.Proofs.Ytpfocemiipmkiaa
