/- Chapter 9: the fault of a replica, of the model. -/
import Derived.Test.YtpfocemiipmkiaaWC
namespace Go.Proofs.Ytpfocemiipmkiaa
open Go.RowKit

theorem l9View_is (n : Int) (w : World) (d : Bool) (h : decide (0 ≤ n ∧ n ≤ 200) = d) : Calls Try.prog 92 #[.int .i64 n] w fun e w' => e = .returned (.bool d) ∧ w' = w := by
  go_enter Try.func92, Try.ntmps92
  go_wp2_with fail
  refine (l1In_is' n 0 200 _ d h).mono ?_
  rintro e W9 ⟨rfl, rfl⟩
  go_wp2
  go_ret
  exact ⟨rfl, rfl⟩
end Go.Proofs.Ytpfocemiipmkiaa
