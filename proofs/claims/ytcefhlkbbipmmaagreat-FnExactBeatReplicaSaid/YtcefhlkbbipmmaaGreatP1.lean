/- Chapter 3: blocks: what the model's smaller functions answer. -/
import Derived.Test.YtcefhlkbbipmmaaGreatMark2
import Derived.Test.YtcefhlkbbipmmaaGreatEq
import Derived.Test.YtcefhlkbbipmmaaGreatZT
import Derived.Test.YtcefhlkbbipmmaaGreatSm
import Derived.Test.YtcefhlkbbipmmaaGreatCopy
namespace Go.Proofs.YtcefhlkbbipmmaaGreat
open Go.RowKit

theorem l1In_bool (x a b : Int) (w : World) (d : Bool) (h : decide (a ≤ x ∧ x ≤ b) = d) : Calls Tryz.prog 117 #[.int .i64 x, .int .i64 a, .int .i64 b] w fun e w' => e = .returned (.bool d) ∧ w' = w := by rw [← h]; exact l1In_any x a b w
theorem l3Data_is (x : Int) (w : World) (d : Bool) (h : dataB x = d) : Calls Tryz.prog 184 #[.int .i64 x] w fun e w' => e = .returned (.bool d) ∧ w' = w := by
  have H : Hid (decide (0 ≤ x ∧ x ≤ 255) = d) := h
  clear h
  go_enter Tryz.func184, Tryz.ntmps184
  go_wp2_with fail
  refine (l1In_bool x 0 255 _ d H.out).mono ?_
  rintro e w1 ⟨rfl, rfl⟩
  go_wp2
  go_ret
  exact ⟨rfl, rfl⟩

end Go.Proofs.YtcefhlkbbipmmaaGreat
