/- Chapter 3: blocks: what the model's smaller functions answer. -/
import Derived.Test.YtikplcpgocgogaaMark2
import Derived.Test.YtikplcpgocgogaaChecked
import Derived.Test.YtikplcpgocgogaaBase
import Derived.WalkLawsBesides
import Derived.Deep.QuietTactic
import Derived.BigQuiet
import Derived.Deep.RegionHeld3
import Derived.Test.YtikplcpgocgogaaZT
import Derived.Test.YtikplcpgocgogaaSm
import Derived.Test.YtikplcpgocgogaaCopy
namespace Go.Proofs.Ytikplcpgocgogaa
open Go.RowKit

theorem l1In_bool (x a b : Int) (w : World) (d : Bool) (h : decide (a ≤ x ∧ x ≤ b) = d) : Calls Try.prog 104 #[.int .i64 x, .int .i64 a, .int .i64 b] w fun e w' => e = .returned (.bool d) ∧ w' = w := by rw [← h]; exact l1In_any x a b w
theorem l3Data_is (x : Int) (w : World) (d : Bool) (h : dataB x = d) : Calls Try.prog 164 #[.int .i64 x] w fun e w' => e = .returned (.bool d) ∧ w' = w := by
  have H : Hid (decide (0 ≤ x ∧ x ≤ 255) = d) := h
  clear h
  go_enter Try.func164, Try.ntmps164
  go_wp2_with fail
  refine (l1In_bool x 0 255 _ d H.out).mono ?_
  rintro e w1 ⟨rfl, rfl⟩
  go_wp2
  go_ret
  exact ⟨rfl, rfl⟩

end Go.Proofs.Ytikplcpgocgogaa
