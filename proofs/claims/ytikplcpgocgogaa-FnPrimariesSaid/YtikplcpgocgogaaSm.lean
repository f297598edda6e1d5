/- The small functions of the disk's laws: what each answers. -/
import Derived.Test.YtikplcpgocgogaaChecked
import Derived.Test.YtikplcpgocgogaaBase
import Derived.WalkLawsBesides
namespace Go.Proofs.Ytikplcpgocgogaa
open Go.RowKit

theorem l1In_any (x a b : Int) (w : World) : Calls Try.prog 104 #[.int .i64 x, .int .i64 a, .int .i64 b] w fun e w' => e = .returned (.bool (decide (a ≤ x ∧ x ≤ b))) ∧ w' = w := by
  by_cases h : a ≤ x <;> by_cases h2 : x ≤ b
  all_goals
    go_enter Try.func104, Try.ntmps104
    go_wp2
    go_ret
    exact ⟨by simp [h, h2], rfl⟩

end Go.Proofs.Ytikplcpgocgogaa
