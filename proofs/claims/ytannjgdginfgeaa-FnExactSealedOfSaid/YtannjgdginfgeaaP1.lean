/- Chapter 3: blocks: what the model's smaller functions answer. -/
import Derived.Test.YtannjgdginfgeaaZA
import Derived.Test.YtannjgdginfgeaaZT
namespace Go.Proofs.Ytannjgdginfgeaa
open Go.RowKit

theorem l1In_bool (x a b : Int) (w : World) (d : Bool) (h : decide (a ≤ x ∧ x ≤ b) = d) : Calls Try.prog 90 #[.int .i64 x, .int .i64 a, .int .i64 b] w fun e w' => e = .returned (.bool d) ∧ w' = w := by rw [← h]; exact l1In_any x a b w
theorem l3Data_is (x : Int) (w : World) (d : Bool) (h : dataB x = d) : Calls Try.prog 132 #[.int .i64 x] w fun e w' => e = .returned (.bool d) ∧ w' = w := by
  have H : Hid (decide (0 ≤ x ∧ x ≤ 255) = d) := h
  clear h
  go_enter Try.func132, Try.ntmps132
  go_wp2_with fail
  refine (l1In_bool x 0 255 _ d H.out).mono ?_
  rintro e w1 ⟨rfl, rfl⟩
  go_wp2
  go_ret
  exact ⟨rfl, rfl⟩

end Go.Proofs.Ytannjgdginfgeaa
