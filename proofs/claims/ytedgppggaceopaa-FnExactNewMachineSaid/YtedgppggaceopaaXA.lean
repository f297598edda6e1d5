/- Chapter 8: entries in memory: rows of six cells. -/
import Derived.Test.YtedgppggaceopaaZM
import Derived.Test.YtedgppggaceopaaYE
import Derived.Test.YtedgppggaceopaaO1b
import Derived.Laws.Tables
import Derived.Deep.WholeRow
namespace Go.Proofs.Ytedgppggaceopaa
open Go.RowKit

end Go.Proofs.Ytedgppggaceopaa

/- Chapter 8: the fault of an entry, of the model and of the program. -/
namespace Go.Proofs.Ytedgppggaceopaa
open Go.RowKit

theorem decide_eq_false_eq {q : Prop} [Decidable q] : (decide q = false) = ¬ q := by simp
theorem isClient_is (x : Int) (w : World) (d : Bool) (h : decide (1 ≤ x ∧ x ≤ 99) = d) : Calls Try.prog 54 #[.int .i64 x] w fun e w' => e = .returned (.bool d) ∧ w' = w := by
  by_cases h1 : 1 ≤ x
  · by_cases h2 : x ≤ 99
    · have e : d = true := by rw [← h]; exact decide_eq_true ⟨h1, h2⟩
      subst e
      clear h
      go_enter Try.func54, Try.ntmps54
      go_wp2
      go_ret
      exact ⟨rfl, rfl⟩
    · have e : d = false := by rw [← h]; exact decide_eq_false (by omega)
      subst e
      clear h
      go_enter Try.func54, Try.ntmps54
      go_wp2
      go_ret
      exact ⟨rfl, rfl⟩
  · have e : d = false := by rw [← h]; exact decide_eq_false (by omega)
    subst e
    clear h
    go_enter Try.func54, Try.ntmps54
    go_wp2
    go_ret
    exact ⟨rfl, rfl⟩
theorem isSeq_is (x : Int) (w : World) (d : Bool) (h : decide (1 ≤ x ∧ x ≤ 999) = d) : Calls Try.prog 55 #[.int .i64 x] w fun e w' => e = .returned (.bool d) ∧ w' = w := by
  by_cases h1 : 1 ≤ x
  · by_cases h2 : x ≤ 999
    · have e : d = true := by rw [← h]; exact decide_eq_true ⟨h1, h2⟩
      subst e
      clear h
      go_enter Try.func55, Try.ntmps55
      go_wp2
      go_ret
      exact ⟨rfl, rfl⟩
    · have e : d = false := by rw [← h]; exact decide_eq_false (by omega)
      subst e
      clear h
      go_enter Try.func55, Try.ntmps55
      go_wp2
      go_ret
      exact ⟨rfl, rfl⟩
  · have e : d = false := by rw [← h]; exact decide_eq_false (by omega)
    subst e
    clear h
    go_enter Try.func55, Try.ntmps55
    go_wp2
    go_ret
    exact ⟨rfl, rfl⟩
end Go.Proofs.Ytedgppggaceopaa
