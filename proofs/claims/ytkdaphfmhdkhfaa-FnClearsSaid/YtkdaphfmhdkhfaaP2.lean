/- Chapter 3: blocks: what the model's functions answer. -/
import Derived.Test.YtkdaphfmhdkhfaaP1
import Derived.Test.YtkdaphfmhdkhfaaFacts
namespace Go.Proofs.Ytkdaphfmhdkhfaa
open Go.RowKit

theorem pairs_set (bs : List (Int × Int)) : ∀ (k : Nat) (p : Int × Int), ((pairs bs).set (k * 2) (.int .i64 p.1)).set (k * 2 + 1) (.int .i64 p.2) = pairs (bs.set k p) := by
  induction bs with
  | nil => intro k p; simp [pairs]
  | cons q r ih =>
    intro k p
    cases k with
    | zero => simp [pairs]
    | succ k =>
      have := ih k p
      simp only [pairs, List.flatMap_cons, List.cons_append, List.nil_append, Nat.succ_mul, List.set_cons_succ] at this ⊢
      rw [← this]
theorem pairs_set1 (bs : List (Int × Int)) : ∀ (k : Nat) (x : Int), (pairs bs).set (k * 2) (.int .i64 x) = pairs (bs.set k (x, (bs.getD k (0, 0)).2)) := by
  induction bs with
  | nil => intro k x; simp [pairs]
  | cons q r ih =>
    intro k x
    cases k with
    | zero => simp [pairs]
    | succ k =>
      have := ih k x
      simp only [pairs, List.flatMap_cons, List.cons_append, List.nil_append, Nat.succ_mul, List.set_cons_succ, List.getD_cons_succ] at this ⊢
      rw [← this]
theorem pairs_set2 (bs : List (Int × Int)) : ∀ (k : Nat) (y : Int), (pairs bs).set (k * 2 + 1) (.int .i64 y) = pairs (bs.set k ((bs.getD k (0, 0)).1, y)) := by
  induction bs with
  | nil => intro k x; simp [pairs]
  | cons q r ih =>
    intro k x
    cases k with
    | zero => simp [pairs]
    | succ k =>
      have := ih k x
      simp only [pairs, List.flatMap_cons, List.cons_append, List.nil_append, Nat.succ_mul, List.set_cons_succ, List.getD_cons_succ] at this ⊢
      rw [← this]

theorem l3Bad_any (c : Int) (w : World) : Calls Try.prog 156 #[.int .i64 c] w fun e w' => e = .returned (.agg #[.int .i64 c, .int .i64 0, .slice none 0 0]) ∧ Below w.heap.size w w' := by
  go_enter Try.func156, Try.ntmps156
  go_wp2
  refine bodyPost_ret (v := .agg #[.int .i64 c, .int .i64 0, .slice none 0 0]) (by simp [results, Try.results156, go_sem]) rfl ⟨rfl, ?_⟩
  exact (Below.refl _ _).alloc (Nat.le_refl _) _

end Go.Proofs.Ytkdaphfmhdkhfaa
