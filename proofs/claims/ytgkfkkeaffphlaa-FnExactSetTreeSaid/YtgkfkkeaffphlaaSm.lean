/- The small functions of the disk's laws: what each answers. -/
import Derived.Test.YtgkfkkeaffphlaaChecked
import Derived.Test.YtgkfkkeaffphlaaBase
import Derived.WalkLawsBesides
namespace Go.Proofs.Ytgkfkkeaffphlaa
open Go.RowKit

def wordB (x : Int) : Bool := decide (0 ≤ x ∧ x ≤ 65535)
def placeB (x : Int) : Bool := decide (0 ≤ x ∧ x ≤ 63)

theorem isWord_any (x : Int) (w : World) : Calls Try.prog 117 #[.int .i64 x] w fun e w' => e = .returned (.bool (wordB x)) ∧ w' = w := by
  by_cases h : 0 ≤ x <;> by_cases h2 : x ≤ 65535
  all_goals
    go_enter Try.func117, Try.ntmps117
    go_wp2
    go_ret
    exact ⟨by simp [wordB, h, h2], rfl⟩

theorem isSector_any (x : Int) (w : World) : Calls Try.prog 118 #[.int .i64 x] w fun e w' => e = .returned (.bool (placeB x)) ∧ w' = w := by
  by_cases h : 0 ≤ x <;> by_cases h2 : x < 64
  all_goals
    go_enter Try.func118, Try.ntmps118
    go_wp2
    go_ret
    exact ⟨by simp [placeB, h]; omega, rfl⟩

theorem l1In_any (x a b : Int) (w : World) : Calls Try.prog 162 #[.int .i64 x, .int .i64 a, .int .i64 b] w fun e w' => e = .returned (.bool (decide (a ≤ x ∧ x ≤ b))) ∧ w' = w := by
  by_cases h : a ≤ x <;> by_cases h2 : x ≤ b
  all_goals
    go_enter Try.func162, Try.ntmps162
    go_wp2
    go_ret
    exact ⟨by simp [h, h2], rfl⟩

theorem l1Word_any (x : Int) (w : World) : Calls Try.prog 156 #[.int .i64 x] w fun e w' => e = .returned (.bool (wordB x)) ∧ w' = w := by
  go_enter Try.func156, Try.ntmps156
  go_wp2_with fail
  refine (l1In_any _ _ _ _).mono ?_
  rintro e w' ⟨rfl, rfl⟩
  go_wp2
  go_ret
  exact ⟨ret_bool (by simp [wordB]), rfl⟩

theorem l1Place_any (x : Int) (w : World) : Calls Try.prog 155 #[.int .i64 x] w fun e w' => e = .returned (.bool (placeB x)) ∧ w' = w := by
  go_enter Try.func155, Try.ntmps155
  go_wp2_with fail
  refine (l1In_any _ _ _ _).mono ?_
  rintro e w' ⟨rfl, rfl⟩
  go_wp2
  go_ret
  exact ⟨ret_bool (by simp [placeB]), rfl⟩

theorem szInts_any (ao : Option Addr) (n cap : Nat) (l : Int) (w : World) (hn : n ≤ maxLen) (h0 : 0 ≤ l) (h1 : l ≤ 1048576) :
    Calls Try.prog 150 #[.slice ao n cap, .int .i64 l] w fun e w' => e = .returned (.int .i64 (if l < n then -1 else l - n)) ∧ w' = w := by
  unfold maxLen at hn
  by_cases h : l < n
  all_goals
    go_enter Try.func150, Try.ntmps150
    go_wp2
    go_ret
    exact ⟨by simp, rfl⟩

theorem szPuts_any (ao : Option Addr) (n cap : Nat) (l : Int) (w : World) (hn : n ≤ maxLen) (h0 : 0 ≤ l) (h1 : l ≤ 1048576) :
    Calls Try.prog 151 #[.slice ao n cap, .int .i64 l] w fun e w' => e = .returned (.int .i64 (if l < n then -1 else l - n)) ∧ w' = w := by
  unfold maxLen at hn
  by_cases h : l < n
  all_goals
    go_enter Try.func151, Try.ntmps151
    go_wp2
    go_ret
    exact ⟨by simp, rfl⟩

/-- the law's size: below 0 where the disk is too great, else no less than 0 -/
theorem szDisk_any (a0 a1 : Option Addr) (n0 c0 n1 c1 : Nat) (w : World) (hn0 : n0 ≤ maxLen) (hn1 : n1 ≤ maxLen) :
    Calls Try.prog 61 #[.agg #[.slice a0 n0 c0, .slice a1 n1 c1], .int .i64 1048576] w fun e w' => ∃ r : Int, e = .returned (.int .i64 r) ∧ Below w.heap.size w w' ∧ (r < 0 ∨ (0 ≤ r ∧ n0 + n1 ≤ 1048576)) := by
  by_cases h : (1048576 : Int) < n0
  · go_enter Try.func61, Try.ntmps61
    go_wp2_with fail
    refine (szInts_any _ _ _ _ _ hn0 (by omega) (by omega)).mono ?_
    rintro e w' ⟨rfl, rfl⟩
    rw [if_pos (by omega)]
    go_wp2
    go_ret
    exact ⟨_, rfl, (Below.refl _ _).alloc (Nat.le_refl _) _, Or.inl (by omega)⟩
  · go_enter Try.func61, Try.ntmps61
    go_wp2_with fail
    refine (szInts_any _ _ _ _ _ hn0 (by omega) (by omega)).mono ?_
    rintro e w' ⟨rfl, rfl⟩
    rw [if_neg (by omega)]
    have hp : ¬ (1048576 - (n0 : Int) < 0) := by omega
    go_wp2_with fail
    refine (szPuts_any _ _ _ _ _ hn1 (by omega) (by omega)).mono ?_
    rintro e w' ⟨rfl, rfl⟩
    by_cases h2 : (1048576 - (n0 : Int)) < n1
    · rw [if_pos (by omega)]
      go_wp2
      go_ret
      exact ⟨_, rfl, (Below.refl _ _).alloc (Nat.le_refl _) _, Or.inl (by omega)⟩
    · rw [if_neg (by omega)]
      have hp2 : ¬ (1048576 - (n0 : Int) - n1 < 0) := by omega
      go_wp2
      go_ret
      exact ⟨_, rfl, (Below.refl _ _).alloc (Nat.le_refl _) _, Or.inr ⟨by omega, by omega⟩⟩

end Go.Proofs.Ytgkfkkeaffphlaa
