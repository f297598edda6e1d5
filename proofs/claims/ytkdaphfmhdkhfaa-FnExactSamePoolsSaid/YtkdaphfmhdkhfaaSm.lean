/- The small functions of the disk's laws: what each answers. -/
import Derived.Test.YtkdaphfmhdkhfaaChecked
import Derived.Test.YtkdaphfmhdkhfaaBase
import Derived.WalkLawsBesides
namespace Go.Proofs.Ytkdaphfmhdkhfaa
open Go.RowKit

def wordB (x : Int) : Bool := decide (0 ≤ x ∧ x ≤ 65535)
def placeB (x : Int) : Bool := decide (0 ≤ x ∧ x ≤ 63)

theorem isWord_any (x : Int) (w : World) : Calls Try.prog 146 #[.int .i64 x] w fun e w' => e = .returned (.bool (wordB x)) ∧ w' = w := by
  by_cases h : 0 ≤ x <;> by_cases h2 : x ≤ 65535
  all_goals
    go_enter Try.func146, Try.ntmps146
    go_wp2
    go_ret
    exact ⟨by simp [wordB, h, h2], rfl⟩

theorem isSector_any (x : Int) (w : World) : Calls Try.prog 147 #[.int .i64 x] w fun e w' => e = .returned (.bool (placeB x)) ∧ w' = w := by
  by_cases h : 0 ≤ x <;> by_cases h2 : x < 64
  all_goals
    go_enter Try.func147, Try.ntmps147
    go_wp2
    go_ret
    exact ⟨by simp [placeB, h]; omega, rfl⟩

theorem l1In_any (x a b : Int) (w : World) : Calls Try.prog 196 #[.int .i64 x, .int .i64 a, .int .i64 b] w fun e w' => e = .returned (.bool (decide (a ≤ x ∧ x ≤ b))) ∧ w' = w := by
  by_cases h : a ≤ x <;> by_cases h2 : x ≤ b
  all_goals
    go_enter Try.func196, Try.ntmps196
    go_wp2
    go_ret
    exact ⟨by simp [h, h2], rfl⟩

theorem l1Word_any (x : Int) (w : World) : Calls Try.prog 190 #[.int .i64 x] w fun e w' => e = .returned (.bool (wordB x)) ∧ w' = w := by
  go_enter Try.func190, Try.ntmps190
  go_wp2_with fail
  refine (l1In_any _ _ _ _).mono ?_
  rintro e w' ⟨rfl, rfl⟩
  go_wp2
  go_ret
  exact ⟨ret_bool (by simp [wordB]), rfl⟩

theorem l1Place_any (x : Int) (w : World) : Calls Try.prog 189 #[.int .i64 x] w fun e w' => e = .returned (.bool (placeB x)) ∧ w' = w := by
  go_enter Try.func189, Try.ntmps189
  go_wp2_with fail
  refine (l1In_any _ _ _ _).mono ?_
  rintro e w' ⟨rfl, rfl⟩
  go_wp2
  go_ret
  exact ⟨ret_bool (by simp [placeB]), rfl⟩

theorem szInts_any (ao : Option Addr) (n cap : Nat) (l : Int) (w : World) (hn : n ≤ maxLen) (h0 : 0 ≤ l) (h1 : l ≤ 1048576) :
    Calls Try.prog 184 #[.slice ao n cap, .int .i64 l] w fun e w' => e = .returned (.int .i64 (if l < n then -1 else l - n)) ∧ w' = w := by
  unfold maxLen at hn
  by_cases h : l < n
  all_goals
    go_enter Try.func184, Try.ntmps184
    go_wp2
    go_ret
    exact ⟨by simp, rfl⟩

theorem szPuts_any (ao : Option Addr) (n cap : Nat) (l : Int) (w : World) (hn : n ≤ maxLen) (h0 : 0 ≤ l) (h1 : l ≤ 1048576) :
    Calls Try.prog 185 #[.slice ao n cap, .int .i64 l] w fun e w' => e = .returned (.int .i64 (if l < n then -1 else l - n)) ∧ w' = w := by
  unfold maxLen at hn
  by_cases h : l < n
  all_goals
    go_enter Try.func185, Try.ntmps185
    go_wp2
    go_ret
    exact ⟨by simp, rfl⟩

/-- the law's size: below 0 where the disk is too great, else no less than 0 -/
theorem szDisk_any (a0 a1 : Option Addr) (n0 c0 n1 c1 : Nat) (w : World) (hn0 : n0 ≤ maxLen) (hn1 : n1 ≤ maxLen) :
    Calls Try.prog 74 #[.agg #[.slice a0 n0 c0, .slice a1 n1 c1], .int .i64 1048576] w fun e w' => ∃ r : Int, e = .returned (.int .i64 r) ∧ Below w.heap.size w w' ∧ (r < 0 ∨ (0 ≤ r ∧ n0 + n1 ≤ 1048576)) := by
  by_cases h : (1048576 : Int) < n0
  · go_enter Try.func74, Try.ntmps74
    go_wp2_with fail
    refine (szInts_any _ _ _ _ _ hn0 (by omega) (by omega)).mono ?_
    rintro e w' ⟨rfl, rfl⟩
    rw [if_pos (by omega)]
    go_wp2
    go_ret
    exact ⟨_, rfl, (Below.refl _ _).alloc (Nat.le_refl _) _, Or.inl (by omega)⟩
  · go_enter Try.func74, Try.ntmps74
    go_wp2_with fail
    refine (szInts_any _ _ _ _ _ hn0 (by omega) (by omega)).mono ?_
    rintro e w' ⟨rfl, rfl⟩
    rw [if_neg (by omega)]
    have hp : ¬ (1048576 - (n0 : Int) < 0) := by omega
    go_wp2_with fail
    refine (szPuts_any _ _ _ _ _ hn1 (by omega) (by omega)).mono ?_
    rintro e w' ⟨rfl, rfl⟩
    by_cases h2 : (1048576 - (n0 : Int)) < n1
    · rw [if_pos (by omega)]
      go_wp2
      go_ret
      exact ⟨_, rfl, (Below.refl _ _).alloc (Nat.le_refl _) _, Or.inl (by omega)⟩
    · rw [if_neg (by omega)]
      have hp2 : ¬ (1048576 - (n0 : Int) - n1 < 0) := by omega
      go_wp2
      go_ret
      exact ⟨_, rfl, (Below.refl _ _).alloc (Nat.le_refl _) _, Or.inr ⟨by omega, by omega⟩⟩

end Go.Proofs.Ytkdaphfmhdkhfaa
