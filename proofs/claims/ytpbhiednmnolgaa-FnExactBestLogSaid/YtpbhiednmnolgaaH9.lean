/- Chapter 8: the best log, by both. -/
import Derived.Test.YtpbhiednmnolgaaEX
import Derived.Test.YtpbhiednmnolgaaH8
import Derived.Test.YtpbhiednmnolgaaYL
import Derived.Test.YtpbhiednmnolgaaYE
import Derived.BigQuiet
namespace Go.Proofs.Ytpbhiednmnolgaa
open Go.RowKit

def betB (la lb : Int) (na nb : Nat) : Bool := decide (lb < la ∨ (la = lb ∧ nb < na))
def bestTo (ls : List Int) (xss : List (List En)) : Nat → Nat
  | 0 => 0
  | k + 1 => if betB (ls.getD k 0) (ls.getD (bestTo ls xss k) 0) (xss.getD k []).length (xss.getD (bestTo ls xss k) []).length = true then k else bestTo ls xss k
theorem bestTo_lt (ls : List Int) (xss : List (List En)) : ∀ k, 0 < k → bestTo ls xss k < k := by
  intro k
  induction k with
  | zero => intro h; omega
  | succ k ih =>
    intro _
    unfold bestTo
    split
    · omega
    · rcases Nat.eq_zero_or_pos k with h | h
      · subst h; unfold bestTo; omega
      · have := ih h; omega
theorem bestTo_one (ls : List Int) (xss : List (List En)) : bestTo ls xss 1 = 0 := by have := bestTo_lt ls xss 1 (by omega); omega
theorem bestTo_le (ls : List Int) (xss : List (List En)) (k n : Nat) (h : k < n) : bestTo ls xss k < n := by
  rcases Nat.eq_zero_or_pos k with q | q
  · subst q; unfold bestTo; omega
  · have := bestTo_lt ls xss k q; omega
def bestR (ls : List Int) (xss : List (List En)) : Int × Nat := if ls.length ≠ xss.length then (1, 0) else if xss.length = 0 then (4, 0) else (0, bestTo ls xss xss.length)
theorem bet_cmp (la lb : Int) (na nb : Nat) : decide (0 < (if cmpI la lb = 0 then cmpI (na : Int) (nb : Int) else cmpI la lb)) = betB la lb na nb := by
  unfold betB
  rcases cmpI_is la lb with ⟨e, h⟩ | ⟨e, h⟩ | ⟨e, h⟩
  · rw [e, if_neg (by decide), decide_eq_false (by decide), decide_eq_false (by omega)]
  · rw [e, if_pos rfl]
    rcases cmpI_is (na : Int) (nb : Int) with ⟨e, h⟩ | ⟨e, h⟩ | ⟨e, h⟩
    · rw [e, decide_eq_false (by decide), decide_eq_false (by omega)]
    · rw [e, decide_eq_false (by decide), decide_eq_false (by omega)]
    · rw [e, decide_eq_true (by decide), decide_eq_true (by omega)]
  · rw [e, if_neg (by decide), decide_eq_true (by decide), decide_eq_true (by omega)]
theorem isNaNi_is (x : Int) (w : World) : Calls Try.prog 88 #[.int .i64 x] w fun e w' => e = .returned (.bool false) ∧ w' = w := by
  have hx : (x != x) = false := by simp
  go_enter Try.func88, Try.ntmps88
  go_wp2
  go_ret
  exact ⟨rfl, rfl⟩
theorem cmpInt_is (a b : Int) (w : World) (d : Int) (hd : cmpI a b = d) : Calls Try.prog 85 #[.int .i64 a, .int .i64 b] w fun e w' => e = .returned (.int .i64 d) ∧ w' = w := by
  have HD : Hid _ := hd
  clear hd
  go_enter Try.func85, Try.ntmps85
  go_wp2_with fail
  refine (isNaNi_is a _).mono ?_
  rintro e _ ⟨rfl, rfl⟩
  go_wp2_with fail
  refine (isNaNi_is b _).mono ?_
  rintro e _ ⟨rfl, rfl⟩
  rcases cmpI_is a b with ⟨e, h⟩ | ⟨e, h⟩ | ⟨e, h⟩
  · have HE : Hid _ := e
    clear e
    go_wp2
    go_ret
    exact ⟨ret_int (by rw [← HD.out, HE.out]), rfl⟩
  · have HE : Hid _ := e
    clear e
    have h1 : ¬ a < b := by omega
    have h2 : ¬ b < a := by omega
    clear h
    go_wp2
    go_ret
    exact ⟨ret_int (by rw [← HD.out, HE.out]), rfl⟩
  · have HE : Hid _ := e
    clear e
    have h1 : ¬ a < b := by omega
    go_wp2
    go_ret
    exact ⟨ret_int (by rw [← HD.out, HE.out]), rfl⟩
set_option maxRecDepth 20000 in
set_option maxHeartbeats 4000000 in
theorem isBetter_is (la lb : Int) (a1 a2 : Option Addr) (na c1 nb c2 : Nat) (w : World) (d : Bool) (hd : betB la lb na nb = d) : Calls Try.prog 69 #[.int .i64 la, .slice a1 na c1, .int .i64 lb, .slice a2 nb c2] w fun e w' => e = .returned (.bool d) ∧ Below w.heap.size w w' := by
  obtain ⟨x, hx⟩ : ∃ x, cmpI la lb = x := ⟨_, rfl⟩
  obtain ⟨y, hy⟩ : ∃ y, cmpI (na : Int) (nb : Int) = y := ⟨_, rfl⟩
  obtain ⟨z, hz⟩ : ∃ z, (if x = 0 then y else x) = z := ⟨_, rfl⟩
  have HD : Hid (decide (0 < z) = d) := by show _ = _; rw [← hd, ← bet_cmp, hx, hy, hz]
  have HX : Hid _ := hx
  have HY : Hid _ := hy
  have HZ : Hid _ := hz
  clear hd hx hy hz
  go_enter Try.func69, Try.ntmps69
  go_wp2_with fail
  refine (cmp64_is la lb _ x HX.out).mono ?_
  rintro e W ⟨rfl, rfl⟩
  go_wp2_with fail
  refine (cmpInt_is (na : Int) (nb : Int) _ y HY.out).mono ?_
  rintro e W1 ⟨rfl, rfl⟩
  go_wp2_with fail
  refine (or2_is x y _ _ (by simp) (by simp) z HZ.out).mono ?_
  rintro e W2 ⟨rfl, rfl⟩
  go_wp2
  go_ret
  refine ⟨ret_bool ?_, (Below.refl _ _).alloc (Nat.le_refl _) _⟩
  exact HD.out

end Go.Proofs.Ytpbhiednmnolgaa
