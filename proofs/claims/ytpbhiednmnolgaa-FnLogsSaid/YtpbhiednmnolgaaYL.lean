/- Chapter 6, plain: the fault of a plain pool. -/
import Derived.Test.YtpbhiednmnolgaaEX
import Derived.Test.YtpbhiednmnolgaaYP
import Derived.Test.YtpbhiednmnolgaaXI
import Derived.Test.YtpbhiednmnolgaaZQ
namespace Go.Proofs.Ytpbhiednmnolgaa
open Go.RowKit

end Go.Proofs.Ytpbhiednmnolgaa

/- Chapter 6: the program's fault of a plain pool. -/
namespace Go.Proofs.Ytpbhiednmnolgaa
open Go.RowKit

def cmpI (a b : Int) : Int := if a < b then -1 else if b < a then 1 else 0
theorem cmpI_is (a b : Int) : (cmpI a b = -1 ∧ a < b) ∨ (cmpI a b = 0 ∧ a = b) ∨ (cmpI a b = 1 ∧ b < a) := by
  unfold cmpI
  split
  · exact Or.inl ⟨rfl, by assumption⟩
  · split
    · exact Or.inr (Or.inr ⟨rfl, by assumption⟩)
    · exact Or.inr (Or.inl ⟨rfl, by omega⟩)
theorem isNaN64_is (x : Int) (w : World) : Calls Try.prog 87 #[.int .i64 x] w fun e w' => e = .returned (.bool false) ∧ w' = w := by
  have hx : (x != x) = false := by simp
  go_enter Try.func87, Try.ntmps87
  go_wp2
  go_ret
  exact ⟨rfl, rfl⟩
theorem cmp64_is (a b : Int) (w : World) (d : Int) (hd : cmpI a b = d) : Calls Try.prog 84 #[.int .i64 a, .int .i64 b] w fun e w' => e = .returned (.int .i64 d) ∧ w' = w := by
  have HD : Hid _ := hd
  clear hd
  go_enter Try.func84, Try.ntmps84
  go_wp2_with fail
  refine (isNaN64_is a _).mono ?_
  rintro e _ ⟨rfl, rfl⟩
  go_wp2_with fail
  refine (isNaN64_is b _).mono ?_
  rintro e _ ⟨rfl, rfl⟩
  rcases cmpI_is a b with ⟨e, h⟩ | ⟨e, h⟩ | ⟨e, h⟩
  · have HE : Hid _ := e
    clear e
    go_wp2
    go_ret
    exact ⟨ret_int (by rw [← HD.out, HE.out]), rfl⟩
  · have HE : Hid _ := e
    clear e
    have h1 : ¬ a < b := by omega
    have h2 : ¬ b < a := by omega
    clear h
    go_wp2
    go_ret
    exact ⟨ret_int (by rw [← HD.out, HE.out]), rfl⟩
  · have HE : Hid _ := e
    clear e
    have h1 : ¬ a < b := by omega
    go_wp2
    go_ret
    exact ⟨ret_int (by rw [← HD.out, HE.out]), rfl⟩
theorem or2_is (x y : Int) (b : Nat) (w : World) (h0 : w.cell? ⟨b, 0, none⟩ = some (.int .i64 x)) (h1 : w.cell? ⟨b, 1, none⟩ = some (.int .i64 y)) (d : Int) (hd : (if x = 0 then y else x) = d) : Calls Try.prog 83 #[.slice (some ⟨b, 0, none⟩) 2 2] w fun e w' => e = .returned (.int .i64 d) ∧ w' = w := by
  have HD : Hid _ := hd
  clear hd
  go_enter Try.func83, Try.ntmps83
  go_wp2
  go_loopw [8] (fun i wr => ∃ k : Nat, k ≤ 2 ∧ i = .int .i64 k ∧ wr = w ∧ (1 ≤ k → x = 0) ∧ (2 ≤ k → y = 0)) (fun i _ => 2 - (intOf i).toNat)
  case atStart => exact ⟨0, by omega, rfl, rfl, fun h => by omega, fun h => by omega⟩
  case round =>
    obtain ⟨k, hk, rfl, rfl, ha, hb⟩ := hrel
    have HA : Hid _ := ha
    have HB : Hid _ := hb
    clear ha hb
    by_cases hk0 : k = 0
    · subst hk0
      by_cases hx : x = 0
      · have hn : (x != 0) = false := by simp [hx]
        have HX : Hid _ := hx
        clear hx
        go_wp2
        go_roundw
        case rel => exact ⟨1, by omega, by go_num, by first | rfl | trivial, fun _ => HX.out, fun h => by omega⟩
        case measure => simp [intOf]
      · have hn : (x != 0) = true := by simp [hx]
        have HX : Hid _ := hx
        clear hx
        go_wp2
        go_ret
        exact ⟨ret_int (by rw [← HD.out, if_neg HX.out]), rfl⟩
    · by_cases hk1 : k = 1
      · subst hk1
        by_cases hx : y = 0
        · have hn : (y != 0) = false := by simp [hx]
          have HX : Hid _ := hx
          clear hx
          go_wp2
          go_roundw
          case rel => exact ⟨2, by omega, by go_num, by first | rfl | trivial, fun _ => HA.out (by omega), fun h => HX.out⟩
          case measure => simp [intOf]
        · have hn : (y != 0) = true := by simp [hx]
          have HX : Hid _ := hx
          clear hx
          go_wp2
          go_ret
          exact ⟨ret_int (by rw [← HD.out, if_pos (HA.out (by omega))]), rfl⟩
      · obtain rfl : k = 2 := by omega
        go_wp2
        go_ret
        exact ⟨ret_int (by rw [← HD.out, if_pos (HA.out (by omega)), HB.out (by omega)]), rfl⟩
end Go.Proofs.Ytpbhiednmnolgaa

/- Chapter 6: the program's fault of a plain pool: cells, quotas, shares. -/
namespace Go.Proofs.Ytpbhiednmnolgaa
open Go.RowKit

end Go.Proofs.Ytpbhiednmnolgaa
