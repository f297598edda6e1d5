/- Chapter 2: sums and records: what the program's functions answer. -/
import Derived.Test.YtkpbmffklcgecaaJ1
namespace Go.Proofs.Ytkpbmffklcgecaa
open Go.RowKit

theorem left_neg (x : Int) (h : x.tmod 65521 < 0) : x.tmod 65521 + 65521 = x % 65521 := by
  have h1 := tmod_bd x
  have h2 := tmod_mod x
  generalize x.tmod 65521 = r at *
  rw [Int.tmod_eq_emod_of_nonneg (by omega), Int.emod_eq_of_lt (by omega) (by omega)] at h2
  exact h2
theorem left_pos (x : Int) (h : ¬ x.tmod 65521 < 0) : x.tmod 65521 = x % 65521 := by
  have h1 := tmod_bd x
  have h2 := tmod_mod x
  generalize x.tmod 65521 = r at *
  rw [Int.tmod_eq_emod_of_nonneg (by omega), Int.add_emod_right, Int.emod_eq_of_lt (by omega) (by omega)] at h2
  exact h2
theorem wrapU_same (n : Int) (h : 0 ≤ n ∧ n < 18446744073709551616) : IntKind.u64.wrap n = n := by rw [IntKind.wrap_u64]; omega
theorem ret_u64 {a b : Int} (h : a = b) : Ending.returned (.int .u64 a) = .returned (.int .u64 b) := by rw [h]

theorem leftOf_any (x : Int) (w : World) : Calls Try.prog 103 #[.int .i64 x] w fun e w' => e = .returned (.int .u64 (x % 65521)) ∧ w' = w := by
  have HB : Hid _ := tmod_bd x
  by_cases h : x.tmod 65521 < 0
  · have HL : Hid _ := left_neg x h
    go_enter Try.func103, Try.ntmps103
    go_wp2
    go_ret
    have hb := HB.out
    exact ⟨ret_u64 (by rw [wrap_same _ (by omega), wrapU_same _ (by omega)]; exact HL.out), rfl⟩
  · have HL : Hid _ := left_pos x h
    go_enter Try.func103, Try.ntmps103
    go_wp2
    go_ret
    have hb := HB.out
    exact ⟨ret_u64 (by rw [wrapU_same _ (by omega)]; exact HL.out), rfl⟩

theorem isRecordLen_is (x : Int) (w : World) (d : Bool) (h : decide (1 ≤ x ∧ x ≤ 8) = d) : Calls Try.prog 102 #[.int .i64 x] w fun e w' => e = .returned (.bool d) ∧ w' = w := by
  subst h
  by_cases h1 : 1 ≤ x
  · by_cases h2 : x ≤ 8
    · have hd : decide (1 ≤ x ∧ x ≤ 8) = true := by simp [h1, h2]
      rw [hd]
      go_enter Try.func102, Try.ntmps102
      go_wp2
      go_ret
      exact ⟨rfl, rfl⟩
    · have hd : decide (1 ≤ x ∧ x ≤ 8) = false := by simp [h2]
      rw [hd]
      go_enter Try.func102, Try.ntmps102
      go_wp2
      go_ret
      exact ⟨rfl, rfl⟩
  · have hd : decide (1 ≤ x ∧ x ≤ 8) = false := by simp [h1]
    rw [hd]
    go_enter Try.func102, Try.ntmps102
    go_wp2
    go_ret
    exact ⟨rfl, rfl⟩

set_option maxHeartbeats 1000000 in
theorem implSum_any {o : Bool} {l u : Nat} (ao : Option Addr) (n cap : Nat) (xs : List Int) (w : World) (h : RowAt w o l u 1 ao n cap (ints xs)) (hn : n ≤ 2097152) :
    Calls Try.prog 60 #[.slice ao n cap] w fun e w' => e = .returned (.int .i64 (sumOf xs)) ∧ w' = w := by
  have hl := h.nInts
  go_enter Try.func60, Try.ntmps60
  go_wp2
  go_loop [3, 8] (fun v i => ∃ k : Nat, k ≤ n ∧ i = .int .i64 k ∧ v = .int .u64 (sumOf (xs.take k))) (fun _ i => n - (intOf i).toNat)
  case atStart => exact ⟨0, by omega, rfl, rfl⟩
  case round =>
    obtain ⟨k, hk, rfl, rfl⟩ := hrel
    by_cases hlt : k < n
    · obtain ⟨b, f, rfl, _, _, hs, e1, _⟩ := h.int hlt
      have hlk : (k : Int) < (n : Int) := by omega
      have HS : Hid _ := sum_snoc xs k (by omega)
      have hb1 := sumOf_bd (xs.take k)
      generalize xs.getD k 0 = x at *
      generalize sumOf (xs.take k) = hh at *
      go_wp2_with fail
      refine (leftOf_any x _).mono ?_
      rintro e w' ⟨rfl, rfl⟩
      have t3 : 0 ≤ x % 65521 ∧ x % 65521 < 65521 := ⟨Int.emod_nonneg _ (by decide), Int.emod_lt_of_pos _ (by decide)⟩
      obtain ⟨b, hb⟩ : ∃ b, x % 65521 = b := ⟨_, rfl⟩
      have HB : Hid _ := hb
      rw [hb] at t3 ⊢
      clear hb
      go_wp2
      go_round
      case rel => exact ⟨k + 1, by omega, by go_num, by rw [HS.out, sumStep, HB.out]⟩
      case measure => simp [intOf]; omega
    · obtain rfl : k = n := by omega
      have hb1 := sumOf_bd (xs.take k)
      have HE : Hid (sumOf (xs.take k) = sumOf xs) := by show _ = _; rw [List.take_of_length_le (by omega)]
      generalize sumOf (xs.take k) = hh at *
      go_wp2
      go_ret
      exact ⟨ret_int (by first | exact HE.out | (rw [wrap_same _ (by omega)]; exact HE.out)), rfl⟩

set_option maxHeartbeats 1000000 in
theorem implRec_any {o : Bool} {l u : Nat} (ao : Option Addr) (n cap : Nat) (xs : List Int) (w : World) (h : RowAt w o l u 1 ao n cap (ints xs)) (hn : n ≤ 2097152) :
    Calls Try.prog 56 #[.slice ao n cap] w fun e w' => e = .returned (.int .i64 (recFault xs)) ∧ w' = w := by
  have hl := h.nInts
  by_cases h1 : n < 1 ∨ 8 < n
  · have hr : recFault xs = 2 := if_pos (by omega)
    rw [hr]
    have HD : Hid (decide (1 ≤ (n : Int) ∧ (n : Int) ≤ 8) = false) := by show _ = _; simp; omega
    clear h1
    go_enter Try.func56, Try.ntmps56
    go_wp2_with fail
    refine (isRecordLen_is (n : Int) _ false HD.out).mono ?_
    rintro e w' ⟨rfl, rfl⟩
    go_wp2
    go_ret
    exact ⟨rfl, rfl⟩
  have HD : Hid (decide (1 ≤ (n : Int) ∧ (n : Int) ≤ 8) = true) := by show _ = _; simp; omega
  have HR : Hid (recFault xs = if xs.all wordB then 0 else 3) := if_neg (by omega)
  clear h1
  go_enter Try.func56, Try.ntmps56
  go_wp2_with fail
  refine (isRecordLen_is (n : Int) _ true HD.out).mono ?_
  rintro e w' ⟨rfl, rfl⟩
  go_wp2
  go_loop [11] (fun i => ∃ k : Nat, k ≤ n ∧ i = .int .i64 k ∧ (xs.take k).all wordB = true) (fun i => n - (intOf i).toNat)
  case atStart => exact ⟨0, by omega, rfl, rfl⟩
  case round =>
    obtain ⟨k, hk, rfl, ha⟩ := hrel
    have HA : Hid _ := ha
    clear ha
    by_cases hlt : k < n
    · obtain ⟨b, f, rfl, _, _, hs, e1, _⟩ := h.int hlt
      have hlk : (k : Int) < (n : Int) := by omega
      obtain ⟨d, hd⟩ : ∃ d, wordB (xs.getD k 0) = d := ⟨_, rfl⟩
      have HD : Hid _ := hd
      have HS := all_snoc wordB xs 0 k (by omega)
      have HN := all_not wordB xs 0 k (by omega)
      rw [hd] at HS HN
      have HS : Hid _ := HS
      have HN : Hid _ := HN
      clear hd
      generalize xs.getD k 0 = x at *
      go_wp2_with fail
      refine (isWord_is x _ d HD.out).mono ?_
      rintro e w' ⟨rfl, rfl⟩
      cases d with
      | false =>
        go_wp2
        go_ret
        exact ⟨ret_int (by rw [HR.out, if_neg (HN.out (by trivial))]), rfl⟩
      | true =>
        go_wp2
        go_round
        case rel => exact ⟨k + 1, by omega, by go_num, by rw [HS.out, HA.out]; rfl⟩
        case measure => simp [intOf]; omega
    · obtain rfl : k = n := by omega
      go_wp2
      go_ret
      exact ⟨ret_int (by rw [HR.out, if_pos (by have := HA.out; rwa [List.take_of_length_le (by omega)] at this)]), rfl⟩

end Go.Proofs.Ytkpbmffklcgecaa
