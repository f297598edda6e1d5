/- Chapter 2: sums and records: what the program's functions answer. -/
import Derived.Test.YtcbfmjanjciodaaEX
import Derived.Test.YtcbfmjanjciodaaJ1
namespace Go.Proofs.Ytcbfmjanjciodaa
open Go.RowKit

theorem left_neg (x : Int) (h : x.tmod 65521 < 0) : x.tmod 65521 + 65521 = x % 65521 := by
  have h1 := tmod_bd x
  have h2 := tmod_mod x
  generalize x.tmod 65521 = r at *
  rw [Int.tmod_eq_emod_of_nonneg (by omega), Int.emod_eq_of_lt (by omega) (by omega)] at h2
  exact h2
theorem left_pos (x : Int) (h : ¬ x.tmod 65521 < 0) : x.tmod 65521 = x % 65521 := by
  have h1 := tmod_bd x
  have h2 := tmod_mod x
  generalize x.tmod 65521 = r at *
  rw [Int.tmod_eq_emod_of_nonneg (by omega), Int.add_emod_right, Int.emod_eq_of_lt (by omega) (by omega)] at h2
  exact h2
theorem wrapU_same (n : Int) (h : 0 ≤ n ∧ n < 18446744073709551616) : IntKind.u64.wrap n = n := by rw [IntKind.wrap_u64]; omega
theorem ret_u64 {a b : Int} (h : a = b) : Ending.returned (.int .u64 a) = .returned (.int .u64 b) := by rw [h]

theorem leftOf_any (x : Int) (w : World) : Calls Try.prog 211 #[.int .i64 x] w fun e w' => e = .returned (.int .u64 (x % 65521)) ∧ w' = w := by
  have HB : Hid _ := tmod_bd x
  by_cases h : x.tmod 65521 < 0
  · have HL : Hid _ := left_neg x h
    go_enter Try.func211, Try.ntmps211
    go_wp2
    go_ret
    have hb := HB.out
    exact ⟨ret_u64 (by rw [wrap_same _ (by omega), wrapU_same _ (by omega)]; exact HL.out), rfl⟩
  · have HL : Hid _ := left_pos x h
    go_enter Try.func211, Try.ntmps211
    go_wp2
    go_ret
    have hb := HB.out
    exact ⟨ret_u64 (by rw [wrapU_same _ (by omega)]; exact HL.out), rfl⟩

set_option maxHeartbeats 1000000 in
theorem implSum_any {o : Bool} {l u : Nat} (ao : Option Addr) (n cap : Nat) (xs : List Int) (w : World) (h : RowAt w o l u 1 ao n cap (ints xs)) (hn : n ≤ 2097152) :
    Calls Try.prog 175 #[.slice ao n cap] w fun e w' => e = .returned (.int .i64 (sumOf xs)) ∧ w' = w := by
  have hl := h.nInts
  go_enter Try.func175, Try.ntmps175
  go_wp2
  go_loop [3, 8] (fun v i => ∃ k : Nat, k ≤ n ∧ i = .int .i64 k ∧ v = .int .u64 (sumOf (xs.take k))) (fun _ i => n - (intOf i).toNat)
  case atStart => exact ⟨0, by omega, rfl, rfl⟩
  case round =>
    obtain ⟨k, hk, rfl, rfl⟩ := hrel
    by_cases hlt : k < n
    · obtain ⟨b, f, rfl, _, _, hs, e1, _⟩ := h.int hlt
      have hlk : (k : Int) < (n : Int) := by omega
      have HS : Hid _ := sum_snoc xs k (by omega)
      have hb1 := sumOf_bd (xs.take k)
      generalize xs.getD k 0 = x at *
      generalize sumOf (xs.take k) = hh at *
      go_wp2_with fail
      refine (leftOf_any x _).mono ?_
      rintro e w' ⟨rfl, rfl⟩
      have t3 : 0 ≤ x % 65521 ∧ x % 65521 < 65521 := ⟨Int.emod_nonneg _ (by decide), Int.emod_lt_of_pos _ (by decide)⟩
      obtain ⟨b, hb⟩ : ∃ b, x % 65521 = b := ⟨_, rfl⟩
      have HB : Hid _ := hb
      rw [hb] at t3 ⊢
      clear hb
      go_wp2
      go_round
      case rel => exact ⟨k + 1, by omega, by go_num, by rw [HS.out, sumStep, HB.out]⟩
      case measure => simp [intOf]; omega
    · obtain rfl : k = n := by omega
      have hb1 := sumOf_bd (xs.take k)
      have HE : Hid (sumOf (xs.take k) = sumOf xs) := by show _ = _; rw [List.take_of_length_le (by omega)]
      generalize sumOf (xs.take k) = hh at *
      go_wp2
      go_ret
      exact ⟨ret_int (by first | exact HE.out | (rw [wrap_same _ (by omega)]; exact HE.out)), rfl⟩

end Go.Proofs.Ytcbfmjanjciodaa
