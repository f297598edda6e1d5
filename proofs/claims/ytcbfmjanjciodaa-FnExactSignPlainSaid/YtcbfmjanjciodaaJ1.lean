/- Chapter 2: sums and records: what the model's functions answer. -/
import Derived.Test.YtcbfmjanjciodaaEX
import Derived.Test.YtcbfmjanjciodaaPutS
import Derived.Test.YtcbfmjanjciodaaFacts
import Derived.Test.YtcbfmjanjciodaaJ0
namespace Go.Proofs.Ytcbfmjanjciodaa
open Go.RowKit

theorem wrap_same (n : Int) (h : -9223372036854775808 ≤ n ∧ n ≤ 9223372036854775807) : wrap64 n = n := by unfold wrap64; omega
theorem sum_wrap (hh x : Int) (h0 : 0 ≤ hh) (h1 : hh < 65521) : (wrap64 (wrap64 (wrap64 (hh * 263) + (wrap64 (x.tmod 65521 + 65521)).tmod 65521) + 1)).tmod 65521 = sumStep hh x := by
  have t1 := tmod_bd x
  have t3 : 0 ≤ x % 65521 ∧ x % 65521 < 65521 := ⟨Int.emod_nonneg _ (by decide), Int.emod_lt_of_pos _ (by decide)⟩
  rw [wrap_same (x.tmod 65521 + 65521) (by omega), tmod_mod, wrap_same (hh * 263) (by omega), wrap_same (hh * 263 + x % 65521) (by omega), wrap_same _ (by omega), tmod_step hh _ h0 t3.1]
  rfl

set_option maxHeartbeats 1000000 in
theorem specSum_any {o : Bool} {l u : Nat} (ao : Option Addr) (n cap : Nat) (xs : List Int) (w : World) (h : RowAt w o l u 1 ao n cap (ints xs)) (hn : n ≤ 2097152) :
    Calls Try.prog 174 #[.slice ao n cap] w fun e w' => e = .returned (.int .i64 (sumOf xs)) ∧ Below w.heap.size w w' := by
  have hl := h.nInts
  go_enter Try.func174, Try.ntmps174
  go_wp2
  go_loop [3, 4] (fun v i => ∃ k : Nat, k ≤ n ∧ i = .int .i64 k ∧ v = .int .i64 (sumOf (xs.take k))) (fun _ i => n - (intOf i).toNat)
  case atStart => exact ⟨0, by omega, rfl, rfl⟩
  case round =>
    obtain ⟨k, hk, rfl, rfl⟩ := hrel
    by_cases hlt : k < n
    · obtain ⟨b, f, rfl, _, _, hs, e1, _⟩ := h.int hlt
      have hlk : (k : Int) < (n : Int) := by omega
      have HS : Hid _ := sum_snoc xs k (by omega)
      have hb1 := sumOf_bd (xs.take k)
      generalize xs.getD k 0 = x at *
      generalize sumOf (xs.take k) = hh at *
      have HW : Hid _ := sum_wrap hh x hb1.1 hb1.2
      clear hb1
      go_wp2
      go_round
      case rel => exact ⟨k + 1, by omega, by go_num, by rw [HW.out, HS.out]⟩
      case measure => simp [intOf]; omega
    · obtain rfl : k = n := by omega
      go_wp2
      go_ret
      exact ⟨ret_int (by rw [List.take_of_length_le (by omega)]), Below.refl _ _⟩

end Go.Proofs.Ytcbfmjanjciodaa
