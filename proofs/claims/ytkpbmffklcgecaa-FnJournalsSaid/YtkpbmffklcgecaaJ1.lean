/- Chapter 2: sums and records: what the model's functions answer. -/
import Derived.Test.YtkpbmffklcgecaaPutS
import Derived.Test.YtkpbmffklcgecaaFacts
import Derived.Test.YtkpbmffklcgecaaJ0
namespace Go.Proofs.Ytkpbmffklcgecaa
open Go.RowKit

theorem wrap_same (n : Int) (h : -9223372036854775808 ≤ n ∧ n ≤ 9223372036854775807) : wrap64 n = n := by unfold wrap64; omega
theorem sum_wrap (hh x : Int) (h0 : 0 ≤ hh) (h1 : hh < 65521) : (wrap64 (wrap64 (wrap64 (hh * 263) + (wrap64 (x.tmod 65521 + 65521)).tmod 65521) + 1)).tmod 65521 = sumStep hh x := by
  have t1 := tmod_bd x
  have t3 : 0 ≤ x % 65521 ∧ x % 65521 < 65521 := ⟨Int.emod_nonneg _ (by decide), Int.emod_lt_of_pos _ (by decide)⟩
  rw [wrap_same (x.tmod 65521 + 65521) (by omega), tmod_mod, wrap_same (hh * 263) (by omega), wrap_same (hh * 263 + x % 65521) (by omega), wrap_same _ (by omega), tmod_step hh _ h0 t3.1]
  rfl

set_option maxHeartbeats 1000000 in
theorem specSum_any {o : Bool} {l u : Nat} (ao : Option Addr) (n cap : Nat) (xs : List Int) (w : World) (h : RowAt w o l u 1 ao n cap (ints xs)) (hn : n ≤ 2097152) :
    Calls Try.prog 61 #[.slice ao n cap] w fun e w' => e = .returned (.int .i64 (sumOf xs)) ∧ Below w.heap.size w w' := by
  have hl := h.nInts
  go_enter Try.func61, Try.ntmps61
  go_wp2
  go_loop [3, 4] (fun v i => ∃ k : Nat, k ≤ n ∧ i = .int .i64 k ∧ v = .int .i64 (sumOf (xs.take k))) (fun _ i => n - (intOf i).toNat)
  case atStart => exact ⟨0, by omega, rfl, rfl⟩
  case round =>
    obtain ⟨k, hk, rfl, rfl⟩ := hrel
    by_cases hlt : k < n
    · obtain ⟨b, f, rfl, _, _, hs, e1, _⟩ := h.int hlt
      have hlk : (k : Int) < (n : Int) := by omega
      have HS : Hid _ := sum_snoc xs k (by omega)
      have hb1 := sumOf_bd (xs.take k)
      generalize xs.getD k 0 = x at *
      generalize sumOf (xs.take k) = hh at *
      have HW : Hid _ := sum_wrap hh x hb1.1 hb1.2
      clear hb1
      go_wp2
      go_round
      case rel => exact ⟨k + 1, by omega, by go_num, by rw [HW.out, HS.out]⟩
      case measure => simp [intOf]; omega
    · obtain rfl : k = n := by omega
      go_wp2
      go_ret
      exact ⟨ret_int (by rw [List.take_of_length_le (by omega)]), Below.refl _ _⟩

set_option maxHeartbeats 1000000 in
theorem specRec_any {o : Bool} {l u : Nat} (ao : Option Addr) (n cap : Nat) (xs : List Int) (w : World) (h : RowAt w o l u 1 ao n cap (ints xs)) (hn : n ≤ 2097152) :
    Calls Try.prog 62 #[.slice ao n cap] w fun e w' => e = .returned (.int .i64 (recFault xs)) ∧ Below w.heap.size w w' := by
  have hl := h.nInts
  by_cases h1 : n < 1 ∨ 8 < n
  · have hr : recFault xs = 2 := if_pos (by omega)
    rw [hr]
    rcases h1 with h1 | h1
    · have hi : (n : Int) < 1 := by omega
      go_enter Try.func62, Try.ntmps62
      go_wp2
      go_ret
      exact ⟨rfl, Below.refl _ _⟩
    · have hi : ¬ (n : Int) < 1 := by omega
      have hi2 : (8 : Int) < n := by omega
      go_enter Try.func62, Try.ntmps62
      go_wp2
      go_ret
      exact ⟨rfl, Below.refl _ _⟩
  have hi : ¬ (n : Int) < 1 := by omega
  have hi2 : ¬ (8 : Int) < n := by omega
  have HR : Hid (recFault xs = if xs.all wordB then 0 else 3) := if_neg (by omega)
  clear h1
  go_enter Try.func62, Try.ntmps62
  go_wp2
  go_loopw [3] (fun i wr => ∃ k : Nat, k ≤ n ∧ i = .int .i64 k ∧ (xs.take k).all wordB = true ∧ Below w.heap.size w wr) (fun i _ => n - (intOf i).toNat)
  case atStart => exact ⟨0, by omega, rfl, rfl, Below.refl _ _⟩
  case round =>
    obtain ⟨k, hk, rfl, ha, hb⟩ := hrel
    have HA : Hid _ := ha
    clear ha
    by_cases hlt : k < n
    · obtain ⟨b, f, rfl, _, _, hs, e1, _⟩ := h.int hlt
      have g1 : wr.cell? ⟨b, f + k, none⟩ = some (.int .i64 (xs.getD k 0)) := (hb.cell (p := ⟨b, f + k, none⟩) hs).trans e1
      clear e1
      have hlk : (k : Int) < (n : Int) := by omega
      obtain ⟨d, hd⟩ : ∃ d, wordB (xs.getD k 0) = d := ⟨_, rfl⟩
      have HD : Hid _ := hd
      have HS := all_snoc wordB xs 0 k (by omega)
      have HN := all_not wordB xs 0 k (by omega)
      rw [hd] at HS HN
      have HS : Hid _ := HS
      have HN : Hid _ := HN
      clear hd
      generalize xs.getD k 0 = x at *
      go_wp2_with fail
      refine (l1Word_is x _ d HD.out).mono ?_
      rintro e w' ⟨rfl, rfl⟩
      cases d with
      | false =>
        go_wp2
        go_ret
        exact ⟨ret_int (by rw [HR.out, if_neg (HN.out (by trivial))]), hb⟩
      | true =>
        go_wp2
        go_roundw
        case rel => exact ⟨k + 1, by omega, by go_num, by rw [HS.out, HA.out]; rfl, hb⟩
        case measure => simp [intOf]; omega
    · obtain rfl : k = n := by omega
      go_wp2
      go_ret
      exact ⟨ret_int (by rw [HR.out, if_pos (by have := HA.out; rwa [List.take_of_length_le (by omega)] at this)]), hb⟩

set_option maxHeartbeats 1000000 in
theorem l2Sum_any {o : Bool} {l u : Nat} (x : Int) (ad : Addr) (n cap : Nat) (xs : List Int) (w : World) (h : RowAt w o l u 1 (some ad) n cap (ints xs)) (hn0 : n ≠ 0) (hn : n ≤ 1000) :
    Calls Try.prog 101 #[.int .i64 x, .slice (some ad) n cap] w fun e w' => e = .returned (.int .i64 (sumOf (x :: xs))) ∧ Below w.heap.size w w' := by
  obtain ⟨i0, hi0, hz0, hz1, hz2⟩ := info_parts Try.info2'
  have hown : (w.alloc (.cells #[.int .i64 x] 2)).ownsRow w.heap.size 2 1 (.slice (some ⟨w.heap.size, 0, none⟩) 1 1) 1 [.int .i64 x] := World.ownsRow_lit w #[.int .i64 x] 1 (Nat.le_refl _) (by decide) rfl
  have B1 : Below w.heap.size w (w.alloc (.cells #[.int .i64 x] 2)) := (Below.refl _ _).alloc (Nat.le_refl _) _
  have h1 := h.below B1
  go_enter Try.func101, Try.ntmps101
  go_wp2_with (first | (at_builtin; refine wpList_append_own _ rfl _ _ 24 rfl w.heap.size 2 i0 (.int .i64 0) 1 8 Try.underlying24 hi0 hz0 hz1 hz2 rfl (by decide) _ _ _ rfl hown ad n cap (ints xs) rfl ?c0 ?c1 ?c2 ?c3 ?c4 ?c5 ?_))
  case c0 => rw [h.len]
  case c1 => exact h1.news hn0
  case c2 => exact ints_cell xs
  case c3 => unfold maxLen; omega
  case c4 => omega
  case c5 => simp
  intro v' w1 hown' hgrow _
  have hb1 : Below w.heap.size w w1 := B1.grown hgrow (by simp) (fun g hg => (hown.lt g hg).1)
  obtain ⟨ao', cap', rfl, R⟩ := RowAt.of_owned hown'
  have R' : RowAt w1 true w.heap.size w1.heap.size 1 ao' (1 + n) cap' (ints (x :: xs)) := R
  clear hown' hgrow hown R B1 h1
  go_wp2_with fail
  refine (specSum_any ao' (1 + n) cap' (x :: xs) w1 R' (by omega)).mono ?_
  rintro e w2 ⟨rfl, hb⟩
  go_wp2
  go_ret
  exact ⟨rfl, below_next hb1 hb⟩

end Go.Proofs.Ytkpbmffklcgecaa
