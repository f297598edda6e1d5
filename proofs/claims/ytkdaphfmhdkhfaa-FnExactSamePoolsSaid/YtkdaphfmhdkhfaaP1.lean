/- Chapter 3: blocks: what the model's smaller functions answer. -/
import Derived.Test.YtkdaphfmhdkhfaaBC
import Derived.Test.YtkdaphfmhdkhfaaZT
import Derived.Test.YtkdaphfmhdkhfaaFault
namespace Go.Proofs.Ytkdaphfmhdkhfaa
open Go.RowKit

theorem l1In_bool (x a b : Int) (w : World) (d : Bool) (h : decide (a ≤ x ∧ x ≤ b) = d) : Calls Try.prog 196 #[.int .i64 x, .int .i64 a, .int .i64 b] w fun e w' => e = .returned (.bool d) ∧ w' = w := by rw [← h]; exact l1In_any x a b w
theorem l3Data_is (x : Int) (w : World) (d : Bool) (h : dataB x = d) : Calls Try.prog 157 #[.int .i64 x] w fun e w' => e = .returned (.bool d) ∧ w' = w := by
  have H : Hid (decide (0 ≤ x ∧ x ≤ 255) = d) := h
  clear h
  go_enter Try.func157, Try.ntmps157
  go_wp2_with fail
  refine (l1In_bool x 0 255 _ d H.out).mono ?_
  rintro e w1 ⟨rfl, rfl⟩
  go_wp2
  go_ret
  exact ⟨rfl, rfl⟩

set_option maxRecDepth 20000 in
set_option maxHeartbeats 2000000 in
theorem specBF_any {o : Bool} {l u : Nat} (ao : Option Addr) (n cap : Nat) (bs : List (Int × Int)) (w : World) (h : RowAt w o l u 2 ao n cap (pairs bs)) (hn : n ≤ 2097152) :
    Calls Try.prog 98 #[.slice ao n cap] w fun e w' => e = .returned (.int .i64 (blkFault bs)) ∧ w' = w := by
  have hl := h.nPairs
  by_cases h24 : 24 < n
  · have hr : blkFault bs = 2 := if_pos (by omega)
    rw [hr]
    have hi : (24 : Int) < n := by omega
    go_enter Try.func98, Try.ntmps98
    go_wp2
    go_ret
    exact ⟨rfl, rfl⟩
  have hi : ¬ (24 : Int) < n := by omega
  have HR : Hid (blkFault bs = blkGo bs) := if_neg (by omega)
  go_enter Try.func98, Try.ntmps98
  go_wp2
  go_loop [3] (fun i => ∃ k : Nat, k ≤ n ∧ i = .int .i64 k ∧ ∀ j, j < k → blkOne (bs.getD j (0, 0)) = 0) (fun i => n - (intOf i).toNat)
  case atStart => exact ⟨0, by omega, rfl, fun j hj => absurd hj (by omega)⟩
  case round =>
    obtain ⟨k, hk, rfl, ha⟩ := hrel
    have HA : Hid _ := ha
    clear ha
    by_cases hlt : k < n
    · obtain ⟨b, f, rfl, _, _, _, e1, e2, _⟩ := h.pair hlt
      have hlk : (k : Int) < (n : Int) := by omega
      have HF : Hid _ := blkGo_first bs k (by omega) HA.out
      have HN : Hid (blkOne (bs.getD k (0, 0)) = 0 → ∀ j, j < k + 1 → blkOne (bs.getD j (0, 0)) = 0) := fun h0 j hj => by
        by_cases e : j = k
        · subst e; exact h0
        · exact HA.out j (by omega)
      obtain ⟨⟨x, y⟩, hxy⟩ : ∃ p, bs.getD k (0, 0) = p := ⟨_, rfl⟩
      rw [hxy] at e1 e2 HF HN
      simp only at e1 e2
      clear hxy
      cases hx : refsB x with
      | false =>
        have H1 : Hid (decide (0 ≤ x ∧ x ≤ 200) = false) := hx
        have H0 : Hid (blkOne (x, y) = 3) := by show _ = _; simp [blkOne, hx]
        clear hx
        go_wp2_with fail
        refine (l1In_bool x 0 200 _ false H1.out).mono ?_
        rintro e w1 ⟨rfl, rfl⟩
        go_wp2
        go_ret
        exact ⟨ret_int (by rw [HR.out, HF.out (by rw [H0.out]; decide), H0.out]), rfl⟩
      | true =>
        have H1 : Hid (decide (0 ≤ x ∧ x ≤ 200) = true) := hx
        cases hy : dataB y with
        | false =>
          have H2 : Hid (dataB y = false) := hy
          have H0 : Hid (blkOne (x, y) = 3) := by show _ = _; simp [blkOne, hy]
          clear hx hy
          go_wp2_with fail
          refine (l1In_bool x 0 200 _ true H1.out).mono ?_
          rintro e w1 ⟨rfl, rfl⟩
          go_wp2_with fail
          refine (l3Data_is y _ false H2.out).mono ?_
          rintro e w1 ⟨rfl, rfl⟩
          go_wp2
          go_ret
          exact ⟨ret_int (by rw [HR.out, HF.out (by rw [H0.out]; decide), H0.out]), rfl⟩
        | true =>
          have H2 : Hid (dataB y = true) := hy
          by_cases hz : x = 0
          · by_cases hz2 : y = 0
            · subst hz
              subst hz2
              have H0 : Hid (blkOne ((0 : Int), (0 : Int)) = 0) := by show _ = _; decide
              clear hx hy
              go_wp2_with fail
              refine (l1In_bool 0 0 200 _ true H1.out).mono ?_
              rintro e w1 ⟨rfl, rfl⟩
              go_wp2_with fail
              refine (l3Data_is 0 _ true H2.out).mono ?_
              rintro e w1 ⟨rfl, rfl⟩
              go_wp2
              go_round
              case rel => exact ⟨k + 1, by omega, by go_num, HN.out H0.out⟩
              case measure => simp [intOf]; omega
            · subst hz
              have H0 : Hid (blkOne ((0 : Int), y) = 1) := by show _ = _; simp [blkOne, hx, hy, hz2]
              have hne : (y != 0) = true := by simp [hz2]
              clear hx hy hz2
              go_wp2_with fail
              refine (l1In_bool 0 0 200 _ true H1.out).mono ?_
              rintro e w1 ⟨rfl, rfl⟩
              go_wp2_with fail
              refine (l3Data_is y _ true H2.out).mono ?_
              rintro e w1 ⟨rfl, rfl⟩
              go_wp2
              go_ret
              exact ⟨ret_int (by rw [HR.out, HF.out (by rw [H0.out]; decide), H0.out]), rfl⟩
          · have H0 : Hid (blkOne (x, y) = 0) := by show _ = _; simp [blkOne, hx, hy, hz]
            clear hx hy
            go_wp2_with fail
            refine (l1In_bool x 0 200 _ true H1.out).mono ?_
            rintro e w1 ⟨rfl, rfl⟩
            go_wp2_with fail
            refine (l3Data_is y _ true H2.out).mono ?_
            rintro e w1 ⟨rfl, rfl⟩
            go_wp2
            go_round
            case rel => exact ⟨k + 1, by omega, by go_num, HN.out H0.out⟩
            case measure => simp [intOf]; omega
    · obtain rfl : k = n := by omega
      have HZ : Hid (blkGo bs = 0) := blkGo_zero bs fun j hj => HA.out j (by omega)
      go_wp2
      go_ret
      exact ⟨ret_int (by rw [HR.out, HZ.out]), rfl⟩

theorem specBF_is {o : Bool} {l u : Nat} (ao : Option Addr) (n cap : Nat) (bs : List (Int × Int)) (w : World) (h : RowAt w o l u 2 ao n cap (pairs bs)) (hn : n ≤ 2097152) (r : Int) (hr : blkFault bs = r) :
    Calls Try.prog 98 #[.slice ao n cap] w fun e w' => e = .returned (.int .i64 r) ∧ w' = w := by rw [← hr]; exact specBF_any ao n cap bs w h hn

set_option maxHeartbeats 1000000 in
theorem l3Free_any {o : Bool} {l u : Nat} (ao : Option Addr) (n cap : Nat) (bs : List (Int × Int)) (w : World) (h : RowAt w o l u 2 ao n cap (pairs bs)) (hn : n ≤ 2097152) :
    Calls Try.prog 158 #[.slice ao n cap] w fun e w' => ((∃ k : Nat, freeAt bs = some k ∧ k < n ∧ e = .returned (.int .i64 (k : Int))) ∨ (freeAt bs = none ∧ e = .returned (.int .i64 (-1)))) ∧ w' = w := by
  have hl := h.nPairs
  go_enter Try.func158, Try.ntmps158
  go_wp2
  go_loop [3] (fun i => ∃ k : Nat, k ≤ n ∧ i = .int .i64 k ∧ ∀ j, j < k → (bs.getD j (0, 0)).1 ≠ 0) (fun i => n - (intOf i).toNat)
  case atStart => exact ⟨0, by omega, rfl, fun j hj => absurd hj (by omega)⟩
  case round =>
    obtain ⟨k, hk, rfl, ha⟩ := hrel
    have HA : Hid _ := ha
    clear ha
    by_cases hlt : k < n
    · obtain ⟨b, f, rfl, _, _, _, e1, e2, _⟩ := h.pair hlt
      have hlk : (k : Int) < (n : Int) := by omega
      have HF : Hid _ := freeAt_some bs k (by omega) HA.out
      have HN : Hid ((bs.getD k (0, 0)).1 ≠ 0 → ∀ j, j < k + 1 → (bs.getD j (0, 0)).1 ≠ 0) := fun h0 j hj => by
        by_cases e : j = k
        · subst e; exact h0
        · exact HA.out j (by omega)
      obtain ⟨x, hx⟩ : ∃ x, (bs.getD k (0, 0)).1 = x := ⟨_, rfl⟩
      rw [hx] at e1 HF HN
      clear hx e2
      by_cases hz : x = 0
      · subst hz
        go_wp2
        go_ret
        exact ⟨Or.inl ⟨k, HF.out (by trivial), hlt, rfl⟩, rfl⟩
      · go_wp2
        go_round
        case rel => exact ⟨k + 1, by omega, by go_num, HN.out hz⟩
        case measure => simp [intOf]; omega
    · obtain rfl : k = n := by omega
      have HZ : Hid (freeAt bs = none) := freeAt_none bs fun j hj => HA.out j (by omega)
      go_wp2
      go_ret
      exact ⟨Or.inr ⟨HZ.out, rfl⟩, rfl⟩

set_option maxHeartbeats 1000000 in
theorem l3Count_any {o : Bool} {l u : Nat} (ao : Option Addr) (n cap : Nat) (bs : List (Int × Int)) (w : World) (h : RowAt w o l u 2 ao n cap (pairs bs)) (hn : n ≤ 2097152) :
    Calls Try.prog 202 #[.slice ao n cap] w fun e w' => e = .returned (.int .i64 (freeN bs : Int)) ∧ w' = w := by
  have hl := h.nPairs
  go_enter Try.func202, Try.ntmps202
  go_wp2
  go_loop [3, 4] (fun v i => ∃ k : Nat, k ≤ n ∧ i = .int .i64 k ∧ v = .int .i64 (freeN (bs.take k) : Int)) (fun _ i => n - (intOf i).toNat)
  case atStart => exact ⟨0, by omega, rfl, rfl⟩
  case round =>
    obtain ⟨k, hk, rfl, rfl⟩ := hrel
    by_cases hlt : k < n
    · obtain ⟨b, f, rfl, _, _, _, e1, e2, _⟩ := h.pair hlt
      have hlk : (k : Int) < (n : Int) := by omega
      have HS : Hid _ := freeN_snoc bs k (by omega)
      have hle := freeN_le (bs.take k)
      rw [List.length_take] at hle
      obtain ⟨x, hx⟩ : ∃ x, (bs.getD k (0, 0)).1 = x := ⟨_, rfl⟩
      rw [hx] at e1 HS
      clear hx e2
      generalize freeN (bs.take k) = q at *
      by_cases hz : x = 0
      · subst hz
        go_wp2
        go_round
        case rel => exact ⟨k + 1, by omega, by go_num, by rw [HS.out]; simp⟩
        case measure => simp [intOf]; omega
      · go_wp2
        go_round
        case rel => exact ⟨k + 1, by omega, by go_num, by rw [HS.out, if_neg hz]; simp⟩
        case measure => simp [intOf]; omega
    · obtain rfl : k = n := by omega
      have HE : Hid (freeN (bs.take k) = freeN bs) := by show _ = _; rw [List.take_of_length_le (by omega)]
      go_wp2
      go_ret
      exact ⟨ret_int (by rw [HE.out]), rfl⟩

end Go.Proofs.Ytkdaphfmhdkhfaa
