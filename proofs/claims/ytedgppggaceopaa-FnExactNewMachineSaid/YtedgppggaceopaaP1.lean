/- Chapter 3: blocks: what the model's smaller functions answer. -/
import Derived.Test.YtedgppggaceopaaBC
import Derived.Test.YtedgppggaceopaaZT
import Derived.Test.YtedgppggaceopaaSm
import Derived.Test.YtedgppggaceopaaCopy
namespace Go.Proofs.Ytedgppggaceopaa
open Go.RowKit

theorem l1In_bool (x a b : Int) (w : World) (d : Bool) (h : decide (a ≤ x ∧ x ≤ b) = d) : Calls Try.prog 45 #[.int .i64 x, .int .i64 a, .int .i64 b] w fun e w' => e = .returned (.bool d) ∧ w' = w := by rw [← h]; exact l1In_any x a b w
theorem l3Data_is (x : Int) (w : World) (d : Bool) (h : dataB x = d) : Calls Try.prog 46 #[.int .i64 x] w fun e w' => e = .returned (.bool d) ∧ w' = w := by
  have H : Hid (decide (0 ≤ x ∧ x ≤ 255) = d) := h
  clear h
  go_enter Try.func46, Try.ntmps46
  go_wp2_with fail
  refine (l1In_bool x 0 255 _ d H.out).mono ?_
  rintro e w1 ⟨rfl, rfl⟩
  go_wp2
  go_ret
  exact ⟨rfl, rfl⟩

set_option maxRecDepth 20000 in
set_option maxHeartbeats 2000000 in
theorem specBF_any {o : Bool} {l u : Nat} (ao : Option Addr) (n cap : Nat) (bs : List (Int × Int)) (w : World) (h : RowAt w o l u 2 ao n cap (pairs bs)) (hn : n ≤ 2097152) :
    Calls Try.prog 103 #[.slice ao n cap] w fun e w' => e = .returned (.int .i64 (blkFault bs)) ∧ w' = w := by
  have hl := h.nPairs
  by_cases h24 : 24 < n
  · have hr : blkFault bs = 2 := if_pos (by omega)
    rw [hr]
    have hi : (24 : Int) < n := by omega
    go_enter Try.func103, Try.ntmps103
    go_wp2
    go_ret
    exact ⟨rfl, rfl⟩
  have hi : ¬ (24 : Int) < n := by omega
  have HR : Hid (blkFault bs = blkGo bs) := if_neg (by omega)
  go_enter Try.func103, Try.ntmps103
  go_wp2
  go_loop [3] (fun i => ∃ k : Nat, k ≤ n ∧ i = .int .i64 k ∧ ∀ j, j < k → blkOne (bs.getD j (0, 0)) = 0) (fun i => n - (intOf i).toNat)
  case atStart => exact ⟨0, by omega, rfl, fun j hj => absurd hj (by omega)⟩
  case round =>
    obtain ⟨k, hk, rfl, ha⟩ := hrel
    have HA : Hid _ := ha
    clear ha
    by_cases hlt : k < n
    · obtain ⟨b, f, rfl, _, _, _, e1, e2, _⟩ := h.pair hlt
      have hlk : (k : Int) < (n : Int) := by omega
      have HF : Hid _ := blkGo_first bs k (by omega) HA.out
      have HN : Hid (blkOne (bs.getD k (0, 0)) = 0 → ∀ j, j < k + 1 → blkOne (bs.getD j (0, 0)) = 0) := fun h0 j hj => by
        by_cases e : j = k
        · subst e; exact h0
        · exact HA.out j (by omega)
      obtain ⟨⟨x, y⟩, hxy⟩ : ∃ p, bs.getD k (0, 0) = p := ⟨_, rfl⟩
      rw [hxy] at e1 e2 HF HN
      simp only at e1 e2
      clear hxy
      cases hx : refsB x with
      | false =>
        have H1 : Hid (decide (0 ≤ x ∧ x ≤ 200) = false) := hx
        have H0 : Hid (blkOne (x, y) = 3) := by show _ = _; simp [blkOne, hx]
        clear hx
        go_wp2_with fail
        refine (l1In_bool x 0 200 _ false H1.out).mono ?_
        rintro e w1 ⟨rfl, rfl⟩
        go_wp2
        go_ret
        exact ⟨ret_int (by rw [HR.out, HF.out (by rw [H0.out]; decide), H0.out]), rfl⟩
      | true =>
        have H1 : Hid (decide (0 ≤ x ∧ x ≤ 200) = true) := hx
        cases hy : dataB y with
        | false =>
          have H2 : Hid (dataB y = false) := hy
          have H0 : Hid (blkOne (x, y) = 3) := by show _ = _; simp [blkOne, hy]
          clear hx hy
          go_wp2_with fail
          refine (l1In_bool x 0 200 _ true H1.out).mono ?_
          rintro e w1 ⟨rfl, rfl⟩
          go_wp2_with fail
          refine (l3Data_is y _ false H2.out).mono ?_
          rintro e w1 ⟨rfl, rfl⟩
          go_wp2
          go_ret
          exact ⟨ret_int (by rw [HR.out, HF.out (by rw [H0.out]; decide), H0.out]), rfl⟩
        | true =>
          have H2 : Hid (dataB y = true) := hy
          by_cases hz : x = 0
          · by_cases hz2 : y = 0
            · subst hz
              subst hz2
              have H0 : Hid (blkOne ((0 : Int), (0 : Int)) = 0) := by show _ = _; decide
              clear hx hy
              go_wp2_with fail
              refine (l1In_bool 0 0 200 _ true H1.out).mono ?_
              rintro e w1 ⟨rfl, rfl⟩
              go_wp2_with fail
              refine (l3Data_is 0 _ true H2.out).mono ?_
              rintro e w1 ⟨rfl, rfl⟩
              go_wp2
              go_round
              case rel => exact ⟨k + 1, by omega, by go_num, HN.out H0.out⟩
              case measure => simp [intOf]; omega
            · subst hz
              have H0 : Hid (blkOne ((0 : Int), y) = 1) := by show _ = _; simp [blkOne, hx, hy, hz2]
              have hne : (y != 0) = true := by simp [hz2]
              clear hx hy hz2
              go_wp2_with fail
              refine (l1In_bool 0 0 200 _ true H1.out).mono ?_
              rintro e w1 ⟨rfl, rfl⟩
              go_wp2_with fail
              refine (l3Data_is y _ true H2.out).mono ?_
              rintro e w1 ⟨rfl, rfl⟩
              go_wp2
              go_ret
              exact ⟨ret_int (by rw [HR.out, HF.out (by rw [H0.out]; decide), H0.out]), rfl⟩
          · have H0 : Hid (blkOne (x, y) = 0) := by show _ = _; simp [blkOne, hx, hy, hz]
            clear hx hy
            go_wp2_with fail
            refine (l1In_bool x 0 200 _ true H1.out).mono ?_
            rintro e w1 ⟨rfl, rfl⟩
            go_wp2_with fail
            refine (l3Data_is y _ true H2.out).mono ?_
            rintro e w1 ⟨rfl, rfl⟩
            go_wp2
            go_round
            case rel => exact ⟨k + 1, by omega, by go_num, HN.out H0.out⟩
            case measure => simp [intOf]; omega
    · obtain rfl : k = n := by omega
      have HZ : Hid (blkGo bs = 0) := blkGo_zero bs fun j hj => HA.out j (by omega)
      go_wp2
      go_ret
      exact ⟨ret_int (by rw [HR.out, HZ.out]), rfl⟩

theorem specBF_is {o : Bool} {l u : Nat} (ao : Option Addr) (n cap : Nat) (bs : List (Int × Int)) (w : World) (h : RowAt w o l u 2 ao n cap (pairs bs)) (hn : n ≤ 2097152) (r : Int) (hr : blkFault bs = r) :
    Calls Try.prog 103 #[.slice ao n cap] w fun e w' => e = .returned (.int .i64 r) ∧ w' = w := by rw [← hr]; exact specBF_any ao n cap bs w h hn

end Go.Proofs.Ytedgppggaceopaa
