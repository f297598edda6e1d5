/- Chapter 3: the program's BlocksFault; blocks as numbers and back. -/
import Derived.Test.YtlblbjebbecgbaaQ1a
namespace Go.Proofs.Ytlblbjebbecgbaa
open Go.RowKit

set_option maxRecDepth 20000 in
set_option maxHeartbeats 2000000 in
theorem implBF_any {o : Bool} {l u : Nat} (ao : Option Addr) (n cap : Nat) (bs : List (Int × Int)) (w : World) (h : RowAt w o l u 2 ao n cap (pairs bs)) (hn : n ≤ 2097152) :
    Calls Try.prog 36 #[.slice ao n cap] w fun e w' => e = .returned (.int .i64 (blkFault bs)) ∧ Below w.heap.size w w' := by
  have hl := h.nPairs
  by_cases h24 : 24 < n
  · have hr : blkFault bs = 2 := if_pos (by omega)
    rw [hr]
    have hi : (24 : Int) < n := by omega
    go_enter Try.func36, Try.ntmps36
    go_wp2
    go_ret
    exact ⟨rfl, Below.refl _ _⟩
  have hi : ¬ (24 : Int) < n := by omega
  have HR : Hid (blkFault bs = blkGo bs) := if_neg (by omega)
  go_enter Try.func36, Try.ntmps36
  go_wp2
  go_loopw [11] (fun i wr => ∃ k : Nat, k ≤ n ∧ i = .int .i64 k ∧ (∀ j, j < k → blkOne (bs.getD j (0, 0)) = 0) ∧ Below w.heap.size w wr) (fun i _ => n - (intOf i).toNat)
  case atStart => exact ⟨0, by omega, rfl, fun j hj => absurd hj (by omega), Below.refl _ _⟩
  case round =>
    obtain ⟨k, hk, rfl, ha, B⟩ := hrel
    have HA : Hid _ := ha
    clear ha
    by_cases hlt : k < n
    · obtain ⟨b, f, rfl, _, _, hbs, e1, e2, _⟩ := h.pair hlt
      replace e1 := (B.cell (p := ⟨b, f + k * 2, none⟩) hbs).trans e1
      replace e2 := (B.cell (p := ⟨b, f + k * 2 + 1, none⟩) hbs).trans e2
      have hlk : (k : Int) < (n : Int) := by omega
      have HF : Hid _ := blkGo_first bs k (by omega) HA.out
      have HN : Hid (blkOne (bs.getD k (0, 0)) = 0 → ∀ j, j < k + 1 → blkOne (bs.getD j (0, 0)) = 0) := fun h0 j hj => by
        by_cases e : j = k
        · subst e; exact h0
        · exact HA.out j (by omega)
      obtain ⟨⟨x, y⟩, hxy⟩ : ∃ p, bs.getD k (0, 0) = p := ⟨_, rfl⟩
      rw [hxy] at e1 e2 HF HN
      simp only at e1 e2
      clear hxy
      obtain ⟨r, hr⟩ : ∃ r, blkOne (x, y) = r := ⟨_, rfl⟩
      rw [hr] at HF HN
      have H0 : Hid _ := hr
      clear hr
      have A : Below w.heap.size w (wr.alloc (.cells #[.int .i64 x, .int .i64 y] 55)) := B.alloc B.size _
      by_cases hr0 : r = 0
      · subst hr0
        go_wp2_with fail
        refine (blockFault_is x y _ 0 H0.out).mono ?_
        rintro e w1 ⟨rfl, hb⟩
        replace A := below_next A hb
        clear hb
        go_wp2
        go_roundw
        case rel => exact ⟨k + 1, by omega, by go_num, HN.out trivial, A⟩
        case measure => simp [intOf]; omega
      · have hne : (r != 0) = true := by simp [hr0]
        have HH : Hid _ := HF.out hr0
        clear HF HN hr0
        go_wp2_with fail
        refine (blockFault_is x y _ r H0.out).mono ?_
        rintro e w1 ⟨rfl, hb⟩
        replace A := below_next A hb
        clear hb
        go_wp2
        go_ret
        exact ⟨ret_int (by rw [HR.out, HH.out]), A⟩
    · obtain rfl : k = n := by omega
      have HZ : Hid (blkGo bs = 0) := blkGo_zero bs fun j hj => HA.out j (by omega)
      go_wp2
      go_ret
      exact ⟨ret_int (by rw [HR.out, HZ.out]), B⟩

theorem implBF_b {o : Bool} {l u : Nat} (ao : Option Addr) (n cap : Nat) (bs : List (Int × Int)) (w : World) (h : RowAt w o l u 2 ao n cap (pairs bs)) (hn : n ≤ 2097152) (r : Int) (hr : blkFault bs = r) :
    Calls Try.prog 36 #[.slice ao n cap] w fun e w' => e = .returned (.int .i64 r) ∧ Below w.heap.size w w' := by rw [← hr]; exact implBF_any ao n cap bs w h hn

end Go.Proofs.Ytlblbjebbecgbaa
