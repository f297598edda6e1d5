/- Chapter 3: what sharing and dropping ask; how many are free; new blocks: the program's answers. -/
import Derived.Test.YtlblbjebbecgbaaQ1d
namespace Go.Proofs.Ytlblbjebbecgbaa
open Go.RowKit

set_option maxHeartbeats 1000000 in
theorem takenFault_is {o : Bool} {l u : Nat} (ao : Option Addr) (n cap : Nat) (bs : List (Int × Int)) (x : Int) (w : World) (h : RowAt w o l u 2 ao n cap (pairs bs)) (hn : n ≤ 2097152) (cd : Int) (hc : askCode bs x = cd) :
    Calls Try.prog 95 #[.slice ao n cap, .int .i64 x] w fun e w' => e = .returned (.int .i64 cd) ∧ Below w.heap.size w w' := by
  have hl := h.nPairs
  unfold askCode at hc
  by_cases h0 : blkFault bs = 0
  · rw [if_pos h0, hl] at hc
    have H0 : Hid _ := h0
    have h24 := (blkFault_zero h0).1
    clear h0
    by_cases hx : 0 ≤ x ∧ x ≤ (n : Int) - 1
    · rw [if_pos hx] at hc
      obtain ⟨k, rfl⟩ : ∃ k : Nat, x = k := ⟨x.toNat, by omega⟩
      rw [Int.toNat_natCast] at hc
      have hlt : k < n := by omega
      have hlk : (k : Int) < n := by omega
      have hge : ¬ (n : Int) ≤ (k : Int) := by omega
      have hk0 : ¬ (k : Int) < 0 := by omega
      obtain ⟨b, f, rfl, _, _, hbs, e1, e2, _⟩ := h.pair hlt
      obtain ⟨y, hy⟩ : ∃ y, (bs.getD k (0, 0)).1 = y := ⟨_, rfl⟩
      rw [hy] at e1 hc
      clear hx hy e2
      by_cases hz : y = 0
      · rw [if_pos hz] at hc
        subst hz
        subst hc
        go_enter Try.func95, Try.ntmps95
        go_wp2_with fail
        refine (implBF_b _ n cap bs _ h hn 0 H0.out).mono ?_
        rintro e w1 ⟨rfl, hb⟩
        replace e1 := cell_later hb e1
        go_wp2
        go_ret
        exact ⟨rfl, hb⟩
      · rw [if_neg hz] at hc
        subst hc
        go_enter Try.func95, Try.ntmps95
        go_wp2_with fail
        refine (implBF_b _ n cap bs _ h hn 0 H0.out).mono ?_
        rintro e w1 ⟨rfl, hb⟩
        replace e1 := cell_later hb e1
        go_wp2
        go_ret
        exact ⟨rfl, hb⟩
    · rw [if_neg hx] at hc
      subst hc
      by_cases hx0 : x < 0
      · clear hx
        go_enter Try.func95, Try.ntmps95
        go_wp2_with fail
        refine (implBF_b _ n cap bs _ h hn 0 H0.out).mono ?_
        rintro e w1 ⟨rfl, hb⟩
        go_wp2
        go_ret
        exact ⟨rfl, hb⟩
      · have hge : (n : Int) ≤ x := by omega
        clear hx
        go_enter Try.func95, Try.ntmps95
        go_wp2_with fail
        refine (implBF_b _ n cap bs _ h hn 0 H0.out).mono ?_
        rintro e w1 ⟨rfl, hb⟩
        go_wp2
        go_ret
        exact ⟨rfl, hb⟩
  · rw [if_neg h0] at hc
    rw [hc] at h0
    have HC : Hid _ := hc
    have hne : (cd != 0) = true := by simp [h0]
    clear hc h0
    go_enter Try.func95, Try.ntmps95
    go_wp2_with fail
    refine (implBF_b _ n cap bs _ h hn cd HC.out).mono ?_
    rintro e w1 ⟨rfl, hb⟩
    go_wp2
    go_ret
    exact ⟨rfl, hb⟩

set_option maxRecDepth 20000 in
set_option maxHeartbeats 2000000 in
theorem implFree_is {o : Bool} {l u : Nat} (ao : Option Addr) (n cap : Nat) (bs : List (Int × Int)) (w : World) (h : RowAt w o l u 2 ao n cap (pairs bs)) (hn : n ≤ 2097152) (cd vl : Int) (hc : blkFault bs = cd) (hv : freeVal bs = vl) :
    Calls Try.prog 32 #[.slice ao n cap] w fun e w' => e = .returned (.agg #[.int .i64 cd, .int .i64 vl]) ∧ Below w.heap.size w w' := by
  have hl := h.nPairs
  have B : Below w.heap.size w (w.alloc (.cells #[.int .i64 0, .int .i64 0] 43)) := (Below.refl _ _).alloc (Nat.le_refl _) _
  have z0 : (w.alloc (.cells #[.int .i64 0, .int .i64 0] 43)).cell? ⟨w.heap.size, 0, none⟩ = some (.int .i64 0) := by simp
  have z1 : (w.alloc (.cells #[.int .i64 0, .int .i64 0] 43)).cell? ⟨w.heap.size, 1, none⟩ = some (.int .i64 0) := by simp
  have y0 : (w.alloc (.cells #[.int .i64 0, .int .i64 0] 43)).frozen? ⟨w.heap.size, 0, none⟩ = false := by simp
  have y1 : (w.alloc (.cells #[.int .i64 0, .int .i64 0] 43)).frozen? ⟨w.heap.size, 1, none⟩ = false := by simp
  have hz : w.heap.size < (w.alloc (.cells #[.int .i64 0, .int .i64 0] 43)).heap.size := by simp
  have r := h.below B
  by_cases h0 : cd = 0
  · have HV : Hid ((freeN bs : Int) = vl) := by show _ = _; rw [← hv, freeVal, hc, if_pos h0]
    subst h0
    have h24 := (blkFault_zero hc).1
    have HG : Hid (Fine bs) := fine_of (blkFault_zero hc).2
    have HC : Hid _ := hc
    clear hc hv
    go_enter Try.func32, Try.ntmps32
    go_wp2_with fail
    refine (implBF_b _ n cap bs _ (by exact r) hn 0 HC.out).mono ?_
    rintro e w1 ⟨rfl, hb⟩
    replace z0 := cell_later hb z0
    replace z1 := cell_later hb z1
    replace y0 := frozen_later hb hz y0
    replace y1 := frozen_later hb hz y1
    replace hz := Nat.lt_of_lt_of_le hz hb.size
    replace B := below_next B hb
    replace r := r.below hb
    clear hb
    go_wp2_with fail
    refine (numbersOf_any _ n cap bs _ (by exact r) (by omega)).mono ?_
    rintro e w2 ⟨rfl, RN, hb⟩
    replace z0 := cell_later hb z0
    replace z1 := cell_later hb z1
    replace y0 := frozen_later hb hz y0
    replace y1 := frozen_later hb hz y1
    replace hz := Nat.lt_of_lt_of_le hz hb.size
    replace B := below_next B hb
    clear hb r
    go_wp2
    go_loop [4, 16] (fun v i => ∃ k : Nat, k ≤ n ∧ i = .int .i64 k ∧ v = .int .i64 (freeN (bs.take k) : Int)) (fun _ i => n - (intOf i).toNat)
    case atStart => exact ⟨0, by omega, rfl, rfl⟩
    case round =>
      obtain ⟨k, hk, rfl, rfl⟩ := hrel
      by_cases hlt : k < n
      · obtain ⟨b, f, e', _, _, _, e1, _⟩ := RN.one hlt
        cases e'
        have hlk : (k : Int) < (n : Int) := by omega
        have HS : Hid _ := freeN_snoc bs k (by omega)
        have hle := freeN_le (bs.take k)
        rw [List.length_take] at hle
        obtain ⟨g1, g2⟩ := HG.out.at (k := k) (by omega)
        have hq := num_free g1 g2
        rw [nums_getD bs k (by omega), numOf, Nat.zero_add] at e1
        obtain ⟨⟨p, q⟩, hxy⟩ : ∃ p, bs.getD k (0, 0) = p := ⟨_, rfl⟩
        rw [hxy] at e1 hq HS
        simp only at e1 hq HS
        clear hxy g1 g2
        generalize freeN (bs.take k) = m at *
        by_cases hz' : p = 0
        · rw [decide_eq_true hz'] at hq
          rw [if_pos hz'] at HS
          clear hz'
          go_wp2
          go_round
          case rel => exact ⟨k + 1, by omega, by go_num, by rw [HS.out]; simp⟩
          case measure => simp [intOf]; omega
        · rw [decide_eq_false hz'] at hq
          rw [if_neg hz'] at HS
          clear hz'
          go_wp2
          go_round
          case rel => exact ⟨k + 1, by omega, by go_num, by rw [HS.out]; simp⟩
          case measure => simp [intOf]; omega
      · obtain rfl : k = n := by omega
        have HE : Hid (freeN (bs.take k) = freeN bs) := by show _ = _; rw [List.take_of_length_le (by omega)]
        rw [HE.out, HV.out]
        go_wp2
        refine bodyPost_ret (v := .agg #[.int .i64 0, .int .i64 vl]) (by simp [results, Try.results32, go_sem, z0, z1]) rfl ⟨rfl, ?_⟩
        refine Below.setCell (Below.setCell B ?_ _) ?_ _ <;> simp
  · have hvl : vl = 0 := by rw [← hv, freeVal, hc, if_neg h0]
    subst hvl
    have HC : Hid _ := hc
    have hne : (cd != 0) = true := by simp [h0]
    clear hc hv h0
    go_enter Try.func32, Try.ntmps32
    go_wp2_with fail
    refine (implBF_b _ n cap bs _ (by exact r) hn cd HC.out).mono ?_
    rintro e w1 ⟨rfl, hb⟩
    replace z0 := cell_later hb z0
    replace z1 := cell_later hb z1
    replace y0 := frozen_later hb hz y0
    replace y1 := frozen_later hb hz y1
    replace B := below_next B hb
    clear hb
    go_wp2
    refine bodyPost_ret (v := .agg #[.int .i64 cd, .int .i64 0]) (by simp [results, Try.results32, go_sem, z0, z1]) rfl ⟨rfl, ?_⟩
    refine Below.setCell (Below.setCell B ?_ _) ?_ _ <;> simp

end Go.Proofs.Ytlblbjebbecgbaa
