/- Chapter 8: the best log, by the model. -/
import Derived.Test.YtpbhiednmnolgaaEX
import Derived.Test.YtpbhiednmnolgaaH9
namespace Go.Proofs.Ytpbhiednmnolgaa
open Go.RowKit

set_option maxRecDepth 20000 in
set_option maxHeartbeats 4000000 in
theorem specBest_is {o1 o2 : Bool} {l1 u1 l2 u2 : Nat} (a0 a1 : Option Addr) (n c0 m c1 : Nat) (hs : Nat → Hd) (ls : List Int) (xss : List (List En)) (w : World) (h1 : RowAt w o1 l1 u1 1 a0 n c0 (ints ls)) (h2 : LogsAt w o2 l2 u2 a1 m c1 hs xss) (hm : m ≤ 1048576) (cd : Int) (vl : Nat) (hr : bestR ls xss = (cd, vl)) : Calls Try.prog 28 #[.slice a0 n c0, .slice a1 m c1] w fun e w' => e = .returned (.agg #[.int .i64 cd, .int .i64 (vl : Int)]) ∧ Below w.heap.size w w' := by
  have hl1 := h1.nInts
  have hl2 := h2.len
  have hlen : ∀ i, i < m → (xss.getD i []).length = (hs i).2.1 := fun i hi => by obtain ⟨_, r⟩ := h2.each i hi; exact r.nSixs
  have HL : Hid _ := hlen
  have HR : Hid _ := hr
  clear hr hlen
  by_cases hnm : n = m
  rotate_left 1
  · have hq : ((n : Int) != (m : Int)) = true := by simp; omega
    have HB : (1, 0) = (cd, vl) := by rw [← HR.out]; unfold bestR; rw [if_pos (by omega)]
    simp only [Prod.mk.injEq] at HB
    obtain ⟨rfl, rfl⟩ := HB
    clear HR
    go_enter Try.func28, Try.ntmps28
    go_wp2_with (first | ((with_reducible refine alloc_new 49 #[.int .i64 0, .int .i64 0] (fun _ => by kernel_rfl) ?_); intro b0 W0 N0; have O0 : Hid (w.heap.size ≤ b0) := N0.ge; have B := N0.below; have H0 : Hid (b0 < W0.heap.size) := N0.lt; have c0_0 : W0.cell? ⟨b0, 0, none⟩ = some (.int .i64 0) := N0.cell 0 _ rfl; have c0_1 : W0.cell? ⟨b0, 1, none⟩ = some (.int .i64 0) := N0.cell 1 _ rfl; have y0_0 : W0.frozen? ⟨b0, 0, none⟩ = false := N0.froz 0; have y0_1 : W0.frozen? ⟨b0, 1, none⟩ = false := N0.froz 1; clear N0))
    refine bodyPost_ret (v := .agg #[.int .i64 1, .int .i64 0]) (by simp [results, Try.results28, go_sem, c0_0, c0_1]) rfl ?_
    have KZ : Kept b0 (b0 + 1) W0 ((W0.setCell ⟨b0, 0, none⟩ (.int .i64 1)).setCell ⟨b0, 1, none⟩ (.int .i64 0)) := by refine Kept.setCell (Kept.setCell (Kept.refl _ _ _) ?_ ?_ _) ?_ ?_ _ <;> simp
    exact ⟨rfl, B.trans (KZ.below _ O0.out B.size)⟩
  subst hnm
  have hq : ((n : Int) != (n : Int)) = false := by simp
  by_cases hz : n = 0
  · subst hz
    have HB : (4, 0) = (cd, vl) := by rw [← HR.out]; unfold bestR; rw [if_neg (by omega), if_pos (by omega)]
    simp only [Prod.mk.injEq] at HB
    obtain ⟨rfl, rfl⟩ := HB
    clear HR
    go_enter Try.func28, Try.ntmps28
    go_wp2_with (first | ((with_reducible refine alloc_new 49 #[.int .i64 0, .int .i64 0] (fun _ => by kernel_rfl) ?_); intro b0 W0 N0; have O0 : Hid (w.heap.size ≤ b0) := N0.ge; have B := N0.below; have H0 : Hid (b0 < W0.heap.size) := N0.lt; have c0_0 : W0.cell? ⟨b0, 0, none⟩ = some (.int .i64 0) := N0.cell 0 _ rfl; have c0_1 : W0.cell? ⟨b0, 1, none⟩ = some (.int .i64 0) := N0.cell 1 _ rfl; have y0_0 : W0.frozen? ⟨b0, 0, none⟩ = false := N0.froz 0; have y0_1 : W0.frozen? ⟨b0, 1, none⟩ = false := N0.froz 1; clear N0))
    refine bodyPost_ret (v := .agg #[.int .i64 4, .int .i64 0]) (by simp [results, Try.results28, go_sem, c0_0, c0_1]) rfl ?_
    have KZ : Kept b0 (b0 + 1) W0 ((W0.setCell ⟨b0, 0, none⟩ (.int .i64 4)).setCell ⟨b0, 1, none⟩ (.int .i64 0)) := by refine Kept.setCell (Kept.setCell (Kept.refl _ _ _) ?_ ?_ _) ?_ ?_ _ <;> simp
    exact ⟨rfl, B.trans (KZ.below _ O0.out B.size)⟩
  have hz' : ((n : Int) == 0) = false := by simp; omega
  have HB : (0, bestTo ls xss n) = (cd, vl) := by rw [← HR.out]; unfold bestR; rw [if_neg (by omega), if_neg (by omega), hl2]
  simp only [Prod.mk.injEq] at HB
  obtain ⟨rfl, hv⟩ := HB
  have HV : Hid _ := hv
  clear HR hv
  go_enter Try.func28, Try.ntmps28
  go_wp2_with (first | ((with_reducible refine alloc_new 49 #[.int .i64 0, .int .i64 0] (fun _ => by kernel_rfl) ?_); intro b0 W0 N0; have O0 : Hid (w.heap.size ≤ b0) := N0.ge; have B := N0.below; have H0 : Hid (b0 < W0.heap.size) := N0.lt; have c0_0 : W0.cell? ⟨b0, 0, none⟩ = some (.int .i64 0) := N0.cell 0 _ rfl; have c0_1 : W0.cell? ⟨b0, 1, none⟩ = some (.int .i64 0) := N0.cell 1 _ rfl; have y0_0 : W0.frozen? ⟨b0, 0, none⟩ = false := N0.froz 0; have y0_1 : W0.frozen? ⟨b0, 1, none⟩ = false := N0.froz 1; clear N0))
  go_loopw [5, 6] (fun b i wr => ∃ k : Nat, 1 ≤ k ∧ k ≤ n ∧ i = .int .i64 k ∧ b = .int .i64 ((bestTo ls xss k : Nat) : Int) ∧ Below W0.heap.size W0 wr) (fun _ i _ => n - (intOf i).toNat)
  case atStart => exact ⟨1, Nat.le_refl _, by omega, rfl, by rw [bestTo_one]; rfl, Below.refl _ _⟩
  case round =>
    obtain ⟨k, hk1, hk, rfl, rfl, C⟩ := hrel
    replace c0_0 := cell_later C c0_0
    replace c0_1 := cell_later C c0_1
    replace y0_0 := frozen_later C H0.out y0_0
    replace y0_1 := frozen_later C H0.out y0_1
    have H0' : Hid (b0 < wr.heap.size) := Nat.lt_of_lt_of_le H0.out C.size
    replace B := below_next B C
    by_cases hlt : k < n
    · have hlk : (k : Int) < (n : Int) := by omega
      have hbt := bestTo_le ls xss k n hlt
      have HS : Hid (bestTo ls xss (k + 1) = if betB (ls.getD k 0) (ls.getD (bestTo ls xss k) 0) (hs k).2.1 (hs (bestTo ls xss k)).2.1 = true then k else bestTo ls xss k) := by show _ = _; rw [← HL.out k hlt, ← HL.out _ hbt]; rfl
      generalize hbe : bestTo ls xss k = bt at *
      clear hbe
      have hbi : (bt : Int) < (n : Int) := by omega
      obtain ⟨bl, ol, rfl, _, _, _, e1, _⟩ := h1.int hlt
      obtain ⟨bl', ol', e', _, _, _, e2, _⟩ := h1.int hbt
      cases e'
      obtain ⟨bg, og, rfl, _, e3⟩ := h2.cell hlt
      obtain ⟨bg', og', e', _, e4⟩ := h2.cell hbt
      cases e'
      replace e1 := cell_later B e1
      replace e2 := cell_later B e2
      replace e3 := cell_later B e3
      replace e4 := cell_later B e4
      have HI := HL
      clear HI
      obtain ⟨⟨p1, m1, d1⟩, q1⟩ : ∃ q, hs k = q := ⟨_, rfl⟩
      obtain ⟨⟨p2, m2, d2⟩, q2⟩ : ∃ q, hs bt = q := ⟨_, rfl⟩
      rw [q1] at e3 HS
      rw [q2] at e4 HS
      simp only at e3 e4 HS
      clear q1 q2
      generalize ls.getD k 0 = la at *
      generalize ls.getD bt 0 = lb at *
      by_cases w1 : lb < la
      ·
        have HT : Hid (bestTo ls xss (k + 1) = k) := by show _ = _; rw [HS.out, if_pos (by unfold betB; exact decide_eq_true (by omega))]
        clear HS
        go_wp2_with fail
        go_quiet (fail)
        go_wp2
        go_roundw
        case rel => exact ⟨k + 1, by omega, by omega, by go_num, by rw [HT.out], below_drewN C _⟩
        case measure => simp [intOf]; omega
      · by_cases w2 : la = lb
        · subst w2
          have wq : (la == la) = true := by simp
          by_cases w3 : m2 < m1
          ·
            have w3i : (m2 : Int) < (m1 : Int) := by omega
            have HT : Hid (bestTo ls xss (k + 1) = k) := by show _ = _; rw [HS.out, if_pos (by unfold betB; exact decide_eq_true (by omega))]
            clear HS
            go_wp2_with fail
            go_quiet (fail)
            go_wp2
            go_roundw
            case rel => exact ⟨k + 1, by omega, by omega, by go_num, by rw [HT.out], below_drewN C _⟩
            case measure => simp [intOf]; omega
          ·
            have w3i : ¬ (m2 : Int) < (m1 : Int) := by omega
            have HT : Hid (bestTo ls xss (k + 1) = bt) := by show _ = _; rw [HS.out, if_neg (by unfold betB; rw [decide_eq_false (by omega)]; decide)]
            clear HS
            go_wp2_with fail
            go_quiet (fail)
            go_wp2
            go_roundw
            case rel => exact ⟨k + 1, by omega, by omega, by go_num, by rw [HT.out], below_drewN C _⟩
            case measure => simp [intOf]; omega
        ·
          have HT : Hid (bestTo ls xss (k + 1) = bt) := by show _ = _; rw [HS.out, if_neg (by unfold betB; rw [decide_eq_false (by omega)]; decide)]
          clear HS
          go_wp2_with fail
          go_quiet (fail)
          go_wp2
          go_roundw
          case rel => exact ⟨k + 1, by omega, by omega, by go_num, by rw [HT.out], below_drewN C _⟩
          case measure => simp [intOf]; omega
    · obtain rfl : k = n := by omega
      rw [HV.out]
      go_wp2
      refine bodyPost_ret (v := .agg #[.int .i64 0, .int .i64 (vl : Int)]) (by simp [results, Try.results28, go_sem, c0_0, c0_1]) rfl ?_
      have KZ : Kept b0 (b0 + 1) wr ((wr.setCell ⟨b0, 0, none⟩ (.int .i64 0)).setCell ⟨b0, 1, none⟩ (.int .i64 (vl : Int))) := by refine Kept.setCell (Kept.setCell (Kept.refl _ _ _) ?_ ?_ _) ?_ ?_ _ <;> simp
      exact ⟨rfl, B.trans (KZ.below _ O0.out B.size)⟩

end Go.Proofs.Ytpbhiednmnolgaa
