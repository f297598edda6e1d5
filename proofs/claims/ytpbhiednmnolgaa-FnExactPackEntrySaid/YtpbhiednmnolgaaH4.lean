/- Chapter 8: an entry as words, by both. -/
import Derived.Test.YtpbhiednmnolgaaEX
import Derived.Test.YtpbhiednmnolgaaXA
import Derived.Test.YtpbhiednmnolgaaYU
import Derived.Test.YtpbhiednmnolgaaYN
namespace Go.Proofs.Ytpbhiednmnolgaa
open Go.RowKit

def packE (x : En) : List Int := [x.1, x.2.1, x.2.2.1 * 256 + x.2.2.2.1, x.2.2.2.2.1, x.2.2.2.2.2]
def packEL (x : En) : List Int := if enFault x = 0 then packE x else []
theorem op_ok {k v a x : Int} (h : opF k v a x = 0) : (1 ≤ k ∧ k ≤ 6) ∧ (1 ≤ v ∧ v ≤ 99) ∧ (0 ≤ a ∧ a ≤ 15) ∧ (0 ≤ x ∧ x ≤ 255) := by
  unfold opF at h
  by_cases hk : 1 ≤ k ∧ k ≤ 6
  · rw [if_pos hk] at h
    by_cases hc : (volIdB v && (!opAt k || spotB a) && opValB k x) = true
    · rw [if_pos hc] at h
      by_cases hd : ((!opAt k && a != 0) || (!opVal k && x != 0)) = true
      · rw [if_pos hd] at h; cases h
      · simp only [Bool.and_eq_true, Bool.or_eq_true, Bool.not_eq_true'] at hc hd
        obtain ⟨⟨h1, h2⟩, h3⟩ := hc
        have hv : 1 ≤ v ∧ v ≤ 99 := of_decide_eq_true h1
        have ha : 0 ≤ a ∧ a ≤ 15 := by
          rcases h2 with h2 | h2
          · have : ¬ (a != 0) = true := fun q => hd (Or.inl ⟨h2, q⟩)
            simp at this; omega
          · exact of_decide_eq_true h2
        have hx : 0 ≤ x ∧ x ≤ 255 := by
          unfold opValB at h3
          by_cases k1 : k = 1
          · rw [if_pos k1] at h3; have := of_decide_eq_true h3; omega
          · rw [if_neg k1] at h3
            by_cases k2 : k = 2
            · rw [if_pos k2] at h3; exact of_decide_eq_true h3
            · rw [if_neg k2] at h3
              by_cases k5 : k = 5
              · rw [if_pos k5] at h3; have := of_decide_eq_true h3; omega
              · have hq : opVal k = false := by unfold opVal; simp [k1, k2, k5]
                have : ¬ (x != 0) = true := fun q => hd (Or.inr ⟨hq, q⟩)
                simp at this; omega
        exact ⟨hk, hv, ha, hx⟩
    · rw [if_neg hc] at h; cases h
  · rw [if_neg hk] at h; cases h
theorem en_ok {p q k v a x : Int} (h : enFault (p, q, k, v, a, x) = 0) : (1 ≤ p ∧ p ≤ 99) ∧ (1 ≤ q ∧ q ≤ 999) ∧ opF k v a x = 0 ∧ (1 ≤ k ∧ k ≤ 6) ∧ (1 ≤ v ∧ v ≤ 99) ∧ (0 ≤ a ∧ a ≤ 15) ∧ (0 ≤ x ∧ x ≤ 255) := by
  unfold enFault at h
  by_cases hc : (1 ≤ p ∧ p ≤ 99) ∧ (1 ≤ q ∧ q ≤ 999)
  · rw [if_pos hc] at h
    exact ⟨hc.1, hc.2, h, op_ok h⟩
  · rw [if_neg hc] at h; cases h

set_option maxRecDepth 20000 in
set_option maxHeartbeats 4000000 in
theorem l8Pack_is (p q k v a x : Int) (w : World) (hk : 0 ≤ k ∧ k ≤ 255) (hv : 0 ≤ v ∧ v ≤ 255) : Calls Try.prog 48 #[.agg #[.int .i64 p, .int .i64 q, .int .i64 k, .int .i64 v, .int .i64 a, .int .i64 x]] w fun e w' => ∃ g, e = .returned (.slice (some ⟨g, 0, none⟩) 5 5) ∧ RowAt w' true w.heap.size w'.heap.size 1 (some ⟨g, 0, none⟩) 5 5 (ints [p, q, k * 256 + v, a, x]) ∧ Below w.heap.size w w' := by
  have hw1 : IntKind.i64.wrap (k * 256) = k * 256 := wrapI_same _ (by omega)
  have hw2 : IntKind.i64.wrap (k * 256 + v) = k * 256 + v := wrapI_same _ (by omega)
  clear hk hv
  go_enter Try.func48, Try.ntmps48
  go_wp2_with (first | ((with_reducible refine box_new 29 #[.int .i64 p, .int .i64 q, .int .i64 k, .int .i64 v, .int .i64 a, .int .i64 x] rfl ?_); intro b0 W0 N0; have O0 : Hid (w.heap.size ≤ b0) := N0.ge; have B := N0.below; have H0 : Hid (b0 < W0.heap.size) := N0.lt; have c0_0 : W0.cell? ⟨b0, 0, none⟩ = some (.int .i64 p) := N0.cell 0 _ rfl; have c0_1 : W0.cell? ⟨b0, 1, none⟩ = some (.int .i64 q) := N0.cell 1 _ rfl; have c0_2 : W0.cell? ⟨b0, 2, none⟩ = some (.int .i64 k) := N0.cell 2 _ rfl; have c0_3 : W0.cell? ⟨b0, 3, none⟩ = some (.int .i64 v) := N0.cell 3 _ rfl; have c0_4 : W0.cell? ⟨b0, 4, none⟩ = some (.int .i64 a) := N0.cell 4 _ rfl; have c0_5 : W0.cell? ⟨b0, 5, none⟩ = some (.int .i64 x) := N0.cell 5 _ rfl; clear N0))
  have R := row_lit W0 [.int .i64 p, .int .i64 q, .int .i64 (k * 256 + v), .int .i64 a, .int .i64 x] 2 5 1 rfl
  go_ret
  exact ⟨_, rfl, R.widen B.size (by simp), B.alloc B.size _⟩

set_option maxRecDepth 20000 in
set_option maxHeartbeats 4000000 in
theorem specPackE_is (p q k v a x : Int) (w : World) (cd : Int) (xs : List Int) (hc : enFault (p, q, k, v, a, x) = cd) (hx : packEL (p, q, k, v, a, x) = xs) : Calls Try.prog 35 #[.agg #[.int .i64 p, .int .i64 q, .int .i64 k, .int .i64 v, .int .i64 a, .int .i64 x]] w fun e w' => IntsR w w' e cd xs := by
  have HC : Hid _ := hc
  have HX : Hid _ := hx
  clear hc hx
  go_enter Try.func35, Try.ntmps35
  go_wp2_with (first | ((with_reducible refine box_new 29 #[.int .i64 p, .int .i64 q, .int .i64 k, .int .i64 v, .int .i64 a, .int .i64 x] rfl ?_); intro b0 W0 N0; have O0 : Hid (w.heap.size ≤ b0) := N0.ge; have B := N0.below; have H0 : Hid (b0 < W0.heap.size) := N0.lt; have c0_0 : W0.cell? ⟨b0, 0, none⟩ = some (.int .i64 p) := N0.cell 0 _ rfl; have c0_1 : W0.cell? ⟨b0, 1, none⟩ = some (.int .i64 q) := N0.cell 1 _ rfl; have c0_2 : W0.cell? ⟨b0, 2, none⟩ = some (.int .i64 k) := N0.cell 2 _ rfl; have c0_3 : W0.cell? ⟨b0, 3, none⟩ = some (.int .i64 v) := N0.cell 3 _ rfl; have c0_4 : W0.cell? ⟨b0, 4, none⟩ = some (.int .i64 a) := N0.cell 4 _ rfl; have c0_5 : W0.cell? ⟨b0, 5, none⟩ = some (.int .i64 x) := N0.cell 5 _ rfl; clear N0) | ((with_reducible refine alloc_new 35 #[.int .i64 0, .slice none 0 0] (fun _ => by kernel_rfl) ?_); intro b1 W1 N1; have O1 : Hid (b0 < b1) := Nat.lt_of_lt_of_le H0.out N1.ge; replace c0_0 := cell_later N1.below c0_0; replace c0_1 := cell_later N1.below c0_1; replace c0_2 := cell_later N1.below c0_2; replace c0_3 := cell_later N1.below c0_3; replace c0_4 := cell_later N1.below c0_4; replace c0_5 := cell_later N1.below c0_5; replace H0 : Hid (b0 < W1.heap.size) := Nat.lt_of_lt_of_le H0.out N1.below.size; replace B := below_next B N1.below; have H1 : Hid (b1 < W1.heap.size) := N1.lt; have c1_0 : W1.cell? ⟨b1, 0, none⟩ = some (.int .i64 0) := N1.cell 0 _ rfl; have c1_1 : W1.cell? ⟨b1, 1, none⟩ = some (.slice none 0 0) := N1.cell 1 _ rfl; have y1_0 : W1.frozen? ⟨b1, 0, none⟩ = false := N1.froz 0; have y1_1 : W1.frozen? ⟨b1, 1, none⟩ = false := N1.froz 1; clear N1) | fail)
  refine (specEF_is p q k v a x _ cd HC.out).mono ?_
  rintro e w1 ⟨rfl, BB⟩
  replace c0_0 := cell_later BB c0_0
  replace c0_1 := cell_later BB c0_1
  replace c0_2 := cell_later BB c0_2
  replace c0_3 := cell_later BB c0_3
  replace c0_4 := cell_later BB c0_4
  replace c0_5 := cell_later BB c0_5
  replace H0 : Hid (b0 < w1.heap.size) := Nat.lt_of_lt_of_le H0.out BB.size
  replace c1_0 := cell_later BB c1_0
  replace c1_1 := cell_later BB c1_1
  replace y1_0 := frozen_later BB H1.out y1_0
  replace y1_1 := frozen_later BB H1.out y1_1
  replace H1 : Hid (b1 < w1.heap.size) := Nat.lt_of_lt_of_le H1.out BB.size
  replace B := below_next B BB
  clear BB
  by_cases z : cd = 0
  rotate_left 1
  · have hz : (cd != 0) = true := by simp [z]
    have e0 : xs = [] := by rw [← HX.out]; unfold packEL; rw [HC.out, if_neg z]
    subst e0
    go_wp2
    refine bodyPost_ret (v := .agg #[.int .i64 cd, .slice none 0 0]) (by simp [results, Try.results35, go_sem, c1_0, c1_1]) rfl ?_
    have KZ : Kept b1 (b1 + 1) w1 ((w1.setCell ⟨b1, 0, none⟩ (.int .i64 cd)).setCell ⟨b1, 1, none⟩ (.slice none 0 0)) := by refine Kept.setCell (Kept.setCell (Kept.refl _ _ _) ?_ ?_ _) ?_ ?_ _ <;> simp
    exact ⟨_, _, _, rfl, RowAt.nil _ _ _ _ _, B.trans (KZ.below _ (Nat.le_trans O0.out (by have q1 := O1.out; omega)) B.size)⟩
  have hz : (cd != 0) = false := by simp [z]
  subst z
  have OK := en_ok HC.out
  have o1 : 0 ≤ k ∧ k ≤ 255 := by omega
  have o2 : 0 ≤ v ∧ v ≤ 255 := by omega
  have e0 : xs = [p, q, k * 256 + v, a, x] := by rw [← HX.out]; unfold packEL; rw [HC.out, if_pos rfl]; rfl
  have E0 : Hid _ := e0
  clear OK e0
  go_wp2_with fail
  refine (l8Pack_is p q k v a x _ o1 o2).mono ?_
  rintro e w2 ⟨ra, rfl, R, BB⟩
  have G : Hid (b1 + 1 ≤ w1.heap.size) := H1.out
  have GL : Hid (w.heap.size ≤ w1.heap.size) := B.size
  replace c0_0 := cell_later BB c0_0
  replace c0_1 := cell_later BB c0_1
  replace c0_2 := cell_later BB c0_2
  replace c0_3 := cell_later BB c0_3
  replace c0_4 := cell_later BB c0_4
  replace c0_5 := cell_later BB c0_5
  replace H0 : Hid (b0 < w2.heap.size) := Nat.lt_of_lt_of_le H0.out BB.size
  replace c1_0 := cell_later BB c1_0
  replace c1_1 := cell_later BB c1_1
  replace y1_0 := frozen_later BB H1.out y1_0
  replace y1_1 := frozen_later BB H1.out y1_1
  replace H1 : Hid (b1 < w2.heap.size) := Nat.lt_of_lt_of_le H1.out BB.size
  replace B := below_next B BB
  clear BB
  go_wp2
  refine bodyPost_ret (v := .agg #[.int .i64 0, .slice (some ⟨ra, 0, none⟩) 5 5]) (by simp [results, Try.results35, go_sem, c1_0, c1_1]) rfl ?_
  have KZ : Kept b1 (b1 + 1) w2 ((w2.setCell ⟨b1, 0, none⟩ (.int .i64 0)).setCell ⟨b1, 1, none⟩ (.slice (some ⟨ra, 0, none⟩) 5 5)) := by refine Kept.setCell (Kept.setCell (Kept.refl _ _ _) ?_ ?_ _) ?_ ?_ _ <;> simp
  have s := KZ.size
  exact ⟨_, _, _, rfl, by rw [E0.out]; exact (R.kept KZ (Or.inr G.out)).widen GL.out s, B.trans (KZ.below _ (Nat.le_trans O0.out (by have q1 := O1.out; omega)) B.size)⟩

set_option maxRecDepth 20000 in
set_option maxHeartbeats 4000000 in
theorem implPackE_is (p q k v a x : Int) (w : World) (cd : Int) (xs : List Int) (hc : enFault (p, q, k, v, a, x) = cd) (hx : packEL (p, q, k, v, a, x) = xs) : Calls Try.prog 16 #[.agg #[.int .i64 p, .int .i64 q, .int .i64 k, .int .i64 v, .int .i64 a, .int .i64 x]] w fun e w' => IntsR w w' e cd xs := by
  have HC : Hid _ := hc
  have HX : Hid _ := hx
  clear hc hx
  go_enter Try.func16, Try.ntmps16
  go_wp2_with (first | ((with_reducible refine box_new 29 #[.int .i64 p, .int .i64 q, .int .i64 k, .int .i64 v, .int .i64 a, .int .i64 x] rfl ?_); intro b0 W0 N0; have O0 : Hid (w.heap.size ≤ b0) := N0.ge; have B := N0.below; have H0 : Hid (b0 < W0.heap.size) := N0.lt; have c0_0 : W0.cell? ⟨b0, 0, none⟩ = some (.int .i64 p) := N0.cell 0 _ rfl; have c0_1 : W0.cell? ⟨b0, 1, none⟩ = some (.int .i64 q) := N0.cell 1 _ rfl; have c0_2 : W0.cell? ⟨b0, 2, none⟩ = some (.int .i64 k) := N0.cell 2 _ rfl; have c0_3 : W0.cell? ⟨b0, 3, none⟩ = some (.int .i64 v) := N0.cell 3 _ rfl; have c0_4 : W0.cell? ⟨b0, 4, none⟩ = some (.int .i64 a) := N0.cell 4 _ rfl; have c0_5 : W0.cell? ⟨b0, 5, none⟩ = some (.int .i64 x) := N0.cell 5 _ rfl; clear N0) | ((with_reducible refine alloc_new 35 #[.int .i64 0, .slice none 0 0] (fun _ => by kernel_rfl) ?_); intro b1 W1 N1; have O1 : Hid (b0 < b1) := Nat.lt_of_lt_of_le H0.out N1.ge; replace c0_0 := cell_later N1.below c0_0; replace c0_1 := cell_later N1.below c0_1; replace c0_2 := cell_later N1.below c0_2; replace c0_3 := cell_later N1.below c0_3; replace c0_4 := cell_later N1.below c0_4; replace c0_5 := cell_later N1.below c0_5; replace H0 : Hid (b0 < W1.heap.size) := Nat.lt_of_lt_of_le H0.out N1.below.size; replace B := below_next B N1.below; have H1 : Hid (b1 < W1.heap.size) := N1.lt; have c1_0 : W1.cell? ⟨b1, 0, none⟩ = some (.int .i64 0) := N1.cell 0 _ rfl; have c1_1 : W1.cell? ⟨b1, 1, none⟩ = some (.slice none 0 0) := N1.cell 1 _ rfl; have y1_0 : W1.frozen? ⟨b1, 0, none⟩ = false := N1.froz 0; have y1_1 : W1.frozen? ⟨b1, 1, none⟩ = false := N1.froz 1; clear N1) | fail)
  refine (implEF_is p q k v a x _ cd HC.out).mono ?_
  rintro e w1 ⟨rfl, BB⟩
  replace c0_0 := cell_later BB c0_0
  replace c0_1 := cell_later BB c0_1
  replace c0_2 := cell_later BB c0_2
  replace c0_3 := cell_later BB c0_3
  replace c0_4 := cell_later BB c0_4
  replace c0_5 := cell_later BB c0_5
  replace H0 : Hid (b0 < w1.heap.size) := Nat.lt_of_lt_of_le H0.out BB.size
  replace c1_0 := cell_later BB c1_0
  replace c1_1 := cell_later BB c1_1
  replace y1_0 := frozen_later BB H1.out y1_0
  replace y1_1 := frozen_later BB H1.out y1_1
  replace H1 : Hid (b1 < w1.heap.size) := Nat.lt_of_lt_of_le H1.out BB.size
  replace B := below_next B BB
  clear BB
  by_cases z : cd = 0
  rotate_left 1
  · have hz : (cd != 0) = true := by simp [z]
    have e0 : xs = [] := by rw [← HX.out]; unfold packEL; rw [HC.out, if_neg z]
    subst e0
    go_wp2
    refine bodyPost_ret (v := .agg #[.int .i64 cd, .slice none 0 0]) (by simp [results, Try.results16, go_sem, c1_0, c1_1]) rfl ?_
    have KZ : Kept b1 (b1 + 1) w1 ((w1.setCell ⟨b1, 0, none⟩ (.int .i64 cd)).setCell ⟨b1, 1, none⟩ (.slice none 0 0)) := by refine Kept.setCell (Kept.setCell (Kept.refl _ _ _) ?_ ?_ _) ?_ ?_ _ <;> simp
    exact ⟨_, _, _, rfl, RowAt.nil _ _ _ _ _, B.trans (KZ.below _ (Nat.le_trans O0.out (by have q1 := O1.out; omega)) B.size)⟩
  have hz : (cd != 0) = false := by simp [z]
  subst z
  have OK := en_ok HC.out
  have o1 : 0 ≤ k ∧ k ≤ 255 := by omega
  have o2 : 0 ≤ v ∧ v ≤ 255 := by omega
  have e0 : xs = [p, q, k * 256 + v, a, x] := by rw [← HX.out]; unfold packEL; rw [HC.out, if_pos rfl]; rfl
  have E0 : Hid _ := e0
  clear OK e0
  have hw1 : IntKind.i64.wrap (k * 256) = k * 256 := wrapI_same _ (by omega)
  have hw2 : IntKind.i64.wrap (k * 256 + v) = k * 256 + v := wrapI_same _ (by omega)
  clear o1 o2
  go_wp2_with (first | ((with_reducible refine alloc_new 81 #[.slice none 0 0] (fun _ => by kernel_rfl) ?_); intro b2 W2 N2; have O2 : Hid (b1 < b2) := Nat.lt_of_lt_of_le H1.out N2.ge; replace c0_0 := cell_later N2.below c0_0; replace c0_1 := cell_later N2.below c0_1; replace c0_2 := cell_later N2.below c0_2; replace c0_3 := cell_later N2.below c0_3; replace c0_4 := cell_later N2.below c0_4; replace c0_5 := cell_later N2.below c0_5; replace H0 : Hid (b0 < W2.heap.size) := Nat.lt_of_lt_of_le H0.out N2.below.size; replace c1_0 := cell_later N2.below c1_0; replace c1_1 := cell_later N2.below c1_1; replace y1_0 := frozen_later N2.below H1.out y1_0; replace y1_1 := frozen_later N2.below H1.out y1_1; replace H1 : Hid (b1 < W2.heap.size) := Nat.lt_of_lt_of_le H1.out N2.below.size; replace B := below_next B N2.below; have H2 : Hid (b2 < W2.heap.size) := N2.lt; have c2_0 : W2.cell? ⟨b2, 0, none⟩ = some (.slice none 0 0) := N2.cell 0 _ rfl; have y2_0 : W2.frozen? ⟨b2, 0, none⟩ = false := N2.froz 0; clear N2) | fail)
  have T0 : Told W2 b2 0 [] := ⟨H2.out, ⟨_, c2_0, rfl, Or.inl ⟨rfl, rfl⟩⟩, y2_0⟩
  have A1 : Below W2.heap.size W2 (W2.alloc (.cells #[.int .i64 p, .int .i64 q, .int .i64 (k * 256 + v), .int .i64 a, .int .i64 x] 2)) := (Below.refl _ _).alloc (Nat.le_refl _) _
  refine (tell_is b2 0 [] (W2.alloc (.cells #[.int .i64 p, .int .i64 q, .int .i64 (k * 256 + v), .int .i64 a, .int .i64 x] 2)) (T0.below A1) ⟨W2.heap.size, 0, none⟩ 5 5 [p, q, k * 256 + v, a, x] (row_lit W2 [.int .i64 p, .int .i64 q, .int .i64 (k * 256 + v), .int .i64 a, .int .i64 x] 2 5 1 rfl) (by omega)).mono ?_
  rintro e w2 ⟨rfl, T1, C⟩
  replace C : Below b2 W2 w2 := (A1.mono (Nat.le_of_lt H2.out)).trans C
  clear T0 A1
  rw [Nat.zero_add, List.nil_append] at T1
  have D2 : Hid (b1 < b2) := O2.out
  have HB : Hid (w.heap.size ≤ b2) := Nat.le_trans O0.out (Nat.le_of_lt (Nat.lt_trans O1.out O2.out))
  replace c1_0 := (C.cell (p := ⟨b1, 0, none⟩) D2.out).trans c1_0
  replace c1_1 := (C.cell (p := ⟨b1, 1, none⟩) D2.out).trans c1_1
  replace y1_0 := (C.frozen (p := ⟨b1, 0, none⟩) D2.out).trans y1_0
  replace y1_1 := (C.frozen (p := ⟨b1, 1, none⟩) D2.out).trans y1_1
  replace B : Below w.heap.size w w2 := B.trans (C.mono HB.out)
  clear c2_0 y2_0 c0_0 c0_1 c0_2 c0_3 c0_4 c0_5 H0 H1
  obtain ⟨tv, t0, to⟩ := T1.ok
  obtain ⟨ao, cap, rfl, R⟩ := RowAt.of_owned to
  clear to
  have G : Hid (b1 + 1 ≤ b2 + 1) := by show _ ≤ _; have := D2.out; omega
  have GL : Hid (w.heap.size ≤ b2 + 1) := Nat.le_succ_of_le HB.out
  go_wp2
  refine bodyPost_ret (v := .agg #[.int .i64 0, .slice ao 5 cap]) (by simp [results, Try.results16, go_sem, c1_0, c1_1]) rfl ?_
  have KZ : Kept b1 (b1 + 1) w2 ((w2.setCell ⟨b1, 0, none⟩ (.int .i64 0)).setCell ⟨b1, 1, none⟩ (.slice ao 5 cap)) := by refine Kept.setCell (Kept.setCell (Kept.refl _ _ _) ?_ ?_ _) ?_ ?_ _ <;> simp
  have s := KZ.size
  exact ⟨_, _, _, rfl, by rw [E0.out]; exact (R.kept KZ (Or.inr G.out)).widen GL.out s, B.trans (KZ.below _ (Nat.le_trans O0.out (by have q1 := O1.out; omega)) B.size)⟩

end Go.Proofs.Ytpbhiednmnolgaa
