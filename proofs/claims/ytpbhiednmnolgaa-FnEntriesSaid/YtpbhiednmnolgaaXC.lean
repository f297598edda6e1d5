/- Chapter 8: an entry as words, by both. -/
import Derived.Test.YtpbhiednmnolgaaEX
import Derived.Test.YtpbhiednmnolgaaXA
import Derived.Test.YtpbhiednmnolgaaYU
import Derived.Test.YtpbhiednmnolgaaYN
import Derived.Test.YtpbhiednmnolgaaFault
import Derived.Test.YtpbhiednmnolgaaFacts
import Derived.Test.YtpbhiednmnolgaaYE
import Derived.Laws.StructEq
import Derived.WalkLawsBesides
import Derived.Defers
import Derived.Recover
import Derived.Laws.Pointers
namespace Go.Proofs.Ytpbhiednmnolgaa
open Go.RowKit

def packE (x : En) : List Int := [x.1, x.2.1, x.2.2.1 * 256 + x.2.2.2.1, x.2.2.2.2.1, x.2.2.2.2.2]
def packEL (x : En) : List Int := if enFault x = 0 then packE x else []
theorem op_ok {k v a x : Int} (h : opF k v a x = 0) : (1 ≤ k ∧ k ≤ 6) ∧ (1 ≤ v ∧ v ≤ 99) ∧ (0 ≤ a ∧ a ≤ 15) ∧ (0 ≤ x ∧ x ≤ 255) := by
  unfold opF at h
  by_cases hk : 1 ≤ k ∧ k ≤ 6
  · rw [if_pos hk] at h
    by_cases hc : (volIdB v && (!opAt k || spotB a) && opValB k x) = true
    · rw [if_pos hc] at h
      by_cases hd : ((!opAt k && a != 0) || (!opVal k && x != 0)) = true
      · rw [if_pos hd] at h; cases h
      · simp only [Bool.and_eq_true, Bool.or_eq_true, Bool.not_eq_true'] at hc hd
        obtain ⟨⟨h1, h2⟩, h3⟩ := hc
        have hv : 1 ≤ v ∧ v ≤ 99 := of_decide_eq_true h1
        have ha : 0 ≤ a ∧ a ≤ 15 := by
          rcases h2 with h2 | h2
          · have : ¬ (a != 0) = true := fun q => hd (Or.inl ⟨h2, q⟩)
            simp at this; omega
          · exact of_decide_eq_true h2
        have hx : 0 ≤ x ∧ x ≤ 255 := by
          unfold opValB at h3
          by_cases k1 : k = 1
          · rw [if_pos k1] at h3; have := of_decide_eq_true h3; omega
          · rw [if_neg k1] at h3
            by_cases k2 : k = 2
            · rw [if_pos k2] at h3; exact of_decide_eq_true h3
            · rw [if_neg k2] at h3
              by_cases k5 : k = 5
              · rw [if_pos k5] at h3; have := of_decide_eq_true h3; omega
              · have hq : opVal k = false := by unfold opVal; simp [k1, k2, k5]
                have : ¬ (x != 0) = true := fun q => hd (Or.inr ⟨hq, q⟩)
                simp at this; omega
        exact ⟨hk, hv, ha, hx⟩
    · rw [if_neg hc] at h; cases h
  · rw [if_neg hk] at h; cases h
theorem en_ok {p q k v a x : Int} (h : enFault (p, q, k, v, a, x) = 0) : (1 ≤ p ∧ p ≤ 99) ∧ (1 ≤ q ∧ q ≤ 999) ∧ opF k v a x = 0 ∧ (1 ≤ k ∧ k ≤ 6) ∧ (1 ≤ v ∧ v ≤ 99) ∧ (0 ≤ a ∧ a ≤ 15) ∧ (0 ≤ x ∧ x ≤ 255) := by
  unfold enFault at h
  by_cases hc : (1 ≤ p ∧ p ≤ 99) ∧ (1 ≤ q ∧ q ≤ 999)
  · rw [if_pos hc] at h
    exact ⟨hc.1, hc.2, h, op_ok h⟩
  · rw [if_neg hc] at h; cases h

set_option maxRecDepth 20000 in
set_option maxHeartbeats 4000000 in
theorem l8Pack_is (p q k v a x : Int) (w : World) (hk : 0 ≤ k ∧ k ≤ 255) (hv : 0 ≤ v ∧ v ≤ 255) : Calls Try.prog 48 #[.agg #[.int .i64 p, .int .i64 q, .int .i64 k, .int .i64 v, .int .i64 a, .int .i64 x]] w fun e w' => ∃ g, e = .returned (.slice (some ⟨g, 0, none⟩) 5 5) ∧ RowAt w' true w.heap.size w'.heap.size 1 (some ⟨g, 0, none⟩) 5 5 (ints [p, q, k * 256 + v, a, x]) ∧ Below w.heap.size w w' := by
  have hw1 : IntKind.i64.wrap (k * 256) = k * 256 := wrapI_same _ (by omega)
  have hw2 : IntKind.i64.wrap (k * 256 + v) = k * 256 + v := wrapI_same _ (by omega)
  clear hk hv
  go_enter Try.func48, Try.ntmps48
  go_wp2_with (first | ((with_reducible refine box_new 29 #[.int .i64 p, .int .i64 q, .int .i64 k, .int .i64 v, .int .i64 a, .int .i64 x] rfl ?_); intro b0 W0 N0; have O0 : Hid (w.heap.size ≤ b0) := N0.ge; have B := N0.below; have H0 : Hid (b0 < W0.heap.size) := N0.lt; have c0_0 : W0.cell? ⟨b0, 0, none⟩ = some (.int .i64 p) := N0.cell 0 _ rfl; have c0_1 : W0.cell? ⟨b0, 1, none⟩ = some (.int .i64 q) := N0.cell 1 _ rfl; have c0_2 : W0.cell? ⟨b0, 2, none⟩ = some (.int .i64 k) := N0.cell 2 _ rfl; have c0_3 : W0.cell? ⟨b0, 3, none⟩ = some (.int .i64 v) := N0.cell 3 _ rfl; have c0_4 : W0.cell? ⟨b0, 4, none⟩ = some (.int .i64 a) := N0.cell 4 _ rfl; have c0_5 : W0.cell? ⟨b0, 5, none⟩ = some (.int .i64 x) := N0.cell 5 _ rfl; clear N0))
  have R := row_lit W0 [.int .i64 p, .int .i64 q, .int .i64 (k * 256 + v), .int .i64 a, .int .i64 x] 2 5 1 rfl
  go_ret
  exact ⟨_, rfl, R.widen B.size (by simp), B.alloc B.size _⟩

set_option maxRecDepth 20000 in
set_option maxHeartbeats 4000000 in
theorem implPackE_is (p q k v a x : Int) (w : World) (cd : Int) (xs : List Int) (hc : enFault (p, q, k, v, a, x) = cd) (hx : packEL (p, q, k, v, a, x) = xs) : Calls Try.prog 16 #[.agg #[.int .i64 p, .int .i64 q, .int .i64 k, .int .i64 v, .int .i64 a, .int .i64 x]] w fun e w' => IntsR w w' e cd xs := by
  have HC : Hid _ := hc
  have HX : Hid _ := hx
  clear hc hx
  go_enter Try.func16, Try.ntmps16
  go_wp2_with (first | ((with_reducible refine box_new 29 #[.int .i64 p, .int .i64 q, .int .i64 k, .int .i64 v, .int .i64 a, .int .i64 x] rfl ?_); intro b0 W0 N0; have O0 : Hid (w.heap.size ≤ b0) := N0.ge; have B := N0.below; have H0 : Hid (b0 < W0.heap.size) := N0.lt; have c0_0 : W0.cell? ⟨b0, 0, none⟩ = some (.int .i64 p) := N0.cell 0 _ rfl; have c0_1 : W0.cell? ⟨b0, 1, none⟩ = some (.int .i64 q) := N0.cell 1 _ rfl; have c0_2 : W0.cell? ⟨b0, 2, none⟩ = some (.int .i64 k) := N0.cell 2 _ rfl; have c0_3 : W0.cell? ⟨b0, 3, none⟩ = some (.int .i64 v) := N0.cell 3 _ rfl; have c0_4 : W0.cell? ⟨b0, 4, none⟩ = some (.int .i64 a) := N0.cell 4 _ rfl; have c0_5 : W0.cell? ⟨b0, 5, none⟩ = some (.int .i64 x) := N0.cell 5 _ rfl; clear N0) | ((with_reducible refine alloc_new 35 #[.int .i64 0, .slice none 0 0] (fun _ => by kernel_rfl) ?_); intro b1 W1 N1; have O1 : Hid (b0 < b1) := Nat.lt_of_lt_of_le H0.out N1.ge; replace c0_0 := cell_later N1.below c0_0; replace c0_1 := cell_later N1.below c0_1; replace c0_2 := cell_later N1.below c0_2; replace c0_3 := cell_later N1.below c0_3; replace c0_4 := cell_later N1.below c0_4; replace c0_5 := cell_later N1.below c0_5; replace H0 : Hid (b0 < W1.heap.size) := Nat.lt_of_lt_of_le H0.out N1.below.size; replace B := below_next B N1.below; have H1 : Hid (b1 < W1.heap.size) := N1.lt; have c1_0 : W1.cell? ⟨b1, 0, none⟩ = some (.int .i64 0) := N1.cell 0 _ rfl; have c1_1 : W1.cell? ⟨b1, 1, none⟩ = some (.slice none 0 0) := N1.cell 1 _ rfl; have y1_0 : W1.frozen? ⟨b1, 0, none⟩ = false := N1.froz 0; have y1_1 : W1.frozen? ⟨b1, 1, none⟩ = false := N1.froz 1; clear N1) | fail)
  refine (implEF_is p q k v a x _ cd HC.out).mono ?_
  rintro e w1 ⟨rfl, BB⟩
  replace c0_0 := cell_later BB c0_0
  replace c0_1 := cell_later BB c0_1
  replace c0_2 := cell_later BB c0_2
  replace c0_3 := cell_later BB c0_3
  replace c0_4 := cell_later BB c0_4
  replace c0_5 := cell_later BB c0_5
  replace H0 : Hid (b0 < w1.heap.size) := Nat.lt_of_lt_of_le H0.out BB.size
  replace c1_0 := cell_later BB c1_0
  replace c1_1 := cell_later BB c1_1
  replace y1_0 := frozen_later BB H1.out y1_0
  replace y1_1 := frozen_later BB H1.out y1_1
  replace H1 : Hid (b1 < w1.heap.size) := Nat.lt_of_lt_of_le H1.out BB.size
  replace B := below_next B BB
  clear BB
  by_cases z : cd = 0
  rotate_left 1
  · have hz : (cd != 0) = true := by simp [z]
    have e0 : xs = [] := by rw [← HX.out]; unfold packEL; rw [HC.out, if_neg z]
    subst e0
    go_wp2
    refine bodyPost_ret (v := .agg #[.int .i64 cd, .slice none 0 0]) (by simp [results, Try.results16, go_sem, c1_0, c1_1]) rfl ?_
    have KZ : Kept b1 (b1 + 1) w1 ((w1.setCell ⟨b1, 0, none⟩ (.int .i64 cd)).setCell ⟨b1, 1, none⟩ (.slice none 0 0)) := by refine Kept.setCell (Kept.setCell (Kept.refl _ _ _) ?_ ?_ _) ?_ ?_ _ <;> simp
    exact ⟨_, _, _, rfl, RowAt.nil _ _ _ _ _, B.trans (KZ.below _ (Nat.le_trans O0.out (by have q1 := O1.out; omega)) B.size)⟩
  have hz : (cd != 0) = false := by simp [z]
  subst z
  have OK := en_ok HC.out
  have o1 : 0 ≤ k ∧ k ≤ 255 := by omega
  have o2 : 0 ≤ v ∧ v ≤ 255 := by omega
  have e0 : xs = [p, q, k * 256 + v, a, x] := by rw [← HX.out]; unfold packEL; rw [HC.out, if_pos rfl]; rfl
  have E0 : Hid _ := e0
  clear OK e0
  have hw1 : IntKind.i64.wrap (k * 256) = k * 256 := wrapI_same _ (by omega)
  have hw2 : IntKind.i64.wrap (k * 256 + v) = k * 256 + v := wrapI_same _ (by omega)
  clear o1 o2
  go_wp2_with (first | ((with_reducible refine alloc_new 81 #[.slice none 0 0] (fun _ => by kernel_rfl) ?_); intro b2 W2 N2; have O2 : Hid (b1 < b2) := Nat.lt_of_lt_of_le H1.out N2.ge; replace c0_0 := cell_later N2.below c0_0; replace c0_1 := cell_later N2.below c0_1; replace c0_2 := cell_later N2.below c0_2; replace c0_3 := cell_later N2.below c0_3; replace c0_4 := cell_later N2.below c0_4; replace c0_5 := cell_later N2.below c0_5; replace H0 : Hid (b0 < W2.heap.size) := Nat.lt_of_lt_of_le H0.out N2.below.size; replace c1_0 := cell_later N2.below c1_0; replace c1_1 := cell_later N2.below c1_1; replace y1_0 := frozen_later N2.below H1.out y1_0; replace y1_1 := frozen_later N2.below H1.out y1_1; replace H1 : Hid (b1 < W2.heap.size) := Nat.lt_of_lt_of_le H1.out N2.below.size; replace B := below_next B N2.below; have H2 : Hid (b2 < W2.heap.size) := N2.lt; have c2_0 : W2.cell? ⟨b2, 0, none⟩ = some (.slice none 0 0) := N2.cell 0 _ rfl; have y2_0 : W2.frozen? ⟨b2, 0, none⟩ = false := N2.froz 0; clear N2) | fail)
  have T0 : Told W2 b2 0 [] := ⟨H2.out, ⟨_, c2_0, rfl, Or.inl ⟨rfl, rfl⟩⟩, y2_0⟩
  have A1 : Below W2.heap.size W2 (W2.alloc (.cells #[.int .i64 p, .int .i64 q, .int .i64 (k * 256 + v), .int .i64 a, .int .i64 x] 2)) := (Below.refl _ _).alloc (Nat.le_refl _) _
  refine (tell_is b2 0 [] (W2.alloc (.cells #[.int .i64 p, .int .i64 q, .int .i64 (k * 256 + v), .int .i64 a, .int .i64 x] 2)) (T0.below A1) ⟨W2.heap.size, 0, none⟩ 5 5 [p, q, k * 256 + v, a, x] (row_lit W2 [.int .i64 p, .int .i64 q, .int .i64 (k * 256 + v), .int .i64 a, .int .i64 x] 2 5 1 rfl) (by omega)).mono ?_
  rintro e w2 ⟨rfl, T1, C⟩
  replace C : Below b2 W2 w2 := (A1.mono (Nat.le_of_lt H2.out)).trans C
  clear T0 A1
  rw [Nat.zero_add, List.nil_append] at T1
  have D2 : Hid (b1 < b2) := O2.out
  have HB : Hid (w.heap.size ≤ b2) := Nat.le_trans O0.out (Nat.le_of_lt (Nat.lt_trans O1.out O2.out))
  replace c1_0 := (C.cell (p := ⟨b1, 0, none⟩) D2.out).trans c1_0
  replace c1_1 := (C.cell (p := ⟨b1, 1, none⟩) D2.out).trans c1_1
  replace y1_0 := (C.frozen (p := ⟨b1, 0, none⟩) D2.out).trans y1_0
  replace y1_1 := (C.frozen (p := ⟨b1, 1, none⟩) D2.out).trans y1_1
  replace B : Below w.heap.size w w2 := B.trans (C.mono HB.out)
  clear c2_0 y2_0 c0_0 c0_1 c0_2 c0_3 c0_4 c0_5 H0 H1
  obtain ⟨tv, t0, to⟩ := T1.ok
  obtain ⟨ao, cap, rfl, R⟩ := RowAt.of_owned to
  clear to
  have G : Hid (b1 + 1 ≤ b2 + 1) := by show _ ≤ _; have := D2.out; omega
  have GL : Hid (w.heap.size ≤ b2 + 1) := Nat.le_succ_of_le HB.out
  go_wp2
  refine bodyPost_ret (v := .agg #[.int .i64 0, .slice ao 5 cap]) (by simp [results, Try.results16, go_sem, c1_0, c1_1]) rfl ?_
  have KZ : Kept b1 (b1 + 1) w2 ((w2.setCell ⟨b1, 0, none⟩ (.int .i64 0)).setCell ⟨b1, 1, none⟩ (.slice ao 5 cap)) := by refine Kept.setCell (Kept.setCell (Kept.refl _ _ _) ?_ ?_ _) ?_ ?_ _ <;> simp
  have s := KZ.size
  exact ⟨_, _, _, rfl, by rw [E0.out]; exact (R.kept KZ (Or.inr G.out)).widen GL.out s, B.trans (KZ.below _ (Nat.le_trans O0.out (by have q1 := O1.out; omega)) B.size)⟩

end Go.Proofs.Ytpbhiednmnolgaa

/- Chapter 8: an entry out of its words, by the model. -/
namespace Go.Proofs.Ytpbhiednmnolgaa
open Go.RowKit

def unX (xs : List Int) : En := (xs.getD 0 0, xs.getD 1 0, (xs.getD 2 0).tdiv 256, (xs.getD 2 0).tmod 256, xs.getD 3 0, xs.getD 4 0)
def unOk (xs : List Int) : Bool := decide (xs.length = 5) && xs.all wordB && decide (enFault (unX xs) = 0)
def unER (xs : List Int) : Int × En := if unOk xs then (0, unX xs) else (5, en0)
theorem unER_len {xs : List Int} (h : xs.length ≠ 5) : unER xs = (5, en0) := by
  unfold unER unOk
  rw [if_neg (by simp [h])]
theorem unER_word {xs : List Int} {k : Nat} (hk : k < xs.length) (h : wordB (xs.getD k 0) = false) : unER xs = (5, en0) := by
  unfold unER unOk
  have : xs.all wordB = false := by
    rw [List.all_eq_false]
    refine ⟨xs[k], List.getElem_mem hk, ?_⟩
    have e : xs.getD k 0 = xs[k] := by simp [List.getD, hk]
    rw [e] at h
    simp [h]
  rw [if_neg (by simp [this])]
theorem unER_all {xs : List Int} (hl : xs.length = 5) (h : ∀ k, k < 5 → wordB (xs.getD k 0) = true) : unER xs = if enFault (unX xs) = 0 then (0, unX xs) else (5, en0) := by
  unfold unER unOk
  have : xs.all wordB = true := by
    rw [List.all_eq_true]
    intro x hx
    obtain ⟨k, hk, rfl⟩ := List.mem_iff_getElem.1 hx
    have := h k (by omega)
    simpa [List.getD, hk] using this
  simp [hl, this]
theorem word_of {x : Int} (h : wordB x = true) : 0 ≤ x ∧ x ≤ 65535 := by
  unfold wordB at h; simpa using h
theorem wrap_word {x : Int} (h : 0 ≤ x ∧ x ≤ 65535) : IntKind.i64.wrap (x.tdiv 256) = x.tdiv 256 ∧ IntKind.i64.wrap (x.tmod 256) = x.tmod 256 := by
  have e1 : x.tdiv 256 = x / 256 := Int.tdiv_eq_ediv_of_nonneg h.1
  have e2 : x.tmod 256 = x % 256 := Int.tmod_eq_emod_of_nonneg h.1
  rw [e1, e2]
  exact ⟨wrapI_same _ (by omega), wrapI_same _ (by omega)⟩
theorem there7 {w : World} {b : Nat} {v0 v1 v2 v3 v4 v5 v6 : Value} (c0 : w.cell? ⟨b, 0, none⟩ = some v0) (c1 : w.cell? ⟨b, 1, none⟩ = some v1) (c2 : w.cell? ⟨b, 2, none⟩ = some v2) (c3 : w.cell? ⟨b, 3, none⟩ = some v3) (c4 : w.cell? ⟨b, 4, none⟩ = some v4) (c5 : w.cell? ⟨b, 5, none⟩ = some v5) (c6 : w.cell? ⟨b, 6, none⟩ = some v6) (y0 : w.frozen? ⟨b, 0, none⟩ = false) (y1 : w.frozen? ⟨b, 1, none⟩ = false) (y2 : w.frozen? ⟨b, 2, none⟩ = false) (y3 : w.frozen? ⟨b, 3, none⟩ = false) (y4 : w.frozen? ⟨b, 4, none⟩ = false) (y5 : w.frozen? ⟨b, 5, none⟩ = false) (y6 : w.frozen? ⟨b, 6, none⟩ = false) : w.there b 0 7 := fun j hj => by
  rcases (by omega : j = 0 ∨ j = 1 ∨ j = 2 ∨ j = 3 ∨ j = 4 ∨ j = 5 ∨ j = 6) with rfl | rfl | rfl | rfl | rfl | rfl | rfl
  · exact ⟨by rw [c0]; rfl, y0⟩
  · exact ⟨by rw [c1]; rfl, y1⟩
  · exact ⟨by rw [c2]; rfl, y2⟩
  · exact ⟨by rw [c3]; rfl, y3⟩
  · exact ⟨by rw [c4]; rfl, y4⟩
  · exact ⟨by rw [c5]; rfl, y5⟩
  · exact ⟨by rw [c6]; rfl, y6⟩
set_option maxRecDepth 20000 in
set_option maxHeartbeats 4000000 in
theorem specUnE_is {o : Bool} {l u : Nat} (ao : Option Addr) (n c : Nat) (xs : List Int) (w : World) (h : RowAt w o l u 1 ao n c (ints xs)) (cd y0 y1 y2 y3 y4 y5 : Int) (hr : unER xs = (cd, y0, y1, y2, y3, y4, y5)) : Calls Try.prog 17 #[.slice ao n c] w fun e w' => e = .returned (.agg #[.int .i64 cd, .int .i64 y0, .int .i64 y1, .int .i64 y2, .int .i64 y3, .int .i64 y4, .int .i64 y5]) ∧ Below w.heap.size w w' := by
  have hxl := h.nInts
  have HR : Hid _ := hr
  clear hr
  by_cases h5 : n = 5
  rotate_left 1
  · have hn5 : ((n : Int) != 5) = true := by simp; omega
    have HB : (5, en0) = (cd, y0, y1, y2, y3, y4, y5) := by rw [← HR.out, unER_len (by omega)]
    clear HR
    go_enter Try.func17, Try.ntmps17
    go_wp2_with (first | (have g := H0.out; clear g; (with_reducible refine alloc_new 31 #[.int .i64 0, .int .i64 0, .int .i64 0, .int .i64 0, .int .i64 0, .int .i64 0, .int .i64 0] (fun _ => by kernel_rfl) ?_); intro b1 W1 N1; have O1 : Hid (b0 < b1) := Nat.lt_of_lt_of_le H0.out N1.ge; replace c0_0 := cell_later N1.below c0_0; replace c0_1 := cell_later N1.below c0_1; replace c0_2 := cell_later N1.below c0_2; replace c0_3 := cell_later N1.below c0_3; replace c0_4 := cell_later N1.below c0_4; replace c0_5 := cell_later N1.below c0_5; replace c0_6 := cell_later N1.below c0_6; replace y0_0 := frozen_later N1.below H0.out y0_0; replace y0_1 := frozen_later N1.below H0.out y0_1; replace y0_2 := frozen_later N1.below H0.out y0_2; replace y0_3 := frozen_later N1.below H0.out y0_3; replace y0_4 := frozen_later N1.below H0.out y0_4; replace y0_5 := frozen_later N1.below H0.out y0_5; replace y0_6 := frozen_later N1.below H0.out y0_6; replace H0 : Hid (b0 < W1.heap.size) := Nat.lt_of_lt_of_le H0.out N1.below.size; replace B := below_next B N1.below; have H1 : Hid (b1 < W1.heap.size) := N1.lt; have c1_0 : W1.cell? ⟨b1, 0, none⟩ = some (.int .i64 0) := N1.cell 0 _ rfl; have c1_1 : W1.cell? ⟨b1, 1, none⟩ = some (.int .i64 0) := N1.cell 1 _ rfl; have c1_2 : W1.cell? ⟨b1, 2, none⟩ = some (.int .i64 0) := N1.cell 2 _ rfl; have c1_3 : W1.cell? ⟨b1, 3, none⟩ = some (.int .i64 0) := N1.cell 3 _ rfl; have c1_4 : W1.cell? ⟨b1, 4, none⟩ = some (.int .i64 0) := N1.cell 4 _ rfl; have c1_5 : W1.cell? ⟨b1, 5, none⟩ = some (.int .i64 0) := N1.cell 5 _ rfl; have c1_6 : W1.cell? ⟨b1, 6, none⟩ = some (.int .i64 0) := N1.cell 6 _ rfl; have y1_0 : W1.frozen? ⟨b1, 0, none⟩ = false := N1.froz 0; have y1_1 : W1.frozen? ⟨b1, 1, none⟩ = false := N1.froz 1; have y1_2 : W1.frozen? ⟨b1, 2, none⟩ = false := N1.froz 2; have y1_3 : W1.frozen? ⟨b1, 3, none⟩ = false := N1.froz 3; have y1_4 : W1.frozen? ⟨b1, 4, none⟩ = false := N1.froz 4; have y1_5 : W1.frozen? ⟨b1, 5, none⟩ = false := N1.froz 5; have y1_6 : W1.frozen? ⟨b1, 6, none⟩ = false := N1.froz 6; clear N1) | ((with_reducible refine alloc_new 31 #[.int .i64 0, .int .i64 0, .int .i64 0, .int .i64 0, .int .i64 0, .int .i64 0, .int .i64 0] (fun _ => by kernel_rfl) ?_); intro b0 W0 N0; have O0 : Hid (w.heap.size ≤ b0) := N0.ge; have B := N0.below; have H0 : Hid (b0 < W0.heap.size) := N0.lt; have c0_0 : W0.cell? ⟨b0, 0, none⟩ = some (.int .i64 0) := N0.cell 0 _ rfl; have c0_1 : W0.cell? ⟨b0, 1, none⟩ = some (.int .i64 0) := N0.cell 1 _ rfl; have c0_2 : W0.cell? ⟨b0, 2, none⟩ = some (.int .i64 0) := N0.cell 2 _ rfl; have c0_3 : W0.cell? ⟨b0, 3, none⟩ = some (.int .i64 0) := N0.cell 3 _ rfl; have c0_4 : W0.cell? ⟨b0, 4, none⟩ = some (.int .i64 0) := N0.cell 4 _ rfl; have c0_5 : W0.cell? ⟨b0, 5, none⟩ = some (.int .i64 0) := N0.cell 5 _ rfl; have c0_6 : W0.cell? ⟨b0, 6, none⟩ = some (.int .i64 0) := N0.cell 6 _ rfl; have y0_0 : W0.frozen? ⟨b0, 0, none⟩ = false := N0.froz 0; have y0_1 : W0.frozen? ⟨b0, 1, none⟩ = false := N0.froz 1; have y0_2 : W0.frozen? ⟨b0, 2, none⟩ = false := N0.froz 2; have y0_3 : W0.frozen? ⟨b0, 3, none⟩ = false := N0.froz 3; have y0_4 : W0.frozen? ⟨b0, 4, none⟩ = false := N0.froz 4; have y0_5 : W0.frozen? ⟨b0, 5, none⟩ = false := N0.froz 5; have y0_6 : W0.frozen? ⟨b0, 6, none⟩ = false := N0.froz 6; clear N0) | ((with_reducible refine store_box 31 b1 [.int .i64 5, .int .i64 0, .int .i64 0, .int .i64 0, .int .i64 0, .int .i64 0, .int .i64 0] (by simp) (there7 c1_0 c1_1 c1_2 c1_3 c1_4 c1_5 c1_6 y1_0 y1_1 y1_2 y1_3 y1_4 y1_5 y1_6) (by kernel_rfl) (by simp [Value.oneCell']) rfl rfl ?_); intro W1s S1; replace c0_0 := S1.at c0_0 (by have q1 := O1.out; omega); replace c0_1 := S1.at c0_1 (by have q1 := O1.out; omega); replace c0_2 := S1.at c0_2 (by have q1 := O1.out; omega); replace c0_3 := S1.at c0_3 (by have q1 := O1.out; omega); replace c0_4 := S1.at c0_4 (by have q1 := O1.out; omega); replace c0_5 := S1.at c0_5 (by have q1 := O1.out; omega); replace c0_6 := S1.at c0_6 (by have q1 := O1.out; omega); replace y0_0 := S1.fr y0_0; replace y0_1 := S1.fr y0_1; replace y0_2 := S1.fr y0_2; replace y0_3 := S1.fr y0_3; replace y0_4 := S1.fr y0_4; replace y0_5 := S1.fr y0_5; replace y0_6 := S1.fr y0_6; replace H0 : Hid (b0 < W1s.heap.size) := Nat.lt_of_lt_of_le H0.out S1.kept.size; replace c1_0 : W1s.cell? ⟨b1, 0, none⟩ = some (.int .i64 5) := S1.cell 0 _ rfl; replace c1_1 : W1s.cell? ⟨b1, 1, none⟩ = some (.int .i64 0) := S1.cell 1 _ rfl; replace c1_2 : W1s.cell? ⟨b1, 2, none⟩ = some (.int .i64 0) := S1.cell 2 _ rfl; replace c1_3 : W1s.cell? ⟨b1, 3, none⟩ = some (.int .i64 0) := S1.cell 3 _ rfl; replace c1_4 : W1s.cell? ⟨b1, 4, none⟩ = some (.int .i64 0) := S1.cell 4 _ rfl; replace c1_5 : W1s.cell? ⟨b1, 5, none⟩ = some (.int .i64 0) := S1.cell 5 _ rfl; replace c1_6 : W1s.cell? ⟨b1, 6, none⟩ = some (.int .i64 0) := S1.cell 6 _ rfl; replace y1_0 := S1.fr y1_0; replace y1_1 := S1.fr y1_1; replace y1_2 := S1.fr y1_2; replace y1_3 := S1.fr y1_3; replace y1_4 := S1.fr y1_4; replace y1_5 := S1.fr y1_5; replace y1_6 := S1.fr y1_6; replace H1 : Hid (b1 < W1s.heap.size) := Nat.lt_of_lt_of_le H1.out S1.kept.size; replace B := B.trans (S1.kept.below _ (Nat.le_trans O0.out (by have q1 := O1.out; omega)) B.size); clear S1) | fail)
    simp only [en0, Prod.mk.injEq] at HB
    obtain ⟨rfl, rfl, rfl, rfl, rfl, rfl, rfl⟩ := HB
    go_wp2
    refine bodyPost_ret (v := .agg #[.int .i64 5, .int .i64 0, .int .i64 0, .int .i64 0, .int .i64 0, .int .i64 0, .int .i64 0]) (by simp [results, Try.results17, go_sem, c0_0, c0_1, c0_2, c0_3, c0_4, c0_5, c0_6]) rfl ?_
    have KZ : Kept b0 (b0 + 1) W1s (((((((W1s.setCell ⟨b0, 0, none⟩ (.int .i64 5)).setCell ⟨b0, 1, none⟩ (.int .i64 0)).setCell ⟨b0, 2, none⟩ (.int .i64 0)).setCell ⟨b0, 3, none⟩ (.int .i64 0)).setCell ⟨b0, 4, none⟩ (.int .i64 0)).setCell ⟨b0, 5, none⟩ (.int .i64 0)).setCell ⟨b0, 6, none⟩ (.int .i64 0)) := by refine Kept.setCell (Kept.setCell (Kept.setCell (Kept.setCell (Kept.setCell (Kept.setCell (Kept.setCell (Kept.refl _ _ _) ?_ ?_ _) ?_ ?_ _) ?_ ?_ _) ?_ ?_ _) ?_ ?_ _) ?_ ?_ _) ?_ ?_ _ <;> simp
    exact ⟨rfl, B.trans (KZ.below _ O0.out B.size)⟩
  subst h5
  obtain ⟨b, off, rfl, _, _, hbs, g4, _⟩ := h.cells (by omega)
  have G : ∀ k, k < 5 → w.cell? ⟨b, off + k, none⟩ = some (.int .i64 (xs.getD k 0)) := fun k hk => by rw [g4 k (by omega), ints_getD xs k (by omega)]
  have HG : Hid _ := G
  clear G g4
  have hle := h.le
  go_enter Try.func17, Try.ntmps17
  go_wp2_with (first | (have g := H0.out; clear g; (with_reducible refine alloc_new 31 #[.int .i64 0, .int .i64 0, .int .i64 0, .int .i64 0, .int .i64 0, .int .i64 0, .int .i64 0] (fun _ => by kernel_rfl) ?_); intro b1 W1 N1; have O1 : Hid (b0 < b1) := Nat.lt_of_lt_of_le H0.out N1.ge; replace c0_0 := cell_later N1.below c0_0; replace c0_1 := cell_later N1.below c0_1; replace c0_2 := cell_later N1.below c0_2; replace c0_3 := cell_later N1.below c0_3; replace c0_4 := cell_later N1.below c0_4; replace c0_5 := cell_later N1.below c0_5; replace c0_6 := cell_later N1.below c0_6; replace y0_0 := frozen_later N1.below H0.out y0_0; replace y0_1 := frozen_later N1.below H0.out y0_1; replace y0_2 := frozen_later N1.below H0.out y0_2; replace y0_3 := frozen_later N1.below H0.out y0_3; replace y0_4 := frozen_later N1.below H0.out y0_4; replace y0_5 := frozen_later N1.below H0.out y0_5; replace y0_6 := frozen_later N1.below H0.out y0_6; replace H0 : Hid (b0 < W1.heap.size) := Nat.lt_of_lt_of_le H0.out N1.below.size; replace B := below_next B N1.below; have H1 : Hid (b1 < W1.heap.size) := N1.lt; have c1_0 : W1.cell? ⟨b1, 0, none⟩ = some (.int .i64 0) := N1.cell 0 _ rfl; have c1_1 : W1.cell? ⟨b1, 1, none⟩ = some (.int .i64 0) := N1.cell 1 _ rfl; have c1_2 : W1.cell? ⟨b1, 2, none⟩ = some (.int .i64 0) := N1.cell 2 _ rfl; have c1_3 : W1.cell? ⟨b1, 3, none⟩ = some (.int .i64 0) := N1.cell 3 _ rfl; have c1_4 : W1.cell? ⟨b1, 4, none⟩ = some (.int .i64 0) := N1.cell 4 _ rfl; have c1_5 : W1.cell? ⟨b1, 5, none⟩ = some (.int .i64 0) := N1.cell 5 _ rfl; have c1_6 : W1.cell? ⟨b1, 6, none⟩ = some (.int .i64 0) := N1.cell 6 _ rfl; have y1_0 : W1.frozen? ⟨b1, 0, none⟩ = false := N1.froz 0; have y1_1 : W1.frozen? ⟨b1, 1, none⟩ = false := N1.froz 1; have y1_2 : W1.frozen? ⟨b1, 2, none⟩ = false := N1.froz 2; have y1_3 : W1.frozen? ⟨b1, 3, none⟩ = false := N1.froz 3; have y1_4 : W1.frozen? ⟨b1, 4, none⟩ = false := N1.froz 4; have y1_5 : W1.frozen? ⟨b1, 5, none⟩ = false := N1.froz 5; have y1_6 : W1.frozen? ⟨b1, 6, none⟩ = false := N1.froz 6; clear N1) | ((with_reducible refine alloc_new 31 #[.int .i64 0, .int .i64 0, .int .i64 0, .int .i64 0, .int .i64 0, .int .i64 0, .int .i64 0] (fun _ => by kernel_rfl) ?_); intro b0 W0 N0; have O0 : Hid (w.heap.size ≤ b0) := N0.ge; have B := N0.below; have H0 : Hid (b0 < W0.heap.size) := N0.lt; have c0_0 : W0.cell? ⟨b0, 0, none⟩ = some (.int .i64 0) := N0.cell 0 _ rfl; have c0_1 : W0.cell? ⟨b0, 1, none⟩ = some (.int .i64 0) := N0.cell 1 _ rfl; have c0_2 : W0.cell? ⟨b0, 2, none⟩ = some (.int .i64 0) := N0.cell 2 _ rfl; have c0_3 : W0.cell? ⟨b0, 3, none⟩ = some (.int .i64 0) := N0.cell 3 _ rfl; have c0_4 : W0.cell? ⟨b0, 4, none⟩ = some (.int .i64 0) := N0.cell 4 _ rfl; have c0_5 : W0.cell? ⟨b0, 5, none⟩ = some (.int .i64 0) := N0.cell 5 _ rfl; have c0_6 : W0.cell? ⟨b0, 6, none⟩ = some (.int .i64 0) := N0.cell 6 _ rfl; have y0_0 : W0.frozen? ⟨b0, 0, none⟩ = false := N0.froz 0; have y0_1 : W0.frozen? ⟨b0, 1, none⟩ = false := N0.froz 1; have y0_2 : W0.frozen? ⟨b0, 2, none⟩ = false := N0.froz 2; have y0_3 : W0.frozen? ⟨b0, 3, none⟩ = false := N0.froz 3; have y0_4 : W0.frozen? ⟨b0, 4, none⟩ = false := N0.froz 4; have y0_5 : W0.frozen? ⟨b0, 5, none⟩ = false := N0.froz 5; have y0_6 : W0.frozen? ⟨b0, 6, none⟩ = false := N0.froz 6; clear N0) | ((with_reducible refine store_box 31 b1 [.int .i64 5, .int .i64 0, .int .i64 0, .int .i64 0, .int .i64 0, .int .i64 0, .int .i64 0] (by simp) (there7 c1_0 c1_1 c1_2 c1_3 c1_4 c1_5 c1_6 y1_0 y1_1 y1_2 y1_3 y1_4 y1_5 y1_6) (by kernel_rfl) (by simp [Value.oneCell']) rfl rfl ?_); intro W1s S1; replace c0_0 := S1.at c0_0 (by have q1 := O1.out; omega); replace c0_1 := S1.at c0_1 (by have q1 := O1.out; omega); replace c0_2 := S1.at c0_2 (by have q1 := O1.out; omega); replace c0_3 := S1.at c0_3 (by have q1 := O1.out; omega); replace c0_4 := S1.at c0_4 (by have q1 := O1.out; omega); replace c0_5 := S1.at c0_5 (by have q1 := O1.out; omega); replace c0_6 := S1.at c0_6 (by have q1 := O1.out; omega); replace y0_0 := S1.fr y0_0; replace y0_1 := S1.fr y0_1; replace y0_2 := S1.fr y0_2; replace y0_3 := S1.fr y0_3; replace y0_4 := S1.fr y0_4; replace y0_5 := S1.fr y0_5; replace y0_6 := S1.fr y0_6; replace H0 : Hid (b0 < W1s.heap.size) := Nat.lt_of_lt_of_le H0.out S1.kept.size; replace c1_0 : W1s.cell? ⟨b1, 0, none⟩ = some (.int .i64 5) := S1.cell 0 _ rfl; replace c1_1 : W1s.cell? ⟨b1, 1, none⟩ = some (.int .i64 0) := S1.cell 1 _ rfl; replace c1_2 : W1s.cell? ⟨b1, 2, none⟩ = some (.int .i64 0) := S1.cell 2 _ rfl; replace c1_3 : W1s.cell? ⟨b1, 3, none⟩ = some (.int .i64 0) := S1.cell 3 _ rfl; replace c1_4 : W1s.cell? ⟨b1, 4, none⟩ = some (.int .i64 0) := S1.cell 4 _ rfl; replace c1_5 : W1s.cell? ⟨b1, 5, none⟩ = some (.int .i64 0) := S1.cell 5 _ rfl; replace c1_6 : W1s.cell? ⟨b1, 6, none⟩ = some (.int .i64 0) := S1.cell 6 _ rfl; replace y1_0 := S1.fr y1_0; replace y1_1 := S1.fr y1_1; replace y1_2 := S1.fr y1_2; replace y1_3 := S1.fr y1_3; replace y1_4 := S1.fr y1_4; replace y1_5 := S1.fr y1_5; replace y1_6 := S1.fr y1_6; replace H1 : Hid (b1 < W1s.heap.size) := Nat.lt_of_lt_of_le H1.out S1.kept.size; replace B := B.trans (S1.kept.below _ (Nat.le_trans O0.out (by have q1 := O1.out; omega)) B.size); clear S1))
  go_loopw [4] (fun i wr => ∃ k : Nat, k ≤ 5 ∧ i = .int .i64 k ∧ Hid (∀ j, j < k → wordB (xs.getD j 0) = true) ∧ wr = W1s) (fun i _ => 5 - (intOf i).toNat)
  case atStart => exact ⟨0, Nat.zero_le _, rfl, fun j hj => absurd hj (Nat.not_lt_zero _), rfl⟩
  case round =>
    obtain ⟨k, hk, rfl, HW, rfl⟩ := hrel
    by_cases hlt : k < 5
    · have hlk : (k : Int) < 5 := by omega
      have e0 := cell_later B (HG.out k hlt)
      have HX := HG
      obtain ⟨d, hd⟩ : ∃ d, wordB (xs.getD k 0) = d := ⟨_, rfl⟩
      have HD : Hid _ := hd
      clear hd
      generalize hx : xs.getD k 0 = xk at *
      go_wp2_with fail
      refine (l1Word_is xk _ d HD.out).mono ?_
      rintro e W ⟨rfl, rfl⟩
      cases d with
      | true =>
        have HW' : Hid (∀ j, j < k + 1 → wordB (xs.getD j 0) = true) := fun j hj => by
          rcases Nat.lt_succ_iff_lt_or_eq.1 hj with q | q
          · exact HW.out j q
          · rw [q, hx]; exact HD.out
        clear HW HD
        go_wp2
        go_roundw
        case rel => exact ⟨k + 1, by omega, by go_num, HW', by first | rfl | trivial⟩
        case measure => simp [intOf]; omega
      | false =>
        have HB : (5, en0) = (cd, y0, y1, y2, y3, y4, y5) := by rw [← HR.out, unER_word (k := k) (by omega) (by rw [hx]; exact HD.out)]
        clear HR HD HW
        simp only [en0, Prod.mk.injEq] at HB
        obtain ⟨rfl, rfl, rfl, rfl, rfl, rfl, rfl⟩ := HB
        go_wp2
        refine bodyPost_ret (v := .agg #[.int .i64 5, .int .i64 0, .int .i64 0, .int .i64 0, .int .i64 0, .int .i64 0, .int .i64 0]) (by simp [results, Try.results17, go_sem, c0_0, c0_1, c0_2, c0_3, c0_4, c0_5, c0_6]) rfl ?_
        have KZ : Kept b0 (b0 + 1) W (((((((W.setCell ⟨b0, 0, none⟩ (.int .i64 5)).setCell ⟨b0, 1, none⟩ (.int .i64 0)).setCell ⟨b0, 2, none⟩ (.int .i64 0)).setCell ⟨b0, 3, none⟩ (.int .i64 0)).setCell ⟨b0, 4, none⟩ (.int .i64 0)).setCell ⟨b0, 5, none⟩ (.int .i64 0)).setCell ⟨b0, 6, none⟩ (.int .i64 0)) := by refine Kept.setCell (Kept.setCell (Kept.setCell (Kept.setCell (Kept.setCell (Kept.setCell (Kept.setCell (Kept.refl _ _ _) ?_ ?_ _) ?_ ?_ _) ?_ ?_ _) ?_ ?_ _) ?_ ?_ _) ?_ ?_ _) ?_ ?_ _ <;> simp
        exact ⟨rfl, B.trans (KZ.below _ O0.out B.size)⟩
    · obtain rfl : k = 5 := by omega
      have HE : Hid _ := unER_all hxl HW.out
      have W2 := word_of (HW.out 2 (by omega))
      have e0 := HG.out 0 (by omega)
      have e1 := HG.out 1 (by omega)
      have e2 := HG.out 2 (by omega)
      have e3 := HG.out 3 (by omega)
      have e4 := HG.out 4 (by omega)
      unfold unX at HE
      clear HW HG
      generalize xs.getD 0 0 = x0 at *
      generalize xs.getD 1 0 = x1 at *
      generalize xs.getD 2 0 = x2 at *
      generalize xs.getD 3 0 = x3 at *
      generalize xs.getD 4 0 = x4 at *
      obtain ⟨w1, w2⟩ := wrap_word W2
      obtain ⟨cd', hcd⟩ : ∃ cd', enFault (x0, x1, x2.tdiv 256, x2.tmod 256, x3, x4) = cd' := ⟨_, rfl⟩
      rw [hcd] at HE
      have HC : Hid _ := hcd
      clear hcd W2
      have D : Below wr.heap.size wr wr.drew := (Below.refl _ _).drew
      simp only [Nat.add_zero] at e0
      replace e0 := cell_later D (cell_later B e0)
      replace e1 := cell_later D (cell_later B e1)
      replace e2 := cell_later D (cell_later B e2)
      replace e3 := cell_later D (cell_later B e3)
      replace e4 := cell_later D (cell_later B e4)
      clear D
      go_wp2_with fail
      go_region_held3 (fun w' => w'.cell? ⟨b, off, none⟩ = some (.int .i64 x0) ∧ w'.cell? ⟨b, off + 1, none⟩ = some (.int .i64 x1) ∧ w'.cell? ⟨b, off + 2, none⟩ = some (.int .i64 x2) ∧ w'.cell? ⟨b, off + 3, none⟩ = some (.int .i64 x3) ∧ w'.cell? ⟨b, off + 4, none⟩ = some (.int .i64 x4)) (first | with_reducible exact ⟨e0, e1, e2, e3, e4⟩ | exact ⟨cell_later ((Below.refl _ _).alloc (Nat.le_refl _) _) e0, cell_later ((Below.refl _ _).alloc (Nat.le_refl _) _) e1, cell_later ((Below.refl _ _).alloc (Nat.le_refl _) _) e2, cell_later ((Below.refl _ _).alloc (Nat.le_refl _) _) e3, cell_later ((Below.refl _ _).alloc (Nat.le_refl _) _) e4⟩) (fail)
      have A : Below wr.heap.size wr (wr.alloc (.cells #[.int .i64 x0, .int .i64 x1, .int .i64 (x2.tdiv 256), .int .i64 (x2.tmod 256), .int .i64 x3, .int .i64 x4] 29)).drew := ((Below.refl _ _).alloc (Nat.le_refl _) _).drew
      have n0 : (wr.alloc (.cells #[.int .i64 x0, .int .i64 x1, .int .i64 (x2.tdiv 256), .int .i64 (x2.tmod 256), .int .i64 x3, .int .i64 x4] 29)).drew.cell? ⟨wr.heap.size, 0, none⟩ = some (.int .i64 x0) := by simp
      have n1 : (wr.alloc (.cells #[.int .i64 x0, .int .i64 x1, .int .i64 (x2.tdiv 256), .int .i64 (x2.tmod 256), .int .i64 x3, .int .i64 x4] 29)).drew.cell? ⟨wr.heap.size, 1, none⟩ = some (.int .i64 x1) := by simp
      have n2 : (wr.alloc (.cells #[.int .i64 x0, .int .i64 x1, .int .i64 (x2.tdiv 256), .int .i64 (x2.tmod 256), .int .i64 x3, .int .i64 x4] 29)).drew.cell? ⟨wr.heap.size, 2, none⟩ = some (.int .i64 (x2.tdiv 256)) := by simp
      have n3 : (wr.alloc (.cells #[.int .i64 x0, .int .i64 x1, .int .i64 (x2.tdiv 256), .int .i64 (x2.tmod 256), .int .i64 x3, .int .i64 x4] 29)).drew.cell? ⟨wr.heap.size, 3, none⟩ = some (.int .i64 (x2.tmod 256)) := by simp
      have n4 : (wr.alloc (.cells #[.int .i64 x0, .int .i64 x1, .int .i64 (x2.tdiv 256), .int .i64 (x2.tmod 256), .int .i64 x3, .int .i64 x4] 29)).drew.cell? ⟨wr.heap.size, 4, none⟩ = some (.int .i64 x3) := by simp
      have n5 : (wr.alloc (.cells #[.int .i64 x0, .int .i64 x1, .int .i64 (x2.tdiv 256), .int .i64 (x2.tmod 256), .int .i64 x3, .int .i64 x4] 29)).drew.cell? ⟨wr.heap.size, 5, none⟩ = some (.int .i64 x4) := by simp
      clear e0 e1 e2 e3 e4
      clear y1_0
      clear y1_1
      clear y1_2
      clear y1_3
      clear y1_4
      clear y1_5
      clear y1_6
      replace c0_0 := cell_later A c0_0
      replace c1_0 := cell_later A c1_0
      replace y0_0 := frozen_later A H0.out y0_0
      replace c0_1 := cell_later A c0_1
      replace c1_1 := cell_later A c1_1
      replace y0_1 := frozen_later A H0.out y0_1
      replace c0_2 := cell_later A c0_2
      replace c1_2 := cell_later A c1_2
      replace y0_2 := frozen_later A H0.out y0_2
      replace c0_3 := cell_later A c0_3
      replace c1_3 := cell_later A c1_3
      replace y0_3 := frozen_later A H0.out y0_3
      replace c0_4 := cell_later A c0_4
      replace c1_4 := cell_later A c1_4
      replace y0_4 := frozen_later A H0.out y0_4
      replace c0_5 := cell_later A c0_5
      replace c1_5 := cell_later A c1_5
      replace y0_5 := frozen_later A H0.out y0_5
      replace c0_6 := cell_later A c0_6
      replace c1_6 := cell_later A c1_6
      replace y0_6 := frozen_later A H0.out y0_6
      replace H0 : Hid _ := Nat.lt_of_lt_of_le H0.out A.size
      replace B := below_next B A
      clear A
      generalize wr.heap.size = b2 at *
      generalize (wr.alloc (.cells #[.int .i64 x0, .int .i64 x1, .int .i64 (x2.tdiv 256), .int .i64 (x2.tmod 256), .int .i64 x3, .int .i64 x4] 29)).drew = W5 at *
      generalize x2.tdiv 256 = q1 at *
      generalize x2.tmod 256 = q2 at *
      go_wp2_with fail
      refine (specEF_is x0 x1 q1 q2 x3 x4 _ cd' HC.out).mono ?_
      rintro e w6 ⟨rfl, B6⟩
      replace c0_0 := cell_later B6 c0_0
      replace c1_0 := cell_later B6 c1_0
      replace y0_0 := frozen_later B6 H0.out y0_0
      replace c0_1 := cell_later B6 c0_1
      replace c1_1 := cell_later B6 c1_1
      replace y0_1 := frozen_later B6 H0.out y0_1
      replace c0_2 := cell_later B6 c0_2
      replace c1_2 := cell_later B6 c1_2
      replace y0_2 := frozen_later B6 H0.out y0_2
      replace c0_3 := cell_later B6 c0_3
      replace c1_3 := cell_later B6 c1_3
      replace y0_3 := frozen_later B6 H0.out y0_3
      replace c0_4 := cell_later B6 c0_4
      replace c1_4 := cell_later B6 c1_4
      replace y0_4 := frozen_later B6 H0.out y0_4
      replace c0_5 := cell_later B6 c0_5
      replace c1_5 := cell_later B6 c1_5
      replace y0_5 := frozen_later B6 H0.out y0_5
      replace c0_6 := cell_later B6 c0_6
      replace c1_6 := cell_later B6 c1_6
      replace y0_6 := frozen_later B6 H0.out y0_6
      replace n0 := cell_later B6 n0
      replace n1 := cell_later B6 n1
      replace n2 := cell_later B6 n2
      replace n3 := cell_later B6 n3
      replace n4 := cell_later B6 n4
      replace n5 := cell_later B6 n5
      replace H0 : Hid _ := Nat.lt_of_lt_of_le H0.out B6.size
      replace B := below_next B B6
      clear B6
      by_cases z : cd' = 0
      · subst z
        have HB : (0, x0, x1, q1, q2, x3, x4) = (cd, y0, y1, y2, y3, y4, y5) := by rw [← HR.out, HE.out, if_pos rfl]
        clear HR HE HC
        simp only [Prod.mk.injEq] at HB
        obtain ⟨rfl, rfl, rfl, rfl, rfl, rfl, rfl⟩ := HB
        go_wp2
        refine bodyPost_ret (v := .agg #[.int .i64 0, .int .i64 x0, .int .i64 x1, .int .i64 q1, .int .i64 q2, .int .i64 x3, .int .i64 x4]) (by simp [results, Try.results17, go_sem, c0_0, c0_1, c0_2, c0_3, c0_4, c0_5, c0_6]) rfl ?_
        have KZ : Kept b0 (b0 + 1) w6 (((((((w6.setCell ⟨b0, 0, none⟩ (.int .i64 0)).setCell ⟨b0, 1, none⟩ (.int .i64 x0)).setCell ⟨b0, 2, none⟩ (.int .i64 x1)).setCell ⟨b0, 3, none⟩ (.int .i64 q1)).setCell ⟨b0, 4, none⟩ (.int .i64 q2)).setCell ⟨b0, 5, none⟩ (.int .i64 x3)).setCell ⟨b0, 6, none⟩ (.int .i64 x4)) := by refine Kept.setCell (Kept.setCell (Kept.setCell (Kept.setCell (Kept.setCell (Kept.setCell (Kept.setCell (Kept.refl _ _ _) ?_ ?_ _) ?_ ?_ _) ?_ ?_ _) ?_ ?_ _) ?_ ?_ _) ?_ ?_ _) ?_ ?_ _ <;> simp
        exact ⟨rfl, B.trans (KZ.below _ O0.out B.size)⟩
      · have hz : (cd' != 0) = true := by simp [z]
        have HB : (5, en0) = (cd, y0, y1, y2, y3, y4, y5) := by rw [← HR.out, HE.out, if_neg z]
        clear HR HE HC
        simp only [en0, Prod.mk.injEq] at HB
        obtain ⟨rfl, rfl, rfl, rfl, rfl, rfl, rfl⟩ := HB
        go_wp2
        refine bodyPost_ret (v := .agg #[.int .i64 5, .int .i64 0, .int .i64 0, .int .i64 0, .int .i64 0, .int .i64 0, .int .i64 0]) (by simp [results, Try.results17, go_sem, c0_0, c0_1, c0_2, c0_3, c0_4, c0_5, c0_6]) rfl ?_
        have KZ : Kept b0 (b0 + 1) w6 (((((((w6.setCell ⟨b0, 0, none⟩ (.int .i64 5)).setCell ⟨b0, 1, none⟩ (.int .i64 0)).setCell ⟨b0, 2, none⟩ (.int .i64 0)).setCell ⟨b0, 3, none⟩ (.int .i64 0)).setCell ⟨b0, 4, none⟩ (.int .i64 0)).setCell ⟨b0, 5, none⟩ (.int .i64 0)).setCell ⟨b0, 6, none⟩ (.int .i64 0)) := by refine Kept.setCell (Kept.setCell (Kept.setCell (Kept.setCell (Kept.setCell (Kept.setCell (Kept.setCell (Kept.refl _ _ _) ?_ ?_ _) ?_ ?_ _) ?_ ?_ _) ?_ ?_ _) ?_ ?_ _) ?_ ?_ _) ?_ ?_ _ <;> simp
        exact ⟨rfl, B.trans (KZ.below _ O0.out B.size)⟩

end Go.Proofs.Ytpbhiednmnolgaa

/- Chapter 8: two entries compared as structs. -/
namespace Go.Proofs.Ytpbhiednmnolgaa
open Go.RowKit

theorem stoodEntry : Try.prog.stoodInHeld 29 = false := by kernel_rfl
theorem guardEntry : Try.prog.eqGuardType Try.prog.depth 29 = false := by kernel_rfl
def enA (x : En) : Array Value := #[.int .i64 x.1, .int .i64 x.2.1, .int .i64 x.2.2.1, .int .i64 x.2.2.2.1, .int .i64 x.2.2.2.2.1, .int .i64 x.2.2.2.2.2]
theorem eqlEntry (x y : En) (w : World) : (Op.equalIn 10000 29 (.agg (enA x)) (.agg (enA y))).run Try.prog w = .ok (decide (x = y)) w := by
  rw [run_equalIn_struct w 9999 29 _ _ (by kernel_rfl) stoodEntry]
  simp only [Program.fieldsOf, Try.underlying29]
  simp [enA, Op.eqFields, part, go_sem, Try.underlying27, Try.underlying2, Program.fieldsOf]
  obtain ⟨x0, x1, x2, x3, x4, x5⟩ := x
  obtain ⟨y0, y1, y2, y3, y4, y5⟩ := y
  simp only [Prod.mk.injEq]
  by_cases h0 : x0 = y0
  · by_cases h1 : x1 = y1
    · by_cases h2 : x2 = y2
      · by_cases h3 : x3 = y3
        · by_cases h4 : x4 = y4
          · by_cases h5 : x5 = y5
            · simp [h0, h1, h2, h3, h4, h5]
            · simp [h0, h1, h2, h3, h4, h5]
          · simp [h0, h1, h2, h3, h4]
        · simp [h0, h1, h2, h3]
      · simp [h0, h1, h2]
    · simp [h0, h1]
  · simp [h0]
theorem run_eqEn (x0 x1 x2 x3 x4 x5 y0 y1 y2 y3 y4 y5 : Int) (b : Bool) (h : decide (((x0, x1, x2, x3, x4, x5) : En) = (y0, y1, y2, y3, y4, y5)) = b) (w : World) : (binOp .eql 29 (.agg #[.int .i64 x0, .int .i64 x1, .int .i64 x2, .int .i64 x3, .int .i64 x4, .int .i64 x5]) (.agg #[.int .i64 y0, .int .i64 y1, .int .i64 y2, .int .i64 y3, .int .i64 y4, .int .i64 y5])).run Try.prog w = .ok (.bool b) w := by
  have := eqlEntry (x0, x1, x2, x3, x4, x5) (y0, y1, y2, y3, y4, y5) w
  rw [run_eql_struct, show (#[.int .i64 x0, .int .i64 x1, .int .i64 x2, .int .i64 x3, .int .i64 x4, .int .i64 x5] : Array Value) = enA (x0, x1, x2, x3, x4, x5) from rfl, show (#[.int .i64 y0, .int .i64 y1, .int .i64 y2, .int .i64 y3, .int .i64 y4, .int .i64 y5] : Array Value) = enA (y0, y1, y2, y3, y4, y5) from rfl, this, h]
  rfl
theorem run_guEn (op : BinOp) (x y : Operand) (xs ys : Array Value) (w : World) : (eqGuard op 29 x y (.agg xs) (.agg ys)).run Try.prog w = .ok () w := run_eqGuard_agg w op _ x y xs ys guardEntry

end Go.Proofs.Ytpbhiednmnolgaa

/- Chapter 8: an entry out of its words, by the program: what cannot be read is a panic that is recovered. -/
namespace Go.Proofs.Ytpbhiednmnolgaa
open Go.RowKit

def panV : Value := .iface 9 (.string ⟨#[119, 111, 114, 100, 115, 32, 116, 104, 97, 116, 32, 99, 97, 110, 110, 111, 116, 32, 98, 101, 32, 114, 101, 97, 100]⟩)
theorem mustRead_yes (w : World) : Calls Try.prog 76 #[.bool true] w fun e w' => e = .returned (.tuple #[]) ∧ w' = w := by
  go_enter Try.func76, Try.ntmps76
  go_wp2
  go_end0
  exact ⟨rfl, rfl⟩
theorem mustRead_no (w : World) : Calls Try.prog 76 #[.bool false] w fun e w' => e = .panicked [{ v := panV, recovered := false }] ∧ w' = w := by
  unfold panV
  go_enter Try.func76, Try.ntmps76
  go_wp2
  exact ⟨rfl, rfl, rfl⟩
set_option maxRecDepth 20000 in
set_option maxHeartbeats 4000000 in
theorem readEntry_is {o : Bool} {l u : Nat} (ao : Option Addr) (n c : Nat) (xs : List Int) (w : World) (h : RowAt w o l u 1 ao n c (ints xs)) (cd y0 y1 y2 y3 y4 y5 : Int) (hr : unER xs = (cd, y0, y1, y2, y3, y4, y5)) : Calls Try.prog 53 #[.slice ao n c] w fun e w' => (if cd = 0 then e = .returned (.agg #[.int .i64 y0, .int .i64 y1, .int .i64 y2, .int .i64 y3, .int .i64 y4, .int .i64 y5]) else e = .panicked [{ v := panV, recovered := false }]) ∧ Below w.heap.size w w' := by
  have hxl := h.nInts
  have HR : Hid _ := hr
  clear hr
  by_cases h5 : n = 5
  rotate_left 1
  · have hn5 : ((n : Int) == 5) = false := by simp; omega
    have HB : (5, en0) = (cd, y0, y1, y2, y3, y4, y5) := by rw [← HR.out, unER_len (by omega)]
    have hc : cd = 5 := by injection HB with q _; exact q.symm
    subst hc
    clear HR HB
    go_enter Try.func53, Try.ntmps53
    go_wp2_with (first | ((with_reducible refine alloc_new 29 #[.int .i64 0, .int .i64 0, .int .i64 0, .int .i64 0, .int .i64 0, .int .i64 0] (fun _ => by kernel_rfl) ?_); intro b0 W0 N0; have O0 : Hid (w.heap.size ≤ b0) := N0.ge; have B := N0.below; have H0 : Hid (b0 < W0.heap.size) := N0.lt; have c0_0 : W0.cell? ⟨b0, 0, none⟩ = some (.int .i64 0) := N0.cell 0 _ rfl; have c0_1 : W0.cell? ⟨b0, 1, none⟩ = some (.int .i64 0) := N0.cell 1 _ rfl; have c0_2 : W0.cell? ⟨b0, 2, none⟩ = some (.int .i64 0) := N0.cell 2 _ rfl; have c0_3 : W0.cell? ⟨b0, 3, none⟩ = some (.int .i64 0) := N0.cell 3 _ rfl; have c0_4 : W0.cell? ⟨b0, 4, none⟩ = some (.int .i64 0) := N0.cell 4 _ rfl; have c0_5 : W0.cell? ⟨b0, 5, none⟩ = some (.int .i64 0) := N0.cell 5 _ rfl; have y0_0 : W0.frozen? ⟨b0, 0, none⟩ = false := N0.froz 0; have y0_1 : W0.frozen? ⟨b0, 1, none⟩ = false := N0.froz 1; have y0_2 : W0.frozen? ⟨b0, 2, none⟩ = false := N0.froz 2; have y0_3 : W0.frozen? ⟨b0, 3, none⟩ = false := N0.froz 3; have y0_4 : W0.frozen? ⟨b0, 4, none⟩ = false := N0.froz 4; have y0_5 : W0.frozen? ⟨b0, 5, none⟩ = false := N0.froz 5; clear N0) | fail)
    refine (mustRead_no _).mono ?_
    rintro e W ⟨rfl, rfl⟩
    exact ⟨rfl, by rw [if_neg (by decide)], B⟩
  subst h5
  obtain ⟨b, off, rfl, _, _, hbs, g4, _⟩ := h.cells (by omega)
  have G : ∀ k, k < 5 → w.cell? ⟨b, off + k, none⟩ = some (.int .i64 (xs.getD k 0)) := fun k hk => by rw [g4 k (by omega), ints_getD xs k (by omega)]
  have HG : Hid _ := G
  clear G g4
  have hle := h.le
  go_enter Try.func53, Try.ntmps53
  go_wp2_with (first | ((with_reducible refine alloc_new 29 #[.int .i64 0, .int .i64 0, .int .i64 0, .int .i64 0, .int .i64 0, .int .i64 0] (fun _ => by kernel_rfl) ?_); intro b0 W0 N0; have O0 : Hid (w.heap.size ≤ b0) := N0.ge; have B := N0.below; have H0 : Hid (b0 < W0.heap.size) := N0.lt; have c0_0 : W0.cell? ⟨b0, 0, none⟩ = some (.int .i64 0) := N0.cell 0 _ rfl; have c0_1 : W0.cell? ⟨b0, 1, none⟩ = some (.int .i64 0) := N0.cell 1 _ rfl; have c0_2 : W0.cell? ⟨b0, 2, none⟩ = some (.int .i64 0) := N0.cell 2 _ rfl; have c0_3 : W0.cell? ⟨b0, 3, none⟩ = some (.int .i64 0) := N0.cell 3 _ rfl; have c0_4 : W0.cell? ⟨b0, 4, none⟩ = some (.int .i64 0) := N0.cell 4 _ rfl; have c0_5 : W0.cell? ⟨b0, 5, none⟩ = some (.int .i64 0) := N0.cell 5 _ rfl; have y0_0 : W0.frozen? ⟨b0, 0, none⟩ = false := N0.froz 0; have y0_1 : W0.frozen? ⟨b0, 1, none⟩ = false := N0.froz 1; have y0_2 : W0.frozen? ⟨b0, 2, none⟩ = false := N0.froz 2; have y0_3 : W0.frozen? ⟨b0, 3, none⟩ = false := N0.froz 3; have y0_4 : W0.frozen? ⟨b0, 4, none⟩ = false := N0.froz 4; have y0_5 : W0.frozen? ⟨b0, 5, none⟩ = false := N0.froz 5; clear N0) | fail)
  refine (mustRead_yes _).mono ?_
  rintro e W ⟨rfl, rfl⟩
  go_wp2
  go_loopw [4, 14] (fun _ i wr => ∃ k : Nat, k ≤ 5 ∧ i = .int .i64 k ∧ Hid (∀ j, j < k → wordB (xs.getD j 0) = true) ∧ wr = W) (fun _ i _ => 5 - (intOf i).toNat)
  case atStart => exact ⟨0, Nat.zero_le _, rfl, fun j hj => absurd hj (Nat.not_lt_zero _), rfl⟩
  case round =>
    obtain ⟨k, hk, rfl, HW, rfl⟩ := hrel
    by_cases hlt : k < 5
    · have hlk : (k : Int) < 5 := by omega
      have e0 := cell_later B (HG.out k hlt)
      obtain ⟨d, hd⟩ : ∃ d, wordB (xs.getD k 0) = d := ⟨_, rfl⟩
      have HD : Hid _ := hd
      clear hd
      generalize hx : xs.getD k 0 = xk at *
      go_wp2_with fail
      refine (isWord_is xk _ d HD.out).mono ?_
      rintro e W2 ⟨rfl, rfl⟩
      go_wp2_with fail
      cases d with
      | true =>
        have HW' : Hid (∀ j, j < k + 1 → wordB (xs.getD j 0) = true) := fun j hj => by
          rcases Nat.lt_succ_iff_lt_or_eq.1 hj with q | q
          · exact HW.out j q
          · rw [q, hx]; exact HD.out
        clear HW HD
        refine (mustRead_yes _).mono ?_
        rintro e W3 ⟨rfl, rfl⟩
        go_wp2
        go_roundw
        case rel => exact ⟨k + 1, by omega, by go_num, HW', by first | rfl | trivial⟩
        case measure => simp [intOf]; omega
      | false =>
        have HB : (5, en0) = (cd, y0, y1, y2, y3, y4, y5) := by rw [← HR.out, unER_word (k := k) (by omega) (by rw [hx]; exact HD.out)]
        have hc : cd = 5 := by injection HB with q _; exact q.symm
        subst hc
        clear HR HD HW
        refine (mustRead_no _).mono ?_
        rintro e W3 ⟨rfl, rfl⟩
        exact ⟨rfl, by rw [if_neg (by decide)], B⟩
    · obtain rfl : k = 5 := by omega
      have HE : Hid _ := unER_all hxl HW.out
      have W2 := word_of (HW.out 2 (by omega))
      have e0 := HG.out 0 (by omega)
      have e1 := HG.out 1 (by omega)
      have e2 := HG.out 2 (by omega)
      have e3 := HG.out 3 (by omega)
      have e4 := HG.out 4 (by omega)
      unfold unX at HE
      clear HW HG
      generalize xs.getD 0 0 = x0 at *
      generalize xs.getD 1 0 = x1 at *
      generalize xs.getD 2 0 = x2 at *
      generalize xs.getD 3 0 = x3 at *
      generalize xs.getD 4 0 = x4 at *
      obtain ⟨w1, w2⟩ := wrap_word W2
      obtain ⟨cd', hcd⟩ : ∃ cd', enFault (x0, x1, x2.tdiv 256, x2.tmod 256, x3, x4) = cd' := ⟨_, rfl⟩
      rw [hcd] at HE
      have HC : Hid _ := hcd
      clear hcd W2
      simp only [Nat.add_zero] at e0
      replace e0 := cell_later B e0
      replace e1 := cell_later B e1
      replace e2 := cell_later B e2
      replace e3 := cell_later B e3
      replace e4 := cell_later B e4
      go_wp2_with fail
      have D : Below wr.heap.size wr wr.drew := (Below.refl _ _).drew
      have ge3 := cell_later D e3
      have ge4 := cell_later D e4
      clear D
      go_region_held3 (fun w' => w'.cell? ⟨b, off + 3, none⟩ = some (.int .i64 x3) ∧ w'.cell? ⟨b, off + 4, none⟩ = some (.int .i64 x4)) (first | with_reducible exact ⟨ge3, ge4⟩ | exact ⟨cell_later ((Below.refl _ _).alloc (Nat.le_refl _) _) ge3, cell_later ((Below.refl _ _).alloc (Nat.le_refl _) _) ge4⟩) (fail)
      clear ge3 ge4
      have A : Below wr.heap.size wr (wr.alloc (.cells #[.int .i64 (x2.tdiv 256), .int .i64 (x2.tmod 256), .int .i64 x3, .int .i64 x4] 27)).drew := ((Below.refl _ _).alloc (Nat.le_refl _) _).drew
      have n0 : (wr.alloc (.cells #[.int .i64 (x2.tdiv 256), .int .i64 (x2.tmod 256), .int .i64 x3, .int .i64 x4] 27)).drew.cell? ⟨wr.heap.size, 0, none⟩ = some (.int .i64 (x2.tdiv 256)) := by simp
      have n1 : (wr.alloc (.cells #[.int .i64 (x2.tdiv 256), .int .i64 (x2.tmod 256), .int .i64 x3, .int .i64 x4] 27)).drew.cell? ⟨wr.heap.size, 1, none⟩ = some (.int .i64 (x2.tmod 256)) := by simp
      have n2 : (wr.alloc (.cells #[.int .i64 (x2.tdiv 256), .int .i64 (x2.tmod 256), .int .i64 x3, .int .i64 x4] 27)).drew.cell? ⟨wr.heap.size, 2, none⟩ = some (.int .i64 x3) := by simp
      have n3 : (wr.alloc (.cells #[.int .i64 (x2.tdiv 256), .int .i64 (x2.tmod 256), .int .i64 x3, .int .i64 x4] 27)).drew.cell? ⟨wr.heap.size, 3, none⟩ = some (.int .i64 x4) := by simp
      clear e2 e3 e4
      replace c0_0 := cell_later A c0_0
      replace y0_0 := frozen_later A H0.out y0_0
      replace c0_1 := cell_later A c0_1
      replace y0_1 := frozen_later A H0.out y0_1
      replace c0_2 := cell_later A c0_2
      replace y0_2 := frozen_later A H0.out y0_2
      replace c0_3 := cell_later A c0_3
      replace y0_3 := frozen_later A H0.out y0_3
      replace c0_4 := cell_later A c0_4
      replace y0_4 := frozen_later A H0.out y0_4
      replace c0_5 := cell_later A c0_5
      replace y0_5 := frozen_later A H0.out y0_5
      replace e0 := cell_later A e0
      replace e1 := cell_later A e1
      replace H0 : Hid _ := Nat.lt_of_lt_of_le H0.out A.size
      replace B := below_next B A
      clear A
      generalize wr.heap.size = b2 at *
      generalize (wr.alloc (.cells #[.int .i64 (x2.tdiv 256), .int .i64 (x2.tmod 256), .int .i64 x3, .int .i64 x4] 27)).drew = W5 at *
      generalize x2.tdiv 256 = q1 at *
      generalize x2.tmod 256 = q2 at *
      go_wp2_with fail
      have D : Below W5.heap.size W5 W5.drew := (Below.refl _ _).drew
      have ge0 := cell_later D e0
      have ge1 := cell_later D e1
      have gn0 := cell_later D n0
      have gn1 := cell_later D n1
      have gn2 := cell_later D n2
      have gn3 := cell_later D n3
      clear D
      clear n0
      clear n1
      clear n2
      clear n3
      go_region_held3 (fun w' => w'.cell? ⟨b, off, none⟩ = some (.int .i64 x0) ∧ w'.cell? ⟨b, off + 1, none⟩ = some (.int .i64 x1) ∧ w'.cell? ⟨b2, 0, none⟩ = some (.int .i64 q1) ∧ w'.cell? ⟨b2, 1, none⟩ = some (.int .i64 q2) ∧ w'.cell? ⟨b2, 2, none⟩ = some (.int .i64 x3) ∧ w'.cell? ⟨b2, 3, none⟩ = some (.int .i64 x4)) (first | with_reducible exact ⟨ge0, ge1, gn0, gn1, gn2, gn3⟩ | exact ⟨cell_later ((Below.refl _ _).alloc (Nat.le_refl _) _) ge0, cell_later ((Below.refl _ _).alloc (Nat.le_refl _) _) ge1, cell_later ((Below.refl _ _).alloc (Nat.le_refl _) _) gn0, cell_later ((Below.refl _ _).alloc (Nat.le_refl _) _) gn1, cell_later ((Below.refl _ _).alloc (Nat.le_refl _) _) gn2, cell_later ((Below.refl _ _).alloc (Nat.le_refl _) _) gn3⟩) (fail)
      clear ge0 ge1 gn0 gn1 gn2 gn3
      have A : Below W5.heap.size W5 (W5.alloc (.cells #[.int .i64 x0, .int .i64 x1, .int .i64 q1, .int .i64 q2, .int .i64 x3, .int .i64 x4] 29)).drew := ((Below.refl _ _).alloc (Nat.le_refl _) _).drew
      have m0 : (W5.alloc (.cells #[.int .i64 x0, .int .i64 x1, .int .i64 q1, .int .i64 q2, .int .i64 x3, .int .i64 x4] 29)).drew.cell? ⟨W5.heap.size, 0, none⟩ = some (.int .i64 x0) := by simp
      have m1 : (W5.alloc (.cells #[.int .i64 x0, .int .i64 x1, .int .i64 q1, .int .i64 q2, .int .i64 x3, .int .i64 x4] 29)).drew.cell? ⟨W5.heap.size, 1, none⟩ = some (.int .i64 x1) := by simp
      have m2 : (W5.alloc (.cells #[.int .i64 x0, .int .i64 x1, .int .i64 q1, .int .i64 q2, .int .i64 x3, .int .i64 x4] 29)).drew.cell? ⟨W5.heap.size, 2, none⟩ = some (.int .i64 q1) := by simp
      have m3 : (W5.alloc (.cells #[.int .i64 x0, .int .i64 x1, .int .i64 q1, .int .i64 q2, .int .i64 x3, .int .i64 x4] 29)).drew.cell? ⟨W5.heap.size, 3, none⟩ = some (.int .i64 q2) := by simp
      have m4 : (W5.alloc (.cells #[.int .i64 x0, .int .i64 x1, .int .i64 q1, .int .i64 q2, .int .i64 x3, .int .i64 x4] 29)).drew.cell? ⟨W5.heap.size, 4, none⟩ = some (.int .i64 x3) := by simp
      have m5 : (W5.alloc (.cells #[.int .i64 x0, .int .i64 x1, .int .i64 q1, .int .i64 q2, .int .i64 x3, .int .i64 x4] 29)).drew.cell? ⟨W5.heap.size, 5, none⟩ = some (.int .i64 x4) := by simp
      clear e0 e1
      replace c0_0 := cell_later A c0_0
      replace y0_0 := frozen_later A H0.out y0_0
      replace c0_1 := cell_later A c0_1
      replace y0_1 := frozen_later A H0.out y0_1
      replace c0_2 := cell_later A c0_2
      replace y0_2 := frozen_later A H0.out y0_2
      replace c0_3 := cell_later A c0_3
      replace y0_3 := frozen_later A H0.out y0_3
      replace c0_4 := cell_later A c0_4
      replace y0_4 := frozen_later A H0.out y0_4
      replace c0_5 := cell_later A c0_5
      replace y0_5 := frozen_later A H0.out y0_5
      replace H0 : Hid _ := Nat.lt_of_lt_of_le H0.out A.size
      replace B := below_next B A
      clear A
      generalize W5.heap.size = b3 at *
      generalize (W5.alloc (.cells #[.int .i64 x0, .int .i64 x1, .int .i64 q1, .int .i64 q2, .int .i64 x3, .int .i64 x4] 29)).drew = W6 at *
      go_wp2_with fail
      refine (implEF_is x0 x1 q1 q2 x3 x4 _ cd' HC.out).mono ?_
      rintro e w6 ⟨rfl, B6⟩
      replace c0_0 := cell_later B6 c0_0
      replace y0_0 := frozen_later B6 H0.out y0_0
      replace c0_1 := cell_later B6 c0_1
      replace y0_1 := frozen_later B6 H0.out y0_1
      replace c0_2 := cell_later B6 c0_2
      replace y0_2 := frozen_later B6 H0.out y0_2
      replace c0_3 := cell_later B6 c0_3
      replace y0_3 := frozen_later B6 H0.out y0_3
      replace c0_4 := cell_later B6 c0_4
      replace y0_4 := frozen_later B6 H0.out y0_4
      replace c0_5 := cell_later B6 c0_5
      replace y0_5 := frozen_later B6 H0.out y0_5
      replace m0 := cell_later B6 m0
      replace m1 := cell_later B6 m1
      replace m2 := cell_later B6 m2
      replace m3 := cell_later B6 m3
      replace m4 := cell_later B6 m4
      replace m5 := cell_later B6 m5
      replace H0 : Hid _ := Nat.lt_of_lt_of_le H0.out B6.size
      replace B := below_next B B6
      clear B6
      by_cases z : cd' = 0
      · subst z
        have HB : (0, x0, x1, q1, q2, x3, x4) = (cd, y0, y1, y2, y3, y4, y5) := by rw [← HR.out, HE.out, if_pos rfl]
        clear HR HE HC
        simp only [Prod.mk.injEq] at HB
        obtain ⟨rfl, rfl, rfl, rfl, rfl, rfl, rfl⟩ := HB
        go_wp2_with fail
        refine (mustRead_yes _).mono ?_
        rintro e W ⟨rfl, rfl⟩
        go_wp2
        refine bodyPost_ret (v := .agg #[.int .i64 x0, .int .i64 x1, .int .i64 q1, .int .i64 q2, .int .i64 x3, .int .i64 x4]) (by simp [results, Try.results53, go_sem, c0_0, c0_1, c0_2, c0_3, c0_4, c0_5]) rfl ?_
        have KZ : Kept b0 (b0 + 1) W ((((((W.setCell ⟨b0, 0, none⟩ (.int .i64 x0)).setCell ⟨b0, 1, none⟩ (.int .i64 x1)).setCell ⟨b0, 2, none⟩ (.int .i64 q1)).setCell ⟨b0, 3, none⟩ (.int .i64 q2)).setCell ⟨b0, 4, none⟩ (.int .i64 x3)).setCell ⟨b0, 5, none⟩ (.int .i64 x4)) := by refine Kept.setCell (Kept.setCell (Kept.setCell (Kept.setCell (Kept.setCell (Kept.setCell (Kept.refl _ _ _) ?_ ?_ _) ?_ ?_ _) ?_ ?_ _) ?_ ?_ _) ?_ ?_ _) ?_ ?_ _ <;> simp
        exact ⟨by first | rfl | rw [if_pos rfl], B.trans (KZ.below _ O0.out B.size)⟩
      · have hz : (cd' == 0) = false := by simp [z]
        have HB : (5, en0) = (cd, y0, y1, y2, y3, y4, y5) := by rw [← HR.out, HE.out, if_neg z]
        have hc : cd = 5 := by injection HB with q _; exact q.symm
        subst hc
        clear HR HE HC HB
        go_wp2_with fail
        refine (mustRead_no _).mono ?_
        rintro e W ⟨rfl, rfl⟩
        exact ⟨rfl, by rw [if_neg (by decide)], B⟩

theorem catch_panicking (p : Nat) (v0 v1 v2 v3 v4 v5 v6 : Value) (u : TypeId) (pv : Value) (older : List PanicEntry) (w : World) (c0 : w.cell? ⟨p, 0, none⟩ = some v0) (y0 : w.frozen? ⟨p, 0, none⟩ = false) (c1 : w.cell? ⟨p, 1, none⟩ = some v1) (y1 : w.frozen? ⟨p, 1, none⟩ = false) (c2 : w.cell? ⟨p, 2, none⟩ = some v2) (y2 : w.frozen? ⟨p, 2, none⟩ = false) (c3 : w.cell? ⟨p, 3, none⟩ = some v3) (y3 : w.frozen? ⟨p, 3, none⟩ = false) (c4 : w.cell? ⟨p, 4, none⟩ = some v4) (y4 : w.frozen? ⟨p, 4, none⟩ = false) (c5 : w.cell? ⟨p, 5, none⟩ = some v5) (y5 : w.frozen? ⟨p, 5, none⟩ = false) (c6 : w.cell? ⟨p, 6, none⟩ = some v6) (y6 : w.frozen? ⟨p, 6, none⟩ = false) :
    CallsD Try.prog 52 #[.pointer (some ⟨p, 0, none⟩)] (.panicking ({ v := .iface u pv, recovered := false } :: older)) w fun e u' w' =>
      e = .returned (.tuple #[]) ∧ u' = .panicking ({ v := .iface u pv, recovered := true } :: older) ∧ w' = (((((((w.setCell ⟨p, 0, none⟩ (.int .i64 5)).setCell ⟨p, 1, none⟩ (.int .i64 0)).setCell ⟨p, 2, none⟩ (.int .i64 0)).setCell ⟨p, 3, none⟩ (.int .i64 0)).setCell ⟨p, 4, none⟩ (.int .i64 0)).setCell ⟨p, 5, none⟩ (.int .i64 0)).setCell ⟨p, 6, none⟩ (.int .i64 0)) := by
  refine callsD_of_wpS Try.func52 rfl fun c₀ cs hu => ?_
  apply wpS_seq
  apply wpS_region
  simp [wpOpsS, go_sem, recoverD, hu, Try.ntmps52, Exit.thenS]
  refine wpS_cond (t := true) (by simp [Act.eval, Array.replicate]) ?_
  simp only [if_true]
  apply wpS_region
  simp [wpOpsS, go_sem, c0, y0, c1, y1, c2, y2, c3, y3, c4, y4, c5, y5, c6, y6, bodyPostS, results, Try.results52]

theorem catch_idle (p : Nat) (w : World) :
    CallsD Try.prog 52 #[.pointer (some ⟨p, 0, none⟩)] .returning w fun e u' w' => e = .returned (.tuple #[]) ∧ u' = .returning ∧ w' = w := by
  refine callsD_of_wpS Try.func52 rfl fun c₀ cs hu => ?_
  apply wpS_seq
  apply wpS_region
  simp [wpOpsS, go_sem, recoverD, hu, Try.ntmps52, Exit.thenS]
  refine wpS_cond (t := false) (by simp [Act.eval, Array.replicate]) ?_
  simp only [Bool.false_eq_true, if_false]
  refine wpS_of_wp (wp_skip ?_)
  cases c₀
  simp_all [bodyPostS, results, Try.results52]
set_option maxRecDepth 20000 in
set_option maxHeartbeats 4000000 in
theorem implUnE_is {o : Bool} {l u : Nat} (ao : Option Addr) (n c : Nat) (xs : List Int) (w : World) (h : RowAt w o l u 1 ao n c (ints xs)) (cd y0 y1 y2 y3 y4 y5 : Int) (hr : unER xs = (cd, y0, y1, y2, y3, y4, y5)) : Calls Try.prog 14 #[.slice ao n c] w fun e w' => e = .returned (.agg #[.int .i64 cd, .int .i64 y0, .int .i64 y1, .int .i64 y2, .int .i64 y3, .int .i64 y4, .int .i64 y5]) ∧ Below w.heap.size w w' := by
  have HR : Hid _ := hr
  have hcd : cd = 0 ∨ cd = 5 := by unfold unER at hr; split at hr <;> (injection hr with q _; omega)
  clear hr
  have hmf : ∀ (fn : Fn) (first cap : Array Value) (w : World), (Instr.makeFunc fn first cap).run Try.prog w = .ok (.func fn first cap) w := fun _ _ _ _ => rfl
  go_enter_defers Try.func14, Try.ntmps14
  go_wp2_with (first | ((with_reducible refine alloc_new 31 #[.int .i64 0, .int .i64 0, .int .i64 0, .int .i64 0, .int .i64 0, .int .i64 0, .int .i64 0] (fun _ => by kernel_rfl) ?_); intro b0 W0 N0; have O0 : Hid (w.heap.size ≤ b0) := N0.ge; have B := N0.below; have H0 : Hid (b0 < W0.heap.size) := N0.lt; have c0_0 : W0.cell? ⟨b0, 0, none⟩ = some (.int .i64 0) := N0.cell 0 _ rfl; have c0_1 : W0.cell? ⟨b0, 1, none⟩ = some (.int .i64 0) := N0.cell 1 _ rfl; have c0_2 : W0.cell? ⟨b0, 2, none⟩ = some (.int .i64 0) := N0.cell 2 _ rfl; have c0_3 : W0.cell? ⟨b0, 3, none⟩ = some (.int .i64 0) := N0.cell 3 _ rfl; have c0_4 : W0.cell? ⟨b0, 4, none⟩ = some (.int .i64 0) := N0.cell 4 _ rfl; have c0_5 : W0.cell? ⟨b0, 5, none⟩ = some (.int .i64 0) := N0.cell 5 _ rfl; have c0_6 : W0.cell? ⟨b0, 6, none⟩ = some (.int .i64 0) := N0.cell 6 _ rfl; have y0_0 : W0.frozen? ⟨b0, 0, none⟩ = false := N0.froz 0; have y0_1 : W0.frozen? ⟨b0, 1, none⟩ = false := N0.froz 1; have y0_2 : W0.frozen? ⟨b0, 2, none⟩ = false := N0.froz 2; have y0_3 : W0.frozen? ⟨b0, 3, none⟩ = false := N0.froz 3; have y0_4 : W0.frozen? ⟨b0, 4, none⟩ = false := N0.froz 4; have y0_5 : W0.frozen? ⟨b0, 5, none⟩ = false := N0.froz 5; have y0_6 : W0.frozen? ⟨b0, 6, none⟩ = false := N0.froz 6; clear N0) | fail)
  refine (readEntry_is ao n c xs _ (h.below B) cd y0 y1 y2 y3 y4 y5 HR.out).mono ?_
  rintro e w1 ⟨he, BB⟩
  replace c0_0 := cell_later BB c0_0
  replace c0_1 := cell_later BB c0_1
  replace c0_2 := cell_later BB c0_2
  replace c0_3 := cell_later BB c0_3
  replace c0_4 := cell_later BB c0_4
  replace c0_5 := cell_later BB c0_5
  replace c0_6 := cell_later BB c0_6
  replace y0_0 := frozen_later BB H0.out y0_0
  replace y0_1 := frozen_later BB H0.out y0_1
  replace y0_2 := frozen_later BB H0.out y0_2
  replace y0_3 := frozen_later BB H0.out y0_3
  replace y0_4 := frozen_later BB H0.out y0_4
  replace y0_5 := frozen_later BB H0.out y0_5
  replace y0_6 := frozen_later BB H0.out y0_6
  replace H0 : Hid (b0 < w1.heap.size) := Nat.lt_of_lt_of_le H0.out BB.size
  replace B := below_next B BB
  clear BB
  rcases hcd with hcd | hcd
  · subst hcd
    rw [if_pos rfl] at he
    subst he
    go_wp2
    refine leaves_cons (f := 52) (args := #[.pointer (some ⟨b0, 0, none⟩)]) (by simp) (by simp [go_sem]) ?_
    refine (catch_idle b0 _).mono ?_
    rintro e u' w'' ⟨rfl, rfl, rfl⟩
    have KZ : Kept b0 (b0 + 1) w1 (((((((w1.setCell ⟨b0, 0, none⟩ (.int .i64 0)).setCell ⟨b0, 1, none⟩ (.int .i64 y0)).setCell ⟨b0, 2, none⟩ (.int .i64 y1)).setCell ⟨b0, 3, none⟩ (.int .i64 y2)).setCell ⟨b0, 4, none⟩ (.int .i64 y3)).setCell ⟨b0, 5, none⟩ (.int .i64 y4)).setCell ⟨b0, 6, none⟩ (.int .i64 y5)) := by refine Kept.setCell (Kept.setCell (Kept.setCell (Kept.setCell (Kept.setCell (Kept.setCell (Kept.setCell (Kept.refl _ _ _) ?_ ?_ _) ?_ ?_ _) ?_ ?_ _) ?_ ?_ _) ?_ ?_ _) ?_ ?_ _) ?_ ?_ _ <;> simp
    have KB := B.trans (KZ.below _ O0.out B.size)
    clear KZ
    simp [Leaves, settle, results, Try.results14, go_sem, c0_0, c0_1, c0_2, c0_3, c0_4, c0_5, c0_6]
    exact KB
  · subst hcd
    have HB : (5, en0) = ((5, y0, y1, y2, y3, y4, y5) : Int × En) := by
      have q := HR.out
      unfold unER at q
      split at q
      · cases q
      · exact q
    simp only [en0, Prod.mk.injEq] at HB
    obtain ⟨_, rfl, rfl, rfl, rfl, rfl, rfl⟩ := HB
    rw [if_neg (by decide)] at he
    subst he
    clear HR
    go_wp2
    refine leaves_cons (f := 52) (args := #[.pointer (some ⟨b0, 0, none⟩)]) (by simp) (by simp [go_sem]) ?_
    unfold panV
    refine (catch_panicking b0 _ _ _ _ _ _ _ _ _ [] _ c0_0 y0_0 c0_1 y0_1 c0_2 y0_2 c0_3 y0_3 c0_4 y0_4 c0_5 y0_5 c0_6 y0_6).mono ?_
    rintro e u' w'' ⟨rfl, rfl, rfl⟩
    have KZ : Kept b0 (b0 + 1) w1 (((((((w1.setCell ⟨b0, 0, none⟩ (.int .i64 5)).setCell ⟨b0, 1, none⟩ (.int .i64 0)).setCell ⟨b0, 2, none⟩ (.int .i64 0)).setCell ⟨b0, 3, none⟩ (.int .i64 0)).setCell ⟨b0, 4, none⟩ (.int .i64 0)).setCell ⟨b0, 5, none⟩ (.int .i64 0)).setCell ⟨b0, 6, none⟩ (.int .i64 0)) := by refine Kept.setCell (Kept.setCell (Kept.setCell (Kept.setCell (Kept.setCell (Kept.setCell (Kept.setCell (Kept.refl _ _ _) ?_ ?_ _) ?_ ?_ _) ?_ ?_ _) ?_ ?_ _) ?_ ?_ _) ?_ ?_ _) ?_ ?_ _ <;> simp
    have KB := B.trans (KZ.below _ O0.out B.size)
    clear KZ
    simp [Leaves, settle, results, Try.results14, go_sem, c0_0, c0_1, c0_2, c0_3, c0_4, c0_5, c0_6]
    exact KB

end Go.Proofs.Ytpbhiednmnolgaa
