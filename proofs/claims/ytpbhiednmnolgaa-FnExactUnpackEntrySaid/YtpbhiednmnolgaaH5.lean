/- Chapter 8: an entry out of its words, by the model. -/
import Derived.Test.YtpbhiednmnolgaaEX
import Derived.Test.YtpbhiednmnolgaaXA
import Derived.Test.YtpbhiednmnolgaaFault
import Derived.Test.YtpbhiednmnolgaaFacts
import Derived.Test.YtpbhiednmnolgaaYE
namespace Go.Proofs.Ytpbhiednmnolgaa
open Go.RowKit

def unX (xs : List Int) : En := (xs.getD 0 0, xs.getD 1 0, (xs.getD 2 0).tdiv 256, (xs.getD 2 0).tmod 256, xs.getD 3 0, xs.getD 4 0)
def unOk (xs : List Int) : Bool := decide (xs.length = 5) && xs.all wordB && decide (enFault (unX xs) = 0)
def unER (xs : List Int) : Int × En := if unOk xs then (0, unX xs) else (5, en0)
theorem unER_len {xs : List Int} (h : xs.length ≠ 5) : unER xs = (5, en0) := by
  unfold unER unOk
  rw [if_neg (by simp [h])]
theorem unER_word {xs : List Int} {k : Nat} (hk : k < xs.length) (h : wordB (xs.getD k 0) = false) : unER xs = (5, en0) := by
  unfold unER unOk
  have : xs.all wordB = false := by
    rw [List.all_eq_false]
    refine ⟨xs[k], List.getElem_mem hk, ?_⟩
    have e : xs.getD k 0 = xs[k] := by simp [List.getD, hk]
    rw [e] at h
    simp [h]
  rw [if_neg (by simp [this])]
theorem unER_all {xs : List Int} (hl : xs.length = 5) (h : ∀ k, k < 5 → wordB (xs.getD k 0) = true) : unER xs = if enFault (unX xs) = 0 then (0, unX xs) else (5, en0) := by
  unfold unER unOk
  have : xs.all wordB = true := by
    rw [List.all_eq_true]
    intro x hx
    obtain ⟨k, hk, rfl⟩ := List.mem_iff_getElem.1 hx
    have := h k (by omega)
    simpa [List.getD, hk] using this
  simp [hl, this]
theorem word_of {x : Int} (h : wordB x = true) : 0 ≤ x ∧ x ≤ 65535 := by
  unfold wordB at h; simpa using h
theorem wrap_word {x : Int} (h : 0 ≤ x ∧ x ≤ 65535) : IntKind.i64.wrap (x.tdiv 256) = x.tdiv 256 ∧ IntKind.i64.wrap (x.tmod 256) = x.tmod 256 := by
  have e1 : x.tdiv 256 = x / 256 := Int.tdiv_eq_ediv_of_nonneg h.1
  have e2 : x.tmod 256 = x % 256 := Int.tmod_eq_emod_of_nonneg h.1
  rw [e1, e2]
  exact ⟨wrapI_same _ (by omega), wrapI_same _ (by omega)⟩
theorem there7 {w : World} {b : Nat} {v0 v1 v2 v3 v4 v5 v6 : Value} (c0 : w.cell? ⟨b, 0, none⟩ = some v0) (c1 : w.cell? ⟨b, 1, none⟩ = some v1) (c2 : w.cell? ⟨b, 2, none⟩ = some v2) (c3 : w.cell? ⟨b, 3, none⟩ = some v3) (c4 : w.cell? ⟨b, 4, none⟩ = some v4) (c5 : w.cell? ⟨b, 5, none⟩ = some v5) (c6 : w.cell? ⟨b, 6, none⟩ = some v6) (y0 : w.frozen? ⟨b, 0, none⟩ = false) (y1 : w.frozen? ⟨b, 1, none⟩ = false) (y2 : w.frozen? ⟨b, 2, none⟩ = false) (y3 : w.frozen? ⟨b, 3, none⟩ = false) (y4 : w.frozen? ⟨b, 4, none⟩ = false) (y5 : w.frozen? ⟨b, 5, none⟩ = false) (y6 : w.frozen? ⟨b, 6, none⟩ = false) : w.there b 0 7 := fun j hj => by
  rcases (by omega : j = 0 ∨ j = 1 ∨ j = 2 ∨ j = 3 ∨ j = 4 ∨ j = 5 ∨ j = 6) with rfl | rfl | rfl | rfl | rfl | rfl | rfl
  · exact ⟨by rw [c0]; rfl, y0⟩
  · exact ⟨by rw [c1]; rfl, y1⟩
  · exact ⟨by rw [c2]; rfl, y2⟩
  · exact ⟨by rw [c3]; rfl, y3⟩
  · exact ⟨by rw [c4]; rfl, y4⟩
  · exact ⟨by rw [c5]; rfl, y5⟩
  · exact ⟨by rw [c6]; rfl, y6⟩
set_option maxRecDepth 20000 in
set_option maxHeartbeats 4000000 in
theorem specUnE_is {o : Bool} {l u : Nat} (ao : Option Addr) (n c : Nat) (xs : List Int) (w : World) (h : RowAt w o l u 1 ao n c (ints xs)) (cd y0 y1 y2 y3 y4 y5 : Int) (hr : unER xs = (cd, y0, y1, y2, y3, y4, y5)) : Calls Try.prog 17 #[.slice ao n c] w fun e w' => e = .returned (.agg #[.int .i64 cd, .int .i64 y0, .int .i64 y1, .int .i64 y2, .int .i64 y3, .int .i64 y4, .int .i64 y5]) ∧ Below w.heap.size w w' := by
  have hxl := h.nInts
  have HR : Hid _ := hr
  clear hr
  by_cases h5 : n = 5
  rotate_left 1
  · have hn5 : ((n : Int) != 5) = true := by simp; omega
    have HB : (5, en0) = (cd, y0, y1, y2, y3, y4, y5) := by rw [← HR.out, unER_len (by omega)]
    clear HR
    go_enter Try.func17, Try.ntmps17
    go_wp2_with (first | (have g := H0.out; clear g; (with_reducible refine alloc_new 31 #[.int .i64 0, .int .i64 0, .int .i64 0, .int .i64 0, .int .i64 0, .int .i64 0, .int .i64 0] (fun _ => by kernel_rfl) ?_); intro b1 W1 N1; have O1 : Hid (b0 < b1) := Nat.lt_of_lt_of_le H0.out N1.ge; replace c0_0 := cell_later N1.below c0_0; replace c0_1 := cell_later N1.below c0_1; replace c0_2 := cell_later N1.below c0_2; replace c0_3 := cell_later N1.below c0_3; replace c0_4 := cell_later N1.below c0_4; replace c0_5 := cell_later N1.below c0_5; replace c0_6 := cell_later N1.below c0_6; replace y0_0 := frozen_later N1.below H0.out y0_0; replace y0_1 := frozen_later N1.below H0.out y0_1; replace y0_2 := frozen_later N1.below H0.out y0_2; replace y0_3 := frozen_later N1.below H0.out y0_3; replace y0_4 := frozen_later N1.below H0.out y0_4; replace y0_5 := frozen_later N1.below H0.out y0_5; replace y0_6 := frozen_later N1.below H0.out y0_6; replace H0 : Hid (b0 < W1.heap.size) := Nat.lt_of_lt_of_le H0.out N1.below.size; replace B := below_next B N1.below; have H1 : Hid (b1 < W1.heap.size) := N1.lt; have c1_0 : W1.cell? ⟨b1, 0, none⟩ = some (.int .i64 0) := N1.cell 0 _ rfl; have c1_1 : W1.cell? ⟨b1, 1, none⟩ = some (.int .i64 0) := N1.cell 1 _ rfl; have c1_2 : W1.cell? ⟨b1, 2, none⟩ = some (.int .i64 0) := N1.cell 2 _ rfl; have c1_3 : W1.cell? ⟨b1, 3, none⟩ = some (.int .i64 0) := N1.cell 3 _ rfl; have c1_4 : W1.cell? ⟨b1, 4, none⟩ = some (.int .i64 0) := N1.cell 4 _ rfl; have c1_5 : W1.cell? ⟨b1, 5, none⟩ = some (.int .i64 0) := N1.cell 5 _ rfl; have c1_6 : W1.cell? ⟨b1, 6, none⟩ = some (.int .i64 0) := N1.cell 6 _ rfl; have y1_0 : W1.frozen? ⟨b1, 0, none⟩ = false := N1.froz 0; have y1_1 : W1.frozen? ⟨b1, 1, none⟩ = false := N1.froz 1; have y1_2 : W1.frozen? ⟨b1, 2, none⟩ = false := N1.froz 2; have y1_3 : W1.frozen? ⟨b1, 3, none⟩ = false := N1.froz 3; have y1_4 : W1.frozen? ⟨b1, 4, none⟩ = false := N1.froz 4; have y1_5 : W1.frozen? ⟨b1, 5, none⟩ = false := N1.froz 5; have y1_6 : W1.frozen? ⟨b1, 6, none⟩ = false := N1.froz 6; clear N1) | ((with_reducible refine alloc_new 31 #[.int .i64 0, .int .i64 0, .int .i64 0, .int .i64 0, .int .i64 0, .int .i64 0, .int .i64 0] (fun _ => by kernel_rfl) ?_); intro b0 W0 N0; have O0 : Hid (w.heap.size ≤ b0) := N0.ge; have B := N0.below; have H0 : Hid (b0 < W0.heap.size) := N0.lt; have c0_0 : W0.cell? ⟨b0, 0, none⟩ = some (.int .i64 0) := N0.cell 0 _ rfl; have c0_1 : W0.cell? ⟨b0, 1, none⟩ = some (.int .i64 0) := N0.cell 1 _ rfl; have c0_2 : W0.cell? ⟨b0, 2, none⟩ = some (.int .i64 0) := N0.cell 2 _ rfl; have c0_3 : W0.cell? ⟨b0, 3, none⟩ = some (.int .i64 0) := N0.cell 3 _ rfl; have c0_4 : W0.cell? ⟨b0, 4, none⟩ = some (.int .i64 0) := N0.cell 4 _ rfl; have c0_5 : W0.cell? ⟨b0, 5, none⟩ = some (.int .i64 0) := N0.cell 5 _ rfl; have c0_6 : W0.cell? ⟨b0, 6, none⟩ = some (.int .i64 0) := N0.cell 6 _ rfl; have y0_0 : W0.frozen? ⟨b0, 0, none⟩ = false := N0.froz 0; have y0_1 : W0.frozen? ⟨b0, 1, none⟩ = false := N0.froz 1; have y0_2 : W0.frozen? ⟨b0, 2, none⟩ = false := N0.froz 2; have y0_3 : W0.frozen? ⟨b0, 3, none⟩ = false := N0.froz 3; have y0_4 : W0.frozen? ⟨b0, 4, none⟩ = false := N0.froz 4; have y0_5 : W0.frozen? ⟨b0, 5, none⟩ = false := N0.froz 5; have y0_6 : W0.frozen? ⟨b0, 6, none⟩ = false := N0.froz 6; clear N0) | ((with_reducible refine store_box 31 b1 [.int .i64 5, .int .i64 0, .int .i64 0, .int .i64 0, .int .i64 0, .int .i64 0, .int .i64 0] (by simp) (there7 c1_0 c1_1 c1_2 c1_3 c1_4 c1_5 c1_6 y1_0 y1_1 y1_2 y1_3 y1_4 y1_5 y1_6) (by kernel_rfl) (by simp [Value.oneCell']) rfl rfl ?_); intro W1s S1; replace c0_0 := S1.at c0_0 (by have q1 := O1.out; omega); replace c0_1 := S1.at c0_1 (by have q1 := O1.out; omega); replace c0_2 := S1.at c0_2 (by have q1 := O1.out; omega); replace c0_3 := S1.at c0_3 (by have q1 := O1.out; omega); replace c0_4 := S1.at c0_4 (by have q1 := O1.out; omega); replace c0_5 := S1.at c0_5 (by have q1 := O1.out; omega); replace c0_6 := S1.at c0_6 (by have q1 := O1.out; omega); replace y0_0 := S1.fr y0_0; replace y0_1 := S1.fr y0_1; replace y0_2 := S1.fr y0_2; replace y0_3 := S1.fr y0_3; replace y0_4 := S1.fr y0_4; replace y0_5 := S1.fr y0_5; replace y0_6 := S1.fr y0_6; replace H0 : Hid (b0 < W1s.heap.size) := Nat.lt_of_lt_of_le H0.out S1.kept.size; replace c1_0 : W1s.cell? ⟨b1, 0, none⟩ = some (.int .i64 5) := S1.cell 0 _ rfl; replace c1_1 : W1s.cell? ⟨b1, 1, none⟩ = some (.int .i64 0) := S1.cell 1 _ rfl; replace c1_2 : W1s.cell? ⟨b1, 2, none⟩ = some (.int .i64 0) := S1.cell 2 _ rfl; replace c1_3 : W1s.cell? ⟨b1, 3, none⟩ = some (.int .i64 0) := S1.cell 3 _ rfl; replace c1_4 : W1s.cell? ⟨b1, 4, none⟩ = some (.int .i64 0) := S1.cell 4 _ rfl; replace c1_5 : W1s.cell? ⟨b1, 5, none⟩ = some (.int .i64 0) := S1.cell 5 _ rfl; replace c1_6 : W1s.cell? ⟨b1, 6, none⟩ = some (.int .i64 0) := S1.cell 6 _ rfl; replace y1_0 := S1.fr y1_0; replace y1_1 := S1.fr y1_1; replace y1_2 := S1.fr y1_2; replace y1_3 := S1.fr y1_3; replace y1_4 := S1.fr y1_4; replace y1_5 := S1.fr y1_5; replace y1_6 := S1.fr y1_6; replace H1 : Hid (b1 < W1s.heap.size) := Nat.lt_of_lt_of_le H1.out S1.kept.size; replace B := B.trans (S1.kept.below _ (Nat.le_trans O0.out (by have q1 := O1.out; omega)) B.size); clear S1) | fail)
    simp only [en0, Prod.mk.injEq] at HB
    obtain ⟨rfl, rfl, rfl, rfl, rfl, rfl, rfl⟩ := HB
    go_wp2
    refine bodyPost_ret (v := .agg #[.int .i64 5, .int .i64 0, .int .i64 0, .int .i64 0, .int .i64 0, .int .i64 0, .int .i64 0]) (by simp [results, Try.results17, go_sem, c0_0, c0_1, c0_2, c0_3, c0_4, c0_5, c0_6]) rfl ?_
    have KZ : Kept b0 (b0 + 1) W1s (((((((W1s.setCell ⟨b0, 0, none⟩ (.int .i64 5)).setCell ⟨b0, 1, none⟩ (.int .i64 0)).setCell ⟨b0, 2, none⟩ (.int .i64 0)).setCell ⟨b0, 3, none⟩ (.int .i64 0)).setCell ⟨b0, 4, none⟩ (.int .i64 0)).setCell ⟨b0, 5, none⟩ (.int .i64 0)).setCell ⟨b0, 6, none⟩ (.int .i64 0)) := by refine Kept.setCell (Kept.setCell (Kept.setCell (Kept.setCell (Kept.setCell (Kept.setCell (Kept.setCell (Kept.refl _ _ _) ?_ ?_ _) ?_ ?_ _) ?_ ?_ _) ?_ ?_ _) ?_ ?_ _) ?_ ?_ _) ?_ ?_ _ <;> simp
    exact ⟨rfl, B.trans (KZ.below _ O0.out B.size)⟩
  subst h5
  obtain ⟨b, off, rfl, _, _, hbs, g4, _⟩ := h.cells (by omega)
  have G : ∀ k, k < 5 → w.cell? ⟨b, off + k, none⟩ = some (.int .i64 (xs.getD k 0)) := fun k hk => by rw [g4 k (by omega), ints_getD xs k (by omega)]
  have HG : Hid _ := G
  clear G g4
  have hle := h.le
  go_enter Try.func17, Try.ntmps17
  go_wp2_with (first | (have g := H0.out; clear g; (with_reducible refine alloc_new 31 #[.int .i64 0, .int .i64 0, .int .i64 0, .int .i64 0, .int .i64 0, .int .i64 0, .int .i64 0] (fun _ => by kernel_rfl) ?_); intro b1 W1 N1; have O1 : Hid (b0 < b1) := Nat.lt_of_lt_of_le H0.out N1.ge; replace c0_0 := cell_later N1.below c0_0; replace c0_1 := cell_later N1.below c0_1; replace c0_2 := cell_later N1.below c0_2; replace c0_3 := cell_later N1.below c0_3; replace c0_4 := cell_later N1.below c0_4; replace c0_5 := cell_later N1.below c0_5; replace c0_6 := cell_later N1.below c0_6; replace y0_0 := frozen_later N1.below H0.out y0_0; replace y0_1 := frozen_later N1.below H0.out y0_1; replace y0_2 := frozen_later N1.below H0.out y0_2; replace y0_3 := frozen_later N1.below H0.out y0_3; replace y0_4 := frozen_later N1.below H0.out y0_4; replace y0_5 := frozen_later N1.below H0.out y0_5; replace y0_6 := frozen_later N1.below H0.out y0_6; replace H0 : Hid (b0 < W1.heap.size) := Nat.lt_of_lt_of_le H0.out N1.below.size; replace B := below_next B N1.below; have H1 : Hid (b1 < W1.heap.size) := N1.lt; have c1_0 : W1.cell? ⟨b1, 0, none⟩ = some (.int .i64 0) := N1.cell 0 _ rfl; have c1_1 : W1.cell? ⟨b1, 1, none⟩ = some (.int .i64 0) := N1.cell 1 _ rfl; have c1_2 : W1.cell? ⟨b1, 2, none⟩ = some (.int .i64 0) := N1.cell 2 _ rfl; have c1_3 : W1.cell? ⟨b1, 3, none⟩ = some (.int .i64 0) := N1.cell 3 _ rfl; have c1_4 : W1.cell? ⟨b1, 4, none⟩ = some (.int .i64 0) := N1.cell 4 _ rfl; have c1_5 : W1.cell? ⟨b1, 5, none⟩ = some (.int .i64 0) := N1.cell 5 _ rfl; have c1_6 : W1.cell? ⟨b1, 6, none⟩ = some (.int .i64 0) := N1.cell 6 _ rfl; have y1_0 : W1.frozen? ⟨b1, 0, none⟩ = false := N1.froz 0; have y1_1 : W1.frozen? ⟨b1, 1, none⟩ = false := N1.froz 1; have y1_2 : W1.frozen? ⟨b1, 2, none⟩ = false := N1.froz 2; have y1_3 : W1.frozen? ⟨b1, 3, none⟩ = false := N1.froz 3; have y1_4 : W1.frozen? ⟨b1, 4, none⟩ = false := N1.froz 4; have y1_5 : W1.frozen? ⟨b1, 5, none⟩ = false := N1.froz 5; have y1_6 : W1.frozen? ⟨b1, 6, none⟩ = false := N1.froz 6; clear N1) | ((with_reducible refine alloc_new 31 #[.int .i64 0, .int .i64 0, .int .i64 0, .int .i64 0, .int .i64 0, .int .i64 0, .int .i64 0] (fun _ => by kernel_rfl) ?_); intro b0 W0 N0; have O0 : Hid (w.heap.size ≤ b0) := N0.ge; have B := N0.below; have H0 : Hid (b0 < W0.heap.size) := N0.lt; have c0_0 : W0.cell? ⟨b0, 0, none⟩ = some (.int .i64 0) := N0.cell 0 _ rfl; have c0_1 : W0.cell? ⟨b0, 1, none⟩ = some (.int .i64 0) := N0.cell 1 _ rfl; have c0_2 : W0.cell? ⟨b0, 2, none⟩ = some (.int .i64 0) := N0.cell 2 _ rfl; have c0_3 : W0.cell? ⟨b0, 3, none⟩ = some (.int .i64 0) := N0.cell 3 _ rfl; have c0_4 : W0.cell? ⟨b0, 4, none⟩ = some (.int .i64 0) := N0.cell 4 _ rfl; have c0_5 : W0.cell? ⟨b0, 5, none⟩ = some (.int .i64 0) := N0.cell 5 _ rfl; have c0_6 : W0.cell? ⟨b0, 6, none⟩ = some (.int .i64 0) := N0.cell 6 _ rfl; have y0_0 : W0.frozen? ⟨b0, 0, none⟩ = false := N0.froz 0; have y0_1 : W0.frozen? ⟨b0, 1, none⟩ = false := N0.froz 1; have y0_2 : W0.frozen? ⟨b0, 2, none⟩ = false := N0.froz 2; have y0_3 : W0.frozen? ⟨b0, 3, none⟩ = false := N0.froz 3; have y0_4 : W0.frozen? ⟨b0, 4, none⟩ = false := N0.froz 4; have y0_5 : W0.frozen? ⟨b0, 5, none⟩ = false := N0.froz 5; have y0_6 : W0.frozen? ⟨b0, 6, none⟩ = false := N0.froz 6; clear N0) | ((with_reducible refine store_box 31 b1 [.int .i64 5, .int .i64 0, .int .i64 0, .int .i64 0, .int .i64 0, .int .i64 0, .int .i64 0] (by simp) (there7 c1_0 c1_1 c1_2 c1_3 c1_4 c1_5 c1_6 y1_0 y1_1 y1_2 y1_3 y1_4 y1_5 y1_6) (by kernel_rfl) (by simp [Value.oneCell']) rfl rfl ?_); intro W1s S1; replace c0_0 := S1.at c0_0 (by have q1 := O1.out; omega); replace c0_1 := S1.at c0_1 (by have q1 := O1.out; omega); replace c0_2 := S1.at c0_2 (by have q1 := O1.out; omega); replace c0_3 := S1.at c0_3 (by have q1 := O1.out; omega); replace c0_4 := S1.at c0_4 (by have q1 := O1.out; omega); replace c0_5 := S1.at c0_5 (by have q1 := O1.out; omega); replace c0_6 := S1.at c0_6 (by have q1 := O1.out; omega); replace y0_0 := S1.fr y0_0; replace y0_1 := S1.fr y0_1; replace y0_2 := S1.fr y0_2; replace y0_3 := S1.fr y0_3; replace y0_4 := S1.fr y0_4; replace y0_5 := S1.fr y0_5; replace y0_6 := S1.fr y0_6; replace H0 : Hid (b0 < W1s.heap.size) := Nat.lt_of_lt_of_le H0.out S1.kept.size; replace c1_0 : W1s.cell? ⟨b1, 0, none⟩ = some (.int .i64 5) := S1.cell 0 _ rfl; replace c1_1 : W1s.cell? ⟨b1, 1, none⟩ = some (.int .i64 0) := S1.cell 1 _ rfl; replace c1_2 : W1s.cell? ⟨b1, 2, none⟩ = some (.int .i64 0) := S1.cell 2 _ rfl; replace c1_3 : W1s.cell? ⟨b1, 3, none⟩ = some (.int .i64 0) := S1.cell 3 _ rfl; replace c1_4 : W1s.cell? ⟨b1, 4, none⟩ = some (.int .i64 0) := S1.cell 4 _ rfl; replace c1_5 : W1s.cell? ⟨b1, 5, none⟩ = some (.int .i64 0) := S1.cell 5 _ rfl; replace c1_6 : W1s.cell? ⟨b1, 6, none⟩ = some (.int .i64 0) := S1.cell 6 _ rfl; replace y1_0 := S1.fr y1_0; replace y1_1 := S1.fr y1_1; replace y1_2 := S1.fr y1_2; replace y1_3 := S1.fr y1_3; replace y1_4 := S1.fr y1_4; replace y1_5 := S1.fr y1_5; replace y1_6 := S1.fr y1_6; replace H1 : Hid (b1 < W1s.heap.size) := Nat.lt_of_lt_of_le H1.out S1.kept.size; replace B := B.trans (S1.kept.below _ (Nat.le_trans O0.out (by have q1 := O1.out; omega)) B.size); clear S1))
  go_loopw [4] (fun i wr => ∃ k : Nat, k ≤ 5 ∧ i = .int .i64 k ∧ Hid (∀ j, j < k → wordB (xs.getD j 0) = true) ∧ wr = W1s) (fun i _ => 5 - (intOf i).toNat)
  case atStart => exact ⟨0, Nat.zero_le _, rfl, fun j hj => absurd hj (Nat.not_lt_zero _), rfl⟩
  case round =>
    obtain ⟨k, hk, rfl, HW, rfl⟩ := hrel
    by_cases hlt : k < 5
    · have hlk : (k : Int) < 5 := by omega
      have e0 := cell_later B (HG.out k hlt)
      have HX := HG
      obtain ⟨d, hd⟩ : ∃ d, wordB (xs.getD k 0) = d := ⟨_, rfl⟩
      have HD : Hid _ := hd
      clear hd
      generalize hx : xs.getD k 0 = xk at *
      go_wp2_with fail
      refine (l1Word_is xk _ d HD.out).mono ?_
      rintro e W ⟨rfl, rfl⟩
      cases d with
      | true =>
        have HW' : Hid (∀ j, j < k + 1 → wordB (xs.getD j 0) = true) := fun j hj => by
          rcases Nat.lt_succ_iff_lt_or_eq.1 hj with q | q
          · exact HW.out j q
          · rw [q, hx]; exact HD.out
        clear HW HD
        go_wp2
        go_roundw
        case rel => exact ⟨k + 1, by omega, by go_num, HW', by first | rfl | trivial⟩
        case measure => simp [intOf]; omega
      | false =>
        have HB : (5, en0) = (cd, y0, y1, y2, y3, y4, y5) := by rw [← HR.out, unER_word (k := k) (by omega) (by rw [hx]; exact HD.out)]
        clear HR HD HW
        simp only [en0, Prod.mk.injEq] at HB
        obtain ⟨rfl, rfl, rfl, rfl, rfl, rfl, rfl⟩ := HB
        go_wp2
        refine bodyPost_ret (v := .agg #[.int .i64 5, .int .i64 0, .int .i64 0, .int .i64 0, .int .i64 0, .int .i64 0, .int .i64 0]) (by simp [results, Try.results17, go_sem, c0_0, c0_1, c0_2, c0_3, c0_4, c0_5, c0_6]) rfl ?_
        have KZ : Kept b0 (b0 + 1) W (((((((W.setCell ⟨b0, 0, none⟩ (.int .i64 5)).setCell ⟨b0, 1, none⟩ (.int .i64 0)).setCell ⟨b0, 2, none⟩ (.int .i64 0)).setCell ⟨b0, 3, none⟩ (.int .i64 0)).setCell ⟨b0, 4, none⟩ (.int .i64 0)).setCell ⟨b0, 5, none⟩ (.int .i64 0)).setCell ⟨b0, 6, none⟩ (.int .i64 0)) := by refine Kept.setCell (Kept.setCell (Kept.setCell (Kept.setCell (Kept.setCell (Kept.setCell (Kept.setCell (Kept.refl _ _ _) ?_ ?_ _) ?_ ?_ _) ?_ ?_ _) ?_ ?_ _) ?_ ?_ _) ?_ ?_ _) ?_ ?_ _ <;> simp
        exact ⟨rfl, B.trans (KZ.below _ O0.out B.size)⟩
    · obtain rfl : k = 5 := by omega
      have HE : Hid _ := unER_all hxl HW.out
      have W2 := word_of (HW.out 2 (by omega))
      have e0 := HG.out 0 (by omega)
      have e1 := HG.out 1 (by omega)
      have e2 := HG.out 2 (by omega)
      have e3 := HG.out 3 (by omega)
      have e4 := HG.out 4 (by omega)
      unfold unX at HE
      clear HW HG
      generalize xs.getD 0 0 = x0 at *
      generalize xs.getD 1 0 = x1 at *
      generalize xs.getD 2 0 = x2 at *
      generalize xs.getD 3 0 = x3 at *
      generalize xs.getD 4 0 = x4 at *
      obtain ⟨w1, w2⟩ := wrap_word W2
      obtain ⟨cd', hcd⟩ : ∃ cd', enFault (x0, x1, x2.tdiv 256, x2.tmod 256, x3, x4) = cd' := ⟨_, rfl⟩
      rw [hcd] at HE
      have HC : Hid _ := hcd
      clear hcd W2
      have D : Below wr.heap.size wr wr.drew := (Below.refl _ _).drew
      simp only [Nat.add_zero] at e0
      replace e0 := cell_later D (cell_later B e0)
      replace e1 := cell_later D (cell_later B e1)
      replace e2 := cell_later D (cell_later B e2)
      replace e3 := cell_later D (cell_later B e3)
      replace e4 := cell_later D (cell_later B e4)
      clear D
      go_wp2_with fail
      go_region_held3 (fun w' => w'.cell? ⟨b, off, none⟩ = some (.int .i64 x0) ∧ w'.cell? ⟨b, off + 1, none⟩ = some (.int .i64 x1) ∧ w'.cell? ⟨b, off + 2, none⟩ = some (.int .i64 x2) ∧ w'.cell? ⟨b, off + 3, none⟩ = some (.int .i64 x3) ∧ w'.cell? ⟨b, off + 4, none⟩ = some (.int .i64 x4)) (first | with_reducible exact ⟨e0, e1, e2, e3, e4⟩ | exact ⟨cell_later ((Below.refl _ _).alloc (Nat.le_refl _) _) e0, cell_later ((Below.refl _ _).alloc (Nat.le_refl _) _) e1, cell_later ((Below.refl _ _).alloc (Nat.le_refl _) _) e2, cell_later ((Below.refl _ _).alloc (Nat.le_refl _) _) e3, cell_later ((Below.refl _ _).alloc (Nat.le_refl _) _) e4⟩) (fail)
      have A : Below wr.heap.size wr (wr.alloc (.cells #[.int .i64 x0, .int .i64 x1, .int .i64 (x2.tdiv 256), .int .i64 (x2.tmod 256), .int .i64 x3, .int .i64 x4] 29)).drew := ((Below.refl _ _).alloc (Nat.le_refl _) _).drew
      have n0 : (wr.alloc (.cells #[.int .i64 x0, .int .i64 x1, .int .i64 (x2.tdiv 256), .int .i64 (x2.tmod 256), .int .i64 x3, .int .i64 x4] 29)).drew.cell? ⟨wr.heap.size, 0, none⟩ = some (.int .i64 x0) := by simp
      have n1 : (wr.alloc (.cells #[.int .i64 x0, .int .i64 x1, .int .i64 (x2.tdiv 256), .int .i64 (x2.tmod 256), .int .i64 x3, .int .i64 x4] 29)).drew.cell? ⟨wr.heap.size, 1, none⟩ = some (.int .i64 x1) := by simp
      have n2 : (wr.alloc (.cells #[.int .i64 x0, .int .i64 x1, .int .i64 (x2.tdiv 256), .int .i64 (x2.tmod 256), .int .i64 x3, .int .i64 x4] 29)).drew.cell? ⟨wr.heap.size, 2, none⟩ = some (.int .i64 (x2.tdiv 256)) := by simp
      have n3 : (wr.alloc (.cells #[.int .i64 x0, .int .i64 x1, .int .i64 (x2.tdiv 256), .int .i64 (x2.tmod 256), .int .i64 x3, .int .i64 x4] 29)).drew.cell? ⟨wr.heap.size, 3, none⟩ = some (.int .i64 (x2.tmod 256)) := by simp
      have n4 : (wr.alloc (.cells #[.int .i64 x0, .int .i64 x1, .int .i64 (x2.tdiv 256), .int .i64 (x2.tmod 256), .int .i64 x3, .int .i64 x4] 29)).drew.cell? ⟨wr.heap.size, 4, none⟩ = some (.int .i64 x3) := by simp
      have n5 : (wr.alloc (.cells #[.int .i64 x0, .int .i64 x1, .int .i64 (x2.tdiv 256), .int .i64 (x2.tmod 256), .int .i64 x3, .int .i64 x4] 29)).drew.cell? ⟨wr.heap.size, 5, none⟩ = some (.int .i64 x4) := by simp
      clear e0 e1 e2 e3 e4
      clear y1_0
      clear y1_1
      clear y1_2
      clear y1_3
      clear y1_4
      clear y1_5
      clear y1_6
      replace c0_0 := cell_later A c0_0
      replace c1_0 := cell_later A c1_0
      replace y0_0 := frozen_later A H0.out y0_0
      replace c0_1 := cell_later A c0_1
      replace c1_1 := cell_later A c1_1
      replace y0_1 := frozen_later A H0.out y0_1
      replace c0_2 := cell_later A c0_2
      replace c1_2 := cell_later A c1_2
      replace y0_2 := frozen_later A H0.out y0_2
      replace c0_3 := cell_later A c0_3
      replace c1_3 := cell_later A c1_3
      replace y0_3 := frozen_later A H0.out y0_3
      replace c0_4 := cell_later A c0_4
      replace c1_4 := cell_later A c1_4
      replace y0_4 := frozen_later A H0.out y0_4
      replace c0_5 := cell_later A c0_5
      replace c1_5 := cell_later A c1_5
      replace y0_5 := frozen_later A H0.out y0_5
      replace c0_6 := cell_later A c0_6
      replace c1_6 := cell_later A c1_6
      replace y0_6 := frozen_later A H0.out y0_6
      replace H0 : Hid _ := Nat.lt_of_lt_of_le H0.out A.size
      replace B := below_next B A
      clear A
      generalize wr.heap.size = b2 at *
      generalize (wr.alloc (.cells #[.int .i64 x0, .int .i64 x1, .int .i64 (x2.tdiv 256), .int .i64 (x2.tmod 256), .int .i64 x3, .int .i64 x4] 29)).drew = W5 at *
      generalize x2.tdiv 256 = q1 at *
      generalize x2.tmod 256 = q2 at *
      go_wp2_with fail
      refine (specEF_is x0 x1 q1 q2 x3 x4 _ cd' HC.out).mono ?_
      rintro e w6 ⟨rfl, B6⟩
      replace c0_0 := cell_later B6 c0_0
      replace c1_0 := cell_later B6 c1_0
      replace y0_0 := frozen_later B6 H0.out y0_0
      replace c0_1 := cell_later B6 c0_1
      replace c1_1 := cell_later B6 c1_1
      replace y0_1 := frozen_later B6 H0.out y0_1
      replace c0_2 := cell_later B6 c0_2
      replace c1_2 := cell_later B6 c1_2
      replace y0_2 := frozen_later B6 H0.out y0_2
      replace c0_3 := cell_later B6 c0_3
      replace c1_3 := cell_later B6 c1_3
      replace y0_3 := frozen_later B6 H0.out y0_3
      replace c0_4 := cell_later B6 c0_4
      replace c1_4 := cell_later B6 c1_4
      replace y0_4 := frozen_later B6 H0.out y0_4
      replace c0_5 := cell_later B6 c0_5
      replace c1_5 := cell_later B6 c1_5
      replace y0_5 := frozen_later B6 H0.out y0_5
      replace c0_6 := cell_later B6 c0_6
      replace c1_6 := cell_later B6 c1_6
      replace y0_6 := frozen_later B6 H0.out y0_6
      replace n0 := cell_later B6 n0
      replace n1 := cell_later B6 n1
      replace n2 := cell_later B6 n2
      replace n3 := cell_later B6 n3
      replace n4 := cell_later B6 n4
      replace n5 := cell_later B6 n5
      replace H0 : Hid _ := Nat.lt_of_lt_of_le H0.out B6.size
      replace B := below_next B B6
      clear B6
      by_cases z : cd' = 0
      · subst z
        have HB : (0, x0, x1, q1, q2, x3, x4) = (cd, y0, y1, y2, y3, y4, y5) := by rw [← HR.out, HE.out, if_pos rfl]
        clear HR HE HC
        simp only [Prod.mk.injEq] at HB
        obtain ⟨rfl, rfl, rfl, rfl, rfl, rfl, rfl⟩ := HB
        go_wp2
        refine bodyPost_ret (v := .agg #[.int .i64 0, .int .i64 x0, .int .i64 x1, .int .i64 q1, .int .i64 q2, .int .i64 x3, .int .i64 x4]) (by simp [results, Try.results17, go_sem, c0_0, c0_1, c0_2, c0_3, c0_4, c0_5, c0_6]) rfl ?_
        have KZ : Kept b0 (b0 + 1) w6 (((((((w6.setCell ⟨b0, 0, none⟩ (.int .i64 0)).setCell ⟨b0, 1, none⟩ (.int .i64 x0)).setCell ⟨b0, 2, none⟩ (.int .i64 x1)).setCell ⟨b0, 3, none⟩ (.int .i64 q1)).setCell ⟨b0, 4, none⟩ (.int .i64 q2)).setCell ⟨b0, 5, none⟩ (.int .i64 x3)).setCell ⟨b0, 6, none⟩ (.int .i64 x4)) := by refine Kept.setCell (Kept.setCell (Kept.setCell (Kept.setCell (Kept.setCell (Kept.setCell (Kept.setCell (Kept.refl _ _ _) ?_ ?_ _) ?_ ?_ _) ?_ ?_ _) ?_ ?_ _) ?_ ?_ _) ?_ ?_ _) ?_ ?_ _ <;> simp
        exact ⟨rfl, B.trans (KZ.below _ O0.out B.size)⟩
      · have hz : (cd' != 0) = true := by simp [z]
        have HB : (5, en0) = (cd, y0, y1, y2, y3, y4, y5) := by rw [← HR.out, HE.out, if_neg z]
        clear HR HE HC
        simp only [en0, Prod.mk.injEq] at HB
        obtain ⟨rfl, rfl, rfl, rfl, rfl, rfl, rfl⟩ := HB
        go_wp2
        refine bodyPost_ret (v := .agg #[.int .i64 5, .int .i64 0, .int .i64 0, .int .i64 0, .int .i64 0, .int .i64 0, .int .i64 0]) (by simp [results, Try.results17, go_sem, c0_0, c0_1, c0_2, c0_3, c0_4, c0_5, c0_6]) rfl ?_
        have KZ : Kept b0 (b0 + 1) w6 (((((((w6.setCell ⟨b0, 0, none⟩ (.int .i64 5)).setCell ⟨b0, 1, none⟩ (.int .i64 0)).setCell ⟨b0, 2, none⟩ (.int .i64 0)).setCell ⟨b0, 3, none⟩ (.int .i64 0)).setCell ⟨b0, 4, none⟩ (.int .i64 0)).setCell ⟨b0, 5, none⟩ (.int .i64 0)).setCell ⟨b0, 6, none⟩ (.int .i64 0)) := by refine Kept.setCell (Kept.setCell (Kept.setCell (Kept.setCell (Kept.setCell (Kept.setCell (Kept.setCell (Kept.refl _ _ _) ?_ ?_ _) ?_ ?_ _) ?_ ?_ _) ?_ ?_ _) ?_ ?_ _) ?_ ?_ _) ?_ ?_ _ <;> simp
        exact ⟨rfl, B.trans (KZ.below _ O0.out B.size)⟩

end Go.Proofs.Ytpbhiednmnolgaa
