/- Chapter 7: chunks of words, by both. -/
import Derived.Test.YtcbfmjanjciodaaEX
import Derived.Test.YtcbfmjanjciodaaYN
import Derived.Test.YtcbfmjanjciodaaCLI
import Derived.Test.YtcbfmjanjciodaaJ2
import Derived.Test.YtcbfmjanjciodaaP1
import Derived.Test.YtcbfmjanjciodaaYE
import Derived.Test.YtcbfmjanjciodaaPPl
namespace Go.Proofs.Ytcbfmjanjciodaa
open Go.RowKit

/-- a code and a list of one's own -/
def IntsR (w w' : World) (e : Ending) (cd : Int) (xs : List Int) : Prop := ∃ a n c, e = .returned (.agg #[.int .i64 cd, .slice a n c]) ∧ RowAt w' true w.heap.size w'.heap.size 1 a n c (ints xs) ∧ Below w.heap.size w w'
def chunkC (xs : List Int) (a k : Int) : Int := if 300 < xs.length then 2 else if (0 ≤ a ∧ a ≤ xs.length) ∧ (1 ≤ k ∧ k ≤ 20) then 0 else 3
def chunkL (xs : List Int) (a k : Int) : List Int := if chunkC xs a k = 0 then (xs.drop a.toNat).take (min (a.toNat + k.toNat) xs.length - a.toNat) else []
theorem l1Min_is (a b : Int) (w : World) (d : Int) (hd : min a b = d) : Calls Try.prog 124 #[.int .i64 a, .int .i64 b] w fun e w' => e = .returned (.int .i64 d) ∧ w' = w := by
  have HD : Hid _ := hd
  clear hd
  go_enter Try.func124, Try.ntmps124
  by_cases h : a < b
  · have HE : Hid (a = d) := by show _ = _; have := HD.out; omega
    go_wp2
    go_ret
    exact ⟨ret_int HE.out, rfl⟩
  · have HE : Hid (b = d) := by show _ = _; have := HD.out; omega
    go_wp2
    go_ret
    exact ⟨ret_int HE.out, rfl⟩
set_option maxRecDepth 20000 in
set_option maxHeartbeats 4000000 in
theorem implChunk_is {o : Bool} {l u : Nat} (b off n c : Nat) (xs : List Int) (w : World) (h : RowAt w o l u 1 (some ⟨b, off, none⟩) n c (ints xs)) (a k cd : Int) (ys : List Int) (hc : chunkC xs a k = cd) (hx : chunkL xs a k = ys) : Calls Try.prog 61 #[.slice (some ⟨b, off, none⟩) n c, .int .i64 a, .int .i64 k] w fun e w' => IntsR w w' e cd ys := by
  have hxl := h.nInts
  have hle := h.le
  have HC : Hid _ := hc
  have HX : Hid _ := hx
  clear hc hx
  by_cases h3 : 300 < n
  · have h3i : (300 : Int) < (n : Int) := by omega
    have e0 : cd = 2 := by rw [← HC.out]; exact if_pos (by omega)
    subst e0
    have e1 : ys = [] := by rw [← HX.out]; unfold chunkL; rw [HC.out]; rfl
    subst e1
    go_enter Try.func61, Try.ntmps61
    go_wp2_with (first | ((with_reducible refine alloc_new 92 #[.int .i64 0, .slice none 0 0] (fun _ => by kernel_rfl) ?_); intro b0 W0 N0; have O0 : Hid (w.heap.size ≤ b0) := N0.ge; have B := N0.below; have H0 : Hid (b0 < W0.heap.size) := N0.lt; have c0_0 : W0.cell? ⟨b0, 0, none⟩ = some (.int .i64 0) := N0.cell 0 _ rfl; have c0_1 : W0.cell? ⟨b0, 1, none⟩ = some (.slice none 0 0) := N0.cell 1 _ rfl; have y0_0 : W0.frozen? ⟨b0, 0, none⟩ = false := N0.froz 0; have y0_1 : W0.frozen? ⟨b0, 1, none⟩ = false := N0.froz 1; clear N0) | fail)
    go_wp2
    refine bodyPost_ret (v := .agg #[.int .i64 2, .slice none 0 0]) (by simp [results, Try.results61, go_sem, c0_0, c0_1]) rfl ?_
    have KZ : Kept b0 (b0 + 1) W0 ((W0.setCell ⟨b0, 0, none⟩ (.int .i64 2)).setCell ⟨b0, 1, none⟩ (.slice none 0 0)) := by refine Kept.setCell (Kept.setCell (Kept.refl _ _ _) ?_ ?_ _) ?_ ?_ _ <;> simp
    exact ⟨_, _, _, rfl, RowAt.nil _ _ _ _ _, B.trans (KZ.below _ (Nat.le_trans O0.out (Nat.le_refl _)) B.size)⟩
  have h3i : ¬ (300 : Int) < (n : Int) := by omega
  by_cases ok : (0 ≤ a ∧ a ≤ xs.length) ∧ (1 ≤ k ∧ k ≤ 20)
  rotate_left 1
  · have e0 : cd = 3 := by rw [← HC.out]; unfold chunkC; rw [if_neg (by omega), if_neg ok]
    subst e0
    have e1 : ys = [] := by rw [← HX.out]; unfold chunkL; rw [HC.out]; rfl
    subst e1
    by_cases q1 : a < 0
    · have d1 : decide (a < 0) = true := decide_eq_true q1
      go_enter Try.func61, Try.ntmps61
      go_wp2_with (first | ((with_reducible refine alloc_new 92 #[.int .i64 0, .slice none 0 0] (fun _ => by kernel_rfl) ?_); intro b0 W0 N0; have O0 : Hid (w.heap.size ≤ b0) := N0.ge; have B := N0.below; have H0 : Hid (b0 < W0.heap.size) := N0.lt; have c0_0 : W0.cell? ⟨b0, 0, none⟩ = some (.int .i64 0) := N0.cell 0 _ rfl; have c0_1 : W0.cell? ⟨b0, 1, none⟩ = some (.slice none 0 0) := N0.cell 1 _ rfl; have y0_0 : W0.frozen? ⟨b0, 0, none⟩ = false := N0.froz 0; have y0_1 : W0.frozen? ⟨b0, 1, none⟩ = false := N0.froz 1; clear N0) | fail)
      go_wp2
      refine bodyPost_ret (v := .agg #[.int .i64 3, .slice none 0 0]) (by simp [results, Try.results61, go_sem, c0_0, c0_1]) rfl ?_
      have KZ : Kept b0 (b0 + 1) W0 ((W0.setCell ⟨b0, 0, none⟩ (.int .i64 3)).setCell ⟨b0, 1, none⟩ (.slice none 0 0)) := by refine Kept.setCell (Kept.setCell (Kept.refl _ _ _) ?_ ?_ _) ?_ ?_ _ <;> simp
      exact ⟨_, _, _, rfl, RowAt.nil _ _ _ _ _, B.trans (KZ.below _ (Nat.le_trans O0.out (Nat.le_refl _)) B.size)⟩
    have d1 : decide (a < 0) = false := decide_eq_false q1
    by_cases q2 : (n : Int) < a
    · have d2 : decide ((n : Int) < a) = true := decide_eq_true q2
      go_enter Try.func61, Try.ntmps61
      go_wp2_with (first | ((with_reducible refine alloc_new 92 #[.int .i64 0, .slice none 0 0] (fun _ => by kernel_rfl) ?_); intro b0 W0 N0; have O0 : Hid (w.heap.size ≤ b0) := N0.ge; have B := N0.below; have H0 : Hid (b0 < W0.heap.size) := N0.lt; have c0_0 : W0.cell? ⟨b0, 0, none⟩ = some (.int .i64 0) := N0.cell 0 _ rfl; have c0_1 : W0.cell? ⟨b0, 1, none⟩ = some (.slice none 0 0) := N0.cell 1 _ rfl; have y0_0 : W0.frozen? ⟨b0, 0, none⟩ = false := N0.froz 0; have y0_1 : W0.frozen? ⟨b0, 1, none⟩ = false := N0.froz 1; clear N0) | fail)
      go_wp2
      refine bodyPost_ret (v := .agg #[.int .i64 3, .slice none 0 0]) (by simp [results, Try.results61, go_sem, c0_0, c0_1]) rfl ?_
      have KZ : Kept b0 (b0 + 1) W0 ((W0.setCell ⟨b0, 0, none⟩ (.int .i64 3)).setCell ⟨b0, 1, none⟩ (.slice none 0 0)) := by refine Kept.setCell (Kept.setCell (Kept.refl _ _ _) ?_ ?_ _) ?_ ?_ _ <;> simp
      exact ⟨_, _, _, rfl, RowAt.nil _ _ _ _ _, B.trans (KZ.below _ (Nat.le_trans O0.out (Nat.le_refl _)) B.size)⟩
    have d2 : decide ((n : Int) < a) = false := decide_eq_false q2
    by_cases q3 : k < 1
    · have d3 : decide (k < 1) = true := decide_eq_true q3
      go_enter Try.func61, Try.ntmps61
      go_wp2_with (first | ((with_reducible refine alloc_new 92 #[.int .i64 0, .slice none 0 0] (fun _ => by kernel_rfl) ?_); intro b0 W0 N0; have O0 : Hid (w.heap.size ≤ b0) := N0.ge; have B := N0.below; have H0 : Hid (b0 < W0.heap.size) := N0.lt; have c0_0 : W0.cell? ⟨b0, 0, none⟩ = some (.int .i64 0) := N0.cell 0 _ rfl; have c0_1 : W0.cell? ⟨b0, 1, none⟩ = some (.slice none 0 0) := N0.cell 1 _ rfl; have y0_0 : W0.frozen? ⟨b0, 0, none⟩ = false := N0.froz 0; have y0_1 : W0.frozen? ⟨b0, 1, none⟩ = false := N0.froz 1; clear N0) | fail)
      go_wp2
      refine bodyPost_ret (v := .agg #[.int .i64 3, .slice none 0 0]) (by simp [results, Try.results61, go_sem, c0_0, c0_1]) rfl ?_
      have KZ : Kept b0 (b0 + 1) W0 ((W0.setCell ⟨b0, 0, none⟩ (.int .i64 3)).setCell ⟨b0, 1, none⟩ (.slice none 0 0)) := by refine Kept.setCell (Kept.setCell (Kept.refl _ _ _) ?_ ?_ _) ?_ ?_ _ <;> simp
      exact ⟨_, _, _, rfl, RowAt.nil _ _ _ _ _, B.trans (KZ.below _ (Nat.le_trans O0.out (Nat.le_refl _)) B.size)⟩
    have d3 : decide (k < 1) = false := decide_eq_false q3
    have d4 : decide (20 < k) = true := decide_eq_true (by omega)
    go_enter Try.func61, Try.ntmps61
    go_wp2_with (first | ((with_reducible refine alloc_new 92 #[.int .i64 0, .slice none 0 0] (fun _ => by kernel_rfl) ?_); intro b0 W0 N0; have O0 : Hid (w.heap.size ≤ b0) := N0.ge; have B := N0.below; have H0 : Hid (b0 < W0.heap.size) := N0.lt; have c0_0 : W0.cell? ⟨b0, 0, none⟩ = some (.int .i64 0) := N0.cell 0 _ rfl; have c0_1 : W0.cell? ⟨b0, 1, none⟩ = some (.slice none 0 0) := N0.cell 1 _ rfl; have y0_0 : W0.frozen? ⟨b0, 0, none⟩ = false := N0.froz 0; have y0_1 : W0.frozen? ⟨b0, 1, none⟩ = false := N0.froz 1; clear N0) | fail)
    go_wp2
    refine bodyPost_ret (v := .agg #[.int .i64 3, .slice none 0 0]) (by simp [results, Try.results61, go_sem, c0_0, c0_1]) rfl ?_
    have KZ : Kept b0 (b0 + 1) W0 ((W0.setCell ⟨b0, 0, none⟩ (.int .i64 3)).setCell ⟨b0, 1, none⟩ (.slice none 0 0)) := by refine Kept.setCell (Kept.setCell (Kept.refl _ _ _) ?_ ?_ _) ?_ ?_ _ <;> simp
    exact ⟨_, _, _, rfl, RowAt.nil _ _ _ _ _, B.trans (KZ.below _ (Nat.le_trans O0.out (Nat.le_refl _)) B.size)⟩
  have e0 : cd = 0 := by rw [← HC.out]; unfold chunkC; rw [if_neg (by omega), if_pos ok]
  subst e0
  obtain ⟨i, rfl⟩ : ∃ i : Nat, a = i := ⟨a.toNat, by omega⟩
  obtain ⟨j, rfl⟩ : ∃ j : Nat, k = j := ⟨k.toNat, by omega⟩
  have e1 : ys = (xs.drop i).take (min (i + j) n - i) := by rw [← HX.out]; unfold chunkL; rw [HC.out, if_pos rfl]; simp [hxl]
  have o1 : i ≤ n := by omega
  have o2 : 1 ≤ j := by omega
  have o3 : j ≤ 20 := by omega
  clear ok
  have hw : IntKind.i64.wrap ((i : Int) + (j : Int)) = (i : Int) + (j : Int) := wrapI_same _ (by omega)
  obtain ⟨t, ht⟩ : ∃ t, min (i + j) n = t := ⟨_, rfl⟩
  have t1 : i ≤ t := by omega
  have t2 : t ≤ n := by omega
  have t3 : t ≤ c := by have := h.le; omega
  have HT : Hid _ := ht
  rw [ht] at e1
  have E1 : Hid _ := e1
  clear ht e1
  have s1 : (i : Int) ≤ (t : Int) := by omega
  have s2 : (t : Int) ≤ (c : Int) := by omega
  have d1 : decide ((i : Int) < 0) = false := decide_eq_false (by omega)
  have d2 : decide ((n : Int) < (i : Int)) = false := decide_eq_false (by omega)
  have d3 : decide ((j : Int) < 1) = false := decide_eq_false (by omega)
  have d4 : decide ((20 : Int) < (j : Int)) = false := decide_eq_false (by omega)
  by_cases hic : i = c
  · obtain rfl : i = n := by omega
    obtain rfl : i = c := hic
    obtain rfl : i = t := by omega
    have RR : RowAt w o l u 1 (some ⟨b, off, none⟩) 0 0 (ints []) := ⟨rfl, Nat.le_refl _, fun hz => absurd rfl hz⟩
    have E2 : Hid (ys = []) := by show _ = _; rw [E1.out, Nat.sub_self]; rfl
    clear E1
    have hm : ¬ (i : Int) + (j : Int) ≤ (i : Int) := by omega
    have hm2 : (i : Int) < (i : Int) + (j : Int) := by omega
    go_enter Try.func61, Try.ntmps61
    go_wp2_with (first | ((with_reducible refine alloc_new 92 #[.int .i64 0, .slice none 0 0] (fun _ => by kernel_rfl) ?_); intro b0 W0 N0; have O0 : Hid (w.heap.size ≤ b0) := N0.ge; have B := N0.below; have H0 : Hid (b0 < W0.heap.size) := N0.lt; have c0_0 : W0.cell? ⟨b0, 0, none⟩ = some (.int .i64 0) := N0.cell 0 _ rfl; have c0_1 : W0.cell? ⟨b0, 1, none⟩ = some (.slice none 0 0) := N0.cell 1 _ rfl; have y0_0 : W0.frozen? ⟨b0, 0, none⟩ = false := N0.froz 0; have y0_1 : W0.frozen? ⟨b0, 1, none⟩ = false := N0.froz 1; clear N0) | fail)
    refine (cloneI_is (some ⟨b, off, none⟩) (0) (0) _ _ (RR.below B) (by omega)).mono ?_
    rintro e w1 ⟨ra, rc, rfl, R1, BB⟩
    have G : Hid (b0 + 1 ≤ W0.heap.size) := H0.out
    have GL : Hid (w.heap.size ≤ W0.heap.size) := B.size
    replace c0_0 := cell_later BB c0_0
    replace c0_1 := cell_later BB c0_1
    replace y0_0 := frozen_later BB H0.out y0_0
    replace y0_1 := frozen_later BB H0.out y0_1
    replace H0 : Hid (b0 < w1.heap.size) := Nat.lt_of_lt_of_le H0.out BB.size
    replace B := below_next B BB
    clear BB
    go_wp2
    refine bodyPost_ret (v := .agg #[.int .i64 0, .slice ra (0) rc]) (by simp [results, Try.results61, go_sem, c0_0, c0_1]) rfl ?_
    have KZ : Kept b0 (b0 + 1) w1 ((w1.setCell ⟨b0, 0, none⟩ (.int .i64 0)).setCell ⟨b0, 1, none⟩ (.slice ra (0) rc)) := by refine Kept.setCell (Kept.setCell (Kept.refl _ _ _) ?_ ?_ _) ?_ ?_ _ <;> simp
    have s := KZ.size
    exact ⟨_, _, _, rfl, by rw [E2.out]; exact (R1.kept KZ (Or.inr G.out)).widen GL.out s, B.trans (KZ.below _ O0.out B.size)⟩
  · have hci : ¬ (c - i = 0) := by omega
    have RR : RowAt w o l u 1 (some ⟨b, off + i, none⟩) (t - i) (c - i) (ints ((xs.drop i).take (t - i))) := h.sub (by omega) (by omega)
    have E2 : Hid _ := E1.out
    have hicI : ¬ (i : Int) = (c : Int) := by omega
    by_cases hm : (i : Int) + (j : Int) ≤ (n : Int)
    · have hm2 : ¬ (n : Int) < (i : Int) + (j : Int) := by omega
      have hij : (i : Int) + (j : Int) = (t : Int) := by have := HT.out; omega
      go_enter Try.func61, Try.ntmps61
      go_wp2_with (first | ((with_reducible refine alloc_new 92 #[.int .i64 0, .slice none 0 0] (fun _ => by kernel_rfl) ?_); intro b0 W0 N0; have O0 : Hid (w.heap.size ≤ b0) := N0.ge; have B := N0.below; have H0 : Hid (b0 < W0.heap.size) := N0.lt; have c0_0 : W0.cell? ⟨b0, 0, none⟩ = some (.int .i64 0) := N0.cell 0 _ rfl; have c0_1 : W0.cell? ⟨b0, 1, none⟩ = some (.slice none 0 0) := N0.cell 1 _ rfl; have y0_0 : W0.frozen? ⟨b0, 0, none⟩ = false := N0.froz 0; have y0_1 : W0.frozen? ⟨b0, 1, none⟩ = false := N0.froz 1; clear N0) | fail)
      refine (cloneI_is (some ⟨b, off + i, none⟩) (t - i) (c - i) _ _ (RR.below B) (by omega)).mono ?_
      rintro e w1 ⟨ra, rc, rfl, R1, BB⟩
      have G : Hid (b0 + 1 ≤ W0.heap.size) := H0.out
      have GL : Hid (w.heap.size ≤ W0.heap.size) := B.size
      replace c0_0 := cell_later BB c0_0
      replace c0_1 := cell_later BB c0_1
      replace y0_0 := frozen_later BB H0.out y0_0
      replace y0_1 := frozen_later BB H0.out y0_1
      replace H0 : Hid (b0 < w1.heap.size) := Nat.lt_of_lt_of_le H0.out BB.size
      replace B := below_next B BB
      clear BB
      go_wp2
      refine bodyPost_ret (v := .agg #[.int .i64 0, .slice ra (t - i) rc]) (by simp [results, Try.results61, go_sem, c0_0, c0_1]) rfl ?_
      have KZ : Kept b0 (b0 + 1) w1 ((w1.setCell ⟨b0, 0, none⟩ (.int .i64 0)).setCell ⟨b0, 1, none⟩ (.slice ra (t - i) rc)) := by refine Kept.setCell (Kept.setCell (Kept.refl _ _ _) ?_ ?_ _) ?_ ?_ _ <;> simp
      have s := KZ.size
      exact ⟨_, _, _, rfl, by rw [E2.out]; exact (R1.kept KZ (Or.inr G.out)).widen GL.out s, B.trans (KZ.below _ O0.out B.size)⟩
    have hm2 : (n : Int) < (i : Int) + (j : Int) := by omega
    obtain rfl : n = t := by have := HT.out; omega
    go_enter Try.func61, Try.ntmps61
    go_wp2_with (first | ((with_reducible refine alloc_new 92 #[.int .i64 0, .slice none 0 0] (fun _ => by kernel_rfl) ?_); intro b0 W0 N0; have O0 : Hid (w.heap.size ≤ b0) := N0.ge; have B := N0.below; have H0 : Hid (b0 < W0.heap.size) := N0.lt; have c0_0 : W0.cell? ⟨b0, 0, none⟩ = some (.int .i64 0) := N0.cell 0 _ rfl; have c0_1 : W0.cell? ⟨b0, 1, none⟩ = some (.slice none 0 0) := N0.cell 1 _ rfl; have y0_0 : W0.frozen? ⟨b0, 0, none⟩ = false := N0.froz 0; have y0_1 : W0.frozen? ⟨b0, 1, none⟩ = false := N0.froz 1; clear N0) | fail)
    refine (cloneI_is (some ⟨b, off + i, none⟩) (n - i) (c - i) _ _ (RR.below B) (by omega)).mono ?_
    rintro e w1 ⟨ra, rc, rfl, R1, BB⟩
    have G : Hid (b0 + 1 ≤ W0.heap.size) := H0.out
    have GL : Hid (w.heap.size ≤ W0.heap.size) := B.size
    replace c0_0 := cell_later BB c0_0
    replace c0_1 := cell_later BB c0_1
    replace y0_0 := frozen_later BB H0.out y0_0
    replace y0_1 := frozen_later BB H0.out y0_1
    replace H0 : Hid (b0 < w1.heap.size) := Nat.lt_of_lt_of_le H0.out BB.size
    replace B := below_next B BB
    clear BB
    go_wp2
    refine bodyPost_ret (v := .agg #[.int .i64 0, .slice ra (n - i) rc]) (by simp [results, Try.results61, go_sem, c0_0, c0_1]) rfl ?_
    have KZ : Kept b0 (b0 + 1) w1 ((w1.setCell ⟨b0, 0, none⟩ (.int .i64 0)).setCell ⟨b0, 1, none⟩ (.slice ra (n - i) rc)) := by refine Kept.setCell (Kept.setCell (Kept.refl _ _ _) ?_ ?_ _) ?_ ?_ _ <;> simp
    have s := KZ.size
    exact ⟨_, _, _, rfl, by rw [E2.out]; exact (R1.kept KZ (Or.inr G.out)).widen GL.out s, B.trans (KZ.below _ O0.out B.size)⟩

set_option maxRecDepth 20000 in
set_option maxHeartbeats 4000000 in
theorem specChunk_is {o : Bool} {l u : Nat} (b off n c : Nat) (xs : List Int) (w : World) (h : RowAt w o l u 1 (some ⟨b, off, none⟩) n c (ints xs)) (a k cd : Int) (ys : List Int) (hc : chunkC xs a k = cd) (hx : chunkL xs a k = ys) : Calls Try.prog 60 #[.slice (some ⟨b, off, none⟩) n c, .int .i64 a, .int .i64 k] w fun e w' => IntsR w w' e cd ys := by
  have hxl := h.nInts
  have hle := h.le
  have HC : Hid _ := hc
  have HX : Hid _ := hx
  clear hc hx
  by_cases h3 : 300 < n
  · have h3i : (300 : Int) < (n : Int) := by omega
    have e0 : cd = 2 := by rw [← HC.out]; exact if_pos (by omega)
    subst e0
    have e1 : ys = [] := by rw [← HX.out]; unfold chunkL; rw [HC.out]; rfl
    subst e1
    go_enter Try.func60, Try.ntmps60
    go_wp2_with (first | ((with_reducible refine alloc_new 92 #[.int .i64 0, .slice none 0 0] (fun _ => by kernel_rfl) ?_); intro b0 W0 N0; have O0 : Hid (w.heap.size ≤ b0) := N0.ge; have B := N0.below; have H0 : Hid (b0 < W0.heap.size) := N0.lt; have c0_0 : W0.cell? ⟨b0, 0, none⟩ = some (.int .i64 0) := N0.cell 0 _ rfl; have c0_1 : W0.cell? ⟨b0, 1, none⟩ = some (.slice none 0 0) := N0.cell 1 _ rfl; have y0_0 : W0.frozen? ⟨b0, 0, none⟩ = false := N0.froz 0; have y0_1 : W0.frozen? ⟨b0, 1, none⟩ = false := N0.froz 1; clear N0) | fail)
    go_wp2
    refine bodyPost_ret (v := .agg #[.int .i64 2, .slice none 0 0]) (by simp [results, Try.results60, go_sem, c0_0, c0_1]) rfl ?_
    have KZ : Kept b0 (b0 + 1) W0 ((W0.setCell ⟨b0, 0, none⟩ (.int .i64 2)).setCell ⟨b0, 1, none⟩ (.slice none 0 0)) := by refine Kept.setCell (Kept.setCell (Kept.refl _ _ _) ?_ ?_ _) ?_ ?_ _ <;> simp
    exact ⟨_, _, _, rfl, RowAt.nil _ _ _ _ _, B.trans (KZ.below _ (Nat.le_trans O0.out (Nat.le_refl _)) B.size)⟩
  have h3i : ¬ (300 : Int) < (n : Int) := by omega
  obtain ⟨b1, hb1⟩ : ∃ b, decide (0 ≤ a ∧ a ≤ (n : Int)) = b := ⟨_, rfl⟩
  obtain ⟨b2, hb2⟩ : ∃ b, decide (1 ≤ k ∧ k ≤ 20) = b := ⟨_, rfl⟩
  have H1 : Hid _ := hb1
  have H2 : Hid _ := hb2
  clear hb1 hb2
  go_enter Try.func60, Try.ntmps60
  go_wp2_with (first | ((with_reducible refine alloc_new 92 #[.int .i64 0, .slice none 0 0] (fun _ => by kernel_rfl) ?_); intro b0 W0 N0; have O0 : Hid (w.heap.size ≤ b0) := N0.ge; have B := N0.below; have H0 : Hid (b0 < W0.heap.size) := N0.lt; have c0_0 : W0.cell? ⟨b0, 0, none⟩ = some (.int .i64 0) := N0.cell 0 _ rfl; have c0_1 : W0.cell? ⟨b0, 1, none⟩ = some (.slice none 0 0) := N0.cell 1 _ rfl; have y0_0 : W0.frozen? ⟨b0, 0, none⟩ = false := N0.froz 0; have y0_1 : W0.frozen? ⟨b0, 1, none⟩ = false := N0.froz 1; clear N0) | fail)
  refine (l1In_bool a 0 n _ b1 H1.out).mono ?_
  rintro e W0 ⟨rfl, rfl⟩
  cases b1 with
  | false =>
    have hn := of_decide_eq_false H1.out
    have e0 : cd = 3 := by rw [← HC.out]; unfold chunkC; rw [if_neg (by omega), if_neg (by omega)]
    subst e0
    have e1 : ys = [] := by rw [← HX.out]; unfold chunkL; rw [HC.out]; rfl
    subst e1
    clear hn
    go_wp2
    refine bodyPost_ret (v := .agg #[.int .i64 3, .slice none 0 0]) (by simp [results, Try.results60, go_sem, c0_0, c0_1]) rfl ?_
    have KZ : Kept b0 (b0 + 1) W0 ((W0.setCell ⟨b0, 0, none⟩ (.int .i64 3)).setCell ⟨b0, 1, none⟩ (.slice none 0 0)) := by refine Kept.setCell (Kept.setCell (Kept.refl _ _ _) ?_ ?_ _) ?_ ?_ _ <;> simp
    exact ⟨_, _, _, rfl, RowAt.nil _ _ _ _ _, B.trans (KZ.below _ (Nat.le_trans O0.out (Nat.le_refl _)) B.size)⟩
  | true =>
    go_wp2_with fail
    refine (l1In_bool k 1 20 _ b2 H2.out).mono ?_
    rintro e W0 ⟨rfl, rfl⟩
    cases b2 with
    | false =>
      have hn := of_decide_eq_false H2.out
      have e0 : cd = 3 := by rw [← HC.out]; unfold chunkC; rw [if_neg (by omega), if_neg (by omega)]
      subst e0
      have e1 : ys = [] := by rw [← HX.out]; unfold chunkL; rw [HC.out]; rfl
      subst e1
      clear hn
      go_wp2
      refine bodyPost_ret (v := .agg #[.int .i64 3, .slice none 0 0]) (by simp [results, Try.results60, go_sem, c0_0, c0_1]) rfl ?_
      have KZ : Kept b0 (b0 + 1) W0 ((W0.setCell ⟨b0, 0, none⟩ (.int .i64 3)).setCell ⟨b0, 1, none⟩ (.slice none 0 0)) := by refine Kept.setCell (Kept.setCell (Kept.refl _ _ _) ?_ ?_ _) ?_ ?_ _ <;> simp
      exact ⟨_, _, _, rfl, RowAt.nil _ _ _ _ _, B.trans (KZ.below _ (Nat.le_trans O0.out (Nat.le_refl _)) B.size)⟩
    | true =>
      have ok : (0 ≤ a ∧ a ≤ xs.length) ∧ (1 ≤ k ∧ k ≤ 20) := by have r1 := of_decide_eq_true H1.out; have r2 := of_decide_eq_true H2.out; rw [hxl]; exact ⟨r1, r2⟩
      have e0 : cd = 0 := by rw [← HC.out]; unfold chunkC; rw [if_neg (by omega), if_pos ok]
      subst e0
      obtain ⟨i, rfl⟩ : ∃ i : Nat, a = i := ⟨a.toNat, by omega⟩
      obtain ⟨j, rfl⟩ : ∃ j : Nat, k = j := ⟨k.toNat, by omega⟩
      have e1 : ys = (xs.drop i).take (min (i + j) n - i) := by rw [← HX.out]; unfold chunkL; rw [HC.out, if_pos rfl]; simp [hxl]
      have o1 : i ≤ n := by omega
      have o2 : 1 ≤ j := by omega
      have o3 : j ≤ 20 := by omega
      clear ok
      have hw : IntKind.i64.wrap ((i : Int) + (j : Int)) = (i : Int) + (j : Int) := wrapI_same _ (by omega)
      obtain ⟨t, ht⟩ : ∃ t, min (i + j) n = t := ⟨_, rfl⟩
      have t1 : i ≤ t := by omega
      have t2 : t ≤ n := by omega
      have t3 : t ≤ c := by have := h.le; omega
      have HT : Hid _ := ht
      rw [ht] at e1
      have E1 : Hid _ := e1
      clear ht e1
      have s1 : (i : Int) ≤ (t : Int) := by omega
      have s2 : (t : Int) ≤ (c : Int) := by omega
      go_wp2_with fail
      refine (l1Min_is (n : Int) ((i : Int) + (j : Int)) _ (t : Int) (by have := HT.out; omega)).mono ?_
      rintro e W5 ⟨rfl, rfl⟩
      have AE : Below W0.heap.size W0 (W0.alloc (.cells #[] 2)) := (Below.refl _ _).alloc (Nat.le_refl _) _
      replace c0_0 := cell_later AE c0_0
      replace c0_1 := cell_later AE c0_1
      replace y0_0 := frozen_later AE H0.out y0_0
      replace y0_1 := frozen_later AE H0.out y0_1
      replace H0 : Hid (b0 < (W0.alloc (.cells #[] 2)).heap.size) := Nat.lt_of_lt_of_le H0.out AE.size
      replace B := below_next B AE
      have GL : Hid (w.heap.size ≤ (W0.alloc (.cells #[] 2)).heap.size) := B.size
      have G : Hid (b0 + 1 ≤ (W0.alloc (.cells #[] 2)).heap.size) := H0.out
      obtain ⟨j0, hj0, hy0, hy1, hy2⟩ := info_parts Try.info2'
      by_cases hic : i = c
      · obtain rfl : i = n := by omega
        obtain rfl : i = c := hic
        obtain rfl : i = t := by omega
        have RR : RowAt w o l u 1 (some ⟨b, off, none⟩) 0 0 (ints []) := ⟨rfl, Nat.le_refl _, fun hz => absurd rfl hz⟩
        have E2 : Hid (ys = []) := by show _ = _; rw [E1.out, Nat.sub_self]; rfl
        clear E1
        go_wp2
        refine bodyPost_ret (v := .agg #[.int .i64 0, .slice (some ⟨W0.heap.size, 0, none⟩) 0 0]) (by simp [results, Try.results60, go_sem, c0_0, c0_1]) rfl ?_
        have KZ : Kept b0 (b0 + 1) (W0.alloc (.cells #[] 2)) (((W0.alloc (.cells #[] 2)).setCell ⟨b0, 0, none⟩ (.int .i64 0)).setCell ⟨b0, 1, none⟩ (.slice (some ⟨W0.heap.size, 0, none⟩) 0 0)) := by refine Kept.setCell (Kept.setCell (Kept.refl _ _ _) ?_ ?_ _) ?_ ?_ _ <;> simp
        have s := KZ.size
        exact ⟨_, _, _, rfl, by rw [E2.out]; exact ⟨rfl, Nat.le_refl _, fun hz => absurd rfl hz⟩, B.trans (KZ.below _ O0.out B.size)⟩
      · have hci : ¬ (c - i = 0) := by omega
        have RR : RowAt w o l u 1 (some ⟨b, off + i, none⟩) (t - i) (c - i) (ints ((xs.drop i).take (t - i))) := h.sub (by omega) (by omega)
        have E2 : Hid _ := E1.out
        have hicI : ¬ (i : Int) = (c : Int) := by omega
        obtain ⟨ad', cp, w4, hr4, R4, B4, -⟩ := run_append_fresh (P := Try.prog) (W0.alloc (.cells #[] 2)) 32 32 2 j0 (.int .i64 0) 1 8 Try.underlying32 hj0 hy0 hy1 hy2 (by rw [hy1]; rfl) W0.heap.size (some ⟨b, off + i, none⟩) (t - i) (c - i) (ints ((xs.drop i).take (t - i))) (RR.below B) (ints_oneM _) (by omega) (by omega)
        go_wp2_with (at_builtin; refine Lib.wpList_append_run _ rfl _ _ _ _ rfl _ _ rfl rfl _ _ hr4 ?_; replace c0_0 := cell_later B4 c0_0; replace c0_1 := cell_later B4 c0_1; replace y0_0 := frozen_later B4 H0.out y0_0; replace y0_1 := frozen_later B4 H0.out y0_1; replace H0 : Hid (b0 < w4.heap.size) := Nat.lt_of_lt_of_le H0.out B4.size; replace B := below_next B B4; clear B4 hr4)
        try go_wp2
        refine bodyPost_ret (v := .agg #[.int .i64 0, .slice (some ad') (t - i) cp]) (by simp [results, Try.results60, go_sem, c0_0, c0_1]) rfl ?_
        have KZ : Kept b0 (b0 + 1) w4 ((w4.setCell ⟨b0, 0, none⟩ (.int .i64 0)).setCell ⟨b0, 1, none⟩ (.slice (some ad') (t - i) cp)) := by refine Kept.setCell (Kept.setCell (Kept.refl _ _ _) ?_ ?_ _) ?_ ?_ _ <;> simp
        have s := KZ.size
        exact ⟨_, _, _, rfl, by rw [E2.out]; exact (R4.kept KZ (Or.inr G.out)).widen GL.out s, B.trans (KZ.below _ O0.out B.size)⟩

end Go.Proofs.Ytcbfmjanjciodaa
