/- Chapter 8: what is drawn: operations and entries. -/
import Derived.Test.YtlmefgpgfdgimaaQAT
set_option maxRecDepth 20000
set_option maxHeartbeats 16000000
namespace Go.Proofs.Ytlmefgpgfdgimaa
open Go.RowKit
theorem l5Op_any (g p : Nat) (ac : Option Addr) (nc cc : Nat) (bs : List Nat) (w : World) (h : SB w g p ac nc cc bs) (hp : p ≤ 90000) : Calls Try.prog 78 #[.pointer (some ⟨g, 0, none⟩)] w fun e w' => ∃ (k v a x : Int) (p' : Nat), e = .returned (.agg #[.int .i64 k, .int .i64 v, .int .i64 a, .int .i64 x]) ∧ (1 ≤ k ∧ k ≤ 6) ∧ (1 ≤ v ∧ v ≤ 4) ∧ (0 ≤ a ∧ a ≤ 7) ∧ (0 ≤ x ∧ x ≤ 99) ∧ p' ≤ p + 5 ∧ SB w' g p' ac nc cc bs ∧ Kept g (g + 1) w w' := by
 have hg : g < w.heap.size := h.lt
 have KK : Kept g (g + 1) w w := Kept.refl _ _ _
 have D := h
 go_enter Try.func78, Try.ntmps78
 go_wp2_with (first | ((with_reducible refine alloc_new 68 #[.int .i64 0, .int .i64 0, .int .i64 0, .int .i64 0] (fun _ => by kernel_rfl) ?_); intro b0 X0 N0; have O0 : Hid (g + 1 ≤ b0) := Nat.le_trans (Nat.le_trans hg KK.size) N0.ge; have P0 : Hid (w.heap.size ≤ b0) := Nat.le_trans KK.size N0.ge; replace D := D.below N0.below; replace KK := KK.next N0.below; have H0 : Hid (b0 < X0.heap.size) := N0.lt; have c0_0 : X0.cell? ⟨b0, 0, none⟩ = some (.int .i64 0) := N0.cell 0 _ rfl; have c0_1 : X0.cell? ⟨b0, 1, none⟩ = some (.int .i64 0) := N0.cell 1 _ rfl; have c0_2 : X0.cell? ⟨b0, 2, none⟩ = some (.int .i64 0) := N0.cell 2 _ rfl; have c0_3 : X0.cell? ⟨b0, 3, none⟩ = some (.int .i64 0) := N0.cell 3 _ rfl; have y0_0 : X0.frozen? ⟨b0, 0, none⟩ = false := N0.froz 0; have y0_1 : X0.frozen? ⟨b0, 1, none⟩ = false := N0.froz 1; have y0_2 : X0.frozen? ⟨b0, 2, none⟩ = false := N0.froz 2; have y0_3 : X0.frozen? ⟨b0, 3, none⟩ = false := N0.froz 3; clear N0) | fail)
 refine (next_sb D 4 rfl (by omega) (by omega) (by omega)).mono ?_
 rintro e u1 ⟨v, hv, rfl, D', K', -⟩
 replace c0_0 := K'.cell c0_0 (Or.inr O0.out)
 replace c0_1 := K'.cell c0_1 (Or.inr O0.out)
 replace c0_2 := K'.cell c0_2 (Or.inr O0.out)
 replace c0_3 := K'.cell c0_3 (Or.inr O0.out)
 replace y0_0 := K'.fr y0_0 (Or.inr O0.out) H0.out
 replace y0_1 := K'.fr y0_1 (Or.inr O0.out) H0.out
 replace y0_2 := K'.fr y0_2 (Or.inr O0.out) H0.out
 replace y0_3 := K'.fr y0_3 (Or.inr O0.out) H0.out
 replace H0 : Hid (b0 < u1.heap.size) := Nat.lt_of_lt_of_le H0.out K'.size
 replace KK := KK.trans K'
 replace D := D'
 clear D' K'
 have hw1 : IntKind.i64.wrap (1 + (v : Int)) = 1 + (v : Int) := wrapI_same _ (by omega)
 go_wp2_with fail
 refine (next_sb D 10 rfl (by omega) (by omega) (by omega)).mono ?_
 rintro e u2 ⟨u, hu, rfl, D', K', -⟩
 replace c0_0 := K'.cell c0_0 (Or.inr O0.out)
 replace c0_1 := K'.cell c0_1 (Or.inr O0.out)
 replace c0_2 := K'.cell c0_2 (Or.inr O0.out)
 replace c0_3 := K'.cell c0_3 (Or.inr O0.out)
 replace y0_0 := K'.fr y0_0 (Or.inr O0.out) H0.out
 replace y0_1 := K'.fr y0_1 (Or.inr O0.out) H0.out
 replace y0_2 := K'.fr y0_2 (Or.inr O0.out) H0.out
 replace y0_3 := K'.fr y0_3 (Or.inr O0.out) H0.out
 replace H0 : Hid (b0 < u2.heap.size) := Nat.lt_of_lt_of_le H0.out K'.size
 replace KK := KK.trans K'
 replace D := D'
 clear D' K'
 rcases (by omega : u = 0 ∨ u = 1 ∨ u = 2 ∨ u = 3 ∨ u = 4 ∨ 5 ≤ u) with hu | hu | hu | hu | hu | hu
 ·subst hu
  go_wp2_with fail
  refine (next_sb D 9 rfl (by omega) (by omega) (by omega)).mono ?_
  rintro e u3 ⟨x, hx, rfl, D', K', -⟩
  replace c0_0 := K'.cell c0_0 (Or.inr O0.out)
  replace c0_1 := K'.cell c0_1 (Or.inr O0.out)
  replace c0_2 := K'.cell c0_2 (Or.inr O0.out)
  replace c0_3 := K'.cell c0_3 (Or.inr O0.out)
  replace y0_0 := K'.fr y0_0 (Or.inr O0.out) H0.out
  replace y0_1 := K'.fr y0_1 (Or.inr O0.out) H0.out
  replace y0_2 := K'.fr y0_2 (Or.inr O0.out) H0.out
  replace y0_3 := K'.fr y0_3 (Or.inr O0.out) H0.out
  replace H0 : Hid (b0 < u3.heap.size) := Nat.lt_of_lt_of_le H0.out K'.size
  replace KK := KK.trans K'
  replace D := D'
  clear D' K'
  have hw2 : IntKind.i64.wrap (1 + (x : Int)) = 1 + (x : Int) := wrapI_same _ (by omega)
  go_wp2
  refine bodyPost_ret (v := .agg #[.int .i64 1, .int .i64 (1 + (v : Int)), .int .i64 0, .int .i64 (1 + (x : Int))]) (by simp [results, Try.results78, go_sem, c0_0, c0_1, c0_2, c0_3]) rfl ?_
  have KZ : Kept b0 (b0 + 1) u3 ((((u3.setCell ⟨b0, 0, none⟩ (.int .i64 1)).setCell ⟨b0, 1, none⟩ (.int .i64 (1 + (v : Int)))).setCell ⟨b0, 2, none⟩ (.int .i64 0)).setCell ⟨b0, 3, none⟩ (.int .i64 (1 + (x : Int)))) := by refine Kept.setCell (Kept.setCell (Kept.setCell (Kept.setCell (Kept.refl _ _ _) ?_ ?_ _) ?_ ?_ _) ?_ ?_ _) ?_ ?_ _ <;> simp
  replace KK := KK.low (KZ.below _ P0.out KK.size)
  have DF := h.move KK (D.src.kept KZ (Or.inl O0.out))
  clear KZ
  exact ⟨1, 1 + (v : Int), 0, 1 + (x : Int), _, rfl, by omega, by omega, by omega, by omega, by omega, DF, KK⟩
 ·subst hu
  go_wp2_with fail
  refine (next_sb D 6 rfl (by omega) (by omega) (by omega)).mono ?_
  rintro e u3 ⟨x, hx, rfl, D', K', -⟩
  replace c0_0 := K'.cell c0_0 (Or.inr O0.out)
  replace c0_1 := K'.cell c0_1 (Or.inr O0.out)
  replace c0_2 := K'.cell c0_2 (Or.inr O0.out)
  replace c0_3 := K'.cell c0_3 (Or.inr O0.out)
  replace y0_0 := K'.fr y0_0 (Or.inr O0.out) H0.out
  replace y0_1 := K'.fr y0_1 (Or.inr O0.out) H0.out
  replace y0_2 := K'.fr y0_2 (Or.inr O0.out) H0.out
  replace y0_3 := K'.fr y0_3 (Or.inr O0.out) H0.out
  replace H0 : Hid (b0 < u3.heap.size) := Nat.lt_of_lt_of_le H0.out K'.size
  replace KK := KK.trans K'
  replace D := D'
  clear D' K'
  have hw2 : IntKind.i64.wrap (1 + (x : Int)) = 1 + (x : Int) := wrapI_same _ (by omega)
  go_wp2
  refine bodyPost_ret (v := .agg #[.int .i64 5, .int .i64 (1 + (v : Int)), .int .i64 0, .int .i64 (1 + (x : Int))]) (by simp [results, Try.results78, go_sem, c0_0, c0_1, c0_2, c0_3]) rfl ?_
  have KZ : Kept b0 (b0 + 1) u3 ((((u3.setCell ⟨b0, 0, none⟩ (.int .i64 5)).setCell ⟨b0, 1, none⟩ (.int .i64 (1 + (v : Int)))).setCell ⟨b0, 2, none⟩ (.int .i64 0)).setCell ⟨b0, 3, none⟩ (.int .i64 (1 + (x : Int)))) := by refine Kept.setCell (Kept.setCell (Kept.setCell (Kept.setCell (Kept.refl _ _ _) ?_ ?_ _) ?_ ?_ _) ?_ ?_ _) ?_ ?_ _ <;> simp
  replace KK := KK.low (KZ.below _ P0.out KK.size)
  have DF := h.move KK (D.src.kept KZ (Or.inl O0.out))
  clear KZ
  exact ⟨5, 1 + (v : Int), 0, 1 + (x : Int), _, rfl, by omega, by omega, by omega, by omega, by omega, DF, KK⟩
 ·subst hu
  go_wp2_with fail
  refine (next_sb D 8 rfl (by omega) (by omega) (by omega)).mono ?_
  rintro e u3 ⟨x, hx, rfl, D', K', -⟩
  replace c0_0 := K'.cell c0_0 (Or.inr O0.out)
  replace c0_1 := K'.cell c0_1 (Or.inr O0.out)
  replace c0_2 := K'.cell c0_2 (Or.inr O0.out)
  replace c0_3 := K'.cell c0_3 (Or.inr O0.out)
  replace y0_0 := K'.fr y0_0 (Or.inr O0.out) H0.out
  replace y0_1 := K'.fr y0_1 (Or.inr O0.out) H0.out
  replace y0_2 := K'.fr y0_2 (Or.inr O0.out) H0.out
  replace y0_3 := K'.fr y0_3 (Or.inr O0.out) H0.out
  replace H0 : Hid (b0 < u3.heap.size) := Nat.lt_of_lt_of_le H0.out K'.size
  replace KK := KK.trans K'
  replace D := D'
  clear D' K'
  go_wp2
  refine bodyPost_ret (v := .agg #[.int .i64 3, .int .i64 (1 + (v : Int)), .int .i64 (x : Int), .int .i64 0]) (by simp [results, Try.results78, go_sem, c0_0, c0_1, c0_2, c0_3]) rfl ?_
  have KZ : Kept b0 (b0 + 1) u3 ((((u3.setCell ⟨b0, 0, none⟩ (.int .i64 3)).setCell ⟨b0, 1, none⟩ (.int .i64 (1 + (v : Int)))).setCell ⟨b0, 2, none⟩ (.int .i64 (x : Int))).setCell ⟨b0, 3, none⟩ (.int .i64 0)) := by refine Kept.setCell (Kept.setCell (Kept.setCell (Kept.setCell (Kept.refl _ _ _) ?_ ?_ _) ?_ ?_ _) ?_ ?_ _) ?_ ?_ _ <;> simp
  replace KK := KK.low (KZ.below _ P0.out KK.size)
  have DF := h.move KK (D.src.kept KZ (Or.inl O0.out))
  clear KZ
  exact ⟨3, 1 + (v : Int), (x : Int), 0, _, rfl, by omega, by omega, by omega, by omega, by omega, DF, KK⟩
 ·subst hu
  go_wp2_with fail
  refine (next_sb D 8 rfl (by omega) (by omega) (by omega)).mono ?_
  rintro e u3 ⟨x, hx, rfl, D', K', -⟩
  replace c0_0 := K'.cell c0_0 (Or.inr O0.out)
  replace c0_1 := K'.cell c0_1 (Or.inr O0.out)
  replace c0_2 := K'.cell c0_2 (Or.inr O0.out)
  replace c0_3 := K'.cell c0_3 (Or.inr O0.out)
  replace y0_0 := K'.fr y0_0 (Or.inr O0.out) H0.out
  replace y0_1 := K'.fr y0_1 (Or.inr O0.out) H0.out
  replace y0_2 := K'.fr y0_2 (Or.inr O0.out) H0.out
  replace y0_3 := K'.fr y0_3 (Or.inr O0.out) H0.out
  replace H0 : Hid (b0 < u3.heap.size) := Nat.lt_of_lt_of_le H0.out K'.size
  replace KK := KK.trans K'
  replace D := D'
  clear D' K'
  go_wp2
  refine bodyPost_ret (v := .agg #[.int .i64 4, .int .i64 (1 + (v : Int)), .int .i64 (x : Int), .int .i64 0]) (by simp [results, Try.results78, go_sem, c0_0, c0_1, c0_2, c0_3]) rfl ?_
  have KZ : Kept b0 (b0 + 1) u3 ((((u3.setCell ⟨b0, 0, none⟩ (.int .i64 4)).setCell ⟨b0, 1, none⟩ (.int .i64 (1 + (v : Int)))).setCell ⟨b0, 2, none⟩ (.int .i64 (x : Int))).setCell ⟨b0, 3, none⟩ (.int .i64 0)) := by refine Kept.setCell (Kept.setCell (Kept.setCell (Kept.setCell (Kept.refl _ _ _) ?_ ?_ _) ?_ ?_ _) ?_ ?_ _) ?_ ?_ _ <;> simp
  replace KK := KK.low (KZ.below _ P0.out KK.size)
  have DF := h.move KK (D.src.kept KZ (Or.inl O0.out))
  clear KZ
  exact ⟨4, 1 + (v : Int), (x : Int), 0, _, rfl, by omega, by omega, by omega, by omega, by omega, DF, KK⟩
 ·subst hu
  go_wp2_with fail
  refine (chance_sb D 3 rfl (by omega) (by omega) (by omega)).mono ?_
  rintro e u3 ⟨bb, rfl, D', K', -⟩
  replace c0_0 := K'.cell c0_0 (Or.inr O0.out)
  replace c0_1 := K'.cell c0_1 (Or.inr O0.out)
  replace c0_2 := K'.cell c0_2 (Or.inr O0.out)
  replace c0_3 := K'.cell c0_3 (Or.inr O0.out)
  replace y0_0 := K'.fr y0_0 (Or.inr O0.out) H0.out
  replace y0_1 := K'.fr y0_1 (Or.inr O0.out) H0.out
  replace y0_2 := K'.fr y0_2 (Or.inr O0.out) H0.out
  replace y0_3 := K'.fr y0_3 (Or.inr O0.out) H0.out
  replace H0 : Hid (b0 < u3.heap.size) := Nat.lt_of_lt_of_le H0.out K'.size
  replace KK := KK.trans K'
  replace D := D'
  clear D' K'
  cases bb with
  | true =>
   go_wp2
   refine bodyPost_ret (v := .agg #[.int .i64 6, .int .i64 (1 + (v : Int)), .int .i64 0, .int .i64 0]) (by simp [results, Try.results78, go_sem, c0_0, c0_1, c0_2, c0_3]) rfl ?_
   have KZ : Kept b0 (b0 + 1) u3 ((((u3.setCell ⟨b0, 0, none⟩ (.int .i64 6)).setCell ⟨b0, 1, none⟩ (.int .i64 (1 + (v : Int)))).setCell ⟨b0, 2, none⟩ (.int .i64 0)).setCell ⟨b0, 3, none⟩ (.int .i64 0)) := by refine Kept.setCell (Kept.setCell (Kept.setCell (Kept.setCell (Kept.refl _ _ _) ?_ ?_ _) ?_ ?_ _) ?_ ?_ _) ?_ ?_ _ <;> simp
   replace KK := KK.low (KZ.below _ P0.out KK.size)
   have DF := h.move KK (D.src.kept KZ (Or.inl O0.out))
   clear KZ
   exact ⟨6, 1 + (v : Int), 0, 0, _, rfl, by omega, by omega, by omega, by omega, by omega, DF, KK⟩
  | false =>
   go_wp2_with fail
   refine (next_sb D 8 rfl (by omega) (by omega) (by omega)).mono ?_
   rintro e u4 ⟨x, hx, rfl, D', K', -⟩
   replace c0_0 := K'.cell c0_0 (Or.inr O0.out)
   replace c0_1 := K'.cell c0_1 (Or.inr O0.out)
   replace c0_2 := K'.cell c0_2 (Or.inr O0.out)
   replace c0_3 := K'.cell c0_3 (Or.inr O0.out)
   replace y0_0 := K'.fr y0_0 (Or.inr O0.out) H0.out
   replace y0_1 := K'.fr y0_1 (Or.inr O0.out) H0.out
   replace y0_2 := K'.fr y0_2 (Or.inr O0.out) H0.out
   replace y0_3 := K'.fr y0_3 (Or.inr O0.out) H0.out
   replace H0 : Hid (b0 < u4.heap.size) := Nat.lt_of_lt_of_le H0.out K'.size
   replace KK := KK.trans K'
   replace D := D'
   clear D' K'
   go_wp2_with fail
   refine (next_sb D 99 rfl (by omega) (by omega) (by omega)).mono ?_
   rintro e u5 ⟨y, hy, rfl, D', K', -⟩
   replace c0_0 := K'.cell c0_0 (Or.inr O0.out)
   replace c0_1 := K'.cell c0_1 (Or.inr O0.out)
   replace c0_2 := K'.cell c0_2 (Or.inr O0.out)
   replace c0_3 := K'.cell c0_3 (Or.inr O0.out)
   replace y0_0 := K'.fr y0_0 (Or.inr O0.out) H0.out
   replace y0_1 := K'.fr y0_1 (Or.inr O0.out) H0.out
   replace y0_2 := K'.fr y0_2 (Or.inr O0.out) H0.out
   replace y0_3 := K'.fr y0_3 (Or.inr O0.out) H0.out
   replace H0 : Hid (b0 < u5.heap.size) := Nat.lt_of_lt_of_le H0.out K'.size
   replace KK := KK.trans K'
   replace D := D'
   clear D' K'
   go_wp2
   refine bodyPost_ret (v := .agg #[.int .i64 2, .int .i64 (1 + (v : Int)), .int .i64 (x : Int), .int .i64 (y : Int)]) (by simp [results, Try.results78, go_sem, c0_0, c0_1, c0_2, c0_3]) rfl ?_
   have KZ : Kept b0 (b0 + 1) u5 ((((u5.setCell ⟨b0, 0, none⟩ (.int .i64 2)).setCell ⟨b0, 1, none⟩ (.int .i64 (1 + (v : Int)))).setCell ⟨b0, 2, none⟩ (.int .i64 (x : Int))).setCell ⟨b0, 3, none⟩ (.int .i64 (y : Int))) := by refine Kept.setCell (Kept.setCell (Kept.setCell (Kept.setCell (Kept.refl _ _ _) ?_ ?_ _) ?_ ?_ _) ?_ ?_ _) ?_ ?_ _ <;> simp
   replace KK := KK.low (KZ.below _ P0.out KK.size)
   have DF := h.move KK (D.src.kept KZ (Or.inl O0.out))
   clear KZ
   exact ⟨2, 1 + (v : Int), (x : Int), (y : Int), _, rfl, by omega, by omega, by omega, by omega, by omega, DF, KK⟩
 ·have n0 : ((u : Int) == 0) = false := by simp; omega
  have n1 : ((u : Int) == 1) = false := by simp; omega
  have n2 : ((u : Int) == 2) = false := by simp; omega
  have n3 : ((u : Int) == 3) = false := by simp; omega
  have n4 : ((u : Int) == 4) = false := by simp; omega
  go_wp2_with fail
  refine (next_sb D 8 rfl (by omega) (by omega) (by omega)).mono ?_
  rintro e u3 ⟨x, hx, rfl, D', K', -⟩
  replace c0_0 := K'.cell c0_0 (Or.inr O0.out)
  replace c0_1 := K'.cell c0_1 (Or.inr O0.out)
  replace c0_2 := K'.cell c0_2 (Or.inr O0.out)
  replace c0_3 := K'.cell c0_3 (Or.inr O0.out)
  replace y0_0 := K'.fr y0_0 (Or.inr O0.out) H0.out
  replace y0_1 := K'.fr y0_1 (Or.inr O0.out) H0.out
  replace y0_2 := K'.fr y0_2 (Or.inr O0.out) H0.out
  replace y0_3 := K'.fr y0_3 (Or.inr O0.out) H0.out
  replace H0 : Hid (b0 < u3.heap.size) := Nat.lt_of_lt_of_le H0.out K'.size
  replace KK := KK.trans K'
  replace D := D'
  clear D' K'
  go_wp2_with fail
  refine (next_sb D 99 rfl (by omega) (by omega) (by omega)).mono ?_
  rintro e u4 ⟨y, hy, rfl, D', K', -⟩
  replace c0_0 := K'.cell c0_0 (Or.inr O0.out)
  replace c0_1 := K'.cell c0_1 (Or.inr O0.out)
  replace c0_2 := K'.cell c0_2 (Or.inr O0.out)
  replace c0_3 := K'.cell c0_3 (Or.inr O0.out)
  replace y0_0 := K'.fr y0_0 (Or.inr O0.out) H0.out
  replace y0_1 := K'.fr y0_1 (Or.inr O0.out) H0.out
  replace y0_2 := K'.fr y0_2 (Or.inr O0.out) H0.out
  replace y0_3 := K'.fr y0_3 (Or.inr O0.out) H0.out
  replace H0 : Hid (b0 < u4.heap.size) := Nat.lt_of_lt_of_le H0.out K'.size
  replace KK := KK.trans K'
  replace D := D'
  clear D' K'
  go_wp2
  refine bodyPost_ret (v := .agg #[.int .i64 2, .int .i64 (1 + (v : Int)), .int .i64 (x : Int), .int .i64 (y : Int)]) (by simp [results, Try.results78, go_sem, c0_0, c0_1, c0_2, c0_3]) rfl ?_
  have KZ : Kept b0 (b0 + 1) u4 ((((u4.setCell ⟨b0, 0, none⟩ (.int .i64 2)).setCell ⟨b0, 1, none⟩ (.int .i64 (1 + (v : Int)))).setCell ⟨b0, 2, none⟩ (.int .i64 (x : Int))).setCell ⟨b0, 3, none⟩ (.int .i64 (y : Int))) := by refine Kept.setCell (Kept.setCell (Kept.setCell (Kept.setCell (Kept.refl _ _ _) ?_ ?_ _) ?_ ?_ _) ?_ ?_ _) ?_ ?_ _ <;> simp
  replace KK := KK.low (KZ.below _ P0.out KK.size)
  have DF := h.move KK (D.src.kept KZ (Or.inl O0.out))
  clear KZ
  exact ⟨2, 1 + (v : Int), (x : Int), (y : Int), _, rfl, by omega, by omega, by omega, by omega, by omega, DF, KK⟩
theorem l8Entry_any (g p : Nat) (ac : Option Addr) (nc cc : Nat) (bs : List Nat) (w : World) (h : SB w g p ac nc cc bs) (hp : p ≤ 80000) : Calls Try.prog 69 #[.pointer (some ⟨g, 0, none⟩)] w fun e w' => ∃ (p1 q k v a x : Int) (p' : Nat), e = .returned (.agg #[.int .i64 p1, .int .i64 q, .int .i64 k, .int .i64 v, .int .i64 a, .int .i64 x]) ∧ (1 ≤ k ∧ k ≤ 6) ∧ (1 ≤ v ∧ v ≤ 4) ∧ p' ≤ p + 7 ∧ SB w' g p' ac nc cc bs ∧ Kept g (g + 1) w w' := by
 have hg : g < w.heap.size := h.lt
 have KK : Kept g (g + 1) w w := Kept.refl _ _ _
 have D := h
 go_enter Try.func69, Try.ntmps69
 go_wp2_with (first | ((with_reducible refine alloc_new 70 #[.int .i64 0, .int .i64 0, .int .i64 0, .int .i64 0, .int .i64 0, .int .i64 0] (fun _ => by kernel_rfl) ?_); intro b0 X0 N0; have O0 : Hid (g + 1 ≤ b0) := Nat.le_trans (Nat.le_trans hg KK.size) N0.ge; have P0 : Hid (w.heap.size ≤ b0) := Nat.le_trans KK.size N0.ge; replace D := D.below N0.below; replace KK := KK.next N0.below; have H0 : Hid (b0 < X0.heap.size) := N0.lt; have c0_0 : X0.cell? ⟨b0, 0, none⟩ = some (.int .i64 0) := N0.cell 0 _ rfl; have c0_1 : X0.cell? ⟨b0, 1, none⟩ = some (.int .i64 0) := N0.cell 1 _ rfl; have c0_2 : X0.cell? ⟨b0, 2, none⟩ = some (.int .i64 0) := N0.cell 2 _ rfl; have c0_3 : X0.cell? ⟨b0, 3, none⟩ = some (.int .i64 0) := N0.cell 3 _ rfl; have c0_4 : X0.cell? ⟨b0, 4, none⟩ = some (.int .i64 0) := N0.cell 4 _ rfl; have c0_5 : X0.cell? ⟨b0, 5, none⟩ = some (.int .i64 0) := N0.cell 5 _ rfl; have y0_0 : X0.frozen? ⟨b0, 0, none⟩ = false := N0.froz 0; have y0_1 : X0.frozen? ⟨b0, 1, none⟩ = false := N0.froz 1; have y0_2 : X0.frozen? ⟨b0, 2, none⟩ = false := N0.froz 2; have y0_3 : X0.frozen? ⟨b0, 3, none⟩ = false := N0.froz 3; have y0_4 : X0.frozen? ⟨b0, 4, none⟩ = false := N0.froz 4; have y0_5 : X0.frozen? ⟨b0, 5, none⟩ = false := N0.froz 5; clear N0) | fail)
 refine (next_sb D 3 rfl (by omega) (by omega) (by omega)).mono ?_
 rintro e u1 ⟨a1, ha1, rfl, D', K', -⟩
 replace c0_0 := K'.cell c0_0 (Or.inr O0.out)
 replace c0_1 := K'.cell c0_1 (Or.inr O0.out)
 replace c0_2 := K'.cell c0_2 (Or.inr O0.out)
 replace c0_3 := K'.cell c0_3 (Or.inr O0.out)
 replace c0_4 := K'.cell c0_4 (Or.inr O0.out)
 replace c0_5 := K'.cell c0_5 (Or.inr O0.out)
 replace y0_0 := K'.fr y0_0 (Or.inr O0.out) H0.out
 replace y0_1 := K'.fr y0_1 (Or.inr O0.out) H0.out
 replace y0_2 := K'.fr y0_2 (Or.inr O0.out) H0.out
 replace y0_3 := K'.fr y0_3 (Or.inr O0.out) H0.out
 replace y0_4 := K'.fr y0_4 (Or.inr O0.out) H0.out
 replace y0_5 := K'.fr y0_5 (Or.inr O0.out) H0.out
 replace H0 : Hid (b0 < u1.heap.size) := Nat.lt_of_lt_of_le H0.out K'.size
 replace KK := KK.trans K'
 replace D := D'
 clear D' K'
 have hw1 : IntKind.i64.wrap (1 + (a1 : Int)) = 1 + (a1 : Int) := wrapI_same _ (by omega)
 go_wp2_with fail
 refine (next_sb D 9 rfl (by omega) (by omega) (by omega)).mono ?_
 rintro e u2 ⟨a2, ha2, rfl, D', K', -⟩
 replace c0_0 := K'.cell c0_0 (Or.inr O0.out)
 replace c0_1 := K'.cell c0_1 (Or.inr O0.out)
 replace c0_2 := K'.cell c0_2 (Or.inr O0.out)
 replace c0_3 := K'.cell c0_3 (Or.inr O0.out)
 replace c0_4 := K'.cell c0_4 (Or.inr O0.out)
 replace c0_5 := K'.cell c0_5 (Or.inr O0.out)
 replace y0_0 := K'.fr y0_0 (Or.inr O0.out) H0.out
 replace y0_1 := K'.fr y0_1 (Or.inr O0.out) H0.out
 replace y0_2 := K'.fr y0_2 (Or.inr O0.out) H0.out
 replace y0_3 := K'.fr y0_3 (Or.inr O0.out) H0.out
 replace y0_4 := K'.fr y0_4 (Or.inr O0.out) H0.out
 replace y0_5 := K'.fr y0_5 (Or.inr O0.out) H0.out
 replace H0 : Hid (b0 < u2.heap.size) := Nat.lt_of_lt_of_le H0.out K'.size
 replace KK := KK.trans K'
 replace D := D'
 clear D' K'
 have hw2 : IntKind.i64.wrap (1 + (a2 : Int)) = 1 + (a2 : Int) := wrapI_same _ (by omega)
 go_wp2_with fail
 refine (l5Op_any g _ ac nc cc bs _ D (by omega)).mono ?_
 rintro e u3 ⟨k, v, a, x, p', rfl, hk, hv, ha, hx, hp', D', K'⟩
 replace c0_0 := K'.cell c0_0 (Or.inr O0.out)
 replace c0_1 := K'.cell c0_1 (Or.inr O0.out)
 replace c0_2 := K'.cell c0_2 (Or.inr O0.out)
 replace c0_3 := K'.cell c0_3 (Or.inr O0.out)
 replace c0_4 := K'.cell c0_4 (Or.inr O0.out)
 replace c0_5 := K'.cell c0_5 (Or.inr O0.out)
 replace y0_0 := K'.fr y0_0 (Or.inr O0.out) H0.out
 replace y0_1 := K'.fr y0_1 (Or.inr O0.out) H0.out
 replace y0_2 := K'.fr y0_2 (Or.inr O0.out) H0.out
 replace y0_3 := K'.fr y0_3 (Or.inr O0.out) H0.out
 replace y0_4 := K'.fr y0_4 (Or.inr O0.out) H0.out
 replace y0_5 := K'.fr y0_5 (Or.inr O0.out) H0.out
 replace H0 : Hid (b0 < u3.heap.size) := Nat.lt_of_lt_of_le H0.out K'.size
 replace KK := KK.trans K'
 replace D := D'
 clear D' K'
 go_wp2
 refine bodyPost_ret (v := .agg #[.int .i64 (1 + (a1 : Int)), .int .i64 (1 + (a2 : Int)), .int .i64 k, .int .i64 v, .int .i64 a, .int .i64 x]) (by simp [results, Try.results69, go_sem, c0_0, c0_1, c0_2, c0_3, c0_4, c0_5]) rfl ?_
 have KZ : Kept b0 (b0 + 1) u3 ((((((u3.setCell ⟨b0, 0, none⟩ (.int .i64 (1 + (a1 : Int)))).setCell ⟨b0, 1, none⟩ (.int .i64 (1 + (a2 : Int)))).setCell ⟨b0, 2, none⟩ (.int .i64 k)).setCell ⟨b0, 3, none⟩ (.int .i64 v)).setCell ⟨b0, 4, none⟩ (.int .i64 a)).setCell ⟨b0, 5, none⟩ (.int .i64 x)) := by refine Kept.setCell (Kept.setCell (Kept.setCell (Kept.setCell (Kept.setCell (Kept.setCell (Kept.refl _ _ _) ?_ ?_ _) ?_ ?_ _) ?_ ?_ _) ?_ ?_ _) ?_ ?_ _) ?_ ?_ _ <;> simp
 replace KK := KK.low (KZ.below _ P0.out KK.size)
 have DF := h.move KK (D.src.kept KZ (Or.inl O0.out))
 clear KZ
 exact ⟨_, _, k, v, a, x, p', rfl, hk, hv, by omega, DF, KK⟩
end Go.Proofs.Ytlmefgpgfdgimaa
