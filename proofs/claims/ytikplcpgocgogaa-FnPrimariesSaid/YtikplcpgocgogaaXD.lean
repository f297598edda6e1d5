/- Chapter 8: what is drawn: operations and entries. -/
import Derived.Test.YtikplcpgocgogaaXC
import Derived.Test.YtikplcpgocgogaaYD
import Derived.Test.YtikplcpgocgogaaYE
import Derived.Test.YtikplcpgocgogaaMark2
namespace Go.Proofs.Ytikplcpgocgogaa
open Go.RowKit

set_option maxRecDepth 20000 in
set_option maxHeartbeats 4000000 in
theorem l5Op_any (g p : Nat) (ac : Option Addr) (nc cc : Nat) (bs : List Nat) (w : World) (h : SB w g p ac nc cc bs) (hp : p ≤ 90000) : Calls Try.prog 158 #[.pointer (some ⟨g, 0, none⟩)] w fun e w' => ∃ (k v a x : Int) (p' : Nat), e = .returned (.agg #[.int .i64 k, .int .i64 v, .int .i64 a, .int .i64 x]) ∧ (1 ≤ k ∧ k ≤ 6) ∧ (1 ≤ v ∧ v ≤ 4) ∧ (0 ≤ a ∧ a ≤ 7) ∧ (0 ≤ x ∧ x ≤ 99) ∧ p' ≤ p + 5 ∧ SB w' g p' ac nc cc bs ∧ Kept g (g + 1) w w' := by
  have hg : g < w.heap.size := h.lt
  have KK : Kept g (g + 1) w w := Kept.refl _ _ _
  have D := h
  go_enter Try.func158, Try.ntmps158
  go_wp2_with (first | ((with_reducible refine alloc_new 31 #[.int .i64 0, .int .i64 0, .int .i64 0, .int .i64 0] (fun _ => by kernel_rfl) ?_); intro b0 X0 N0; have O0 : Hid (g + 1 ≤ b0) := Nat.le_trans (Nat.le_trans hg KK.size) N0.ge; have P0 : Hid (w.heap.size ≤ b0) := Nat.le_trans KK.size N0.ge; replace D := D.below N0.below; replace KK := KK.next N0.below; have H0 : Hid (b0 < X0.heap.size) := N0.lt; have c0_0 : X0.cell? ⟨b0, 0, none⟩ = some (.int .i64 0) := N0.cell 0 _ rfl; have c0_1 : X0.cell? ⟨b0, 1, none⟩ = some (.int .i64 0) := N0.cell 1 _ rfl; have c0_2 : X0.cell? ⟨b0, 2, none⟩ = some (.int .i64 0) := N0.cell 2 _ rfl; have c0_3 : X0.cell? ⟨b0, 3, none⟩ = some (.int .i64 0) := N0.cell 3 _ rfl; have y0_0 : X0.frozen? ⟨b0, 0, none⟩ = false := N0.froz 0; have y0_1 : X0.frozen? ⟨b0, 1, none⟩ = false := N0.froz 1; have y0_2 : X0.frozen? ⟨b0, 2, none⟩ = false := N0.froz 2; have y0_3 : X0.frozen? ⟨b0, 3, none⟩ = false := N0.froz 3; clear N0) | fail)
  refine (next_sb D 4 rfl (by omega) (by omega) (by omega)).mono ?_
  rintro e u1 ⟨v, hv, rfl, D', K', -⟩
  replace c0_0 := K'.cell c0_0 (Or.inr O0.out)
  replace c0_1 := K'.cell c0_1 (Or.inr O0.out)
  replace c0_2 := K'.cell c0_2 (Or.inr O0.out)
  replace c0_3 := K'.cell c0_3 (Or.inr O0.out)
  replace y0_0 := K'.fr y0_0 (Or.inr O0.out) H0.out
  replace y0_1 := K'.fr y0_1 (Or.inr O0.out) H0.out
  replace y0_2 := K'.fr y0_2 (Or.inr O0.out) H0.out
  replace y0_3 := K'.fr y0_3 (Or.inr O0.out) H0.out
  replace H0 : Hid (b0 < u1.heap.size) := Nat.lt_of_lt_of_le H0.out K'.size
  replace KK := KK.trans K'
  replace D := D'
  clear D' K'
  have hw1 : IntKind.i64.wrap (1 + (v : Int)) = 1 + (v : Int) := wrapI_same _ (by omega)
  go_wp2_with fail
  refine (next_sb D 10 rfl (by omega) (by omega) (by omega)).mono ?_
  rintro e u2 ⟨u, hu, rfl, D', K', -⟩
  replace c0_0 := K'.cell c0_0 (Or.inr O0.out)
  replace c0_1 := K'.cell c0_1 (Or.inr O0.out)
  replace c0_2 := K'.cell c0_2 (Or.inr O0.out)
  replace c0_3 := K'.cell c0_3 (Or.inr O0.out)
  replace y0_0 := K'.fr y0_0 (Or.inr O0.out) H0.out
  replace y0_1 := K'.fr y0_1 (Or.inr O0.out) H0.out
  replace y0_2 := K'.fr y0_2 (Or.inr O0.out) H0.out
  replace y0_3 := K'.fr y0_3 (Or.inr O0.out) H0.out
  replace H0 : Hid (b0 < u2.heap.size) := Nat.lt_of_lt_of_le H0.out K'.size
  replace KK := KK.trans K'
  replace D := D'
  clear D' K'
  rcases (by omega : u = 0 ∨ u = 1 ∨ u = 2 ∨ u = 3 ∨ u = 4 ∨ 5 ≤ u) with hu | hu | hu | hu | hu | hu
  · subst hu
    go_wp2_with fail
    refine (next_sb D 9 rfl (by omega) (by omega) (by omega)).mono ?_
    rintro e u3 ⟨x, hx, rfl, D', K', -⟩
    replace c0_0 := K'.cell c0_0 (Or.inr O0.out)
    replace c0_1 := K'.cell c0_1 (Or.inr O0.out)
    replace c0_2 := K'.cell c0_2 (Or.inr O0.out)
    replace c0_3 := K'.cell c0_3 (Or.inr O0.out)
    replace y0_0 := K'.fr y0_0 (Or.inr O0.out) H0.out
    replace y0_1 := K'.fr y0_1 (Or.inr O0.out) H0.out
    replace y0_2 := K'.fr y0_2 (Or.inr O0.out) H0.out
    replace y0_3 := K'.fr y0_3 (Or.inr O0.out) H0.out
    replace H0 : Hid (b0 < u3.heap.size) := Nat.lt_of_lt_of_le H0.out K'.size
    replace KK := KK.trans K'
    replace D := D'
    clear D' K'
    have hw2 : IntKind.i64.wrap (1 + (x : Int)) = 1 + (x : Int) := wrapI_same _ (by omega)
    go_wp2
    refine bodyPost_ret (v := .agg #[.int .i64 1, .int .i64 (1 + (v : Int)), .int .i64 0, .int .i64 (1 + (x : Int))]) (by simp [results, Try.results158, go_sem, c0_0, c0_1, c0_2, c0_3]) rfl ?_
    have KZ : Kept b0 (b0 + 1) u3 ((((u3.setCell ⟨b0, 0, none⟩ (.int .i64 1)).setCell ⟨b0, 1, none⟩ (.int .i64 (1 + (v : Int)))).setCell ⟨b0, 2, none⟩ (.int .i64 0)).setCell ⟨b0, 3, none⟩ (.int .i64 (1 + (x : Int)))) := by refine Kept.setCell (Kept.setCell (Kept.setCell (Kept.setCell (Kept.refl _ _ _) ?_ ?_ _) ?_ ?_ _) ?_ ?_ _) ?_ ?_ _ <;> simp
    replace KK := KK.low (KZ.below _ P0.out KK.size)
    have DF := h.move KK (D.src.kept KZ (Or.inl O0.out))
    clear KZ
    exact ⟨1, 1 + (v : Int), 0, 1 + (x : Int), _, rfl, by omega, by omega, by omega, by omega, by omega, DF, KK⟩
  · subst hu
    go_wp2_with fail
    refine (next_sb D 6 rfl (by omega) (by omega) (by omega)).mono ?_
    rintro e u3 ⟨x, hx, rfl, D', K', -⟩
    replace c0_0 := K'.cell c0_0 (Or.inr O0.out)
    replace c0_1 := K'.cell c0_1 (Or.inr O0.out)
    replace c0_2 := K'.cell c0_2 (Or.inr O0.out)
    replace c0_3 := K'.cell c0_3 (Or.inr O0.out)
    replace y0_0 := K'.fr y0_0 (Or.inr O0.out) H0.out
    replace y0_1 := K'.fr y0_1 (Or.inr O0.out) H0.out
    replace y0_2 := K'.fr y0_2 (Or.inr O0.out) H0.out
    replace y0_3 := K'.fr y0_3 (Or.inr O0.out) H0.out
    replace H0 : Hid (b0 < u3.heap.size) := Nat.lt_of_lt_of_le H0.out K'.size
    replace KK := KK.trans K'
    replace D := D'
    clear D' K'
    have hw2 : IntKind.i64.wrap (1 + (x : Int)) = 1 + (x : Int) := wrapI_same _ (by omega)
    go_wp2
    refine bodyPost_ret (v := .agg #[.int .i64 5, .int .i64 (1 + (v : Int)), .int .i64 0, .int .i64 (1 + (x : Int))]) (by simp [results, Try.results158, go_sem, c0_0, c0_1, c0_2, c0_3]) rfl ?_
    have KZ : Kept b0 (b0 + 1) u3 ((((u3.setCell ⟨b0, 0, none⟩ (.int .i64 5)).setCell ⟨b0, 1, none⟩ (.int .i64 (1 + (v : Int)))).setCell ⟨b0, 2, none⟩ (.int .i64 0)).setCell ⟨b0, 3, none⟩ (.int .i64 (1 + (x : Int)))) := by refine Kept.setCell (Kept.setCell (Kept.setCell (Kept.setCell (Kept.refl _ _ _) ?_ ?_ _) ?_ ?_ _) ?_ ?_ _) ?_ ?_ _ <;> simp
    replace KK := KK.low (KZ.below _ P0.out KK.size)
    have DF := h.move KK (D.src.kept KZ (Or.inl O0.out))
    clear KZ
    exact ⟨5, 1 + (v : Int), 0, 1 + (x : Int), _, rfl, by omega, by omega, by omega, by omega, by omega, DF, KK⟩
  · subst hu
    go_wp2_with fail
    refine (next_sb D 8 rfl (by omega) (by omega) (by omega)).mono ?_
    rintro e u3 ⟨x, hx, rfl, D', K', -⟩
    replace c0_0 := K'.cell c0_0 (Or.inr O0.out)
    replace c0_1 := K'.cell c0_1 (Or.inr O0.out)
    replace c0_2 := K'.cell c0_2 (Or.inr O0.out)
    replace c0_3 := K'.cell c0_3 (Or.inr O0.out)
    replace y0_0 := K'.fr y0_0 (Or.inr O0.out) H0.out
    replace y0_1 := K'.fr y0_1 (Or.inr O0.out) H0.out
    replace y0_2 := K'.fr y0_2 (Or.inr O0.out) H0.out
    replace y0_3 := K'.fr y0_3 (Or.inr O0.out) H0.out
    replace H0 : Hid (b0 < u3.heap.size) := Nat.lt_of_lt_of_le H0.out K'.size
    replace KK := KK.trans K'
    replace D := D'
    clear D' K'
    go_wp2
    refine bodyPost_ret (v := .agg #[.int .i64 3, .int .i64 (1 + (v : Int)), .int .i64 (x : Int), .int .i64 0]) (by simp [results, Try.results158, go_sem, c0_0, c0_1, c0_2, c0_3]) rfl ?_
    have KZ : Kept b0 (b0 + 1) u3 ((((u3.setCell ⟨b0, 0, none⟩ (.int .i64 3)).setCell ⟨b0, 1, none⟩ (.int .i64 (1 + (v : Int)))).setCell ⟨b0, 2, none⟩ (.int .i64 (x : Int))).setCell ⟨b0, 3, none⟩ (.int .i64 0)) := by refine Kept.setCell (Kept.setCell (Kept.setCell (Kept.setCell (Kept.refl _ _ _) ?_ ?_ _) ?_ ?_ _) ?_ ?_ _) ?_ ?_ _ <;> simp
    replace KK := KK.low (KZ.below _ P0.out KK.size)
    have DF := h.move KK (D.src.kept KZ (Or.inl O0.out))
    clear KZ
    exact ⟨3, 1 + (v : Int), (x : Int), 0, _, rfl, by omega, by omega, by omega, by omega, by omega, DF, KK⟩
  · subst hu
    go_wp2_with fail
    refine (next_sb D 8 rfl (by omega) (by omega) (by omega)).mono ?_
    rintro e u3 ⟨x, hx, rfl, D', K', -⟩
    replace c0_0 := K'.cell c0_0 (Or.inr O0.out)
    replace c0_1 := K'.cell c0_1 (Or.inr O0.out)
    replace c0_2 := K'.cell c0_2 (Or.inr O0.out)
    replace c0_3 := K'.cell c0_3 (Or.inr O0.out)
    replace y0_0 := K'.fr y0_0 (Or.inr O0.out) H0.out
    replace y0_1 := K'.fr y0_1 (Or.inr O0.out) H0.out
    replace y0_2 := K'.fr y0_2 (Or.inr O0.out) H0.out
    replace y0_3 := K'.fr y0_3 (Or.inr O0.out) H0.out
    replace H0 : Hid (b0 < u3.heap.size) := Nat.lt_of_lt_of_le H0.out K'.size
    replace KK := KK.trans K'
    replace D := D'
    clear D' K'
    go_wp2
    refine bodyPost_ret (v := .agg #[.int .i64 4, .int .i64 (1 + (v : Int)), .int .i64 (x : Int), .int .i64 0]) (by simp [results, Try.results158, go_sem, c0_0, c0_1, c0_2, c0_3]) rfl ?_
    have KZ : Kept b0 (b0 + 1) u3 ((((u3.setCell ⟨b0, 0, none⟩ (.int .i64 4)).setCell ⟨b0, 1, none⟩ (.int .i64 (1 + (v : Int)))).setCell ⟨b0, 2, none⟩ (.int .i64 (x : Int))).setCell ⟨b0, 3, none⟩ (.int .i64 0)) := by refine Kept.setCell (Kept.setCell (Kept.setCell (Kept.setCell (Kept.refl _ _ _) ?_ ?_ _) ?_ ?_ _) ?_ ?_ _) ?_ ?_ _ <;> simp
    replace KK := KK.low (KZ.below _ P0.out KK.size)
    have DF := h.move KK (D.src.kept KZ (Or.inl O0.out))
    clear KZ
    exact ⟨4, 1 + (v : Int), (x : Int), 0, _, rfl, by omega, by omega, by omega, by omega, by omega, DF, KK⟩
  · subst hu
    go_wp2_with fail
    refine (chance_sb D 3 rfl (by omega) (by omega) (by omega)).mono ?_
    rintro e u3 ⟨bb, rfl, D', K', -⟩
    replace c0_0 := K'.cell c0_0 (Or.inr O0.out)
    replace c0_1 := K'.cell c0_1 (Or.inr O0.out)
    replace c0_2 := K'.cell c0_2 (Or.inr O0.out)
    replace c0_3 := K'.cell c0_3 (Or.inr O0.out)
    replace y0_0 := K'.fr y0_0 (Or.inr O0.out) H0.out
    replace y0_1 := K'.fr y0_1 (Or.inr O0.out) H0.out
    replace y0_2 := K'.fr y0_2 (Or.inr O0.out) H0.out
    replace y0_3 := K'.fr y0_3 (Or.inr O0.out) H0.out
    replace H0 : Hid (b0 < u3.heap.size) := Nat.lt_of_lt_of_le H0.out K'.size
    replace KK := KK.trans K'
    replace D := D'
    clear D' K'
    cases bb with
    | true =>
      go_wp2
      refine bodyPost_ret (v := .agg #[.int .i64 6, .int .i64 (1 + (v : Int)), .int .i64 0, .int .i64 0]) (by simp [results, Try.results158, go_sem, c0_0, c0_1, c0_2, c0_3]) rfl ?_
      have KZ : Kept b0 (b0 + 1) u3 ((((u3.setCell ⟨b0, 0, none⟩ (.int .i64 6)).setCell ⟨b0, 1, none⟩ (.int .i64 (1 + (v : Int)))).setCell ⟨b0, 2, none⟩ (.int .i64 0)).setCell ⟨b0, 3, none⟩ (.int .i64 0)) := by refine Kept.setCell (Kept.setCell (Kept.setCell (Kept.setCell (Kept.refl _ _ _) ?_ ?_ _) ?_ ?_ _) ?_ ?_ _) ?_ ?_ _ <;> simp
      replace KK := KK.low (KZ.below _ P0.out KK.size)
      have DF := h.move KK (D.src.kept KZ (Or.inl O0.out))
      clear KZ
      exact ⟨6, 1 + (v : Int), 0, 0, _, rfl, by omega, by omega, by omega, by omega, by omega, DF, KK⟩
    | false =>
      go_wp2_with fail
      refine (next_sb D 8 rfl (by omega) (by omega) (by omega)).mono ?_
      rintro e u4 ⟨x, hx, rfl, D', K', -⟩
      replace c0_0 := K'.cell c0_0 (Or.inr O0.out)
      replace c0_1 := K'.cell c0_1 (Or.inr O0.out)
      replace c0_2 := K'.cell c0_2 (Or.inr O0.out)
      replace c0_3 := K'.cell c0_3 (Or.inr O0.out)
      replace y0_0 := K'.fr y0_0 (Or.inr O0.out) H0.out
      replace y0_1 := K'.fr y0_1 (Or.inr O0.out) H0.out
      replace y0_2 := K'.fr y0_2 (Or.inr O0.out) H0.out
      replace y0_3 := K'.fr y0_3 (Or.inr O0.out) H0.out
      replace H0 : Hid (b0 < u4.heap.size) := Nat.lt_of_lt_of_le H0.out K'.size
      replace KK := KK.trans K'
      replace D := D'
      clear D' K'
      go_wp2_with fail
      refine (next_sb D 99 rfl (by omega) (by omega) (by omega)).mono ?_
      rintro e u5 ⟨y, hy, rfl, D', K', -⟩
      replace c0_0 := K'.cell c0_0 (Or.inr O0.out)
      replace c0_1 := K'.cell c0_1 (Or.inr O0.out)
      replace c0_2 := K'.cell c0_2 (Or.inr O0.out)
      replace c0_3 := K'.cell c0_3 (Or.inr O0.out)
      replace y0_0 := K'.fr y0_0 (Or.inr O0.out) H0.out
      replace y0_1 := K'.fr y0_1 (Or.inr O0.out) H0.out
      replace y0_2 := K'.fr y0_2 (Or.inr O0.out) H0.out
      replace y0_3 := K'.fr y0_3 (Or.inr O0.out) H0.out
      replace H0 : Hid (b0 < u5.heap.size) := Nat.lt_of_lt_of_le H0.out K'.size
      replace KK := KK.trans K'
      replace D := D'
      clear D' K'
      go_wp2
      refine bodyPost_ret (v := .agg #[.int .i64 2, .int .i64 (1 + (v : Int)), .int .i64 (x : Int), .int .i64 (y : Int)]) (by simp [results, Try.results158, go_sem, c0_0, c0_1, c0_2, c0_3]) rfl ?_
      have KZ : Kept b0 (b0 + 1) u5 ((((u5.setCell ⟨b0, 0, none⟩ (.int .i64 2)).setCell ⟨b0, 1, none⟩ (.int .i64 (1 + (v : Int)))).setCell ⟨b0, 2, none⟩ (.int .i64 (x : Int))).setCell ⟨b0, 3, none⟩ (.int .i64 (y : Int))) := by refine Kept.setCell (Kept.setCell (Kept.setCell (Kept.setCell (Kept.refl _ _ _) ?_ ?_ _) ?_ ?_ _) ?_ ?_ _) ?_ ?_ _ <;> simp
      replace KK := KK.low (KZ.below _ P0.out KK.size)
      have DF := h.move KK (D.src.kept KZ (Or.inl O0.out))
      clear KZ
      exact ⟨2, 1 + (v : Int), (x : Int), (y : Int), _, rfl, by omega, by omega, by omega, by omega, by omega, DF, KK⟩
  · have n0 : ((u : Int) == 0) = false := by simp; omega
    have n1 : ((u : Int) == 1) = false := by simp; omega
    have n2 : ((u : Int) == 2) = false := by simp; omega
    have n3 : ((u : Int) == 3) = false := by simp; omega
    have n4 : ((u : Int) == 4) = false := by simp; omega
    go_wp2_with fail
    refine (next_sb D 8 rfl (by omega) (by omega) (by omega)).mono ?_
    rintro e u3 ⟨x, hx, rfl, D', K', -⟩
    replace c0_0 := K'.cell c0_0 (Or.inr O0.out)
    replace c0_1 := K'.cell c0_1 (Or.inr O0.out)
    replace c0_2 := K'.cell c0_2 (Or.inr O0.out)
    replace c0_3 := K'.cell c0_3 (Or.inr O0.out)
    replace y0_0 := K'.fr y0_0 (Or.inr O0.out) H0.out
    replace y0_1 := K'.fr y0_1 (Or.inr O0.out) H0.out
    replace y0_2 := K'.fr y0_2 (Or.inr O0.out) H0.out
    replace y0_3 := K'.fr y0_3 (Or.inr O0.out) H0.out
    replace H0 : Hid (b0 < u3.heap.size) := Nat.lt_of_lt_of_le H0.out K'.size
    replace KK := KK.trans K'
    replace D := D'
    clear D' K'
    go_wp2_with fail
    refine (next_sb D 99 rfl (by omega) (by omega) (by omega)).mono ?_
    rintro e u4 ⟨y, hy, rfl, D', K', -⟩
    replace c0_0 := K'.cell c0_0 (Or.inr O0.out)
    replace c0_1 := K'.cell c0_1 (Or.inr O0.out)
    replace c0_2 := K'.cell c0_2 (Or.inr O0.out)
    replace c0_3 := K'.cell c0_3 (Or.inr O0.out)
    replace y0_0 := K'.fr y0_0 (Or.inr O0.out) H0.out
    replace y0_1 := K'.fr y0_1 (Or.inr O0.out) H0.out
    replace y0_2 := K'.fr y0_2 (Or.inr O0.out) H0.out
    replace y0_3 := K'.fr y0_3 (Or.inr O0.out) H0.out
    replace H0 : Hid (b0 < u4.heap.size) := Nat.lt_of_lt_of_le H0.out K'.size
    replace KK := KK.trans K'
    replace D := D'
    clear D' K'
    go_wp2
    refine bodyPost_ret (v := .agg #[.int .i64 2, .int .i64 (1 + (v : Int)), .int .i64 (x : Int), .int .i64 (y : Int)]) (by simp [results, Try.results158, go_sem, c0_0, c0_1, c0_2, c0_3]) rfl ?_
    have KZ : Kept b0 (b0 + 1) u4 ((((u4.setCell ⟨b0, 0, none⟩ (.int .i64 2)).setCell ⟨b0, 1, none⟩ (.int .i64 (1 + (v : Int)))).setCell ⟨b0, 2, none⟩ (.int .i64 (x : Int))).setCell ⟨b0, 3, none⟩ (.int .i64 (y : Int))) := by refine Kept.setCell (Kept.setCell (Kept.setCell (Kept.setCell (Kept.refl _ _ _) ?_ ?_ _) ?_ ?_ _) ?_ ?_ _) ?_ ?_ _ <;> simp
    replace KK := KK.low (KZ.below _ P0.out KK.size)
    have DF := h.move KK (D.src.kept KZ (Or.inl O0.out))
    clear KZ
    exact ⟨2, 1 + (v : Int), (x : Int), (y : Int), _, rfl, by omega, by omega, by omega, by omega, by omega, DF, KK⟩
set_option maxRecDepth 20000 in
set_option maxHeartbeats 4000000 in
theorem l8Entry_any (g p : Nat) (ac : Option Addr) (nc cc : Nat) (bs : List Nat) (w : World) (h : SB w g p ac nc cc bs) (hp : p ≤ 80000) : Calls Try.prog 112 #[.pointer (some ⟨g, 0, none⟩)] w fun e w' => ∃ (p1 q k v a x : Int) (p' : Nat), e = .returned (.agg #[.int .i64 p1, .int .i64 q, .int .i64 k, .int .i64 v, .int .i64 a, .int .i64 x]) ∧ (1 ≤ k ∧ k ≤ 6) ∧ (1 ≤ v ∧ v ≤ 4) ∧ p' ≤ p + 7 ∧ SB w' g p' ac nc cc bs ∧ Kept g (g + 1) w w' := by
  have hg : g < w.heap.size := h.lt
  have KK : Kept g (g + 1) w w := Kept.refl _ _ _
  have D := h
  go_enter Try.func112, Try.ntmps112
  go_wp2_with (first | ((with_reducible refine alloc_new 33 #[.int .i64 0, .int .i64 0, .int .i64 0, .int .i64 0, .int .i64 0, .int .i64 0] (fun _ => by kernel_rfl) ?_); intro b0 X0 N0; have O0 : Hid (g + 1 ≤ b0) := Nat.le_trans (Nat.le_trans hg KK.size) N0.ge; have P0 : Hid (w.heap.size ≤ b0) := Nat.le_trans KK.size N0.ge; replace D := D.below N0.below; replace KK := KK.next N0.below; have H0 : Hid (b0 < X0.heap.size) := N0.lt; have c0_0 : X0.cell? ⟨b0, 0, none⟩ = some (.int .i64 0) := N0.cell 0 _ rfl; have c0_1 : X0.cell? ⟨b0, 1, none⟩ = some (.int .i64 0) := N0.cell 1 _ rfl; have c0_2 : X0.cell? ⟨b0, 2, none⟩ = some (.int .i64 0) := N0.cell 2 _ rfl; have c0_3 : X0.cell? ⟨b0, 3, none⟩ = some (.int .i64 0) := N0.cell 3 _ rfl; have c0_4 : X0.cell? ⟨b0, 4, none⟩ = some (.int .i64 0) := N0.cell 4 _ rfl; have c0_5 : X0.cell? ⟨b0, 5, none⟩ = some (.int .i64 0) := N0.cell 5 _ rfl; have y0_0 : X0.frozen? ⟨b0, 0, none⟩ = false := N0.froz 0; have y0_1 : X0.frozen? ⟨b0, 1, none⟩ = false := N0.froz 1; have y0_2 : X0.frozen? ⟨b0, 2, none⟩ = false := N0.froz 2; have y0_3 : X0.frozen? ⟨b0, 3, none⟩ = false := N0.froz 3; have y0_4 : X0.frozen? ⟨b0, 4, none⟩ = false := N0.froz 4; have y0_5 : X0.frozen? ⟨b0, 5, none⟩ = false := N0.froz 5; clear N0) | fail)
  refine (next_sb D 3 rfl (by omega) (by omega) (by omega)).mono ?_
  rintro e u1 ⟨a1, ha1, rfl, D', K', -⟩
  replace c0_0 := K'.cell c0_0 (Or.inr O0.out)
  replace c0_1 := K'.cell c0_1 (Or.inr O0.out)
  replace c0_2 := K'.cell c0_2 (Or.inr O0.out)
  replace c0_3 := K'.cell c0_3 (Or.inr O0.out)
  replace c0_4 := K'.cell c0_4 (Or.inr O0.out)
  replace c0_5 := K'.cell c0_5 (Or.inr O0.out)
  replace y0_0 := K'.fr y0_0 (Or.inr O0.out) H0.out
  replace y0_1 := K'.fr y0_1 (Or.inr O0.out) H0.out
  replace y0_2 := K'.fr y0_2 (Or.inr O0.out) H0.out
  replace y0_3 := K'.fr y0_3 (Or.inr O0.out) H0.out
  replace y0_4 := K'.fr y0_4 (Or.inr O0.out) H0.out
  replace y0_5 := K'.fr y0_5 (Or.inr O0.out) H0.out
  replace H0 : Hid (b0 < u1.heap.size) := Nat.lt_of_lt_of_le H0.out K'.size
  replace KK := KK.trans K'
  replace D := D'
  clear D' K'
  have hw1 : IntKind.i64.wrap (1 + (a1 : Int)) = 1 + (a1 : Int) := wrapI_same _ (by omega)
  go_wp2_with fail
  refine (next_sb D 9 rfl (by omega) (by omega) (by omega)).mono ?_
  rintro e u2 ⟨a2, ha2, rfl, D', K', -⟩
  replace c0_0 := K'.cell c0_0 (Or.inr O0.out)
  replace c0_1 := K'.cell c0_1 (Or.inr O0.out)
  replace c0_2 := K'.cell c0_2 (Or.inr O0.out)
  replace c0_3 := K'.cell c0_3 (Or.inr O0.out)
  replace c0_4 := K'.cell c0_4 (Or.inr O0.out)
  replace c0_5 := K'.cell c0_5 (Or.inr O0.out)
  replace y0_0 := K'.fr y0_0 (Or.inr O0.out) H0.out
  replace y0_1 := K'.fr y0_1 (Or.inr O0.out) H0.out
  replace y0_2 := K'.fr y0_2 (Or.inr O0.out) H0.out
  replace y0_3 := K'.fr y0_3 (Or.inr O0.out) H0.out
  replace y0_4 := K'.fr y0_4 (Or.inr O0.out) H0.out
  replace y0_5 := K'.fr y0_5 (Or.inr O0.out) H0.out
  replace H0 : Hid (b0 < u2.heap.size) := Nat.lt_of_lt_of_le H0.out K'.size
  replace KK := KK.trans K'
  replace D := D'
  clear D' K'
  have hw2 : IntKind.i64.wrap (1 + (a2 : Int)) = 1 + (a2 : Int) := wrapI_same _ (by omega)
  go_wp2_with fail
  refine (l5Op_any g _ ac nc cc bs _ D (by omega)).mono ?_
  rintro e u3 ⟨k, v, a, x, p', rfl, hk, hv, ha, hx, hp', D', K'⟩
  replace c0_0 := K'.cell c0_0 (Or.inr O0.out)
  replace c0_1 := K'.cell c0_1 (Or.inr O0.out)
  replace c0_2 := K'.cell c0_2 (Or.inr O0.out)
  replace c0_3 := K'.cell c0_3 (Or.inr O0.out)
  replace c0_4 := K'.cell c0_4 (Or.inr O0.out)
  replace c0_5 := K'.cell c0_5 (Or.inr O0.out)
  replace y0_0 := K'.fr y0_0 (Or.inr O0.out) H0.out
  replace y0_1 := K'.fr y0_1 (Or.inr O0.out) H0.out
  replace y0_2 := K'.fr y0_2 (Or.inr O0.out) H0.out
  replace y0_3 := K'.fr y0_3 (Or.inr O0.out) H0.out
  replace y0_4 := K'.fr y0_4 (Or.inr O0.out) H0.out
  replace y0_5 := K'.fr y0_5 (Or.inr O0.out) H0.out
  replace H0 : Hid (b0 < u3.heap.size) := Nat.lt_of_lt_of_le H0.out K'.size
  replace KK := KK.trans K'
  replace D := D'
  clear D' K'
  go_wp2
  refine bodyPost_ret (v := .agg #[.int .i64 (1 + (a1 : Int)), .int .i64 (1 + (a2 : Int)), .int .i64 k, .int .i64 v, .int .i64 a, .int .i64 x]) (by simp [results, Try.results112, go_sem, c0_0, c0_1, c0_2, c0_3, c0_4, c0_5]) rfl ?_
  have KZ : Kept b0 (b0 + 1) u3 ((((((u3.setCell ⟨b0, 0, none⟩ (.int .i64 (1 + (a1 : Int)))).setCell ⟨b0, 1, none⟩ (.int .i64 (1 + (a2 : Int)))).setCell ⟨b0, 2, none⟩ (.int .i64 k)).setCell ⟨b0, 3, none⟩ (.int .i64 v)).setCell ⟨b0, 4, none⟩ (.int .i64 a)).setCell ⟨b0, 5, none⟩ (.int .i64 x)) := by refine Kept.setCell (Kept.setCell (Kept.setCell (Kept.setCell (Kept.setCell (Kept.setCell (Kept.refl _ _ _) ?_ ?_ _) ?_ ?_ _) ?_ ?_ _) ?_ ?_ _) ?_ ?_ _) ?_ ?_ _ <;> simp
  replace KK := KK.low (KZ.below _ P0.out KK.size)
  have DF := h.move KK (D.src.kept KZ (Or.inl O0.out))
  clear KZ
  exact ⟨_, _, k, v, a, x, p', rfl, hk, hv, by omega, DF, KK⟩
set_option maxRecDepth 20000 in
set_option maxHeartbeats 4000000 in
theorem l5Bent_any (g p : Nat) (ac : Option Addr) (nc cc : Nat) (bs : List Nat) (w : World) (h : SB w g p ac nc cc bs) (hp : p ≤ 80000) : Calls Try.prog 113 #[.pointer (some ⟨g, 0, none⟩)] w fun e w' => ∃ (k v a x : Int), e = .returned (.agg #[.int .i64 k, .int .i64 v, .int .i64 a, .int .i64 x]) ∧ ∃ p', p' ≤ p + 9 ∧ SB w' g p' ac nc cc bs ∧ Kept g (g + 1) w w' := by
  have hg : g < w.heap.size := h.lt
  have KK : Kept g (g + 1) w w := Kept.refl _ _ _
  have D := h
  go_enter Try.func113, Try.ntmps113
  go_wp2_with (first | ((with_reducible refine alloc_new 31 #[.int .i64 0, .int .i64 0, .int .i64 0, .int .i64 0] (fun _ => by kernel_rfl) ?_); intro b0 X0 N0; have O0 : Hid (g + 1 ≤ b0) := Nat.le_trans (Nat.le_trans hg KK.size) N0.ge; have P0 : Hid (w.heap.size ≤ b0) := Nat.le_trans KK.size N0.ge; replace D := D.below N0.below; replace KK := KK.next N0.below; have H0 : Hid (b0 < X0.heap.size) := N0.lt; have c0_0 : X0.cell? ⟨b0, 0, none⟩ = some (.int .i64 0) := N0.cell 0 _ rfl; have c0_1 : X0.cell? ⟨b0, 1, none⟩ = some (.int .i64 0) := N0.cell 1 _ rfl; have c0_2 : X0.cell? ⟨b0, 2, none⟩ = some (.int .i64 0) := N0.cell 2 _ rfl; have c0_3 : X0.cell? ⟨b0, 3, none⟩ = some (.int .i64 0) := N0.cell 3 _ rfl; have y0_0 : X0.frozen? ⟨b0, 0, none⟩ = false := N0.froz 0; have y0_1 : X0.frozen? ⟨b0, 1, none⟩ = false := N0.froz 1; have y0_2 : X0.frozen? ⟨b0, 2, none⟩ = false := N0.froz 2; have y0_3 : X0.frozen? ⟨b0, 3, none⟩ = false := N0.froz 3; clear N0) | fail)
  refine (l5Op_any g _ ac nc cc bs _ D (by omega)).mono ?_
  rintro e u1 ⟨z0, z1, z2, z3, p', rfl, _, _, _, _, hp', D', K'⟩
  replace c0_0 := K'.cell c0_0 (Or.inr O0.out)
  replace c0_1 := K'.cell c0_1 (Or.inr O0.out)
  replace c0_2 := K'.cell c0_2 (Or.inr O0.out)
  replace c0_3 := K'.cell c0_3 (Or.inr O0.out)
  replace y0_0 := K'.fr y0_0 (Or.inr O0.out) H0.out
  replace y0_1 := K'.fr y0_1 (Or.inr O0.out) H0.out
  replace y0_2 := K'.fr y0_2 (Or.inr O0.out) H0.out
  replace y0_3 := K'.fr y0_3 (Or.inr O0.out) H0.out
  replace H0 : Hid (b0 < u1.heap.size) := Nat.lt_of_lt_of_le H0.out K'.size
  replace KK := KK.trans K'
  replace D := D'
  clear D' K'
  go_wp2_with (first | ((with_reducible refine alloc_new 31 #[.int .i64 0, .int .i64 0, .int .i64 0, .int .i64 0] (fun _ => by kernel_rfl) ?_); intro b1 X1 N1; have O1 : Hid (g + 1 ≤ b1) := Nat.le_trans (Nat.le_trans hg KK.size) N1.ge; have P1 : Hid (w.heap.size ≤ b1) := Nat.le_trans KK.size N1.ge; have Q1 : Hid (b0 < b1) := Nat.lt_of_lt_of_le H0.out N1.ge; replace c0_0 := cell_later N1.below c0_0; replace c0_1 := cell_later N1.below c0_1; replace c0_2 := cell_later N1.below c0_2; replace c0_3 := cell_later N1.below c0_3; replace y0_0 := frozen_later N1.below H0.out y0_0; replace y0_1 := frozen_later N1.below H0.out y0_1; replace y0_2 := frozen_later N1.below H0.out y0_2; replace y0_3 := frozen_later N1.below H0.out y0_3; replace H0 : Hid (b0 < X1.heap.size) := Nat.lt_of_lt_of_le H0.out N1.below.size; replace D := D.below N1.below; replace KK := KK.next N1.below; have H1 : Hid (b1 < X1.heap.size) := N1.lt; have c1_0 : X1.cell? ⟨b1, 0, none⟩ = some (.int .i64 0) := N1.cell 0 _ rfl; have c1_1 : X1.cell? ⟨b1, 1, none⟩ = some (.int .i64 0) := N1.cell 1 _ rfl; have c1_2 : X1.cell? ⟨b1, 2, none⟩ = some (.int .i64 0) := N1.cell 2 _ rfl; have c1_3 : X1.cell? ⟨b1, 3, none⟩ = some (.int .i64 0) := N1.cell 3 _ rfl; have y1_0 : X1.frozen? ⟨b1, 0, none⟩ = false := N1.froz 0; have y1_1 : X1.frozen? ⟨b1, 1, none⟩ = false := N1.froz 1; have y1_2 : X1.frozen? ⟨b1, 2, none⟩ = false := N1.froz 2; have y1_3 : X1.frozen? ⟨b1, 3, none⟩ = false := N1.froz 3; clear N1) | ((with_reducible refine store_box 31 b1 [.int .i64 z0, .int .i64 z1, .int .i64 z2, .int .i64 z3] (by simp) (there4 c1_0 c1_1 c1_2 c1_3 y1_0 y1_1 y1_2 y1_3) (by kernel_rfl) (by simp [Value.oneCell']) rfl rfl ?_); intro Y1 S1; replace c0_0 := S1.kept.cell c0_0 (Or.inl Q1.out); replace c0_1 := S1.kept.cell c0_1 (Or.inl Q1.out); replace c0_2 := S1.kept.cell c0_2 (Or.inl Q1.out); replace c0_3 := S1.kept.cell c0_3 (Or.inl Q1.out); replace y0_0 := S1.kept.fr y0_0 (Or.inl Q1.out) H0.out; replace y0_1 := S1.kept.fr y0_1 (Or.inl Q1.out) H0.out; replace y0_2 := S1.kept.fr y0_2 (Or.inl Q1.out) H0.out; replace y0_3 := S1.kept.fr y0_3 (Or.inl Q1.out) H0.out; replace H0 : Hid (b0 < Y1.heap.size) := Nat.lt_of_lt_of_le H0.out S1.kept.size; replace c1_0 : Y1.cell? ⟨b1, 0, none⟩ = some (.int .i64 z0) := S1.cell 0 _ rfl; replace c1_1 : Y1.cell? ⟨b1, 1, none⟩ = some (.int .i64 z1) := S1.cell 1 _ rfl; replace c1_2 : Y1.cell? ⟨b1, 2, none⟩ = some (.int .i64 z2) := S1.cell 2 _ rfl; replace c1_3 : Y1.cell? ⟨b1, 3, none⟩ = some (.int .i64 z3) := S1.cell 3 _ rfl; replace y1_0 := S1.fr y1_0; replace y1_1 := S1.fr y1_1; replace y1_2 := S1.fr y1_2; replace y1_3 := S1.fr y1_3; replace H1 : Hid (b1 < Y1.heap.size) := Nat.lt_of_lt_of_le H1.out S1.kept.size; replace KK := KK.low (S1.kept.below _ P1.out KK.size); replace D := h.move KK (D.src.kept S1.kept (Or.inl O1.out)); clear S1) | fail)
  refine (next_sb D 12 rfl (by omega) (by omega) (by omega)).mono ?_
  rintro e u2 ⟨u, hu, rfl, D', K', -⟩
  replace c0_0 := K'.cell c0_0 (Or.inr O0.out)
  replace c0_1 := K'.cell c0_1 (Or.inr O0.out)
  replace c0_2 := K'.cell c0_2 (Or.inr O0.out)
  replace c0_3 := K'.cell c0_3 (Or.inr O0.out)
  replace y0_0 := K'.fr y0_0 (Or.inr O0.out) H0.out
  replace y0_1 := K'.fr y0_1 (Or.inr O0.out) H0.out
  replace y0_2 := K'.fr y0_2 (Or.inr O0.out) H0.out
  replace y0_3 := K'.fr y0_3 (Or.inr O0.out) H0.out
  replace H0 : Hid (b0 < u2.heap.size) := Nat.lt_of_lt_of_le H0.out K'.size
  replace c1_0 := K'.cell c1_0 (Or.inr O1.out)
  replace c1_1 := K'.cell c1_1 (Or.inr O1.out)
  replace c1_2 := K'.cell c1_2 (Or.inr O1.out)
  replace c1_3 := K'.cell c1_3 (Or.inr O1.out)
  replace y1_0 := K'.fr y1_0 (Or.inr O1.out) H1.out
  replace y1_1 := K'.fr y1_1 (Or.inr O1.out) H1.out
  replace y1_2 := K'.fr y1_2 (Or.inr O1.out) H1.out
  replace y1_3 := K'.fr y1_3 (Or.inr O1.out) H1.out
  replace H1 : Hid (b1 < u2.heap.size) := Nat.lt_of_lt_of_le H1.out K'.size
  replace KK := KK.trans K'
  replace D := D'
  clear D' K'
  rcases (by omega : u = 0 ∨ u = 1 ∨ u = 2 ∨ u = 3 ∨ 4 ≤ u) with hu | hu | hu | hu | hu
  · subst hu
    go_wp2_with fail
    have A : Below u2.heap.size u2 (u2.alloc (.cells #[.int .i64 0, .int .i64 7, .int .i64 1, .int .i64 4] 2)) := (Below.refl _ _).alloc (Nat.le_refl _) _
    have rl := row_lit u2 [.int .i64 0, .int .i64 7, .int .i64 1, .int .i64 4] 2 4 1 rfl
    have hsz : g + 1 ≤ u2.heap.size := Nat.le_trans hg KK.size
    replace c0_0 := cell_later A c0_0
    replace c0_1 := cell_later A c0_1
    replace c0_2 := cell_later A c0_2
    replace c0_3 := cell_later A c0_3
    replace y0_0 := frozen_later A H0.out y0_0
    replace y0_1 := frozen_later A H0.out y0_1
    replace y0_2 := frozen_later A H0.out y0_2
    replace y0_3 := frozen_later A H0.out y0_3
    replace H0 : Hid (b0 < (u2.alloc (.cells #[.int .i64 0, .int .i64 7, .int .i64 1, .int .i64 4] 2)).heap.size) := Nat.lt_of_lt_of_le H0.out A.size
    replace c1_0 := cell_later A c1_0
    replace c1_1 := cell_later A c1_1
    replace c1_2 := cell_later A c1_2
    replace c1_3 := cell_later A c1_3
    replace y1_0 := frozen_later A H1.out y1_0
    replace y1_1 := frozen_later A H1.out y1_1
    replace y1_2 := frozen_later A H1.out y1_2
    replace y1_3 := frozen_later A H1.out y1_3
    replace H1 : Hid (b1 < (u2.alloc (.cells #[.int .i64 0, .int .i64 7, .int .i64 1, .int .i64 4] 2)).heap.size) := Nat.lt_of_lt_of_le H1.out A.size
    replace D := D.below A
    replace KK := KK.next A
    clear A
    refine (pick_sb D 4 rfl (by omega) (by omega) (by omega) _ _ [0, 7, 1, 4] (by exact rl) (by omega)).mono ?_
    rintro e u3 ⟨y, rfl, D', K', -⟩
    replace c0_0 := K'.cell c0_0 (Or.inr O0.out)
    replace c0_1 := K'.cell c0_1 (Or.inr O0.out)
    replace c0_2 := K'.cell c0_2 (Or.inr O0.out)
    replace c0_3 := K'.cell c0_3 (Or.inr O0.out)
    replace y0_0 := K'.fr y0_0 (Or.inr O0.out) H0.out
    replace y0_1 := K'.fr y0_1 (Or.inr O0.out) H0.out
    replace y0_2 := K'.fr y0_2 (Or.inr O0.out) H0.out
    replace y0_3 := K'.fr y0_3 (Or.inr O0.out) H0.out
    replace H0 : Hid (b0 < u3.heap.size) := Nat.lt_of_lt_of_le H0.out K'.size
    replace c1_0 := K'.cell c1_0 (Or.inr O1.out)
    replace c1_1 := K'.cell c1_1 (Or.inr O1.out)
    replace c1_2 := K'.cell c1_2 (Or.inr O1.out)
    replace c1_3 := K'.cell c1_3 (Or.inr O1.out)
    replace y1_0 := K'.fr y1_0 (Or.inr O1.out) H1.out
    replace y1_1 := K'.fr y1_1 (Or.inr O1.out) H1.out
    replace y1_2 := K'.fr y1_2 (Or.inr O1.out) H1.out
    replace y1_3 := K'.fr y1_3 (Or.inr O1.out) H1.out
    replace H1 : Hid (b1 < u3.heap.size) := Nat.lt_of_lt_of_le H1.out K'.size
    replace KK := KK.trans K'
    replace D := D'
    clear D' K' rl hsz
    have SK : Kept b1 (b1 + 1) u3 (u3.setCell ⟨b1, 0, none⟩ (.int .i64 y)) := Kept.setCell (Kept.refl _ _ _) (p := ⟨b1, 0, none⟩) (Nat.le_refl _) (Nat.lt_succ_self _) _
    replace KK := KK.low (SK.below _ P1.out KK.size)
    replace D := h.move KK (D.src.kept SK (Or.inl O1.out))
    replace c0_0 := SK.cell c0_0 (Or.inl Q1.out)
    replace c0_1 := SK.cell c0_1 (Or.inl Q1.out)
    replace c0_2 := SK.cell c0_2 (Or.inl Q1.out)
    replace c0_3 := SK.cell c0_3 (Or.inl Q1.out)
    replace y0_0 := SK.fr y0_0 (Or.inl Q1.out) H0.out
    replace y0_1 := SK.fr y0_1 (Or.inl Q1.out) H0.out
    replace y0_2 := SK.fr y0_2 (Or.inl Q1.out) H0.out
    replace y0_3 := SK.fr y0_3 (Or.inl Q1.out) H0.out
    go_wp2
    refine bodyPost_ret (v := .agg #[.int .i64 y, .int .i64 z1, .int .i64 z2, .int .i64 z3]) (by simp [results, Try.results113, go_sem, c0_0, c0_1, c0_2, c0_3]) rfl ?_
    have KZ : Kept b0 (b0 + 1) (u3.setCell ⟨b1, 0, none⟩ (.int .i64 y)) (((((u3.setCell ⟨b1, 0, none⟩ (.int .i64 y)).setCell ⟨b0, 0, none⟩ (.int .i64 y)).setCell ⟨b0, 1, none⟩ (.int .i64 z1)).setCell ⟨b0, 2, none⟩ (.int .i64 z2)).setCell ⟨b0, 3, none⟩ (.int .i64 z3)) := by refine Kept.setCell (Kept.setCell (Kept.setCell (Kept.setCell (Kept.refl _ _ _) ?_ ?_ _) ?_ ?_ _) ?_ ?_ _) ?_ ?_ _ <;> simp
    replace KK := KK.low (KZ.below _ P0.out KK.size)
    have DF := h.move KK (D.src.kept KZ (Or.inl O0.out))
    clear KZ
    exact ⟨y, z1, z2, z3, rfl, _, by omega, DF, KK⟩
  · subst hu
    go_wp2_with fail
    have A : Below u2.heap.size u2 (u2.alloc (.cells #[.int .i64 0, .int .i64 100, .int .i64 9] 2)) := (Below.refl _ _).alloc (Nat.le_refl _) _
    have rl := row_lit u2 [.int .i64 0, .int .i64 100, .int .i64 9] 2 3 1 rfl
    have hsz : g + 1 ≤ u2.heap.size := Nat.le_trans hg KK.size
    replace c0_0 := cell_later A c0_0
    replace c0_1 := cell_later A c0_1
    replace c0_2 := cell_later A c0_2
    replace c0_3 := cell_later A c0_3
    replace y0_0 := frozen_later A H0.out y0_0
    replace y0_1 := frozen_later A H0.out y0_1
    replace y0_2 := frozen_later A H0.out y0_2
    replace y0_3 := frozen_later A H0.out y0_3
    replace H0 : Hid (b0 < (u2.alloc (.cells #[.int .i64 0, .int .i64 100, .int .i64 9] 2)).heap.size) := Nat.lt_of_lt_of_le H0.out A.size
    replace c1_0 := cell_later A c1_0
    replace c1_1 := cell_later A c1_1
    replace c1_2 := cell_later A c1_2
    replace c1_3 := cell_later A c1_3
    replace y1_0 := frozen_later A H1.out y1_0
    replace y1_1 := frozen_later A H1.out y1_1
    replace y1_2 := frozen_later A H1.out y1_2
    replace y1_3 := frozen_later A H1.out y1_3
    replace H1 : Hid (b1 < (u2.alloc (.cells #[.int .i64 0, .int .i64 100, .int .i64 9] 2)).heap.size) := Nat.lt_of_lt_of_le H1.out A.size
    replace D := D.below A
    replace KK := KK.next A
    clear A
    refine (pick_sb D 3 rfl (by omega) (by omega) (by omega) _ _ [0, 100, 9] (by exact rl) (by omega)).mono ?_
    rintro e u3 ⟨y, rfl, D', K', -⟩
    replace c0_0 := K'.cell c0_0 (Or.inr O0.out)
    replace c0_1 := K'.cell c0_1 (Or.inr O0.out)
    replace c0_2 := K'.cell c0_2 (Or.inr O0.out)
    replace c0_3 := K'.cell c0_3 (Or.inr O0.out)
    replace y0_0 := K'.fr y0_0 (Or.inr O0.out) H0.out
    replace y0_1 := K'.fr y0_1 (Or.inr O0.out) H0.out
    replace y0_2 := K'.fr y0_2 (Or.inr O0.out) H0.out
    replace y0_3 := K'.fr y0_3 (Or.inr O0.out) H0.out
    replace H0 : Hid (b0 < u3.heap.size) := Nat.lt_of_lt_of_le H0.out K'.size
    replace c1_0 := K'.cell c1_0 (Or.inr O1.out)
    replace c1_1 := K'.cell c1_1 (Or.inr O1.out)
    replace c1_2 := K'.cell c1_2 (Or.inr O1.out)
    replace c1_3 := K'.cell c1_3 (Or.inr O1.out)
    replace y1_0 := K'.fr y1_0 (Or.inr O1.out) H1.out
    replace y1_1 := K'.fr y1_1 (Or.inr O1.out) H1.out
    replace y1_2 := K'.fr y1_2 (Or.inr O1.out) H1.out
    replace y1_3 := K'.fr y1_3 (Or.inr O1.out) H1.out
    replace H1 : Hid (b1 < u3.heap.size) := Nat.lt_of_lt_of_le H1.out K'.size
    replace KK := KK.trans K'
    replace D := D'
    clear D' K' rl hsz
    have SK : Kept b1 (b1 + 1) u3 (u3.setCell ⟨b1, 1, none⟩ (.int .i64 y)) := Kept.setCell (Kept.refl _ _ _) (p := ⟨b1, 1, none⟩) (Nat.le_refl _) (Nat.lt_succ_self _) _
    replace KK := KK.low (SK.below _ P1.out KK.size)
    replace D := h.move KK (D.src.kept SK (Or.inl O1.out))
    replace c0_0 := SK.cell c0_0 (Or.inl Q1.out)
    replace c0_1 := SK.cell c0_1 (Or.inl Q1.out)
    replace c0_2 := SK.cell c0_2 (Or.inl Q1.out)
    replace c0_3 := SK.cell c0_3 (Or.inl Q1.out)
    replace y0_0 := SK.fr y0_0 (Or.inl Q1.out) H0.out
    replace y0_1 := SK.fr y0_1 (Or.inl Q1.out) H0.out
    replace y0_2 := SK.fr y0_2 (Or.inl Q1.out) H0.out
    replace y0_3 := SK.fr y0_3 (Or.inl Q1.out) H0.out
    go_wp2
    refine bodyPost_ret (v := .agg #[.int .i64 z0, .int .i64 y, .int .i64 z2, .int .i64 z3]) (by simp [results, Try.results113, go_sem, c0_0, c0_1, c0_2, c0_3]) rfl ?_
    have KZ : Kept b0 (b0 + 1) (u3.setCell ⟨b1, 1, none⟩ (.int .i64 y)) (((((u3.setCell ⟨b1, 1, none⟩ (.int .i64 y)).setCell ⟨b0, 0, none⟩ (.int .i64 z0)).setCell ⟨b0, 1, none⟩ (.int .i64 y)).setCell ⟨b0, 2, none⟩ (.int .i64 z2)).setCell ⟨b0, 3, none⟩ (.int .i64 z3)) := by refine Kept.setCell (Kept.setCell (Kept.setCell (Kept.setCell (Kept.refl _ _ _) ?_ ?_ _) ?_ ?_ _) ?_ ?_ _) ?_ ?_ _ <;> simp
    replace KK := KK.low (KZ.below _ P0.out KK.size)
    have DF := h.move KK (D.src.kept KZ (Or.inl O0.out))
    clear KZ
    exact ⟨z0, y, z2, z3, rfl, _, by omega, DF, KK⟩
  · subst hu
    go_wp2_with fail
    have A : Below u2.heap.size u2 (u2.alloc (.cells #[.int .i64 (-1), .int .i64 16, .int .i64 3] 2)) := (Below.refl _ _).alloc (Nat.le_refl _) _
    have rl := row_lit u2 [.int .i64 (-1), .int .i64 16, .int .i64 3] 2 3 1 rfl
    have hsz : g + 1 ≤ u2.heap.size := Nat.le_trans hg KK.size
    replace c0_0 := cell_later A c0_0
    replace c0_1 := cell_later A c0_1
    replace c0_2 := cell_later A c0_2
    replace c0_3 := cell_later A c0_3
    replace y0_0 := frozen_later A H0.out y0_0
    replace y0_1 := frozen_later A H0.out y0_1
    replace y0_2 := frozen_later A H0.out y0_2
    replace y0_3 := frozen_later A H0.out y0_3
    replace H0 : Hid (b0 < (u2.alloc (.cells #[.int .i64 (-1), .int .i64 16, .int .i64 3] 2)).heap.size) := Nat.lt_of_lt_of_le H0.out A.size
    replace c1_0 := cell_later A c1_0
    replace c1_1 := cell_later A c1_1
    replace c1_2 := cell_later A c1_2
    replace c1_3 := cell_later A c1_3
    replace y1_0 := frozen_later A H1.out y1_0
    replace y1_1 := frozen_later A H1.out y1_1
    replace y1_2 := frozen_later A H1.out y1_2
    replace y1_3 := frozen_later A H1.out y1_3
    replace H1 : Hid (b1 < (u2.alloc (.cells #[.int .i64 (-1), .int .i64 16, .int .i64 3] 2)).heap.size) := Nat.lt_of_lt_of_le H1.out A.size
    replace D := D.below A
    replace KK := KK.next A
    clear A
    refine (pick_sb D 3 rfl (by omega) (by omega) (by omega) _ _ [-1, 16, 3] (by exact rl) (by omega)).mono ?_
    rintro e u3 ⟨y, rfl, D', K', -⟩
    replace c0_0 := K'.cell c0_0 (Or.inr O0.out)
    replace c0_1 := K'.cell c0_1 (Or.inr O0.out)
    replace c0_2 := K'.cell c0_2 (Or.inr O0.out)
    replace c0_3 := K'.cell c0_3 (Or.inr O0.out)
    replace y0_0 := K'.fr y0_0 (Or.inr O0.out) H0.out
    replace y0_1 := K'.fr y0_1 (Or.inr O0.out) H0.out
    replace y0_2 := K'.fr y0_2 (Or.inr O0.out) H0.out
    replace y0_3 := K'.fr y0_3 (Or.inr O0.out) H0.out
    replace H0 : Hid (b0 < u3.heap.size) := Nat.lt_of_lt_of_le H0.out K'.size
    replace c1_0 := K'.cell c1_0 (Or.inr O1.out)
    replace c1_1 := K'.cell c1_1 (Or.inr O1.out)
    replace c1_2 := K'.cell c1_2 (Or.inr O1.out)
    replace c1_3 := K'.cell c1_3 (Or.inr O1.out)
    replace y1_0 := K'.fr y1_0 (Or.inr O1.out) H1.out
    replace y1_1 := K'.fr y1_1 (Or.inr O1.out) H1.out
    replace y1_2 := K'.fr y1_2 (Or.inr O1.out) H1.out
    replace y1_3 := K'.fr y1_3 (Or.inr O1.out) H1.out
    replace H1 : Hid (b1 < u3.heap.size) := Nat.lt_of_lt_of_le H1.out K'.size
    replace KK := KK.trans K'
    replace D := D'
    clear D' K' rl hsz
    have SK : Kept b1 (b1 + 1) u3 (u3.setCell ⟨b1, 2, none⟩ (.int .i64 y)) := Kept.setCell (Kept.refl _ _ _) (p := ⟨b1, 2, none⟩) (Nat.le_refl _) (Nat.lt_succ_self _) _
    replace KK := KK.low (SK.below _ P1.out KK.size)
    replace D := h.move KK (D.src.kept SK (Or.inl O1.out))
    replace c0_0 := SK.cell c0_0 (Or.inl Q1.out)
    replace c0_1 := SK.cell c0_1 (Or.inl Q1.out)
    replace c0_2 := SK.cell c0_2 (Or.inl Q1.out)
    replace c0_3 := SK.cell c0_3 (Or.inl Q1.out)
    replace y0_0 := SK.fr y0_0 (Or.inl Q1.out) H0.out
    replace y0_1 := SK.fr y0_1 (Or.inl Q1.out) H0.out
    replace y0_2 := SK.fr y0_2 (Or.inl Q1.out) H0.out
    replace y0_3 := SK.fr y0_3 (Or.inl Q1.out) H0.out
    go_wp2
    refine bodyPost_ret (v := .agg #[.int .i64 z0, .int .i64 z1, .int .i64 y, .int .i64 z3]) (by simp [results, Try.results113, go_sem, c0_0, c0_1, c0_2, c0_3]) rfl ?_
    have KZ : Kept b0 (b0 + 1) (u3.setCell ⟨b1, 2, none⟩ (.int .i64 y)) (((((u3.setCell ⟨b1, 2, none⟩ (.int .i64 y)).setCell ⟨b0, 0, none⟩ (.int .i64 z0)).setCell ⟨b0, 1, none⟩ (.int .i64 z1)).setCell ⟨b0, 2, none⟩ (.int .i64 y)).setCell ⟨b0, 3, none⟩ (.int .i64 z3)) := by refine Kept.setCell (Kept.setCell (Kept.setCell (Kept.setCell (Kept.refl _ _ _) ?_ ?_ _) ?_ ?_ _) ?_ ?_ _) ?_ ?_ _ <;> simp
    replace KK := KK.low (KZ.below _ P0.out KK.size)
    have DF := h.move KK (D.src.kept KZ (Or.inl O0.out))
    clear KZ
    exact ⟨z0, z1, y, z3, rfl, _, by omega, DF, KK⟩
  · subst hu
    go_wp2_with fail
    have A : Below u2.heap.size u2 (u2.alloc (.cells #[.int .i64 (-1), .int .i64 256, .int .i64 17, .int .i64 0] 2)) := (Below.refl _ _).alloc (Nat.le_refl _) _
    have rl := row_lit u2 [.int .i64 (-1), .int .i64 256, .int .i64 17, .int .i64 0] 2 4 1 rfl
    have hsz : g + 1 ≤ u2.heap.size := Nat.le_trans hg KK.size
    replace c0_0 := cell_later A c0_0
    replace c0_1 := cell_later A c0_1
    replace c0_2 := cell_later A c0_2
    replace c0_3 := cell_later A c0_3
    replace y0_0 := frozen_later A H0.out y0_0
    replace y0_1 := frozen_later A H0.out y0_1
    replace y0_2 := frozen_later A H0.out y0_2
    replace y0_3 := frozen_later A H0.out y0_3
    replace H0 : Hid (b0 < (u2.alloc (.cells #[.int .i64 (-1), .int .i64 256, .int .i64 17, .int .i64 0] 2)).heap.size) := Nat.lt_of_lt_of_le H0.out A.size
    replace c1_0 := cell_later A c1_0
    replace c1_1 := cell_later A c1_1
    replace c1_2 := cell_later A c1_2
    replace c1_3 := cell_later A c1_3
    replace y1_0 := frozen_later A H1.out y1_0
    replace y1_1 := frozen_later A H1.out y1_1
    replace y1_2 := frozen_later A H1.out y1_2
    replace y1_3 := frozen_later A H1.out y1_3
    replace H1 : Hid (b1 < (u2.alloc (.cells #[.int .i64 (-1), .int .i64 256, .int .i64 17, .int .i64 0] 2)).heap.size) := Nat.lt_of_lt_of_le H1.out A.size
    replace D := D.below A
    replace KK := KK.next A
    clear A
    refine (pick_sb D 4 rfl (by omega) (by omega) (by omega) _ _ [-1, 256, 17, 0] (by exact rl) (by omega)).mono ?_
    rintro e u3 ⟨y, rfl, D', K', -⟩
    replace c0_0 := K'.cell c0_0 (Or.inr O0.out)
    replace c0_1 := K'.cell c0_1 (Or.inr O0.out)
    replace c0_2 := K'.cell c0_2 (Or.inr O0.out)
    replace c0_3 := K'.cell c0_3 (Or.inr O0.out)
    replace y0_0 := K'.fr y0_0 (Or.inr O0.out) H0.out
    replace y0_1 := K'.fr y0_1 (Or.inr O0.out) H0.out
    replace y0_2 := K'.fr y0_2 (Or.inr O0.out) H0.out
    replace y0_3 := K'.fr y0_3 (Or.inr O0.out) H0.out
    replace H0 : Hid (b0 < u3.heap.size) := Nat.lt_of_lt_of_le H0.out K'.size
    replace c1_0 := K'.cell c1_0 (Or.inr O1.out)
    replace c1_1 := K'.cell c1_1 (Or.inr O1.out)
    replace c1_2 := K'.cell c1_2 (Or.inr O1.out)
    replace c1_3 := K'.cell c1_3 (Or.inr O1.out)
    replace y1_0 := K'.fr y1_0 (Or.inr O1.out) H1.out
    replace y1_1 := K'.fr y1_1 (Or.inr O1.out) H1.out
    replace y1_2 := K'.fr y1_2 (Or.inr O1.out) H1.out
    replace y1_3 := K'.fr y1_3 (Or.inr O1.out) H1.out
    replace H1 : Hid (b1 < u3.heap.size) := Nat.lt_of_lt_of_le H1.out K'.size
    replace KK := KK.trans K'
    replace D := D'
    clear D' K' rl hsz
    have SK : Kept b1 (b1 + 1) u3 (u3.setCell ⟨b1, 3, none⟩ (.int .i64 y)) := Kept.setCell (Kept.refl _ _ _) (p := ⟨b1, 3, none⟩) (Nat.le_refl _) (Nat.lt_succ_self _) _
    replace KK := KK.low (SK.below _ P1.out KK.size)
    replace D := h.move KK (D.src.kept SK (Or.inl O1.out))
    replace c0_0 := SK.cell c0_0 (Or.inl Q1.out)
    replace c0_1 := SK.cell c0_1 (Or.inl Q1.out)
    replace c0_2 := SK.cell c0_2 (Or.inl Q1.out)
    replace c0_3 := SK.cell c0_3 (Or.inl Q1.out)
    replace y0_0 := SK.fr y0_0 (Or.inl Q1.out) H0.out
    replace y0_1 := SK.fr y0_1 (Or.inl Q1.out) H0.out
    replace y0_2 := SK.fr y0_2 (Or.inl Q1.out) H0.out
    replace y0_3 := SK.fr y0_3 (Or.inl Q1.out) H0.out
    go_wp2
    refine bodyPost_ret (v := .agg #[.int .i64 z0, .int .i64 z1, .int .i64 z2, .int .i64 y]) (by simp [results, Try.results113, go_sem, c0_0, c0_1, c0_2, c0_3]) rfl ?_
    have KZ : Kept b0 (b0 + 1) (u3.setCell ⟨b1, 3, none⟩ (.int .i64 y)) (((((u3.setCell ⟨b1, 3, none⟩ (.int .i64 y)).setCell ⟨b0, 0, none⟩ (.int .i64 z0)).setCell ⟨b0, 1, none⟩ (.int .i64 z1)).setCell ⟨b0, 2, none⟩ (.int .i64 z2)).setCell ⟨b0, 3, none⟩ (.int .i64 y)) := by refine Kept.setCell (Kept.setCell (Kept.setCell (Kept.setCell (Kept.refl _ _ _) ?_ ?_ _) ?_ ?_ _) ?_ ?_ _) ?_ ?_ _ <;> simp
    replace KK := KK.low (KZ.below _ P0.out KK.size)
    have DF := h.move KK (D.src.kept KZ (Or.inl O0.out))
    clear KZ
    exact ⟨z0, z1, z2, y, rfl, _, by omega, DF, KK⟩
  · have n0 : ((u : Int) == 0) = false := by simp; omega
    have n1 : ((u : Int) == 1) = false := by simp; omega
    have n2 : ((u : Int) == 2) = false := by simp; omega
    have n3 : ((u : Int) == 3) = false := by simp; omega
    go_wp2
    refine bodyPost_ret (v := .agg #[.int .i64 z0, .int .i64 z1, .int .i64 z2, .int .i64 z3]) (by simp [results, Try.results113, go_sem, c0_0, c0_1, c0_2, c0_3]) rfl ?_
    have KZ : Kept b0 (b0 + 1) u2 ((((u2.setCell ⟨b0, 0, none⟩ (.int .i64 z0)).setCell ⟨b0, 1, none⟩ (.int .i64 z1)).setCell ⟨b0, 2, none⟩ (.int .i64 z2)).setCell ⟨b0, 3, none⟩ (.int .i64 z3)) := by refine Kept.setCell (Kept.setCell (Kept.setCell (Kept.setCell (Kept.refl _ _ _) ?_ ?_ _) ?_ ?_ _) ?_ ?_ _) ?_ ?_ _ <;> simp
    replace KK := KK.low (KZ.below _ P0.out KK.size)
    have DF := h.move KK (D.src.kept KZ (Or.inl O0.out))
    clear KZ
    exact ⟨z0, z1, z2, z3, rfl, _, by omega, DF, KK⟩
set_option maxRecDepth 20000 in
set_option maxHeartbeats 4000000 in
theorem l8Bent_any (g p : Nat) (ac : Option Addr) (nc cc : Nat) (bs : List Nat) (w : World) (h : SB w g p ac nc cc bs) (hp : p ≤ 70000) : Calls Try.prog 45 #[.pointer (some ⟨g, 0, none⟩)] w fun e w' => ∃ (p1 q k v a x : Int), e = .returned (.agg #[.int .i64 p1, .int .i64 q, .int .i64 k, .int .i64 v, .int .i64 a, .int .i64 x]) ∧ ∃ p', p' ≤ p + 30 ∧ SB w' g p' ac nc cc bs ∧ Kept g (g + 1) w w' := by
  have hg : g < w.heap.size := h.lt
  have KK : Kept g (g + 1) w w := Kept.refl _ _ _
  have D := h
  go_enter Try.func45, Try.ntmps45
  go_wp2_with (first | ((with_reducible refine alloc_new 33 #[.int .i64 0, .int .i64 0, .int .i64 0, .int .i64 0, .int .i64 0, .int .i64 0] (fun _ => by kernel_rfl) ?_); intro b0 X0 N0; have O0 : Hid (g + 1 ≤ b0) := Nat.le_trans (Nat.le_trans hg KK.size) N0.ge; have P0 : Hid (w.heap.size ≤ b0) := Nat.le_trans KK.size N0.ge; replace D := D.below N0.below; replace KK := KK.next N0.below; have H0 : Hid (b0 < X0.heap.size) := N0.lt; have c0_0 : X0.cell? ⟨b0, 0, none⟩ = some (.int .i64 0) := N0.cell 0 _ rfl; have c0_1 : X0.cell? ⟨b0, 1, none⟩ = some (.int .i64 0) := N0.cell 1 _ rfl; have c0_2 : X0.cell? ⟨b0, 2, none⟩ = some (.int .i64 0) := N0.cell 2 _ rfl; have c0_3 : X0.cell? ⟨b0, 3, none⟩ = some (.int .i64 0) := N0.cell 3 _ rfl; have c0_4 : X0.cell? ⟨b0, 4, none⟩ = some (.int .i64 0) := N0.cell 4 _ rfl; have c0_5 : X0.cell? ⟨b0, 5, none⟩ = some (.int .i64 0) := N0.cell 5 _ rfl; have y0_0 : X0.frozen? ⟨b0, 0, none⟩ = false := N0.froz 0; have y0_1 : X0.frozen? ⟨b0, 1, none⟩ = false := N0.froz 1; have y0_2 : X0.frozen? ⟨b0, 2, none⟩ = false := N0.froz 2; have y0_3 : X0.frozen? ⟨b0, 3, none⟩ = false := N0.froz 3; have y0_4 : X0.frozen? ⟨b0, 4, none⟩ = false := N0.froz 4; have y0_5 : X0.frozen? ⟨b0, 5, none⟩ = false := N0.froz 5; clear N0) | fail)
  refine (l8Entry_any g _ ac nc cc bs _ D (by omega)).mono ?_
  rintro e u1 ⟨z0, z1, z2, z3, z4, z5, p', rfl, _, _, hp', D', K'⟩
  replace c0_0 := K'.cell c0_0 (Or.inr O0.out)
  replace c0_1 := K'.cell c0_1 (Or.inr O0.out)
  replace c0_2 := K'.cell c0_2 (Or.inr O0.out)
  replace c0_3 := K'.cell c0_3 (Or.inr O0.out)
  replace c0_4 := K'.cell c0_4 (Or.inr O0.out)
  replace c0_5 := K'.cell c0_5 (Or.inr O0.out)
  replace y0_0 := K'.fr y0_0 (Or.inr O0.out) H0.out
  replace y0_1 := K'.fr y0_1 (Or.inr O0.out) H0.out
  replace y0_2 := K'.fr y0_2 (Or.inr O0.out) H0.out
  replace y0_3 := K'.fr y0_3 (Or.inr O0.out) H0.out
  replace y0_4 := K'.fr y0_4 (Or.inr O0.out) H0.out
  replace y0_5 := K'.fr y0_5 (Or.inr O0.out) H0.out
  replace H0 : Hid (b0 < u1.heap.size) := Nat.lt_of_lt_of_le H0.out K'.size
  replace KK := KK.trans K'
  replace D := D'
  clear D' K'
  go_wp2_with (first | ((with_reducible refine alloc_new 33 #[.int .i64 0, .int .i64 0, .int .i64 0, .int .i64 0, .int .i64 0, .int .i64 0] (fun _ => by kernel_rfl) ?_); intro b1 X1 N1; have O1 : Hid (g + 1 ≤ b1) := Nat.le_trans (Nat.le_trans hg KK.size) N1.ge; have P1 : Hid (w.heap.size ≤ b1) := Nat.le_trans KK.size N1.ge; have Q1 : Hid (b0 < b1) := Nat.lt_of_lt_of_le H0.out N1.ge; replace c0_0 := cell_later N1.below c0_0; replace c0_1 := cell_later N1.below c0_1; replace c0_2 := cell_later N1.below c0_2; replace c0_3 := cell_later N1.below c0_3; replace c0_4 := cell_later N1.below c0_4; replace c0_5 := cell_later N1.below c0_5; replace y0_0 := frozen_later N1.below H0.out y0_0; replace y0_1 := frozen_later N1.below H0.out y0_1; replace y0_2 := frozen_later N1.below H0.out y0_2; replace y0_3 := frozen_later N1.below H0.out y0_3; replace y0_4 := frozen_later N1.below H0.out y0_4; replace y0_5 := frozen_later N1.below H0.out y0_5; replace H0 : Hid (b0 < X1.heap.size) := Nat.lt_of_lt_of_le H0.out N1.below.size; replace D := D.below N1.below; replace KK := KK.next N1.below; have H1 : Hid (b1 < X1.heap.size) := N1.lt; have c1_0 : X1.cell? ⟨b1, 0, none⟩ = some (.int .i64 0) := N1.cell 0 _ rfl; have c1_1 : X1.cell? ⟨b1, 1, none⟩ = some (.int .i64 0) := N1.cell 1 _ rfl; have c1_2 : X1.cell? ⟨b1, 2, none⟩ = some (.int .i64 0) := N1.cell 2 _ rfl; have c1_3 : X1.cell? ⟨b1, 3, none⟩ = some (.int .i64 0) := N1.cell 3 _ rfl; have c1_4 : X1.cell? ⟨b1, 4, none⟩ = some (.int .i64 0) := N1.cell 4 _ rfl; have c1_5 : X1.cell? ⟨b1, 5, none⟩ = some (.int .i64 0) := N1.cell 5 _ rfl; have y1_0 : X1.frozen? ⟨b1, 0, none⟩ = false := N1.froz 0; have y1_1 : X1.frozen? ⟨b1, 1, none⟩ = false := N1.froz 1; have y1_2 : X1.frozen? ⟨b1, 2, none⟩ = false := N1.froz 2; have y1_3 : X1.frozen? ⟨b1, 3, none⟩ = false := N1.froz 3; have y1_4 : X1.frozen? ⟨b1, 4, none⟩ = false := N1.froz 4; have y1_5 : X1.frozen? ⟨b1, 5, none⟩ = false := N1.froz 5; clear N1) | ((with_reducible refine store_box 33 b1 [.int .i64 z0, .int .i64 z1, .int .i64 z2, .int .i64 z3, .int .i64 z4, .int .i64 z5] (by simp) (there6 c1_0 c1_1 c1_2 c1_3 c1_4 c1_5 y1_0 y1_1 y1_2 y1_3 y1_4 y1_5) (by kernel_rfl) (by simp [Value.oneCell']) rfl rfl ?_); intro Y1 S1; replace c0_0 := S1.kept.cell c0_0 (Or.inl Q1.out); replace c0_1 := S1.kept.cell c0_1 (Or.inl Q1.out); replace c0_2 := S1.kept.cell c0_2 (Or.inl Q1.out); replace c0_3 := S1.kept.cell c0_3 (Or.inl Q1.out); replace c0_4 := S1.kept.cell c0_4 (Or.inl Q1.out); replace c0_5 := S1.kept.cell c0_5 (Or.inl Q1.out); replace y0_0 := S1.kept.fr y0_0 (Or.inl Q1.out) H0.out; replace y0_1 := S1.kept.fr y0_1 (Or.inl Q1.out) H0.out; replace y0_2 := S1.kept.fr y0_2 (Or.inl Q1.out) H0.out; replace y0_3 := S1.kept.fr y0_3 (Or.inl Q1.out) H0.out; replace y0_4 := S1.kept.fr y0_4 (Or.inl Q1.out) H0.out; replace y0_5 := S1.kept.fr y0_5 (Or.inl Q1.out) H0.out; replace H0 : Hid (b0 < Y1.heap.size) := Nat.lt_of_lt_of_le H0.out S1.kept.size; replace c1_0 : Y1.cell? ⟨b1, 0, none⟩ = some (.int .i64 z0) := S1.cell 0 _ rfl; replace c1_1 : Y1.cell? ⟨b1, 1, none⟩ = some (.int .i64 z1) := S1.cell 1 _ rfl; replace c1_2 : Y1.cell? ⟨b1, 2, none⟩ = some (.int .i64 z2) := S1.cell 2 _ rfl; replace c1_3 : Y1.cell? ⟨b1, 3, none⟩ = some (.int .i64 z3) := S1.cell 3 _ rfl; replace c1_4 : Y1.cell? ⟨b1, 4, none⟩ = some (.int .i64 z4) := S1.cell 4 _ rfl; replace c1_5 : Y1.cell? ⟨b1, 5, none⟩ = some (.int .i64 z5) := S1.cell 5 _ rfl; replace y1_0 := S1.fr y1_0; replace y1_1 := S1.fr y1_1; replace y1_2 := S1.fr y1_2; replace y1_3 := S1.fr y1_3; replace y1_4 := S1.fr y1_4; replace y1_5 := S1.fr y1_5; replace H1 : Hid (b1 < Y1.heap.size) := Nat.lt_of_lt_of_le H1.out S1.kept.size; replace KK := KK.low (S1.kept.below _ P1.out KK.size); replace D := h.move KK (D.src.kept S1.kept (Or.inl O1.out)); clear S1) | fail)
  refine (next_sb D 8 rfl (by omega) (by omega) (by omega)).mono ?_
  rintro e u2 ⟨u, hu, rfl, D', K', -⟩
  replace c0_0 := K'.cell c0_0 (Or.inr O0.out)
  replace c0_1 := K'.cell c0_1 (Or.inr O0.out)
  replace c0_2 := K'.cell c0_2 (Or.inr O0.out)
  replace c0_3 := K'.cell c0_3 (Or.inr O0.out)
  replace c0_4 := K'.cell c0_4 (Or.inr O0.out)
  replace c0_5 := K'.cell c0_5 (Or.inr O0.out)
  replace y0_0 := K'.fr y0_0 (Or.inr O0.out) H0.out
  replace y0_1 := K'.fr y0_1 (Or.inr O0.out) H0.out
  replace y0_2 := K'.fr y0_2 (Or.inr O0.out) H0.out
  replace y0_3 := K'.fr y0_3 (Or.inr O0.out) H0.out
  replace y0_4 := K'.fr y0_4 (Or.inr O0.out) H0.out
  replace y0_5 := K'.fr y0_5 (Or.inr O0.out) H0.out
  replace H0 : Hid (b0 < u2.heap.size) := Nat.lt_of_lt_of_le H0.out K'.size
  replace c1_0 := K'.cell c1_0 (Or.inr O1.out)
  replace c1_1 := K'.cell c1_1 (Or.inr O1.out)
  replace c1_2 := K'.cell c1_2 (Or.inr O1.out)
  replace c1_3 := K'.cell c1_3 (Or.inr O1.out)
  replace c1_4 := K'.cell c1_4 (Or.inr O1.out)
  replace c1_5 := K'.cell c1_5 (Or.inr O1.out)
  replace y1_0 := K'.fr y1_0 (Or.inr O1.out) H1.out
  replace y1_1 := K'.fr y1_1 (Or.inr O1.out) H1.out
  replace y1_2 := K'.fr y1_2 (Or.inr O1.out) H1.out
  replace y1_3 := K'.fr y1_3 (Or.inr O1.out) H1.out
  replace y1_4 := K'.fr y1_4 (Or.inr O1.out) H1.out
  replace y1_5 := K'.fr y1_5 (Or.inr O1.out) H1.out
  replace H1 : Hid (b1 < u2.heap.size) := Nat.lt_of_lt_of_le H1.out K'.size
  replace KK := KK.trans K'
  replace D := D'
  clear D' K'
  rcases (by omega : u = 0 ∨ u = 1 ∨ u = 2 ∨ 3 ≤ u) with hu | hu | hu | hu
  · subst hu
    go_wp2_with fail
    have A : Below u2.heap.size u2 (u2.alloc (.cells #[.int .i64 0, .int .i64 99, .int .i64 100] 2)) := (Below.refl _ _).alloc (Nat.le_refl _) _
    have rl := row_lit u2 [.int .i64 0, .int .i64 99, .int .i64 100] 2 3 1 rfl
    have hsz : g + 1 ≤ u2.heap.size := Nat.le_trans hg KK.size
    replace c0_0 := cell_later A c0_0
    replace c0_1 := cell_later A c0_1
    replace c0_2 := cell_later A c0_2
    replace c0_3 := cell_later A c0_3
    replace c0_4 := cell_later A c0_4
    replace c0_5 := cell_later A c0_5
    replace y0_0 := frozen_later A H0.out y0_0
    replace y0_1 := frozen_later A H0.out y0_1
    replace y0_2 := frozen_later A H0.out y0_2
    replace y0_3 := frozen_later A H0.out y0_3
    replace y0_4 := frozen_later A H0.out y0_4
    replace y0_5 := frozen_later A H0.out y0_5
    replace H0 : Hid (b0 < (u2.alloc (.cells #[.int .i64 0, .int .i64 99, .int .i64 100] 2)).heap.size) := Nat.lt_of_lt_of_le H0.out A.size
    replace c1_0 := cell_later A c1_0
    replace c1_1 := cell_later A c1_1
    replace c1_2 := cell_later A c1_2
    replace c1_3 := cell_later A c1_3
    replace c1_4 := cell_later A c1_4
    replace c1_5 := cell_later A c1_5
    replace y1_0 := frozen_later A H1.out y1_0
    replace y1_1 := frozen_later A H1.out y1_1
    replace y1_2 := frozen_later A H1.out y1_2
    replace y1_3 := frozen_later A H1.out y1_3
    replace y1_4 := frozen_later A H1.out y1_4
    replace y1_5 := frozen_later A H1.out y1_5
    replace H1 : Hid (b1 < (u2.alloc (.cells #[.int .i64 0, .int .i64 99, .int .i64 100] 2)).heap.size) := Nat.lt_of_lt_of_le H1.out A.size
    replace D := D.below A
    replace KK := KK.next A
    clear A
    refine (pick_sb D 3 rfl (by omega) (by omega) (by omega) _ _ [0, 99, 100] (by exact rl) (by omega)).mono ?_
    rintro e u3 ⟨y, rfl, D', K', -⟩
    replace c0_0 := K'.cell c0_0 (Or.inr O0.out)
    replace c0_1 := K'.cell c0_1 (Or.inr O0.out)
    replace c0_2 := K'.cell c0_2 (Or.inr O0.out)
    replace c0_3 := K'.cell c0_3 (Or.inr O0.out)
    replace c0_4 := K'.cell c0_4 (Or.inr O0.out)
    replace c0_5 := K'.cell c0_5 (Or.inr O0.out)
    replace y0_0 := K'.fr y0_0 (Or.inr O0.out) H0.out
    replace y0_1 := K'.fr y0_1 (Or.inr O0.out) H0.out
    replace y0_2 := K'.fr y0_2 (Or.inr O0.out) H0.out
    replace y0_3 := K'.fr y0_3 (Or.inr O0.out) H0.out
    replace y0_4 := K'.fr y0_4 (Or.inr O0.out) H0.out
    replace y0_5 := K'.fr y0_5 (Or.inr O0.out) H0.out
    replace H0 : Hid (b0 < u3.heap.size) := Nat.lt_of_lt_of_le H0.out K'.size
    replace c1_0 := K'.cell c1_0 (Or.inr O1.out)
    replace c1_1 := K'.cell c1_1 (Or.inr O1.out)
    replace c1_2 := K'.cell c1_2 (Or.inr O1.out)
    replace c1_3 := K'.cell c1_3 (Or.inr O1.out)
    replace c1_4 := K'.cell c1_4 (Or.inr O1.out)
    replace c1_5 := K'.cell c1_5 (Or.inr O1.out)
    replace y1_0 := K'.fr y1_0 (Or.inr O1.out) H1.out
    replace y1_1 := K'.fr y1_1 (Or.inr O1.out) H1.out
    replace y1_2 := K'.fr y1_2 (Or.inr O1.out) H1.out
    replace y1_3 := K'.fr y1_3 (Or.inr O1.out) H1.out
    replace y1_4 := K'.fr y1_4 (Or.inr O1.out) H1.out
    replace y1_5 := K'.fr y1_5 (Or.inr O1.out) H1.out
    replace H1 : Hid (b1 < u3.heap.size) := Nat.lt_of_lt_of_le H1.out K'.size
    replace KK := KK.trans K'
    replace D := D'
    clear D' K' rl hsz
    have SK : Kept b1 (b1 + 1) u3 (u3.setCell ⟨b1, 0, none⟩ (.int .i64 y)) := Kept.setCell (Kept.refl _ _ _) (p := ⟨b1, 0, none⟩) (Nat.le_refl _) (Nat.lt_succ_self _) _
    replace KK := KK.low (SK.below _ P1.out KK.size)
    replace D := h.move KK (D.src.kept SK (Or.inl O1.out))
    replace c0_0 := SK.cell c0_0 (Or.inl Q1.out)
    replace c0_1 := SK.cell c0_1 (Or.inl Q1.out)
    replace c0_2 := SK.cell c0_2 (Or.inl Q1.out)
    replace c0_3 := SK.cell c0_3 (Or.inl Q1.out)
    replace c0_4 := SK.cell c0_4 (Or.inl Q1.out)
    replace c0_5 := SK.cell c0_5 (Or.inl Q1.out)
    replace y0_0 := SK.fr y0_0 (Or.inl Q1.out) H0.out
    replace y0_1 := SK.fr y0_1 (Or.inl Q1.out) H0.out
    replace y0_2 := SK.fr y0_2 (Or.inl Q1.out) H0.out
    replace y0_3 := SK.fr y0_3 (Or.inl Q1.out) H0.out
    replace y0_4 := SK.fr y0_4 (Or.inl Q1.out) H0.out
    replace y0_5 := SK.fr y0_5 (Or.inl Q1.out) H0.out
    go_wp2
    refine bodyPost_ret (v := .agg #[.int .i64 y, .int .i64 z1, .int .i64 z2, .int .i64 z3, .int .i64 z4, .int .i64 z5]) (by simp [results, Try.results45, go_sem, c0_0, c0_1, c0_2, c0_3, c0_4, c0_5]) rfl ?_
    have KZ : Kept b0 (b0 + 1) (u3.setCell ⟨b1, 0, none⟩ (.int .i64 y)) (((((((u3.setCell ⟨b1, 0, none⟩ (.int .i64 y)).setCell ⟨b0, 0, none⟩ (.int .i64 y)).setCell ⟨b0, 1, none⟩ (.int .i64 z1)).setCell ⟨b0, 2, none⟩ (.int .i64 z2)).setCell ⟨b0, 3, none⟩ (.int .i64 z3)).setCell ⟨b0, 4, none⟩ (.int .i64 z4)).setCell ⟨b0, 5, none⟩ (.int .i64 z5)) := by refine Kept.setCell (Kept.setCell (Kept.setCell (Kept.setCell (Kept.setCell (Kept.setCell (Kept.refl _ _ _) ?_ ?_ _) ?_ ?_ _) ?_ ?_ _) ?_ ?_ _) ?_ ?_ _) ?_ ?_ _ <;> simp
    replace KK := KK.low (KZ.below _ P0.out KK.size)
    have DF := h.move KK (D.src.kept KZ (Or.inl O0.out))
    clear KZ
    exact ⟨y, z1, z2, z3, z4, z5, rfl, _, by omega, DF, KK⟩
  · subst hu
    go_wp2_with fail
    have A : Below u2.heap.size u2 (u2.alloc (.cells #[.int .i64 0, .int .i64 999, .int .i64 1000] 2)) := (Below.refl _ _).alloc (Nat.le_refl _) _
    have rl := row_lit u2 [.int .i64 0, .int .i64 999, .int .i64 1000] 2 3 1 rfl
    have hsz : g + 1 ≤ u2.heap.size := Nat.le_trans hg KK.size
    replace c0_0 := cell_later A c0_0
    replace c0_1 := cell_later A c0_1
    replace c0_2 := cell_later A c0_2
    replace c0_3 := cell_later A c0_3
    replace c0_4 := cell_later A c0_4
    replace c0_5 := cell_later A c0_5
    replace y0_0 := frozen_later A H0.out y0_0
    replace y0_1 := frozen_later A H0.out y0_1
    replace y0_2 := frozen_later A H0.out y0_2
    replace y0_3 := frozen_later A H0.out y0_3
    replace y0_4 := frozen_later A H0.out y0_4
    replace y0_5 := frozen_later A H0.out y0_5
    replace H0 : Hid (b0 < (u2.alloc (.cells #[.int .i64 0, .int .i64 999, .int .i64 1000] 2)).heap.size) := Nat.lt_of_lt_of_le H0.out A.size
    replace c1_0 := cell_later A c1_0
    replace c1_1 := cell_later A c1_1
    replace c1_2 := cell_later A c1_2
    replace c1_3 := cell_later A c1_3
    replace c1_4 := cell_later A c1_4
    replace c1_5 := cell_later A c1_5
    replace y1_0 := frozen_later A H1.out y1_0
    replace y1_1 := frozen_later A H1.out y1_1
    replace y1_2 := frozen_later A H1.out y1_2
    replace y1_3 := frozen_later A H1.out y1_3
    replace y1_4 := frozen_later A H1.out y1_4
    replace y1_5 := frozen_later A H1.out y1_5
    replace H1 : Hid (b1 < (u2.alloc (.cells #[.int .i64 0, .int .i64 999, .int .i64 1000] 2)).heap.size) := Nat.lt_of_lt_of_le H1.out A.size
    replace D := D.below A
    replace KK := KK.next A
    clear A
    refine (pick_sb D 3 rfl (by omega) (by omega) (by omega) _ _ [0, 999, 1000] (by exact rl) (by omega)).mono ?_
    rintro e u3 ⟨y, rfl, D', K', -⟩
    replace c0_0 := K'.cell c0_0 (Or.inr O0.out)
    replace c0_1 := K'.cell c0_1 (Or.inr O0.out)
    replace c0_2 := K'.cell c0_2 (Or.inr O0.out)
    replace c0_3 := K'.cell c0_3 (Or.inr O0.out)
    replace c0_4 := K'.cell c0_4 (Or.inr O0.out)
    replace c0_5 := K'.cell c0_5 (Or.inr O0.out)
    replace y0_0 := K'.fr y0_0 (Or.inr O0.out) H0.out
    replace y0_1 := K'.fr y0_1 (Or.inr O0.out) H0.out
    replace y0_2 := K'.fr y0_2 (Or.inr O0.out) H0.out
    replace y0_3 := K'.fr y0_3 (Or.inr O0.out) H0.out
    replace y0_4 := K'.fr y0_4 (Or.inr O0.out) H0.out
    replace y0_5 := K'.fr y0_5 (Or.inr O0.out) H0.out
    replace H0 : Hid (b0 < u3.heap.size) := Nat.lt_of_lt_of_le H0.out K'.size
    replace c1_0 := K'.cell c1_0 (Or.inr O1.out)
    replace c1_1 := K'.cell c1_1 (Or.inr O1.out)
    replace c1_2 := K'.cell c1_2 (Or.inr O1.out)
    replace c1_3 := K'.cell c1_3 (Or.inr O1.out)
    replace c1_4 := K'.cell c1_4 (Or.inr O1.out)
    replace c1_5 := K'.cell c1_5 (Or.inr O1.out)
    replace y1_0 := K'.fr y1_0 (Or.inr O1.out) H1.out
    replace y1_1 := K'.fr y1_1 (Or.inr O1.out) H1.out
    replace y1_2 := K'.fr y1_2 (Or.inr O1.out) H1.out
    replace y1_3 := K'.fr y1_3 (Or.inr O1.out) H1.out
    replace y1_4 := K'.fr y1_4 (Or.inr O1.out) H1.out
    replace y1_5 := K'.fr y1_5 (Or.inr O1.out) H1.out
    replace H1 : Hid (b1 < u3.heap.size) := Nat.lt_of_lt_of_le H1.out K'.size
    replace KK := KK.trans K'
    replace D := D'
    clear D' K' rl hsz
    have SK : Kept b1 (b1 + 1) u3 (u3.setCell ⟨b1, 1, none⟩ (.int .i64 y)) := Kept.setCell (Kept.refl _ _ _) (p := ⟨b1, 1, none⟩) (Nat.le_refl _) (Nat.lt_succ_self _) _
    replace KK := KK.low (SK.below _ P1.out KK.size)
    replace D := h.move KK (D.src.kept SK (Or.inl O1.out))
    replace c0_0 := SK.cell c0_0 (Or.inl Q1.out)
    replace c0_1 := SK.cell c0_1 (Or.inl Q1.out)
    replace c0_2 := SK.cell c0_2 (Or.inl Q1.out)
    replace c0_3 := SK.cell c0_3 (Or.inl Q1.out)
    replace c0_4 := SK.cell c0_4 (Or.inl Q1.out)
    replace c0_5 := SK.cell c0_5 (Or.inl Q1.out)
    replace y0_0 := SK.fr y0_0 (Or.inl Q1.out) H0.out
    replace y0_1 := SK.fr y0_1 (Or.inl Q1.out) H0.out
    replace y0_2 := SK.fr y0_2 (Or.inl Q1.out) H0.out
    replace y0_3 := SK.fr y0_3 (Or.inl Q1.out) H0.out
    replace y0_4 := SK.fr y0_4 (Or.inl Q1.out) H0.out
    replace y0_5 := SK.fr y0_5 (Or.inl Q1.out) H0.out
    go_wp2
    refine bodyPost_ret (v := .agg #[.int .i64 z0, .int .i64 y, .int .i64 z2, .int .i64 z3, .int .i64 z4, .int .i64 z5]) (by simp [results, Try.results45, go_sem, c0_0, c0_1, c0_2, c0_3, c0_4, c0_5]) rfl ?_
    have KZ : Kept b0 (b0 + 1) (u3.setCell ⟨b1, 1, none⟩ (.int .i64 y)) (((((((u3.setCell ⟨b1, 1, none⟩ (.int .i64 y)).setCell ⟨b0, 0, none⟩ (.int .i64 z0)).setCell ⟨b0, 1, none⟩ (.int .i64 y)).setCell ⟨b0, 2, none⟩ (.int .i64 z2)).setCell ⟨b0, 3, none⟩ (.int .i64 z3)).setCell ⟨b0, 4, none⟩ (.int .i64 z4)).setCell ⟨b0, 5, none⟩ (.int .i64 z5)) := by refine Kept.setCell (Kept.setCell (Kept.setCell (Kept.setCell (Kept.setCell (Kept.setCell (Kept.refl _ _ _) ?_ ?_ _) ?_ ?_ _) ?_ ?_ _) ?_ ?_ _) ?_ ?_ _) ?_ ?_ _ <;> simp
    replace KK := KK.low (KZ.below _ P0.out KK.size)
    have DF := h.move KK (D.src.kept KZ (Or.inl O0.out))
    clear KZ
    exact ⟨z0, y, z2, z3, z4, z5, rfl, _, by omega, DF, KK⟩
  · subst hu
    go_wp2_with fail
    refine (l5Bent_any g _ ac nc cc bs _ D (by omega)).mono ?_
    rintro e u3 ⟨k, v, a, x, rfl, p2, hp2, D', K'⟩
    replace c0_0 := K'.cell c0_0 (Or.inr O0.out)
    replace c0_1 := K'.cell c0_1 (Or.inr O0.out)
    replace c0_2 := K'.cell c0_2 (Or.inr O0.out)
    replace c0_3 := K'.cell c0_3 (Or.inr O0.out)
    replace c0_4 := K'.cell c0_4 (Or.inr O0.out)
    replace c0_5 := K'.cell c0_5 (Or.inr O0.out)
    replace y0_0 := K'.fr y0_0 (Or.inr O0.out) H0.out
    replace y0_1 := K'.fr y0_1 (Or.inr O0.out) H0.out
    replace y0_2 := K'.fr y0_2 (Or.inr O0.out) H0.out
    replace y0_3 := K'.fr y0_3 (Or.inr O0.out) H0.out
    replace y0_4 := K'.fr y0_4 (Or.inr O0.out) H0.out
    replace y0_5 := K'.fr y0_5 (Or.inr O0.out) H0.out
    replace H0 : Hid (b0 < u3.heap.size) := Nat.lt_of_lt_of_le H0.out K'.size
    replace c1_0 := K'.cell c1_0 (Or.inr O1.out)
    replace c1_1 := K'.cell c1_1 (Or.inr O1.out)
    replace c1_2 := K'.cell c1_2 (Or.inr O1.out)
    replace c1_3 := K'.cell c1_3 (Or.inr O1.out)
    replace c1_4 := K'.cell c1_4 (Or.inr O1.out)
    replace c1_5 := K'.cell c1_5 (Or.inr O1.out)
    replace y1_0 := K'.fr y1_0 (Or.inr O1.out) H1.out
    replace y1_1 := K'.fr y1_1 (Or.inr O1.out) H1.out
    replace y1_2 := K'.fr y1_2 (Or.inr O1.out) H1.out
    replace y1_3 := K'.fr y1_3 (Or.inr O1.out) H1.out
    replace y1_4 := K'.fr y1_4 (Or.inr O1.out) H1.out
    replace y1_5 := K'.fr y1_5 (Or.inr O1.out) H1.out
    replace H1 : Hid (b1 < u3.heap.size) := Nat.lt_of_lt_of_le H1.out K'.size
    replace KK := KK.trans K'
    replace D := D'
    clear D' K'
    have SK : Kept b1 (b1 + 1) u3 ((((u3.setCell ⟨b1, 2, none⟩ (.int .i64 k)).setCell ⟨b1, 3, none⟩ (.int .i64 v)).setCell ⟨b1, 4, none⟩ (.int .i64 a)).setCell ⟨b1, 5, none⟩ (.int .i64 x)) := by refine Kept.setCell (Kept.setCell (Kept.setCell (Kept.setCell (Kept.refl _ _ _) ?_ ?_ _) ?_ ?_ _) ?_ ?_ _) ?_ ?_ _ <;> simp
    replace KK := KK.low (SK.below _ P1.out KK.size)
    replace D := h.move KK (D.src.kept SK (Or.inl O1.out))
    replace c0_0 := SK.cell c0_0 (Or.inl Q1.out)
    replace c0_1 := SK.cell c0_1 (Or.inl Q1.out)
    replace c0_2 := SK.cell c0_2 (Or.inl Q1.out)
    replace c0_3 := SK.cell c0_3 (Or.inl Q1.out)
    replace c0_4 := SK.cell c0_4 (Or.inl Q1.out)
    replace c0_5 := SK.cell c0_5 (Or.inl Q1.out)
    replace y0_0 := SK.fr y0_0 (Or.inl Q1.out) H0.out
    replace y0_1 := SK.fr y0_1 (Or.inl Q1.out) H0.out
    replace y0_2 := SK.fr y0_2 (Or.inl Q1.out) H0.out
    replace y0_3 := SK.fr y0_3 (Or.inl Q1.out) H0.out
    replace y0_4 := SK.fr y0_4 (Or.inl Q1.out) H0.out
    replace y0_5 := SK.fr y0_5 (Or.inl Q1.out) H0.out
    go_wp2
    refine bodyPost_ret (v := .agg #[.int .i64 z0, .int .i64 z1, .int .i64 k, .int .i64 v, .int .i64 a, .int .i64 x]) (by simp [results, Try.results45, go_sem, c0_0, c0_1, c0_2, c0_3, c0_4, c0_5]) rfl ?_
    have KZ : Kept b0 (b0 + 1) ((((u3.setCell ⟨b1, 2, none⟩ (.int .i64 k)).setCell ⟨b1, 3, none⟩ (.int .i64 v)).setCell ⟨b1, 4, none⟩ (.int .i64 a)).setCell ⟨b1, 5, none⟩ (.int .i64 x)) ((((((((((u3.setCell ⟨b1, 2, none⟩ (.int .i64 k)).setCell ⟨b1, 3, none⟩ (.int .i64 v)).setCell ⟨b1, 4, none⟩ (.int .i64 a)).setCell ⟨b1, 5, none⟩ (.int .i64 x)).setCell ⟨b0, 0, none⟩ (.int .i64 z0)).setCell ⟨b0, 1, none⟩ (.int .i64 z1)).setCell ⟨b0, 2, none⟩ (.int .i64 k)).setCell ⟨b0, 3, none⟩ (.int .i64 v)).setCell ⟨b0, 4, none⟩ (.int .i64 a)).setCell ⟨b0, 5, none⟩ (.int .i64 x)) := by refine Kept.setCell (Kept.setCell (Kept.setCell (Kept.setCell (Kept.setCell (Kept.setCell (Kept.refl _ _ _) ?_ ?_ _) ?_ ?_ _) ?_ ?_ _) ?_ ?_ _) ?_ ?_ _) ?_ ?_ _ <;> simp
    replace KK := KK.low (KZ.below _ P0.out KK.size)
    have DF := h.move KK (D.src.kept KZ (Or.inl O0.out))
    clear KZ
    exact ⟨z0, z1, k, v, a, x, rfl, _, by omega, DF, KK⟩
  · have n0 : ((u : Int) == 0) = false := by simp; omega
    have n1 : ((u : Int) == 1) = false := by simp; omega
    have n2 : ((u : Int) == 2) = false := by simp; omega
    go_wp2
    refine bodyPost_ret (v := .agg #[.int .i64 z0, .int .i64 z1, .int .i64 z2, .int .i64 z3, .int .i64 z4, .int .i64 z5]) (by simp [results, Try.results45, go_sem, c0_0, c0_1, c0_2, c0_3, c0_4, c0_5]) rfl ?_
    have KZ : Kept b0 (b0 + 1) u2 ((((((u2.setCell ⟨b0, 0, none⟩ (.int .i64 z0)).setCell ⟨b0, 1, none⟩ (.int .i64 z1)).setCell ⟨b0, 2, none⟩ (.int .i64 z2)).setCell ⟨b0, 3, none⟩ (.int .i64 z3)).setCell ⟨b0, 4, none⟩ (.int .i64 z4)).setCell ⟨b0, 5, none⟩ (.int .i64 z5)) := by refine Kept.setCell (Kept.setCell (Kept.setCell (Kept.setCell (Kept.setCell (Kept.setCell (Kept.refl _ _ _) ?_ ?_ _) ?_ ?_ _) ?_ ?_ _) ?_ ?_ _) ?_ ?_ _) ?_ ?_ _ <;> simp
    replace KK := KK.low (KZ.below _ P0.out KK.size)
    have DF := h.move KK (D.src.kept KZ (Or.inl O0.out))
    clear KZ
    exact ⟨z0, z1, z2, z3, z4, z5, rfl, _, by omega, DF, KK⟩

end Go.Proofs.Ytikplcpgocgogaa

