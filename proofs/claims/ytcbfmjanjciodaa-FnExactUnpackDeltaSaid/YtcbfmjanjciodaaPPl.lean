/- Chapter 6: plain pools counted, copied and compared by the laws. -/
import Derived.Test.YtcbfmjanjciodaaPC
import Derived.Test.YtcbfmjanjciodaaYE
namespace Go.Proofs.Ytcbfmjanjciodaa
open Go.RowKit

/-- a plain pool's rows -/
structure PlAt (w : World) (o : Bool) (lo hi : Nat) (av : Option Addr) (nv cv : Nat) (ac : Option Addr) (nc cc : Nat) (ah : Option Addr) (nh ch : Nat) (vs ce : List Vo) (sh : List Int) : Prop where
  vol : RowAt w o lo hi 3 av nv cv (trips vs)
  cel : RowAt w o lo hi 3 ac nc cc (trips ce)
  sha : RowAt w o lo hi 1 ah nh ch (ints sh)
theorem PlAt.below {w w' : World} {o : Bool} {lo hi : Nat} {av : Option Addr} {nv cv : Nat} {ac : Option Addr} {nc cc : Nat} {ah : Option Addr} {nh ch : Nat} {vs ce : List Vo} {sh : List Int} (h : PlAt w o lo hi av nv cv ac nc cc ah nh ch vs ce sh) (B : Below w.heap.size w w') : PlAt w' o lo hi av nv cv ac nc cc ah nh ch vs ce sh :=
  ⟨h.vol.below B, h.cel.below B, h.sha.below B⟩
/-- a plain pool that is the call's own -/
def PlRes (w w' : World) (e : Ending) (bl : Int) (nv nc nh : Nat) (vs ce : List Vo) (sh : List Int) : Prop := ∃ av cv ac cc ah ch, e = .returned (.agg #[.int .i64 bl, .slice av nv cv, .slice ac nc cc, .slice ah nh ch]) ∧ PlAt w' true w.heap.size w'.heap.size av nv cv ac nc cc ah nh ch vs ce sh ∧ Below w.heap.size w w'
/-- one cell has been written -/
structure SetC (w W : World) (b k : Nat) (v : Value) : Prop where
  kept : Kept b (b + 1) w W
  cell : W.cell? ⟨b, k, none⟩ = some v
  fr : ∀ {q i : Nat}, w.frozen? ⟨q, i, none⟩ = false → W.frozen? ⟨q, i, none⟩ = false
  oth : ∀ {q i : Nat} {u : Value}, w.cell? ⟨q, i, none⟩ = some u → (q ≠ b ∨ i ≠ k) → W.cell? ⟨q, i, none⟩ = some u
theorem setC_mk {w : World} {b k : Nat} {v u : Value} (hc : w.cell? ⟨b, k, none⟩ = some u) (_ : w.frozen? ⟨b, k, none⟩ = false) : SetC w (w.setCell ⟨b, k, none⟩ v) b k v := by
  refine ⟨Kept.setCell (p := ⟨b, k, none⟩) (Kept.refl _ _ _) (Nat.le_refl _) (Nat.lt_succ_self _) _, ?_, fun h => by rw [World.frozen?_setCell]; exact h, fun {q i u} h hne => ?_⟩
  · have := World.cell?_setCells_in b [v] k w (fun j hj => by
      have hj0 : j = 0 := by simpa using hj
      rw [hj0, Nat.add_zero, hc]; rfl) 0 (by simp)
    simpa [World.setCells] using this
  · rw [World.cell?_setCell_other _ _ _ _ (fun e => by injection e with e1 e2; omega)]; exact h

set_option maxRecDepth 20000 in
set_option maxHeartbeats 1000000 in
theorem szPlain_left (bl : Int) (av : Option Addr) (nv cv : Nat) (ac : Option Addr) (nc cc : Nat) (ah : Option Addr) (nh ch : Nat) (lt : Int) (w : World) (hv : nv ≤ maxLen) (hc : nc ≤ maxLen) (hs : nh ≤ maxLen) (h0 : 0 ≤ lt) (h1 : lt ≤ 1048576) :
    Calls Try.prog 23 #[.agg #[.int .i64 bl, .slice av nv cv, .slice ac nc cc, .slice ah nh ch], .int .i64 lt] w fun e w' => ∃ r : Int, e = .returned (.int .i64 r) ∧ Below w.heap.size w w' ∧ (r < 0 ∨ (0 ≤ r ∧ (nv : Int) + nc + nh + r ≤ lt)) := by
  have hm := hv
  unfold maxLen at hm
  go_enter Try.func23, Try.ntmps23
  go_wp2_with (first | ((with_reducible refine box_new 52 #[.int .i64 bl, .slice av nv cv, .slice ac nc cc, .slice ah nh ch] rfl ?_); intro b0 W0 N0; have O0 : Hid (w.heap.size ≤ b0) := N0.ge; have B := N0.below; have H0 : Hid (b0 < W0.heap.size) := N0.lt; have c0_0 : W0.cell? ⟨b0, 0, none⟩ = some (.int .i64 bl) := N0.cell 0 _ rfl; have c0_1 : W0.cell? ⟨b0, 1, none⟩ = some (.slice av nv cv) := N0.cell 1 _ rfl; have c0_2 : W0.cell? ⟨b0, 2, none⟩ = some (.slice ac nc cc) := N0.cell 2 _ rfl; have c0_3 : W0.cell? ⟨b0, 3, none⟩ = some (.slice ah nh ch) := N0.cell 3 _ rfl; clear N0) | fail)
  refine (szVols_left _ _ _ lt _ hv h0 h1).mono ?_
  rintro e w1 ⟨rfl, rfl⟩
  by_cases c1 : lt < nv
  · rw [if_pos c1]
    go_wp2
    go_ret
    exact ⟨_, rfl, B, Or.inl (by omega)⟩
  rw [if_neg c1]
  have c1' : ¬ (lt - (nv : Int) < 0) := by omega
  go_wp2_with fail
  refine (szCells_left _ _ _ (lt - (nv : Int)) _ hc (by omega) (by omega)).mono ?_
  rintro e w2 ⟨rfl, rfl⟩
  by_cases c2 : lt - (nv : Int) < nc
  · rw [if_pos c2]
    go_wp2
    go_ret
    exact ⟨_, rfl, B, Or.inl (by omega)⟩
  rw [if_neg c2]
  have c2' : ¬ (lt - (nv : Int) - (nc : Int) < 0) := by omega
  go_wp2_with fail
  refine (szInts_any _ _ _ (lt - (nv : Int) - (nc : Int)) _ hs (by omega) (by omega)).mono ?_
  rintro e w3 ⟨rfl, rfl⟩
  by_cases c3 : lt - (nv : Int) - (nc : Int) < nh
  · rw [if_pos c3]
    go_wp2
    go_ret
    exact ⟨_, rfl, B, Or.inl (by omega)⟩
  rw [if_neg c3]
  have c3' : ¬ (lt - (nv : Int) - (nc : Int) - (nh : Int) < 0) := by omega
  go_wp2
  go_ret
  exact ⟨_, rfl, B, Or.inr ⟨by omega, by omega⟩⟩

set_option maxRecDepth 20000 in
set_option maxHeartbeats 1000000 in
theorem toPlain_any {o : Bool} {lo hi : Nat} (bl : Int) (av : Option Addr) (nv cv : Nat) (ac : Option Addr) (nc cc : Nat) (ah : Option Addr) (nh ch : Nat) (vs ce : List Vo) (sh : List Int) (w : World) (h : PlAt w o lo hi av nv cv ac nc cc ah nh ch vs ce sh) (hnv : nv ≤ 1048576) (hnc : nc ≤ 1048576) (hnh : nh ≤ 1048576) :
    Calls Try.prog 25 #[.agg #[.int .i64 bl, .slice av nv cv, .slice ac nc cc, .slice ah nh ch]] w fun e w' => PlRes w w' e bl nv nc nh vs ce sh := by
  go_enter Try.func25, Try.ntmps25
  go_wp2_with (first | ((with_reducible refine box_new 52 #[.int .i64 bl, .slice av nv cv, .slice ac nc cc, .slice ah nh ch] rfl ?_); intro b0 W0 N0; have O0 : Hid (w.heap.size ≤ b0) := N0.ge; have B := N0.below; have H0 : Hid (b0 < W0.heap.size) := N0.lt; have c0_0 : W0.cell? ⟨b0, 0, none⟩ = some (.int .i64 bl) := N0.cell 0 _ rfl; have c0_1 : W0.cell? ⟨b0, 1, none⟩ = some (.slice av nv cv) := N0.cell 1 _ rfl; have c0_2 : W0.cell? ⟨b0, 2, none⟩ = some (.slice ac nc cc) := N0.cell 2 _ rfl; have c0_3 : W0.cell? ⟨b0, 3, none⟩ = some (.slice ah nh ch) := N0.cell 3 _ rfl; clear N0) | (have g1 := H1.out; clear g1; (with_reducible refine alloc_new 34 #[.int .i64 0, .slice none 0 0, .slice none 0 0, .slice none 0 0] (fun _ => by kernel_rfl) ?_); intro b2 W2 N2; have O2 : Hid (b1 < b2) := Nat.lt_of_lt_of_le H1.out N2.ge; replace c0_0 := cell_later N2.below c0_0; replace c0_1 := cell_later N2.below c0_1; replace c0_2 := cell_later N2.below c0_2; replace c0_3 := cell_later N2.below c0_3; replace H0 : Hid (b0 < W2.heap.size) := Nat.lt_of_lt_of_le H0.out N2.below.size; replace c1_0 := cell_later N2.below c1_0; replace c1_1 := cell_later N2.below c1_1; replace c1_2 := cell_later N2.below c1_2; replace c1_3 := cell_later N2.below c1_3; replace y1_0 := frozen_later N2.below H1.out y1_0; replace y1_1 := frozen_later N2.below H1.out y1_1; replace y1_2 := frozen_later N2.below H1.out y1_2; replace y1_3 := frozen_later N2.below H1.out y1_3; replace H1 : Hid (b1 < W2.heap.size) := Nat.lt_of_lt_of_le H1.out N2.below.size; replace B := below_next B N2.below; have H2 : Hid (b2 < W2.heap.size) := N2.lt; have c2_0 : W2.cell? ⟨b2, 0, none⟩ = some (.int .i64 0) := N2.cell 0 _ rfl; have c2_1 : W2.cell? ⟨b2, 1, none⟩ = some (.slice none 0 0) := N2.cell 1 _ rfl; have c2_2 : W2.cell? ⟨b2, 2, none⟩ = some (.slice none 0 0) := N2.cell 2 _ rfl; have c2_3 : W2.cell? ⟨b2, 3, none⟩ = some (.slice none 0 0) := N2.cell 3 _ rfl; have y2_0 : W2.frozen? ⟨b2, 0, none⟩ = false := N2.froz 0; have y2_1 : W2.frozen? ⟨b2, 1, none⟩ = false := N2.froz 1; have y2_2 : W2.frozen? ⟨b2, 2, none⟩ = false := N2.froz 2; have y2_3 : W2.frozen? ⟨b2, 3, none⟩ = false := N2.froz 3; clear N2) | ((with_reducible refine alloc_new 34 #[.int .i64 0, .slice none 0 0, .slice none 0 0, .slice none 0 0] (fun _ => by kernel_rfl) ?_); intro b1 W1 N1; have O1 : Hid (b0 < b1) := Nat.lt_of_lt_of_le H0.out N1.ge; replace c0_0 := cell_later N1.below c0_0; replace c0_1 := cell_later N1.below c0_1; replace c0_2 := cell_later N1.below c0_2; replace c0_3 := cell_later N1.below c0_3; replace H0 : Hid (b0 < W1.heap.size) := Nat.lt_of_lt_of_le H0.out N1.below.size; replace B := below_next B N1.below; have H1 : Hid (b1 < W1.heap.size) := N1.lt; have c1_0 : W1.cell? ⟨b1, 0, none⟩ = some (.int .i64 0) := N1.cell 0 _ rfl; have c1_1 : W1.cell? ⟨b1, 1, none⟩ = some (.slice none 0 0) := N1.cell 1 _ rfl; have c1_2 : W1.cell? ⟨b1, 2, none⟩ = some (.slice none 0 0) := N1.cell 2 _ rfl; have c1_3 : W1.cell? ⟨b1, 3, none⟩ = some (.slice none 0 0) := N1.cell 3 _ rfl; have y1_0 : W1.frozen? ⟨b1, 0, none⟩ = false := N1.froz 0; have y1_1 : W1.frozen? ⟨b1, 1, none⟩ = false := N1.froz 1; have y1_2 : W1.frozen? ⟨b1, 2, none⟩ = false := N1.froz 2; have y1_3 : W1.frozen? ⟨b1, 3, none⟩ = false := N1.froz 3; clear N1) | fail)
  have n02 : b0 ≠ b2 := by have q1 := O1.out; have q2 := O2.out; omega
  have n12 : b1 ≠ b2 := by have q2 := O2.out; omega
  have S0 : SetC W2 (W2.setCell ⟨b2, 0, none⟩ (.int .i64 bl)) b2 0 (.int .i64 bl) := setC_mk c2_0 y2_0
  obtain ⟨X0, hX0⟩ : ∃ X0, X0 = W2.setCell ⟨b2, 0, none⟩ (.int .i64 bl) := ⟨_, rfl⟩
  rw [← hX0] at S0
  rw [← hX0]
  clear hX0
  replace c0_0 := S0.oth c0_0 (Or.inl n02)
  replace c0_1 := S0.oth c0_1 (Or.inl n02)
  replace c0_2 := S0.oth c0_2 (Or.inl n02)
  replace c0_3 := S0.oth c0_3 (Or.inl n02)
  replace c1_0 := S0.oth c1_0 (Or.inl n12)
  replace c1_1 := S0.oth c1_1 (Or.inl n12)
  replace c1_2 := S0.oth c1_2 (Or.inl n12)
  replace c1_3 := S0.oth c1_3 (Or.inl n12)
  replace c2_0 := S0.cell
  replace c2_1 := S0.oth c2_1 (Or.inr (by decide))
  replace c2_2 := S0.oth c2_2 (Or.inr (by decide))
  replace c2_3 := S0.oth c2_3 (Or.inr (by decide))
  replace y1_0 := S0.fr y1_0
  replace y1_1 := S0.fr y1_1
  replace y1_2 := S0.fr y1_2
  replace y1_3 := S0.fr y1_3
  replace y2_0 := S0.fr y2_0
  replace y2_1 := S0.fr y2_1
  replace y2_2 := S0.fr y2_2
  replace y2_3 := S0.fr y2_3
  replace H0 : Hid (b0 < X0.heap.size) := Nat.lt_of_lt_of_le H0.out S0.kept.size
  replace H1 : Hid (b1 < X0.heap.size) := Nat.lt_of_lt_of_le H1.out S0.kept.size
  replace H2 : Hid (b2 < X0.heap.size) := Nat.lt_of_lt_of_le H2.out S0.kept.size
  replace B := B.trans (S0.kept.below _ (by have q0 := O0.out; have q1 := O1.out; have q2 := O2.out; omega) B.size)
  clear S0
  refine (toVols_any av nv cv vs _ (h.vol.below B) hnv).mono ?_
  rintro e w0 ⟨rfl, R0, BB⟩
  have G0 : Hid (b2 + 1 ≤ X0.heap.size) := H2.out
  have L0 : Hid (w.heap.size ≤ X0.heap.size) := B.size
  have U0 : Hid (X0.heap.size ≤ w0.heap.size) := BB.size
  replace c0_0 := cell_later BB c0_0
  replace c0_1 := cell_later BB c0_1
  replace c0_2 := cell_later BB c0_2
  replace c0_3 := cell_later BB c0_3
  replace H0 : Hid (b0 < w0.heap.size) := Nat.lt_of_lt_of_le H0.out BB.size
  replace c1_0 := cell_later BB c1_0
  replace c1_1 := cell_later BB c1_1
  replace c1_2 := cell_later BB c1_2
  replace c1_3 := cell_later BB c1_3
  replace y1_0 := frozen_later BB H1.out y1_0
  replace y1_1 := frozen_later BB H1.out y1_1
  replace y1_2 := frozen_later BB H1.out y1_2
  replace y1_3 := frozen_later BB H1.out y1_3
  replace H1 : Hid (b1 < w0.heap.size) := Nat.lt_of_lt_of_le H1.out BB.size
  replace c2_0 := cell_later BB c2_0
  replace c2_1 := cell_later BB c2_1
  replace c2_2 := cell_later BB c2_2
  replace c2_3 := cell_later BB c2_3
  replace y2_0 := frozen_later BB H2.out y2_0
  replace y2_1 := frozen_later BB H2.out y2_1
  replace y2_2 := frozen_later BB H2.out y2_2
  replace y2_3 := frozen_later BB H2.out y2_3
  replace H2 : Hid (b2 < w0.heap.size) := Nat.lt_of_lt_of_le H2.out BB.size
  replace B := below_next B BB
  clear BB
  go_wp2_with fail
  have S1 : SetC w0 (w0.setCell ⟨b2, 1, none⟩ (.slice (some ⟨X0.heap.size, 0, none⟩) nv nv)) b2 1 (.slice (some ⟨X0.heap.size, 0, none⟩) nv nv) := setC_mk c2_1 y2_1
  obtain ⟨X1, hX1⟩ : ∃ X1, X1 = w0.setCell ⟨b2, 1, none⟩ (.slice (some ⟨X0.heap.size, 0, none⟩) nv nv) := ⟨_, rfl⟩
  rw [← hX1] at S1
  rw [← hX1]
  clear hX1
  replace c0_0 := S1.oth c0_0 (Or.inl n02)
  replace c0_1 := S1.oth c0_1 (Or.inl n02)
  replace c0_2 := S1.oth c0_2 (Or.inl n02)
  replace c0_3 := S1.oth c0_3 (Or.inl n02)
  replace c1_0 := S1.oth c1_0 (Or.inl n12)
  replace c1_1 := S1.oth c1_1 (Or.inl n12)
  replace c1_2 := S1.oth c1_2 (Or.inl n12)
  replace c1_3 := S1.oth c1_3 (Or.inl n12)
  replace c2_0 := S1.oth c2_0 (Or.inr (by decide))
  replace c2_1 := S1.cell
  replace c2_2 := S1.oth c2_2 (Or.inr (by decide))
  replace c2_3 := S1.oth c2_3 (Or.inr (by decide))
  replace y1_0 := S1.fr y1_0
  replace y1_1 := S1.fr y1_1
  replace y1_2 := S1.fr y1_2
  replace y1_3 := S1.fr y1_3
  replace y2_0 := S1.fr y2_0
  replace y2_1 := S1.fr y2_1
  replace y2_2 := S1.fr y2_2
  replace y2_3 := S1.fr y2_3
  replace H0 : Hid (b0 < X1.heap.size) := Nat.lt_of_lt_of_le H0.out S1.kept.size
  replace H1 : Hid (b1 < X1.heap.size) := Nat.lt_of_lt_of_le H1.out S1.kept.size
  replace H2 : Hid (b2 < X1.heap.size) := Nat.lt_of_lt_of_le H2.out S1.kept.size
  replace B := B.trans (S1.kept.below _ (by have q0 := O0.out; have q1 := O1.out; have q2 := O2.out; omega) B.size)
  replace R0 := R0.kept S1.kept (Or.inr G0.out)
  have Z1 : Hid (w0.heap.size ≤ X1.heap.size) := S1.kept.size
  clear S1
  refine (toCells_any ac nc cc ce _ (h.cel.below B) hnc).mono ?_
  rintro e w1 ⟨rfl, R1, BB⟩
  have G1 : Hid (b2 + 1 ≤ X1.heap.size) := H2.out
  have L1 : Hid (w.heap.size ≤ X1.heap.size) := B.size
  replace R0 := R0.below BB
  have U1 : Hid (X1.heap.size ≤ w1.heap.size) := BB.size
  replace c0_0 := cell_later BB c0_0
  replace c0_1 := cell_later BB c0_1
  replace c0_2 := cell_later BB c0_2
  replace c0_3 := cell_later BB c0_3
  replace H0 : Hid (b0 < w1.heap.size) := Nat.lt_of_lt_of_le H0.out BB.size
  replace c1_0 := cell_later BB c1_0
  replace c1_1 := cell_later BB c1_1
  replace c1_2 := cell_later BB c1_2
  replace c1_3 := cell_later BB c1_3
  replace y1_0 := frozen_later BB H1.out y1_0
  replace y1_1 := frozen_later BB H1.out y1_1
  replace y1_2 := frozen_later BB H1.out y1_2
  replace y1_3 := frozen_later BB H1.out y1_3
  replace H1 : Hid (b1 < w1.heap.size) := Nat.lt_of_lt_of_le H1.out BB.size
  replace c2_0 := cell_later BB c2_0
  replace c2_1 := cell_later BB c2_1
  replace c2_2 := cell_later BB c2_2
  replace c2_3 := cell_later BB c2_3
  replace y2_0 := frozen_later BB H2.out y2_0
  replace y2_1 := frozen_later BB H2.out y2_1
  replace y2_2 := frozen_later BB H2.out y2_2
  replace y2_3 := frozen_later BB H2.out y2_3
  replace H2 : Hid (b2 < w1.heap.size) := Nat.lt_of_lt_of_le H2.out BB.size
  replace B := below_next B BB
  clear BB
  go_wp2_with fail
  have S2 : SetC w1 (w1.setCell ⟨b2, 2, none⟩ (.slice (some ⟨X1.heap.size, 0, none⟩) nc nc)) b2 2 (.slice (some ⟨X1.heap.size, 0, none⟩) nc nc) := setC_mk c2_2 y2_2
  obtain ⟨X2, hX2⟩ : ∃ X2, X2 = w1.setCell ⟨b2, 2, none⟩ (.slice (some ⟨X1.heap.size, 0, none⟩) nc nc) := ⟨_, rfl⟩
  rw [← hX2] at S2
  rw [← hX2]
  clear hX2
  replace c0_0 := S2.oth c0_0 (Or.inl n02)
  replace c0_1 := S2.oth c0_1 (Or.inl n02)
  replace c0_2 := S2.oth c0_2 (Or.inl n02)
  replace c0_3 := S2.oth c0_3 (Or.inl n02)
  replace c1_0 := S2.oth c1_0 (Or.inl n12)
  replace c1_1 := S2.oth c1_1 (Or.inl n12)
  replace c1_2 := S2.oth c1_2 (Or.inl n12)
  replace c1_3 := S2.oth c1_3 (Or.inl n12)
  replace c2_0 := S2.oth c2_0 (Or.inr (by decide))
  replace c2_1 := S2.oth c2_1 (Or.inr (by decide))
  replace c2_2 := S2.cell
  replace c2_3 := S2.oth c2_3 (Or.inr (by decide))
  replace y1_0 := S2.fr y1_0
  replace y1_1 := S2.fr y1_1
  replace y1_2 := S2.fr y1_2
  replace y1_3 := S2.fr y1_3
  replace y2_0 := S2.fr y2_0
  replace y2_1 := S2.fr y2_1
  replace y2_2 := S2.fr y2_2
  replace y2_3 := S2.fr y2_3
  replace H0 : Hid (b0 < X2.heap.size) := Nat.lt_of_lt_of_le H0.out S2.kept.size
  replace H1 : Hid (b1 < X2.heap.size) := Nat.lt_of_lt_of_le H1.out S2.kept.size
  replace H2 : Hid (b2 < X2.heap.size) := Nat.lt_of_lt_of_le H2.out S2.kept.size
  replace B := B.trans (S2.kept.below _ (by have q0 := O0.out; have q1 := O1.out; have q2 := O2.out; omega) B.size)
  replace R0 := R0.kept S2.kept (Or.inr G0.out)
  replace R1 := R1.kept S2.kept (Or.inr G1.out)
  have Z2 : Hid (w1.heap.size ≤ X2.heap.size) := S2.kept.size
  clear S2
  refine (toInts_any ah nh ch sh _ (h.sha.below B) hnh).mono ?_
  rintro e w2 ⟨rfl, R2, BB⟩
  have G2 : Hid (b2 + 1 ≤ X2.heap.size) := H2.out
  have L2 : Hid (w.heap.size ≤ X2.heap.size) := B.size
  replace R0 := R0.below BB
  replace R1 := R1.below BB
  have U2 : Hid (X2.heap.size ≤ w2.heap.size) := BB.size
  replace c0_0 := cell_later BB c0_0
  replace c0_1 := cell_later BB c0_1
  replace c0_2 := cell_later BB c0_2
  replace c0_3 := cell_later BB c0_3
  replace H0 : Hid (b0 < w2.heap.size) := Nat.lt_of_lt_of_le H0.out BB.size
  replace c1_0 := cell_later BB c1_0
  replace c1_1 := cell_later BB c1_1
  replace c1_2 := cell_later BB c1_2
  replace c1_3 := cell_later BB c1_3
  replace y1_0 := frozen_later BB H1.out y1_0
  replace y1_1 := frozen_later BB H1.out y1_1
  replace y1_2 := frozen_later BB H1.out y1_2
  replace y1_3 := frozen_later BB H1.out y1_3
  replace H1 : Hid (b1 < w2.heap.size) := Nat.lt_of_lt_of_le H1.out BB.size
  replace c2_0 := cell_later BB c2_0
  replace c2_1 := cell_later BB c2_1
  replace c2_2 := cell_later BB c2_2
  replace c2_3 := cell_later BB c2_3
  replace y2_0 := frozen_later BB H2.out y2_0
  replace y2_1 := frozen_later BB H2.out y2_1
  replace y2_2 := frozen_later BB H2.out y2_2
  replace y2_3 := frozen_later BB H2.out y2_3
  replace H2 : Hid (b2 < w2.heap.size) := Nat.lt_of_lt_of_le H2.out BB.size
  replace B := below_next B BB
  clear BB
  go_wp2
  refine bodyPost_ret (v := .agg #[.int .i64 bl, .slice (some ⟨X0.heap.size, 0, none⟩) nv nv, .slice (some ⟨X1.heap.size, 0, none⟩) nc nc, .slice (some ⟨X2.heap.size, 0, none⟩) nh nh]) (by simp [results, Try.results25, go_sem, c1_0, c1_1, c1_2, c1_3]) rfl ?_
  have o2 := O2.out
  have KZ : Kept b1 (b2 + 1) w2 (((((w2.setCell ⟨b2, 3, none⟩ (.slice (some ⟨X2.heap.size, 0, none⟩) nh nh)).setCell ⟨b1, 0, none⟩ (.int .i64 bl)).setCell ⟨b1, 1, none⟩ (.slice (some ⟨X0.heap.size, 0, none⟩) nv nv)).setCell ⟨b1, 2, none⟩ (.slice (some ⟨X1.heap.size, 0, none⟩) nc nc)).setCell ⟨b1, 3, none⟩ (.slice (some ⟨X2.heap.size, 0, none⟩) nh nh)) := by refine Kept.setCell (Kept.setCell (Kept.setCell (Kept.setCell (Kept.setCell (Kept.refl _ _ _) ?_ ?_ _) ?_ ?_ _) ?_ ?_ _) ?_ ?_ _) ?_ ?_ _ <;> simp <;> omega
  have q0 := G0.out
  have q1 := G1.out
  have q2 := G2.out
  have s := KZ.size
  have u0 := U0.out
  have u1 := U1.out
  have u2 := U2.out
  have z1 := Z1.out
  have z2 := Z2.out
  have o0 := O0.out
  have o1 := O1.out
  exact ⟨_, _, _, _, _, _, rfl, ⟨(R0.kept KZ (Or.inr q0)).widen L0.out (by omega), (R1.kept KZ (Or.inr q1)).widen L1.out (by omega), (R2.kept KZ (Or.inr q2)).widen L2.out (by omega)⟩, B.trans (KZ.below _ (by omega) B.size)⟩

set_option maxRecDepth 20000 in
set_option maxHeartbeats 1000000 in
theorem eqPlain_yes {o : Bool} {lo hi : Nat} (bl : Int) (av : Option Addr) (nv cv : Nat) (ac : Option Addr) (nc cc : Nat) (ah : Option Addr) (nh ch : Nat) (vs ce : List Vo) (sh : List Int) (w : World) (h : PlAt w o lo hi av nv cv ac nc cc ah nh ch vs ce sh) {o2 : Bool} {lo2 hi2 : Nat} (av2 : Option Addr) (cv2 : Nat) (ac2 : Option Addr) (cc2 : Nat) (ah2 : Option Addr) (ch2 : Nat) (h2 : PlAt w o2 lo2 hi2 av2 nv cv2 ac2 nc cc2 ah2 nh ch2 vs ce sh) (hnv : nv ≤ 2097152) (hnc : nc ≤ 2097152) (hnh : nh ≤ 2097152) :
    Calls Try.prog 27 #[.agg #[.int .i64 bl, .slice av nv cv, .slice ac nc cc, .slice ah nh ch], .agg #[.int .i64 bl, .slice av2 nv cv2, .slice ac2 nc cc2, .slice ah2 nh ch2]] w fun e w' => e = .returned (.bool true) ∧ Below w.heap.size w w' := by
  have hbb : (bl != bl) = false := by simp
  go_enter Try.func27, Try.ntmps27
  go_wp2_with (first | (have g1 := H0.out; clear g1; (with_reducible refine box_new 34 #[.int .i64 bl, .slice av2 nv cv2, .slice ac2 nc cc2, .slice ah2 nh ch2] rfl ?_); intro b1 W1 N1; have O1 : Hid (b0 < b1) := Nat.lt_of_lt_of_le H0.out N1.ge; replace c0_0 := cell_later N1.below c0_0; replace c0_1 := cell_later N1.below c0_1; replace c0_2 := cell_later N1.below c0_2; replace c0_3 := cell_later N1.below c0_3; replace H0 : Hid (b0 < W1.heap.size) := Nat.lt_of_lt_of_le H0.out N1.below.size; replace B := below_next B N1.below; have H1 : Hid (b1 < W1.heap.size) := N1.lt; have c1_0 : W1.cell? ⟨b1, 0, none⟩ = some (.int .i64 bl) := N1.cell 0 _ rfl; have c1_1 : W1.cell? ⟨b1, 1, none⟩ = some (.slice av2 nv cv2) := N1.cell 1 _ rfl; have c1_2 : W1.cell? ⟨b1, 2, none⟩ = some (.slice ac2 nc cc2) := N1.cell 2 _ rfl; have c1_3 : W1.cell? ⟨b1, 3, none⟩ = some (.slice ah2 nh ch2) := N1.cell 3 _ rfl; clear N1) | ((with_reducible refine box_new 34 #[.int .i64 bl, .slice av nv cv, .slice ac nc cc, .slice ah nh ch] rfl ?_); intro b0 W0 N0; have O0 : Hid (w.heap.size ≤ b0) := N0.ge; have B := N0.below; have H0 : Hid (b0 < W0.heap.size) := N0.lt; have c0_0 : W0.cell? ⟨b0, 0, none⟩ = some (.int .i64 bl) := N0.cell 0 _ rfl; have c0_1 : W0.cell? ⟨b0, 1, none⟩ = some (.slice av nv cv) := N0.cell 1 _ rfl; have c0_2 : W0.cell? ⟨b0, 2, none⟩ = some (.slice ac nc cc) := N0.cell 2 _ rfl; have c0_3 : W0.cell? ⟨b0, 3, none⟩ = some (.slice ah nh ch) := N0.cell 3 _ rfl; clear N0) | fail)
  refine (eqVols_yes av av2 nv cv nv cv2 vs _ (h.vol.below B) (h2.vol.below B) hnv).mono ?_
  rintro e w1 ⟨rfl, BB⟩
  replace c0_0 := cell_later BB c0_0
  replace c0_1 := cell_later BB c0_1
  replace c0_2 := cell_later BB c0_2
  replace c0_3 := cell_later BB c0_3
  replace H0 : Hid (b0 < w1.heap.size) := Nat.lt_of_lt_of_le H0.out BB.size
  replace c1_0 := cell_later BB c1_0
  replace c1_1 := cell_later BB c1_1
  replace c1_2 := cell_later BB c1_2
  replace c1_3 := cell_later BB c1_3
  replace H1 : Hid (b1 < w1.heap.size) := Nat.lt_of_lt_of_le H1.out BB.size
  replace B := below_next B BB
  clear BB
  go_wp2_with fail
  refine (eqCells_yes ac ac2 nc cc nc cc2 ce _ (h.cel.below B) (h2.cel.below B) hnc).mono ?_
  rintro e w2 ⟨rfl, BB⟩
  replace c0_0 := cell_later BB c0_0
  replace c0_1 := cell_later BB c0_1
  replace c0_2 := cell_later BB c0_2
  replace c0_3 := cell_later BB c0_3
  replace H0 : Hid (b0 < w2.heap.size) := Nat.lt_of_lt_of_le H0.out BB.size
  replace c1_0 := cell_later BB c1_0
  replace c1_1 := cell_later BB c1_1
  replace c1_2 := cell_later BB c1_2
  replace c1_3 := cell_later BB c1_3
  replace H1 : Hid (b1 < w2.heap.size) := Nat.lt_of_lt_of_le H1.out BB.size
  replace B := below_next B BB
  clear BB
  go_wp2_with fail
  refine (eqInts_is ah ah2 nh ch nh ch2 sh sh _ (h.sha.below B) (h2.sha.below B) hnh hnh true (by simp)).mono ?_
  rintro e w3 ⟨rfl, BB⟩
  replace c0_0 := cell_later BB c0_0
  replace c0_1 := cell_later BB c0_1
  replace c0_2 := cell_later BB c0_2
  replace c0_3 := cell_later BB c0_3
  replace H0 : Hid (b0 < w3.heap.size) := Nat.lt_of_lt_of_le H0.out BB.size
  replace c1_0 := cell_later BB c1_0
  replace c1_1 := cell_later BB c1_1
  replace c1_2 := cell_later BB c1_2
  replace c1_3 := cell_later BB c1_3
  replace H1 : Hid (b1 < w3.heap.size) := Nat.lt_of_lt_of_le H1.out BB.size
  replace B := below_next B BB
  clear BB
  go_wp2
  go_ret
  exact ⟨rfl, B⟩

end Go.Proofs.Ytcbfmjanjciodaa
