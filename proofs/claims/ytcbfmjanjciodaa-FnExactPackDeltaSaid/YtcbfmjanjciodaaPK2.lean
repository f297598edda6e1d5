/- Chapter 7: a difference as words, by the program. -/
import Derived.Test.YtcbfmjanjciodaaEX
import Derived.Test.YtcbfmjanjciodaaPK0
import Derived.Test.YtcbfmjanjciodaaYQ
import Derived.Test.YtcbfmjanjciodaaYN
namespace Go.Proofs.Ytcbfmjanjciodaa
open Go.RowKit

theorem packVol_is (x y z : Int) (w : World) (h1 : 0 ≤ x ∧ x ≤ 99) (h2 : 0 ≤ y ∧ y ≤ 16) : Calls Try.prog 119 #[.agg #[.int .i64 x, .int .i64 y, .int .i64 z]] w fun e w' => e = .returned (.int .i64 (x * 256 + y)) ∧ Below w.heap.size w w' := by
  have A : Below w.heap.size w (w.alloc (.cells #[.int .i64 x, .int .i64 y, .int .i64 z] 149)) := (Below.refl _ _).alloc (Nat.le_refl _) _
  have hw1 : IntKind.i64.wrap (x * 256) = x * 256 := wrapI_same _ (by omega)
  have hw2 : IntKind.i64.wrap (x * 256 + y) = x * 256 + y := wrapI_same _ (by omega)
  clear h1 h2
  go_enter Try.func119, Try.ntmps119
  go_wp2
  go_ret
  exact ⟨rfl, A⟩
theorem packStep_is (s : Bool) (x y z : Int) (w : World) (h1 : 0 ≤ x ∧ x ≤ 99) (h2 : 0 ≤ y ∧ y ≤ 15) : Calls Try.prog 120 #[.agg #[.bool s, .int .i64 x, .int .i64 y, .int .i64 z]] w fun e w' => e = .returned (.tuple #[.int .i64 ((x * 256 + y) * 2 + (if s then 1 else 0)), .int .i64 z]) ∧ Below w.heap.size w w' := by
  have A : Below w.heap.size w (w.alloc (.cells #[.bool s, .int .i64 x, .int .i64 y, .int .i64 z] 141)) := (Below.refl _ _).alloc (Nat.le_refl _) _
  have hw1 : IntKind.i64.wrap (x * 256) = x * 256 := wrapI_same _ (by omega)
  have hw2 : IntKind.i64.wrap (x * 256 + y) = x * 256 + y := wrapI_same _ (by omega)
  have hw3 : IntKind.i64.wrap ((x * 256 + y) * 2) = (x * 256 + y) * 2 := wrapI_same _ (by omega)
  have hw4 : IntKind.i64.wrap ((x * 256 + y) * 2 + 1) = (x * 256 + y) * 2 + 1 := wrapI_same _ (by omega)
  clear h1 h2
  cases s with
  | false =>
    go_enter Try.func120, Try.ntmps120
    go_wp2_with fail
    go_quiet (fail)
    go_wp2
    refine bodyPost_ret (v := .tuple #[.int .i64 ((x * 256 + y) * 2), .int .i64 z]) (by simp [results, Try.results120, go_sem]) rfl ⟨by simp, below_drewN A _⟩
  | true =>
    go_enter Try.func120, Try.ntmps120
    go_wp2_with fail
    go_quiet (fail)
    go_wp2
    refine bodyPost_ret (v := .tuple #[.int .i64 ((x * 256 + y) * 2 + 1), .int .i64 z]) (by simp [results, Try.results120, go_sem]) rfl ⟨by simp, below_drewN A _⟩

set_option maxRecDepth 20000 in
set_option maxHeartbeats 4000000 in
theorem implPack_is {o : Bool} {lo hi : Nat} (fr tt : Int) (av : Option Addr) (nv cv : Nat) (aq : Option Addr) (nq cq : Nat) (vs : List Vo) (ss : List St) (w : World) (h : DeAt w o lo hi av nv cv aq nq cq vs ss) (hnv : nv ≤ 2097152) (hnq : nq ≤ 2097152) (cd : Int) (xs : List Int) (hc : deFault fr tt vs ss = cd) (hx : packL fr tt vs ss = xs) : Calls Try.prog 51 #[.agg #[.int .i64 fr, .int .i64 tt, .slice av nv cv, .slice aq nq cq]] w fun e w' => IntsR w w' e cd xs := by
  have hvl := h.vol.nTrips
  have hsl := h.ste.nQuads
  have HC : Hid _ := hc
  have HX : Hid _ := hx
  clear hc hx
  go_enter Try.func51, Try.ntmps51
  go_wp2_with (first | ((with_reducible refine box_new 78 #[.int .i64 fr, .int .i64 tt, .slice av nv cv, .slice aq nq cq] rfl ?_); intro b0 W0 N0; have O0 : Hid (w.heap.size ≤ b0) := N0.ge; have B := N0.below; have H0 : Hid (b0 < W0.heap.size) := N0.lt; have c0_0 : W0.cell? ⟨b0, 0, none⟩ = some (.int .i64 fr) := N0.cell 0 _ rfl; have c0_1 : W0.cell? ⟨b0, 1, none⟩ = some (.int .i64 tt) := N0.cell 1 _ rfl; have c0_2 : W0.cell? ⟨b0, 2, none⟩ = some (.slice av nv cv) := N0.cell 2 _ rfl; have c0_3 : W0.cell? ⟨b0, 3, none⟩ = some (.slice aq nq cq) := N0.cell 3 _ rfl; clear N0) | ((with_reducible refine alloc_new 92 #[.int .i64 0, .slice none 0 0] (fun _ => by kernel_rfl) ?_); intro b1 W1 N1; have O1 : Hid (b0 < b1) := Nat.lt_of_lt_of_le H0.out N1.ge; replace c0_0 := cell_later N1.below c0_0; replace c0_1 := cell_later N1.below c0_1; replace c0_2 := cell_later N1.below c0_2; replace c0_3 := cell_later N1.below c0_3; replace H0 : Hid (b0 < W1.heap.size) := Nat.lt_of_lt_of_le H0.out N1.below.size; replace B := below_next B N1.below; have H1 : Hid (b1 < W1.heap.size) := N1.lt; have c1_0 : W1.cell? ⟨b1, 0, none⟩ = some (.int .i64 0) := N1.cell 0 _ rfl; have c1_1 : W1.cell? ⟨b1, 1, none⟩ = some (.slice none 0 0) := N1.cell 1 _ rfl; have y1_0 : W1.frozen? ⟨b1, 0, none⟩ = false := N1.froz 0; have y1_1 : W1.frozen? ⟨b1, 1, none⟩ = false := N1.froz 1; clear N1) | fail)
  refine (implDF_is fr tt av nv cv aq nq cq vs ss _ (h.below B) hnv hnq cd HC.out).mono ?_
  rintro e w1 ⟨rfl, BB⟩
  replace c0_0 := cell_later BB c0_0
  replace c0_1 := cell_later BB c0_1
  replace c0_2 := cell_later BB c0_2
  replace c0_3 := cell_later BB c0_3
  replace H0 : Hid (b0 < w1.heap.size) := Nat.lt_of_lt_of_le H0.out BB.size
  replace c1_0 := cell_later BB c1_0
  replace c1_1 := cell_later BB c1_1
  replace y1_0 := frozen_later BB H1.out y1_0
  replace y1_1 := frozen_later BB H1.out y1_1
  replace H1 : Hid (b1 < w1.heap.size) := Nat.lt_of_lt_of_le H1.out BB.size
  replace B := below_next B BB
  clear BB
  by_cases z : cd = 0
  rotate_left 1
  · have hz : (cd != 0) = true := by simp [z]
    have e0 : xs = [] := by rw [← HX.out]; unfold packL; rw [HC.out, if_neg z]
    subst e0
    go_wp2
    refine bodyPost_ret (v := .agg #[.int .i64 cd, .slice none 0 0]) (by simp [results, Try.results51, go_sem, c1_0, c1_1]) rfl ?_
    have KZ : Kept b1 (b1 + 1) w1 ((w1.setCell ⟨b1, 0, none⟩ (.int .i64 cd)).setCell ⟨b1, 1, none⟩ (.slice none 0 0)) := by refine Kept.setCell (Kept.setCell (Kept.refl _ _ _) ?_ ?_ _) ?_ ?_ _ <;> simp
    exact ⟨_, _, _, rfl, RowAt.nil _ _ _ _ _, B.trans (KZ.below _ (Nat.le_trans O0.out (by have q1 := O1.out; omega)) B.size)⟩
  have hz : (cd != 0) = false := by simp [z]
  subst z
  have OK := de_ok HC.out
  have o1 : nv ≤ 100000 := by omega
  have o2 : nq ≤ 100000 := by omega
  have HV : Hid _ := volSm_of OK.2.2.2.2.1
  have HS : Hid _ := stSm_of OK.2.2.2.2.2
  have e0 : xs = packW fr tt vs ss := by rw [← HX.out]; unfold packL; rw [HC.out, if_pos rfl]
  have E0 : Hid _ := e0
  clear OK e0 HX
  go_wp2_with (first | ((with_reducible refine alloc_new 161 #[.slice none 0 0] (fun _ => by kernel_rfl) ?_); intro b2 W2 N2; have O2 : Hid (b1 < b2) := Nat.lt_of_lt_of_le H1.out N2.ge; replace c0_0 := cell_later N2.below c0_0; replace c0_1 := cell_later N2.below c0_1; replace c0_2 := cell_later N2.below c0_2; replace c0_3 := cell_later N2.below c0_3; replace H0 : Hid (b0 < W2.heap.size) := Nat.lt_of_lt_of_le H0.out N2.below.size; replace c1_0 := cell_later N2.below c1_0; replace c1_1 := cell_later N2.below c1_1; replace y1_0 := frozen_later N2.below H1.out y1_0; replace y1_1 := frozen_later N2.below H1.out y1_1; replace H1 : Hid (b1 < W2.heap.size) := Nat.lt_of_lt_of_le H1.out N2.below.size; replace B := below_next B N2.below; have H2 : Hid (b2 < W2.heap.size) := N2.lt; have c2_0 : W2.cell? ⟨b2, 0, none⟩ = some (.slice none 0 0) := N2.cell 0 _ rfl; have y2_0 : W2.frozen? ⟨b2, 0, none⟩ = false := N2.froz 0; clear N2) | fail)
  have T0 : Told W2 b2 0 [] := ⟨H2.out, ⟨_, c2_0, rfl, Or.inl ⟨rfl, rfl⟩⟩, y2_0⟩
  have A1 : Below W2.heap.size W2 (W2.alloc (.cells #[.int .i64 fr, .int .i64 tt, .int .i64 (nv : Int)] 2)) := (Below.refl _ _).alloc (Nat.le_refl _) _
  refine (tell_is b2 0 [] (W2.alloc (.cells #[.int .i64 fr, .int .i64 tt, .int .i64 (nv : Int)] 2)) (T0.below A1) ⟨W2.heap.size, 0, none⟩ 3 3 [fr, tt, (nv : Int)] (row_lit W2 [.int .i64 fr, .int .i64 tt, .int .i64 (nv : Int)] 2 3 1 rfl) (by omega)).mono ?_
  rintro e w2 ⟨rfl, T1, C⟩
  replace C : Below b2 W2 w2 := (A1.mono (Nat.le_of_lt H2.out)).trans C
  clear T0 A1
  rw [Nat.zero_add, List.nil_append] at T1
  have D1 : Hid (b0 < b2) := Nat.lt_trans O1.out O2.out
  have D2 : Hid (b1 < b2) := O2.out
  have BW : Below w.heap.size w W2 := B
  have HB : Hid (w.heap.size ≤ b2) := Nat.le_trans O0.out (Nat.le_of_lt D1.out)
  have g2 := (C.cell (p := ⟨b0, 2, none⟩) D1.out).trans c0_2
  clear c2_0 y2_0
  go_wp2
  go_loopw [27] (fun i wr => ∃ k : Nat, k ≤ nv ∧ i = .int .i64 k ∧ Told wr b2 (3 + k) ([fr, tt, (nv : Int)] ++ packVs (vs.take k)) ∧ Below b2 W2 wr) (fun i _ => nv - (intOf i).toNat)
  case atStart => exact ⟨0, Nat.zero_le _, rfl, by simpa [packVs] using T1, C⟩
  case round =>
    clear T1 C g2
    obtain ⟨k, hk, rfl, T, C⟩ := hrel
    have BX : Below w.heap.size w wr := BW.trans (C.mono HB.out)
    by_cases hlt : k < nv
    · have HT : Hid _ := packVs_take (vs := vs) (k := k) (by omega)
      have sm := HV.out k (by omega)
      obtain ⟨b, off, rfl, _, _, hbs, v0, v1, v2, _⟩ := h.vol.trip hlt
      replace v0 := cell_later BX v0
      replace v1 := cell_later BX v1
      replace v2 := cell_later BX v2
      have hlk : (k : Int) < (nv : Int) := by omega
      unfold packV at HT
      obtain ⟨⟨x, y, z⟩, hx⟩ : ∃ x, vs.getD k vo0 = x := ⟨_, rfl⟩
      rw [hx] at v0 v1 v2 HT sm
      simp only at v0 v1 v2 HT sm
      clear hx
      have SM : Hid _ := sm
      clear sm
      obtain ⟨X, hX⟩ : ∃ X : List Int, X = [fr, tt, (nv : Int)] ++ packVs (vs.take k) := ⟨_, rfl⟩
      rw [← hX] at T
      have HX : Hid _ := hX
      clear hX
      have A1 : Below wr.heap.size wr (wr.alloc (.cells #[.int .i64 x, .int .i64 y, .int .i64 z] 149)) := (Below.refl _ _).alloc (Nat.le_refl _) _
      have HTl : Hid _ := T.lt
      go_wp2_with fail
      refine (packVol_is x y z _ SM.out.1 SM.out.2).mono ?_
      rintro e w3 ⟨rfl, B3⟩
      have A2 := below_step A1 A1.size B3
      have A3 : Below wr.heap.size wr (w3.alloc (.cells #[.int .i64 (x * 256 + y)] 2)) := A2.alloc A2.size _
      go_wp2_with fail
      refine (tell_is b2 (3 + k) X (w3.alloc (.cells #[.int .i64 (x * 256 + y)] 2)) (T.below A3) ⟨w3.heap.size, 0, none⟩ 1 1 [x * 256 + y] (row_lit w3 [.int .i64 (x * 256 + y)] 2 1 1 rfl) (by omega)).mono ?_
      rintro e w4 ⟨rfl, T2, C2⟩
      replace C2 : Below b2 W2 w4 := C.trans ((A3.mono (Nat.le_of_lt HTl.out)).trans C2)
      have T3 : Told w4 b2 (3 + (k + 1)) ([fr, tt, (nv : Int)] ++ packVs (vs.take (k + 1))) := by
        rw [HT.out, ← List.append_assoc, ← HX.out]; exact T2
      clear T2 T C A1 A2 A3 B3 BX v0 v1 v2 HT HX
      go_wp2
      go_roundw
      case rel => exact ⟨k + 1, by omega, by go_num, T3, C2⟩
      case measure => simp [intOf]; omega
    · obtain rfl : k = nv := by omega
      rw [show vs.take k = vs from List.take_of_length_le (by omega)] at T
      obtain ⟨X, hX⟩ : ∃ X : List Int, X = [fr, tt, (k : Int)] ++ packVs vs := ⟨_, rfl⟩
      rw [← hX] at T
      have HX : Hid _ := hX
      clear hX
      have g3 := (C.cell (p := ⟨b0, 3, none⟩) D1.out).trans c0_3
      have A1 : Below wr.heap.size wr (wr.alloc (.cells #[.int .i64 (nq : Int)] 2)) := (Below.refl _ _).alloc (Nat.le_refl _) _
      have HTl : Hid _ := T.lt
      go_wp2_with fail
      refine (tell_is b2 (3 + k) X (wr.alloc (.cells #[.int .i64 (nq : Int)] 2)) (T.below A1) ⟨wr.heap.size, 0, none⟩ 1 1 [(nq : Int)] (row_lit wr [.int .i64 (nq : Int)] 2 1 1 rfl) (by omega)).mono ?_
      rintro e w2 ⟨rfl, T2, C2⟩
      replace C2 : Below b2 W2 w2 := C.trans ((A1.mono (Nat.le_of_lt HTl.out)).trans C2)
      rw [HX.out] at T2
      clear T C A1 BX HX HTl g3
      have g3 := (C2.cell (p := ⟨b0, 3, none⟩) D1.out).trans c0_3
      go_wp2
      go_loopw [44] (fun i wr => ∃ m : Nat, m ≤ nq ∧ i = .int .i64 m ∧ Told wr b2 (3 + k + 1 + 2 * m) ([fr, tt, (k : Int)] ++ packVs vs ++ [(nq : Int)] ++ packSs (ss.take m)) ∧ Below b2 W2 wr) (fun i _ => nq - (intOf i).toNat)
      case atStart => exact ⟨0, Nat.zero_le _, rfl, by simpa [packSs] using T2, C2⟩
      case round =>
        clear T2 C2 g3
        obtain ⟨m, hm, rfl, T, C⟩ := hrel
        have BX : Below w.heap.size w wr := BW.trans (C.mono HB.out)
        by_cases hlt2 : m < nq
        · have HT : Hid _ := packSs_take (ss := ss) (k := m) (by omega)
          have sm := HS.out m (by omega)
          obtain ⟨b, off, rfl, _, _, hbs, v0, v1, v2, v3⟩ := h.ste.quad hlt2
          replace v0 := cell_later BX v0
          replace v1 := cell_later BX v1
          replace v2 := cell_later BX v2
          replace v3 := cell_later BX v3
          have hlm : (m : Int) < (nq : Int) := by omega
          unfold packH at HT
          obtain ⟨⟨s, x, y, z⟩, hx⟩ : ∃ x, ss.getD m st0 = x := ⟨_, rfl⟩
          rw [hx] at v0 v1 v2 v3 HT sm
          simp only at v0 v1 v2 v3 HT sm
          clear hx
          have SM : Hid _ := sm
          clear sm
          obtain ⟨X, hX⟩ : ∃ X : List Int, X = [fr, tt, (k : Int)] ++ packVs vs ++ [(nq : Int)] ++ packSs (ss.take m) := ⟨_, rfl⟩
          rw [← hX] at T
          have HX : Hid _ := hX
          clear hX
          have A1 : Below wr.heap.size wr (wr.alloc (.cells #[.bool s, .int .i64 x, .int .i64 y, .int .i64 z] 141)) := (Below.refl _ _).alloc (Nat.le_refl _) _
          have HTl : Hid _ := T.lt
          obtain ⟨p, hp⟩ : ∃ p, (x * 256 + y) * 2 + (if s = true then 1 else 0) = p := ⟨_, rfl⟩
          rw [hp] at HT
          have HP : Hid _ := hp
          clear hp
          go_wp2_with fail
          refine (packStep_is s x y z _ SM.out.1 SM.out.2).mono ?_
          rw [HP.out]
          rintro e w3 ⟨rfl, B3⟩
          have A2 := below_step A1 A1.size B3
          have A3 : Below wr.heap.size wr (w3.alloc (.cells #[.int .i64 p, .int .i64 z] 2)) := A2.alloc A2.size _
          go_wp2_with fail
          refine (tell_is b2 (3 + k + 1 + 2 * m) X (w3.alloc (.cells #[.int .i64 p, .int .i64 z] 2)) (T.below A3) ⟨w3.heap.size, 0, none⟩ 2 2 [p, z] (row_lit w3 [.int .i64 p, .int .i64 z] 2 2 1 rfl) (by omega)).mono ?_
          rintro e w4 ⟨rfl, T2, C2⟩
          replace C2 : Below b2 W2 w4 := C.trans ((A3.mono (Nat.le_of_lt HTl.out)).trans C2)
          have T3 : Told w4 b2 (3 + k + 1 + 2 * (m + 1)) ([fr, tt, (k : Int)] ++ packVs vs ++ [(nq : Int)] ++ packSs (ss.take (m + 1))) := by
            rw [HT.out, ← List.append_assoc, ← HX.out]; exact T2
          clear T2 T C A1 A2 A3 B3 BX v0 v1 v2 v3 HT HX
          go_wp2
          go_roundw
          case rel => exact ⟨m + 1, by omega, by go_num, T3, C2⟩
          case measure => simp [intOf]; omega
        · obtain rfl : m = nq := by omega
          rw [show ss.take m = ss from List.take_of_length_le (by omega)] at T
          have HX : Hid ([fr, tt, (k : Int)] ++ packVs vs ++ [(m : Int)] ++ packSs ss = packW fr tt vs ss) := by show _ = _; unfold packW; rw [hvl, hsl]
          rw [HX.out] at T
          obtain ⟨v, q1, q2⟩ := T.ok
          obtain ⟨ao, cap, rfl, R⟩ := RowAt.of_owned q2
          have k0 := (C.cell (p := ⟨b1, 0, none⟩) D2.out).trans c1_0
          have k1 := (C.cell (p := ⟨b1, 1, none⟩) D2.out).trans c1_1
          have f0 := (C.frozen (p := ⟨b1, 0, none⟩) D2.out).trans y1_0
          have f1 := (C.frozen (p := ⟨b1, 1, none⟩) D2.out).trans y1_1
          go_wp2
          refine bodyPost_ret (v := .agg #[.int .i64 0, .slice ao (3 + k + 1 + 2 * m) cap]) (by simp [results, Try.results51, go_sem, k0, k1]) rfl ?_
          have KZ : Kept b1 (b1 + 1) wr ((wr.setCell ⟨b1, 0, none⟩ (.int .i64 0)).setCell ⟨b1, 1, none⟩ (.slice ao (3 + k + 1 + 2 * m) cap)) := by refine Kept.setCell (Kept.setCell (Kept.refl _ _ _) ?_ ?_ _) ?_ ?_ _ <;> simp
          have s := KZ.size
          have d2 := D2.out
          have o0 := O0.out
          have o1' := O1.out
          exact ⟨_, _, _, rfl, by rw [E0.out]; exact (R.kept KZ (Or.inr (by omega))).widen (by omega) s, BX.trans (KZ.below _ (by omega) BX.size)⟩

end Go.Proofs.Ytcbfmjanjciodaa
