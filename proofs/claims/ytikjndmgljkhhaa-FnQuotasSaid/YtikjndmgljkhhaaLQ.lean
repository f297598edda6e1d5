/- No volume has more than its quota: the walk of FnQuotas. -/
import Derived.Test.YtikjndmgljkhhaaPS
import Derived.Test.YtikjndmgljkhhaaFacts2
import Derived.Test.YtikjndmgljkhhaaYS
import Derived.Test.YtikjndmgljkhhaaW6
import Derived.Deep.DeepCutAuto
namespace Go.Proofs.Ytikjndmgljkhhaa
open Go.RowKit

set_option maxRecDepth 20000 in
set_option maxHeartbeats 4000000 in
theorem lawQuotas (ac : Option Addr) (nc cc : Nat) (cs : List Nat) (w : World) (h : RowAt w false 0 w.heap.size 1 ac nc cc (bys cs)) (hcs : ∀ i, cs.getD i 0 < 256) (hn : nc ≤ maxLen) :
    Calls Try.prog 4 #[.slice ac nc cc] w fun e w' => e = .returned (.bool true) ∧ Below w.heap.size w w' := by
  unfold maxLen at hn
  by_cases hbig : 1048576 < nc
  · go_enter Try.func4, Try.ntmps4
    go_wp2_with fail
    refine (lwBig_is ac nc cc _ true (by simp; omega)).mono ?_
    rintro e w0 ⟨rfl, rfl⟩
    go_wp2
    go_ret
    exact ⟨rfl, Below.refl _ _⟩
  have hc : nc ≤ 1048576 := by omega
  obtain ⟨d0, hd0⟩ : ∃ d, lwN cs 0 6 = d := ⟨_, rfl⟩
  have hd6 : d0 < 6 := by rw [← hd0]; exact lwN_lt _ _ _ (by decide)
  have HD0 : Hid _ := hd0
  clear hd0
  have hw0 : IntKind.i64.wrap (1 + (d0 : Int)) = 1 + (d0 : Int) := by rw [IntKind.wrap_i64]; omega
  go_enter Try.func4, Try.ntmps4
  go_wp2_with fail
  refine (lwBig_is ac nc cc _ false (by simp; omega)).mono ?_
  rintro e w0 ⟨rfl, rfl⟩
  go_wp2_with fail
  refine (lwAt_of ac nc cc cs 0 6 _ _ rfl rfl _ h hcs (by omega) hc (by omega) d0 HD0.out).mono ?_
  rintro e w1 ⟨rfl, B⟩
  go_wp2_with fail
  refine (newS_of 20 (by omega) _ rfl _).mono ?_
  rintro e w2 ⟨xa, xn, xc, ya, yn, yc, za, zn, zc, rfl, P0, B2⟩
  replace B := below_next B B2
  clear B2
  have pf := poolField
  go_wp2_with fail
  have CR := create_one (n := 20) (by omega) (q := 1 + (d0 : Int)) (by omega) (by omega)
  have ON := one_new (q := 1 + (d0 : Int)) (n := 20) (by omega) (by omega) (by omega)
  refine (applyS P0 1 1 0 (1 + (d0 : Int)) 0 0 _ _ CR.1 CR.2 ON.ok).mono ?_
  rintro e w3 ⟨an, nn, cn, ab, nb, cb, av, nv, cv, rfl, P1, B3⟩
  have QP : Hid (w2.heap.size ≤ w3.heap.size) := B3.size
  replace B := below_next B B3
  clear B3 P0 CR
  have HBW : Hid (w0.heap.size ≤ w3.heap.size) := B.size
  go_wp2_with (first | ((with_reducible refine alloc_new 31 #[.slice none 0 0, .slice none 0 0, .slice none 0 0] (fun _ => by kernel_rfl) ?_); intro b0 W0 N0; replace B := below_next B N0.below; have P2 := P1.below N0.below; have c0_0 : W0.cell? ⟨b0, 0, none⟩ = some (.slice none 0 0) := N0.cell 0 _ rfl; have y0_0 : W0.frozen? ⟨b0, 0, none⟩ = false := N0.froz 0; have c0_1 : W0.cell? ⟨b0, 1, none⟩ = some (.slice none 0 0) := N0.cell 1 _ rfl; have y0_1 : W0.frozen? ⟨b0, 1, none⟩ = false := N0.froz 1; have c0_2 : W0.cell? ⟨b0, 2, none⟩ = some (.slice none 0 0) := N0.cell 2 _ rfl; have y0_2 : W0.frozen? ⟨b0, 2, none⟩ = false := N0.froz 2; have H0 : Hid (b0 < W0.heap.size) := N0.lt; have HN : Hid (w3.heap.size ≤ b0) := N0.ge; clear N0) | ((with_reducible refine store_box 31 b0 [.slice an nn cn, .slice ab nb cb, .slice av nv cv] (by simp) (there3 c0_0 c0_1 c0_2 y0_0 y0_1 y0_2) (by kernel_rfl) (by simp [Value.oneCell']) rfl rfl ?_); intro W1 S0; replace B := B.trans (S0.kept.below _ (Nat.le_trans HBW.out HN.out) B.size); have P3 := P2.set S0 (Or.inl HN.out); replace c0_0 : W1.cell? ⟨b0, 0, none⟩ = some (.slice an nn cn) := S0.cell 0 _ rfl; replace y0_0 := S0.fr y0_0; replace c0_1 : W1.cell? ⟨b0, 1, none⟩ = some (.slice ab nb cb) := S0.cell 1 _ rfl; replace y0_1 := S0.fr y0_1; replace c0_2 : W1.cell? ⟨b0, 2, none⟩ = some (.slice av nv cv) := S0.cell 2 _ rfl; replace y0_2 := S0.fr y0_2; replace H0 : Hid (b0 < W1.heap.size) := Nat.lt_of_lt_of_le H0.out S0.kept.size; clear S0 P2 P1) | fail)
  obtain ⟨q, hq⟩ : ∃ q : Int, q = 1 + (d0 : Int) := ⟨_, rfl⟩
  rw [← hq] at P3 ON
  rw [← hq]
  have HQ : Hid (q = 1 + (d0 : Int)) := hq
  have hq1 : 1 ≤ q ∧ q ≤ 6 := by omega
  clear hq hw0 pf
  have QI : QAt w0 W1 b0 q 0 20 := ⟨_, _, _, _, _, _, _, _, _, _, _, _, _, c0_0, c0_1, c0_2, y0_0, y0_1, y0_2, H0.out, P3, Or.inl HN.out, ON, B⟩
  have HB0 : Hid (w0.heap.size ≤ b0) := Nat.le_trans HBW.out HN.out
  clear c0_0 c0_1 c0_2 y0_0 y0_1 y0_2 H0 P3 HN ON QP
  go_loopw [5] (fun i wr => ∃ k : Nat, k ≤ 9 ∧ i = .int .i64 k ∧ QAt w0 wr b0 q (min k (1 + d0)) 20) (fun i _ => 9 - (intOf i).toNat)
  case atStart => exact ⟨0, by omega, rfl, by rw [Nat.zero_min]; exact QI⟩
  case round =>
    obtain ⟨k, hk, rfl, an, nn, cn, ab, nb, cb, av, nv, cv, f, R, lo, hi, c0_0, c0_1, c0_2, y0_0, y0_1, y0_2, hl0, P4, hav, ON, B4⟩ := hrel
    have H0 : Hid _ := hl0
    have HLW : Hid (b0 < wr.heap.size) := hl0
    have HAV : Hid _ := hav
    clear hl0 hav QI
    by_cases hlt : k < 9
    · have hlk : (k : Int) < 9 := by omega
      have hqn : (q.toNat : Int) = q := by omega
      have HQN : Hid (q.toNat = 1 + d0) := by show _ = _; have := HQ.out; omega
      clear hqn
      by_cases hkq : (k : Int) < q
      · have hdq : decide (q ≤ (k : Int)) = false := decide_eq_false (by omega)
        obtain ⟨g, T, a1, a2, ON2⟩ := write_new (k := k) (by rw [Nat.min_eq_left (by have := HQ.out; omega)] at ON; exact ON) hkq (by omega) (by omega) (x := (k : Int)) (by omega) (by omega)
        have ON3 : One g q T (min (k + 1) (1 + d0)) 20 := by rw [Nat.min_eq_left (by have := HQ.out; omega)]; exact ON2
        have OKK : Hid (PoolOk g [(1, q, T)]) := ON3.ok
        have HON : Hid _ := ON3
        have HA1 : Hid _ := a1
        have HA2 : Hid _ := a2
        clear ON ON3 a1 a2 ON2
        go_wp2_with fail
        refine (applyS P4 2 1 (k : Int) (k : Int) 0 0 g [(1, q, T)] HA1.out HA2.out OKK.out).mono ?_
        rintro e w5 ⟨pa, pn, pc, pb, qn, qc, va, vn, vc, rfl, P5, B5⟩
        replace c0_0 := cell_later B5 c0_0
        replace c0_1 := cell_later B5 c0_1
        replace c0_2 := cell_later B5 c0_2
        replace y0_0 := frozen_later B5 H0.out y0_0
        replace y0_1 := frozen_later B5 H0.out y0_1
        replace y0_2 := frozen_later B5 H0.out y0_2
        replace H0 : Hid (b0 < w5.heap.size) := Nat.lt_of_lt_of_le H0.out B5.size
        replace B4 := below_next B4 B5
        skip
        clear B5 P4
        go_wp2_with (first | ((with_reducible refine alloc_new 33 #[.int .i64 0, .int .i64 0, .int .i64 0, .slice none 0 0, .slice none 0 0, .slice none 0 0] (fun _ => by kernel_rfl) ?_); intro b1 X1 N1; have P6 := P5.below N1.below; have O1 : Hid (b0 < b1) := Nat.lt_of_lt_of_le H0.out N1.ge; replace c0_0 := cell_later N1.below c0_0; replace c0_1 := cell_later N1.below c0_1; replace c0_2 := cell_later N1.below c0_2; replace y0_0 := frozen_later N1.below H0.out y0_0; replace y0_1 := frozen_later N1.below H0.out y0_1; replace y0_2 := frozen_later N1.below H0.out y0_2; replace H0 : Hid (b0 < X1.heap.size) := Nat.lt_of_lt_of_le H0.out N1.below.size; replace B4 := below_next B4 N1.below; have c1_0 : X1.cell? ⟨b1, 0, none⟩ = some (.int .i64 0) := N1.cell 0 _ rfl; have y1_0 : X1.frozen? ⟨b1, 0, none⟩ = false := N1.froz 0; have c1_1 : X1.cell? ⟨b1, 1, none⟩ = some (.int .i64 0) := N1.cell 1 _ rfl; have y1_1 : X1.frozen? ⟨b1, 1, none⟩ = false := N1.froz 1; have c1_2 : X1.cell? ⟨b1, 2, none⟩ = some (.int .i64 0) := N1.cell 2 _ rfl; have y1_2 : X1.frozen? ⟨b1, 2, none⟩ = false := N1.froz 2; have c1_3 : X1.cell? ⟨b1, 3, none⟩ = some (.slice none 0 0) := N1.cell 3 _ rfl; have y1_3 : X1.frozen? ⟨b1, 3, none⟩ = false := N1.froz 3; have c1_4 : X1.cell? ⟨b1, 4, none⟩ = some (.slice none 0 0) := N1.cell 4 _ rfl; have y1_4 : X1.frozen? ⟨b1, 4, none⟩ = false := N1.froz 4; have c1_5 : X1.cell? ⟨b1, 5, none⟩ = some (.slice none 0 0) := N1.cell 5 _ rfl; have y1_5 : X1.frozen? ⟨b1, 5, none⟩ = false := N1.froz 5; have H1 : Hid (b1 < X1.heap.size) := N1.lt; have HN1 : Hid (w5.heap.size ≤ b1) := N1.ge; clear N1) | ((with_reducible refine store_box 33 b1 [.int .i64 0, .int .i64 0, .int .i64 0, .slice pa pn pc, .slice pb qn qc, .slice va vn vc] (by simp) (there6 c1_0 c1_1 c1_2 c1_3 c1_4 c1_5 y1_0 y1_1 y1_2 y1_3 y1_4 y1_5) (by kernel_rfl) (by simp [Value.oneCell']) rfl rfl ?_); intro X2 S1; have P7 := P6.set S1 (Or.inl HN1.out); replace B4 := B4.trans (S1.kept.below _ (Nat.le_trans HB0.out (Nat.le_of_lt O1.out)) B4.size); replace c0_0 := S1.at c0_0 (by have q1 := O1.out; omega); replace y0_0 := S1.fr y0_0; replace c0_1 := S1.at c0_1 (by have q1 := O1.out; omega); replace y0_1 := S1.fr y0_1; replace c0_2 := S1.at c0_2 (by have q1 := O1.out; omega); replace y0_2 := S1.fr y0_2; replace c1_0 : X2.cell? ⟨b1, 0, none⟩ = some (.int .i64 0) := S1.cell 0 _ rfl; replace c1_1 : X2.cell? ⟨b1, 1, none⟩ = some (.int .i64 0) := S1.cell 1 _ rfl; replace c1_2 : X2.cell? ⟨b1, 2, none⟩ = some (.int .i64 0) := S1.cell 2 _ rfl; replace c1_3 : X2.cell? ⟨b1, 3, none⟩ = some (.slice pa pn pc) := S1.cell 3 _ rfl; replace c1_4 : X2.cell? ⟨b1, 4, none⟩ = some (.slice pb qn qc) := S1.cell 4 _ rfl; replace c1_5 : X2.cell? ⟨b1, 5, none⟩ = some (.slice va vn vc) := S1.cell 5 _ rfl; replace H0 : Hid (b0 < X2.heap.size) := Nat.lt_of_lt_of_le H0.out S1.kept.size; clear S1 P6 P5) | ((with_reducible refine store_box 31 b0 [.slice pa pn pc, .slice pb qn qc, .slice va vn vc] (by simp) (there3 c0_0 c0_1 c0_2 y0_0 y0_1 y0_2) (by kernel_rfl) (by simp [Value.oneCell']) rfl rfl ?_); intro X3 S0; have P8 := P7.set S0 (Or.inr HLW.out); replace B4 := B4.trans (S0.kept.below _ HB0.out B4.size); replace c0_0 : X3.cell? ⟨b0, 0, none⟩ = some (.slice pa pn pc) := S0.cell 0 _ rfl; replace y0_0 := S0.fr y0_0; replace c0_1 : X3.cell? ⟨b0, 1, none⟩ = some (.slice pb qn qc) := S0.cell 1 _ rfl; replace y0_1 := S0.fr y0_1; replace c0_2 : X3.cell? ⟨b0, 2, none⟩ = some (.slice va vn vc) := S0.cell 2 _ rfl; replace y0_2 := S0.fr y0_2; replace H0 : Hid (b0 < X3.heap.size) := Nat.lt_of_lt_of_le H0.out S0.kept.size; clear S0 P7 c1_0 c1_1 c1_2 c1_3 c1_4 c1_5) | fail)
        go_roundw
        case rel => exact ⟨k + 1, by omega, by go_num, _, _, _, _, _, _, _, _, _, _, _, _, _, c0_0, c0_1, c0_2, y0_0, y0_1, y0_2, H0.out, P8, Or.inr HLW.out, HON.out, B4⟩
        case measure => simp [intOf]; omega
      · have hdq : decide (q ≤ (k : Int)) = true := decide_eq_true (by omega)
        obtain ⟨a1, a2⟩ := write_quota (k := 1 + d0) (by rw [Nat.min_eq_right (by have := HQ.out; omega)] at ON; exact ON) (by have := HQ.out; omega) (j := k) (by omega) (by have := HQ.out; omega) (x := (k : Int)) (by omega) (by omega)
        have ON3 : One f q R (min (k + 1) (1 + d0)) 20 := by rw [Nat.min_eq_right (by have := HQ.out; omega)] at ON ⊢; exact ON
        have OKK : Hid (PoolOk f [(1, q, R)]) := ON3.ok
        have HON : Hid _ := ON3
        have HA1 : Hid _ := a1
        have HA2 : Hid _ := a2
        clear ON ON3 a1 a2
        go_wp2_with fail
        refine (applyS P4 2 1 (k : Int) (k : Int) 9 0 f [(1, q, R)] HA1.out HA2.out OKK.out).mono ?_
        rintro e w5 ⟨pa, pn, pc, pb, qn, qc, va, vn, vc, rfl, P5, B5⟩
        replace c0_0 := cell_later B5 c0_0
        replace c0_1 := cell_later B5 c0_1
        replace c0_2 := cell_later B5 c0_2
        replace y0_0 := frozen_later B5 H0.out y0_0
        replace y0_1 := frozen_later B5 H0.out y0_1
        replace y0_2 := frozen_later B5 H0.out y0_2
        replace H0 : Hid (b0 < w5.heap.size) := Nat.lt_of_lt_of_le H0.out B5.size
        replace B4 := below_next B4 B5
        skip
        clear B5 P4
        go_wp2_with (first | ((with_reducible refine alloc_new 33 #[.int .i64 0, .int .i64 0, .int .i64 0, .slice none 0 0, .slice none 0 0, .slice none 0 0] (fun _ => by kernel_rfl) ?_); intro b1 X1 N1; have P6 := P5.below N1.below; have O1 : Hid (b0 < b1) := Nat.lt_of_lt_of_le H0.out N1.ge; replace c0_0 := cell_later N1.below c0_0; replace c0_1 := cell_later N1.below c0_1; replace c0_2 := cell_later N1.below c0_2; replace y0_0 := frozen_later N1.below H0.out y0_0; replace y0_1 := frozen_later N1.below H0.out y0_1; replace y0_2 := frozen_later N1.below H0.out y0_2; replace H0 : Hid (b0 < X1.heap.size) := Nat.lt_of_lt_of_le H0.out N1.below.size; replace B4 := below_next B4 N1.below; have c1_0 : X1.cell? ⟨b1, 0, none⟩ = some (.int .i64 0) := N1.cell 0 _ rfl; have y1_0 : X1.frozen? ⟨b1, 0, none⟩ = false := N1.froz 0; have c1_1 : X1.cell? ⟨b1, 1, none⟩ = some (.int .i64 0) := N1.cell 1 _ rfl; have y1_1 : X1.frozen? ⟨b1, 1, none⟩ = false := N1.froz 1; have c1_2 : X1.cell? ⟨b1, 2, none⟩ = some (.int .i64 0) := N1.cell 2 _ rfl; have y1_2 : X1.frozen? ⟨b1, 2, none⟩ = false := N1.froz 2; have c1_3 : X1.cell? ⟨b1, 3, none⟩ = some (.slice none 0 0) := N1.cell 3 _ rfl; have y1_3 : X1.frozen? ⟨b1, 3, none⟩ = false := N1.froz 3; have c1_4 : X1.cell? ⟨b1, 4, none⟩ = some (.slice none 0 0) := N1.cell 4 _ rfl; have y1_4 : X1.frozen? ⟨b1, 4, none⟩ = false := N1.froz 4; have c1_5 : X1.cell? ⟨b1, 5, none⟩ = some (.slice none 0 0) := N1.cell 5 _ rfl; have y1_5 : X1.frozen? ⟨b1, 5, none⟩ = false := N1.froz 5; have H1 : Hid (b1 < X1.heap.size) := N1.lt; have HN1 : Hid (w5.heap.size ≤ b1) := N1.ge; clear N1) | ((with_reducible refine store_box 33 b1 [.int .i64 0, .int .i64 9, .int .i64 0, .slice pa pn pc, .slice pb qn qc, .slice va vn vc] (by simp) (there6 c1_0 c1_1 c1_2 c1_3 c1_4 c1_5 y1_0 y1_1 y1_2 y1_3 y1_4 y1_5) (by kernel_rfl) (by simp [Value.oneCell']) rfl rfl ?_); intro X2 S1; have P7 := P6.set S1 (Or.inl HN1.out); replace B4 := B4.trans (S1.kept.below _ (Nat.le_trans HB0.out (Nat.le_of_lt O1.out)) B4.size); replace c0_0 := S1.at c0_0 (by have q1 := O1.out; omega); replace y0_0 := S1.fr y0_0; replace c0_1 := S1.at c0_1 (by have q1 := O1.out; omega); replace y0_1 := S1.fr y0_1; replace c0_2 := S1.at c0_2 (by have q1 := O1.out; omega); replace y0_2 := S1.fr y0_2; replace c1_0 : X2.cell? ⟨b1, 0, none⟩ = some (.int .i64 0) := S1.cell 0 _ rfl; replace c1_1 : X2.cell? ⟨b1, 1, none⟩ = some (.int .i64 9) := S1.cell 1 _ rfl; replace c1_2 : X2.cell? ⟨b1, 2, none⟩ = some (.int .i64 0) := S1.cell 2 _ rfl; replace c1_3 : X2.cell? ⟨b1, 3, none⟩ = some (.slice pa pn pc) := S1.cell 3 _ rfl; replace c1_4 : X2.cell? ⟨b1, 4, none⟩ = some (.slice pb qn qc) := S1.cell 4 _ rfl; replace c1_5 : X2.cell? ⟨b1, 5, none⟩ = some (.slice va vn vc) := S1.cell 5 _ rfl; replace H0 : Hid (b0 < X2.heap.size) := Nat.lt_of_lt_of_le H0.out S1.kept.size; clear S1 P6 P5) | ((with_reducible refine store_box 31 b0 [.slice pa pn pc, .slice pb qn qc, .slice va vn vc] (by simp) (there3 c0_0 c0_1 c0_2 y0_0 y0_1 y0_2) (by kernel_rfl) (by simp [Value.oneCell']) rfl rfl ?_); intro X3 S0; have P8 := P7.set S0 (Or.inr HLW.out); replace B4 := B4.trans (S0.kept.below _ HB0.out B4.size); replace c0_0 : X3.cell? ⟨b0, 0, none⟩ = some (.slice pa pn pc) := S0.cell 0 _ rfl; replace y0_0 := S0.fr y0_0; replace c0_1 : X3.cell? ⟨b0, 1, none⟩ = some (.slice pb qn qc) := S0.cell 1 _ rfl; replace y0_1 := S0.fr y0_1; replace c0_2 : X3.cell? ⟨b0, 2, none⟩ = some (.slice va vn vc) := S0.cell 2 _ rfl; replace y0_2 := S0.fr y0_2; replace H0 : Hid (b0 < X3.heap.size) := Nat.lt_of_lt_of_le H0.out S0.kept.size; clear S0 P7 c1_0 c1_1 c1_2 c1_3 c1_4 c1_5) | fail)
        go_roundw
        case rel => exact ⟨k + 1, by omega, by go_num, _, _, _, _, _, _, _, _, _, _, _, _, _, c0_0, c0_1, c0_2, y0_0, y0_1, y0_2, H0.out, P8, Or.inr HLW.out, HON.out, B4⟩
        case measure => simp [intOf]; omega
    · obtain rfl : k = 9 := by omega
      have HON : Hid (One f q R (1 + d0) 20) := by show One f q R (1 + d0) 20; rw [Nat.min_eq_right (by omega)] at ON; exact ON
      clear ON
      obtain ⟨j, hj⟩ : ∃ j, lwN cs 1 (1 + d0) = j := ⟨_, rfl⟩
      have hjq : j < 1 + d0 := by rw [← hj]; exact lwN_lt _ _ _ (by omega)
      have HJ : Hid _ := hj
      clear hj
      have HQI : Hid (q = ((1 + d0 : Nat) : Int)) := by show _ = _; have := HQ.out; omega
      have H1I : Hid ((1 : Int) = ((1 : Nat) : Int)) := rfl
      obtain ⟨g, T, a1, a2, a3, a4, OKK⟩ := write_over HON.out (by omega) (j := j) (by omega) hjq (x := 200) (by omega) (by omega)
      have HA1 : Hid _ := a1
      have HA2 : Hid _ := a2
      have HA3 : Hid _ := a3
      have HA4 : Hid _ := a4
      have HOK : Hid _ := OKK
      clear a1 a2 a3 a4 OKK
      go_upto_region 15 with fail
      go_cut [8] (fun v wx => ∃ xb : Nat, v = .pointer (some ⟨xb, 0, none⟩) ∧ ApBox wr wx xb 0 0 g [(1, q, T)])
      case first =>
        have NZ := newB_mk wr #[.int .i64 0, .int .i64 0, .int .i64 0, .slice none 0 0, .slice none 0 0, .slice none 0 0] 33
        have BA : Below wr.drew.heap.size wr.drew (wr.alloc (.cells #[.int .i64 0, .int .i64 0, .int .i64 0, .slice none 0 0, .slice none 0 0, .slice none 0 0] 33)).drew := ((Below.refl _ _).alloc (Nat.le_refl _) _ : Below wr.drew.heap.size wr.drew (wr.drew.alloc (.cells #[.int .i64 0, .int .i64 0, .int .i64 0, .slice none 0 0, .slice none 0 0, .slice none 0 0] 33)))
        have z0 : (wr.alloc (.cells #[.int .i64 0, .int .i64 0, .int .i64 0, .slice none 0 0, .slice none 0 0, .slice none 0 0] 33)).drew.cell? ⟨wr.heap.size, 0, none⟩ = some (.int .i64 0) := NZ.cell 0 _ rfl
        have z1 : (wr.alloc (.cells #[.int .i64 0, .int .i64 0, .int .i64 0, .slice none 0 0, .slice none 0 0, .slice none 0 0] 33)).drew.cell? ⟨wr.heap.size, 1, none⟩ = some (.int .i64 0) := NZ.cell 1 _ rfl
        have z2 : (wr.alloc (.cells #[.int .i64 0, .int .i64 0, .int .i64 0, .slice none 0 0, .slice none 0 0, .slice none 0 0] 33)).drew.cell? ⟨wr.heap.size, 2, none⟩ = some (.int .i64 0) := NZ.cell 2 _ rfl
        have z3 : (wr.alloc (.cells #[.int .i64 0, .int .i64 0, .int .i64 0, .slice none 0 0, .slice none 0 0, .slice none 0 0] 33)).drew.cell? ⟨wr.heap.size, 3, none⟩ = some (.slice none 0 0) := NZ.cell 3 _ rfl
        have z4 : (wr.alloc (.cells #[.int .i64 0, .int .i64 0, .int .i64 0, .slice none 0 0, .slice none 0 0, .slice none 0 0] 33)).drew.cell? ⟨wr.heap.size, 4, none⟩ = some (.slice none 0 0) := NZ.cell 4 _ rfl
        have z5 : (wr.alloc (.cells #[.int .i64 0, .int .i64 0, .int .i64 0, .slice none 0 0, .slice none 0 0, .slice none 0 0] 33)).drew.cell? ⟨wr.heap.size, 5, none⟩ = some (.slice none 0 0) := NZ.cell 5 _ rfl
        have f0 : (wr.alloc (.cells #[.int .i64 0, .int .i64 0, .int .i64 0, .slice none 0 0, .slice none 0 0, .slice none 0 0] 33)).drew.frozen? ⟨wr.heap.size, 0, none⟩ = false := NZ.froz 0
        have f1 : (wr.alloc (.cells #[.int .i64 0, .int .i64 0, .int .i64 0, .slice none 0 0, .slice none 0 0, .slice none 0 0] 33)).drew.frozen? ⟨wr.heap.size, 1, none⟩ = false := NZ.froz 1
        have f2 : (wr.alloc (.cells #[.int .i64 0, .int .i64 0, .int .i64 0, .slice none 0 0, .slice none 0 0, .slice none 0 0] 33)).drew.frozen? ⟨wr.heap.size, 2, none⟩ = false := NZ.froz 2
        have f3 : (wr.alloc (.cells #[.int .i64 0, .int .i64 0, .int .i64 0, .slice none 0 0, .slice none 0 0, .slice none 0 0] 33)).drew.frozen? ⟨wr.heap.size, 3, none⟩ = false := NZ.froz 3
        have f4 : (wr.alloc (.cells #[.int .i64 0, .int .i64 0, .int .i64 0, .slice none 0 0, .slice none 0 0, .slice none 0 0] 33)).drew.frozen? ⟨wr.heap.size, 4, none⟩ = false := NZ.froz 4
        have f5 : (wr.alloc (.cells #[.int .i64 0, .int .i64 0, .int .i64 0, .slice none 0 0, .slice none 0 0, .slice none 0 0] 33)).drew.frozen? ⟨wr.heap.size, 5, none⟩ = false := NZ.froz 5
        have HZ : Hid (wr.heap.size < (wr.alloc (.cells #[.int .i64 0, .int .i64 0, .int .i64 0, .slice none 0 0, .slice none 0 0, .slice none 0 0] 33)).drew.heap.size) := NZ.lt
        clear NZ
        have HE_b0 : Hid (b0 ≠ wr.heap.size) := Nat.ne_of_lt H0.out
        have D : Below wr.heap.size wr wr.drew := (Below.refl _ _).drew
        replace c0_0 := cell_later D c0_0
        replace c0_1 := cell_later D c0_1
        replace c0_2 := cell_later D c0_2
        replace P4 := P4.below D
        replace B4 := below_next B4 D
        have BW : Below wr.heap.size wr wr.drew := D
        clear D
        go_region_held3 (fun w' => w'.cell? ⟨b0, 0, none⟩ = some (.slice an nn cn) ∧ w'.cell? ⟨b0, 1, none⟩ = some (.slice ab nb cb) ∧ w'.cell? ⟨b0, 2, none⟩ = some (.slice av nv cv)) (first | with_reducible exact ⟨c0_0, c0_1, c0_2⟩ | with_reducible exact ⟨cell_later BA c0_0, cell_later BA c0_1, cell_later BA c0_2⟩ | with_reducible exact ⟨cell_later NZ0.below c0_0, cell_later NZ0.below c0_1, cell_later NZ0.below c0_2⟩ | with_reducible exact ⟨cell_later N6.below c0_0, cell_later N6.below c0_1, cell_later N6.below c0_2⟩ | with_reducible exact ⟨cell_later M6.below c0_0, cell_later M6.below c0_1, cell_later M6.below c0_2⟩ | with_reducible exact ⟨SB.at c0_0 HE_b0.out, SB.at c0_1 HE_b0.out, SB.at c0_2 HE_b0.out⟩ | with_reducible exact ⟨SB.at c0_0 (Nat.ne_of_lt (Nat.lt_of_lt_of_le H0.out HL0.out)), SB.at c0_1 (Nat.ne_of_lt (Nat.lt_of_lt_of_le H0.out HL0.out)), SB.at c0_2 (Nat.ne_of_lt (Nat.lt_of_lt_of_le H0.out HL0.out))⟩)
          (first | (go_at_call 11; (with_reducible refine (lwAt_of ac nc cc cs 1 (1 + d0) 1 q H1I.out HQI.out _ (h.below B4) hcs (by omega) hc (by omega) j HJ.out).mono ?_); rintro e wl0 ⟨rfl, B5⟩; replace c0_0 := cell_later B5 c0_0; replace c0_1 := cell_later B5 c0_1; replace c0_2 := cell_later B5 c0_2; replace P4 := P4.below B5; replace B4 := below_next B4 B5; replace BW := below_next BW B5; have HL0 : Hid (wr.heap.size ≤ wl0.heap.size) := BW.size; have NZ0 := newB_mk wl0 #[.int .i64 0, .int .i64 0, .int .i64 0, .slice none 0 0, .slice none 0 0, .slice none 0 0] 33; clear B5) | (go_at_call 11; (with_reducible refine (lwAt_of ac nc cc cs 1 (1 + d0) 1 q H1I.out HQI.out _ (h.below (below_next B4 BA)) hcs (by omega) hc (by omega) j HJ.out).mono ?_); rintro e wl0 ⟨rfl, B5⟩; replace c0_0 := cell_later BA c0_0; replace c0_1 := cell_later BA c0_1; replace c0_2 := cell_later BA c0_2; replace P4 := P4.below BA; replace B4 := below_next B4 BA; replace BW := below_next BW BA; replace f0 := frozen_later B5 HZ.out f0; replace f1 := frozen_later B5 HZ.out f1; replace f2 := frozen_later B5 HZ.out f2; replace f3 := frozen_later B5 HZ.out f3; replace f4 := frozen_later B5 HZ.out f4; replace f5 := frozen_later B5 HZ.out f5; replace z0 := cell_later B5 z0; replace z1 := cell_later B5 z1; replace z2 := cell_later B5 z2; replace z3 := cell_later B5 z3; replace z4 := cell_later B5 z4; replace z5 := cell_later B5 z5; (replace HZ : Hid (wr.heap.size < wl0.heap.size) := Nat.lt_of_lt_of_le HZ.out B5.size); have HZA : Hid (wr.heap.size < wl0.heap.size) := HZ; replace c0_0 := cell_later B5 c0_0; replace c0_1 := cell_later B5 c0_1; replace c0_2 := cell_later B5 c0_2; replace P4 := P4.below B5; replace B4 := below_next B4 B5; replace BW := below_next BW B5; have HL0 : Hid (wr.heap.size ≤ wl0.heap.size) := BW.size; have NZ0 := newB_mk wl0 #[.int .i64 0, .int .i64 0, .int .i64 0, .slice none 0 0, .slice none 0 0, .slice none 0 0] 33; clear B5) | (go_at_call 12; have hza := HZA.out; clear hza; (with_reducible refine (applyS P4 2 1 (j : Int) 200 0 0 g [(1, q, T)] HA1.out HA2.out HOK.out).mono ?_); rintro e w6 ⟨na, nn', nc', ob, on, oc, qa, qn, qc, rfl, P6, B6⟩; replace f0 := frozen_later B6 HZ.out f0; replace f1 := frozen_later B6 HZ.out f1; replace f2 := frozen_later B6 HZ.out f2; replace f3 := frozen_later B6 HZ.out f3; replace f4 := frozen_later B6 HZ.out f4; replace f5 := frozen_later B6 HZ.out f5; replace z0 := cell_later B6 z0; replace z1 := cell_later B6 z1; replace z2 := cell_later B6 z2; replace z3 := cell_later B6 z3; replace z4 := cell_later B6 z4; replace z5 := cell_later B6 z5; (replace HZ : Hid (wr.heap.size < w6.heap.size) := Nat.lt_of_lt_of_le HZ.out B6.size); replace c0_0 := cell_later B6 c0_0; replace c0_1 := cell_later B6 c0_1; replace c0_2 := cell_later B6 c0_2; replace P4 := P4.below B6; replace B4 := below_next B4 B6; replace BW := below_next BW B6; have SB : SetB w6 ((((((w6.setCell ⟨wr.heap.size, 0, none⟩ (.int .i64 0)).setCell ⟨wr.heap.size, 1, none⟩ (.int .i64 0)).setCell ⟨wr.heap.size, 2, none⟩ (.int .i64 0)).setCell ⟨wr.heap.size, 3, none⟩ (.slice na nn' nc')).setCell ⟨wr.heap.size, 4, none⟩ (.slice ob on oc)).setCell ⟨wr.heap.size, 5, none⟩ (.slice qa qn qc)) wr.heap.size [.int .i64 0, .int .i64 0, .int .i64 0, .slice na nn' nc', .slice ob on oc, .slice qa qn qc] := setB_cells (cs := [.int .i64 0, .int .i64 0, .int .i64 0, .slice na nn' nc', .slice ob on oc, .slice qa qn qc]) (by simp) (there6 z0 z1 z2 z3 z4 z5 f0 f1 f2 f3 f4 f5); clear B6) | (go_at_call 12; (with_reducible refine (applyS P4 2 1 (j : Int) 200 0 0 g [(1, q, T)] HA1.out HA2.out HOK.out).mono ?_); rintro e w6 ⟨na, nn', nc', ob, on, oc, qa, qn, qc, rfl, P6, B6⟩; replace c0_0 := cell_later B6 c0_0; replace c0_1 := cell_later B6 c0_1; replace c0_2 := cell_later B6 c0_2; replace P4 := P4.below B6; replace B4 := below_next B4 B6; replace BW := below_next BW B6; have N6 := newB_mk w6 #[.int .i64 0, .int .i64 0, .int .i64 0, .slice none 0 0, .slice none 0 0, .slice none 0 0] 33; have M6 := newB_mk w6 #[.int .i64 0, .int .i64 0, .int .i64 0, .slice na nn' nc', .slice ob on oc, .slice qa qn qc] 33; clear B6) | (go_at_call 12; (with_reducible refine (applyS (P4.below NZ0.below) 2 1 (j : Int) 200 0 0 g [(1, q, T)] HA1.out HA2.out HOK.out).mono ?_); rintro e w6 ⟨na, nn', nc', ob, on, oc, qa, qn, qc, rfl, P6, B6⟩; have zz0 : w6.cell? ⟨wl0.heap.size, 0, none⟩ = some (.int .i64 0) := cell_later B6 (NZ0.cell 0 _ rfl); have zz1 : w6.cell? ⟨wl0.heap.size, 1, none⟩ = some (.int .i64 0) := cell_later B6 (NZ0.cell 1 _ rfl); have zz2 : w6.cell? ⟨wl0.heap.size, 2, none⟩ = some (.int .i64 0) := cell_later B6 (NZ0.cell 2 _ rfl); have zz3 : w6.cell? ⟨wl0.heap.size, 3, none⟩ = some (.slice none 0 0) := cell_later B6 (NZ0.cell 3 _ rfl); have zz4 : w6.cell? ⟨wl0.heap.size, 4, none⟩ = some (.slice none 0 0) := cell_later B6 (NZ0.cell 4 _ rfl); have zz5 : w6.cell? ⟨wl0.heap.size, 5, none⟩ = some (.slice none 0 0) := cell_later B6 (NZ0.cell 5 _ rfl); have ff0 : w6.frozen? ⟨wl0.heap.size, 0, none⟩ = false := frozen_later B6 NZ0.lt (NZ0.froz 0); have ff1 : w6.frozen? ⟨wl0.heap.size, 1, none⟩ = false := frozen_later B6 NZ0.lt (NZ0.froz 1); have ff2 : w6.frozen? ⟨wl0.heap.size, 2, none⟩ = false := frozen_later B6 NZ0.lt (NZ0.froz 2); have ff3 : w6.frozen? ⟨wl0.heap.size, 3, none⟩ = false := frozen_later B6 NZ0.lt (NZ0.froz 3); have ff4 : w6.frozen? ⟨wl0.heap.size, 4, none⟩ = false := frozen_later B6 NZ0.lt (NZ0.froz 4); have ff5 : w6.frozen? ⟨wl0.heap.size, 5, none⟩ = false := frozen_later B6 NZ0.lt (NZ0.froz 5); replace c0_0 := cell_later NZ0.below c0_0; replace c0_1 := cell_later NZ0.below c0_1; replace c0_2 := cell_later NZ0.below c0_2; replace P4 := P4.below NZ0.below; replace B4 := below_next B4 NZ0.below; replace BW := below_next BW NZ0.below; replace c0_0 := cell_later B6 c0_0; replace c0_1 := cell_later B6 c0_1; replace c0_2 := cell_later B6 c0_2; replace P4 := P4.below B6; replace B4 := below_next B4 B6; replace BW := below_next BW B6; have SB : SetB w6 ((((((w6.setCell ⟨wl0.heap.size, 0, none⟩ (.int .i64 0)).setCell ⟨wl0.heap.size, 1, none⟩ (.int .i64 0)).setCell ⟨wl0.heap.size, 2, none⟩ (.int .i64 0)).setCell ⟨wl0.heap.size, 3, none⟩ (.slice na nn' nc')).setCell ⟨wl0.heap.size, 4, none⟩ (.slice ob on oc)).setCell ⟨wl0.heap.size, 5, none⟩ (.slice qa qn qc)) wl0.heap.size [.int .i64 0, .int .i64 0, .int .i64 0, .slice na nn' nc', .slice ob on oc, .slice qa qn qc] := setB_cells (cs := [.int .i64 0, .int .i64 0, .int .i64 0, .slice na nn' nc', .slice ob on oc, .slice qa qn qc]) (by simp) (there6 zz0 zz1 zz2 zz3 zz4 zz5 ff0 ff1 ff2 ff3 ff4 ff5); have HLB : Hid (wl0.heap.size < ((wl0.alloc (.cells #[.int .i64 0, .int .i64 0, .int .i64 0, .slice none 0 0, .slice none 0 0, .slice none 0 0] 33))).heap.size) := NZ0.lt; clear B6))
        all_goals
          go_wp2_with fail
          go_meet
          first | (with_reducible exact ⟨_, rfl, ApBox.new P6 BW⟩) | (exact ⟨_, rfl, ApBox.set P6 BW SB HZA.out (Nat.le_refl _)⟩) | (exact ⟨_, rfl, ApBox.set P6 BW SB HLB.out HL0.out⟩)
      case rest =>
        obtain ⟨xb, rfl, ea, en, ec, fa, fn, fc, ga, gn, gc, lo2, hi2, x0, x1, x2, x3, x4, x5, P5, BX⟩ := hcut
        have HX : Hid (xb < wc.heap.size) := World.block_lt_of_cell? wc ⟨xb, 0, none⟩ x0
        replace c0_0 := cell_later BX c0_0
        replace c0_1 := cell_later BX c0_1
        replace c0_2 := cell_later BX c0_2
        replace P4 := P4.below BX
        replace H0 : Hid (b0 < wc.heap.size) := Nat.lt_of_lt_of_le H0.out BX.size
        replace B4 := below_next B4 BX
        clear BX
        obtain ⟨w7, hw7⟩ : ∃ w7, w7 = wc := ⟨_, rfl⟩
        subst hw7
        go_upto_region 16 with fail
        go_cut [9] (fun v wx => ∃ xb : Nat, v = .pointer (some ⟨xb, 0, none⟩) ∧ ApBox w7 wx xb 0 200 g [(1, q, T)])
        case first =>
          have NZ := newB_mk w7 #[.int .i64 0, .int .i64 0, .int .i64 0, .slice none 0 0, .slice none 0 0, .slice none 0 0] 33
          have BA : Below w7.drew.heap.size w7.drew (w7.alloc (.cells #[.int .i64 0, .int .i64 0, .int .i64 0, .slice none 0 0, .slice none 0 0, .slice none 0 0] 33)).drew := ((Below.refl _ _).alloc (Nat.le_refl _) _ : Below w7.drew.heap.size w7.drew (w7.drew.alloc (.cells #[.int .i64 0, .int .i64 0, .int .i64 0, .slice none 0 0, .slice none 0 0, .slice none 0 0] 33)))
          have z0 : (w7.alloc (.cells #[.int .i64 0, .int .i64 0, .int .i64 0, .slice none 0 0, .slice none 0 0, .slice none 0 0] 33)).drew.cell? ⟨w7.heap.size, 0, none⟩ = some (.int .i64 0) := NZ.cell 0 _ rfl
          have z1 : (w7.alloc (.cells #[.int .i64 0, .int .i64 0, .int .i64 0, .slice none 0 0, .slice none 0 0, .slice none 0 0] 33)).drew.cell? ⟨w7.heap.size, 1, none⟩ = some (.int .i64 0) := NZ.cell 1 _ rfl
          have z2 : (w7.alloc (.cells #[.int .i64 0, .int .i64 0, .int .i64 0, .slice none 0 0, .slice none 0 0, .slice none 0 0] 33)).drew.cell? ⟨w7.heap.size, 2, none⟩ = some (.int .i64 0) := NZ.cell 2 _ rfl
          have z3 : (w7.alloc (.cells #[.int .i64 0, .int .i64 0, .int .i64 0, .slice none 0 0, .slice none 0 0, .slice none 0 0] 33)).drew.cell? ⟨w7.heap.size, 3, none⟩ = some (.slice none 0 0) := NZ.cell 3 _ rfl
          have z4 : (w7.alloc (.cells #[.int .i64 0, .int .i64 0, .int .i64 0, .slice none 0 0, .slice none 0 0, .slice none 0 0] 33)).drew.cell? ⟨w7.heap.size, 4, none⟩ = some (.slice none 0 0) := NZ.cell 4 _ rfl
          have z5 : (w7.alloc (.cells #[.int .i64 0, .int .i64 0, .int .i64 0, .slice none 0 0, .slice none 0 0, .slice none 0 0] 33)).drew.cell? ⟨w7.heap.size, 5, none⟩ = some (.slice none 0 0) := NZ.cell 5 _ rfl
          have f0 : (w7.alloc (.cells #[.int .i64 0, .int .i64 0, .int .i64 0, .slice none 0 0, .slice none 0 0, .slice none 0 0] 33)).drew.frozen? ⟨w7.heap.size, 0, none⟩ = false := NZ.froz 0
          have f1 : (w7.alloc (.cells #[.int .i64 0, .int .i64 0, .int .i64 0, .slice none 0 0, .slice none 0 0, .slice none 0 0] 33)).drew.frozen? ⟨w7.heap.size, 1, none⟩ = false := NZ.froz 1
          have f2 : (w7.alloc (.cells #[.int .i64 0, .int .i64 0, .int .i64 0, .slice none 0 0, .slice none 0 0, .slice none 0 0] 33)).drew.frozen? ⟨w7.heap.size, 2, none⟩ = false := NZ.froz 2
          have f3 : (w7.alloc (.cells #[.int .i64 0, .int .i64 0, .int .i64 0, .slice none 0 0, .slice none 0 0, .slice none 0 0] 33)).drew.frozen? ⟨w7.heap.size, 3, none⟩ = false := NZ.froz 3
          have f4 : (w7.alloc (.cells #[.int .i64 0, .int .i64 0, .int .i64 0, .slice none 0 0, .slice none 0 0, .slice none 0 0] 33)).drew.frozen? ⟨w7.heap.size, 4, none⟩ = false := NZ.froz 4
          have f5 : (w7.alloc (.cells #[.int .i64 0, .int .i64 0, .int .i64 0, .slice none 0 0, .slice none 0 0, .slice none 0 0] 33)).drew.frozen? ⟨w7.heap.size, 5, none⟩ = false := NZ.froz 5
          have HZ : Hid (w7.heap.size < (w7.alloc (.cells #[.int .i64 0, .int .i64 0, .int .i64 0, .slice none 0 0, .slice none 0 0, .slice none 0 0] 33)).drew.heap.size) := NZ.lt
          clear NZ
          have HE_xb : Hid (xb ≠ w7.heap.size) := Nat.ne_of_lt HX.out
          have D : Below w7.heap.size w7 w7.drew := (Below.refl _ _).drew
          replace x3 := cell_later D x3
          replace x4 := cell_later D x4
          replace x5 := cell_later D x5
          replace P5 := P5.below D
          replace B4 := below_next B4 D
          have BW : Below w7.heap.size w7 w7.drew := D
          clear D
          go_region_held3 (fun w' => w'.cell? ⟨xb, 3, none⟩ = some (.slice ea en ec) ∧ w'.cell? ⟨xb, 4, none⟩ = some (.slice fa fn fc) ∧ w'.cell? ⟨xb, 5, none⟩ = some (.slice ga gn gc)) (first | with_reducible exact ⟨x3, x4, x5⟩ | with_reducible exact ⟨cell_later BA x3, cell_later BA x4, cell_later BA x5⟩ | with_reducible exact ⟨cell_later NZ0.below x3, cell_later NZ0.below x4, cell_later NZ0.below x5⟩ | with_reducible exact ⟨cell_later N6.below x3, cell_later N6.below x4, cell_later N6.below x5⟩ | with_reducible exact ⟨cell_later M6.below x3, cell_later M6.below x4, cell_later M6.below x5⟩ | with_reducible exact ⟨SB.at x3 HE_xb.out, SB.at x4 HE_xb.out, SB.at x5 HE_xb.out⟩ | with_reducible exact ⟨SB.at x3 (Nat.ne_of_lt (Nat.lt_of_lt_of_le HX.out HL0.out)), SB.at x4 (Nat.ne_of_lt (Nat.lt_of_lt_of_le HX.out HL0.out)), SB.at x5 (Nat.ne_of_lt (Nat.lt_of_lt_of_le HX.out HL0.out))⟩)
            (first | (go_at_call 11; (with_reducible refine (lwAt_of ac nc cc cs 1 (1 + d0) 1 q H1I.out HQI.out _ (h.below B4) hcs (by omega) hc (by omega) j HJ.out).mono ?_); rintro e wl0 ⟨rfl, B5⟩; replace x3 := cell_later B5 x3; replace x4 := cell_later B5 x4; replace x5 := cell_later B5 x5; replace P5 := P5.below B5; replace B4 := below_next B4 B5; replace BW := below_next BW B5; have HL0 : Hid (w7.heap.size ≤ wl0.heap.size) := BW.size; have NZ0 := newB_mk wl0 #[.int .i64 0, .int .i64 0, .int .i64 0, .slice none 0 0, .slice none 0 0, .slice none 0 0] 33; clear B5) | (go_at_call 11; (with_reducible refine (lwAt_of ac nc cc cs 1 (1 + d0) 1 q H1I.out HQI.out _ (h.below (below_next B4 BA)) hcs (by omega) hc (by omega) j HJ.out).mono ?_); rintro e wl0 ⟨rfl, B5⟩; replace x3 := cell_later BA x3; replace x4 := cell_later BA x4; replace x5 := cell_later BA x5; replace P5 := P5.below BA; replace B4 := below_next B4 BA; replace BW := below_next BW BA; replace f0 := frozen_later B5 HZ.out f0; replace f1 := frozen_later B5 HZ.out f1; replace f2 := frozen_later B5 HZ.out f2; replace f3 := frozen_later B5 HZ.out f3; replace f4 := frozen_later B5 HZ.out f4; replace f5 := frozen_later B5 HZ.out f5; replace z0 := cell_later B5 z0; replace z1 := cell_later B5 z1; replace z2 := cell_later B5 z2; replace z3 := cell_later B5 z3; replace z4 := cell_later B5 z4; replace z5 := cell_later B5 z5; (replace HZ : Hid (w7.heap.size < wl0.heap.size) := Nat.lt_of_lt_of_le HZ.out B5.size); have HZA : Hid (w7.heap.size < wl0.heap.size) := HZ; replace x3 := cell_later B5 x3; replace x4 := cell_later B5 x4; replace x5 := cell_later B5 x5; replace P5 := P5.below B5; replace B4 := below_next B4 B5; replace BW := below_next BW B5; have HL0 : Hid (w7.heap.size ≤ wl0.heap.size) := BW.size; have NZ0 := newB_mk wl0 #[.int .i64 0, .int .i64 0, .int .i64 0, .slice none 0 0, .slice none 0 0, .slice none 0 0] 33; clear B5) | (go_at_call 12; have hza := HZA.out; clear hza; (with_reducible refine (applyS P5 4 1 (j : Int) 0 0 200 g [(1, q, T)] HA3.out HA4.out HOK.out).mono ?_); rintro e w6 ⟨na, nn', nc', ob, on, oc, qa, qn, qc, rfl, P6, B6⟩; replace f0 := frozen_later B6 HZ.out f0; replace f1 := frozen_later B6 HZ.out f1; replace f2 := frozen_later B6 HZ.out f2; replace f3 := frozen_later B6 HZ.out f3; replace f4 := frozen_later B6 HZ.out f4; replace f5 := frozen_later B6 HZ.out f5; replace z0 := cell_later B6 z0; replace z1 := cell_later B6 z1; replace z2 := cell_later B6 z2; replace z3 := cell_later B6 z3; replace z4 := cell_later B6 z4; replace z5 := cell_later B6 z5; (replace HZ : Hid (w7.heap.size < w6.heap.size) := Nat.lt_of_lt_of_le HZ.out B6.size); replace x3 := cell_later B6 x3; replace x4 := cell_later B6 x4; replace x5 := cell_later B6 x5; replace P5 := P5.below B6; replace B4 := below_next B4 B6; replace BW := below_next BW B6; have SB : SetB w6 ((((((w6.setCell ⟨w7.heap.size, 0, none⟩ (.int .i64 0)).setCell ⟨w7.heap.size, 1, none⟩ (.int .i64 0)).setCell ⟨w7.heap.size, 2, none⟩ (.int .i64 200)).setCell ⟨w7.heap.size, 3, none⟩ (.slice na nn' nc')).setCell ⟨w7.heap.size, 4, none⟩ (.slice ob on oc)).setCell ⟨w7.heap.size, 5, none⟩ (.slice qa qn qc)) w7.heap.size [.int .i64 0, .int .i64 0, .int .i64 200, .slice na nn' nc', .slice ob on oc, .slice qa qn qc] := setB_cells (cs := [.int .i64 0, .int .i64 0, .int .i64 200, .slice na nn' nc', .slice ob on oc, .slice qa qn qc]) (by simp) (there6 z0 z1 z2 z3 z4 z5 f0 f1 f2 f3 f4 f5); clear B6) | (go_at_call 12; (with_reducible refine (applyS P5 4 1 (j : Int) 0 0 200 g [(1, q, T)] HA3.out HA4.out HOK.out).mono ?_); rintro e w6 ⟨na, nn', nc', ob, on, oc, qa, qn, qc, rfl, P6, B6⟩; replace x3 := cell_later B6 x3; replace x4 := cell_later B6 x4; replace x5 := cell_later B6 x5; replace P5 := P5.below B6; replace B4 := below_next B4 B6; replace BW := below_next BW B6; have N6 := newB_mk w6 #[.int .i64 0, .int .i64 0, .int .i64 0, .slice none 0 0, .slice none 0 0, .slice none 0 0] 33; have M6 := newB_mk w6 #[.int .i64 0, .int .i64 0, .int .i64 200, .slice na nn' nc', .slice ob on oc, .slice qa qn qc] 33; clear B6) | (go_at_call 12; (with_reducible refine (applyS (P5.below NZ0.below) 4 1 (j : Int) 0 0 200 g [(1, q, T)] HA3.out HA4.out HOK.out).mono ?_); rintro e w6 ⟨na, nn', nc', ob, on, oc, qa, qn, qc, rfl, P6, B6⟩; have zz0 : w6.cell? ⟨wl0.heap.size, 0, none⟩ = some (.int .i64 0) := cell_later B6 (NZ0.cell 0 _ rfl); have zz1 : w6.cell? ⟨wl0.heap.size, 1, none⟩ = some (.int .i64 0) := cell_later B6 (NZ0.cell 1 _ rfl); have zz2 : w6.cell? ⟨wl0.heap.size, 2, none⟩ = some (.int .i64 0) := cell_later B6 (NZ0.cell 2 _ rfl); have zz3 : w6.cell? ⟨wl0.heap.size, 3, none⟩ = some (.slice none 0 0) := cell_later B6 (NZ0.cell 3 _ rfl); have zz4 : w6.cell? ⟨wl0.heap.size, 4, none⟩ = some (.slice none 0 0) := cell_later B6 (NZ0.cell 4 _ rfl); have zz5 : w6.cell? ⟨wl0.heap.size, 5, none⟩ = some (.slice none 0 0) := cell_later B6 (NZ0.cell 5 _ rfl); have ff0 : w6.frozen? ⟨wl0.heap.size, 0, none⟩ = false := frozen_later B6 NZ0.lt (NZ0.froz 0); have ff1 : w6.frozen? ⟨wl0.heap.size, 1, none⟩ = false := frozen_later B6 NZ0.lt (NZ0.froz 1); have ff2 : w6.frozen? ⟨wl0.heap.size, 2, none⟩ = false := frozen_later B6 NZ0.lt (NZ0.froz 2); have ff3 : w6.frozen? ⟨wl0.heap.size, 3, none⟩ = false := frozen_later B6 NZ0.lt (NZ0.froz 3); have ff4 : w6.frozen? ⟨wl0.heap.size, 4, none⟩ = false := frozen_later B6 NZ0.lt (NZ0.froz 4); have ff5 : w6.frozen? ⟨wl0.heap.size, 5, none⟩ = false := frozen_later B6 NZ0.lt (NZ0.froz 5); replace x3 := cell_later NZ0.below x3; replace x4 := cell_later NZ0.below x4; replace x5 := cell_later NZ0.below x5; replace P5 := P5.below NZ0.below; replace B4 := below_next B4 NZ0.below; replace BW := below_next BW NZ0.below; replace x3 := cell_later B6 x3; replace x4 := cell_later B6 x4; replace x5 := cell_later B6 x5; replace P5 := P5.below B6; replace B4 := below_next B4 B6; replace BW := below_next BW B6; have SB : SetB w6 ((((((w6.setCell ⟨wl0.heap.size, 0, none⟩ (.int .i64 0)).setCell ⟨wl0.heap.size, 1, none⟩ (.int .i64 0)).setCell ⟨wl0.heap.size, 2, none⟩ (.int .i64 200)).setCell ⟨wl0.heap.size, 3, none⟩ (.slice na nn' nc')).setCell ⟨wl0.heap.size, 4, none⟩ (.slice ob on oc)).setCell ⟨wl0.heap.size, 5, none⟩ (.slice qa qn qc)) wl0.heap.size [.int .i64 0, .int .i64 0, .int .i64 200, .slice na nn' nc', .slice ob on oc, .slice qa qn qc] := setB_cells (cs := [.int .i64 0, .int .i64 0, .int .i64 200, .slice na nn' nc', .slice ob on oc, .slice qa qn qc]) (by simp) (there6 zz0 zz1 zz2 zz3 zz4 zz5 ff0 ff1 ff2 ff3 ff4 ff5); have HLB : Hid (wl0.heap.size < ((wl0.alloc (.cells #[.int .i64 0, .int .i64 0, .int .i64 0, .slice none 0 0, .slice none 0 0, .slice none 0 0] 33))).heap.size) := NZ0.lt; clear B6))
          all_goals
            go_wp2_with fail
            go_meet
            first | (with_reducible exact ⟨_, rfl, ApBox.new P6 BW⟩) | (exact ⟨_, rfl, ApBox.set P6 BW SB HZA.out (Nat.le_refl _)⟩) | (exact ⟨_, rfl, ApBox.set P6 BW SB HLB.out HL0.out⟩)
        case rest =>
          obtain ⟨yb, rfl, sa, sn, sc, ta, tn, tc, va, vn, vc, lo3, hi3, v0, v1, v2, v3, v4, v5, P6, BX⟩ := hcut
          replace c0_0 := cell_later BX c0_0
          replace c0_1 := cell_later BX c0_1
          replace c0_2 := cell_later BX c0_2
          replace x0 := cell_later BX x0
          replace x1 := cell_later BX x1
          replace x2 := cell_later BX x2
          replace x3 := cell_later BX x3
          replace x4 := cell_later BX x4
          replace x5 := cell_later BX x5
          replace P4 := P4.below BX
          replace P5 := P5.below BX
          replace B4 := below_next B4 BX
          clear BX
          obtain ⟨w8, hw8⟩ : ∃ w8, w8 = wc := ⟨_, rfl⟩
          subst hw8
          have iF := intField
          obtain ⟨l, u, l2, u2, K, FF, VV, hK, _, _⟩ := P4.ex
          have HUS : Hid (volAtC f [(1, q, R)] 1 = 0) := by show _ = _; unfold volAtC; rw [if_pos (pool_is HON.out.ok), at_one, if_neg (by decide)]
          have HUV : Hid (usedOfV f [(1, q, R)] 1 = q) := by
            show _ = _
            unfold usedOfV
            rw [if_pos HUS.out, at_one]
            show ((usedN f R : Nat) : Int) = q
            rw [HON.out.used (by omega)]
            exact HQI.out.symm
          go_wp2_with fail
          refine (implUsedOf_is an nn cn ab nb cb av nv cv K f [(1, q, R)] _ FF VV (Nat.le_trans P4.hn (by decide)) (Nat.le_trans P4.hb (by decide)) (fun i hi => Nat.le_trans (hK i hi) (by decide)) (Nat.le_trans P4.hv (by decide)) 1 0 q HUS.out HUV.out).mono ?_
          rintro e w9 ⟨rfl, B9⟩
          replace x0 := cell_later B9 x0
          replace x1 := cell_later B9 x1
          replace x2 := cell_later B9 x2
          replace x3 := cell_later B9 x3
          replace x4 := cell_later B9 x4
          replace x5 := cell_later B9 x5
          replace v0 := cell_later B9 v0
          replace v1 := cell_later B9 v1
          replace v2 := cell_later B9 v2
          replace v3 := cell_later B9 v3
          replace v4 := cell_later B9 v4
          replace v5 := cell_later B9 v5
          replace P5 := P5.below B9
          replace P6 := P6.below B9
          replace B4 := below_next B4 B9
          clear B9 FF VV P4
          obtain ⟨l, u, l2, u2, K1, F1, V1, hK1, _, _⟩ := P6.ex
          obtain ⟨m, o, m2, o2, K2, F2, V2, hK2, _, _⟩ := P5.ex
          have hqq : (q == q) = true := by simp
          go_wp2_with fail
          refine (implSame_is sa sn sc ta tn tc ea en ec fa fn fc va vn vc ga gn gc K1 K2 g g [(1, q, T)] [(1, q, T)] _ F1 F2 V1 V2 (Nat.le_trans P6.hv (by decide)) (Nat.le_trans P5.hv (by decide)) (Nat.le_trans P6.hn (by decide)) (Nat.le_trans P6.hb (by decide)) (fun i hi => Nat.le_trans (hK1 i hi) (by decide)) (Nat.le_trans P5.hn (by decide)) (Nat.le_trans P5.hb (by decide)) (fun i hi => Nat.le_trans (hK2 i hi) (by decide)) true (by simp)).mono ?_
          rintro e w10 ⟨rfl, B10⟩
          replace B4 := below_next B4 B10
          go_wp2
          go_ret
          exact ⟨by first | rfl | exact ret_bool (by simp), B4⟩

end Go.Proofs.Ytikjndmgljkhhaa
