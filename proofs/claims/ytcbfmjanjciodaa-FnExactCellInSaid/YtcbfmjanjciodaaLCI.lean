/- At every plain pool, volume and place the program's CellIn answers as its model does, field by field, and writes into no argument: the law FnExactCellIn is true at every argument, with no condition. -/
import Derived.Test.YtcbfmjanjciodaaEX
import Derived.Test.YtcbfmjanjciodaaRows
import Derived.Test.YtcbfmjanjciodaaYV
import Derived.Test.YtcbfmjanjciodaaWordAt
import Derived.Test.YtcbfmjanjciodaaRowL
import Derived.Test.YtcbfmjanjciodaaLKP
namespace Go.Proofs.Ytcbfmjanjciodaa
open Go.RowKit

set_option maxRecDepth 20000 in
set_option maxHeartbeats 8000000 in
theorem lawCellIn {o : Bool} (bl : Int) (av : Option Addr) (nv cv : Nat) (ac : Option Addr) (nc cc : Nat) (ah : Option Addr) (nh ch : Nat) (vs ce : List Vo) (sh : List Int) (x : Int) (y : Int) (w : World) (h : PlAt w o 0 w.heap.size av nv cv ac nc cc ah nh ch vs ce sh) (z1 : nv ≤ maxLen) (z2 : nc ≤ maxLen) (z3 : nh ≤ maxLen) (hx : I64 x) (hy : I64 y) :
    Calls Try.prog 5 #[.agg #[.int .i64 bl, .slice av nv cv, .slice ac nc cc, .slice ah nh ch], .int .i64 x, .int .i64 y] w fun e w' => e = .returned (.bool true) ∧ Below w.heap.size w w' := by
  obtain ⟨cd, hcd⟩ : ∃ cd, cellC bl vs ce sh x y = cd := ⟨_, rfl⟩
  have Hcd : Hid _ := hcd
  clear hcd
  obtain ⟨vl, hvl⟩ : ∃ vl, cellV bl vs ce sh x y = vl := ⟨_, rfl⟩
  have Hvl : Hid _ := hvl
  clear hvl
  go_enter Try.func5, Try.ntmps5
  go_wp2_with (first | ((with_reducible refine box_new 52 #[.int .i64 bl, .slice av nv cv, .slice ac nc cc, .slice ah nh ch] rfl ?_); intro b0 W0 N0; have O0 : Hid (w.heap.size ≤ b0) := N0.ge; have B := N0.below; have H0 : Hid (b0 < W0.heap.size) := N0.lt; have c0_0 : W0.cell? ⟨b0, 0, none⟩ = some (.int .i64 bl) := N0.cell 0 _ rfl; have c0_1 : W0.cell? ⟨b0, 1, none⟩ = some (.slice av nv cv) := N0.cell 1 _ rfl; have c0_2 : W0.cell? ⟨b0, 2, none⟩ = some (.slice ac nc cc) := N0.cell 2 _ rfl; have c0_3 : W0.cell? ⟨b0, 3, none⟩ = some (.slice ah nh ch) := N0.cell 3 _ rfl; clear N0) | fail)
  refine (szPlain_left bl av nv cv ac nc cc ah nh ch 1048576 _ z1 z2 z3 (by omega) (by omega)).mono ?_
  rintro e ws0 ⟨r0, rfl, BB, hr⟩
  replace c0_0 := cell_later BB c0_0
  replace c0_1 := cell_later BB c0_1
  replace c0_2 := cell_later BB c0_2
  replace c0_3 := cell_later BB c0_3
  replace H0 : Hid (b0 < ws0.heap.size) := Nat.lt_of_lt_of_le H0.out BB.size
  replace B := below_next B BB
  clear BB
  rcases hr with hr | ⟨hr, hsz0⟩
  · go_wp2
    go_ret
    exact ⟨rfl, B⟩
  have hr0 : ¬ r0 < 0 := by omega
  have _ := hr
  have q1 : nv ≤ 1048576 := by omega
  have q2 : nc ≤ 1048576 := by omega
  have q3 : nh ≤ 1048576 := by omega
  have p1 : nv ≤ 2097152 := by omega
  have p2 : nc ≤ 2097152 := by omega
  have p3 : nh ≤ 2097152 := by omega
  clear hsz0
  go_wp2_with fail
  refine (toPlain_any bl av nv cv ac nc cc ah nh ch vs ce sh _ (h.below B) q1 q2 q3).mono ?_
  rintro e w3 ⟨ta, tb, tc, td, te, tf, rfl, Pt, BB⟩
  replace c0_0 := cell_later BB c0_0
  replace c0_1 := cell_later BB c0_1
  replace c0_2 := cell_later BB c0_2
  replace c0_3 := cell_later BB c0_3
  replace H0 : Hid (b0 < w3.heap.size) := Nat.lt_of_lt_of_le H0.out BB.size
  replace B := below_next B BB
  clear BB
  go_wp2_with fail
  refine (specCellIn_is bl ta nv tb tc nc td te nh tf vs ce sh _ Pt p1 p2 p3 x y cd vl Hcd.out Hvl.out).mono ?_
  rintro e w4 ⟨rfl, BB⟩
  replace Pt := Pt.below BB
  replace c0_0 := cell_later BB c0_0
  replace c0_1 := cell_later BB c0_1
  replace c0_2 := cell_later BB c0_2
  replace c0_3 := cell_later BB c0_3
  replace H0 : Hid (b0 < w4.heap.size) := Nat.lt_of_lt_of_le H0.out BB.size
  replace B := below_next B BB
  clear BB
  clear Pt
  go_wp2_with (first | ((with_reducible refine alloc_new 59 #[.int .i64 0, .int .i64 0] (fun _ => by kernel_rfl) ?_); intro b1 W1 N1; have O1 : Hid (b0 < b1) := Nat.lt_of_lt_of_le H0.out N1.ge; replace c0_0 := cell_later N1.below c0_0; replace c0_1 := cell_later N1.below c0_1; replace c0_2 := cell_later N1.below c0_2; replace c0_3 := cell_later N1.below c0_3; replace H0 : Hid (b0 < W1.heap.size) := Nat.lt_of_lt_of_le H0.out N1.below.size; replace B := below_next B N1.below; have H1 : Hid (b1 < W1.heap.size) := N1.lt; have c1_0 : W1.cell? ⟨b1, 0, none⟩ = some (.int .i64 0) := N1.cell 0 _ rfl; have c1_1 : W1.cell? ⟨b1, 1, none⟩ = some (.int .i64 0) := N1.cell 1 _ rfl; have y1_0 : W1.frozen? ⟨b1, 0, none⟩ = false := N1.froz 0; have y1_1 : W1.frozen? ⟨b1, 1, none⟩ = false := N1.froz 1; clear N1) | ((with_reducible refine store_box 59 b1 [.int .i64 cd, .int .i64 vl] (by simp) (there2 c1_0 c1_1 y1_0 y1_1) (by kernel_rfl) (by simp [Value.oneCell']) rfl rfl ?_); intro W1s S1; replace c0_0 := S1.at c0_0 (by have q1 := O1.out; omega); replace c0_1 := S1.at c0_1 (by have q1 := O1.out; omega); replace c0_2 := S1.at c0_2 (by have q1 := O1.out; omega); replace c0_3 := S1.at c0_3 (by have q1 := O1.out; omega); replace H0 : Hid (b0 < W1s.heap.size) := Nat.lt_of_lt_of_le H0.out S1.kept.size; replace c1_0 : W1s.cell? ⟨b1, 0, none⟩ = some (.int .i64 cd) := S1.cell 0 _ rfl; replace c1_1 : W1s.cell? ⟨b1, 1, none⟩ = some (.int .i64 vl) := S1.cell 1 _ rfl; replace y1_0 := S1.fr y1_0; replace y1_1 := S1.fr y1_1; replace H1 : Hid (b1 < W1s.heap.size) := Nat.lt_of_lt_of_le H1.out S1.kept.size; replace B := B.trans (S1.kept.below _ (Nat.le_trans O0.out (by have q1 := O1.out; omega)) B.size); clear S1) | fail)
  refine (toPlain_any bl av nv cv ac nc cc ah nh ch vs ce sh _ (h.below B) q1 q2 q3).mono ?_
  rintro e w6 ⟨xa, xb, xc, xd, xe, xf, rfl, Px, BB⟩
  replace c0_0 := cell_later BB c0_0
  replace c0_1 := cell_later BB c0_1
  replace c0_2 := cell_later BB c0_2
  replace c0_3 := cell_later BB c0_3
  replace H0 : Hid (b0 < w6.heap.size) := Nat.lt_of_lt_of_le H0.out BB.size
  replace c1_0 := cell_later BB c1_0
  replace c1_1 := cell_later BB c1_1
  replace y1_0 := frozen_later BB H1.out y1_0
  replace y1_1 := frozen_later BB H1.out y1_1
  replace H1 : Hid (b1 < w6.heap.size) := Nat.lt_of_lt_of_le H1.out BB.size
  replace B := below_next B BB
  clear BB
  go_wp2_with (first | ((with_reducible refine alloc_new 34 #[.int .i64 0, .slice none 0 0, .slice none 0 0, .slice none 0 0] (fun _ => by kernel_rfl) ?_); intro b2 W2 N2; have O2 : Hid (b1 < b2) := Nat.lt_of_lt_of_le H1.out N2.ge; replace c0_0 := cell_later N2.below c0_0; replace c0_1 := cell_later N2.below c0_1; replace c0_2 := cell_later N2.below c0_2; replace c0_3 := cell_later N2.below c0_3; replace H0 : Hid (b0 < W2.heap.size) := Nat.lt_of_lt_of_le H0.out N2.below.size; replace c1_0 := cell_later N2.below c1_0; replace c1_1 := cell_later N2.below c1_1; replace y1_0 := frozen_later N2.below H1.out y1_0; replace y1_1 := frozen_later N2.below H1.out y1_1; replace H1 : Hid (b1 < W2.heap.size) := Nat.lt_of_lt_of_le H1.out N2.below.size; replace B := below_next B N2.below; have H2 : Hid (b2 < W2.heap.size) := N2.lt; have c2_0 : W2.cell? ⟨b2, 0, none⟩ = some (.int .i64 0) := N2.cell 0 _ rfl; have c2_1 : W2.cell? ⟨b2, 1, none⟩ = some (.slice none 0 0) := N2.cell 1 _ rfl; have c2_2 : W2.cell? ⟨b2, 2, none⟩ = some (.slice none 0 0) := N2.cell 2 _ rfl; have c2_3 : W2.cell? ⟨b2, 3, none⟩ = some (.slice none 0 0) := N2.cell 3 _ rfl; have y2_0 : W2.frozen? ⟨b2, 0, none⟩ = false := N2.froz 0; have y2_1 : W2.frozen? ⟨b2, 1, none⟩ = false := N2.froz 1; have y2_2 : W2.frozen? ⟨b2, 2, none⟩ = false := N2.froz 2; have y2_3 : W2.frozen? ⟨b2, 3, none⟩ = false := N2.froz 3; replace Px := Px.below N2.below; have HP : Hid (w6.heap.size ≤ b2) := N2.ge; clear N2) | ((with_reducible refine store_box 34 b2 [.int .i64 bl, .slice xa nv xb, .slice xc nc xd, .slice xe nh xf] (by simp) (there4 c2_0 c2_1 c2_2 c2_3 y2_0 y2_1 y2_2 y2_3) (by kernel_rfl) (by simp [Value.oneCell']) rfl rfl ?_); intro W2s S2; replace c0_0 := S2.at c0_0 (by have q1 := O1.out; have q2 := O2.out; omega); replace c0_1 := S2.at c0_1 (by have q1 := O1.out; have q2 := O2.out; omega); replace c0_2 := S2.at c0_2 (by have q1 := O1.out; have q2 := O2.out; omega); replace c0_3 := S2.at c0_3 (by have q1 := O1.out; have q2 := O2.out; omega); replace H0 : Hid (b0 < W2s.heap.size) := Nat.lt_of_lt_of_le H0.out S2.kept.size; replace c1_0 := S2.at c1_0 (by have q2 := O2.out; omega); replace c1_1 := S2.at c1_1 (by have q2 := O2.out; omega); replace y1_0 := S2.fr y1_0; replace y1_1 := S2.fr y1_1; replace H1 : Hid (b1 < W2s.heap.size) := Nat.lt_of_lt_of_le H1.out S2.kept.size; replace c2_0 : W2s.cell? ⟨b2, 0, none⟩ = some (.int .i64 bl) := S2.cell 0 _ rfl; replace c2_1 : W2s.cell? ⟨b2, 1, none⟩ = some (.slice xa nv xb) := S2.cell 1 _ rfl; replace c2_2 : W2s.cell? ⟨b2, 2, none⟩ = some (.slice xc nc xd) := S2.cell 2 _ rfl; replace c2_3 : W2s.cell? ⟨b2, 3, none⟩ = some (.slice xe nh xf) := S2.cell 3 _ rfl; replace y2_0 := S2.fr y2_0; replace y2_1 := S2.fr y2_1; replace y2_2 := S2.fr y2_2; replace y2_3 := S2.fr y2_3; replace H2 : Hid (b2 < W2s.heap.size) := Nat.lt_of_lt_of_le H2.out S2.kept.size; replace B := B.trans (S2.kept.below _ (Nat.le_trans O0.out (by have q1 := O1.out; have q2 := O2.out; omega)) B.size); replace Px := Px.keptP S2.kept (Or.inl HP.out); clear S2) | fail)
  refine (implCellIn_is bl xa nv xb xc nc xd xe nh xf vs ce sh _ Px p1 p2 p3 x y hx hy cd vl Hcd.out Hvl.out).mono ?_
  rintro e w8 ⟨rfl, BB⟩
  replace Px := Px.below BB
  replace c0_0 := cell_later BB c0_0
  replace c0_1 := cell_later BB c0_1
  replace c0_2 := cell_later BB c0_2
  replace c0_3 := cell_later BB c0_3
  replace H0 : Hid (b0 < w8.heap.size) := Nat.lt_of_lt_of_le H0.out BB.size
  replace c1_0 := cell_later BB c1_0
  replace c1_1 := cell_later BB c1_1
  replace y1_0 := frozen_later BB H1.out y1_0
  replace y1_1 := frozen_later BB H1.out y1_1
  replace H1 : Hid (b1 < w8.heap.size) := Nat.lt_of_lt_of_le H1.out BB.size
  replace c2_0 := cell_later BB c2_0
  replace c2_1 := cell_later BB c2_1
  replace c2_2 := cell_later BB c2_2
  replace c2_3 := cell_later BB c2_3
  replace y2_0 := frozen_later BB H2.out y2_0
  replace y2_1 := frozen_later BB H2.out y2_1
  replace y2_2 := frozen_later BB H2.out y2_2
  replace y2_3 := frozen_later BB H2.out y2_3
  replace H2 : Hid (b2 < w8.heap.size) := Nat.lt_of_lt_of_le H2.out BB.size
  replace B := below_next B BB
  clear BB
  go_wp2_with (first | ((with_reducible refine alloc_new 59 #[.int .i64 0, .int .i64 0] (fun _ => by kernel_rfl) ?_); intro b3 W3 N3; have O3 : Hid (b2 < b3) := Nat.lt_of_lt_of_le H2.out N3.ge; replace c0_0 := cell_later N3.below c0_0; replace c0_1 := cell_later N3.below c0_1; replace c0_2 := cell_later N3.below c0_2; replace c0_3 := cell_later N3.below c0_3; replace H0 : Hid (b0 < W3.heap.size) := Nat.lt_of_lt_of_le H0.out N3.below.size; replace c1_0 := cell_later N3.below c1_0; replace c1_1 := cell_later N3.below c1_1; replace y1_0 := frozen_later N3.below H1.out y1_0; replace y1_1 := frozen_later N3.below H1.out y1_1; replace H1 : Hid (b1 < W3.heap.size) := Nat.lt_of_lt_of_le H1.out N3.below.size; replace c2_0 := cell_later N3.below c2_0; replace c2_1 := cell_later N3.below c2_1; replace c2_2 := cell_later N3.below c2_2; replace c2_3 := cell_later N3.below c2_3; replace y2_0 := frozen_later N3.below H2.out y2_0; replace y2_1 := frozen_later N3.below H2.out y2_1; replace y2_2 := frozen_later N3.below H2.out y2_2; replace y2_3 := frozen_later N3.below H2.out y2_3; replace H2 : Hid (b2 < W3.heap.size) := Nat.lt_of_lt_of_le H2.out N3.below.size; replace B := below_next B N3.below; have H3 : Hid (b3 < W3.heap.size) := N3.lt; have c3_0 : W3.cell? ⟨b3, 0, none⟩ = some (.int .i64 0) := N3.cell 0 _ rfl; have c3_1 : W3.cell? ⟨b3, 1, none⟩ = some (.int .i64 0) := N3.cell 1 _ rfl; have y3_0 : W3.frozen? ⟨b3, 0, none⟩ = false := N3.froz 0; have y3_1 : W3.frozen? ⟨b3, 1, none⟩ = false := N3.froz 1; replace Px := Px.below N3.below; clear N3) | ((with_reducible refine store_box 59 b3 [.int .i64 cd, .int .i64 vl] (by simp) (there2 c3_0 c3_1 y3_0 y3_1) (by kernel_rfl) (by simp [Value.oneCell']) rfl rfl ?_); intro W3s S3; replace c0_0 := S3.at c0_0 (by have q1 := O1.out; have q2 := O2.out; have q3 := O3.out; omega); replace c0_1 := S3.at c0_1 (by have q1 := O1.out; have q2 := O2.out; have q3 := O3.out; omega); replace c0_2 := S3.at c0_2 (by have q1 := O1.out; have q2 := O2.out; have q3 := O3.out; omega); replace c0_3 := S3.at c0_3 (by have q1 := O1.out; have q2 := O2.out; have q3 := O3.out; omega); replace H0 : Hid (b0 < W3s.heap.size) := Nat.lt_of_lt_of_le H0.out S3.kept.size; replace c1_0 := S3.at c1_0 (by have q2 := O2.out; have q3 := O3.out; omega); replace c1_1 := S3.at c1_1 (by have q2 := O2.out; have q3 := O3.out; omega); replace y1_0 := S3.fr y1_0; replace y1_1 := S3.fr y1_1; replace H1 : Hid (b1 < W3s.heap.size) := Nat.lt_of_lt_of_le H1.out S3.kept.size; replace c2_0 := S3.at c2_0 (by have q3 := O3.out; omega); replace c2_1 := S3.at c2_1 (by have q3 := O3.out; omega); replace c2_2 := S3.at c2_2 (by have q3 := O3.out; omega); replace c2_3 := S3.at c2_3 (by have q3 := O3.out; omega); replace y2_0 := S3.fr y2_0; replace y2_1 := S3.fr y2_1; replace y2_2 := S3.fr y2_2; replace y2_3 := S3.fr y2_3; replace H2 : Hid (b2 < W3s.heap.size) := Nat.lt_of_lt_of_le H2.out S3.kept.size; replace c3_0 : W3s.cell? ⟨b3, 0, none⟩ = some (.int .i64 cd) := S3.cell 0 _ rfl; replace c3_1 : W3s.cell? ⟨b3, 1, none⟩ = some (.int .i64 vl) := S3.cell 1 _ rfl; replace y3_0 := S3.fr y3_0; replace y3_1 := S3.fr y3_1; replace H3 : Hid (b3 < W3s.heap.size) := Nat.lt_of_lt_of_le H3.out S3.kept.size; replace B := B.trans (S3.kept.below _ (Nat.le_trans O0.out (by have q1 := O1.out; have q2 := O2.out; have q3 := O3.out; omega)) B.size); replace Px := Px.keptP S3.kept (Or.inl (by have q := HP.out; have r3 := O3.out; omega)); clear S3) | fail)
  refine (eqNRes_yes _ _ _).mono ?_
  rintro e w9 ⟨rfl, BB⟩
  replace Px := Px.below BB
  replace c0_0 := cell_later BB c0_0
  replace c0_1 := cell_later BB c0_1
  replace c0_2 := cell_later BB c0_2
  replace c0_3 := cell_later BB c0_3
  replace H0 : Hid (b0 < w9.heap.size) := Nat.lt_of_lt_of_le H0.out BB.size
  replace c1_0 := cell_later BB c1_0
  replace c1_1 := cell_later BB c1_1
  replace y1_0 := frozen_later BB H1.out y1_0
  replace y1_1 := frozen_later BB H1.out y1_1
  replace H1 : Hid (b1 < w9.heap.size) := Nat.lt_of_lt_of_le H1.out BB.size
  replace c2_0 := cell_later BB c2_0
  replace c2_1 := cell_later BB c2_1
  replace c2_2 := cell_later BB c2_2
  replace c2_3 := cell_later BB c2_3
  replace y2_0 := frozen_later BB H2.out y2_0
  replace y2_1 := frozen_later BB H2.out y2_1
  replace y2_2 := frozen_later BB H2.out y2_2
  replace y2_3 := frozen_later BB H2.out y2_3
  replace H2 : Hid (b2 < w9.heap.size) := Nat.lt_of_lt_of_le H2.out BB.size
  replace c3_0 := cell_later BB c3_0
  replace c3_1 := cell_later BB c3_1
  replace y3_0 := frozen_later BB H3.out y3_0
  replace y3_1 := frozen_later BB H3.out y3_1
  replace H3 : Hid (b3 < w9.heap.size) := Nat.lt_of_lt_of_le H3.out BB.size
  replace B := below_next B BB
  clear BB
  go_wp2_with fail
  have D : Below w9.heap.size w9 w9.drew := (Below.refl _ _).drew
  replace Px := Px.below D
  replace c0_0 := cell_later D c0_0
  replace c0_1 := cell_later D c0_1
  replace c0_2 := cell_later D c0_2
  replace c0_3 := cell_later D c0_3
  replace H0 : Hid (b0 < w9.drew.heap.size) := Nat.lt_of_lt_of_le H0.out D.size
  replace c1_0 := cell_later D c1_0
  replace c1_1 := cell_later D c1_1
  replace y1_0 := frozen_later D H1.out y1_0
  replace y1_1 := frozen_later D H1.out y1_1
  replace H1 : Hid (b1 < w9.drew.heap.size) := Nat.lt_of_lt_of_le H1.out D.size
  replace c2_0 := cell_later D c2_0
  replace c2_1 := cell_later D c2_1
  replace c2_2 := cell_later D c2_2
  replace c2_3 := cell_later D c2_3
  replace y2_0 := frozen_later D H2.out y2_0
  replace y2_1 := frozen_later D H2.out y2_1
  replace y2_2 := frozen_later D H2.out y2_2
  replace y2_3 := frozen_later D H2.out y2_3
  replace H2 : Hid (b2 < w9.drew.heap.size) := Nat.lt_of_lt_of_le H2.out D.size
  replace c3_0 := cell_later D c3_0
  replace c3_1 := cell_later D c3_1
  replace y3_0 := frozen_later D H3.out y3_0
  replace y3_1 := frozen_later D H3.out y3_1
  replace H3 : Hid (b3 < w9.drew.heap.size) := Nat.lt_of_lt_of_le H3.out D.size
  replace B := below_next B D
  clear D
  go_region_held3 (fun w' => w'.cell? ⟨b2, 0, none⟩ = some (.int .i64 bl) ∧ w'.cell? ⟨b2, 1, none⟩ = some (.slice xa nv xb) ∧ w'.cell? ⟨b2, 2, none⟩ = some (.slice xc nc xd) ∧ w'.cell? ⟨b2, 3, none⟩ = some (.slice xe nh xf) ∧ w'.cell? ⟨b0, 0, none⟩ = some (.int .i64 bl) ∧ w'.cell? ⟨b0, 1, none⟩ = some (.slice av nv cv) ∧ w'.cell? ⟨b0, 2, none⟩ = some (.slice ac nc cc) ∧ w'.cell? ⟨b0, 3, none⟩ = some (.slice ah nh ch)) (with_reducible exact ⟨c2_0, c2_1, c2_2, c2_3, c0_0, c0_1, c0_2, c0_3⟩)
    (first | (go_at_call 25; (with_reducible refine (toPlain_any bl av nv cv ac nc cc ah nh ch vs ce sh _ (h.below B) q1 q2 q3).mono ?_); rintro e w10 ⟨ua, ub, uc, ud, ue, uf, rfl, Pu, BB⟩; replace Px := Px.below BB; replace c0_0 := cell_later BB c0_0; replace c0_1 := cell_later BB c0_1; replace c0_2 := cell_later BB c0_2; replace c0_3 := cell_later BB c0_3; replace H0 : Hid (b0 < w10.heap.size) := Nat.lt_of_lt_of_le H0.out BB.size; replace c1_0 := cell_later BB c1_0; replace c1_1 := cell_later BB c1_1; replace y1_0 := frozen_later BB H1.out y1_0; replace y1_1 := frozen_later BB H1.out y1_1; replace H1 : Hid (b1 < w10.heap.size) := Nat.lt_of_lt_of_le H1.out BB.size; replace c2_0 := cell_later BB c2_0; replace c2_1 := cell_later BB c2_1; replace c2_2 := cell_later BB c2_2; replace c2_3 := cell_later BB c2_3; replace y2_0 := frozen_later BB H2.out y2_0; replace y2_1 := frozen_later BB H2.out y2_1; replace y2_2 := frozen_later BB H2.out y2_2; replace y2_3 := frozen_later BB H2.out y2_3; replace H2 : Hid (b2 < w10.heap.size) := Nat.lt_of_lt_of_le H2.out BB.size; replace c3_0 := cell_later BB c3_0; replace c3_1 := cell_later BB c3_1; replace y3_0 := frozen_later BB H3.out y3_0; replace y3_1 := frozen_later BB H3.out y3_1; replace H3 : Hid (b3 < w10.heap.size) := Nat.lt_of_lt_of_le H3.out BB.size; replace B := below_next B BB; clear BB) | (go_at_call 27; (with_reducible refine (eqPlain_yes bl xa nv xb xc nc xd xe nh xf vs ce sh _ Px ua ub uc ud ue uf Pu p1 p2 p3).mono ?_); rintro e w11 ⟨rfl, BB⟩; replace Px := Px.below BB; replace Pu := Pu.below BB; replace c0_0 := cell_later BB c0_0; replace c0_1 := cell_later BB c0_1; replace c0_2 := cell_later BB c0_2; replace c0_3 := cell_later BB c0_3; replace H0 : Hid (b0 < w11.heap.size) := Nat.lt_of_lt_of_le H0.out BB.size; replace c1_0 := cell_later BB c1_0; replace c1_1 := cell_later BB c1_1; replace y1_0 := frozen_later BB H1.out y1_0; replace y1_1 := frozen_later BB H1.out y1_1; replace H1 : Hid (b1 < w11.heap.size) := Nat.lt_of_lt_of_le H1.out BB.size; replace c2_0 := cell_later BB c2_0; replace c2_1 := cell_later BB c2_1; replace c2_2 := cell_later BB c2_2; replace c2_3 := cell_later BB c2_3; replace y2_0 := frozen_later BB H2.out y2_0; replace y2_1 := frozen_later BB H2.out y2_1; replace y2_2 := frozen_later BB H2.out y2_2; replace y2_3 := frozen_later BB H2.out y2_3; replace H2 : Hid (b2 < w11.heap.size) := Nat.lt_of_lt_of_le H2.out BB.size; replace c3_0 := cell_later BB c3_0; replace c3_1 := cell_later BB c3_1; replace y3_0 := frozen_later BB H3.out y3_0; replace y3_1 := frozen_later BB H3.out y3_1; replace H3 : Hid (b3 < w11.heap.size) := Nat.lt_of_lt_of_le H3.out BB.size; replace B := below_next B BB; clear BB))
  go_wp2
  go_ret
  exact ⟨rfl, B⟩

open Go.ChangeShapes Go.WideShapes Go.ChangeAt Go.Joins

set_option maxRecDepth 100000 in
theorem liftedCellIn (os : Os) (started : os.Started) (H : Type) (enc : TypeId × Value → H) :
    ReturnsInHanded {} Try.checked os 5 .any (Rows.fnExactCellInSpec.pre6 enc Try.prog Try.f5 Rows.fnExactCellInRow.domain false) (Rows.fnExactCellInSpec.post enc Try.prog Try.f5 false true false false) := by
  refine returnsInHanded_of_change (C := Try.checked) Try.own started (by kernel_rfl) Try.func5
    (ChangeSpec.witness6 (enc := enc) (C := Try.checked) false ⟨#[], #[.agg #[.int .i64 0, .slice none 0 0, .slice none 0 0, .slice none 0 0], .int .i64 0, .int .i64 0], []⟩ 8 (by kernel_rfl) (by kernel_rfl) (by kernel_rfl) (by kernel_rfl)) ?_
  intro W base args ds gs before hval0 hW hcnd _
  have hval : ∀ (j : Nat) t v, Try.f5.params[j]? = some t → args[j]? = some v → Value.okWide Try.prog W .any base t v := hval0
  have hW' := hW
  obtain ⟨p, q, hA0, hV, rfl, hfz, hnd⟩ := hW
  have hA : DataW.TrodAll enc Try.prog W 0 (fun _ => true) true Try.f5.params.toList args.toList ds p := hA0
  rw [Try.params5] at hA hval
  obtain ⟨v0, vs0, d0, ds0, p0, q0, hargs, rfl, rfl, h0, r0⟩ := trodAll_cons hA
  obtain ⟨v1, vs1, d1, ds1, p1, q1, rfl, rfl, rfl, h1, r1⟩ := trodAll_cons r0
  obtain ⟨v2, vs2, d2, ds2, p2, q2, rfl, rfl, rfl, h2, r2⟩ := trodAll_cons r1
  obtain ⟨rfl, rfl, rfl⟩ := trodAll_nil r2
  obtain rfl : args = #[v0, v1, v2] := by cases args; simp_all
  obtain ⟨rfl, rfl⟩ := trodVars_none hV
  have lt0 : ∀ x ∈ p0, x.block < W.heap.size := by obtain ⟨m, hm⟩ := h0; exact DataW.trod_lt m _ _ _ hm
  have k0 := h0
  obtain ⟨e0, e1, e2, e3, y0, y1, y2, y3, mm, rfl, _, _, hy0, hy1, hy2, hy3⟩ := open_agg4 Try.underlying52 (by kernel_rfl) Try.cellsPlain (hval 0 52 v0 rfl rfl) h0
  obtain ⟨bl, hq0, _, _⟩ := DataW.trod_int Try.underlying2 hy0
  simp only [List.cons.injEq, and_true] at hq0
  subst hq0
  obtain ⟨av, nv, cv, vs, rfl, hvf, sv⟩ := read_vols Try.underlying26 Try.underlying181 Try.cellsVol rfl rfl rfl Try.underlying2 Try.underlying2 Try.underlying2 Try.cellsInt Try.cellsInt Try.cellsInt hy1
  obtain ⟨ac, nc, cc, ce, rfl, hcf, sc⟩ := read_vols Try.underlying50 Try.underlying200 Try.cellsCell rfl rfl rfl Try.underlying2 Try.underlying2 Try.underlying2 Try.cellsInt Try.cellsInt Try.cellsInt hy2
  obtain ⟨ah, nh, ch, sh, rfl, hhf, ss⟩ := read_ints Try.underlying32 Try.underlying2 Try.cellsInt hy3
  have sp : PlAt W false 0 W.heap.size av nv cv ac nc cc ah nh ch vs ce sh := ⟨sv, sc, ss⟩
  obtain ⟨x1, rfl, rfl, rfl, wx1⟩ := open_int Try.underlying2 (hval 1 2 v1 rfl rfl) h1
  obtain ⟨x2, rfl, rfl, rfl, wx2⟩ := open_int Try.underlying2 (hval 2 2 v2 rfl rfl) h2
  clear hA0 hval0
  refine (lawCellIn _ _ _ _ _ _ _ _ _ _ vs ce sh x1 x2 W sp hvf hcf hhf wx1 wx2).mono fun e W' ⟨he, bel⟩ => ?_
  subst he
  exact ⟨_, rfl, _, _, _, [], _, [], hW', trodAll_mk1 (shut_bool Try.underlying4 _), (trodAll_cons_mk (Below.trod Try.laidOut (by kernel_rfl) (of_decide_eq_true (by kernel_rfl)) k0 bel lt0) (trodAll_cons_mk (shut_int Try.underlying2 wx1) (trodAll_cons_mk (shut_int Try.underlying2 wx2) trodAll_mk0))), rfl, bel.frame _, fun h => by cases h⟩

set_option maxRecDepth 100000 in
set_option maxHeartbeats 0 in
theorem closedCellIn : joinedFacts Try.prog 5 Try.f5 Rows.fnExactCellInSpec Rows.fnExactCellInRow = true := by
  have q1 : (Rows.fnExactCellInRow.inPlace == Try.prog.inPlace 5) = true := by rw [inPlace_at leads_is inp_is]; kernel_rfl
  have q2 : (Rows.fnExactCellInRow.unfollowed == Try.prog.unfollowed 5) = true := by rw [unfollowed_at leads_is unf_is]; kernel_rfl
  have q3 : (Rows.fnExactCellInRow.recurses == Try.prog.recurses 5) = true := (by rw [recurses_unf leads_is (by rw [unfollowed_at leads_is unf_is]; kernel_rfl)]; rfl)
  have q4 : (Rows.fnExactCellInRow.named == Try.prog.varsNamed 5) = true := by rw [varsNamed_at leads_is var_ok ent_is]; kernel_rfl
  have q5 : (Try.prog.make == some Rows.fnExactCellInRow.make) = true := by rw [made_cut]; rfl
  have q6 : (Rows.fnExactCellInRow.lifted == Try.prog.liftsFinal) = true := by rw [lifts_no]; rfl
  have q7 : Try.prog.mayEnter = true := may_enter
  have q8 : laidOutB Try.prog = true := Try.laidOut
  unfold joinedFacts
  repeat' (with_reducible refine Bool.and_eq_true_iff.2 ⟨?_, ?_⟩)
  all_goals (first | with_reducible exact q1 | with_reducible exact q2 | with_reducible exact q3 | with_reducible exact q4 | with_reducible exact q5 | with_reducible exact q6 | with_reducible exact q7 | with_reducible exact q8 | (as_aux_lemma => kernel_rfl))

theorem cellIn_holds : Rows.FnExactCellInSaid :=
  OpenClaim.holds_of_wide 5 Try.f5 rfl rfl rfl rfl rfl rfl rfl ⟨rfl, rfl, rfl, rfl, rfl⟩ rfl rfl rfl rfl rfl (by as_aux_lemma => kernel_rfl) Try.func5 closedCellIn
    (of_decide_eq_true (by as_aux_lemma => kernel_rfl)) (by unfold Func.isWrapper; first | (rw [if_pos (by decide +kernel)]; kernel_rfl) | (rw [if_neg (by decide +kernel)]; exact ⟨rfl, rfl⟩))
    (fun os started H enc _ => liftedCellIn os started H enc)

#print axioms cellIn_holds

end Go.Proofs.Ytcbfmjanjciodaa
