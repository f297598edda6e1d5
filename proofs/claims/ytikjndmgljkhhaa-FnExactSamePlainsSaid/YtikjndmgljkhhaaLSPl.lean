/- Any two plain pools: the program's SamePlains answers as its model does: the walk of FnExactSamePlains. -/
import Derived.Test.YtikjndmgljkhhaaSPm
namespace Go.Proofs.Ytikjndmgljkhhaa
open Go.RowKit

theorem PlAt.keptP {w w' : World} {o : Bool} {lo hi : Nat} {av : Option Addr} {nv cv : Nat} {ac : Option Addr} {nc cc : Nat} {ah : Option Addr} {nh ch : Nat} {vs ce : List Vo} {sh : List Int} (h : PlAt w o lo hi av nv cv ac nc cc ah nh ch vs ce sh) {l u : Nat} (K : Kept l u w w') (hd : hi ≤ l ∨ u ≤ lo) : PlAt w' o lo hi av nv cv ac nc cc ah nh ch vs ce sh :=
  ⟨h.vol.kept K hd, h.cel.kept K hd, h.sha.kept K hd⟩
set_option maxRecDepth 20000 in
set_option maxHeartbeats 8000000 in
theorem lawSamePl {o : Bool} (bl : Int) (av : Option Addr) (nv cv : Nat) (ac : Option Addr) (nc cc : Nat) (ah : Option Addr) (nh ch : Nat) (vs ce : List Vo) (sh : List Int) (bl' : Int) (av' : Option Addr) (nv' cv' : Nat) (ac' : Option Addr) (nc' cc' : Nat) (ah' : Option Addr) (nh' ch' : Nat) (vs' ce' : List Vo) (sh' : List Int) (w : World) (h : PlAt w o 0 w.heap.size av nv cv ac nc cc ah nh ch vs ce sh) (z1 : nv ≤ maxLen) (z2 : nc ≤ maxLen) (z3 : nh ≤ maxLen) (h' : PlAt w o 0 w.heap.size av' nv' cv' ac' nc' cc' ah' nh' ch' vs' ce' sh') (z1' : nv' ≤ maxLen) (z2' : nc' ≤ maxLen) (z3' : nh' ≤ maxLen) :
    Calls Try.prog 9 #[.agg #[.int .i64 bl, .slice av nv cv, .slice ac nc cc, .slice ah nh ch], .agg #[.int .i64 bl', .slice av' nv' cv', .slice ac' nc' cc', .slice ah' nh' ch']] w fun e w' => e = .returned (.bool true) ∧ Below w.heap.size w w' := by
  obtain ⟨d, hd⟩ : ∃ d, samePl bl vs ce bl' vs' ce' = d := ⟨_, rfl⟩
  have HD : Hid _ := hd
  clear hd
  have hdd : (d != d) = false := by simp
  go_enter Try.func9, Try.ntmps9
  go_wp2_with (first | (have g1 := H0.out; clear g1; (with_reducible refine box_new 65 #[.int .i64 bl', .slice av' nv' cv', .slice ac' nc' cc', .slice ah' nh' ch'] rfl ?_); intro b1 W1 N1; have O1 : Hid (b0 < b1) := Nat.lt_of_lt_of_le H0.out N1.ge; replace c0_0 := cell_later N1.below c0_0; replace c0_1 := cell_later N1.below c0_1; replace c0_2 := cell_later N1.below c0_2; replace c0_3 := cell_later N1.below c0_3; replace H0 : Hid (b0 < W1.heap.size) := Nat.lt_of_lt_of_le H0.out N1.below.size; replace B := below_next B N1.below; have H1 : Hid (b1 < W1.heap.size) := N1.lt; have c1_0 : W1.cell? ⟨b1, 0, none⟩ = some (.int .i64 bl') := N1.cell 0 _ rfl; have c1_1 : W1.cell? ⟨b1, 1, none⟩ = some (.slice av' nv' cv') := N1.cell 1 _ rfl; have c1_2 : W1.cell? ⟨b1, 2, none⟩ = some (.slice ac' nc' cc') := N1.cell 2 _ rfl; have c1_3 : W1.cell? ⟨b1, 3, none⟩ = some (.slice ah' nh' ch') := N1.cell 3 _ rfl; clear N1) | ((with_reducible refine box_new 65 #[.int .i64 bl, .slice av nv cv, .slice ac nc cc, .slice ah nh ch] rfl ?_); intro b0 W0 N0; have O0 : Hid (w.heap.size ≤ b0) := N0.ge; have B := N0.below; have H0 : Hid (b0 < W0.heap.size) := N0.lt; have c0_0 : W0.cell? ⟨b0, 0, none⟩ = some (.int .i64 bl) := N0.cell 0 _ rfl; have c0_1 : W0.cell? ⟨b0, 1, none⟩ = some (.slice av nv cv) := N0.cell 1 _ rfl; have c0_2 : W0.cell? ⟨b0, 2, none⟩ = some (.slice ac nc cc) := N0.cell 2 _ rfl; have c0_3 : W0.cell? ⟨b0, 3, none⟩ = some (.slice ah nh ch) := N0.cell 3 _ rfl; clear N0) | fail)
  refine (szPlain_left bl av nv cv ac nc cc ah nh ch 1048576 _ z1 z2 z3 (by omega) (by omega)).mono ?_
  rintro e ws0 ⟨r0, rfl, BB, hr⟩
  replace c0_0 := cell_later BB c0_0
  replace c0_1 := cell_later BB c0_1
  replace c0_2 := cell_later BB c0_2
  replace c0_3 := cell_later BB c0_3
  replace H0 : Hid (b0 < ws0.heap.size) := Nat.lt_of_lt_of_le H0.out BB.size
  replace c1_0 := cell_later BB c1_0
  replace c1_1 := cell_later BB c1_1
  replace c1_2 := cell_later BB c1_2
  replace c1_3 := cell_later BB c1_3
  replace H1 : Hid (b1 < ws0.heap.size) := Nat.lt_of_lt_of_le H1.out BB.size
  replace B := below_next B BB
  clear BB
  rcases hr with hr | ⟨hr, hsz0⟩
  · go_wp2
    go_ret
    exact ⟨rfl, B⟩
  have hr0 : ¬ r0 < 0 := by omega
  have _ := hr
  go_wp2_with fail
  refine (szPlain_left bl' av' nv' cv' ac' nc' cc' ah' nh' ch' r0 _ z1' z2' z3' (by omega) (by omega)).mono ?_
  rintro e ws1 ⟨r1, rfl, BB, hr⟩
  replace c0_0 := cell_later BB c0_0
  replace c0_1 := cell_later BB c0_1
  replace c0_2 := cell_later BB c0_2
  replace c0_3 := cell_later BB c0_3
  replace H0 : Hid (b0 < ws1.heap.size) := Nat.lt_of_lt_of_le H0.out BB.size
  replace c1_0 := cell_later BB c1_0
  replace c1_1 := cell_later BB c1_1
  replace c1_2 := cell_later BB c1_2
  replace c1_3 := cell_later BB c1_3
  replace H1 : Hid (b1 < ws1.heap.size) := Nat.lt_of_lt_of_le H1.out BB.size
  replace B := below_next B BB
  clear BB
  rcases hr with hr | ⟨hr, hsz1⟩
  · go_wp2
    go_ret
    exact ⟨rfl, B⟩
  have hr1 : ¬ r1 < 0 := by omega
  have _ := hr
  have q1 : nv ≤ 1048576 := by omega
  have q2 : nc ≤ 1048576 := by omega
  have q3 : nh ≤ 1048576 := by omega
  have p1 : nv ≤ 2097152 := by omega
  have p2 : nc ≤ 2097152 := by omega
  have p3 : nh ≤ 2097152 := by omega
  have q1' : nv' ≤ 1048576 := by omega
  have q2' : nc' ≤ 1048576 := by omega
  have q3' : nh' ≤ 1048576 := by omega
  have p1' : nv' ≤ 2097152 := by omega
  have p2' : nc' ≤ 2097152 := by omega
  have p3' : nh' ≤ 2097152 := by omega
  clear hsz0 hsz1
  go_wp2_with fail
  have D : Below ws1.heap.size ws1 ws1.drew := (Below.refl _ _).drew
  replace c0_0 := cell_later D c0_0
  replace c0_1 := cell_later D c0_1
  replace c0_2 := cell_later D c0_2
  replace c0_3 := cell_later D c0_3
  replace H0 : Hid (b0 < ws1.drew.heap.size) := Nat.lt_of_lt_of_le H0.out D.size
  replace c1_0 := cell_later D c1_0
  replace c1_1 := cell_later D c1_1
  replace c1_2 := cell_later D c1_2
  replace c1_3 := cell_later D c1_3
  replace H1 : Hid (b1 < ws1.drew.heap.size) := Nat.lt_of_lt_of_le H1.out D.size
  replace B := below_next B D
  clear D
  go_region_held3 (fun w' => w'.cell? ⟨b0, 0, none⟩ = some (.int .i64 bl) ∧ w'.cell? ⟨b0, 1, none⟩ = some (.slice av nv cv) ∧ w'.cell? ⟨b0, 2, none⟩ = some (.slice ac nc cc) ∧ w'.cell? ⟨b0, 3, none⟩ = some (.slice ah nh ch) ∧ w'.cell? ⟨b1, 0, none⟩ = some (.int .i64 bl') ∧ w'.cell? ⟨b1, 1, none⟩ = some (.slice av' nv' cv') ∧ w'.cell? ⟨b1, 2, none⟩ = some (.slice ac' nc' cc') ∧ w'.cell? ⟨b1, 3, none⟩ = some (.slice ah' nh' ch')) (with_reducible exact ⟨c0_0, c0_1, c0_2, c0_3, c1_0, c1_1, c1_2, c1_3⟩)
    (first | (go_at_call 28; (with_reducible refine (toPlain_any bl av nv cv ac nc cc ah nh ch vs ce sh _ (h.below B) q1 q2 q3).mono ?_); rintro e w3 ⟨ta, tb, tc, td, te, tf, rfl, Pt, BB⟩; replace c0_0 := cell_later BB c0_0; replace c0_1 := cell_later BB c0_1; replace c0_2 := cell_later BB c0_2; replace c0_3 := cell_later BB c0_3; replace H0 : Hid (b0 < w3.heap.size) := Nat.lt_of_lt_of_le H0.out BB.size; replace c1_0 := cell_later BB c1_0; replace c1_1 := cell_later BB c1_1; replace c1_2 := cell_later BB c1_2; replace c1_3 := cell_later BB c1_3; replace H1 : Hid (b1 < w3.heap.size) := Nat.lt_of_lt_of_le H1.out BB.size; replace B := below_next B BB; clear BB) | (go_at_call 28; (with_reducible refine (toPlain_any bl' av' nv' cv' ac' nc' cc' ah' nh' ch' vs' ce' sh' _ (h'.below B) q1' q2' q3').mono ?_); rintro e w4 ⟨ua, ub, uc, ud, ue, uf, rfl, Pu, BB⟩; replace Pt := Pt.below BB; replace c0_0 := cell_later BB c0_0; replace c0_1 := cell_later BB c0_1; replace c0_2 := cell_later BB c0_2; replace c0_3 := cell_later BB c0_3; replace H0 : Hid (b0 < w4.heap.size) := Nat.lt_of_lt_of_le H0.out BB.size; replace c1_0 := cell_later BB c1_0; replace c1_1 := cell_later BB c1_1; replace c1_2 := cell_later BB c1_2; replace c1_3 := cell_later BB c1_3; replace H1 : Hid (b1 < w4.heap.size) := Nat.lt_of_lt_of_le H1.out BB.size; replace B := below_next B BB; clear BB) | (go_at_call 38; (with_reducible refine (specSamePl_is bl ta nv tb tc nc td te nh tf vs ce sh bl' ua nv' ub uc nc' ud ue nh' uf vs' ce' sh' _ Pt Pu q1 q2 q1' q2' d HD.out).mono ?_); rintro e w5 ⟨rfl, BB⟩; replace Pt := Pt.below BB; replace Pu := Pu.below BB; replace c0_0 := cell_later BB c0_0; replace c0_1 := cell_later BB c0_1; replace c0_2 := cell_later BB c0_2; replace c0_3 := cell_later BB c0_3; replace H0 : Hid (b0 < w5.heap.size) := Nat.lt_of_lt_of_le H0.out BB.size; replace c1_0 := cell_later BB c1_0; replace c1_1 := cell_later BB c1_1; replace c1_2 := cell_later BB c1_2; replace c1_3 := cell_later BB c1_3; replace H1 : Hid (b1 < w5.heap.size) := Nat.lt_of_lt_of_le H1.out BB.size; replace B := below_next B BB; clear BB))
  clear Pt Pu
  go_wp2_with fail
  refine (toPlain_any bl av nv cv ac nc cc ah nh ch vs ce sh _ (h.below B) q1 q2 q3).mono ?_
  rintro e w6 ⟨xa, xb, xc, xd, xe, xf, rfl, Px, BB⟩
  replace c0_0 := cell_later BB c0_0
  replace c0_1 := cell_later BB c0_1
  replace c0_2 := cell_later BB c0_2
  replace c0_3 := cell_later BB c0_3
  replace H0 : Hid (b0 < w6.heap.size) := Nat.lt_of_lt_of_le H0.out BB.size
  replace c1_0 := cell_later BB c1_0
  replace c1_1 := cell_later BB c1_1
  replace c1_2 := cell_later BB c1_2
  replace c1_3 := cell_later BB c1_3
  replace H1 : Hid (b1 < w6.heap.size) := Nat.lt_of_lt_of_le H1.out BB.size
  replace B := below_next B BB
  clear BB
  have GX : Hid (w6.heap.size ≤ w6.heap.size) := Nat.le_refl _
  go_wp2_with (first | ((with_reducible refine alloc_new 54 #[.int .i64 0, .slice none 0 0, .slice none 0 0, .slice none 0 0] (fun _ => by kernel_rfl) ?_); intro b2 W2 N2; have O2 : Hid (b1 < b2) := Nat.lt_of_lt_of_le H1.out N2.ge; replace Px := Px.below N2.below; replace c0_0 := cell_later N2.below c0_0; replace c0_1 := cell_later N2.below c0_1; replace c0_2 := cell_later N2.below c0_2; replace c0_3 := cell_later N2.below c0_3; replace H0 : Hid (b0 < W2.heap.size) := Nat.lt_of_lt_of_le H0.out N2.below.size; replace c1_0 := cell_later N2.below c1_0; replace c1_1 := cell_later N2.below c1_1; replace c1_2 := cell_later N2.below c1_2; replace c1_3 := cell_later N2.below c1_3; replace H1 : Hid (b1 < W2.heap.size) := Nat.lt_of_lt_of_le H1.out N2.below.size; replace B := below_next B N2.below; have H2 : Hid (b2 < W2.heap.size) := N2.lt; have c2_0 : W2.cell? ⟨b2, 0, none⟩ = some (.int .i64 0) := N2.cell 0 _ rfl; have c2_1 : W2.cell? ⟨b2, 1, none⟩ = some (.slice none 0 0) := N2.cell 1 _ rfl; have c2_2 : W2.cell? ⟨b2, 2, none⟩ = some (.slice none 0 0) := N2.cell 2 _ rfl; have c2_3 : W2.cell? ⟨b2, 3, none⟩ = some (.slice none 0 0) := N2.cell 3 _ rfl; have y2_0 : W2.frozen? ⟨b2, 0, none⟩ = false := N2.froz 0; have y2_1 : W2.frozen? ⟨b2, 1, none⟩ = false := N2.froz 1; have y2_2 : W2.frozen? ⟨b2, 2, none⟩ = false := N2.froz 2; have y2_3 : W2.frozen? ⟨b2, 3, none⟩ = false := N2.froz 3; have HP2 : Hid (w6.heap.size ≤ b2) := N2.ge; clear N2) | ((with_reducible refine store_box 54 b2 [.int .i64 bl, .slice xa nv xb, .slice xc nc xd, .slice xe nh xf] (by simp) (there4 c2_0 c2_1 c2_2 c2_3 y2_0 y2_1 y2_2 y2_3) (by kernel_rfl) (by simp [Value.oneCell']) rfl rfl ?_); intro W2s S2; replace c0_0 := S2.at c0_0 (by have q1 := O1.out; have q2 := O2.out; omega); replace c0_1 := S2.at c0_1 (by have q1 := O1.out; have q2 := O2.out; omega); replace c0_2 := S2.at c0_2 (by have q1 := O1.out; have q2 := O2.out; omega); replace c0_3 := S2.at c0_3 (by have q1 := O1.out; have q2 := O2.out; omega); replace H0 : Hid (b0 < W2s.heap.size) := Nat.lt_of_lt_of_le H0.out S2.kept.size; replace c1_0 := S2.at c1_0 (by have q2 := O2.out; omega); replace c1_1 := S2.at c1_1 (by have q2 := O2.out; omega); replace c1_2 := S2.at c1_2 (by have q2 := O2.out; omega); replace c1_3 := S2.at c1_3 (by have q2 := O2.out; omega); replace H1 : Hid (b1 < W2s.heap.size) := Nat.lt_of_lt_of_le H1.out S2.kept.size; replace c2_0 : W2s.cell? ⟨b2, 0, none⟩ = some (.int .i64 bl) := S2.cell 0 _ rfl; replace c2_1 : W2s.cell? ⟨b2, 1, none⟩ = some (.slice xa nv xb) := S2.cell 1 _ rfl; replace c2_2 : W2s.cell? ⟨b2, 2, none⟩ = some (.slice xc nc xd) := S2.cell 2 _ rfl; replace c2_3 : W2s.cell? ⟨b2, 3, none⟩ = some (.slice xe nh xf) := S2.cell 3 _ rfl; replace y2_0 := S2.fr y2_0; replace y2_1 := S2.fr y2_1; replace y2_2 := S2.fr y2_2; replace y2_3 := S2.fr y2_3; replace H2 : Hid (b2 < W2s.heap.size) := Nat.lt_of_lt_of_le H2.out S2.kept.size; replace B := B.trans (S2.kept.below _ (Nat.le_trans O0.out (by have q1 := O1.out; have q2 := O2.out; omega)) B.size); replace Px := Px.keptP S2.kept (Or.inl HP2.out); clear S2) | fail)
  refine (toPlain_any bl' av' nv' cv' ac' nc' cc' ah' nh' ch' vs' ce' sh' _ (h'.below B) q1' q2' q3').mono ?_
  rintro e w7 ⟨ya, yb, yc, yd, ye, yf, rfl, Py, BB⟩
  replace Px := Px.below BB
  replace c0_0 := cell_later BB c0_0
  replace c0_1 := cell_later BB c0_1
  replace c0_2 := cell_later BB c0_2
  replace c0_3 := cell_later BB c0_3
  replace H0 : Hid (b0 < w7.heap.size) := Nat.lt_of_lt_of_le H0.out BB.size
  replace c1_0 := cell_later BB c1_0
  replace c1_1 := cell_later BB c1_1
  replace c1_2 := cell_later BB c1_2
  replace c1_3 := cell_later BB c1_3
  replace H1 : Hid (b1 < w7.heap.size) := Nat.lt_of_lt_of_le H1.out BB.size
  replace c2_0 := cell_later BB c2_0
  replace c2_1 := cell_later BB c2_1
  replace c2_2 := cell_later BB c2_2
  replace c2_3 := cell_later BB c2_3
  replace y2_0 := frozen_later BB H2.out y2_0
  replace y2_1 := frozen_later BB H2.out y2_1
  replace y2_2 := frozen_later BB H2.out y2_2
  replace y2_3 := frozen_later BB H2.out y2_3
  replace H2 : Hid (b2 < w7.heap.size) := Nat.lt_of_lt_of_le H2.out BB.size
  replace B := below_next B BB
  clear BB
  have HPX : Hid (w6.heap.size ≤ w7.heap.size) := by show _ ≤ _; have q := HP2.out; have q2 := H2.out; omega
  go_wp2_with (first | ((with_reducible refine alloc_new 54 #[.int .i64 0, .slice none 0 0, .slice none 0 0, .slice none 0 0] (fun _ => by kernel_rfl) ?_); intro b3 W3 N3; have O3 : Hid (b2 < b3) := Nat.lt_of_lt_of_le H2.out N3.ge; replace Px := Px.below N3.below; replace Py := Py.below N3.below; replace c0_0 := cell_later N3.below c0_0; replace c0_1 := cell_later N3.below c0_1; replace c0_2 := cell_later N3.below c0_2; replace c0_3 := cell_later N3.below c0_3; replace H0 : Hid (b0 < W3.heap.size) := Nat.lt_of_lt_of_le H0.out N3.below.size; replace c1_0 := cell_later N3.below c1_0; replace c1_1 := cell_later N3.below c1_1; replace c1_2 := cell_later N3.below c1_2; replace c1_3 := cell_later N3.below c1_3; replace H1 : Hid (b1 < W3.heap.size) := Nat.lt_of_lt_of_le H1.out N3.below.size; replace c2_0 := cell_later N3.below c2_0; replace c2_1 := cell_later N3.below c2_1; replace c2_2 := cell_later N3.below c2_2; replace c2_3 := cell_later N3.below c2_3; replace y2_0 := frozen_later N3.below H2.out y2_0; replace y2_1 := frozen_later N3.below H2.out y2_1; replace y2_2 := frozen_later N3.below H2.out y2_2; replace y2_3 := frozen_later N3.below H2.out y2_3; replace H2 : Hid (b2 < W3.heap.size) := Nat.lt_of_lt_of_le H2.out N3.below.size; replace B := below_next B N3.below; have H3 : Hid (b3 < W3.heap.size) := N3.lt; have c3_0 : W3.cell? ⟨b3, 0, none⟩ = some (.int .i64 0) := N3.cell 0 _ rfl; have c3_1 : W3.cell? ⟨b3, 1, none⟩ = some (.slice none 0 0) := N3.cell 1 _ rfl; have c3_2 : W3.cell? ⟨b3, 2, none⟩ = some (.slice none 0 0) := N3.cell 2 _ rfl; have c3_3 : W3.cell? ⟨b3, 3, none⟩ = some (.slice none 0 0) := N3.cell 3 _ rfl; have y3_0 : W3.frozen? ⟨b3, 0, none⟩ = false := N3.froz 0; have y3_1 : W3.frozen? ⟨b3, 1, none⟩ = false := N3.froz 1; have y3_2 : W3.frozen? ⟨b3, 2, none⟩ = false := N3.froz 2; have y3_3 : W3.frozen? ⟨b3, 3, none⟩ = false := N3.froz 3; have HP3 : Hid (w7.heap.size ≤ b3) := N3.ge; clear N3) | ((with_reducible refine store_box 54 b3 [.int .i64 bl', .slice ya nv' yb, .slice yc nc' yd, .slice ye nh' yf] (by simp) (there4 c3_0 c3_1 c3_2 c3_3 y3_0 y3_1 y3_2 y3_3) (by kernel_rfl) (by simp [Value.oneCell']) rfl rfl ?_); intro W3s S3; replace c0_0 := S3.at c0_0 (by have q1 := O1.out; have q2 := O2.out; have q3 := O3.out; omega); replace c0_1 := S3.at c0_1 (by have q1 := O1.out; have q2 := O2.out; have q3 := O3.out; omega); replace c0_2 := S3.at c0_2 (by have q1 := O1.out; have q2 := O2.out; have q3 := O3.out; omega); replace c0_3 := S3.at c0_3 (by have q1 := O1.out; have q2 := O2.out; have q3 := O3.out; omega); replace H0 : Hid (b0 < W3s.heap.size) := Nat.lt_of_lt_of_le H0.out S3.kept.size; replace c1_0 := S3.at c1_0 (by have q2 := O2.out; have q3 := O3.out; omega); replace c1_1 := S3.at c1_1 (by have q2 := O2.out; have q3 := O3.out; omega); replace c1_2 := S3.at c1_2 (by have q2 := O2.out; have q3 := O3.out; omega); replace c1_3 := S3.at c1_3 (by have q2 := O2.out; have q3 := O3.out; omega); replace H1 : Hid (b1 < W3s.heap.size) := Nat.lt_of_lt_of_le H1.out S3.kept.size; replace c2_0 := S3.at c2_0 (by have q3 := O3.out; omega); replace c2_1 := S3.at c2_1 (by have q3 := O3.out; omega); replace c2_2 := S3.at c2_2 (by have q3 := O3.out; omega); replace c2_3 := S3.at c2_3 (by have q3 := O3.out; omega); replace y2_0 := S3.fr y2_0; replace y2_1 := S3.fr y2_1; replace y2_2 := S3.fr y2_2; replace y2_3 := S3.fr y2_3; replace H2 : Hid (b2 < W3s.heap.size) := Nat.lt_of_lt_of_le H2.out S3.kept.size; replace c3_0 : W3s.cell? ⟨b3, 0, none⟩ = some (.int .i64 bl') := S3.cell 0 _ rfl; replace c3_1 : W3s.cell? ⟨b3, 1, none⟩ = some (.slice ya nv' yb) := S3.cell 1 _ rfl; replace c3_2 : W3s.cell? ⟨b3, 2, none⟩ = some (.slice yc nc' yd) := S3.cell 2 _ rfl; replace c3_3 : W3s.cell? ⟨b3, 3, none⟩ = some (.slice ye nh' yf) := S3.cell 3 _ rfl; replace y3_0 := S3.fr y3_0; replace y3_1 := S3.fr y3_1; replace y3_2 := S3.fr y3_2; replace y3_3 := S3.fr y3_3; replace H3 : Hid (b3 < W3s.heap.size) := Nat.lt_of_lt_of_le H3.out S3.kept.size; replace B := B.trans (S3.kept.below _ (Nat.le_trans O0.out (by have q1 := O1.out; have q2 := O2.out; have q3 := O3.out; omega)) B.size); replace Px := Px.keptP S3.kept (Or.inl (Nat.le_trans HPX.out HP3.out)); replace Py := Py.keptP S3.kept (Or.inl HP3.out); clear S3) | fail)
  refine (implSamePl_is bl xa nv xb xc nc xd xe nh xf vs ce sh bl' ya nv' yb yc nc' yd ye nh' yf vs' ce' sh' _ Px Py q1 q2 q1' q2' d HD.out).mono ?_
  rintro e w8 ⟨rfl, BB⟩
  replace Px := Px.below BB
  replace Py := Py.below BB
  replace c0_0 := cell_later BB c0_0
  replace c0_1 := cell_later BB c0_1
  replace c0_2 := cell_later BB c0_2
  replace c0_3 := cell_later BB c0_3
  replace H0 : Hid (b0 < w8.heap.size) := Nat.lt_of_lt_of_le H0.out BB.size
  replace c1_0 := cell_later BB c1_0
  replace c1_1 := cell_later BB c1_1
  replace c1_2 := cell_later BB c1_2
  replace c1_3 := cell_later BB c1_3
  replace H1 : Hid (b1 < w8.heap.size) := Nat.lt_of_lt_of_le H1.out BB.size
  replace c2_0 := cell_later BB c2_0
  replace c2_1 := cell_later BB c2_1
  replace c2_2 := cell_later BB c2_2
  replace c2_3 := cell_later BB c2_3
  replace y2_0 := frozen_later BB H2.out y2_0
  replace y2_1 := frozen_later BB H2.out y2_1
  replace y2_2 := frozen_later BB H2.out y2_2
  replace y2_3 := frozen_later BB H2.out y2_3
  replace H2 : Hid (b2 < w8.heap.size) := Nat.lt_of_lt_of_le H2.out BB.size
  replace c3_0 := cell_later BB c3_0
  replace c3_1 := cell_later BB c3_1
  replace c3_2 := cell_later BB c3_2
  replace c3_3 := cell_later BB c3_3
  replace y3_0 := frozen_later BB H3.out y3_0
  replace y3_1 := frozen_later BB H3.out y3_1
  replace y3_2 := frozen_later BB H3.out y3_2
  replace y3_3 := frozen_later BB H3.out y3_3
  replace H3 : Hid (b3 < w8.heap.size) := Nat.lt_of_lt_of_le H3.out BB.size
  replace B := below_next B BB
  clear BB
  go_wp2_with fail
  have D : Below w8.heap.size w8 w8.drew := (Below.refl _ _).drew
  replace Px := Px.below D
  replace Py := Py.below D
  replace c0_0 := cell_later D c0_0
  replace c0_1 := cell_later D c0_1
  replace c0_2 := cell_later D c0_2
  replace c0_3 := cell_later D c0_3
  replace H0 : Hid (b0 < w8.drew.heap.size) := Nat.lt_of_lt_of_le H0.out D.size
  replace c1_0 := cell_later D c1_0
  replace c1_1 := cell_later D c1_1
  replace c1_2 := cell_later D c1_2
  replace c1_3 := cell_later D c1_3
  replace H1 : Hid (b1 < w8.drew.heap.size) := Nat.lt_of_lt_of_le H1.out D.size
  replace c2_0 := cell_later D c2_0
  replace c2_1 := cell_later D c2_1
  replace c2_2 := cell_later D c2_2
  replace c2_3 := cell_later D c2_3
  replace y2_0 := frozen_later D H2.out y2_0
  replace y2_1 := frozen_later D H2.out y2_1
  replace y2_2 := frozen_later D H2.out y2_2
  replace y2_3 := frozen_later D H2.out y2_3
  replace H2 : Hid (b2 < w8.drew.heap.size) := Nat.lt_of_lt_of_le H2.out D.size
  replace c3_0 := cell_later D c3_0
  replace c3_1 := cell_later D c3_1
  replace c3_2 := cell_later D c3_2
  replace c3_3 := cell_later D c3_3
  replace y3_0 := frozen_later D H3.out y3_0
  replace y3_1 := frozen_later D H3.out y3_1
  replace y3_2 := frozen_later D H3.out y3_2
  replace y3_3 := frozen_later D H3.out y3_3
  replace H3 : Hid (b3 < w8.drew.heap.size) := Nat.lt_of_lt_of_le H3.out D.size
  replace B := below_next B D
  clear D
  go_region_held3 (fun w' => w'.cell? ⟨b2, 0, none⟩ = some (.int .i64 bl) ∧ w'.cell? ⟨b2, 1, none⟩ = some (.slice xa nv xb) ∧ w'.cell? ⟨b2, 2, none⟩ = some (.slice xc nc xd) ∧ w'.cell? ⟨b2, 3, none⟩ = some (.slice xe nh xf) ∧ w'.cell? ⟨b0, 0, none⟩ = some (.int .i64 bl) ∧ w'.cell? ⟨b0, 1, none⟩ = some (.slice av nv cv) ∧ w'.cell? ⟨b0, 2, none⟩ = some (.slice ac nc cc) ∧ w'.cell? ⟨b0, 3, none⟩ = some (.slice ah nh ch)) (with_reducible exact ⟨c2_0, c2_1, c2_2, c2_3, c0_0, c0_1, c0_2, c0_3⟩)
    (first | (go_at_call 28; (with_reducible refine (toPlain_any bl av nv cv ac nc cc ah nh ch vs ce sh _ (h.below B) q1 q2 q3).mono ?_); rintro e w9 ⟨ta, tb, tc, td, te, tf, rfl, Pt, BB⟩; replace Px := Px.below BB; replace Py := Py.below BB; replace c0_0 := cell_later BB c0_0; replace c0_1 := cell_later BB c0_1; replace c0_2 := cell_later BB c0_2; replace c0_3 := cell_later BB c0_3; replace H0 : Hid (b0 < w9.heap.size) := Nat.lt_of_lt_of_le H0.out BB.size; replace c1_0 := cell_later BB c1_0; replace c1_1 := cell_later BB c1_1; replace c1_2 := cell_later BB c1_2; replace c1_3 := cell_later BB c1_3; replace H1 : Hid (b1 < w9.heap.size) := Nat.lt_of_lt_of_le H1.out BB.size; replace c2_0 := cell_later BB c2_0; replace c2_1 := cell_later BB c2_1; replace c2_2 := cell_later BB c2_2; replace c2_3 := cell_later BB c2_3; replace y2_0 := frozen_later BB H2.out y2_0; replace y2_1 := frozen_later BB H2.out y2_1; replace y2_2 := frozen_later BB H2.out y2_2; replace y2_3 := frozen_later BB H2.out y2_3; replace H2 : Hid (b2 < w9.heap.size) := Nat.lt_of_lt_of_le H2.out BB.size; replace c3_0 := cell_later BB c3_0; replace c3_1 := cell_later BB c3_1; replace c3_2 := cell_later BB c3_2; replace c3_3 := cell_later BB c3_3; replace y3_0 := frozen_later BB H3.out y3_0; replace y3_1 := frozen_later BB H3.out y3_1; replace y3_2 := frozen_later BB H3.out y3_2; replace y3_3 := frozen_later BB H3.out y3_3; replace H3 : Hid (b3 < w9.heap.size) := Nat.lt_of_lt_of_le H3.out BB.size; replace B := below_next B BB; clear BB) | (go_at_call 30; (with_reducible refine (eqPlain_yes bl xa nv xb xc nc xd xe nh xf vs ce sh _ Px ta tb tc td te tf Pt p1 p2 p3).mono ?_); rintro e w10 ⟨rfl, BB⟩; replace Px := Px.below BB; replace Py := Py.below BB; replace Pt := Pt.below BB; replace c0_0 := cell_later BB c0_0; replace c0_1 := cell_later BB c0_1; replace c0_2 := cell_later BB c0_2; replace c0_3 := cell_later BB c0_3; replace H0 : Hid (b0 < w10.heap.size) := Nat.lt_of_lt_of_le H0.out BB.size; replace c1_0 := cell_later BB c1_0; replace c1_1 := cell_later BB c1_1; replace c1_2 := cell_later BB c1_2; replace c1_3 := cell_later BB c1_3; replace H1 : Hid (b1 < w10.heap.size) := Nat.lt_of_lt_of_le H1.out BB.size; replace c2_0 := cell_later BB c2_0; replace c2_1 := cell_later BB c2_1; replace c2_2 := cell_later BB c2_2; replace c2_3 := cell_later BB c2_3; replace y2_0 := frozen_later BB H2.out y2_0; replace y2_1 := frozen_later BB H2.out y2_1; replace y2_2 := frozen_later BB H2.out y2_2; replace y2_3 := frozen_later BB H2.out y2_3; replace H2 : Hid (b2 < w10.heap.size) := Nat.lt_of_lt_of_le H2.out BB.size; replace c3_0 := cell_later BB c3_0; replace c3_1 := cell_later BB c3_1; replace c3_2 := cell_later BB c3_2; replace c3_3 := cell_later BB c3_3; replace y3_0 := frozen_later BB H3.out y3_0; replace y3_1 := frozen_later BB H3.out y3_1; replace y3_2 := frozen_later BB H3.out y3_2; replace y3_3 := frozen_later BB H3.out y3_3; replace H3 : Hid (b3 < w10.heap.size) := Nat.lt_of_lt_of_le H3.out BB.size; replace B := below_next B BB; clear BB))
  clear Pt
  go_wp2_with fail
  have D : Below w10.heap.size w10 w10.drew := (Below.refl _ _).drew
  replace Px := Px.below D
  replace Py := Py.below D
  replace c0_0 := cell_later D c0_0
  replace c0_1 := cell_later D c0_1
  replace c0_2 := cell_later D c0_2
  replace c0_3 := cell_later D c0_3
  replace H0 : Hid (b0 < w10.drew.heap.size) := Nat.lt_of_lt_of_le H0.out D.size
  replace c1_0 := cell_later D c1_0
  replace c1_1 := cell_later D c1_1
  replace c1_2 := cell_later D c1_2
  replace c1_3 := cell_later D c1_3
  replace H1 : Hid (b1 < w10.drew.heap.size) := Nat.lt_of_lt_of_le H1.out D.size
  replace c2_0 := cell_later D c2_0
  replace c2_1 := cell_later D c2_1
  replace c2_2 := cell_later D c2_2
  replace c2_3 := cell_later D c2_3
  replace y2_0 := frozen_later D H2.out y2_0
  replace y2_1 := frozen_later D H2.out y2_1
  replace y2_2 := frozen_later D H2.out y2_2
  replace y2_3 := frozen_later D H2.out y2_3
  replace H2 : Hid (b2 < w10.drew.heap.size) := Nat.lt_of_lt_of_le H2.out D.size
  replace c3_0 := cell_later D c3_0
  replace c3_1 := cell_later D c3_1
  replace c3_2 := cell_later D c3_2
  replace c3_3 := cell_later D c3_3
  replace y3_0 := frozen_later D H3.out y3_0
  replace y3_1 := frozen_later D H3.out y3_1
  replace y3_2 := frozen_later D H3.out y3_2
  replace y3_3 := frozen_later D H3.out y3_3
  replace H3 : Hid (b3 < w10.drew.heap.size) := Nat.lt_of_lt_of_le H3.out D.size
  replace B := below_next B D
  clear D
  go_region_held3 (fun w' => w'.cell? ⟨b3, 0, none⟩ = some (.int .i64 bl') ∧ w'.cell? ⟨b3, 1, none⟩ = some (.slice ya nv' yb) ∧ w'.cell? ⟨b3, 2, none⟩ = some (.slice yc nc' yd) ∧ w'.cell? ⟨b3, 3, none⟩ = some (.slice ye nh' yf) ∧ w'.cell? ⟨b1, 0, none⟩ = some (.int .i64 bl') ∧ w'.cell? ⟨b1, 1, none⟩ = some (.slice av' nv' cv') ∧ w'.cell? ⟨b1, 2, none⟩ = some (.slice ac' nc' cc') ∧ w'.cell? ⟨b1, 3, none⟩ = some (.slice ah' nh' ch')) (with_reducible exact ⟨c3_0, c3_1, c3_2, c3_3, c1_0, c1_1, c1_2, c1_3⟩)
    (first | (go_at_call 28; (with_reducible refine (toPlain_any bl' av' nv' cv' ac' nc' cc' ah' nh' ch' vs' ce' sh' _ (h'.below B) q1' q2' q3').mono ?_); rintro e w11 ⟨ta, tb, tc, td, te, tf, rfl, Pt, BB⟩; replace Px := Px.below BB; replace Py := Py.below BB; replace c0_0 := cell_later BB c0_0; replace c0_1 := cell_later BB c0_1; replace c0_2 := cell_later BB c0_2; replace c0_3 := cell_later BB c0_3; replace H0 : Hid (b0 < w11.heap.size) := Nat.lt_of_lt_of_le H0.out BB.size; replace c1_0 := cell_later BB c1_0; replace c1_1 := cell_later BB c1_1; replace c1_2 := cell_later BB c1_2; replace c1_3 := cell_later BB c1_3; replace H1 : Hid (b1 < w11.heap.size) := Nat.lt_of_lt_of_le H1.out BB.size; replace c2_0 := cell_later BB c2_0; replace c2_1 := cell_later BB c2_1; replace c2_2 := cell_later BB c2_2; replace c2_3 := cell_later BB c2_3; replace y2_0 := frozen_later BB H2.out y2_0; replace y2_1 := frozen_later BB H2.out y2_1; replace y2_2 := frozen_later BB H2.out y2_2; replace y2_3 := frozen_later BB H2.out y2_3; replace H2 : Hid (b2 < w11.heap.size) := Nat.lt_of_lt_of_le H2.out BB.size; replace c3_0 := cell_later BB c3_0; replace c3_1 := cell_later BB c3_1; replace c3_2 := cell_later BB c3_2; replace c3_3 := cell_later BB c3_3; replace y3_0 := frozen_later BB H3.out y3_0; replace y3_1 := frozen_later BB H3.out y3_1; replace y3_2 := frozen_later BB H3.out y3_2; replace y3_3 := frozen_later BB H3.out y3_3; replace H3 : Hid (b3 < w11.heap.size) := Nat.lt_of_lt_of_le H3.out BB.size; replace B := below_next B BB; clear BB) | (go_at_call 30; (with_reducible refine (eqPlain_yes bl' ya nv' yb yc nc' yd ye nh' yf vs' ce' sh' _ Py ta tb tc td te tf Pt p1' p2' p3').mono ?_); rintro e w12 ⟨rfl, BB⟩; replace Px := Px.below BB; replace Py := Py.below BB; replace Pt := Pt.below BB; replace c0_0 := cell_later BB c0_0; replace c0_1 := cell_later BB c0_1; replace c0_2 := cell_later BB c0_2; replace c0_3 := cell_later BB c0_3; replace H0 : Hid (b0 < w12.heap.size) := Nat.lt_of_lt_of_le H0.out BB.size; replace c1_0 := cell_later BB c1_0; replace c1_1 := cell_later BB c1_1; replace c1_2 := cell_later BB c1_2; replace c1_3 := cell_later BB c1_3; replace H1 : Hid (b1 < w12.heap.size) := Nat.lt_of_lt_of_le H1.out BB.size; replace c2_0 := cell_later BB c2_0; replace c2_1 := cell_later BB c2_1; replace c2_2 := cell_later BB c2_2; replace c2_3 := cell_later BB c2_3; replace y2_0 := frozen_later BB H2.out y2_0; replace y2_1 := frozen_later BB H2.out y2_1; replace y2_2 := frozen_later BB H2.out y2_2; replace y2_3 := frozen_later BB H2.out y2_3; replace H2 : Hid (b2 < w12.heap.size) := Nat.lt_of_lt_of_le H2.out BB.size; replace c3_0 := cell_later BB c3_0; replace c3_1 := cell_later BB c3_1; replace c3_2 := cell_later BB c3_2; replace c3_3 := cell_later BB c3_3; replace y3_0 := frozen_later BB H3.out y3_0; replace y3_1 := frozen_later BB H3.out y3_1; replace y3_2 := frozen_later BB H3.out y3_2; replace y3_3 := frozen_later BB H3.out y3_3; replace H3 : Hid (b3 < w12.heap.size) := Nat.lt_of_lt_of_le H3.out BB.size; replace B := below_next B BB; clear BB))
  clear Pt
  go_wp2
  go_ret
  exact ⟨rfl, B⟩

end Go.Proofs.Ytikjndmgljkhhaa
