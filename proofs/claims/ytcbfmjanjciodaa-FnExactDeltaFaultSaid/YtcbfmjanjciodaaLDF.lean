/- At every difference the program's DeltaFault answers as its model does and writes into no argument: the law FnExactDeltaFault is true at every argument, with no condition. -/
import Derived.Test.YtcbfmjanjciodaaEX
import Derived.Test.YtcbfmjanjciodaaRows
import Derived.Test.YtcbfmjanjciodaaYQ
import Derived.Test.YtcbfmjanjciodaaYO
namespace Go.Proofs.Ytcbfmjanjciodaa
open Go.RowKit

set_option maxRecDepth 20000 in
set_option maxHeartbeats 8000000 in
theorem lawDeltaFault {o : Bool} (fr tt : Int) (av : Option Addr) (nv cv : Nat) (aq : Option Addr) (nq cq : Nat) (vs : List Vo) (ss : List St) (w : World) (h : DeAt w o 0 w.heap.size av nv cv aq nq cq vs ss) (z1 : nv ≤ maxLen) (z2 : nq ≤ maxLen) :
    Calls Try.prog 8 #[.agg #[.int .i64 fr, .int .i64 tt, .slice av nv cv, .slice aq nq cq]] w fun e w' => e = .returned (.bool true) ∧ Below w.heap.size w w' := by
  obtain ⟨cd, hcd⟩ : ∃ cd, deFault fr tt vs ss = cd := ⟨_, rfl⟩
  have Hcd : Hid _ := hcd
  clear hcd
  go_enter Try.func8, Try.ntmps8
  go_wp2_with (first | ((with_reducible refine box_new 73 #[.int .i64 fr, .int .i64 tt, .slice av nv cv, .slice aq nq cq] rfl ?_); intro b0 W0 N0; have O0 : Hid (w.heap.size ≤ b0) := N0.ge; have B := N0.below; have H0 : Hid (b0 < W0.heap.size) := N0.lt; have c0_0 : W0.cell? ⟨b0, 0, none⟩ = some (.int .i64 fr) := N0.cell 0 _ rfl; have c0_1 : W0.cell? ⟨b0, 1, none⟩ = some (.int .i64 tt) := N0.cell 1 _ rfl; have c0_2 : W0.cell? ⟨b0, 2, none⟩ = some (.slice av nv cv) := N0.cell 2 _ rfl; have c0_3 : W0.cell? ⟨b0, 3, none⟩ = some (.slice aq nq cq) := N0.cell 3 _ rfl; clear N0) | fail)
  refine (szDelta_left fr tt av nv cv aq nq cq 1048576 _ z1 z2 (by omega) (by omega)).mono ?_
  rintro e ws0 ⟨r0, rfl, BB, hr⟩
  replace c0_0 := cell_later BB c0_0
  replace c0_1 := cell_later BB c0_1
  replace c0_2 := cell_later BB c0_2
  replace c0_3 := cell_later BB c0_3
  replace H0 : Hid (b0 < ws0.heap.size) := Nat.lt_of_lt_of_le H0.out BB.size
  replace B := below_next B BB
  clear BB
  rcases hr with hr | ⟨hr, hsz0⟩
  · go_wp2
    go_ret
    exact ⟨rfl, B⟩
  have hr0 : ¬ r0 < 0 := by omega
  have _ := hr
  have q1 : nv ≤ 1048576 := by omega
  have q2 : nq ≤ 1048576 := by omega
  have p1 : nv ≤ 2097152 := by omega
  have p2 : nq ≤ 2097152 := by omega
  clear hsz0
  go_wp2_with fail
  refine (toDelta_any fr tt av nv cv aq nq cq vs ss _ (h.below B) q1 q2).mono ?_
  rintro e w3 ⟨ta, tb, tc, td, rfl, Pt, BB⟩
  replace c0_0 := cell_later BB c0_0
  replace c0_1 := cell_later BB c0_1
  replace c0_2 := cell_later BB c0_2
  replace c0_3 := cell_later BB c0_3
  replace H0 : Hid (b0 < w3.heap.size) := Nat.lt_of_lt_of_le H0.out BB.size
  replace B := below_next B BB
  clear BB
  go_wp2_with fail
  refine (specDF_is fr tt ta nv tb tc nq td vs ss _ Pt p1 p2 cd Hcd.out).mono ?_
  rintro e w4 ⟨rfl, BB⟩
  replace Pt := Pt.below BB
  replace c0_0 := cell_later BB c0_0
  replace c0_1 := cell_later BB c0_1
  replace c0_2 := cell_later BB c0_2
  replace c0_3 := cell_later BB c0_3
  replace H0 : Hid (b0 < w4.heap.size) := Nat.lt_of_lt_of_le H0.out BB.size
  replace B := below_next B BB
  clear BB
  clear Pt
  go_wp2_with fail
  refine (toDelta_any fr tt av nv cv aq nq cq vs ss _ (h.below B) q1 q2).mono ?_
  rintro e w6 ⟨xa, xb, xc, xd, rfl, Px, BB⟩
  replace c0_0 := cell_later BB c0_0
  replace c0_1 := cell_later BB c0_1
  replace c0_2 := cell_later BB c0_2
  replace c0_3 := cell_later BB c0_3
  replace H0 : Hid (b0 < w6.heap.size) := Nat.lt_of_lt_of_le H0.out BB.size
  replace B := below_next B BB
  clear BB
  go_wp2_with (first | ((with_reducible refine alloc_new 78 #[.int .i64 0, .int .i64 0, .slice none 0 0, .slice none 0 0] (fun _ => by kernel_rfl) ?_); intro b1 W1 N1; have O1 : Hid (b0 < b1) := Nat.lt_of_lt_of_le H0.out N1.ge; replace c0_0 := cell_later N1.below c0_0; replace c0_1 := cell_later N1.below c0_1; replace c0_2 := cell_later N1.below c0_2; replace c0_3 := cell_later N1.below c0_3; replace H0 : Hid (b0 < W1.heap.size) := Nat.lt_of_lt_of_le H0.out N1.below.size; replace B := below_next B N1.below; have H1 : Hid (b1 < W1.heap.size) := N1.lt; have c1_0 : W1.cell? ⟨b1, 0, none⟩ = some (.int .i64 0) := N1.cell 0 _ rfl; have c1_1 : W1.cell? ⟨b1, 1, none⟩ = some (.int .i64 0) := N1.cell 1 _ rfl; have c1_2 : W1.cell? ⟨b1, 2, none⟩ = some (.slice none 0 0) := N1.cell 2 _ rfl; have c1_3 : W1.cell? ⟨b1, 3, none⟩ = some (.slice none 0 0) := N1.cell 3 _ rfl; have y1_0 : W1.frozen? ⟨b1, 0, none⟩ = false := N1.froz 0; have y1_1 : W1.frozen? ⟨b1, 1, none⟩ = false := N1.froz 1; have y1_2 : W1.frozen? ⟨b1, 2, none⟩ = false := N1.froz 2; have y1_3 : W1.frozen? ⟨b1, 3, none⟩ = false := N1.froz 3; replace Px := Px.below N1.below; have HP : Hid (w6.heap.size ≤ b1) := N1.ge; clear N1) | ((with_reducible refine store_box 78 b1 [.int .i64 fr, .int .i64 tt, .slice xa nv xb, .slice xc nq xd] (by simp) (there4 c1_0 c1_1 c1_2 c1_3 y1_0 y1_1 y1_2 y1_3) (by kernel_rfl) (by simp [Value.oneCell']) rfl rfl ?_); intro W1s S1; replace c0_0 := S1.at c0_0 (by have q1 := O1.out; omega); replace c0_1 := S1.at c0_1 (by have q1 := O1.out; omega); replace c0_2 := S1.at c0_2 (by have q1 := O1.out; omega); replace c0_3 := S1.at c0_3 (by have q1 := O1.out; omega); replace H0 : Hid (b0 < W1s.heap.size) := Nat.lt_of_lt_of_le H0.out S1.kept.size; replace c1_0 : W1s.cell? ⟨b1, 0, none⟩ = some (.int .i64 fr) := S1.cell 0 _ rfl; replace c1_1 : W1s.cell? ⟨b1, 1, none⟩ = some (.int .i64 tt) := S1.cell 1 _ rfl; replace c1_2 : W1s.cell? ⟨b1, 2, none⟩ = some (.slice xa nv xb) := S1.cell 2 _ rfl; replace c1_3 : W1s.cell? ⟨b1, 3, none⟩ = some (.slice xc nq xd) := S1.cell 3 _ rfl; replace y1_0 := S1.fr y1_0; replace y1_1 := S1.fr y1_1; replace y1_2 := S1.fr y1_2; replace y1_3 := S1.fr y1_3; replace H1 : Hid (b1 < W1s.heap.size) := Nat.lt_of_lt_of_le H1.out S1.kept.size; replace B := B.trans (S1.kept.below _ (Nat.le_trans O0.out (by have q1 := O1.out; omega)) B.size); replace Px := Px.keptP S1.kept (Or.inl HP.out); clear S1) | fail)
  refine (implDF_is fr tt xa nv xb xc nq xd vs ss _ Px p1 p2 cd Hcd.out).mono ?_
  rintro e w8 ⟨rfl, BB⟩
  replace Px := Px.below BB
  replace c0_0 := cell_later BB c0_0
  replace c0_1 := cell_later BB c0_1
  replace c0_2 := cell_later BB c0_2
  replace c0_3 := cell_later BB c0_3
  replace H0 : Hid (b0 < w8.heap.size) := Nat.lt_of_lt_of_le H0.out BB.size
  replace c1_0 := cell_later BB c1_0
  replace c1_1 := cell_later BB c1_1
  replace c1_2 := cell_later BB c1_2
  replace c1_3 := cell_later BB c1_3
  replace y1_0 := frozen_later BB H1.out y1_0
  replace y1_1 := frozen_later BB H1.out y1_1
  replace y1_2 := frozen_later BB H1.out y1_2
  replace y1_3 := frozen_later BB H1.out y1_3
  replace H1 : Hid (b1 < w8.heap.size) := Nat.lt_of_lt_of_le H1.out BB.size
  replace B := below_next B BB
  clear BB
  have hcc : (cd != cd) = false := by simp
  go_wp2_with fail
  have D : Below w8.heap.size w8 w8.drew := (Below.refl _ _).drew
  replace Px := Px.below D
  replace c0_0 := cell_later D c0_0
  replace c0_1 := cell_later D c0_1
  replace c0_2 := cell_later D c0_2
  replace c0_3 := cell_later D c0_3
  replace H0 : Hid (b0 < w8.drew.heap.size) := Nat.lt_of_lt_of_le H0.out D.size
  replace c1_0 := cell_later D c1_0
  replace c1_1 := cell_later D c1_1
  replace c1_2 := cell_later D c1_2
  replace c1_3 := cell_later D c1_3
  replace y1_0 := frozen_later D H1.out y1_0
  replace y1_1 := frozen_later D H1.out y1_1
  replace y1_2 := frozen_later D H1.out y1_2
  replace y1_3 := frozen_later D H1.out y1_3
  replace H1 : Hid (b1 < w8.drew.heap.size) := Nat.lt_of_lt_of_le H1.out D.size
  replace B := below_next B D
  clear D
  go_region_held3 (fun w' => w'.cell? ⟨b1, 0, none⟩ = some (.int .i64 fr) ∧ w'.cell? ⟨b1, 1, none⟩ = some (.int .i64 tt) ∧ w'.cell? ⟨b1, 2, none⟩ = some (.slice xa nv xb) ∧ w'.cell? ⟨b1, 3, none⟩ = some (.slice xc nq xd) ∧ w'.cell? ⟨b0, 0, none⟩ = some (.int .i64 fr) ∧ w'.cell? ⟨b0, 1, none⟩ = some (.int .i64 tt) ∧ w'.cell? ⟨b0, 2, none⟩ = some (.slice av nv cv) ∧ w'.cell? ⟨b0, 3, none⟩ = some (.slice aq nq cq)) (with_reducible exact ⟨c1_0, c1_1, c1_2, c1_3, c0_0, c0_1, c0_2, c0_3⟩)
    (first | (go_at_call 39; (with_reducible refine (toDelta_any fr tt av nv cv aq nq cq vs ss _ (h.below B) q1 q2).mono ?_); rintro e w10 ⟨ua, ub, uc, ud, rfl, Pu, BB⟩; replace Px := Px.below BB; replace c0_0 := cell_later BB c0_0; replace c0_1 := cell_later BB c0_1; replace c0_2 := cell_later BB c0_2; replace c0_3 := cell_later BB c0_3; replace H0 : Hid (b0 < w10.heap.size) := Nat.lt_of_lt_of_le H0.out BB.size; replace c1_0 := cell_later BB c1_0; replace c1_1 := cell_later BB c1_1; replace c1_2 := cell_later BB c1_2; replace c1_3 := cell_later BB c1_3; replace y1_0 := frozen_later BB H1.out y1_0; replace y1_1 := frozen_later BB H1.out y1_1; replace y1_2 := frozen_later BB H1.out y1_2; replace y1_3 := frozen_later BB H1.out y1_3; replace H1 : Hid (b1 < w10.heap.size) := Nat.lt_of_lt_of_le H1.out BB.size; replace B := below_next B BB; clear BB) | (go_at_call 41; (with_reducible refine (eqDelta_yes fr tt xa nv xb xc nq xd vs ss _ Px ua ub uc ud Pu p1 p2).mono ?_); rintro e w11 ⟨rfl, BB⟩; replace Px := Px.below BB; replace Pu := Pu.below BB; replace c0_0 := cell_later BB c0_0; replace c0_1 := cell_later BB c0_1; replace c0_2 := cell_later BB c0_2; replace c0_3 := cell_later BB c0_3; replace H0 : Hid (b0 < w11.heap.size) := Nat.lt_of_lt_of_le H0.out BB.size; replace c1_0 := cell_later BB c1_0; replace c1_1 := cell_later BB c1_1; replace c1_2 := cell_later BB c1_2; replace c1_3 := cell_later BB c1_3; replace y1_0 := frozen_later BB H1.out y1_0; replace y1_1 := frozen_later BB H1.out y1_1; replace y1_2 := frozen_later BB H1.out y1_2; replace y1_3 := frozen_later BB H1.out y1_3; replace H1 : Hid (b1 < w11.heap.size) := Nat.lt_of_lt_of_le H1.out BB.size; replace B := below_next B BB; clear BB))
  go_wp2
  go_ret
  exact ⟨rfl, B⟩

open Go.ChangeShapes Go.WideShapes Go.ChangeAt Go.Joins

set_option maxRecDepth 100000 in
theorem liftedDeltaFault (os : Os) (started : os.Started) (H : Type) (enc : TypeId × Value → H) :
    ReturnsInHanded {} Try.checked os 8 .any (Rows.fnExactDeltaFaultSpec.pre6 enc Try.prog Try.f8 Rows.fnExactDeltaFaultRow.domain false) (Rows.fnExactDeltaFaultSpec.post enc Try.prog Try.f8 false true false false) := by
  refine returnsInHanded_of_change (C := Try.checked) Try.own started (by kernel_rfl) Try.func8
    (ChangeSpec.witness6 (enc := enc) (C := Try.checked) false ⟨#[], #[.agg #[.int .i64 0, .int .i64 0, .slice none 0 0, .slice none 0 0]], []⟩ 8 (by kernel_rfl) (by kernel_rfl) (by kernel_rfl) (by kernel_rfl)) ?_
  intro W base args ds gs before hval0 hW hcnd _
  have hval : ∀ (j : Nat) t v, Try.f8.params[j]? = some t → args[j]? = some v → Value.okWide Try.prog W .any base t v := hval0
  have hW' := hW
  obtain ⟨p, q, hA0, hV, rfl, hfz, hnd⟩ := hW
  have hA : DataW.TrodAll enc Try.prog W 0 (fun _ => true) true Try.f8.params.toList args.toList ds p := hA0
  rw [Try.params8] at hA hval
  obtain ⟨v0, vs0, d0, ds0, p0, q0, hargs, rfl, rfl, h0, r0⟩ := trodAll_cons hA
  obtain ⟨rfl, rfl, rfl⟩ := trodAll_nil r0
  obtain rfl : args = #[v0] := by cases args; simp_all
  obtain ⟨rfl, rfl⟩ := trodVars_none hV
  have lt0 : ∀ x ∈ p0, x.block < W.heap.size := by obtain ⟨m, hm⟩ := h0; exact DataW.trod_lt m _ _ _ hm
  have k0 := h0
  obtain ⟨e0d, e1d, e2d, e3d, y0d, y1d, y2d, y3d, mmd, rfl, _, _, hy0d, hy1d, hy2d, hy3d⟩ := open_agg4 Try.underlying73 (by kernel_rfl) Try.cellsDelta (hval 0 73 v0 rfl rfl) h0
  obtain ⟨fr, hq0d, _, _⟩ := DataW.trod_int Try.underlying2 hy0d
  simp only [List.cons.injEq, and_true] at hq0d
  subst hq0d
  obtain ⟨tt, hq1d, _, _⟩ := DataW.trod_int Try.underlying2 hy1d
  simp only [List.cons.injEq, and_true] at hq1d
  subst hq1d
  obtain ⟨avd, nvd, cvd, vsd, rfl, hvfd, svd⟩ := read_vols Try.underlying26 Try.underlying181 Try.cellsVol rfl rfl rfl Try.underlying2 Try.underlying2 Try.underlying2 Try.cellsInt Try.cellsInt Try.cellsInt hy2d
  obtain ⟨aqd, nqd, cqd, ssd, rfl, hsfd, ssq⟩ := read_steps Try.underlying71 Try.underlying218 Try.cellsStep rfl rfl rfl rfl Try.underlying4 Try.underlying2 Try.underlying2 Try.underlying2 Try.cellsBool Try.cellsInt Try.cellsInt Try.cellsInt hy3d
  have sd : DeAt W false 0 W.heap.size avd nvd cvd aqd nqd cqd vsd ssd := ⟨svd, ssq⟩
  clear hA0 hval0
  refine (lawDeltaFault _ _ _ _ _ _ _ _ vsd ssd W sd hvfd hsfd).mono fun e W' ⟨he, bel⟩ => ?_
  subst he
  exact ⟨_, rfl, _, _, _, [], _, [], hW', trodAll_mk1 (shut_bool Try.underlying4 _), (trodAll_cons_mk (Below.trod Try.laidOut (by kernel_rfl) (of_decide_eq_true (by kernel_rfl)) k0 bel lt0) trodAll_mk0), rfl, bel.frame _, fun h => by cases h⟩

set_option maxRecDepth 100000 in
set_option maxHeartbeats 0 in
theorem closedDeltaFault : joinedFacts Try.prog 8 Try.f8 Rows.fnExactDeltaFaultSpec Rows.fnExactDeltaFaultRow = true := by
  have q1 : (Rows.fnExactDeltaFaultRow.inPlace == Try.prog.inPlace 8) = true := by rw [inPlace_at leads_is inp_is]; kernel_rfl
  have q2 : (Rows.fnExactDeltaFaultRow.unfollowed == Try.prog.unfollowed 8) = true := by rw [unfollowed_at leads_is unf_is]; kernel_rfl
  have q3 : (Rows.fnExactDeltaFaultRow.recurses == Try.prog.recurses 8) = true := (by rw [recurses_no leads_is (by rw [unfollowed_at leads_is unf_is]; kernel_rfl) ranks_ok (by kernel_rfl)]; rfl)
  have q4 : (Rows.fnExactDeltaFaultRow.named == Try.prog.varsNamed 8) = true := by rw [varsNamed_at leads_is var_ok ent_is]; kernel_rfl
  have q5 : (Try.prog.make == some Rows.fnExactDeltaFaultRow.make) = true := by rw [made_cut]; rfl
  have q6 : (Rows.fnExactDeltaFaultRow.lifted == Try.prog.liftsFinal) = true := by rw [lifts_no]; rfl
  have q7 : Try.prog.mayEnter = true := may_enter
  have q8 : laidOutB Try.prog = true := Try.laidOut
  unfold joinedFacts
  repeat' (with_reducible refine Bool.and_eq_true_iff.2 ⟨?_, ?_⟩)
  all_goals (first | with_reducible exact q1 | with_reducible exact q2 | with_reducible exact q3 | with_reducible exact q4 | with_reducible exact q5 | with_reducible exact q6 | with_reducible exact q7 | with_reducible exact q8 | (as_aux_lemma => kernel_rfl))

theorem deltaFault_holds : Rows.FnExactDeltaFaultSaid :=
  OpenClaim.holds_of_wide 8 Try.f8 rfl rfl rfl rfl rfl rfl rfl ⟨rfl, rfl, rfl, rfl, rfl⟩ rfl rfl rfl rfl rfl (by as_aux_lemma => kernel_rfl) Try.func8 closedDeltaFault
    (of_decide_eq_true (by as_aux_lemma => kernel_rfl)) (by unfold Func.isWrapper; first | (rw [if_pos (by decide +kernel)]; kernel_rfl) | (rw [if_neg (by decide +kernel)]; exact ⟨rfl, rfl⟩))
    (fun os started H enc _ => liftedDeltaFault os started H enc)

#print axioms deltaFault_holds

end Go.Proofs.Ytcbfmjanjciodaa
