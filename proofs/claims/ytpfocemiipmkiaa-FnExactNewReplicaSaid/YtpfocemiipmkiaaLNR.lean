/- At every two numbers the program's NewReplica answers as its model does, field by field, and owns what it answers: the law FnExactNewReplica is true at every argument, with no condition. -/
import Derived.Test.YtpfocemiipmkiaaRows
import Derived.Test.YtpfocemiipmkiaaWF
import Derived.Test.YtpfocemiipmkiaaWG
namespace Go.Proofs.Ytpfocemiipmkiaa
open Go.RowKit

theorem newRep_none (id size : Int) : (newRep id size).log = [] ∧ (newRep id size).asks = [] ∧ (newRep id size).doers = [] := by
  unfold newRep
  split
  · exact ⟨rfl, rfl, rfl⟩
  · exact ⟨rfl, rfl, rfl⟩
theorem specNewR_z (id size : Int) (w : World) (c : Int) (q : Rep) (hc : newC id size = c) (hq : newRep id size = q) : Calls Try.prog 27 #[.int .i64 id, .int .i64 size] w fun e w' => ∃ z u oa on oc, e = .returned (.agg #[.int .i64 c, .int .i64 q.id, .int .i64 q.size, .int .i64 q.view, .bool q.normal, .int .i64 q.last, .slice none 0 0, .int .i64 q.commit, .slice oa on oc, .slice none 0 0, .slice none 0 0, .slice none 0 0]) ∧ on ≤ 5 ∧ w.heap.size ≤ z ∧ u ≤ w'.heap.size ∧ RowAt w' true z u 1 oa on oc (ints q.oks) ∧ Below w.heap.size w w' :=
  (specNewR_is id size w c q hc hq).mono fun _ _ ⟨oa, on, oc, e1, h5, r, b⟩ => ⟨_, _, oa, on, oc, e1, h5, Nat.le_refl _, Nat.le_refl _, r, b⟩
theorem implNewR_z (id size : Int) (w : World) (c : Int) (q : Rep) (hc : newC id size = c) (hq : newRep id size = q) : Calls Try.prog 28 #[.int .i64 id, .int .i64 size] w fun e w' => ∃ z u oa on oc, e = .returned (.agg #[.int .i64 c, .int .i64 q.id, .int .i64 q.size, .int .i64 q.view, .bool q.normal, .int .i64 q.last, .slice none 0 0, .int .i64 q.commit, .slice oa on oc, .slice none 0 0, .slice none 0 0, .slice none 0 0]) ∧ on ≤ 5 ∧ w.heap.size ≤ z ∧ u ≤ w'.heap.size ∧ RowAt w' true z u 1 oa on oc (ints q.oks) ∧ Below w.heap.size w w' :=
  (implNewR_is id size w c q hc hq).mono fun _ _ ⟨oa, on, oc, e1, h5, r, b⟩ => ⟨_, _, oa, on, oc, e1, h5, Nat.le_refl _, Nat.le_refl _, r, b⟩
set_option maxRecDepth 20000 in
set_option maxHeartbeats 8000000 in
theorem lawNewReplica (id size : Int) (w : World) : Calls Try.prog 6 #[.int .i64 id, .int .i64 size] w fun e w' => e = .returned (.bool true) ∧ Below w.heap.size w w' := by
  obtain ⟨c, hc⟩ : ∃ c, newC id size = c := ⟨_, rfl⟩
  obtain ⟨q, hq⟩ : ∃ q, newRep id size = q := ⟨_, rfl⟩
  have HN := newRep_none id size
  rw [hq] at HN
  obtain ⟨h1, h2, h3⟩ := HN
  have H1 : Hid _ := h1
  have H2 : Hid _ := h2
  have H3 : Hid _ := h3
  have HC : Hid _ := hc
  have HQ : Hid _ := hq
  clear hc hq h1 h2 h3
  go_enter Try.func6, Try.ntmps6
  go_wp2_with fail
  refine (specNewR_z id size _ c q HC.out HQ.out).mono ?_
  rintro e w1 ⟨zp, up, pa, pn, pk, rfl, p5, Gzp, hdP, dP, BB⟩
  have ozp : w.heap.size ≤ zp := Gzp
  clear Gzp
  have B := BB
  clear BB
  have pL : pn ≤ 2097152 := by omega
  go_wp2_with (first | ((with_reducible refine store_midX 38 X0 0 [.int .i64 c, .int .i64 q.id, .int .i64 q.size, .int .i64 q.view, .bool q.normal, .int .i64 q.last, .slice none 0 0, .int .i64 q.commit, .slice pa pn pk, .slice none 0 0, .slice none 0 0, .slice none 0 0] (by simp) (by kernel_rfl) (by simp [Value.oneCell']) rfl rfl ?_); intro V1 S; replace X0 : Bx V1 b0 [.int .i64 c, .int .i64 q.id, .int .i64 q.size, .int .i64 q.view, .bool q.normal, .int .i64 q.last, .slice none 0 0, .int .i64 q.commit, .slice pa pn pk, .slice none 0 0, .slice none 0 0, .slice none 0 0] := S.bx; replace c0 := X0.cell; replace f0 := X0.froz; replace dP := dP.kept S.kept (by omega); replace hdP := Nat.le_trans hdP S.kept.size; replace B := B.trans (S.kept.below _ (by omega) B.size); clear S) | ((with_reducible refine alloc_newX 38 [.int .i64 0, .int .i64 0, .int .i64 0, .int .i64 0, .bool false, .int .i64 0, .slice none 0 0, .int .i64 0, .slice none 0 0, .slice none 0 0, .slice none 0 0, .slice none 0 0] (fun _ => by kernel_rfl) ?_); intro b0 W0 N0; have ob0 : w.heap.size ≤ b0 := Nat.le_trans B.size N0.ge; have odP_b0 : up ≤ b0 := Nat.le_trans hdP N0.ge; replace dP := dP.below N0.below; replace hdP := Nat.le_trans hdP N0.below.size; replace B := below_next B N0.below; have X0 := N0.bx; have c0 := X0.cell; have f0 := X0.froz; clear N0) | fail)
  refine (implNewR_z id size _ c q HC.out HQ.out).mono ?_
  rintro e w2 ⟨zx, ux, xa, xn, xk, rfl, x5, Gzx, hdQ, dQ, BB⟩
  have ozx : w.heap.size ≤ zx := Nat.le_trans B.size Gzx
  have o0_zx : b0 < zx := Nat.lt_of_lt_of_le X0.lt Gzx
  have odP_zx : up ≤ zx := Nat.le_trans hdP Gzx
  clear Gzx
  replace X0 := X0.below BB
  replace c0 := X0.cell
  replace f0 := X0.froz
  replace dP := dP.below BB
  replace hdP := Nat.le_trans hdP BB.size
  replace B := below_next B BB
  clear BB
  have xL : xn ≤ 2097152 := by omega
  go_wp2_with (first | ((with_reducible refine store_midX 38 X1 0 [.int .i64 c, .int .i64 q.id, .int .i64 q.size, .int .i64 q.view, .bool q.normal, .int .i64 q.last, .slice none 0 0, .int .i64 q.commit, .slice xa xn xk, .slice none 0 0, .slice none 0 0, .slice none 0 0] (by simp) (by kernel_rfl) (by simp [Value.oneCell']) rfl rfl ?_); intro V2 S; replace X0 := X0.kept S.kept (by omega); replace c0 := X0.cell; replace f0 := X0.froz; replace X1 : Bx V2 b1 [.int .i64 c, .int .i64 q.id, .int .i64 q.size, .int .i64 q.view, .bool q.normal, .int .i64 q.last, .slice none 0 0, .int .i64 q.commit, .slice xa xn xk, .slice none 0 0, .slice none 0 0, .slice none 0 0] := S.bx; replace c1 := X1.cell; replace f1 := X1.froz; replace dP := dP.kept S.kept (by omega); replace hdP := Nat.le_trans hdP S.kept.size; replace dQ := dQ.kept S.kept (by omega); replace hdQ := Nat.le_trans hdQ S.kept.size; replace B := B.trans (S.kept.below _ (by omega) B.size); clear S) | ((have g := ob0); clear g; (with_reducible refine alloc_newX 38 [.int .i64 0, .int .i64 0, .int .i64 0, .int .i64 0, .bool false, .int .i64 0, .slice none 0 0, .int .i64 0, .slice none 0 0, .slice none 0 0, .slice none 0 0, .slice none 0 0] (fun _ => by kernel_rfl) ?_); intro b1 W1 N1; have ob1 : w.heap.size ≤ b1 := Nat.le_trans B.size N1.ge; have o0_b1 : b0 < b1 := Nat.lt_of_lt_of_le X0.lt N1.ge; have odP_b1 : up ≤ b1 := Nat.le_trans hdP N1.ge; have odQ_b1 : ux ≤ b1 := Nat.le_trans hdQ N1.ge; replace X0 := X0.below N1.below; replace c0 := X0.cell; replace f0 := X0.froz; replace dP := dP.below N1.below; replace hdP := Nat.le_trans hdP N1.below.size; replace dQ := dQ.below N1.below; replace hdQ := Nat.le_trans hdQ N1.below.size; replace B := below_next B N1.below; have X1 := N1.bx; have c1 := X1.cell; have f1 := X1.froz; clear N1) | fail)
  refine (eqRR0_yes c q H1.out H2.out H3.out xa xn xk pa pn pk _ dQ dP xL).mono ?_
  rintro e w3 ⟨rfl, BB⟩
  replace X0 := X0.below BB
  replace c0 := X0.cell
  replace f0 := X0.froz
  replace X1 := X1.below BB
  replace c1 := X1.cell
  replace f1 := X1.froz
  replace dP := dP.below BB
  replace hdP := Nat.le_trans hdP BB.size
  replace dQ := dQ.below BB
  replace hdQ := Nat.le_trans hdQ BB.size
  replace B := below_next B BB
  clear BB
  go_wp2_with fail
  refine (markRR0 c q xa xn xk q.oks _ dQ (by omega) (by omega)).mono ?_
  rintro e w4 ⟨rfl, dM, K⟩
  replace X0 := X0.kept K (by omega)
  replace c0 := X0.cell
  replace f0 := X0.froz
  replace X1 := X1.kept K (by omega)
  replace c1 := X1.cell
  replace f1 := X1.froz
  replace dP := dP.kept K (by omega)
  replace hdP := Nat.le_trans hdP K.size
  replace hdQ := Nat.le_trans hdQ K.size
  replace B := B.trans (K.below _ (by omega) B.size)
  clear K
  clear dQ
  have hdM := hdQ
  clear hdQ
  have hk : ¬ ((1 : Int) + xn < 0) := by omega
  have he : (((1 : Int) + xn) != ((1 : Int) + xn)) = false := by simp
  go_wp2_with fail
  refine (heldRR0 c q xa xn xk _ dM (by omega)).mono ?_
  rintro e w5 ⟨rfl, BB⟩
  replace X0 := X0.below BB
  replace c0 := X0.cell
  replace f0 := X0.froz
  replace X1 := X1.below BB
  replace c1 := X1.cell
  replace f1 := X1.froz
  replace dP := dP.below BB
  replace hdP := Nat.le_trans hdP BB.size
  replace dM := dM.below BB
  replace hdM := Nat.le_trans hdM BB.size
  replace B := below_next B BB
  clear BB
  go_wp2_with fail
  refine (implNewR_z id size _ c q HC.out HQ.out).mono ?_
  rintro e w6 ⟨zy, uy, ya, yn, yk, rfl, y5, Gzy, hdH, dH, BB⟩
  have ozy : w.heap.size ≤ zy := Nat.le_trans B.size Gzy
  have o0_zy : b0 < zy := Nat.lt_of_lt_of_le X0.lt Gzy
  have o1_zy : b1 < zy := Nat.lt_of_lt_of_le X1.lt Gzy
  have odP_zy : up ≤ zy := Nat.le_trans hdP Gzy
  have odM_zy : ux ≤ zy := Nat.le_trans hdM Gzy
  clear Gzy
  replace X0 := X0.below BB
  replace c0 := X0.cell
  replace f0 := X0.froz
  replace X1 := X1.below BB
  replace c1 := X1.cell
  replace f1 := X1.froz
  replace dP := dP.below BB
  replace hdP := Nat.le_trans hdP BB.size
  replace dM := dM.below BB
  replace hdM := Nat.le_trans hdM BB.size
  replace B := below_next B BB
  clear BB
  have yL : yn ≤ 2097152 := by omega
  go_wp2_with (first | ((with_reducible refine store_midX 38 X2 0 [.int .i64 c, .int .i64 q.id, .int .i64 q.size, .int .i64 q.view, .bool q.normal, .int .i64 q.last, .slice none 0 0, .int .i64 q.commit, .slice ya yn yk, .slice none 0 0, .slice none 0 0, .slice none 0 0] (by simp) (by kernel_rfl) (by simp [Value.oneCell']) rfl rfl ?_); intro V3 S; replace X0 := X0.kept S.kept (by omega); replace c0 := X0.cell; replace f0 := X0.froz; replace X1 := X1.kept S.kept (by omega); replace c1 := X1.cell; replace f1 := X1.froz; replace X2 : Bx V3 b2 [.int .i64 c, .int .i64 q.id, .int .i64 q.size, .int .i64 q.view, .bool q.normal, .int .i64 q.last, .slice none 0 0, .int .i64 q.commit, .slice ya yn yk, .slice none 0 0, .slice none 0 0, .slice none 0 0] := S.bx; replace c2 := X2.cell; replace f2 := X2.froz; replace dP := dP.kept S.kept (by omega); replace hdP := Nat.le_trans hdP S.kept.size; replace dM := dM.kept S.kept (by omega); replace hdM := Nat.le_trans hdM S.kept.size; replace dH := dH.kept S.kept (by omega); replace hdH := Nat.le_trans hdH S.kept.size; replace B := B.trans (S.kept.below _ (by omega) B.size); clear S) | ((have g := ob1); clear g; (with_reducible refine alloc_newX 38 [.int .i64 0, .int .i64 0, .int .i64 0, .int .i64 0, .bool false, .int .i64 0, .slice none 0 0, .int .i64 0, .slice none 0 0, .slice none 0 0, .slice none 0 0, .slice none 0 0] (fun _ => by kernel_rfl) ?_); intro b2 W2 N2; have ob2 : w.heap.size ≤ b2 := Nat.le_trans B.size N2.ge; have o0_b2 : b0 < b2 := Nat.lt_of_lt_of_le X0.lt N2.ge; have o1_b2 : b1 < b2 := Nat.lt_of_lt_of_le X1.lt N2.ge; have odP_b2 : up ≤ b2 := Nat.le_trans hdP N2.ge; have odM_b2 : ux ≤ b2 := Nat.le_trans hdM N2.ge; have odH_b2 : uy ≤ b2 := Nat.le_trans hdH N2.ge; replace X0 := X0.below N2.below; replace c0 := X0.cell; replace f0 := X0.froz; replace X1 := X1.below N2.below; replace c1 := X1.cell; replace f1 := X1.froz; replace dP := dP.below N2.below; replace hdP := Nat.le_trans hdP N2.below.size; replace dM := dM.below N2.below; replace hdM := Nat.le_trans hdM N2.below.size; replace dH := dH.below N2.below; replace hdH := Nat.le_trans hdH N2.below.size; replace B := below_next B N2.below; have X2 := N2.bx; have c2 := X2.cell; have f2 := X2.froz; clear N2) | fail)
  refine (eqRR0_yes c q H1.out H2.out H3.out ya yn yk pa pn pk _ dH dP yL).mono ?_
  rintro e w7 ⟨rfl, BB⟩
  replace X0 := X0.below BB
  replace c0 := X0.cell
  replace f0 := X0.froz
  replace X1 := X1.below BB
  replace c1 := X1.cell
  replace f1 := X1.froz
  replace X2 := X2.below BB
  replace c2 := X2.cell
  replace f2 := X2.froz
  replace dP := dP.below BB
  replace hdP := Nat.le_trans hdP BB.size
  replace dM := dM.below BB
  replace hdM := Nat.le_trans hdM BB.size
  replace dH := dH.below BB
  replace hdH := Nat.le_trans hdH BB.size
  replace B := below_next B BB
  clear BB
  go_wp2_with fail
  refine (heldRR0 c q xa xn xk _ dM (by omega)).mono ?_
  rintro e w8 ⟨rfl, BB⟩
  replace X0 := X0.below BB
  replace c0 := X0.cell
  replace f0 := X0.froz
  replace X1 := X1.below BB
  replace c1 := X1.cell
  replace f1 := X1.froz
  replace X2 := X2.below BB
  replace c2 := X2.cell
  replace f2 := X2.froz
  replace dP := dP.below BB
  replace hdP := Nat.le_trans hdP BB.size
  replace dM := dM.below BB
  replace hdM := Nat.le_trans hdM BB.size
  replace dH := dH.below BB
  replace hdH := Nat.le_trans hdH BB.size
  replace B := below_next B BB
  clear BB
  go_wp2
  go_ret
  exact ⟨rfl, B⟩

open Go.ChangeShapes Go.WideShapes Go.ChangeAt Go.Joins

set_option maxRecDepth 100000 in
theorem liftedNewReplica (os : Os) (started : os.Started) (H : Type) (enc : TypeId × Value → H) :
    ReturnsInHanded {} Try.checked os 6 .any (Rows.fnExactNewReplicaSpec.pre6 enc Try.prog Try.f6 Rows.fnExactNewReplicaRow.domain false) (Rows.fnExactNewReplicaSpec.post enc Try.prog Try.f6 false true false false) := by
  refine returnsInHanded_of_change (C := Try.checked) Try.own started (by kernel_rfl) Try.func6
    (ChangeSpec.witness6 (enc := enc) (C := Try.checked) false ⟨#[], #[.int .i64 0, .int .i64 0], []⟩ 8 (by kernel_rfl) (by kernel_rfl) (by kernel_rfl) (by kernel_rfl)) ?_
  intro W base args ds gs before hval0 hW hcnd _
  have hval : ∀ (j : Nat) t v, Try.f6.params[j]? = some t → args[j]? = some v → Value.okWide Try.prog W .any base t v := hval0
  have hW' := hW
  obtain ⟨p, q, hA0, hV, rfl, hfz, hnd⟩ := hW
  have hA : DataW.TrodAll enc Try.prog W 0 (fun _ => true) true Try.f6.params.toList args.toList ds p := hA0
  rw [Try.params6] at hA hval
  obtain ⟨v0, vs0, d0, ds0, p0, q0, hargs, rfl, rfl, h0, r0⟩ := trodAll_cons hA
  obtain ⟨v1, vs1, d1, ds1, p1, q1, rfl, rfl, rfl, h1, r1⟩ := trodAll_cons r0
  obtain ⟨rfl, rfl, rfl⟩ := trodAll_nil r1
  obtain rfl : args = #[v0, v1] := by cases args; simp_all
  obtain ⟨rfl, rfl⟩ := trodVars_none hV
  obtain ⟨x0, rfl, rfl, rfl, wx0⟩ := open_int Try.underlying2 (hval 0 2 v0 rfl rfl) h0
  obtain ⟨x1, rfl, rfl, rfl, wx1⟩ := open_int Try.underlying2 (hval 1 2 v1 rfl rfl) h1
  clear hA0 hval0
  refine (lawNewReplica x0 x1 W).mono fun e W' ⟨he, bel⟩ => ?_
  subst he
  exact ⟨_, rfl, _, _, _, [], _, [], hW', trodAll_mk1 (shut_bool Try.underlying4 _), (trodAll_cons_mk (shut_int Try.underlying2 wx0) (trodAll_cons_mk (shut_int Try.underlying2 wx1) trodAll_mk0)), rfl, bel.frame _, fun h => by cases h⟩

set_option maxRecDepth 100000 in
set_option maxHeartbeats 0 in
theorem closedNewReplica : joinedFacts Try.prog 6 Try.f6 Rows.fnExactNewReplicaSpec Rows.fnExactNewReplicaRow = true := by
  have q1 : (Rows.fnExactNewReplicaRow.inPlace == Try.prog.inPlace 6) = true := by rw [inPlace_at leads_is inp_is]; kernel_rfl
  have q2 : (Rows.fnExactNewReplicaRow.unfollowed == Try.prog.unfollowed 6) = true := by rw [unfollowed_at leads_is unf_is]; kernel_rfl
  have q3 : (Rows.fnExactNewReplicaRow.recurses == Try.prog.recurses 6) = true := (by rw [recurses_no leads_is (by rw [unfollowed_at leads_is unf_is]; kernel_rfl) ranks_ok (by kernel_rfl)]; rfl)
  have q4 : (Rows.fnExactNewReplicaRow.named == Try.prog.varsNamed 6) = true := by rw [varsNamed_at leads_is var_ok ent_is]; kernel_rfl
  have q5 : (Try.prog.make == some Rows.fnExactNewReplicaRow.make) = true := by rw [made_cut]; rfl
  have q6 : (Rows.fnExactNewReplicaRow.lifted == Try.prog.liftsFinal) = true := by rw [lifts_no]; rfl
  have q7 : Try.prog.mayEnter = true := may_enter
  have q8 : laidOutB Try.prog = true := Try.laidOut
  unfold joinedFacts
  repeat' (with_reducible refine Bool.and_eq_true_iff.2 ⟨?_, ?_⟩)
  all_goals (first | with_reducible exact q1 | with_reducible exact q2 | with_reducible exact q3 | with_reducible exact q4 | with_reducible exact q5 | with_reducible exact q6 | with_reducible exact q7 | with_reducible exact q8 | (as_aux_lemma => kernel_rfl))

theorem newReplica_holds : Rows.FnExactNewReplicaSaid :=
  OpenClaim.holds_of_wide 6 Try.f6 rfl rfl rfl rfl rfl rfl rfl ⟨rfl, rfl, rfl, rfl, rfl⟩ rfl rfl rfl rfl rfl (by as_aux_lemma => kernel_rfl) Try.func6 closedNewReplica
    (of_decide_eq_true (by as_aux_lemma => kernel_rfl)) (by unfold Func.isWrapper; first | (rw [if_pos (by decide +kernel)]; kernel_rfl) | (rw [if_neg (by decide +kernel)]; exact ⟨rfl, rfl⟩))
    (fun os started H enc _ => liftedNewReplica os started H enc)

#print axioms newReplica_holds

end Go.Proofs.Ytpfocemiipmkiaa
