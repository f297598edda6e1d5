/- At every machine the program's MachineFault answers as its model does and writes into no argument: the law FnExactMachineFault is true at every argument, with no condition. -/
import Derived.Test.YtedgppggaceopaaRows
import Derived.Test.YtedgppggaceopaaMS4
import Derived.Test.YtedgppggaceopaaMS5
import Derived.Test.YtedgppggaceopaaRowM
namespace Go.Proofs.Ytedgppggaceopaa
open Go.RowKit

set_option maxRecDepth 20000 in
set_option maxHeartbeats 16000000 in
theorem lawMachineFault {own : Bool} (h : MacH) (m : Mac) (w : World) (x : MacAt w own 0 w.heap.size h m) (hn : h.N.2.1 ≤ maxLen) (hb : h.B.2.1 ≤ maxLen) (hK : ∀ i, i < h.N.2.1 → (h.K i).2.1 ≤ maxLen) (hv : h.V.2.1 ≤ maxLen) (hs : h.S.2.1 ≤ maxLen) : Calls Try.prog 3 #[.agg #[.slice h.N.1 h.N.2.1 h.N.2.2, .slice h.B.1 h.B.2.1 h.B.2.2, .slice h.V.1 h.V.2.1 h.V.2.2, .slice h.S.1 h.S.2.1 h.S.2.2]] w fun e w' => e = .returned (.bool true) ∧ Below w.heap.size w w' := by
  obtain ⟨cd, hcd⟩ : ∃ cd, mcF m = cd := ⟨_, rfl⟩
  have HC : Hid _ := hcd
  clear hcd
  have hd : (cd != cd) = false := by simp
  go_enter Try.func3, Try.ntmps3
  go_wp2_with (first | ((with_reducible refine box_newX 31 [.slice h.N.1 h.N.2.1 h.N.2.2, .slice h.B.1 h.B.2.1 h.B.2.2, .slice h.V.1 h.V.2.1 h.V.2.2, .slice h.S.1 h.S.2.1 h.S.2.2] rfl ?_); intro b0 W0 N0; have ob0 : w.heap.size ≤ b0 := N0.ge; have B := N0.below; have X0 := N0.bx; have c0 := X0.cell; clear N0) | fail)
  refine (szMachine_lt h m _ (x.below B) hn hb hK hv hs 1048576 (by omega) (by omega)).mono ?_
  rintro e w1 ⟨q, rfl, BB, hq⟩
  replace X0 := X0.below BB
  replace c0 := X0.cell
  replace B := below_next B BB
  clear BB
  rcases hq with hq | ⟨hq0, hq1, hz⟩
  · go_wp2
    go_ret
    exact ⟨rfl, B⟩
  have HZ : Hid _ := hz
  have hq' : ¬ q < 0 := by omega
  clear hz hq0 hq1
  go_wp2_with fail
  refine (toMachine_any h m _ (x.below B) HZ.out).mono ?_
  rintro e w2 ⟨z1, u1, h1, rfl, _, _, y1, z1', BB⟩
  replace X0 := X0.below BB
  replace c0 := X0.cell
  replace B := below_next B BB
  clear BB
  go_wp2_with fail
  refine (specMcF_is h1 m _ y1 z1' cd HC.out).mono ?_
  rintro e w3 ⟨rfl, BB⟩
  replace X0 := X0.below BB
  replace c0 := X0.cell
  replace B := below_next B BB
  clear BB
  clear y1 z1'
  go_wp2_with fail
  refine (toMachine_any h m _ (x.below B) HZ.out).mono ?_
  rintro e w4 ⟨zY, uY, h2, rfl, GzY, hy1, y1, z1', BB⟩
  have ozY : w.heap.size ≤ zY := Nat.le_trans B.size GzY
  have o0_zY : b0 < zY := Nat.lt_of_lt_of_le X0.lt GzY
  clear GzY
  replace X0 := X0.below BB
  replace c0 := X0.cell
  replace B := below_next B BB
  have HZ2 : Hid _ := z1'
  clear z1'
  clear BB
  go_wp2_with (first | ((with_reducible refine store_midX 43 X1 0 [.slice h2.N.1 h2.N.2.1 h2.N.2.2, .slice h2.B.1 h2.B.2.1 h2.B.2.2, .slice h2.V.1 h2.V.2.1 h2.V.2.2, .slice h2.S.1 h2.S.2.1 h2.S.2.2] (by simp) (by kernel_rfl) (by simp [Value.oneCell']) rfl rfl ?_); intro V1 S; replace X0 := X0.kept S.kept (by omega); replace c0 := X0.cell; replace X1 : Bx V1 b1 [.slice h2.N.1 h2.N.2.1 h2.N.2.2, .slice h2.B.1 h2.B.2.1 h2.B.2.2, .slice h2.V.1 h2.V.2.1 h2.V.2.2, .slice h2.S.1 h2.S.2.1 h2.S.2.2] := S.bx; replace c1 := X1.cell; replace f1 := X1.froz; replace y1 := y1.kept S.kept (by omega); replace hy1 := Nat.le_trans hy1 S.kept.size; replace B := B.trans (S.kept.below _ (by omega) B.size); clear S) | ((have g := ob0); clear g; (with_reducible refine alloc_newX 43 [.slice none 0 0, .slice none 0 0, .slice none 0 0, .slice none 0 0] (fun _ => by kernel_rfl) ?_); intro b1 W1 N1; have ob1 : w.heap.size ≤ b1 := Nat.le_trans B.size N1.ge; have o0_b1 : b0 < b1 := Nat.lt_of_lt_of_le X0.lt N1.ge; have oy1_b1 : uY ≤ b1 := Nat.le_trans hy1 N1.ge; replace X0 := X0.below N1.below; replace c0 := X0.cell; replace y1 := y1.below N1.below; replace hy1 := Nat.le_trans hy1 N1.below.size; replace B := below_next B N1.below; have X1 := N1.bx; have c1 := X1.cell; have f1 := X1.froz; clear N1) | fail)
  refine (implMcF_is h2 m _ y1 HZ2.out cd HC.out).mono ?_
  rintro e w5 ⟨rfl, BB⟩
  replace X0 := X0.below BB
  replace c0 := X0.cell
  replace X1 := X1.below BB
  replace c1 := X1.cell
  replace f1 := X1.froz
  replace y1 := y1.below BB
  replace hy1 := Nat.le_trans hy1 BB.size
  replace B := below_next B BB
  clear BB
  go_wp2_with fail
  have DQ : Below w5.heap.size w5 w5.drew := (Below.refl _ _).drew
  replace X0 := X0.below DQ
  replace c0 := X0.cell
  replace X1 := X1.below DQ
  replace c1 := X1.cell
  replace f1 := X1.froz
  replace y1 := y1.below DQ
  replace hy1 := Nat.le_trans hy1 DQ.size
  replace B := below_next B DQ
  clear DQ
  refine wp_region_held_drew (S := (fun w' => (∀ k : Nat, w'.cell? ⟨b0, k, none⟩ = [.slice h.N.1 h.N.2.1 h.N.2.2, .slice h.B.1 h.B.2.1 h.B.2.2, .slice h.V.1 h.V.2.1 h.V.2.2, .slice h.S.1 h.S.2.1 h.S.2.2][k]?) ∧ (∀ k : Nat, w'.cell? ⟨b1, k, none⟩ = [.slice h2.N.1 h2.N.2.1 h2.N.2.2, .slice h2.B.1 h2.B.2.1 h2.B.2.2, .slice h2.V.1 h2.V.2.1 h2.V.2.2, .slice h2.S.1 h2.S.2.1 h2.S.2.2][k]?))) (by kernel_rfl) ⟨c0, c1⟩ (fun hHeld => ?_)
  refine wpAnyH_take (i := 0) (v := ?_) rfl (by kernel_rfl) (by kernel_rfl) (by kernel_rfl) (fun _ _ _ h => h) (Or.inl ⟨by rfl, ?_⟩) hHeld ?_
  rotate_left 1
  · intro w hSw
    try dsimp only at hSw
    first | (go_simp; done) | (go_simp; with_reducible rfl)
  simp only [Act.put, List.setIfInBounds_toArray, List.set_cons_zero, List.set_cons_succ, List.getElem_toArray, List.getElem_cons_zero]
  refine wpAnyH_take (i := 1) (v := ?_) rfl (by kernel_rfl) (by kernel_rfl) (by kernel_rfl) (fun _ _ _ h => h) (Or.inl ⟨by rfl, ?_⟩) hHeld ?_
  rotate_left 1
  · intro w hSw
    try dsimp only at hSw
    first | (go_simp; done) | (go_simp; with_reducible rfl)
  simp only [Act.put, List.setIfInBounds_toArray, List.set_cons_zero, List.set_cons_succ, List.getElem_toArray, List.getElem_cons_zero, List.getElem_cons_succ]
  refine wpAnyH_ready (rs := [2]) (by kernel_rfl) (by simp) ?_
  refine AllReadyH.cons rfl (fun KK hKK => ?_) AllReadyH.nil
  go_simp
  go_at_call 9
  refine (toMachine_any h m _ (x.below B) HZ.out).mono ?_
  rintro e v1 ⟨z9, u9, h9, rfl, _, _, y9, _, BB⟩
  replace X0 := X0.below BB
  replace c0 := X0.cell
  replace X1 := X1.below BB
  replace c1 := X1.cell
  replace f1 := X1.froz
  replace y1 := y1.below BB
  replace hy1 := Nat.le_trans hy1 BB.size
  replace B := below_next B BB
  clear BB
  clear hHeld
  refine hKK _ _ ⟨c0, c1⟩ (fun hHeld => ?_)
  clear hKK KK
  refine wpAnyH_ready (rs := [3]) (by kernel_rfl) (by simp) ?_
  refine AllReadyH.cons rfl (fun KK hKK => ?_) AllReadyH.nil
  go_simp
  go_at_call 11
  refine (eqMachine_yes h2 h9 m _ y1 y9 (HZ2.out.mono (by omega))).mono ?_
  rintro e v2 ⟨rfl, BB⟩
  replace X0 := X0.below BB
  replace c0 := X0.cell
  replace X1 := X1.below BB
  replace c1 := X1.cell
  replace f1 := X1.froz
  replace y1 := y1.below BB
  replace hy1 := Nat.le_trans hy1 BB.size
  replace B := below_next B BB
  clear BB
  clear hHeld
  refine hKK _ _ ⟨c0, c1⟩ (fun hHeld => ?_)
  clear hKK KK
  refine wpAnyH_take (i := 4) (v := ?_) rfl (by kernel_rfl) (by kernel_rfl) (by kernel_rfl) (fun _ _ _ h => h) (Or.inl ⟨by rfl, ?_⟩) hHeld ?_
  rotate_left 1
  · intro w hSw
    try dsimp only at hSw
    first | (go_simp; done) | (go_simp; with_reducible rfl)
  simp only [Act.put, List.setIfInBounds_toArray, List.set_cons_zero, List.set_cons_succ, List.getElem_toArray, List.getElem_cons_zero, List.getElem_cons_succ]
  refine wpAnyH_done (by kernel_rfl) ?_ _
  go_wp2
  go_ret
  exact ⟨rfl, B⟩

open Go.ChangeShapes Go.WideShapes Go.ChangeAt Go.Joins

set_option maxRecDepth 100000 in
theorem liftedMachineFault (os : Os) (started : os.Started) (H : Type) (enc : TypeId × Value → H) :
    ReturnsInHanded {} Try.checked os 3 .any (Rows.fnExactMachineFaultSpec.pre6 enc Try.prog Try.f3 Rows.fnExactMachineFaultRow.domain false) (Rows.fnExactMachineFaultSpec.post enc Try.prog Try.f3 false true false false) := by
  refine returnsInHanded_of_change (C := Try.checked) Try.own started (by kernel_rfl) Try.func3
    (ChangeSpec.witness6 (enc := enc) (C := Try.checked) false ⟨#[], #[.agg #[.slice none 0 0, .slice none 0 0, .slice none 0 0, .slice none 0 0]], []⟩ 8 (by kernel_rfl) (by kernel_rfl) (by kernel_rfl) (by kernel_rfl)) ?_
  intro W base args ds gs before hval0 hW hcnd _
  have hval : ∀ (j : Nat) t v, Try.f3.params[j]? = some t → args[j]? = some v → Value.okWide Try.prog W .any base t v := hval0
  have hW' := hW
  obtain ⟨p, q, hA0, hV, rfl, hfz, hnd⟩ := hW
  have hA : DataW.TrodAll enc Try.prog W 0 (fun _ => true) true Try.f3.params.toList args.toList ds p := hA0
  rw [Try.params3] at hA hval
  obtain ⟨v0, vs0, d0, ds0, p0, q0, hargs, rfl, rfl, h0, r0⟩ := trodAll_cons hA
  obtain ⟨rfl, rfl, rfl⟩ := trodAll_nil r0
  obtain rfl : args = #[v0] := by cases args; simp_all
  obtain ⟨rfl, rfl⟩ := trodVars_none hV
  have lt0 : ∀ x ∈ p0, x.block < W.heap.size := by obtain ⟨m, hm⟩ := h0; exact DataW.trod_lt m _ _ _ hm
  have k0 := h0
  obtain ⟨e0, e1, e2, e3, y0, y1, y2, y3, m, m', m'', rfl, hy0, hy1, hy2, hy3⟩ := open_machine Try.underlying31 rfl rfl Try.cellsPool Try.cellsSessions Try.cellsMachine Try.underlying28 rfl rfl Try.cellsForest Try.cellsVols Try.underlying25 rfl rfl Try.cellsNodes Try.cellsBlocks (hval 0 31 v0 rfl rfl) h0
  obtain ⟨an, nn, cn, Kf, ns, rfl, hnf, hKf, sn⟩ := read_nodes Try.underlying22 Try.underlying140 Try.cellsNode rfl rfl rfl Try.underlying2 Try.underlying4 Try.underlying107 Try.underlying2 Try.cellsInt Try.cellsBool Try.cellsInts Try.cellsInt hy0
  obtain ⟨ab, nb, cb, bs, rfl, hmf, sbk⟩ := read_pairs Try.underlying23 Try.underlying146 Try.cellsBlock rfl rfl Try.underlying2 Try.underlying2 Try.cellsInt Try.cellsInt hy1
  obtain ⟨av, nv, cv, vs, rfl, hvf, sv⟩ := read_vols Try.underlying26 Try.underlying121 Try.cellsVol rfl rfl rfl Try.underlying2 Try.underlying2 Try.underlying2 Try.cellsInt Try.cellsInt Try.cellsInt hy2
  obtain ⟨aq, nz, cz, ss, rfl, hsf, sz⟩ := read_sessions Try.underlying29 Try.sesTy hy3
  have mx : MacAt W false 0 W.heap.size ⟨(an, nn, cn), (ab, nb, cb), (av, nv, cv), (aq, nz, cz), Kf⟩ ((ns, bs), vs, ss) := ⟨⟨sn, sbk, fun hx => by cases hx⟩, sv, sz⟩
  clear hA0 hval0
  refine (lawMachineFault ⟨(an, nn, cn), (ab, nb, cb), (av, nv, cv), (aq, nz, cz), Kf⟩ ((ns, bs), vs, ss)  W mx hnf hmf hKf hvf hsf).mono fun e W' ⟨he, bel⟩ => ?_
  subst he
  exact ⟨_, rfl, _, _, _, [], _, [], hW', trodAll_mk1 (shut_bool Try.underlying4 _), (trodAll_cons_mk (Below.trod Try.laidOut (by kernel_rfl) (of_decide_eq_true (by kernel_rfl)) k0 bel lt0) trodAll_mk0), rfl, bel.frame _, fun h => by cases h⟩

set_option maxRecDepth 100000 in
set_option maxHeartbeats 0 in
theorem closedMachineFault : joinedFacts Try.prog 3 Try.f3 Rows.fnExactMachineFaultSpec Rows.fnExactMachineFaultRow = true := by
  have q1 : (Rows.fnExactMachineFaultRow.inPlace == Try.prog.inPlace 3) = true := by rw [inPlace_at leads_is inp_is]; kernel_rfl
  have q2 : (Rows.fnExactMachineFaultRow.unfollowed == Try.prog.unfollowed 3) = true := by rw [unfollowed_at leads_is unf_is]; kernel_rfl
  have q3 : (Rows.fnExactMachineFaultRow.recurses == Try.prog.recurses 3) = true := (by rw [recurses_no leads_is (by rw [unfollowed_at leads_is unf_is]; kernel_rfl) ranks_ok (by kernel_rfl)]; rfl)
  have q4 : (Rows.fnExactMachineFaultRow.named == Try.prog.varsNamed 3) = true := by rw [varsNamed_at leads_is var_ok ent_is]; kernel_rfl
  have q5 : (Try.prog.make == some Rows.fnExactMachineFaultRow.make) = true := by rw [made_cut]; rfl
  have q6 : (Rows.fnExactMachineFaultRow.lifted == Try.prog.liftsFinal) = true := by rw [lifts_no]; rfl
  have q7 : Try.prog.mayEnter = true := may_enter
  have q8 : laidOutB Try.prog = true := Try.laidOut
  unfold joinedFacts
  repeat' (with_reducible refine Bool.and_eq_true_iff.2 ⟨?_, ?_⟩)
  all_goals (first | with_reducible exact q1 | with_reducible exact q2 | with_reducible exact q3 | with_reducible exact q4 | with_reducible exact q5 | with_reducible exact q6 | with_reducible exact q7 | with_reducible exact q8 | (as_aux_lemma => kernel_rfl))

theorem machineFault_holds : Rows.FnExactMachineFaultSaid :=
  OpenClaim.holds_of_wide 3 Try.f3 rfl rfl rfl rfl rfl rfl rfl ⟨rfl, rfl, rfl, rfl, rfl⟩ rfl rfl rfl rfl rfl (by as_aux_lemma => kernel_rfl) Try.func3 closedMachineFault
    (of_decide_eq_true (by as_aux_lemma => kernel_rfl)) (by unfold Func.isWrapper; first | (rw [if_pos (by decide +kernel)]; kernel_rfl) | (rw [if_neg (by decide +kernel)]; exact ⟨rfl, rfl⟩))
    (fun os started H enc _ => liftedMachineFault os started H enc)

#print axioms machineFault_holds

end Go.Proofs.Ytedgppggaceopaa
