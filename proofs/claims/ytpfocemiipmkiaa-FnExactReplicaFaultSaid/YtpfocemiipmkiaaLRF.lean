/- At every replica the program's ReplicaFault answers as its model does and writes into no argument: the law FnExactReplicaFault is true at every argument, with no condition. -/
import Derived.Test.YtpfocemiipmkiaaRows
import Derived.Test.YtpfocemiipmkiaaWB
import Derived.Test.YtpfocemiipmkiaaWC
import Derived.Test.YtpfocemiipmkiaaI5s
import Derived.Test.YtpfocemiipmkiaaWG
namespace Go.Proofs.Ytpfocemiipmkiaa
open Go.RowKit

theorem toReplica_z {own : Bool} {lo hi : Nat} (r : Rep) (h : RH) (w : World) (x : RepAt w own lo hi h r) (hs : RSz h 1048576) :
    Calls Try.prog 20 #[.agg #[.int .i64 r.id, .int .i64 r.size, .int .i64 r.view, .bool r.normal, .int .i64 r.last, .slice h.L.1 h.L.2.1 h.L.2.2, .int .i64 r.commit, .slice h.O.1 h.O.2.1 h.O.2.2, .slice h.A.1 h.A.2.1 h.A.2.2, .slice h.D.1 h.D.2.1 h.D.2.2]] w fun e w' => ∃ (z u : Nat) (h' : RH), e = .returned (.agg #[.int .i64 r.id, .int .i64 r.size, .int .i64 r.view, .bool r.normal, .int .i64 r.last, .slice h'.L.1 h'.L.2.1 h'.L.2.2, .int .i64 r.commit, .slice h'.O.1 h'.O.2.1 h'.O.2.2, .slice h'.A.1 h'.A.2.1 h'.A.2.2, .slice h'.D.1 h'.D.2.1 h'.D.2.2]) ∧ w.heap.size ≤ z ∧ u ≤ w'.heap.size ∧ RepAt w' true z u h' r ∧ RSz h' 1048576 ∧ Below w.heap.size w w' :=
  (toReplica_any r h w x hs).mono fun _ _ ⟨h', e1, y, z, b⟩ => ⟨_, _, h', e1, Nat.le_refl _, Nat.le_refl _, y, z, b⟩
set_option maxRecDepth 20000 in
set_option maxHeartbeats 8000000 in
theorem lawReplicaFault {own : Bool} (r : Rep) (h : RH) (w : World) (x : RepAt w own 0 w.heap.size h r) (hs : RSz h maxLen) : Calls Try.prog 4 #[.agg #[.int .i64 r.id, .int .i64 r.size, .int .i64 r.view, .bool r.normal, .int .i64 r.last, .slice h.L.1 h.L.2.1 h.L.2.2, .int .i64 r.commit, .slice h.O.1 h.O.2.1 h.O.2.2, .slice h.A.1 h.A.2.1 h.A.2.2, .slice h.D.1 h.D.2.1 h.D.2.2]] w fun e w' => e = .returned (.bool true) ∧ Below w.heap.size w w' := by
  obtain ⟨cd, hcd⟩ : ∃ cd, repF r = cd := ⟨_, rfl⟩
  have HC : Hid _ := hcd
  clear hcd
  have hd : (cd != cd) = false := by simp
  go_enter Try.func4, Try.ntmps4
  go_wp2_with (first | ((with_reducible refine box_newX 50 [.int .i64 r.id, .int .i64 r.size, .int .i64 r.view, .bool r.normal, .int .i64 r.last, .slice h.L.1 h.L.2.1 h.L.2.2, .int .i64 r.commit, .slice h.O.1 h.O.2.1 h.O.2.2, .slice h.A.1 h.A.2.1 h.A.2.2, .slice h.D.1 h.D.2.1 h.D.2.2] rfl ?_); intro b0 W0 N0; have ob0 : w.heap.size ≤ b0 := N0.ge; have B := N0.below; have X0 := N0.bx; have c0 := X0.cell; clear N0) | fail)
  refine (szReplica_left r h _ (x.below B) hs).mono ?_
  rintro e w1 ⟨q, rfl, BB, hq⟩
  replace X0 := X0.below BB
  replace c0 := X0.cell
  replace B := below_next B BB
  clear BB
  rcases hq with hq | ⟨hq0, hq1, HZ⟩
  · go_wp2
    go_ret
    exact ⟨rfl, B⟩
  have hq' : ¬ q < 0 := by omega
  clear hq0 hq1
  go_wp2_with fail
  refine (toReplica_any r h _ (x.below B) HZ).mono ?_
  rintro e w2 ⟨k1, rfl, y1, z1, BB⟩
  replace X0 := X0.below BB
  replace c0 := X0.cell
  replace B := below_next B BB
  clear BB
  go_wp2_with fail
  refine (specRF_is r k1 _ y1 (z1.mono (by omega)) cd HC.out).mono ?_
  rintro e w3 ⟨rfl, BB⟩
  replace X0 := X0.below BB
  replace c0 := X0.cell
  replace B := below_next B BB
  clear BB
  clear y1 z1
  go_wp2_with fail
  refine (toReplica_z r h _ (x.below B) HZ).mono ?_
  rintro e w4 ⟨zY, uY, k2, rfl, GzY, hy1, y1, z1, BB⟩
  have ozY : w.heap.size ≤ zY := Nat.le_trans B.size GzY
  have o0_zY : b0 < zY := Nat.lt_of_lt_of_le X0.lt GzY
  clear GzY
  replace X0 := X0.below BB
  replace c0 := X0.cell
  replace B := below_next B BB
  clear BB
  go_wp2_with (first | ((with_reducible refine store_midX 29 X1 0 [.int .i64 r.id, .int .i64 r.size, .int .i64 r.view, .bool r.normal, .int .i64 r.last, .slice k2.L.1 k2.L.2.1 k2.L.2.2, .int .i64 r.commit, .slice k2.O.1 k2.O.2.1 k2.O.2.2, .slice k2.A.1 k2.A.2.1 k2.A.2.2, .slice k2.D.1 k2.D.2.1 k2.D.2.2] (by simp) (by kernel_rfl) (by simp [Value.oneCell']) rfl rfl ?_); intro V1 S; replace X0 := X0.kept S.kept (by omega); replace c0 := X0.cell; replace X1 : Bx V1 b1 [.int .i64 r.id, .int .i64 r.size, .int .i64 r.view, .bool r.normal, .int .i64 r.last, .slice k2.L.1 k2.L.2.1 k2.L.2.2, .int .i64 r.commit, .slice k2.O.1 k2.O.2.1 k2.O.2.2, .slice k2.A.1 k2.A.2.1 k2.A.2.2, .slice k2.D.1 k2.D.2.1 k2.D.2.2] := S.bx; replace c1 := X1.cell; replace f1 := X1.froz; replace y1 := y1.kept S.kept (by omega); replace hy1 := Nat.le_trans hy1 S.kept.size; replace B := B.trans (S.kept.below _ (by omega) B.size); clear S) | ((have g := ob0); clear g; (with_reducible refine alloc_newX 29 [.int .i64 0, .int .i64 0, .int .i64 0, .bool false, .int .i64 0, .slice none 0 0, .int .i64 0, .slice none 0 0, .slice none 0 0, .slice none 0 0] (fun _ => by kernel_rfl) ?_); intro b1 W1 N1; have ob1 : w.heap.size ≤ b1 := Nat.le_trans B.size N1.ge; have o0_b1 : b0 < b1 := Nat.lt_of_lt_of_le X0.lt N1.ge; have oy1_b1 : uY ≤ b1 := Nat.le_trans hy1 N1.ge; replace X0 := X0.below N1.below; replace c0 := X0.cell; replace y1 := y1.below N1.below; replace hy1 := Nat.le_trans hy1 N1.below.size; replace B := below_next B N1.below; have X1 := N1.bx; have c1 := X1.cell; have f1 := X1.froz; clear N1) | fail)
  refine (implRF_is r k2 _ y1 (z1.mono (by omega)) cd HC.out).mono ?_
  rintro e w5 ⟨rfl, BB⟩
  replace X0 := X0.below BB
  replace c0 := X0.cell
  replace X1 := X1.below BB
  replace c1 := X1.cell
  replace f1 := X1.froz
  replace y1 := y1.below BB
  replace hy1 := Nat.le_trans hy1 BB.size
  replace B := below_next B BB
  clear BB
  go_wp2_with fail
  have DQ : Below w5.heap.size w5 w5.drew := (Below.refl _ _).drew
  replace X0 := X0.below DQ
  replace c0 := X0.cell
  replace X1 := X1.below DQ
  replace c1 := X1.cell
  replace f1 := X1.froz
  replace y1 := y1.below DQ
  replace hy1 := Nat.le_trans hy1 DQ.size
  replace B := below_next B DQ
  clear DQ
  refine wp_region_held_drew (S := (fun w' => (∀ k : Nat, w'.cell? ⟨b0, k, none⟩ = [.int .i64 r.id, .int .i64 r.size, .int .i64 r.view, .bool r.normal, .int .i64 r.last, .slice h.L.1 h.L.2.1 h.L.2.2, .int .i64 r.commit, .slice h.O.1 h.O.2.1 h.O.2.2, .slice h.A.1 h.A.2.1 h.A.2.2, .slice h.D.1 h.D.2.1 h.D.2.2][k]?) ∧ (∀ k : Nat, w'.cell? ⟨b1, k, none⟩ = [.int .i64 r.id, .int .i64 r.size, .int .i64 r.view, .bool r.normal, .int .i64 r.last, .slice k2.L.1 k2.L.2.1 k2.L.2.2, .int .i64 r.commit, .slice k2.O.1 k2.O.2.1 k2.O.2.2, .slice k2.A.1 k2.A.2.1 k2.A.2.2, .slice k2.D.1 k2.D.2.1 k2.D.2.2][k]?))) (by kernel_rfl) ⟨c0, c1⟩ (fun hHeld => ?_)
  refine wpAnyH_take (i := 0) (v := ?_) rfl (by kernel_rfl) (by kernel_rfl) (by kernel_rfl) (fun _ _ _ h => h) (Or.inl ⟨by rfl, ?_⟩) hHeld ?_
  rotate_left 1
  · intro w hSw
    try dsimp only at hSw
    first | (go_simp; done) | (go_simp; with_reducible rfl)
  simp only [Act.put, List.setIfInBounds_toArray, List.set_cons_zero, List.set_cons_succ, List.getElem_toArray, List.getElem_cons_zero]
  refine wpAnyH_take (i := 1) (v := ?_) rfl (by kernel_rfl) (by kernel_rfl) (by kernel_rfl) (fun _ _ _ h => h) (Or.inl ⟨by rfl, ?_⟩) hHeld ?_
  rotate_left 1
  · intro w hSw
    try dsimp only at hSw
    first | (go_simp; done) | (go_simp; with_reducible rfl)
  simp only [Act.put, List.setIfInBounds_toArray, List.set_cons_zero, List.set_cons_succ, List.getElem_toArray, List.getElem_cons_zero, List.getElem_cons_succ]
  refine wpAnyH_ready (rs := [2]) (by kernel_rfl) (by simp) ?_
  refine AllReadyH.cons rfl (fun KK hKK => ?_) AllReadyH.nil
  go_simp
  go_at_call 20
  refine (toReplica_any r h _ (x.below B) HZ).mono ?_
  rintro e v1 ⟨k9, rfl, y9, z9, BB⟩
  replace X0 := X0.below BB
  replace c0 := X0.cell
  replace X1 := X1.below BB
  replace c1 := X1.cell
  replace f1 := X1.froz
  replace y1 := y1.below BB
  replace hy1 := Nat.le_trans hy1 BB.size
  replace B := below_next B BB
  clear BB
  clear hHeld
  refine hKK _ _ ⟨c0, c1⟩ (fun hHeld => ?_)
  clear hKK KK
  refine wpAnyH_ready (rs := [3]) (by kernel_rfl) (by simp) ?_
  refine AllReadyH.cons rfl (fun KK hKK => ?_) AllReadyH.nil
  go_simp
  go_at_call 21
  refine (eqReplica_yes r k2 k9 _ y1 y9 (z1.mono (by omega))).mono ?_
  rintro e v2 ⟨rfl, BB⟩
  replace X0 := X0.below BB
  replace c0 := X0.cell
  replace X1 := X1.below BB
  replace c1 := X1.cell
  replace f1 := X1.froz
  replace y1 := y1.below BB
  replace hy1 := Nat.le_trans hy1 BB.size
  replace B := below_next B BB
  clear BB
  clear hHeld
  refine hKK _ _ ⟨c0, c1⟩ (fun hHeld => ?_)
  clear hKK KK
  refine wpAnyH_take (i := 4) (v := ?_) rfl (by kernel_rfl) (by kernel_rfl) (by kernel_rfl) (fun _ _ _ h => h) (Or.inl ⟨by rfl, ?_⟩) hHeld ?_
  rotate_left 1
  · intro w hSw
    try dsimp only at hSw
    first | (go_simp; done) | (go_simp; with_reducible rfl)
  simp only [Act.put, List.setIfInBounds_toArray, List.set_cons_zero, List.set_cons_succ, List.getElem_toArray, List.getElem_cons_zero, List.getElem_cons_succ]
  refine wpAnyH_done (by kernel_rfl) ?_ _
  go_wp2
  go_ret
  exact ⟨rfl, B⟩

open Go.ChangeShapes Go.WideShapes Go.ChangeAt Go.Joins

set_option maxRecDepth 100000 in
theorem liftedReplicaFault (os : Os) (started : os.Started) (H : Type) (enc : TypeId × Value → H) :
    ReturnsInHanded {} Try.checked os 4 .any (Rows.fnExactReplicaFaultSpec.pre6 enc Try.prog Try.f4 Rows.fnExactReplicaFaultRow.domain false) (Rows.fnExactReplicaFaultSpec.post enc Try.prog Try.f4 false true false false) := by
  refine returnsInHanded_of_change (C := Try.checked) Try.own started (by kernel_rfl) Try.func4
    (ChangeSpec.witness6 (enc := enc) (C := Try.checked) false ⟨#[], #[.agg #[.int .i64 0, .int .i64 0, .int .i64 0, .bool false, .int .i64 0, .slice none 0 0, .int .i64 0, .slice none 0 0, .slice none 0 0, .slice none 0 0]], []⟩ 8 (by kernel_rfl) (by kernel_rfl) (by kernel_rfl) (by kernel_rfl)) ?_
  intro W base args ds gs before hval0 hW hcnd _
  have hval : ∀ (j : Nat) t v, Try.f4.params[j]? = some t → args[j]? = some v → Value.okWide Try.prog W .any base t v := hval0
  have hW' := hW
  obtain ⟨p, q, hA0, hV, rfl, hfz, hnd⟩ := hW
  have hA : DataW.TrodAll enc Try.prog W 0 (fun _ => true) true Try.f4.params.toList args.toList ds p := hA0
  rw [Try.params4] at hA hval
  obtain ⟨v0, vs0, d0, ds0, p0, q0, hargs, rfl, rfl, h0, r0⟩ := trodAll_cons hA
  obtain ⟨rfl, rfl, rfl⟩ := trodAll_nil r0
  obtain rfl : args = #[v0] := by cases args; simp_all
  obtain ⟨rfl, rfl⟩ := trodVars_none hV
  have lt0 : ∀ x ∈ p0, x.block < W.heap.size := by obtain ⟨m, hm⟩ := h0; exact DataW.trod_lt m _ _ _ hm
  have k0 := h0
  obtain ⟨rr0, rh0, rfl, rz0, rx0⟩ := open_replica Try.repTy (hval 0 50 v0 rfl rfl) h0
  clear hA0 hval0
  refine (lawReplicaFault rr0 rh0 W rx0 rz0).mono fun e W' ⟨he, bel⟩ => ?_
  subst he
  exact ⟨_, rfl, _, _, _, [], _, [], hW', trodAll_mk1 (shut_bool Try.underlying4 _), (trodAll_cons_mk (Below.trod Try.laidOut (by kernel_rfl) (of_decide_eq_true (by kernel_rfl)) k0 bel lt0) trodAll_mk0), rfl, bel.frame _, fun h => by cases h⟩

set_option maxRecDepth 100000 in
set_option maxHeartbeats 0 in
theorem closedReplicaFault : joinedFacts Try.prog 4 Try.f4 Rows.fnExactReplicaFaultSpec Rows.fnExactReplicaFaultRow = true := by
  have q1 : (Rows.fnExactReplicaFaultRow.inPlace == Try.prog.inPlace 4) = true := by rw [inPlace_at leads_is inp_is]; kernel_rfl
  have q2 : (Rows.fnExactReplicaFaultRow.unfollowed == Try.prog.unfollowed 4) = true := by rw [unfollowed_at leads_is unf_is]; kernel_rfl
  have q3 : (Rows.fnExactReplicaFaultRow.recurses == Try.prog.recurses 4) = true := (by rw [recurses_unf leads_is (by rw [unfollowed_at leads_is unf_is]; kernel_rfl)]; rfl)
  have q4 : (Rows.fnExactReplicaFaultRow.named == Try.prog.varsNamed 4) = true := by rw [varsNamed_at leads_is var_ok ent_is]; kernel_rfl
  have q5 : (Try.prog.make == some Rows.fnExactReplicaFaultRow.make) = true := by rw [made_cut]; rfl
  have q6 : (Rows.fnExactReplicaFaultRow.lifted == Try.prog.liftsFinal) = true := by rw [lifts_no]; rfl
  have q7 : Try.prog.mayEnter = true := may_enter
  have q8 : laidOutB Try.prog = true := Try.laidOut
  unfold joinedFacts
  repeat' (with_reducible refine Bool.and_eq_true_iff.2 ⟨?_, ?_⟩)
  all_goals (first | with_reducible exact q1 | with_reducible exact q2 | with_reducible exact q3 | with_reducible exact q4 | with_reducible exact q5 | with_reducible exact q6 | with_reducible exact q7 | with_reducible exact q8 | (as_aux_lemma => kernel_rfl))

theorem replicaFault_holds : Rows.FnExactReplicaFaultSaid :=
  OpenClaim.holds_of_wide 4 Try.f4 rfl rfl rfl rfl rfl rfl rfl ⟨rfl, rfl, rfl, rfl, rfl⟩ rfl rfl rfl rfl rfl (by as_aux_lemma => kernel_rfl) Try.func4 closedReplicaFault
    (of_decide_eq_true (by as_aux_lemma => kernel_rfl)) (by unfold Func.isWrapper; first | (rw [if_pos (by decide +kernel)]; kernel_rfl) | (rw [if_neg (by decide +kernel)]; exact ⟨rfl, rfl⟩))
    (fun os started H enc _ => liftedReplicaFault os started H enc)

#print axioms replicaFault_holds

end Go.Proofs.Ytpfocemiipmkiaa
