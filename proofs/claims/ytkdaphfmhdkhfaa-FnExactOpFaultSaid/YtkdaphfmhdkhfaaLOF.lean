/- At every operation the program's OpFault answers as its model does: the law FnExactOpFault is true at every argument, with no condition. -/
import Derived.Test.YtkdaphfmhdkhfaaRows
import Derived.Test.YtkdaphfmhdkhfaaO1
import Derived.Test.YtkdaphfmhdkhfaaZR
namespace Go.Proofs.Ytkdaphfmhdkhfaa
open Go.RowKit

theorem Try.cellsOp : Try.prog.cellsOf 131 = 4 := by kernel_rfl
theorem toOp_any (k v a x : Int) (w : World) :
    Calls Try.prog 121 #[.agg #[.int .i64 k, .int .i64 v, .int .i64 a, .int .i64 x]] w fun e w' => e = .returned (.agg #[.int .i64 k, .int .i64 v, .int .i64 a, .int .i64 x]) ∧ Below w.heap.size w w' := by
  go_enter Try.func121, Try.ntmps121
  go_wp2
  refine bodyPost_ret (v := .agg #[.int .i64 k, .int .i64 v, .int .i64 a, .int .i64 x]) (by simp [results, Try.results121, go_sem]) rfl ⟨rfl, ?_⟩
  exact ((((Below.refl _ _).alloc (Nat.le_refl _) _).alloc (by simp) _).alloc (by simp; omega) _)
set_option maxRecDepth 20000 in
set_option maxHeartbeats 1000000 in
theorem lawOpFault (k v a x : Int) (w : World) : Calls Try.prog 30 #[.agg #[.int .i64 k, .int .i64 v, .int .i64 a, .int .i64 x]] w fun e w' => e = .returned (.bool true) ∧ Below w.heap.size w w' := by
  obtain ⟨cd, hcd⟩ : ∃ cd, opF k v a x = cd := ⟨_, rfl⟩
  have HC : Hid _ := hcd
  clear hcd
  have hd : (cd != cd) = false := by simp
  have B : Below w.heap.size w (w.alloc (.cells #[.int .i64 k, .int .i64 v, .int .i64 a, .int .i64 x] 131)) := (Below.refl _ _).alloc (Nat.le_refl _) _
  have c0 : (w.alloc (.cells #[.int .i64 k, .int .i64 v, .int .i64 a, .int .i64 x] 131)).cell? ⟨w.heap.size, 0, none⟩ = some (.int .i64 k) := by simp
  have c1 : (w.alloc (.cells #[.int .i64 k, .int .i64 v, .int .i64 a, .int .i64 x] 131)).cell? ⟨w.heap.size, 1, none⟩ = some (.int .i64 v) := by simp
  have c2 : (w.alloc (.cells #[.int .i64 k, .int .i64 v, .int .i64 a, .int .i64 x] 131)).cell? ⟨w.heap.size, 2, none⟩ = some (.int .i64 a) := by simp
  have c3 : (w.alloc (.cells #[.int .i64 k, .int .i64 v, .int .i64 a, .int .i64 x] 131)).cell? ⟨w.heap.size, 3, none⟩ = some (.int .i64 x) := by simp
  go_enter Try.func30, Try.ntmps30
  go_wp2_with fail
  refine (toOp_any k v a x _).mono ?_
  rintro e w1 ⟨rfl, hb⟩
  replace c0 := cell_later hb c0
  replace c1 := cell_later hb c1
  replace c2 := cell_later hb c2
  replace c3 := cell_later hb c3
  replace B := below_next B hb
  clear hb
  go_wp2_with fail
  refine (specOpF_is k v a x _ cd HC.out).mono ?_
  rintro e w2 ⟨rfl, hb⟩
  replace c0 := cell_later hb c0
  replace c1 := cell_later hb c1
  replace c2 := cell_later hb c2
  replace c3 := cell_later hb c3
  replace B := below_next B hb
  clear hb
  go_wp2_with fail
  refine (toOp_any k v a x _).mono ?_
  rintro e w3 ⟨rfl, hb⟩
  replace c0 := cell_later hb c0
  replace c1 := cell_later hb c1
  replace c2 := cell_later hb c2
  replace c3 := cell_later hb c3
  replace B := below_next B hb
  clear hb
  go_wp2_with fail
  refine (implOpF_is k v a x _ cd HC.out).mono ?_
  rintro e w4 ⟨rfl, hb⟩
  replace c0 := cell_later hb c0
  replace c1 := cell_later hb c1
  replace c2 := cell_later hb c2
  replace c3 := cell_later hb c3
  replace B := below_next B hb
  clear hb
  go_wp2
  go_ret
  exact ⟨rfl, B⟩

open Go.ChangeShapes Go.WideShapes Go.ChangeAt Go.Joins

set_option maxRecDepth 100000 in
theorem liftedOpFault (os : Os) (started : os.Started) (H : Type) (enc : TypeId × Value → H) :
    ReturnsInHanded {} Try.checked os 30 .any (Rows.fnExactOpFaultSpec.pre6 enc Try.prog Try.f30 Rows.fnExactOpFaultRow.domain false) (Rows.fnExactOpFaultSpec.post enc Try.prog Try.f30 false true false false) := by
  refine returnsInHanded_of_change (C := Try.checked) Try.own started (by kernel_rfl) Try.func30
    (ChangeSpec.witness6 (enc := enc) (C := Try.checked) false ⟨#[], #[.agg #[.int .i64 0, .int .i64 0, .int .i64 0, .int .i64 0]], []⟩ 8 (by kernel_rfl) (by kernel_rfl) (by kernel_rfl) (by kernel_rfl)) ?_
  intro W base args ds gs before hval0 hW hcnd _
  have hval : ∀ (j : Nat) t v, Try.f30.params[j]? = some t → args[j]? = some v → Value.okWide Try.prog W .any base t v := hval0
  have hW' := hW
  obtain ⟨p, q, hA0, hV, rfl, hfz, hnd⟩ := hW
  have hA : DataW.TrodAll enc Try.prog W 0 (fun _ => true) true Try.f30.params.toList args.toList ds p := hA0
  rw [Try.params30] at hA hval
  obtain ⟨v0, vs0, d0, ds0, p0, q0, hargs, rfl, rfl, h0, r0⟩ := trodAll_cons hA
  obtain ⟨rfl, rfl, rfl⟩ := trodAll_nil r0
  obtain rfl : args = #[v0] := by cases args; simp_all
  obtain ⟨rfl, rfl⟩ := trodVars_none hV
  have lt0 : ∀ x ∈ p0, x.block < W.heap.size := by obtain ⟨m, hm⟩ := h0; exact DataW.trod_lt m _ _ _ hm
  have k0 := h0
  obtain ⟨e0, e1, e2, e3, y0, y1, y2, y3, m, rfl, _, _, hy0, hy1, hy2, hy3⟩ := open_agg4 Try.underlying131 (by kernel_rfl) Try.cellsOp (hval 0 131 v0 rfl rfl) h0
  obtain ⟨ok, hq0, _, _⟩ := DataW.trod_int Try.underlying2 hy0
  simp only [List.cons.injEq, and_true] at hq0
  subst hq0
  obtain ⟨ov, hq1, _, _⟩ := DataW.trod_int Try.underlying2 hy1
  simp only [List.cons.injEq, and_true] at hq1
  subst hq1
  obtain ⟨oa, hq2, _, _⟩ := DataW.trod_int Try.underlying2 hy2
  simp only [List.cons.injEq, and_true] at hq2
  subst hq2
  obtain ⟨ox, hq3, _, _⟩ := DataW.trod_int Try.underlying2 hy3
  simp only [List.cons.injEq, and_true] at hq3
  subst hq3
  clear hA0 hval0
  refine (lawOpFault ok ov oa ox W).mono fun e W' ⟨he, bel⟩ => ?_
  subst he
  exact ⟨_, rfl, _, _, _, [], _, [], hW', trodAll_mk1 (shut_bool Try.underlying4 _), (trodAll_cons_mk (Below.trod Try.laidOut (by kernel_rfl) (of_decide_eq_true (by kernel_rfl)) k0 bel lt0) trodAll_mk0), rfl, bel.frame _, fun h => by cases h⟩

set_option maxRecDepth 100000 in
set_option maxHeartbeats 0 in
theorem closedOpFault : joinedFacts Try.prog 30 Try.f30 Rows.fnExactOpFaultSpec Rows.fnExactOpFaultRow = true := by
  have q1 : (Rows.fnExactOpFaultRow.inPlace == Try.prog.inPlace 30) = true := by rw [inPlace_at leads_is inp_is]; kernel_rfl
  have q2 : (Rows.fnExactOpFaultRow.unfollowed == Try.prog.unfollowed 30) = true := by rw [unfollowed_at leads_is unf_is]; kernel_rfl
  have q3 : (Rows.fnExactOpFaultRow.recurses == Try.prog.recurses 30) = true := (by rw [recurses_no leads_is (by rw [unfollowed_at leads_is unf_is]; kernel_rfl) ranks_ok (by kernel_rfl)]; rfl)
  have q4 : (Rows.fnExactOpFaultRow.named == Try.prog.varsNamed 30) = true := by rw [varsNamed_at leads_is var_ok ent_is]; kernel_rfl
  have q5 : (Try.prog.make == some Rows.fnExactOpFaultRow.make) = true := by rw [made_cut]; rfl
  have q6 : (Rows.fnExactOpFaultRow.lifted == Try.prog.liftsFinal) = true := by rw [lifts_no]; rfl
  have q7 : Try.prog.mayEnter = true := may_enter
  have q8 : laidOutB Try.prog = true := Try.laidOut
  unfold joinedFacts
  repeat' (with_reducible refine Bool.and_eq_true_iff.2 ⟨?_, ?_⟩)
  all_goals (first | with_reducible exact q1 | with_reducible exact q2 | with_reducible exact q3 | with_reducible exact q4 | with_reducible exact q5 | with_reducible exact q6 | with_reducible exact q7 | with_reducible exact q8 | (as_aux_lemma => kernel_rfl))

theorem opFault_holds : Rows.FnExactOpFaultSaid :=
  OpenClaim.holds_of_wide 30 Try.f30 rfl rfl rfl rfl rfl rfl rfl ⟨rfl, rfl, rfl, rfl, rfl⟩ rfl rfl rfl rfl rfl (by as_aux_lemma => kernel_rfl) Try.func30 closedOpFault
    (of_decide_eq_true (by as_aux_lemma => kernel_rfl)) (by unfold Func.isWrapper; first | (rw [if_pos (by decide +kernel)]; kernel_rfl) | (rw [if_neg (by decide +kernel)]; exact ⟨rfl, rfl⟩))
    (fun os started H enc _ => liftedOpFault os started H enc)

#print axioms opFault_holds

end Go.Proofs.Ytkdaphfmhdkhfaa
