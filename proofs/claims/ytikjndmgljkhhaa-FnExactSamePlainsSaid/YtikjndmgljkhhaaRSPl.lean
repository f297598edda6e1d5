/- At any two plain pools the program's SamePlains answers as its model does and writes into no argument: the law FnExactSamePlains is true at every argument, with no condition. -/
import Derived.Test.YtikjndmgljkhhaaRows
import Derived.Test.YtikjndmgljkhhaaLSPl
import Derived.Test.YtikjndmgljkhhaaRowL
namespace Go.Proofs.Ytikjndmgljkhhaa
open Go.RowKit

open Go.ChangeShapes Go.WideShapes Go.ChangeAt Go.Joins

set_option maxRecDepth 100000 in
theorem liftedSamePl (os : Os) (started : os.Started) (H : Type) (enc : TypeId × Value → H) :
    ReturnsInHanded {} Try.checked os 9 .any (Rows.fnExactSamePlainsSpec.pre6 enc Try.prog Try.f9 Rows.fnExactSamePlainsRow.domain false) (Rows.fnExactSamePlainsSpec.post enc Try.prog Try.f9 false true false false) := by
  refine returnsInHanded_of_change (C := Try.checked) Try.own started (by kernel_rfl) Try.func9
    (ChangeSpec.witness6 (enc := enc) (C := Try.checked) false ⟨#[], #[.agg #[.int .i64 0, .slice none 0 0, .slice none 0 0, .slice none 0 0], .agg #[.int .i64 0, .slice none 0 0, .slice none 0 0, .slice none 0 0]], []⟩ 8 (by kernel_rfl) (by kernel_rfl) (by kernel_rfl) (by kernel_rfl)) ?_
  intro W base args ds gs before hval0 hW hcnd _
  have hval : ∀ (j : Nat) t v, Try.f9.params[j]? = some t → args[j]? = some v → Value.okWide Try.prog W .any base t v := hval0
  have hW' := hW
  obtain ⟨p, q, hA0, hV, rfl, hfz, hnd⟩ := hW
  have hA : DataW.TrodAll enc Try.prog W 0 (fun _ => true) true Try.f9.params.toList args.toList ds p := hA0
  rw [Try.params9] at hA hval
  obtain ⟨v0, vs0, d0, ds0, p0, q0, hargs, rfl, rfl, h0, r0⟩ := trodAll_cons hA
  obtain ⟨v1, vs1, d1, ds1, p1, q1, rfl, rfl, rfl, h1, r1⟩ := trodAll_cons r0
  obtain ⟨rfl, rfl, rfl⟩ := trodAll_nil r1
  obtain rfl : args = #[v0, v1] := by cases args; simp_all
  obtain ⟨rfl, rfl⟩ := trodVars_none hV
  have lt0 : ∀ x ∈ p0, x.block < W.heap.size := by obtain ⟨m, hm⟩ := h0; exact DataW.trod_lt m _ _ _ hm
  have k0 := h0
  obtain ⟨e00, e10, e20, e30, y00, y10, y20, y30, mm0, rfl, _, _, hy00, hy10, hy20, hy30⟩ := open_agg4 Try.underlying65 (by kernel_rfl) Try.cellsPlain (hval 0 65 v0 rfl rfl) h0
  obtain ⟨bl0, hq00, _, _⟩ := DataW.trod_int Try.underlying2 hy00
  simp only [List.cons.injEq, and_true] at hq00
  subst hq00
  obtain ⟨av0, nv0, cv0, vs0, rfl, hvf0, sv0⟩ := read_vols Try.underlying47 Try.underlying168 Try.cellsVol rfl rfl rfl Try.underlying2 Try.underlying2 Try.underlying2 Try.cellsInt Try.cellsInt Try.cellsInt hy10
  obtain ⟨ac0, nc0, cc0, ce0, rfl, hcf0, sc0⟩ := read_vols Try.underlying63 Try.underlying177 Try.cellsCell rfl rfl rfl Try.underlying2 Try.underlying2 Try.underlying2 Try.cellsInt Try.cellsInt Try.cellsInt hy20
  obtain ⟨ah0, nh0, ch0, sh0, rfl, hhf0, ss0⟩ := read_ints Try.underlying52 Try.underlying2 Try.cellsInt hy30
  have sp0 : PlAt W false 0 W.heap.size av0 nv0 cv0 ac0 nc0 cc0 ah0 nh0 ch0 vs0 ce0 sh0 := ⟨sv0, sc0, ss0⟩
  have lt1 : ∀ x ∈ p1, x.block < W.heap.size := by obtain ⟨m, hm⟩ := h1; exact DataW.trod_lt m _ _ _ hm
  have k1 := h1
  obtain ⟨e01, e11, e21, e31, y01, y11, y21, y31, mm1, rfl, _, _, hy01, hy11, hy21, hy31⟩ := open_agg4 Try.underlying65 (by kernel_rfl) Try.cellsPlain (hval 1 65 v1 rfl rfl) h1
  obtain ⟨bl1, hq01, _, _⟩ := DataW.trod_int Try.underlying2 hy01
  simp only [List.cons.injEq, and_true] at hq01
  subst hq01
  obtain ⟨av1, nv1, cv1, vs1, rfl, hvf1, sv1⟩ := read_vols Try.underlying47 Try.underlying168 Try.cellsVol rfl rfl rfl Try.underlying2 Try.underlying2 Try.underlying2 Try.cellsInt Try.cellsInt Try.cellsInt hy11
  obtain ⟨ac1, nc1, cc1, ce1, rfl, hcf1, sc1⟩ := read_vols Try.underlying63 Try.underlying177 Try.cellsCell rfl rfl rfl Try.underlying2 Try.underlying2 Try.underlying2 Try.cellsInt Try.cellsInt Try.cellsInt hy21
  obtain ⟨ah1, nh1, ch1, sh1, rfl, hhf1, ss1⟩ := read_ints Try.underlying52 Try.underlying2 Try.cellsInt hy31
  have sp1 : PlAt W false 0 W.heap.size av1 nv1 cv1 ac1 nc1 cc1 ah1 nh1 ch1 vs1 ce1 sh1 := ⟨sv1, sc1, ss1⟩
  clear hA0 hval0
  refine (lawSamePl _ _ _ _ _ _ _ _ _ _ vs0 ce0 sh0 _ _ _ _ _ _ _ _ _ _ vs1 ce1 sh1 W sp0 hvf0 hcf0 hhf0 sp1 hvf1 hcf1 hhf1).mono fun e W' ⟨he, bel⟩ => ?_
  subst he
  exact ⟨_, rfl, _, _, _, [], _, [], hW', trodAll_mk1 (shut_bool Try.underlying4 _), (trodAll_cons_mk (Below.trod Try.laidOut (by kernel_rfl) (of_decide_eq_true (by kernel_rfl)) k0 bel lt0) (trodAll_cons_mk (Below.trod Try.laidOut (by kernel_rfl) (of_decide_eq_true (by kernel_rfl)) k1 bel lt1) trodAll_mk0)), rfl, bel.frame _, fun h => by cases h⟩

set_option maxRecDepth 100000 in
set_option maxHeartbeats 0 in
theorem closedSamePl : joinedFacts Try.prog 9 Try.f9 Rows.fnExactSamePlainsSpec Rows.fnExactSamePlainsRow = true := by
  have q1 : (Rows.fnExactSamePlainsRow.inPlace == Try.prog.inPlace 9) = true := by rw [inPlace_at leads_is inp_is]; kernel_rfl
  have q2 : (Rows.fnExactSamePlainsRow.unfollowed == Try.prog.unfollowed 9) = true := by rw [unfollowed_at leads_is unf_is]; kernel_rfl
  have q3 : (Rows.fnExactSamePlainsRow.recurses == Try.prog.recurses 9) = true := (by rw [recurses_no leads_is (by rw [unfollowed_at leads_is unf_is]; kernel_rfl) ranks_ok (by kernel_rfl)]; rfl)
  have q4 : (Rows.fnExactSamePlainsRow.named == Try.prog.varsNamed 9) = true := by rw [varsNamed_at leads_is var_ok ent_is]; kernel_rfl
  have q5 : (Try.prog.make == some Rows.fnExactSamePlainsRow.make) = true := by rw [made_cut]; rfl
  have q6 : (Rows.fnExactSamePlainsRow.lifted == Try.prog.liftsFinal) = true := by rw [lifts_no]; rfl
  have q7 : Try.prog.mayEnter = true := may_enter
  have q8 : laidOutB Try.prog = true := Try.laidOut
  unfold joinedFacts
  repeat' (with_reducible refine Bool.and_eq_true_iff.2 ⟨?_, ?_⟩)
  all_goals (first | with_reducible exact q1 | with_reducible exact q2 | with_reducible exact q3 | with_reducible exact q4 | with_reducible exact q5 | with_reducible exact q6 | with_reducible exact q7 | with_reducible exact q8 | (as_aux_lemma => kernel_rfl))

theorem samePl_holds : Rows.FnExactSamePlainsSaid :=
  OpenClaim.holds_of_wide 9 Try.f9 rfl rfl rfl rfl rfl rfl rfl ⟨rfl, rfl, rfl, rfl, rfl⟩ rfl rfl rfl rfl rfl (by as_aux_lemma => kernel_rfl) Try.func9 closedSamePl
    (of_decide_eq_true (by as_aux_lemma => kernel_rfl)) (by unfold Func.isWrapper; first | (rw [if_pos (by decide +kernel)]; kernel_rfl) | (rw [if_neg (by decide +kernel)]; exact ⟨rfl, rfl⟩))
    (fun os started H enc _ => liftedSamePl os started H enc)

#print axioms samePl_holds

end Go.Proofs.Ytikjndmgljkhhaa
