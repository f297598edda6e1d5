/- At every two numbers the program's PrimaryOf answers as its model does, field by field: the law FnExactPrimaryOf is true at every argument, with no condition. -/
import Derived.Test.YtpfocemiipmkiaaRows
import Derived.Test.YtpfocemiipmkiaaWC
import Derived.Test.YtpfocemiipmkiaaI5a
import Derived.Test.YtpfocemiipmkiaaWordAt
import Derived.Test.YtpfocemiipmkiaaWG
namespace Go.Proofs.Ytpfocemiipmkiaa
open Go.RowKit

def primR (view size : Int) : Int × Int := if (0 ≤ view ∧ view ≤ 200) ∧ (1 ≤ size ∧ size ≤ 5) then (0, view % size) else (3, 0)
set_option maxRecDepth 20000 in
set_option maxHeartbeats 2000000 in
theorem specPrim_is (view size : Int) (w : World) (c v : Int) (hd : primR view size = (c, v)) : Calls Try.prog 32 #[.int .i64 view, .int .i64 size] w fun e w' => e = .returned (.agg #[.int .i64 c, .int .i64 v]) ∧ Below w.heap.size w w' := by
  unfold primR at hd
  by_cases hv : 0 ≤ view ∧ view ≤ 200
  rotate_left 1
  · rw [if_neg (by omega)] at hd
    simp only [Prod.mk.injEq] at hd
    obtain ⟨rfl, rfl⟩ := hd
    go_enter Try.func32, Try.ntmps32
    go_wp2_with (first | ((with_reducible refine alloc_newX 41 [.int .i64 0, .int .i64 0] (fun _ => by kernel_rfl) ?_); intro b0 W0 N0; have ob0 : w.heap.size ≤ b0 := N0.ge; have B := N0.below; have X0 := N0.bx; have c0 := X0.cell; have f0 := X0.froz; clear N0) | fail)
    refine (l9View_is view _ false (by simp only [decide_eq_false_eq]; exact hv)).mono ?_
    rintro e W9 ⟨rfl, rfl⟩
    go_wp2_with (first | ((with_reducible refine store_midX 41 X0 0 [.int .i64 3, .int .i64 0] (by simp) (by kernel_rfl) (by simp [Value.oneCell']) rfl rfl ?_); intro V1 S; replace X0 : Bx V1 b0 [.int .i64 3, .int .i64 0] := S.bx; replace c0 := X0.cell; replace f0 := X0.froz; replace B := B.trans (S.kept.below _ (by omega) B.size); clear S))
    refine bodyPost_ret (v := .agg #[.int .i64 3, .int .i64 0]) (by simp [results, Try.results32, go_sem, *]) rfl ⟨rfl, B⟩
  by_cases hs : 1 ≤ size ∧ size ≤ 5
  rotate_left 1
  · rw [if_neg (by omega)] at hd
    simp only [Prod.mk.injEq] at hd
    obtain ⟨rfl, rfl⟩ := hd
    go_enter Try.func32, Try.ntmps32
    go_wp2_with (first | ((with_reducible refine alloc_newX 41 [.int .i64 0, .int .i64 0] (fun _ => by kernel_rfl) ?_); intro b0 W0 N0; have ob0 : w.heap.size ≤ b0 := N0.ge; have B := N0.below; have X0 := N0.bx; have c0 := X0.cell; have f0 := X0.froz; clear N0) | fail)
    refine (l9View_is view _ true (by simp only [decide_eq_true_eq]; exact hv)).mono ?_
    rintro e W9 ⟨rfl, rfl⟩
    go_wp2_with fail
    refine (l1In_is' size 1 5 _ false (by simp only [decide_eq_false_eq]; exact hs)).mono ?_
    rintro e W9 ⟨rfl, rfl⟩
    go_wp2_with (first | ((with_reducible refine store_midX 41 X0 0 [.int .i64 3, .int .i64 0] (by simp) (by kernel_rfl) (by simp [Value.oneCell']) rfl rfl ?_); intro V2 S; replace X0 : Bx V2 b0 [.int .i64 3, .int .i64 0] := S.bx; replace c0 := X0.cell; replace f0 := X0.froz; replace B := B.trans (S.kept.below _ (by omega) B.size); clear S))
    refine bodyPost_ret (v := .agg #[.int .i64 3, .int .i64 0]) (by simp [results, Try.results32, go_sem, *]) rfl ⟨rfl, B⟩
  rw [if_pos ⟨hv, hs⟩] at hd
  simp only [Prod.mk.injEq] at hd
  obtain ⟨rfl, rfl⟩ := hd
  have h0 : ¬ size = 0 := by omega
  have hr : view.tmod size = view % size := Int.tmod_eq_emod_of_nonneg hv.1
  have h2 := Int.emod_nonneg view h0
  have h3 : view % size < size := Int.emod_lt_of_pos view (by omega)
  have hw : IntKind.i64.wrap (view % size) = view % size := wrapI_same _ (by omega)
  clear h2 h3
  go_enter Try.func32, Try.ntmps32
  go_wp2_with (first | ((with_reducible refine alloc_newX 41 [.int .i64 0, .int .i64 0] (fun _ => by kernel_rfl) ?_); intro b0 W0 N0; have ob0 : w.heap.size ≤ b0 := N0.ge; have B := N0.below; have X0 := N0.bx; have c0 := X0.cell; have f0 := X0.froz; clear N0) | fail)
  refine (l9View_is view _ true (by simp only [decide_eq_true_eq]; exact hv)).mono ?_
  rintro e W9 ⟨rfl, rfl⟩
  go_wp2_with fail
  refine (l1In_is' size 1 5 _ true (by simp only [decide_eq_true_eq]; exact hs)).mono ?_
  rintro e W9 ⟨rfl, rfl⟩
  go_wp2_with (first | ((with_reducible refine store_midX 41 X0 0 [.int .i64 0, .int .i64 (view % size)] (by simp) (by kernel_rfl) (by simp [Value.oneCell']) rfl rfl ?_); intro V3 S; replace X0 : Bx V3 b0 [.int .i64 0, .int .i64 (view % size)] := S.bx; replace c0 := X0.cell; replace f0 := X0.froz; replace B := B.trans (S.kept.below _ (by omega) B.size); clear S))
  refine bodyPost_ret (v := .agg #[.int .i64 0, .int .i64 (view % size)]) (by simp [results, Try.results32, go_sem, *]) rfl ⟨rfl, B⟩
set_option maxRecDepth 20000 in
set_option maxHeartbeats 2000000 in
theorem implPrim_is (view size : Int) (w : World) (c v : Int) (hd : primR view size = (c, v)) : Calls Try.prog 15 #[.int .i64 view, .int .i64 size] w fun e w' => e = .returned (.agg #[.int .i64 c, .int .i64 v]) ∧ Below w.heap.size w w' := by
  unfold primR at hd
  by_cases hv : 0 ≤ view ∧ view ≤ 200
  rotate_left 1
  · rw [if_neg (by omega)] at hd
    simp only [Prod.mk.injEq] at hd
    obtain ⟨rfl, rfl⟩ := hd
    go_enter Try.func15, Try.ntmps15
    go_wp2_with (first | ((with_reducible refine alloc_newX 41 [.int .i64 0, .int .i64 0] (fun _ => by kernel_rfl) ?_); intro b0 W0 N0; have ob0 : w.heap.size ≤ b0 := N0.ge; have B := N0.below; have X0 := N0.bx; have c0 := X0.cell; have f0 := X0.froz; clear N0) | fail)
    refine (isView_is view _ false (by simp only [decide_eq_false_eq]; exact hv)).mono ?_
    rintro e W9 ⟨rfl, rfl⟩
    go_wp2_with (first | ((with_reducible refine store_midX 41 X0 0 [.int .i64 3, .int .i64 0] (by simp) (by kernel_rfl) (by simp [Value.oneCell']) rfl rfl ?_); intro V1 S; replace X0 : Bx V1 b0 [.int .i64 3, .int .i64 0] := S.bx; replace c0 := X0.cell; replace f0 := X0.froz; replace B := B.trans (S.kept.below _ (by omega) B.size); clear S))
    refine bodyPost_ret (v := .agg #[.int .i64 3, .int .i64 0]) (by simp [results, Try.results15, go_sem, *]) rfl ⟨rfl, B⟩
  by_cases hs : 1 ≤ size ∧ size ≤ 5
  rotate_left 1
  · rw [if_neg (by omega)] at hd
    simp only [Prod.mk.injEq] at hd
    obtain ⟨rfl, rfl⟩ := hd
    go_enter Try.func15, Try.ntmps15
    go_wp2_with (first | ((with_reducible refine alloc_newX 41 [.int .i64 0, .int .i64 0] (fun _ => by kernel_rfl) ?_); intro b0 W0 N0; have ob0 : w.heap.size ≤ b0 := N0.ge; have B := N0.below; have X0 := N0.bx; have c0 := X0.cell; have f0 := X0.froz; clear N0) | fail)
    refine (isView_is view _ true (by simp only [decide_eq_true_eq]; exact hv)).mono ?_
    rintro e W9 ⟨rfl, rfl⟩
    go_wp2_with fail
    refine (isSize_is size _ false (by simp only [decide_eq_false_eq]; exact hs)).mono ?_
    rintro e W9 ⟨rfl, rfl⟩
    go_wp2_with (first | ((with_reducible refine store_midX 41 X0 0 [.int .i64 3, .int .i64 0] (by simp) (by kernel_rfl) (by simp [Value.oneCell']) rfl rfl ?_); intro V2 S; replace X0 : Bx V2 b0 [.int .i64 3, .int .i64 0] := S.bx; replace c0 := X0.cell; replace f0 := X0.froz; replace B := B.trans (S.kept.below _ (by omega) B.size); clear S))
    refine bodyPost_ret (v := .agg #[.int .i64 3, .int .i64 0]) (by simp [results, Try.results15, go_sem, *]) rfl ⟨rfl, B⟩
  rw [if_pos ⟨hv, hs⟩] at hd
  simp only [Prod.mk.injEq] at hd
  obtain ⟨rfl, rfl⟩ := hd
  go_enter Try.func15, Try.ntmps15
  go_wp2_with (first | ((with_reducible refine alloc_newX 41 [.int .i64 0, .int .i64 0] (fun _ => by kernel_rfl) ?_); intro b0 W0 N0; have ob0 : w.heap.size ≤ b0 := N0.ge; have B := N0.below; have X0 := N0.bx; have c0 := X0.cell; have f0 := X0.froz; clear N0) | fail)
  refine (isView_is view _ true (by simp only [decide_eq_true_eq]; exact hv)).mono ?_
  rintro e W9 ⟨rfl, rfl⟩
  go_wp2_with fail
  refine (isSize_is size _ true (by simp only [decide_eq_true_eq]; exact hs)).mono ?_
  rintro e W9 ⟨rfl, rfl⟩
  go_wp2_with fail
  refine (firstOf_is view size hs (by omega) _).mono ?_
  rintro e W8 ⟨rfl, rfl⟩
  go_wp2_with (first | ((with_reducible refine store_midX 41 X0 0 [.int .i64 0, .int .i64 (view % size)] (by simp) (by kernel_rfl) (by simp [Value.oneCell']) rfl rfl ?_); intro V3 S; replace X0 : Bx V3 b0 [.int .i64 0, .int .i64 (view % size)] := S.bx; replace c0 := X0.cell; replace f0 := X0.froz; replace B := B.trans (S.kept.below _ (by omega) B.size); clear S))
  refine bodyPost_ret (v := .agg #[.int .i64 0, .int .i64 (view % size)]) (by simp [results, Try.results15, go_sem, *]) rfl ⟨rfl, B⟩
set_option maxRecDepth 20000 in
set_option maxHeartbeats 2000000 in
theorem lawPrimaryOf (view size : Int) (w : World) : Calls Try.prog 7 #[.int .i64 view, .int .i64 size] w fun e w' => e = .returned (.bool true) ∧ Below w.heap.size w w' := by
  obtain ⟨⟨c, v⟩, hr⟩ : ∃ x, primR view size = x := ⟨_, rfl⟩
  have HR : Hid _ := hr
  clear hr
  go_enter Try.func7, Try.ntmps7
  go_wp2_with fail
  refine (specPrim_is view size _ c v HR.out).mono ?_
  rintro e w1 ⟨rfl, BB⟩
  have B := BB
  clear BB
  go_wp2_with (first | ((with_reducible refine store_midX 41 X0 0 [.int .i64 c, .int .i64 v] (by simp) (by kernel_rfl) (by simp [Value.oneCell']) rfl rfl ?_); intro V1 S; replace X0 : Bx V1 b0 [.int .i64 c, .int .i64 v] := S.bx; replace c0 := X0.cell; replace f0 := X0.froz; replace B := B.trans (S.kept.below _ (by omega) B.size); clear S) | ((with_reducible refine alloc_newX 41 [.int .i64 0, .int .i64 0] (fun _ => by kernel_rfl) ?_); intro b0 W0 N0; have ob0 : w.heap.size ≤ b0 := Nat.le_trans B.size N0.ge; replace B := below_next B N0.below; have X0 := N0.bx; have c0 := X0.cell; have f0 := X0.froz; clear N0) | fail)
  refine (implPrim_is view size _ c v HR.out).mono ?_
  rintro e w2 ⟨rfl, BB⟩
  replace X0 := X0.below BB
  replace c0 := X0.cell
  replace f0 := X0.froz
  replace B := below_next B BB
  clear BB
  go_wp2_with (first | ((with_reducible refine store_midX 41 X1 0 [.int .i64 c, .int .i64 v] (by simp) (by kernel_rfl) (by simp [Value.oneCell']) rfl rfl ?_); intro V2 S; replace X0 := X0.kept S.kept (by omega); replace c0 := X0.cell; replace f0 := X0.froz; replace X1 : Bx V2 b1 [.int .i64 c, .int .i64 v] := S.bx; replace c1 := X1.cell; replace f1 := X1.froz; replace B := B.trans (S.kept.below _ (by omega) B.size); clear S) | ((have g := ob0); clear g; (with_reducible refine alloc_newX 41 [.int .i64 0, .int .i64 0] (fun _ => by kernel_rfl) ?_); intro b1 W1 N1; have ob1 : w.heap.size ≤ b1 := Nat.le_trans B.size N1.ge; have o0_b1 : b0 < b1 := Nat.lt_of_lt_of_le X0.lt N1.ge; replace X0 := X0.below N1.below; replace c0 := X0.cell; replace f0 := X0.froz; replace B := below_next B N1.below; have X1 := N1.bx; have c1 := X1.cell; have f1 := X1.froz; clear N1) | fail)
  refine (eqNRes_yes c v _).mono ?_
  rintro e w3 ⟨rfl, BB⟩
  replace X0 := X0.below BB
  replace c0 := X0.cell
  replace f0 := X0.froz
  replace X1 := X1.below BB
  replace c1 := X1.cell
  replace f1 := X1.froz
  replace B := below_next B BB
  clear BB
  go_wp2
  go_ret
  exact ⟨rfl, B⟩

open Go.ChangeShapes Go.WideShapes Go.ChangeAt Go.Joins

set_option maxRecDepth 100000 in
theorem liftedPrimaryOf (os : Os) (started : os.Started) (H : Type) (enc : TypeId × Value → H) :
    ReturnsInHanded {} Try.checked os 7 .any (Rows.fnExactPrimaryOfSpec.pre6 enc Try.prog Try.f7 Rows.fnExactPrimaryOfRow.domain false) (Rows.fnExactPrimaryOfSpec.post enc Try.prog Try.f7 false true false false) := by
  refine returnsInHanded_of_change (C := Try.checked) Try.own started (by kernel_rfl) Try.func7
    (ChangeSpec.witness6 (enc := enc) (C := Try.checked) false ⟨#[], #[.int .i64 0, .int .i64 0], []⟩ 8 (by kernel_rfl) (by kernel_rfl) (by kernel_rfl) (by kernel_rfl)) ?_
  intro W base args ds gs before hval0 hW hcnd _
  have hval : ∀ (j : Nat) t v, Try.f7.params[j]? = some t → args[j]? = some v → Value.okWide Try.prog W .any base t v := hval0
  have hW' := hW
  obtain ⟨p, q, hA0, hV, rfl, hfz, hnd⟩ := hW
  have hA : DataW.TrodAll enc Try.prog W 0 (fun _ => true) true Try.f7.params.toList args.toList ds p := hA0
  rw [Try.params7] at hA hval
  obtain ⟨v0, vs0, d0, ds0, p0, q0, hargs, rfl, rfl, h0, r0⟩ := trodAll_cons hA
  obtain ⟨v1, vs1, d1, ds1, p1, q1, rfl, rfl, rfl, h1, r1⟩ := trodAll_cons r0
  obtain ⟨rfl, rfl, rfl⟩ := trodAll_nil r1
  obtain rfl : args = #[v0, v1] := by cases args; simp_all
  obtain ⟨rfl, rfl⟩ := trodVars_none hV
  obtain ⟨x0, rfl, rfl, rfl, wx0⟩ := open_int Try.underlying2 (hval 0 2 v0 rfl rfl) h0
  obtain ⟨x1, rfl, rfl, rfl, wx1⟩ := open_int Try.underlying2 (hval 1 2 v1 rfl rfl) h1
  clear hA0 hval0
  refine (lawPrimaryOf x0 x1 W).mono fun e W' ⟨he, bel⟩ => ?_
  subst he
  exact ⟨_, rfl, _, _, _, [], _, [], hW', trodAll_mk1 (shut_bool Try.underlying4 _), (trodAll_cons_mk (shut_int Try.underlying2 wx0) (trodAll_cons_mk (shut_int Try.underlying2 wx1) trodAll_mk0)), rfl, bel.frame _, fun h => by cases h⟩

set_option maxRecDepth 100000 in
set_option maxHeartbeats 0 in
theorem closedPrimaryOf : joinedFacts Try.prog 7 Try.f7 Rows.fnExactPrimaryOfSpec Rows.fnExactPrimaryOfRow = true := by
  have q1 : (Rows.fnExactPrimaryOfRow.inPlace == Try.prog.inPlace 7) = true := by rw [inPlace_at leads_is inp_is]; kernel_rfl
  have q2 : (Rows.fnExactPrimaryOfRow.unfollowed == Try.prog.unfollowed 7) = true := by rw [unfollowed_at leads_is unf_is]; kernel_rfl
  have q3 : (Rows.fnExactPrimaryOfRow.recurses == Try.prog.recurses 7) = true := (by rw [recurses_no leads_is (by rw [unfollowed_at leads_is unf_is]; kernel_rfl) ranks_ok (by kernel_rfl)]; rfl)
  have q4 : (Rows.fnExactPrimaryOfRow.named == Try.prog.varsNamed 7) = true := by rw [varsNamed_at leads_is var_ok ent_is]; kernel_rfl
  have q5 : (Try.prog.make == some Rows.fnExactPrimaryOfRow.make) = true := by rw [made_cut]; rfl
  have q6 : (Rows.fnExactPrimaryOfRow.lifted == Try.prog.liftsFinal) = true := by rw [lifts_no]; rfl
  have q7 : Try.prog.mayEnter = true := may_enter
  have q8 : laidOutB Try.prog = true := Try.laidOut
  unfold joinedFacts
  repeat' (with_reducible refine Bool.and_eq_true_iff.2 ⟨?_, ?_⟩)
  all_goals (first | with_reducible exact q1 | with_reducible exact q2 | with_reducible exact q3 | with_reducible exact q4 | with_reducible exact q5 | with_reducible exact q6 | with_reducible exact q7 | with_reducible exact q8 | (as_aux_lemma => kernel_rfl))

theorem primaryOf_holds : Rows.FnExactPrimaryOfSaid :=
  OpenClaim.holds_of_wide 7 Try.f7 rfl rfl rfl rfl rfl rfl rfl ⟨rfl, rfl, rfl, rfl, rfl⟩ rfl rfl rfl rfl rfl (by as_aux_lemma => kernel_rfl) Try.func7 closedPrimaryOf
    (of_decide_eq_true (by as_aux_lemma => kernel_rfl)) (by unfold Func.isWrapper; first | (rw [if_pos (by decide +kernel)]; kernel_rfl) | (rw [if_neg (by decide +kernel)]; exact ⟨rfl, rfl⟩))
    (fun os started H enc _ => liftedPrimaryOf os started H enc)

#print axioms primaryOf_holds

end Go.Proofs.Ytpfocemiipmkiaa
