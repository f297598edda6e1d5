/- At every two logs the program's CommonOf answers as its model does and writes into no argument: the law FnExactCommonOf is true at every argument, with no condition. -/
import Derived.Test.YtpbhiednmnolgaaEX
import Derived.Test.YtpbhiednmnolgaaRows
import Derived.Test.YtpbhiednmnolgaaXA
import Derived.Test.YtpbhiednmnolgaaH6
import Derived.Test.YtpbhiednmnolgaaXB
namespace Go.Proofs.Ytpbhiednmnolgaa
open Go.RowKit

theorem toEntries_ex {own : Bool} {lo hi : Nat} (ao : Option Addr) (n cap : Nat) (xs : List En) (w : World) (h : RowAt w own lo hi 6 ao n cap (sixs xs)) (hn : n ≤ 1048576) :
    Calls Try.prog 33 #[.slice ao n cap] w fun e w' => ∃ g, e = .returned (.slice (some ⟨g, 0, none⟩) n n) ∧ RowAt w' true w.heap.size w'.heap.size 6 (some ⟨g, 0, none⟩) n n (sixs xs) ∧ Below w.heap.size w w' :=
  (toEntries_any ao n cap xs w h hn).mono fun _ _ h => ⟨_, h⟩
set_option maxRecDepth 20000 in
set_option maxHeartbeats 2000000 in
theorem lawCommonOf {o0 : Bool} (a0 : Option Addr) (n0 c0 : Nat) (xs0 : List En) {o1 : Bool} (a1 : Option Addr) (n1 c1 : Nat) (xs1 : List En) (w : World) (h0 : RowAt w o0 0 w.heap.size 6 a0 n0 c0 (sixs xs0)) (hn0 : n0 ≤ maxLen) (h1 : RowAt w o1 0 w.heap.size 6 a1 n1 c1 (sixs xs1)) (hn1 : n1 ≤ maxLen) : Calls Try.prog 9 #[.slice a0 n0 c0, .slice a1 n1 c1] w fun e w' => e = .returned (.bool true) ∧ Below w.heap.size w w' := by
  obtain ⟨cd, hcd⟩ : ∃ cd, commN xs0 xs1 = cd := ⟨_, rfl⟩
  have HC : Hid _ := hcd
  clear hcd
  have hd : (((cd : Int)) != ((cd : Int))) = false := by simp
  have B : Below w.heap.size w w := Below.refl _ _
  go_enter Try.func9, Try.ntmps9
  go_wp2_with fail
  refine (szEntries_left a0 n0 c0 (1048576) _ hn0 (by omega) (by omega)).mono ?_
  rintro e W0 ⟨rfl, rfl⟩
  by_cases hb0 : (1048576 : Int) < n0
  · rw [if_pos hb0]
    go_wp2
    go_ret
    exact ⟨rfl, B⟩
  rw [if_neg hb0]
  have hg0 : ¬ ((1048576 : Int) - n0 < 0) := by omega
  go_wp2_with fail
  refine (szEntries_left a1 n1 c1 (1048576 - n0) _ hn1 (by omega) (by omega)).mono ?_
  rintro e W1 ⟨rfl, rfl⟩
  by_cases hb1 : (1048576 - n0 : Int) < n1
  · rw [if_pos hb1]
    go_wp2
    go_ret
    exact ⟨rfl, B⟩
  rw [if_neg hb1]
  have hg1 : ¬ ((1048576 - n0 : Int) - n1 < 0) := by omega
  have hz0 : n0 ≤ 1048576 := by omega
  have hy0 : n0 ≤ 2097152 := by omega
  have hz1 : n1 ≤ 1048576 := by omega
  have hy1 : n1 ≤ 2097152 := by omega
  go_wp2_with fail
  refine (toEntries_ex a0 n0 c0 xs0 _ (by exact h0.below B) hz0).mono ?_
  rintro e w0 ⟨g0, rfl, t0, hb⟩
  replace B := below_next B hb
  clear hb
  go_wp2_with fail
  refine (toEntries_ex a1 n1 c1 xs1 _ (by exact h1.below B) hz1).mono ?_
  rintro e w1 ⟨g1, rfl, t1, hb⟩
  replace t0 := t0.below hb
  replace B := below_next B hb
  clear hb
  go_wp2_with fail
  refine (specCommon_is _ _ n0 _ n1 _ xs0 xs1 _ t0 t1 hy0 cd HC.out).mono ?_
  rintro e w3 ⟨rfl, hb⟩
  replace t0 := t0.below hb
  replace t1 := t1.below hb
  replace B := below_next B hb
  clear hb
  clear t0 t1
  go_wp2_with fail
  refine (toEntries_ex a0 n0 c0 xs0 _ (by exact h0.below B) hz0).mono ?_
  rintro e u0 ⟨k0, rfl, x0, hb⟩
  replace B := below_next B hb
  clear hb
  go_wp2_with fail
  refine (toEntries_ex a1 n1 c1 xs1 _ (by exact h1.below B) hz1).mono ?_
  rintro e u1 ⟨k1, rfl, x1, hb⟩
  replace x0 := x0.below hb
  replace B := below_next B hb
  clear hb
  go_wp2_with fail
  refine (implCommon_is _ _ n0 _ n1 _ xs0 xs1 _ x0 x1 hy0 cd HC.out).mono ?_
  rintro e w4 ⟨rfl, hb⟩
  replace x0 := x0.below hb
  replace x1 := x1.below hb
  replace B := below_next B hb
  clear hb
  go_wp2_with fail
  refine (toEntries_ex a0 n0 c0 xs0 _ (by exact h0.below B) hz0).mono ?_
  rintro e v0 ⟨m0, rfl, z0, hb⟩
  replace x0 := x0.below hb
  replace x1 := x1.below hb
  replace B := below_next B hb
  clear hb
  go_wp2_with fail
  refine (eqEntries_yes _ _ n0 _ n0 _ xs0 _ x0 z0 hy0).mono ?_
  rintro e q0 ⟨rfl, hb⟩
  replace x0 := x0.below hb
  replace x1 := x1.below hb
  replace z0 := z0.below hb
  replace B := below_next B hb
  clear hb
  clear z0
  go_wp2_with fail
  refine (toEntries_ex a1 n1 c1 xs1 _ (by exact h1.below B) hz1).mono ?_
  rintro e v1 ⟨m1, rfl, z1, hb⟩
  replace x0 := x0.below hb
  replace x1 := x1.below hb
  replace B := below_next B hb
  clear hb
  go_wp2_with fail
  refine (eqEntries_yes _ _ n1 _ n1 _ xs1 _ x1 z1 hy1).mono ?_
  rintro e q1 ⟨rfl, hb⟩
  replace x0 := x0.below hb
  replace x1 := x1.below hb
  replace z1 := z1.below hb
  replace B := below_next B hb
  clear hb
  clear z1
  go_wp2
  go_ret
  exact ⟨rfl, B⟩

open Go.ChangeShapes Go.WideShapes Go.ChangeAt Go.Joins

set_option maxRecDepth 100000 in
theorem liftedCommonOf (os : Os) (started : os.Started) (H : Type) (enc : TypeId × Value → H) :
    ReturnsInHanded {} Try.checked os 9 .any (Rows.fnExactCommonOfSpec.pre6 enc Try.prog Try.f9 Rows.fnExactCommonOfRow.domain false) (Rows.fnExactCommonOfSpec.post enc Try.prog Try.f9 false true false false) := by
  refine returnsInHanded_of_change (C := Try.checked) Try.own started (by kernel_rfl) Try.func9
    (ChangeSpec.witness6 (enc := enc) (C := Try.checked) false ⟨#[], #[.slice none 0 0, .slice none 0 0], []⟩ 8 (by kernel_rfl) (by kernel_rfl) (by kernel_rfl) (by kernel_rfl)) ?_
  intro W base args ds gs before hval0 hW hcnd _
  have hval : ∀ (j : Nat) t v, Try.f9.params[j]? = some t → args[j]? = some v → Value.okWide Try.prog W .any base t v := hval0
  have hW' := hW
  obtain ⟨p, q, hA0, hV, rfl, hfz, hnd⟩ := hW
  have hA : DataW.TrodAll enc Try.prog W 0 (fun _ => true) true Try.f9.params.toList args.toList ds p := hA0
  rw [Try.params9] at hA hval
  obtain ⟨v0, vs0, d0, ds0, p0, q0, hargs, rfl, rfl, h0, r0⟩ := trodAll_cons hA
  obtain ⟨v1, vs1, d1, ds1, p1, q1, rfl, rfl, rfl, h1, r1⟩ := trodAll_cons r0
  obtain ⟨rfl, rfl, rfl⟩ := trodAll_nil r1
  obtain rfl : args = #[v0, v1] := by cases args; simp_all
  obtain ⟨rfl, rfl⟩ := trodVars_none hV
  have lt0 : ∀ x ∈ p0, x.block < W.heap.size := by obtain ⟨m, hm⟩ := h0; exact DataW.trod_lt m _ _ _ hm
  have k0 := h0
  obtain ⟨fuel0, hf0⟩ := h0
  obtain ⟨av0, lv0, cv0, rfl⟩ := okWide_slice Try.underlying57 (hval 0 57 v0 rfl rfl)
  obtain ⟨ae0, ne0, ce0, es0, hve0, he0, se0⟩ := read_entries Try.underlying57 Try.enTy (v := .slice av0 lv0 cv0) (by simpa [Value.cells] using hf0)
  obtain ⟨rfl, rfl, rfl⟩ := Value.slice.inj hve0
  have lt1 : ∀ x ∈ p1, x.block < W.heap.size := by obtain ⟨m, hm⟩ := h1; exact DataW.trod_lt m _ _ _ hm
  have k1 := h1
  obtain ⟨fuel1, hf1⟩ := h1
  obtain ⟨av1, lv1, cv1, rfl⟩ := okWide_slice Try.underlying57 (hval 1 57 v1 rfl rfl)
  obtain ⟨ae1, ne1, ce1, es1, hve1, he1, se1⟩ := read_entries Try.underlying57 Try.enTy (v := .slice av1 lv1 cv1) (by simpa [Value.cells] using hf1)
  obtain ⟨rfl, rfl, rfl⟩ := Value.slice.inj hve1
  clear hA0 hval0
  refine (lawCommonOf _ _ _ es0 _ _ _ es1 W se0 he0 se1 he1).mono fun e W' ⟨he, bel⟩ => ?_
  subst he
  exact ⟨_, rfl, _, _, _, [], _, [], hW', trodAll_mk1 (shut_bool Try.underlying4 _), (trodAll_cons_mk (Below.trod Try.laidOut (by kernel_rfl) (of_decide_eq_true (by kernel_rfl)) k0 bel lt0) (trodAll_cons_mk (Below.trod Try.laidOut (by kernel_rfl) (of_decide_eq_true (by kernel_rfl)) k1 bel lt1) trodAll_mk0)), rfl, bel.frame _, fun h => by cases h⟩

set_option maxRecDepth 100000 in
set_option maxHeartbeats 0 in
theorem closedCommonOf : joinedFacts Try.prog 9 Try.f9 Rows.fnExactCommonOfSpec Rows.fnExactCommonOfRow = true := by
  have q1 : (Rows.fnExactCommonOfRow.inPlace == Try.prog.inPlace 9) = true := by rw [inPlace_at leads_is inp_is]; kernel_rfl
  have q2 : (Rows.fnExactCommonOfRow.unfollowed == Try.prog.unfollowed 9) = true := by rw [unfollowed_at leads_is unf_is]; kernel_rfl
  have q3 : (Rows.fnExactCommonOfRow.recurses == Try.prog.recurses 9) = true := (by rw [recurses_no leads_is (by rw [unfollowed_at leads_is unf_is]; kernel_rfl) ranks_ok (by kernel_rfl)]; rfl)
  have q4 : (Rows.fnExactCommonOfRow.named == Try.prog.varsNamed 9) = true := by rw [varsNamed_at leads_is var_ok ent_is]; kernel_rfl
  have q5 : (Try.prog.make == some Rows.fnExactCommonOfRow.make) = true := by rw [made_cut]; rfl
  have q6 : (Rows.fnExactCommonOfRow.lifted == Try.prog.liftsFinal) = true := by rw [lifts_no]; rfl
  have q7 : Try.prog.mayEnter = true := may_enter
  have q8 : laidOutB Try.prog = true := Try.laidOut
  unfold joinedFacts
  repeat' (with_reducible refine Bool.and_eq_true_iff.2 ⟨?_, ?_⟩)
  all_goals (first | with_reducible exact q1 | with_reducible exact q2 | with_reducible exact q3 | with_reducible exact q4 | with_reducible exact q5 | with_reducible exact q6 | with_reducible exact q7 | with_reducible exact q8 | (as_aux_lemma => kernel_rfl))

theorem commonOf_holds : Rows.FnExactCommonOfSaid :=
  OpenClaim.holds_of_wide 9 Try.f9 rfl rfl rfl rfl rfl rfl rfl ⟨rfl, rfl, rfl, rfl, rfl⟩ rfl rfl rfl rfl rfl (by as_aux_lemma => kernel_rfl) Try.func9 closedCommonOf
    (of_decide_eq_true (by as_aux_lemma => kernel_rfl)) (by unfold Func.isWrapper; first | (rw [if_pos (by decide +kernel)]; kernel_rfl) | (rw [if_neg (by decide +kernel)]; exact ⟨rfl, rfl⟩))
    (fun os started H enc _ => liftedCommonOf os started H enc)

#print axioms commonOf_holds

end Go.Proofs.Ytpbhiednmnolgaa
