/- At every number the program's NewForest answers as its model does, field by field, and owns what it answers: the law FnExactNewForest is true at every argument, with no condition. -/
import Derived.Test.YtkdaphfmhdkhfaaRows
import Derived.Test.YtkdaphfmhdkhfaaZV
import Derived.Test.YtkdaphfmhdkhfaaT8
import Derived.Test.YtkdaphfmhdkhfaaZM
import Derived.Test.YtkdaphfmhdkhfaaZR
namespace Go.Proofs.Ytkdaphfmhdkhfaa
open Go.RowKit

theorem fo_lens {w : World} {o : Bool} {l u : Nat} {an : Option Addr} {nn cn : Nat} {ab : Option Addr} {nb cb : Nat} {K : Nat → KS} {f : Fo} (h : FoAt w o l u an nn cn ab nb cb K f) {N : Nat} (hk : kl f.1 nn ≤ N) : ∀ i, i < nn → (K i).2.1 ≤ N := fun i hi => by
  have h1 := h.nodes.nKids hi
  have h2 := kl_at (ns := f.1) (i := i) (by rw [h.nodes.len]; exact hi)
  rw [h.nodes.len] at h2
  omega

set_option maxRecDepth 20000 in
set_option maxHeartbeats 8000000 in
theorem lawNewForest (x : Int) (w : World) :
    Calls Try.prog 23 #[.int .i64 x] w fun e w' => e = .returned (.bool true) ∧ Below w.heap.size w w' := by
  have B : Below w.heap.size w w := Below.refl _ _
  obtain ⟨cd, hcd⟩ : ∃ cd, newBCode x = cd := ⟨_, rfl⟩
  obtain ⟨rt, hrt⟩ : ∃ rt, (if newBCode x = 0 then (-1 : Int) else 0) = rt := ⟨_, rfl⟩
  obtain ⟨g, hg⟩ : ∃ g, newFoList x = g := ⟨_, rfl⟩
  obtain ⟨hg1, hg2, hg3⟩ : Lesser g := by rw [← hg]; exact newF_size x
  have Hcd : Hid _ := hcd
  have Hrt : Hid _ := hrt
  have Hg : Hid _ := hg
  clear hcd hrt hg
  go_enter Try.func23, Try.ntmps23
  go_wp2_with fail
  refine (specNewF_is x _ cd rt g Hcd.out Hrt.out Hg.out).mono ?_
  rintro e w3 ⟨pn, p1, p2, pb, p3, p4, pK, rfl, dP, hb⟩
  replace B := below_next B hb
  have S1 := hb.size
  clear hb
  have pL : p1 ≤ 2097152 := by rw [← dP.nodes.len]; omega
  have pM : p3 ≤ 2097152 := by rw [← dP.blocks.nPairs]; omega
  have pX : kl g.1 p1 ≤ 1048576 := by rw [← dP.nodes.len]; exact hg3
  have pY : kOf g.1 1 p1 ≤ 4194304 := by have := dP.nodes.len; unfold kOf; omega
  go_wp2_with fail
  have A2 : Below w3.heap.size w3 (w3.alloc (.cells #[.int .i64 cd, .int .i64 rt, .slice pn p1 p2, .slice pb p3 p4] 64)) := (Below.refl _ _).alloc (Nat.le_refl _) _
  replace dP := dP.below A2
  replace B := below_next B A2
  have S3 := A2.size
  clear A2
  have E3 : w3.heap.size + 1 ≤ (w3.alloc (.cells #[.int .i64 cd, .int .i64 rt, .slice pn p1 p2, .slice pb p3 p4] 64)).heap.size := by simp
  have pb0 : (w3.alloc (.cells #[.int .i64 cd, .int .i64 rt, .slice pn p1 p2, .slice pb p3 p4] 64)).cell? ⟨w3.heap.size, 0, none⟩ = some (.int .i64 cd) := by simp
  have pb1 : (w3.alloc (.cells #[.int .i64 cd, .int .i64 rt, .slice pn p1 p2, .slice pb p3 p4] 64)).cell? ⟨w3.heap.size, 1, none⟩ = some (.int .i64 rt) := by simp
  have pb2 : (w3.alloc (.cells #[.int .i64 cd, .int .i64 rt, .slice pn p1 p2, .slice pb p3 p4] 64)).cell? ⟨w3.heap.size, 2, none⟩ = some (.slice pn p1 p2) := by simp
  have pb3 : (w3.alloc (.cells #[.int .i64 cd, .int .i64 rt, .slice pn p1 p2, .slice pb p3 p4] 64)).cell? ⟨w3.heap.size, 3, none⟩ = some (.slice pb p3 p4) := by simp
  have lpb : w3.heap.size < (w3.alloc (.cells #[.int .i64 cd, .int .i64 rt, .slice pn p1 p2, .slice pb p3 p4] 64)).heap.size := by simp
  go_wp2_with fail
  refine (implNewF_is x _ cd rt g Hcd.out Hrt.out Hg.out).mono ?_
  rintro e w5 ⟨qn, q1, q2, qb, q3, q4, qK, rfl, dQ, hb⟩
  replace pb0 := cell_later hb pb0
  replace pb1 := cell_later hb pb1
  replace pb2 := cell_later hb pb2
  replace pb3 := cell_later hb pb3
  replace dP := dP.below hb
  replace lpb := Nat.lt_of_lt_of_le lpb hb.size
  replace B := below_next B hb
  have S4 := hb.size
  clear hb
  have qL : q1 ≤ 2097152 := by rw [← dQ.nodes.len]; omega
  have qM : q3 ≤ 2097152 := by rw [← dQ.blocks.nPairs]; omega
  have qX : kl g.1 q1 ≤ 1048576 := by rw [← dQ.nodes.len]; exact hg3
  have qY : kOf g.1 1 q1 ≤ 4194304 := by have := dQ.nodes.len; unfold kOf; omega
  go_wp2_with fail
  have A5 : Below w5.heap.size w5 (w5.alloc (.cells #[.int .i64 cd, .int .i64 rt, .slice qn q1 q2, .slice qb q3 q4] 64)) := (Below.refl _ _).alloc (Nat.le_refl _) _
  replace pb0 := cell_later A5 pb0
  replace pb1 := cell_later A5 pb1
  replace pb2 := cell_later A5 pb2
  replace pb3 := cell_later A5 pb3
  replace dP := dP.below A5
  replace dQ := dQ.below A5
  replace lpb := Nat.lt_of_lt_of_le lpb A5.size
  replace B := below_next B A5
  have S6 := A5.size
  clear A5
  have E6 : w5.heap.size + 1 ≤ (w5.alloc (.cells #[.int .i64 cd, .int .i64 rt, .slice qn q1 q2, .slice qb q3 q4] 64)).heap.size := by simp
  have qb0 : (w5.alloc (.cells #[.int .i64 cd, .int .i64 rt, .slice qn q1 q2, .slice qb q3 q4] 64)).cell? ⟨w5.heap.size, 0, none⟩ = some (.int .i64 cd) := by simp
  have qb1 : (w5.alloc (.cells #[.int .i64 cd, .int .i64 rt, .slice qn q1 q2, .slice qb q3 q4] 64)).cell? ⟨w5.heap.size, 1, none⟩ = some (.int .i64 rt) := by simp
  have qb2 : (w5.alloc (.cells #[.int .i64 cd, .int .i64 rt, .slice qn q1 q2, .slice qb q3 q4] 64)).cell? ⟨w5.heap.size, 2, none⟩ = some (.slice qn q1 q2) := by simp
  have qb3 : (w5.alloc (.cells #[.int .i64 cd, .int .i64 rt, .slice qn q1 q2, .slice qb q3 q4] 64)).cell? ⟨w5.heap.size, 3, none⟩ = some (.slice qb q3 q4) := by simp
  have lqb : w5.heap.size < (w5.alloc (.cells #[.int .i64 cd, .int .i64 rt, .slice qn q1 q2, .slice qb q3 q4] 64)).heap.size := by simp
  go_wp2_with fail
  refine (eqFRes_yes cd rt _ _ _ _ _ _ _ _ _ _ _ _ qK pK g _ dQ dP qL qM (fo_lens dQ (Nat.le_trans qX (by omega)))).mono ?_
  rintro e w6 ⟨rfl, hb⟩
  replace pb0 := cell_later hb pb0
  replace pb1 := cell_later hb pb1
  replace pb2 := cell_later hb pb2
  replace pb3 := cell_later hb pb3
  replace qb0 := cell_later hb qb0
  replace qb1 := cell_later hb qb1
  replace qb2 := cell_later hb qb2
  replace qb3 := cell_later hb qb3
  replace dP := dP.below hb
  replace dQ := dQ.below hb
  replace lpb := Nat.lt_of_lt_of_le lpb hb.size
  replace lqb := Nat.lt_of_lt_of_le lqb hb.size
  replace B := below_next B hb
  have S7 := hb.size
  clear hb
  go_wp2_with fail
  refine (markFRes_any cd rt _ _ _ _ _ _ qK g _ dQ qY (by omega)).mono ?_
  rintro e w11 ⟨rfl, dM, KK⟩
  replace pb0 := KK.cell pb0 (by omega)
  replace pb1 := KK.cell pb1 (by omega)
  replace pb2 := KK.cell pb2 (by omega)
  replace pb3 := KK.cell pb3 (by omega)
  replace qb0 := KK.cell qb0 (by omega)
  replace qb1 := KK.cell qb1 (by omega)
  replace qb2 := KK.cell qb2 (by omega)
  replace qb3 := KK.cell qb3 (by omega)
  replace dP := dP.kept KK (by omega)
  replace lpb := Nat.lt_of_lt_of_le lpb KK.size
  replace lqb := Nat.lt_of_lt_of_le lqb KK.size
  replace B := B.trans (KK.below _ (by omega) (by omega))
  have S8 := KK.size
  clear dQ KK
  go_wp2_with fail
  refine (heldFRes_any cd rt _ _ _ _ _ _ qK g _ dM qY (by omega)).mono ?_
  rintro e w12 ⟨rfl, hb⟩
  replace pb0 := cell_later hb pb0
  replace pb1 := cell_later hb pb1
  replace pb2 := cell_later hb pb2
  replace pb3 := cell_later hb pb3
  replace qb0 := cell_later hb qb0
  replace qb1 := cell_later hb qb1
  replace qb2 := cell_later hb qb2
  replace qb3 := cell_later hb qb3
  replace dP := dP.below hb
  replace dM := dM.below hb
  replace lpb := Nat.lt_of_lt_of_le lpb hb.size
  replace lqb := Nat.lt_of_lt_of_le lqb hb.size
  replace B := below_next B hb
  have S9 := hb.size
  clear hb
  have hq : ¬ (endF g q1 q3 < 0) := by unfold endF kOf; omega
  have he : ((endF g q1 q3) != (endF g q1 q3)) = false := by simp
  go_wp2_with fail
  refine (implNewF_is x _ cd rt g Hcd.out Hrt.out Hg.out).mono ?_
  rintro e w14 ⟨hn, h1, h2, hb, h3, h4, hK, rfl, dH, hb⟩
  replace pb0 := cell_later hb pb0
  replace pb1 := cell_later hb pb1
  replace pb2 := cell_later hb pb2
  replace pb3 := cell_later hb pb3
  replace qb0 := cell_later hb qb0
  replace qb1 := cell_later hb qb1
  replace qb2 := cell_later hb qb2
  replace qb3 := cell_later hb qb3
  replace dP := dP.below hb
  replace dM := dM.below hb
  replace lpb := Nat.lt_of_lt_of_le lpb hb.size
  replace lqb := Nat.lt_of_lt_of_le lqb hb.size
  replace B := below_next B hb
  have S10 := hb.size
  clear hb
  have hL : h1 ≤ 2097152 := by rw [← dH.nodes.len]; omega
  have hM : h3 ≤ 2097152 := by rw [← dH.blocks.nPairs]; omega
  have hX : kl g.1 h1 ≤ 1048576 := by rw [← dH.nodes.len]; exact hg3
  have hY : kOf g.1 1 h1 ≤ 4194304 := by have := dH.nodes.len; unfold kOf; omega
  go_wp2_with fail
  have A11 : Below w14.heap.size w14 (w14.alloc (.cells #[.int .i64 cd, .int .i64 rt, .slice hn h1 h2, .slice hb h3 h4] 64)) := (Below.refl _ _).alloc (Nat.le_refl _) _
  replace pb0 := cell_later A11 pb0
  replace pb1 := cell_later A11 pb1
  replace pb2 := cell_later A11 pb2
  replace pb3 := cell_later A11 pb3
  replace qb0 := cell_later A11 qb0
  replace qb1 := cell_later A11 qb1
  replace qb2 := cell_later A11 qb2
  replace qb3 := cell_later A11 qb3
  replace dP := dP.below A11
  replace dM := dM.below A11
  replace dH := dH.below A11
  replace lpb := Nat.lt_of_lt_of_le lpb A11.size
  replace lqb := Nat.lt_of_lt_of_le lqb A11.size
  replace B := below_next B A11
  have S12 := A11.size
  clear A11
  have E12 : w14.heap.size + 1 ≤ (w14.alloc (.cells #[.int .i64 cd, .int .i64 rt, .slice hn h1 h2, .slice hb h3 h4] 64)).heap.size := by simp
  have hb0 : (w14.alloc (.cells #[.int .i64 cd, .int .i64 rt, .slice hn h1 h2, .slice hb h3 h4] 64)).cell? ⟨w14.heap.size, 0, none⟩ = some (.int .i64 cd) := by simp
  have hb1 : (w14.alloc (.cells #[.int .i64 cd, .int .i64 rt, .slice hn h1 h2, .slice hb h3 h4] 64)).cell? ⟨w14.heap.size, 1, none⟩ = some (.int .i64 rt) := by simp
  have hb2 : (w14.alloc (.cells #[.int .i64 cd, .int .i64 rt, .slice hn h1 h2, .slice hb h3 h4] 64)).cell? ⟨w14.heap.size, 2, none⟩ = some (.slice hn h1 h2) := by simp
  have hb3 : (w14.alloc (.cells #[.int .i64 cd, .int .i64 rt, .slice hn h1 h2, .slice hb h3 h4] 64)).cell? ⟨w14.heap.size, 3, none⟩ = some (.slice hb h3 h4) := by simp
  have lhb : w14.heap.size < (w14.alloc (.cells #[.int .i64 cd, .int .i64 rt, .slice hn h1 h2, .slice hb h3 h4] 64)).heap.size := by simp
  go_wp2_with fail
  refine (eqFRes_yes cd rt _ _ _ _ _ _ _ _ _ _ _ _ hK pK g _ dH dP hL hM (fo_lens dH (Nat.le_trans hX (by omega)))).mono ?_
  rintro e w15 ⟨rfl, hb⟩
  replace pb0 := cell_later hb pb0
  replace pb1 := cell_later hb pb1
  replace pb2 := cell_later hb pb2
  replace pb3 := cell_later hb pb3
  replace qb0 := cell_later hb qb0
  replace qb1 := cell_later hb qb1
  replace qb2 := cell_later hb qb2
  replace qb3 := cell_later hb qb3
  replace hb0 := cell_later hb hb0
  replace hb1 := cell_later hb hb1
  replace hb2 := cell_later hb hb2
  replace hb3 := cell_later hb hb3
  replace dP := dP.below hb
  replace dM := dM.below hb
  replace dH := dH.below hb
  replace lpb := Nat.lt_of_lt_of_le lpb hb.size
  replace lqb := Nat.lt_of_lt_of_le lqb hb.size
  replace lhb := Nat.lt_of_lt_of_le lhb hb.size
  replace B := below_next B hb
  have S13 := hb.size
  clear hb
  go_wp2_with fail
  refine (heldFRes_any cd rt _ _ _ _ _ _ qK g _ dM qY (by omega)).mono ?_
  rintro e w16 ⟨rfl, hb⟩
  replace pb0 := cell_later hb pb0
  replace pb1 := cell_later hb pb1
  replace pb2 := cell_later hb pb2
  replace pb3 := cell_later hb pb3
  replace qb0 := cell_later hb qb0
  replace qb1 := cell_later hb qb1
  replace qb2 := cell_later hb qb2
  replace qb3 := cell_later hb qb3
  replace hb0 := cell_later hb hb0
  replace hb1 := cell_later hb hb1
  replace hb2 := cell_later hb hb2
  replace hb3 := cell_later hb hb3
  replace dP := dP.below hb
  replace dM := dM.below hb
  replace dH := dH.below hb
  replace lpb := Nat.lt_of_lt_of_le lpb hb.size
  replace lqb := Nat.lt_of_lt_of_le lqb hb.size
  replace lhb := Nat.lt_of_lt_of_le lhb hb.size
  replace B := below_next B hb
  have S14 := hb.size
  clear hb
  go_wp2
  go_ret
  exact ⟨rfl, B⟩

open Go.ChangeShapes Go.WideShapes Go.ChangeAt Go.Joins

set_option maxRecDepth 100000 in
theorem liftedNewForest (os : Os) (started : os.Started) (H : Type) (enc : TypeId × Value → H) :
    ReturnsInHanded {} Try.checked os 23 .any (Rows.fnExactNewForestSpec.pre6 enc Try.prog Try.f23 Rows.fnExactNewForestRow.domain false) (Rows.fnExactNewForestSpec.post enc Try.prog Try.f23 false true false false) := by
  refine returnsInHanded_of_change (C := Try.checked) Try.own started (by kernel_rfl) Try.func23
    (ChangeSpec.witness6 (enc := enc) (C := Try.checked) false ⟨#[], #[.int .i64 0], []⟩ 8 (by kernel_rfl) (by kernel_rfl) (by kernel_rfl) (by kernel_rfl)) ?_
  intro W base args ds gs before hval0 hW hcnd _
  have hval : ∀ (j : Nat) t v, Try.f23.params[j]? = some t → args[j]? = some v → Value.okWide Try.prog W .any base t v := hval0
  have hW' := hW
  obtain ⟨p, q, hA0, hV, rfl, hfz, hnd⟩ := hW
  have hA : DataW.TrodAll enc Try.prog W 0 (fun _ => true) true Try.f23.params.toList args.toList ds p := hA0
  rw [Try.params23] at hA hval
  obtain ⟨v0, vs0, d0, ds0, p0, q0, hargs, rfl, rfl, h0, r0⟩ := trodAll_cons hA
  obtain ⟨rfl, rfl, rfl⟩ := trodAll_nil r0
  obtain rfl : args = #[v0] := by cases args; simp_all
  obtain ⟨rfl, rfl⟩ := trodVars_none hV
  obtain ⟨x0, rfl, rfl, rfl, wx0⟩ := open_int Try.underlying2 (hval 0 2 v0 rfl rfl) h0
  clear hA0 hval0
  refine (lawNewForest x0 W).mono fun e W' ⟨he, bel⟩ => ?_
  subst he
  exact ⟨_, rfl, _, _, _, [], _, [], hW', trodAll_mk1 (shut_bool Try.underlying4 _), (trodAll_cons_mk (shut_int Try.underlying2 wx0) trodAll_mk0), rfl, bel.frame _, fun h => by cases h⟩

set_option maxRecDepth 100000 in
set_option maxHeartbeats 0 in
theorem closedNewForest : joinedFacts Try.prog 23 Try.f23 Rows.fnExactNewForestSpec Rows.fnExactNewForestRow = true := by
  have q1 : (Rows.fnExactNewForestRow.inPlace == Try.prog.inPlace 23) = true := by rw [inPlace_at leads_is inp_is]; kernel_rfl
  have q2 : (Rows.fnExactNewForestRow.unfollowed == Try.prog.unfollowed 23) = true := by rw [unfollowed_at leads_is unf_is]; kernel_rfl
  have q3 : (Rows.fnExactNewForestRow.recurses == Try.prog.recurses 23) = true := (by rw [recurses_no leads_is (by rw [unfollowed_at leads_is unf_is]; kernel_rfl) ranks_ok (by kernel_rfl)]; rfl)
  have q4 : (Rows.fnExactNewForestRow.named == Try.prog.varsNamed 23) = true := by rw [varsNamed_at leads_is var_ok ent_is]; kernel_rfl
  have q5 : (Try.prog.make == some Rows.fnExactNewForestRow.make) = true := by rw [made_cut]; rfl
  have q6 : (Rows.fnExactNewForestRow.lifted == Try.prog.liftsFinal) = true := by rw [lifts_no]; rfl
  have q7 : Try.prog.mayEnter = true := may_enter
  have q8 : laidOutB Try.prog = true := Try.laidOut
  unfold joinedFacts
  repeat' (with_reducible refine Bool.and_eq_true_iff.2 ⟨?_, ?_⟩)
  all_goals (first | with_reducible exact q1 | with_reducible exact q2 | with_reducible exact q3 | with_reducible exact q4 | with_reducible exact q5 | with_reducible exact q6 | with_reducible exact q7 | with_reducible exact q8 | (as_aux_lemma => kernel_rfl))

theorem newForest_holds : Rows.FnExactNewForestSaid :=
  OpenClaim.holds_of_wide 23 Try.f23 rfl rfl rfl rfl rfl rfl rfl ⟨rfl, rfl, rfl, rfl, rfl⟩ rfl rfl rfl rfl rfl (by as_aux_lemma => kernel_rfl) Try.func23 closedNewForest
    (of_decide_eq_true (by as_aux_lemma => kernel_rfl)) (by unfold Func.isWrapper; first | (rw [if_pos (by decide +kernel)]; kernel_rfl) | (rw [if_neg (by decide +kernel)]; exact ⟨rfl, rfl⟩))
    (fun os started H enc _ => liftedNewForest os started H enc)

#print axioms newForest_holds
end Go.Proofs.Ytkdaphfmhdkhfaa
