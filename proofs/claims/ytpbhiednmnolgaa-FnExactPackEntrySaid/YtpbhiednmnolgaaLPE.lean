/- At every entry the program's PackEntry answers as its model does, field by field, and owns what it answers: the law FnExactPackEntry is true at every argument, with no condition. -/
import Derived.Test.YtpbhiednmnolgaaEX
import Derived.Test.YtpbhiednmnolgaaRows
import Derived.Test.YtpbhiednmnolgaaXA
import Derived.Test.YtpbhiednmnolgaaH4
import Derived.Test.YtpbhiednmnolgaaAll
import Derived.Test.YtpbhiednmnolgaaXB
namespace Go.Proofs.Ytpbhiednmnolgaa
open Go.RowKit

set_option maxRecDepth 20000 in
set_option maxHeartbeats 4000000 in
theorem lawPackEntry (p q k v a x : Int) (w : World) : Calls Try.prog 7 #[.agg #[.int .i64 p, .int .i64 q, .int .i64 k, .int .i64 v, .int .i64 a, .int .i64 x]] w fun e w' => e = .returned (.bool true) ∧ Below w.heap.size w w' := by
  obtain ⟨cd, hcd⟩ : ∃ cd, enFault (p, q, k, v, a, x) = cd := ⟨_, rfl⟩
  obtain ⟨ys, hys⟩ : ∃ ys, packEL (p, q, k, v, a, x) = ys := ⟨_, rfl⟩
  have hb2 : ys.length ≤ 5 := by rw [← hys]; unfold packEL; split <;> simp [packE]
  have Hcd : Hid _ := hcd
  have Hys : Hid _ := hys
  clear hcd hys
  have B : Below w.heap.size w (w.alloc (.cells #[.int .i64 p, .int .i64 q, .int .i64 k, .int .i64 v, .int .i64 a, .int .i64 x] 54)) := (Below.refl _ _).alloc (Nat.le_refl _) _
  have c0 : (w.alloc (.cells #[.int .i64 p, .int .i64 q, .int .i64 k, .int .i64 v, .int .i64 a, .int .i64 x] 54)).cell? ⟨w.heap.size, 0, none⟩ = some (.int .i64 p) := by simp
  have c1 : (w.alloc (.cells #[.int .i64 p, .int .i64 q, .int .i64 k, .int .i64 v, .int .i64 a, .int .i64 x] 54)).cell? ⟨w.heap.size, 1, none⟩ = some (.int .i64 q) := by simp
  have c2 : (w.alloc (.cells #[.int .i64 p, .int .i64 q, .int .i64 k, .int .i64 v, .int .i64 a, .int .i64 x] 54)).cell? ⟨w.heap.size, 2, none⟩ = some (.int .i64 k) := by simp
  have c3 : (w.alloc (.cells #[.int .i64 p, .int .i64 q, .int .i64 k, .int .i64 v, .int .i64 a, .int .i64 x] 54)).cell? ⟨w.heap.size, 3, none⟩ = some (.int .i64 v) := by simp
  have c4 : (w.alloc (.cells #[.int .i64 p, .int .i64 q, .int .i64 k, .int .i64 v, .int .i64 a, .int .i64 x] 54)).cell? ⟨w.heap.size, 4, none⟩ = some (.int .i64 a) := by simp
  have c5 : (w.alloc (.cells #[.int .i64 p, .int .i64 q, .int .i64 k, .int .i64 v, .int .i64 a, .int .i64 x] 54)).cell? ⟨w.heap.size, 5, none⟩ = some (.int .i64 x) := by simp
  have S0 : w.heap.size + 1 ≤ (w.alloc (.cells #[.int .i64 p, .int .i64 q, .int .i64 k, .int .i64 v, .int .i64 a, .int .i64 x] 54)).heap.size := by simp
  have lt0 : w.heap.size < (w.alloc (.cells #[.int .i64 p, .int .i64 q, .int .i64 k, .int .i64 v, .int .i64 a, .int .i64 x] 54)).heap.size := by simp
  go_enter Try.func7, Try.ntmps7
  go_wp2_with fail
  refine (toEntry_any p q k v a x _).mono ?_
  rintro e w2 ⟨rfl, hb⟩
  replace c0 := cell_later hb c0
  replace c1 := cell_later hb c1
  replace c2 := cell_later hb c2
  replace c3 := cell_later hb c3
  replace c4 := cell_later hb c4
  replace c5 := cell_later hb c5
  replace lt0 := Nat.lt_of_lt_of_le lt0 hb.size
  replace B := below_next B hb
  have S1 := hb.size
  clear hb
  go_wp2_with fail
  refine (specPackE_is p q k v a x _ cd ys Hcd.out Hys.out).mono ?_
  rintro e w3 ⟨pa, pn, pc, rfl, dP, hb⟩
  replace c0 := cell_later hb c0
  replace c1 := cell_later hb c1
  replace c2 := cell_later hb c2
  replace c3 := cell_later hb c3
  replace c4 := cell_later hb c4
  replace c5 := cell_later hb c5
  replace lt0 := Nat.lt_of_lt_of_le lt0 hb.size
  replace B := below_next B hb
  have S2 := hb.size
  clear hb
  have pL : pn ≤ 2097152 := by rw [← dP.nInts]; omega
  go_wp2_with fail
  have A3 : Below w3.heap.size w3 (w3.alloc (.cells #[.int .i64 cd, .slice pa pn pc] 35)) := (Below.refl _ _).alloc (Nat.le_refl _) _
  replace c0 := cell_later A3 c0
  replace c1 := cell_later A3 c1
  replace c2 := cell_later A3 c2
  replace c3 := cell_later A3 c3
  replace c4 := cell_later A3 c4
  replace c5 := cell_later A3 c5
  replace dP := dP.below A3
  replace lt0 := Nat.lt_of_lt_of_le lt0 A3.size
  replace B := below_next B A3
  have S4 := A3.size
  clear A3
  have E4 : w3.heap.size + 1 ≤ (w3.alloc (.cells #[.int .i64 cd, .slice pa pn pc] 35)).heap.size := by simp
  have pb0 : (w3.alloc (.cells #[.int .i64 cd, .slice pa pn pc] 35)).cell? ⟨w3.heap.size, 0, none⟩ = some (.int .i64 cd) := by simp
  have pb1 : (w3.alloc (.cells #[.int .i64 cd, .slice pa pn pc] 35)).cell? ⟨w3.heap.size, 1, none⟩ = some (.slice pa pn pc) := by simp
  have lpb : w3.heap.size < (w3.alloc (.cells #[.int .i64 cd, .slice pa pn pc] 35)).heap.size := by simp
  go_wp2_with fail
  refine (toEntry_any p q k v a x _).mono ?_
  rintro e w4 ⟨rfl, hb⟩
  replace c0 := cell_later hb c0
  replace c1 := cell_later hb c1
  replace c2 := cell_later hb c2
  replace c3 := cell_later hb c3
  replace c4 := cell_later hb c4
  replace c5 := cell_later hb c5
  replace pb0 := cell_later hb pb0
  replace pb1 := cell_later hb pb1
  replace dP := dP.below hb
  replace lt0 := Nat.lt_of_lt_of_le lt0 hb.size
  replace lpb := Nat.lt_of_lt_of_le lpb hb.size
  replace B := below_next B hb
  have S5 := hb.size
  clear hb
  go_wp2_with fail
  refine (implPackE_is p q k v a x _ cd ys Hcd.out Hys.out).mono ?_
  rintro e w5 ⟨qa, qn, qc, rfl, dQ, hb⟩
  replace c0 := cell_later hb c0
  replace c1 := cell_later hb c1
  replace c2 := cell_later hb c2
  replace c3 := cell_later hb c3
  replace c4 := cell_later hb c4
  replace c5 := cell_later hb c5
  replace pb0 := cell_later hb pb0
  replace pb1 := cell_later hb pb1
  replace dP := dP.below hb
  replace lt0 := Nat.lt_of_lt_of_le lt0 hb.size
  replace lpb := Nat.lt_of_lt_of_le lpb hb.size
  replace B := below_next B hb
  have S6 := hb.size
  clear hb
  have qL : qn ≤ 2097152 := by rw [← dQ.nInts]; omega
  go_wp2_with fail
  have A7 : Below w5.heap.size w5 (w5.alloc (.cells #[.int .i64 cd, .slice qa qn qc] 35)) := (Below.refl _ _).alloc (Nat.le_refl _) _
  replace c0 := cell_later A7 c0
  replace c1 := cell_later A7 c1
  replace c2 := cell_later A7 c2
  replace c3 := cell_later A7 c3
  replace c4 := cell_later A7 c4
  replace c5 := cell_later A7 c5
  replace pb0 := cell_later A7 pb0
  replace pb1 := cell_later A7 pb1
  replace dP := dP.below A7
  replace dQ := dQ.below A7
  replace lt0 := Nat.lt_of_lt_of_le lt0 A7.size
  replace lpb := Nat.lt_of_lt_of_le lpb A7.size
  replace B := below_next B A7
  have S8 := A7.size
  clear A7
  have E8 : w5.heap.size + 1 ≤ (w5.alloc (.cells #[.int .i64 cd, .slice qa qn qc] 35)).heap.size := by simp
  have qb0 : (w5.alloc (.cells #[.int .i64 cd, .slice qa qn qc] 35)).cell? ⟨w5.heap.size, 0, none⟩ = some (.int .i64 cd) := by simp
  have qb1 : (w5.alloc (.cells #[.int .i64 cd, .slice qa qn qc] 35)).cell? ⟨w5.heap.size, 1, none⟩ = some (.slice qa qn qc) := by simp
  have lqb : w5.heap.size < (w5.alloc (.cells #[.int .i64 cd, .slice qa qn qc] 35)).heap.size := by simp
  go_wp2_with fail
  refine (eqIRes_yes _ _ _ _ _ _ _ _ _ dQ dP qL).mono ?_
  rintro e w6 ⟨rfl, hb⟩
  replace c0 := cell_later hb c0
  replace c1 := cell_later hb c1
  replace c2 := cell_later hb c2
  replace c3 := cell_later hb c3
  replace c4 := cell_later hb c4
  replace c5 := cell_later hb c5
  replace pb0 := cell_later hb pb0
  replace pb1 := cell_later hb pb1
  replace qb0 := cell_later hb qb0
  replace qb1 := cell_later hb qb1
  replace dP := dP.below hb
  replace dQ := dQ.below hb
  replace lt0 := Nat.lt_of_lt_of_le lt0 hb.size
  replace lpb := Nat.lt_of_lt_of_le lpb hb.size
  replace lqb := Nat.lt_of_lt_of_le lqb hb.size
  replace B := below_next B hb
  have S9 := hb.size
  clear hb
  go_wp2_with fail
  refine (markIRes_any _ _ _ _ _ _ dQ (by omega)).mono ?_
  rintro e w11 ⟨rfl, dM, K⟩
  replace c0 := K.cell c0 (by omega)
  replace c1 := K.cell c1 (by omega)
  replace c2 := K.cell c2 (by omega)
  replace c3 := K.cell c3 (by omega)
  replace c4 := K.cell c4 (by omega)
  replace c5 := K.cell c5 (by omega)
  replace pb0 := K.cell pb0 (by omega)
  replace pb1 := K.cell pb1 (by omega)
  replace qb0 := K.cell qb0 (by omega)
  replace qb1 := K.cell qb1 (by omega)
  replace dP := dP.kept K (by omega)
  replace lt0 := Nat.lt_of_lt_of_le lt0 K.size
  replace lpb := Nat.lt_of_lt_of_le lpb K.size
  replace lqb := Nat.lt_of_lt_of_le lqb K.size
  replace B := B.trans (K.below _ (by omega) (by omega))
  have S10 := K.size
  clear dQ K
  go_wp2_with fail
  refine (heldIRes_any _ _ _ _ _ dM (by omega)).mono ?_
  rintro e w12 ⟨rfl, hb⟩
  replace c0 := cell_later hb c0
  replace c1 := cell_later hb c1
  replace c2 := cell_later hb c2
  replace c3 := cell_later hb c3
  replace c4 := cell_later hb c4
  replace c5 := cell_later hb c5
  replace pb0 := cell_later hb pb0
  replace pb1 := cell_later hb pb1
  replace qb0 := cell_later hb qb0
  replace qb1 := cell_later hb qb1
  replace dP := dP.below hb
  replace dM := dM.below hb
  replace lt0 := Nat.lt_of_lt_of_le lt0 hb.size
  replace lpb := Nat.lt_of_lt_of_le lpb hb.size
  replace lqb := Nat.lt_of_lt_of_le lqb hb.size
  replace B := below_next B hb
  have S11 := hb.size
  clear hb
  have hq : ¬ ((1 : Int) + qn < 0) := by omega
  have he : (((1 : Int) + qn) != ((1 : Int) + qn)) = false := by simp
  go_wp2_with fail
  refine (toEntry_any p q k v a x _).mono ?_
  rintro e w13 ⟨rfl, hb⟩
  replace c0 := cell_later hb c0
  replace c1 := cell_later hb c1
  replace c2 := cell_later hb c2
  replace c3 := cell_later hb c3
  replace c4 := cell_later hb c4
  replace c5 := cell_later hb c5
  replace pb0 := cell_later hb pb0
  replace pb1 := cell_later hb pb1
  replace qb0 := cell_later hb qb0
  replace qb1 := cell_later hb qb1
  replace dP := dP.below hb
  replace dM := dM.below hb
  replace lt0 := Nat.lt_of_lt_of_le lt0 hb.size
  replace lpb := Nat.lt_of_lt_of_le lpb hb.size
  replace lqb := Nat.lt_of_lt_of_le lqb hb.size
  replace B := below_next B hb
  have S12 := hb.size
  clear hb
  go_wp2_with fail
  refine (implPackE_is p q k v a x _ cd ys Hcd.out Hys.out).mono ?_
  rintro e w14 ⟨ha, hn, hc, rfl, dH, hb⟩
  replace c0 := cell_later hb c0
  replace c1 := cell_later hb c1
  replace c2 := cell_later hb c2
  replace c3 := cell_later hb c3
  replace c4 := cell_later hb c4
  replace c5 := cell_later hb c5
  replace pb0 := cell_later hb pb0
  replace pb1 := cell_later hb pb1
  replace qb0 := cell_later hb qb0
  replace qb1 := cell_later hb qb1
  replace dP := dP.below hb
  replace dM := dM.below hb
  replace lt0 := Nat.lt_of_lt_of_le lt0 hb.size
  replace lpb := Nat.lt_of_lt_of_le lpb hb.size
  replace lqb := Nat.lt_of_lt_of_le lqb hb.size
  replace B := below_next B hb
  have S13 := hb.size
  clear hb
  have hL : hn ≤ 2097152 := by rw [← dH.nInts]; omega
  go_wp2_with fail
  have A14 : Below w14.heap.size w14 (w14.alloc (.cells #[.int .i64 cd, .slice ha hn hc] 35)) := (Below.refl _ _).alloc (Nat.le_refl _) _
  replace c0 := cell_later A14 c0
  replace c1 := cell_later A14 c1
  replace c2 := cell_later A14 c2
  replace c3 := cell_later A14 c3
  replace c4 := cell_later A14 c4
  replace c5 := cell_later A14 c5
  replace pb0 := cell_later A14 pb0
  replace pb1 := cell_later A14 pb1
  replace qb0 := cell_later A14 qb0
  replace qb1 := cell_later A14 qb1
  replace dP := dP.below A14
  replace dM := dM.below A14
  replace dH := dH.below A14
  replace lt0 := Nat.lt_of_lt_of_le lt0 A14.size
  replace lpb := Nat.lt_of_lt_of_le lpb A14.size
  replace lqb := Nat.lt_of_lt_of_le lqb A14.size
  replace B := below_next B A14
  have S15 := A14.size
  clear A14
  have E15 : w14.heap.size + 1 ≤ (w14.alloc (.cells #[.int .i64 cd, .slice ha hn hc] 35)).heap.size := by simp
  have hb0 : (w14.alloc (.cells #[.int .i64 cd, .slice ha hn hc] 35)).cell? ⟨w14.heap.size, 0, none⟩ = some (.int .i64 cd) := by simp
  have hb1 : (w14.alloc (.cells #[.int .i64 cd, .slice ha hn hc] 35)).cell? ⟨w14.heap.size, 1, none⟩ = some (.slice ha hn hc) := by simp
  have lhb : w14.heap.size < (w14.alloc (.cells #[.int .i64 cd, .slice ha hn hc] 35)).heap.size := by simp
  go_wp2_with fail
  refine (eqIRes_yes _ _ _ _ _ _ _ _ _ dH dP hL).mono ?_
  rintro e w15 ⟨rfl, hb⟩
  replace c0 := cell_later hb c0
  replace c1 := cell_later hb c1
  replace c2 := cell_later hb c2
  replace c3 := cell_later hb c3
  replace c4 := cell_later hb c4
  replace c5 := cell_later hb c5
  replace pb0 := cell_later hb pb0
  replace pb1 := cell_later hb pb1
  replace qb0 := cell_later hb qb0
  replace qb1 := cell_later hb qb1
  replace hb0 := cell_later hb hb0
  replace hb1 := cell_later hb hb1
  replace dP := dP.below hb
  replace dM := dM.below hb
  replace dH := dH.below hb
  replace lt0 := Nat.lt_of_lt_of_le lt0 hb.size
  replace lpb := Nat.lt_of_lt_of_le lpb hb.size
  replace lqb := Nat.lt_of_lt_of_le lqb hb.size
  replace lhb := Nat.lt_of_lt_of_le lhb hb.size
  replace B := below_next B hb
  have S16 := hb.size
  clear hb
  go_wp2_with fail
  refine (heldIRes_any _ _ _ _ _ dM (by omega)).mono ?_
  rintro e w16 ⟨rfl, hb⟩
  replace c0 := cell_later hb c0
  replace c1 := cell_later hb c1
  replace c2 := cell_later hb c2
  replace c3 := cell_later hb c3
  replace c4 := cell_later hb c4
  replace c5 := cell_later hb c5
  replace pb0 := cell_later hb pb0
  replace pb1 := cell_later hb pb1
  replace qb0 := cell_later hb qb0
  replace qb1 := cell_later hb qb1
  replace hb0 := cell_later hb hb0
  replace hb1 := cell_later hb hb1
  replace dP := dP.below hb
  replace dM := dM.below hb
  replace dH := dH.below hb
  replace lt0 := Nat.lt_of_lt_of_le lt0 hb.size
  replace lpb := Nat.lt_of_lt_of_le lpb hb.size
  replace lqb := Nat.lt_of_lt_of_le lqb hb.size
  replace lhb := Nat.lt_of_lt_of_le lhb hb.size
  replace B := below_next B hb
  have S17 := hb.size
  clear hb
  go_wp2
  go_ret
  exact ⟨rfl, B⟩

open Go.ChangeShapes Go.WideShapes Go.ChangeAt Go.Joins

set_option maxRecDepth 100000 in
theorem liftedPackEntry (os : Os) (started : os.Started) (H : Type) (enc : TypeId × Value → H) :
    ReturnsInHanded {} Try.checked os 7 .any (Rows.fnExactPackEntrySpec.pre6 enc Try.prog Try.f7 Rows.fnExactPackEntryRow.domain false) (Rows.fnExactPackEntrySpec.post enc Try.prog Try.f7 false true false false) := by
  refine returnsInHanded_of_change (C := Try.checked) Try.own started (by kernel_rfl) Try.func7
    (ChangeSpec.witness6 (enc := enc) (C := Try.checked) false ⟨#[], #[.agg #[.int .i64 0, .int .i64 0, .int .i64 0, .int .i64 0, .int .i64 0, .int .i64 0]], []⟩ 8 (by kernel_rfl) (by kernel_rfl) (by kernel_rfl) (by kernel_rfl)) ?_
  intro W base args ds gs before hval0 hW hcnd _
  have hval : ∀ (j : Nat) t v, Try.f7.params[j]? = some t → args[j]? = some v → Value.okWide Try.prog W .any base t v := hval0
  have hW' := hW
  obtain ⟨p, q, hA0, hV, rfl, hfz, hnd⟩ := hW
  have hA : DataW.TrodAll enc Try.prog W 0 (fun _ => true) true Try.f7.params.toList args.toList ds p := hA0
  rw [Try.params7] at hA hval
  obtain ⟨v0, vs0, d0, ds0, p0, q0, hargs, rfl, rfl, h0, r0⟩ := trodAll_cons hA
  obtain ⟨rfl, rfl, rfl⟩ := trodAll_nil r0
  obtain rfl : args = #[v0] := by cases args; simp_all
  obtain ⟨rfl, rfl⟩ := trodVars_none hV
  have lt0 : ∀ x ∈ p0, x.block < W.heap.size := by obtain ⟨m, hm⟩ := h0; exact DataW.trod_lt m _ _ _ hm
  have k0 := h0
  obtain ⟨ep, eq, ek, ev, ea, ex, rfl⟩ := open_entry Try.enTy (hval 0 54 v0 rfl rfl) h0
  clear hA0 hval0
  refine (lawPackEntry ep eq ek ev ea ex W).mono fun e W' ⟨he, bel⟩ => ?_
  subst he
  exact ⟨_, rfl, _, _, _, [], _, [], hW', trodAll_mk1 (shut_bool Try.underlying4 _), (trodAll_cons_mk (Below.trod Try.laidOut (by kernel_rfl) (of_decide_eq_true (by kernel_rfl)) k0 bel lt0) trodAll_mk0), rfl, bel.frame _, fun h => by cases h⟩

set_option maxRecDepth 100000 in
set_option maxHeartbeats 0 in
theorem closedPackEntry : joinedFacts Try.prog 7 Try.f7 Rows.fnExactPackEntrySpec Rows.fnExactPackEntryRow = true := by
  have q1 : (Rows.fnExactPackEntryRow.inPlace == Try.prog.inPlace 7) = true := by rw [inPlace_at leads_is inp_is]; kernel_rfl
  have q2 : (Rows.fnExactPackEntryRow.unfollowed == Try.prog.unfollowed 7) = true := by rw [unfollowed_at leads_is unf_is]; kernel_rfl
  have q3 : (Rows.fnExactPackEntryRow.recurses == Try.prog.recurses 7) = true := (by rw [recurses_no leads_is (by rw [unfollowed_at leads_is unf_is]; kernel_rfl) ranks_ok (by kernel_rfl)]; rfl)
  have q4 : (Rows.fnExactPackEntryRow.named == Try.prog.varsNamed 7) = true := by rw [varsNamed_at leads_is var_ok ent_is]; kernel_rfl
  have q5 : (Try.prog.make == some Rows.fnExactPackEntryRow.make) = true := by rw [made_cut]; rfl
  have q6 : (Rows.fnExactPackEntryRow.lifted == Try.prog.liftsFinal) = true := by rw [lifts_no]; rfl
  have q7 : Try.prog.mayEnter = true := may_enter
  have q8 : laidOutB Try.prog = true := Try.laidOut
  unfold joinedFacts
  repeat' (with_reducible refine Bool.and_eq_true_iff.2 ⟨?_, ?_⟩)
  all_goals (first | with_reducible exact q1 | with_reducible exact q2 | with_reducible exact q3 | with_reducible exact q4 | with_reducible exact q5 | with_reducible exact q6 | with_reducible exact q7 | with_reducible exact q8 | (as_aux_lemma => kernel_rfl))

theorem packEntry_holds : Rows.FnExactPackEntrySaid :=
  OpenClaim.holds_of_wide 7 Try.f7 rfl rfl rfl rfl rfl rfl rfl ⟨rfl, rfl, rfl, rfl, rfl⟩ rfl rfl rfl rfl rfl (by as_aux_lemma => kernel_rfl) Try.func7 closedPackEntry
    (of_decide_eq_true (by as_aux_lemma => kernel_rfl)) (by unfold Func.isWrapper; first | (rw [if_pos (by decide +kernel)]; kernel_rfl) | (rw [if_neg (by decide +kernel)]; exact ⟨rfl, rfl⟩))
    (fun os started H enc _ => liftedPackEntry os started H enc)

#print axioms packEntry_holds

end Go.Proofs.Ytpbhiednmnolgaa
