/- At every cluster the program's SafeCluster answers as its model does and writes into no argument: the law FnExactSafeCluster is true at every argument, with no condition. -/
import Derived.Test.YtannjgdginfgeaaGreatQAH
import Derived.Test.YtannjgdginfgeaaGreatQAB
import Derived.Test.YtannjgdginfgeaaGreatRows
import Derived.Test.YtannjgdginfgeaaGreatUB
import Derived.Test.YtannjgdginfgeaaGreatQAY
import Derived.Test.YtannjgdginfgeaaGreatQAZ
import Derived.Test.YtannjgdginfgeaaGreatZC
set_option maxRecDepth 20000
set_option maxHeartbeats 16000000
namespace Go.Proofs.YtannjgdginfgeaaGreat
open Go.RowKit
theorem lawSafeCluster {own : Bool} (N M Sl : Hd) (xs : List Nod) (ms : List Mal) (es : List En) (w : World) (x : ClAt w own 0 w.heap.size N M Sl xs ms es) (hs : ClSz N M Sl xs ms maxLen) : Calls Tryz.prog 3 #[.agg #[.slice N.1 N.2.1 N.2.2, .slice M.1 M.2.1 M.2.2, .slice Sl.1 Sl.2.1 Sl.2.2]] w fun e w' => e = .returned (.bool true) ∧ Below w.heap.size w w' := by
 obtain ⟨cd, hcd⟩ : ∃ cd, (decide (cluF (xs.map (·.1)) (ms.map (·.1)) es = 0) && (((xs.map (·.1)).all (auSeal es) && auMatch (xs.map (·.1))) && (xs.map (·.1)).all (auHas (auG (xs.map (·.1))) es))) = cd := ⟨_, rfl⟩
 have HC : Hid _ := hcd
 clear hcd
 have hd : (cd != cd) = false := by simp
 go_enter Tryz.func3, Tryz.ntmps3
 go_wp2_with (first | ((with_reducible refine box_newX 26 [.slice N.1 N.2.1 N.2.2, .slice M.1 M.2.1 M.2.2, .slice Sl.1 Sl.2.1 Sl.2.2] rfl ?_); intro b0 W0 N0; have ob0 := N0.ge; have B := N0.below; have X0 := N0.bx; have c0 := X0.cell; clear N0) | fail)
 refine (szCluster_lt N M Sl xs ms es _ (x.below B) hs).mono ?_
 rintro e w1 ⟨q, rfl, BB, hq⟩
 replace X0 := X0.below BB
 replace c0 := X0.cell
 replace B := below_next B BB
 clear BB
 rcases hq with hq | ⟨hq0, hq1, HZ⟩
 ·go_wp2
  go_ret
  exact ⟨rfl, B⟩
 have hq' : ¬ q < 0 := by omega
 clear hq0 hq1
 go_wp2_with fail
 refine (toCluster_any N M Sl xs ms es _ (x.below B) HZ).mono ?_
 rintro e w2 ⟨z1, u1, N1, M1, S1, xa, ma, rfl, _, _, y1, e1, e2, z1', BB⟩
 replace X0 := X0.below BB
 replace c0 := X0.cell
 replace B := below_next B BB
 clear BB
 go_wp2_with fail
 refine (auMSC_is N1 M1 S1 xa ma es _ y1 z1' cd (by rw [e1, e2]; exact HC.out)).mono ?_
 rintro e w3 ⟨rfl, BB⟩
 replace X0 := X0.below BB
 replace c0 := X0.cell
 replace B := below_next B BB
 clear BB
 clear y1 z1' e1 e2
 go_wp2_with fail
 refine (toCluster_any N M Sl xs ms es _ (x.below B) HZ).mono ?_
 rintro e w4 ⟨zY, uY, N2, M2, S2, xb, mb, rfl, GzY, hy1, y1, e1, e2, z1', BB⟩
 have ozY : w.heap.size ≤ zY := Nat.le_trans B.size GzY
 have o0_zY := ltl X0.lt GzY
 clear GzY
 replace X0 := X0.below BB
 replace c0 := X0.cell
 replace B := below_next B BB
 have E1 : Hid _ := e1
 have E2 : Hid _ := e2
 clear e1 e2
 clear BB
 go_wp2_with (first | ((with_reducible refine store_midX 33 X1 0 [.slice N2.1 N2.2.1 N2.2.2, .slice M2.1 M2.2.1 M2.2.2, .slice S2.1 S2.2.1 S2.2.2] (by simp) (by kernel_rfl) (by simp [Value.oneCell']) rfl rfl ?_); intro V1 S; replace X0 := X0.kp S.kept; replace c0 := X0.cell; replace X1 : Bx V1 b1 [.slice N2.1 N2.2.1 N2.2.2, .slice M2.1 M2.2.1 M2.2.2, .slice S2.1 S2.2.1 S2.2.2] := S.bx; replace c1 := X1.cell; replace f1 := X1.froz; replace y1 := y1.kept S.kept (by omega); replace hy1 := Nat.le_trans hy1 S.kept.size; replace B := bkp B S.kept; clear S) | ((have g := ob0); clear g; (with_reducible refine alloc_newX 33 [.slice none 0 0, .slice none 0 0, .slice none 0 0] (fun _ => by kernel_rfl) ?_); intro b1 W1 N1; have ob1 := Nat.le_trans B.size N1.ge; have o0_b1 := ltl X0.lt N1.ge; have oy1_b1 : uY ≤ b1 := Nat.le_trans hy1 N1.ge; replace X0 := X0.below N1.below; replace c0 := X0.cell; replace y1 := y1.below N1.below; replace hy1 := Nat.le_trans hy1 N1.below.size; replace B := below_next B N1.below; have X1 := N1.bx; have c1 := X1.cell; have f1 := X1.froz; clear N1) | fail)
 refine (auSC_is N2 M2 S2 xb mb es _ y1 z1' cd (by rw [E1.out, E2.out]; exact HC.out)).mono ?_
 rintro e w5 ⟨rfl, BB⟩
 replace X0 := X0.below BB
 replace c0 := X0.cell
 replace X1 := X1.below BB
 replace c1 := X1.cell
 replace f1 := X1.froz
 replace y1 := y1.below BB
 replace hy1 := Nat.le_trans hy1 BB.size
 replace B := below_next B BB
 clear BB
 go_wp2_with fail
 have DQ : Below w5.heap.size w5 w5.drew := (Below.refl _ _).drew
 replace X0 := X0.below DQ
 replace c0 := X0.cell
 replace X1 := X1.below DQ
 replace c1 := X1.cell
 replace f1 := X1.froz
 replace y1 := y1.below DQ
 replace hy1 := Nat.le_trans hy1 DQ.size
 replace B := below_next B DQ
 clear DQ
 refine wp_region_held_drew (S := (fun w' => (∀ k : Nat, w'.cell? ⟨b0, k, none⟩ = [.slice N.1 N.2.1 N.2.2, .slice M.1 M.2.1 M.2.2, .slice Sl.1 Sl.2.1 Sl.2.2][k]?) ∧ (∀ k : Nat, w'.cell? ⟨b1, k, none⟩ = [.slice N2.1 N2.2.1 N2.2.2, .slice M2.1 M2.2.1 M2.2.2, .slice S2.1 S2.2.1 S2.2.2][k]?))) (by kernel_rfl) ⟨c0, c1⟩ (fun hZq => ?_)
 refine tk 0 hZq ?_
 refine tk 1 hZq ?_
 refine rd1 2 (fun KK hKK => ?_)
 go_simp
 go_at_call 6
 refine (toCluster_any N M Sl xs ms es _ (x.below B) HZ).mono ?_
 rintro e v1 ⟨z9, u9, N9, M9, S9, xc, mc, rfl, _, _, y9, e1, e2, _, BB⟩
 replace X0 := X0.below BB
 replace c0 := X0.cell
 replace X1 := X1.below BB
 replace c1 := X1.cell
 replace f1 := X1.froz
 replace y1 := y1.below BB
 replace hy1 := Nat.le_trans hy1 BB.size
 replace B := below_next B BB
 clear BB
 clear hZq
 refine hKK _ _ ⟨c0, c1⟩ (fun hZq => ?_)
 clear hKK KK
 refine rd1 3 (fun KK hKK => ?_)
 go_simp
 go_at_call 8
 refine (eqCluster_yes N2 M2 S2 N9 M9 S9 xb xc mb mc es _ y1 y9 (e1.trans E1.out.symm) (e2.trans E2.out.symm) z1').mono ?_
 rintro e v2 ⟨rfl, BB⟩
 replace X0 := X0.below BB
 replace c0 := X0.cell
 replace X1 := X1.below BB
 replace c1 := X1.cell
 replace f1 := X1.froz
 replace y1 := y1.below BB
 replace hy1 := Nat.le_trans hy1 BB.size
 replace B := below_next B BB
 clear BB
 clear hZq
 refine hKK _ _ ⟨c0, c1⟩ (fun hZq => ?_)
 clear hKK KK
 refine tk 4 hZq ?_
 refine wpAnyH_done (by kernel_rfl) ?_ _
 go_wp2
 go_ret
 exact ⟨rfl, B⟩
open Go.ChangeShapes Go.WideShapes Go.ChangeAt Go.Joins
set_option maxRecDepth 100000 in
theorem liftedSafeCluster (os : Os) (started : os.Started) (H : Type) (enc : TypeId × Value → H) :
  ReturnsInHanded {} Tryz.checked os 3 .any (Rows.fnExactSafeClusterSpec.pre6 enc Tryz.prog Tryz.f3 Rows.fnExactSafeClusterRow.domain false) (Rows.fnExactSafeClusterSpec.post enc Tryz.prog Tryz.f3 false true false false) := by
 refine returnsInHanded_of_change (C := Tryz.checked) Tryz.own started (by kernel_rfl) Tryz.func3
  (ChangeSpec.witness6 (enc := enc) (C := Tryz.checked) false ⟨#[], #[.agg #[.slice none 0 0, .slice none 0 0, .slice none 0 0]], []⟩ 8 (by kernel_rfl) (by kernel_rfl) (by kernel_rfl) (by kernel_rfl)) ?_
 intro W base args ds gs before hval0 hW hcnd _
 have hval : ∀ (j : Nat) t v, Tryz.f3.params[j]? = some t → args[j]? = some v → Value.okWide Tryz.prog W .any base t v := hval0
 have hW' := hW
 obtain ⟨p, q, hA0, hV, rfl, hfz, hnd⟩ := hW
 have hA : DataW.TrodAll enc Tryz.prog W 0 (fun _ => true) true Tryz.f3.params.toList args.toList ds p := hA0
 rw [Tryz.params3] at hA hval
 obtain ⟨v0, vs0, d0, ds0, p0, q0, hargs, rfl, rfl, h0, r0⟩ := trodAll_cons hA
 obtain ⟨rfl, rfl, rfl⟩ := trodAll_nil r0
 obtain rfl : args = #[v0] := by cases args; simp_all
 obtain ⟨rfl, rfl⟩ := trodVars_none hV
 have lt0 : ∀ x ∈ p0, x.block < W.heap.size := by obtain ⟨m, hm⟩ := h0; exact DataW.trod_lt m _ _ _ hm
 have k0 := h0
 obtain ⟨cN, cM, cS, cx, cm, ce, rfl, cz, cl⟩ := open_cluster Tryz.clTy (hval 0 26 v0 rfl rfl) h0
 clear hA0 hval0
 refine (lawSafeCluster cN cM cS cx cm ce W cl cz).mono fun e W' ⟨he, bel⟩ => ?_
 subst he
 exact ⟨_, rfl, _, _, _, [], _, [], hW', trodAll_mk1 (shut_bool Tryz.underlying4 _), (trodAll_cons_mk (Below.trod Tryz.laidOut (by kernel_rfl) (of_decide_eq_true (by kernel_rfl)) k0 bel lt0) trodAll_mk0), rfl, bel.frame _, fun h => by cases h⟩
set_option maxRecDepth 100000 in
theorem closedSafeCluster : joinedFacts Tryz.prog 3 Tryz.f3 Rows.fnExactSafeClusterSpec Rows.fnExactSafeClusterRow = true := by
 have q1 : (Rows.fnExactSafeClusterRow.inPlace == Tryz.prog.inPlace 3) = true := by rw [inPlace_at leads_is inp_is]; kernel_rfl
 have q2 : (Rows.fnExactSafeClusterRow.unfollowed == Tryz.prog.unfollowed 3) = true := by rw [unfollowed_at leads_is unf_is]; kernel_rfl
 have q3 : (Rows.fnExactSafeClusterRow.recurses == Tryz.prog.recurses 3) = true := (by rw [recurses_unf leads_is (by rw [unfollowed_at leads_is unf_is]; kernel_rfl)]; rfl)
 have q4 : (Rows.fnExactSafeClusterRow.named == Tryz.prog.varsNamed 3) = true := by rw [varsNamed_at leads_is var_ok ent_is]; kernel_rfl
 have q5 : (Tryz.prog.make == some Rows.fnExactSafeClusterRow.make) = true := by rw [made_cut]; rfl
 have q6 : (Rows.fnExactSafeClusterRow.lifted == Tryz.prog.liftsFinal) = true := by rw [lifts_no]; rfl
 have q7 : Tryz.prog.mayEnter = true := may_enter
 have q8 : laidOutB Tryz.prog = true := Tryz.laidOut
 unfold joinedFacts
 repeat' (with_reducible refine Bool.and_eq_true_iff.2 ⟨?_, ?_⟩)
 all_goals (first | with_reducible exact q1 | with_reducible exact q2 | with_reducible exact q3 | with_reducible exact q4 | with_reducible exact q5 | with_reducible exact q6 | with_reducible exact q7 | with_reducible exact q8 | (as_aux_lemma => kernel_rfl))
theorem safeCluster_holds : Rows.FnExactSafeClusterSaid :=
 OpenClaim.holds_of_wide 3 Tryz.f3 rfl rfl rfl rfl rfl rfl rfl ⟨rfl, rfl, rfl, rfl, rfl⟩ rfl rfl rfl rfl rfl (by as_aux_lemma => kernel_rfl) Tryz.func3 closedSafeCluster
  (of_decide_eq_true (by as_aux_lemma => kernel_rfl)) (by unfold Func.isWrapper; first | (rw [if_pos (by decide +kernel)]; kernel_rfl) | (rw [if_neg (by decide +kernel)]; exact ⟨rfl, rfl⟩))
  (fun os started H enc _ => liftedSafeCluster os started H enc)
#print axioms safeCluster_holds
end Go.Proofs.YtannjgdginfgeaaGreat
