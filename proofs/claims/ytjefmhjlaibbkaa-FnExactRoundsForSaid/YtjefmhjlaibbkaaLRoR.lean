/- At every cluster the program's RoundsFor answers as its model does and writes into no argument: the law FnExactRoundsFor is true at every argument, with no condition. -/
import Derived.Test.YtjefmhjlaibbkaaQAGR
import Derived.Test.YtjefmhjlaibbkaaQABR
import Derived.Test.YtjefmhjlaibbkaaRows
import Derived.Test.YtjefmhjlaibbkaaQAVR
import Derived.Test.YtjefmhjlaibbkaaQAWR
import Derived.Test.YtjefmhjlaibbkaaZCR
set_option maxRecDepth 20000
set_option maxHeartbeats 16000000
namespace Go.Proofs.Ytjefmhjlaibbkaa
open Go.RowKit
theorem lawRoundsFor {own : Bool} (N M Sl : Hd) (xs : List Nod) (ms : List Mal) (es : List En) (w : World) (x : ClAt w own 0 w.heap.size N M Sl xs ms es) (hs : ClSz N M Sl xs ms maxLen) : Calls Try.prog 4 #[.agg #[.slice N.1 N.2.1 N.2.2, .slice M.1 M.2.1 M.2.2, .slice Sl.1 Sl.2.1 Sl.2.2]] w fun e w' => e = .returned (.bool true) ∧ Below w.heap.size w w' := by
 obtain ⟨c, hc⟩ : ∃ c, cluF (xs.map (·.1)) (ms.map (·.1)) es = c := ⟨_, rfl⟩
 obtain ⟨v, hv⟩ : ∃ v, rfV c (xs.map (·.1)) = v := ⟨_, rfl⟩
 have HC : Hid _ := hc
 have HV : Hid _ := hv
 clear hc hv
 go_enter Try.func4, Try.ntmps4
 go_wp2_with (first | ((with_reducible refine box_newX 44 [.slice N.1 N.2.1 N.2.2, .slice M.1 M.2.1 M.2.2, .slice Sl.1 Sl.2.1 Sl.2.2] rfl ?_); intro b0 W0 N0; have ob0 := N0.ge; have B := N0.below; obtain ⟨X0, c0⟩ := N0.c; clear N0) | fail)
 refine (szCluster_lt N M Sl xs ms es _ (x.below B) hs).mono ?_
 rintro e w1 ⟨q, rfl, BB, hq⟩
 replace X0 := X0.below BB
 replace c0 := X0.cell
 replace B := below_next B BB
 clear BB
 rcases hq with hq | ⟨hq0, hq1, HZ⟩
 ·go_wp2
  go_ret
  exact ⟨rfl, B⟩
 have hq' : ¬ q < 0 := by omega
 clear hq0 hq1
 go_wp2_with fail
 refine (toCluster_any N M Sl xs ms es _ (x.below B) HZ).mono ?_
 rintro e w2 ⟨z1, u1, N1, M1, S1, xa, ma, rfl, _, _, y1, e1, e2, z1', BB⟩
 replace X0 := X0.below BB
 replace c0 := X0.cell
 replace B := below_next B BB
 clear BB
 go_wp2_with fail
 refine (specRo_is N1 M1 S1 xa ma es _ y1 z1' c v (by rw [e1, e2]; exact HC.out) (by rw [e1]; exact HV.out)).mono ?_
 rintro e w3 ⟨rfl, BB⟩
 replace X0 := X0.below BB
 replace c0 := X0.cell
 replace B := below_next B BB
 clear BB
 clear y1 z1' e1 e2
 go_wp2_with (first | ((with_reducible refine sm 32 X1 0 [.int .i64 c, .int .i64 v] ?_); intro V1 S; replace X0 := X0.kp S.kept; replace c0 := X0.cell; replace X1 : Bx V1 b1 [.int .i64 c, .int .i64 v] := S.bx; replace c1 := X1.cell; replace f1 := X1.froz; replace B := bkp B S.kept; clear S) | ((have g := ob0); clear g; (with_reducible refine al 32 [.int .i64 0, .int .i64 0] ?_); intro b1 W1 N1; have ob1 := N1.o B; have o0_b1 := N1.u X0; replace X0 := N1.r X0; replace c0 := X0.cell; replace B := N1.n B; obtain ⟨X1, c1, f1⟩ := N1.a; clear N1) | fail)
 refine (toCluster_any N M Sl xs ms es _ (x.below B) HZ).mono ?_
 rintro e w4 ⟨zY, uY, N2, M2, S2, xb, mb, rfl, GzY, hy1, y1, e1, e2, z1', BB⟩
 have ozY : w.heap.size ≤ zY := Nat.le_trans B.size GzY
 have o0_zY := ltl X0.lt GzY
 have o1_zY := ltl X1.lt GzY
 clear GzY
 replace X0 := X0.below BB
 replace c0 := X0.cell
 replace X1 := X1.below BB
 replace c1 := X1.cell
 replace f1 := X1.froz
 replace B := below_next B BB
 have E1 : Hid _ := e1
 have E2 : Hid _ := e2
 clear e1 e2
 clear BB
 go_wp2_with (first | ((with_reducible refine sm 49 X2 0 [.slice N2.1 N2.2.1 N2.2.2, .slice M2.1 M2.2.1 M2.2.2, .slice S2.1 S2.2.1 S2.2.2] ?_); intro V2 S; replace X0 := X0.kp S.kept; replace c0 := X0.cell; replace X1 := X1.kp S.kept; replace c1 := X1.cell; replace f1 := X1.froz; replace X2 : Bx V2 b2 [.slice N2.1 N2.2.1 N2.2.2, .slice M2.1 M2.2.1 M2.2.2, .slice S2.1 S2.2.1 S2.2.2] := S.bx; replace c2 := X2.cell; replace f2 := X2.froz; replace y1 := y1.kept S.kept (by omega); replace hy1 := Nat.le_trans hy1 S.kept.size; replace B := bkp B S.kept; clear S) | ((have g := ob1); clear g; (with_reducible refine al 49 [.slice none 0 0, .slice none 0 0, .slice none 0 0] ?_); intro b2 W2 N2; have ob2 := N2.o B; have o0_b2 := N2.u X0; have o1_b2 := N2.u X1; have oy1_b2 : uY ≤ b2 := Nat.le_trans hy1 N2.ge; replace X0 := N2.r X0; replace c0 := X0.cell; replace X1 := N2.r X1; replace c1 := X1.cell; replace f1 := X1.froz; replace y1 := y1.below N2.below; replace hy1 := Nat.le_trans hy1 N2.below.size; replace B := N2.n B; obtain ⟨X2, c2, f2⟩ := N2.a; clear N2) | fail)
 refine (implRo_is N2 M2 S2 xb mb es _ y1 z1' c v (by rw [E1.out, E2.out]; exact HC.out) (by rw [E1.out]; exact HV.out)).mono ?_
 rintro e w5 ⟨rfl, BB⟩
 replace X0 := X0.below BB
 replace c0 := X0.cell
 replace X1 := X1.below BB
 replace c1 := X1.cell
 replace f1 := X1.froz
 replace X2 := X2.below BB
 replace c2 := X2.cell
 replace f2 := X2.froz
 replace y1 := y1.below BB
 replace hy1 := Nat.le_trans hy1 BB.size
 replace B := below_next B BB
 clear BB
 go_wp2_with (first | ((with_reducible refine sm 32 X3 0 [.int .i64 c, .int .i64 v] ?_); intro V3 S; replace X0 := X0.kp S.kept; replace c0 := X0.cell; replace X1 := X1.kp S.kept; replace c1 := X1.cell; replace f1 := X1.froz; replace X2 := X2.kp S.kept; replace c2 := X2.cell; replace f2 := X2.froz; replace X3 : Bx V3 b3 [.int .i64 c, .int .i64 v] := S.bx; replace c3 := X3.cell; replace f3 := X3.froz; replace y1 := y1.kept S.kept (by omega); replace hy1 := Nat.le_trans hy1 S.kept.size; replace B := bkp B S.kept; clear S) | ((have g := ob2); clear g; (with_reducible refine al 32 [.int .i64 0, .int .i64 0] ?_); intro b3 W3 N3; have ob3 := N3.o B; have o0_b3 := N3.u X0; have o1_b3 := N3.u X1; have o2_b3 := N3.u X2; have oy1_b3 : uY ≤ b3 := Nat.le_trans hy1 N3.ge; replace X0 := N3.r X0; replace c0 := X0.cell; replace X1 := N3.r X1; replace c1 := X1.cell; replace f1 := X1.froz; replace X2 := N3.r X2; replace c2 := X2.cell; replace f2 := X2.froz; replace y1 := y1.below N3.below; replace hy1 := Nat.le_trans hy1 N3.below.size; replace B := N3.n B; obtain ⟨X3, c3, f3⟩ := N3.a; clear N3) | fail)
 refine (eqNRes_yes c v _).mono ?_
 rintro e w6 ⟨rfl, BB⟩
 replace X0 := X0.below BB
 replace c0 := X0.cell
 replace X1 := X1.below BB
 replace c1 := X1.cell
 replace f1 := X1.froz
 replace X2 := X2.below BB
 replace c2 := X2.cell
 replace f2 := X2.froz
 replace X3 := X3.below BB
 replace c3 := X3.cell
 replace f3 := X3.froz
 replace y1 := y1.below BB
 replace hy1 := Nat.le_trans hy1 BB.size
 replace B := below_next B BB
 clear BB
 go_wp2_with fail
 have DQ : Below w6.heap.size w6 w6.drew := (Below.refl _ _).drew
 replace X0 := X0.below DQ
 replace c0 := X0.cell
 replace X1 := X1.below DQ
 replace c1 := X1.cell
 replace f1 := X1.froz
 replace X2 := X2.below DQ
 replace c2 := X2.cell
 replace f2 := X2.froz
 replace X3 := X3.below DQ
 replace c3 := X3.cell
 replace f3 := X3.froz
 replace y1 := y1.below DQ
 replace hy1 := Nat.le_trans hy1 DQ.size
 replace B := below_next B DQ
 clear DQ
 refine wp_region_held_drew (S := (fun w' => (∀ k : Nat, w'.cell? ⟨b0, k, none⟩ = [.slice N.1 N.2.1 N.2.2, .slice M.1 M.2.1 M.2.2, .slice Sl.1 Sl.2.1 Sl.2.2][k]?) ∧ (∀ k : Nat, w'.cell? ⟨b2, k, none⟩ = [.slice N2.1 N2.2.1 N2.2.2, .slice M2.1 M2.2.1 M2.2.2, .slice S2.1 S2.2.1 S2.2.2][k]?))) (by kernel_rfl) ⟨c0, c2⟩ (fun hZq => ?_)
 refine tk 0 hZq ?_
 refine tk 1 hZq ?_
 refine rd1 2 (fun KK hKK => ?_)
 go_simp
 go_at_call 15
 refine (toCluster_any N M Sl xs ms es _ (x.below B) HZ).mono ?_
 rintro e v1 ⟨z9, u9, N9, M9, S9, xc, mc, rfl, _, _, y9, e1, e2, _, BB⟩
 replace X0 := X0.below BB
 replace c0 := X0.cell
 replace X1 := X1.below BB
 replace c1 := X1.cell
 replace f1 := X1.froz
 replace X2 := X2.below BB
 replace c2 := X2.cell
 replace f2 := X2.froz
 replace X3 := X3.below BB
 replace c3 := X3.cell
 replace f3 := X3.froz
 replace y1 := y1.below BB
 replace hy1 := Nat.le_trans hy1 BB.size
 replace B := below_next B BB
 clear BB
 clear hZq
 refine hKK _ _ ⟨c0, c2⟩ (fun hZq => ?_)
 clear hKK KK
 refine rd1 3 (fun KK hKK => ?_)
 go_simp
 go_at_call 18
 refine (eqCluster_yes N2 M2 S2 N9 M9 S9 xb xc mb mc es _ y1 y9 (e1.trans E1.out.symm) (e2.trans E2.out.symm) z1').mono ?_
 rintro e v2 ⟨rfl, BB⟩
 replace X0 := X0.below BB
 replace c0 := X0.cell
 replace X1 := X1.below BB
 replace c1 := X1.cell
 replace f1 := X1.froz
 replace X2 := X2.below BB
 replace c2 := X2.cell
 replace f2 := X2.froz
 replace X3 := X3.below BB
 replace c3 := X3.cell
 replace f3 := X3.froz
 replace y1 := y1.below BB
 replace hy1 := Nat.le_trans hy1 BB.size
 replace B := below_next B BB
 clear BB
 clear hZq
 refine hKK _ _ ⟨c0, c2⟩ (fun hZq => ?_)
 clear hKK KK
 refine tk 4 hZq ?_
 refine wpAnyH_done (by kernel_rfl) ?_ _
 go_wp2
 go_ret
 exact ⟨rfl, B⟩
open Go.ChangeShapes Go.WideShapes Go.ChangeAt Go.Joins
set_option maxRecDepth 100000 in
theorem liftedRoundsFor (os : Os) (started : os.Started) (H : Type) (enc : TypeId × Value → H) :
  ReturnsInHanded {} Try.checked os 4 .any (Rows.fnExactRoundsForSpec.pre6 enc Try.prog Try.f4 Rows.fnExactRoundsForRow.domain false) (Rows.fnExactRoundsForSpec.post enc Try.prog Try.f4 false true false false) := by
 refine returnsInHanded_of_change (C := Try.checked) Try.own started (by kernel_rfl) Try.func4
  (ChangeSpec.witness6 (enc := enc) (C := Try.checked) false ⟨#[], #[.agg #[.slice none 0 0, .slice none 0 0, .slice none 0 0]], []⟩ 8 (by kernel_rfl) (by kernel_rfl) (by kernel_rfl) (by kernel_rfl)) ?_
 intro W base args ds gs before hval0 hW hcnd _
 have hval : ∀ (j : Nat) t v, Try.f4.params[j]? = some t → args[j]? = some v → Value.okWide Try.prog W .any base t v := hval0
 have hW' := hW
 obtain ⟨p, q, hA0, hV, rfl, hfz, hnd⟩ := hW
 have hA : DataW.TrodAll enc Try.prog W 0 (fun _ => true) true Try.f4.params.toList args.toList ds p := hA0
 rw [Try.params4] at hA hval
 obtain ⟨v0, vs0, d0, ds0, p0, q0, hargs, rfl, rfl, h0, r0⟩ := trodAll_cons hA
 obtain ⟨rfl, rfl, rfl⟩ := trodAll_nil r0
 obtain rfl : args = #[v0] := by cases args; simp_all
 obtain ⟨rfl, rfl⟩ := trodVars_none hV
 have lt0 : ∀ x ∈ p0, x.block < W.heap.size := by obtain ⟨m, hm⟩ := h0; exact DataW.trod_lt m _ _ _ hm
 have k0 := h0
 obtain ⟨cN, cM, cS, cx, cm, ce, rfl, cz, cl⟩ := open_cluster Try.clTy (hval 0 44 v0 rfl rfl) h0
 clear hA0 hval0
 refine (lawRoundsFor cN cM cS cx cm ce W cl cz).mono fun e W' ⟨he, bel⟩ => ?_
 subst he
 exact ⟨_, rfl, _, _, _, [], _, [], hW', trodAll_mk1 (shut_bool Try.underlying4 _), (trodAll_cons_mk (Below.trod Try.laidOut (by kernel_rfl) (of_decide_eq_true (by kernel_rfl)) k0 bel lt0) trodAll_mk0), rfl, bel.frame _, fun h => by cases h⟩
set_option maxRecDepth 100000 in
theorem closedRoundsFor : joinedFacts Try.prog 4 Try.f4 Rows.fnExactRoundsForSpec Rows.fnExactRoundsForRow = true := by
 have q1 : (Rows.fnExactRoundsForRow.inPlace == Try.prog.inPlace 4) = true := by rw [inPlace_at leads_is inp_is]; kernel_rfl
 have q2 : (Rows.fnExactRoundsForRow.unfollowed == Try.prog.unfollowed 4) = true := by rw [unfollowed_at leads_is unf_is]; kernel_rfl
 have q3 : (Rows.fnExactRoundsForRow.recurses == Try.prog.recurses 4) = true := (by rw [recurses_unf leads_is (by rw [unfollowed_at leads_is unf_is]; kernel_rfl)]; rfl)
 have q4 : (Rows.fnExactRoundsForRow.named == Try.prog.varsNamed 4) = true := by rw [varsNamed_at leads_is var_ok ent_is]; kernel_rfl
 have q5 : (Try.prog.make == some Rows.fnExactRoundsForRow.make) = true := by rw [made_cut]; rfl
 have q6 : (Rows.fnExactRoundsForRow.lifted == Try.prog.liftsFinal) = true := by rw [lifts_no]; rfl
 have q7 : Try.prog.mayEnter = true := may_enter
 have q8 : laidOutB Try.prog = true := Try.laidOut
 unfold joinedFacts
 repeat' (with_reducible refine Bool.and_eq_true_iff.2 ⟨?_, ?_⟩)
 all_goals (first | with_reducible exact q1 | with_reducible exact q2 | with_reducible exact q3 | with_reducible exact q4 | with_reducible exact q5 | with_reducible exact q6 | with_reducible exact q7 | with_reducible exact q8 | (as_aux_lemma => kernel_rfl))
theorem roundsFor_holds : Rows.FnExactRoundsForSaid :=
 OpenClaim.holds_of_wide 4 Try.f4 rfl rfl rfl rfl rfl rfl rfl ⟨rfl, rfl, rfl, rfl, rfl⟩ rfl rfl rfl rfl rfl (by as_aux_lemma => kernel_rfl) Try.func4 closedRoundsFor
  (of_decide_eq_true (by as_aux_lemma => kernel_rfl)) (by unfold Func.isWrapper; first | (rw [if_pos (by decide +kernel)]; kernel_rfl) | (rw [if_neg (by decide +kernel)]; exact ⟨rfl, rfl⟩))
  (fun os started H enc _ => liftedRoundsFor os started H enc)
#print axioms roundsFor_holds
end Go.Proofs.Ytjefmhjlaibbkaa
