/- At every number the program's NewCluster answers as its model does, field by field, and owns what it answers: the law FnExactNewCluster is true at every argument, with no condition. -/
import Derived.Test.YtikplcpgocgogaaRows
import Derived.Test.YtikplcpgocgogaaCN2
import Derived.Test.YtikplcpgocgogaaCQ1
import Derived.Test.YtikplcpgocgogaaZR
namespace Go.Proofs.Ytikplcpgocgogaa
open Go.RowKit

theorem clAt_bare {w : World} {o : Bool} {lo hi : Nat} {N : Hd} {ys : List Nod} (x : NAt w o lo hi N ys) : ClAt w o lo hi N (none, 0, 0) (none, 0, 0) ys [] [] := by
  refine ⟨x, LAt.nil _ _ _ _ _ _ _, RowAt.nilR _ _ _ _ _ _ _, fun _ => ⟨fun q _ h => ?_, fun q _ h => h.1 rfl, fun q _ h => h.1 rfl⟩⟩
  rcases h with h | ⟨i, a, e, _⟩
  · exact h.1 rfl
  · simp at e
theorem nsum_le5 : ∀ ys : List Nod, (∀ (i : Nat) (a : Nod), ys[i]? = some a → rsum a.2 ≤ 5) → nsum ys ≤ 6 * ys.length
  | [], _ => by simp [nsum]
  | a :: t, h => by
    have h1 := h 0 a (by simp)
    have h2 := nsum_le5 t (fun i b e => h (i + 1) b (by simpa using e))
    simp only [nsum, List.length_cons]
    omega
theorem newL_len (m : Int) : (newL m).length ≤ 5 := by
  unfold newL
  split
  · simp [newK]; omega
  · simp
theorem newAns_z {m : Int} {w w' : World} {e : Ending} (h : NewAns m w w' e) {c : Int} (hc : nclC m = c) : ∃ (z u : Nat) (N : Hd) (ys : List Nod), e = .returned (.agg #[.int .i64 c, .slice N.1 N.2.1 N.2.2, .slice none 0 0, .slice none 0 0]) ∧ w.heap.size ≤ z ∧ u ≤ w'.heap.size ∧ ClAt w' true z u N (none, 0, 0) (none, 0, 0) ys [] [] ∧ ys.map (·.1) = newL m ∧ ClSz N (none, 0, 0) (none, 0, 0) ys [] 1048576 ∧ (1 : Int) + 6 * (nsum ys : Int) ≤ 12000000 ∧ Below w.heap.size w w' := by
  obtain ⟨N, ys, e1, x, e2, s, b⟩ := h
  rw [hc] at e1
  have hl : ys.length ≤ 5 := by
    have h := congrArg List.length e2
    rw [List.length_map] at h
    rw [h]; exact newL_len m
  have h1 := nsum_le5 ys s
  have hn : N.2.1 = ys.length := x.len.symm
  exact ⟨_, _, N, ys, e1, Nat.le_refl _, Nat.le_refl _, clAt_bare x, e2, ⟨by omega, Nat.zero_le _, Nat.zero_le _, fun i a e => (rsum_sz a.2).mono (by have := s i a e; omega), fun i a e => by simp at e⟩, by omega, b⟩
theorem specNewCl_z (m : Int) (w : World) (c : Int) (hc : nclC m = c) : Calls Try.prog 35 #[.int .i64 m] w fun e w' => ∃ (z u : Nat) (N : Hd) (ys : List Nod), e = .returned (.agg #[.int .i64 c, .slice N.1 N.2.1 N.2.2, .slice none 0 0, .slice none 0 0]) ∧ w.heap.size ≤ z ∧ u ≤ w'.heap.size ∧ ClAt w' true z u N (none, 0, 0) (none, 0, 0) ys [] [] ∧ ys.map (·.1) = newL m ∧ ClSz N (none, 0, 0) (none, 0, 0) ys [] 1048576 ∧ (1 : Int) + 6 * (nsum ys : Int) ≤ 12000000 ∧ Below w.heap.size w w' :=
  (specNewCl_is m w).mono fun _ _ h => newAns_z h hc
theorem implNewCl_z (m : Int) (w : World) (c : Int) (hc : nclC m = c) : Calls Try.prog 36 #[.int .i64 m] w fun e w' => ∃ (z u : Nat) (N : Hd) (ys : List Nod), e = .returned (.agg #[.int .i64 c, .slice N.1 N.2.1 N.2.2, .slice none 0 0, .slice none 0 0]) ∧ w.heap.size ≤ z ∧ u ≤ w'.heap.size ∧ ClAt w' true z u N (none, 0, 0) (none, 0, 0) ys [] [] ∧ ys.map (·.1) = newL m ∧ ClSz N (none, 0, 0) (none, 0, 0) ys [] 1048576 ∧ (1 : Int) + 6 * (nsum ys : Int) ≤ 12000000 ∧ Below w.heap.size w w' :=
  (implNewCl_is m w).mono fun _ _ h => newAns_z h hc
set_option maxRecDepth 20000 in
set_option maxHeartbeats 8000000 in
theorem lawNewCluster (m : Int) (w : World) : Calls Try.prog 7 #[.int .i64 m] w fun e w' => e = .returned (.bool true) ∧ Below w.heap.size w w' := by
  obtain ⟨c, hc⟩ : ∃ c, nclC m = c := ⟨_, rfl⟩
  have HC : Hid _ := hc
  clear hc
  go_enter Try.func7, Try.ntmps7
  go_wp2_with fail
  refine (specNewCl_z m _ c HC.out).mono ?_
  rintro e w1 ⟨zp, up, Np, yp, rfl, Gzp, hdP, dP, pe, pz, pn, BB⟩
  have ozp : w.heap.size ≤ zp := Gzp
  clear Gzp
  have B := BB
  have Ep : Hid _ := pe
  have Zp : Hid _ := pz
  have Sp : Hid _ := pn
  clear pe pz pn
  clear BB
  go_wp2_with (first | ((with_reducible refine store_midX 83 X0 0 [.int .i64 c, .slice Np.1 Np.2.1 Np.2.2, .slice none 0 0, .slice none 0 0] (by simp) (by kernel_rfl) (by simp [Value.oneCell']) rfl rfl ?_); intro V1 S; replace X0 : Bx V1 b0 [.int .i64 c, .slice Np.1 Np.2.1 Np.2.2, .slice none 0 0, .slice none 0 0] := S.bx; replace c0 := X0.cell; replace f0 := X0.froz; replace dP := dP.kept S.kept (by omega); replace hdP := Nat.le_trans hdP S.kept.size; replace B := B.trans (S.kept.below _ (by omega) B.size); clear S) | ((with_reducible refine alloc_newX 83 [.int .i64 0, .slice none 0 0, .slice none 0 0, .slice none 0 0] (fun _ => by kernel_rfl) ?_); intro b0 W0 N0; have ob0 : w.heap.size ≤ b0 := Nat.le_trans B.size N0.ge; have odP_b0 : up ≤ b0 := Nat.le_trans hdP N0.ge; replace dP := dP.below N0.below; replace hdP := Nat.le_trans hdP N0.below.size; replace B := below_next B N0.below; have X0 := N0.bx; have c0 := X0.cell; have f0 := X0.froz; clear N0) | fail)
  refine (implNewCl_z m _ c HC.out).mono ?_
  rintro e w2 ⟨zx, ux, Nx, yx, rfl, Gzx, hdQ, dQ, xe, xz, xn, BB⟩
  have ozx : w.heap.size ≤ zx := Nat.le_trans B.size Gzx
  have o0_zx : b0 < zx := Nat.lt_of_lt_of_le X0.lt Gzx
  have odP_zx : up ≤ zx := Nat.le_trans hdP Gzx
  clear Gzx
  replace X0 := X0.below BB
  replace c0 := X0.cell
  replace f0 := X0.froz
  replace dP := dP.below BB
  replace hdP := Nat.le_trans hdP BB.size
  replace B := below_next B BB
  have Ex : Hid _ := xe
  have Zx : Hid _ := xz
  have Sx : Hid _ := xn
  clear xe xz xn
  clear BB
  go_wp2_with (first | ((with_reducible refine store_midX 83 X1 0 [.int .i64 c, .slice Nx.1 Nx.2.1 Nx.2.2, .slice none 0 0, .slice none 0 0] (by simp) (by kernel_rfl) (by simp [Value.oneCell']) rfl rfl ?_); intro V2 S; replace X0 := X0.kept S.kept (by omega); replace c0 := X0.cell; replace f0 := X0.froz; replace X1 : Bx V2 b1 [.int .i64 c, .slice Nx.1 Nx.2.1 Nx.2.2, .slice none 0 0, .slice none 0 0] := S.bx; replace c1 := X1.cell; replace f1 := X1.froz; replace dP := dP.kept S.kept (by omega); replace hdP := Nat.le_trans hdP S.kept.size; replace dQ := dQ.kept S.kept (by omega); replace hdQ := Nat.le_trans hdQ S.kept.size; replace B := B.trans (S.kept.below _ (by omega) B.size); clear S) | ((have g := ob0); clear g; (with_reducible refine alloc_newX 83 [.int .i64 0, .slice none 0 0, .slice none 0 0, .slice none 0 0] (fun _ => by kernel_rfl) ?_); intro b1 W1 N1; have ob1 : w.heap.size ≤ b1 := Nat.le_trans B.size N1.ge; have o0_b1 : b0 < b1 := Nat.lt_of_lt_of_le X0.lt N1.ge; have odP_b1 : up ≤ b1 := Nat.le_trans hdP N1.ge; have odQ_b1 : ux ≤ b1 := Nat.le_trans hdQ N1.ge; replace X0 := X0.below N1.below; replace c0 := X0.cell; replace f0 := X0.froz; replace dP := dP.below N1.below; replace hdP := Nat.le_trans hdP N1.below.size; replace dQ := dQ.below N1.below; replace hdQ := Nat.le_trans hdQ N1.below.size; replace B := below_next B N1.below; have X1 := N1.bx; have c1 := X1.cell; have f1 := X1.froz; clear N1) | fail)
  refine (eqClR_yes c Nx (none, 0, 0) (none, 0, 0) Np (none, 0, 0) (none, 0, 0) yx yp [] [] [] _ dQ dP (Ep.out.trans Ex.out.symm) rfl Zx.out).mono ?_
  rintro e w3 ⟨rfl, BB⟩
  replace X0 := X0.below BB
  replace c0 := X0.cell
  replace f0 := X0.froz
  replace X1 := X1.below BB
  replace c1 := X1.cell
  replace f1 := X1.froz
  replace dP := dP.below BB
  replace hdP := Nat.le_trans hdP BB.size
  replace dQ := dQ.below BB
  replace hdQ := Nat.le_trans hdQ BB.size
  replace B := below_next B BB
  clear BB
  go_wp2_with fail
  have KB : Hid (∀ q, inCl Nx (none, 0, 0) (none, 0, 0) yx [] q → zx ≤ q ∧ q < ux) := fun q hq => ⟨(dQ.inB hq).1, (dQ.inB hq).2.1⟩
  refine (markClR_any c Nx (none, 0, 0) (none, 0, 0) yx [] [] 1 _ dQ Zx.out (by omega) Sx.out).mono ?_
  rintro e w4 ⟨rfl, dM, KS⟩
  have KT := KS.kept KB.out
  clear KS
  replace X0 := X0.kept KT (by omega)
  replace c0 := X0.cell
  replace f0 := X0.froz
  replace X1 := X1.kept KT (by omega)
  replace c1 := X1.cell
  replace f1 := X1.froz
  replace dP := dP.kept KT (by omega)
  replace hdP := Nat.le_trans hdP KT.size
  replace hdQ := Nat.le_trans hdQ KT.size
  replace B := B.trans (KT.below _ (by omega) B.size)
  clear KT
  clear dQ
  have hdM := hdQ
  clear hdQ
  have HI := (cQ_in (k := 1) (by omega) Sx.out Zx.out (rfl : ([] : List Mal).length = 0)).2.2.1
  generalize hqq : c3Q Nx (none, 0, 0) (none, 0, 0) yx [] 1 = qq at *
  have HQQ : Hid _ := hqq
  clear hqq
  have hk : ¬ qq < 0 := by omega
  have he : (qq != qq) = false := by simp
  clear HI
  go_wp2_with fail
  refine (heldClR_any c Nx (none, 0, 0) (none, 0, 0) yx [] 1 _ dM Zx.out rfl (by omega) Sx.out).mono ?_
  rintro e w5 ⟨rfl, BB⟩
  replace X0 := X0.below BB
  replace c0 := X0.cell
  replace f0 := X0.froz
  replace X1 := X1.below BB
  replace c1 := X1.cell
  replace f1 := X1.froz
  replace dP := dP.below BB
  replace hdP := Nat.le_trans hdP BB.size
  replace dM := dM.below BB
  replace hdM := Nat.le_trans hdM BB.size
  replace B := below_next B BB
  clear BB
  rw [HQQ.out]
  go_wp2_with fail
  refine (implNewCl_z m _ c HC.out).mono ?_
  rintro e w6 ⟨zv, uv, Nv, yv, rfl, Gzv, hdH, dH, ve, vz, vn, BB⟩
  have ozv : w.heap.size ≤ zv := Nat.le_trans B.size Gzv
  have o0_zv : b0 < zv := Nat.lt_of_lt_of_le X0.lt Gzv
  have o1_zv : b1 < zv := Nat.lt_of_lt_of_le X1.lt Gzv
  have odP_zv : up ≤ zv := Nat.le_trans hdP Gzv
  have odM_zv : ux ≤ zv := Nat.le_trans hdM Gzv
  clear Gzv
  replace X0 := X0.below BB
  replace c0 := X0.cell
  replace f0 := X0.froz
  replace X1 := X1.below BB
  replace c1 := X1.cell
  replace f1 := X1.froz
  replace dP := dP.below BB
  replace hdP := Nat.le_trans hdP BB.size
  replace dM := dM.below BB
  replace hdM := Nat.le_trans hdM BB.size
  replace B := below_next B BB
  have Ev : Hid _ := ve
  have Zv : Hid _ := vz
  have Sv : Hid _ := vn
  clear ve vz vn
  clear BB
  go_wp2_with (first | ((with_reducible refine store_midX 83 X2 0 [.int .i64 c, .slice Nv.1 Nv.2.1 Nv.2.2, .slice none 0 0, .slice none 0 0] (by simp) (by kernel_rfl) (by simp [Value.oneCell']) rfl rfl ?_); intro V3 S; replace X0 := X0.kept S.kept (by omega); replace c0 := X0.cell; replace f0 := X0.froz; replace X1 := X1.kept S.kept (by omega); replace c1 := X1.cell; replace f1 := X1.froz; replace X2 : Bx V3 b2 [.int .i64 c, .slice Nv.1 Nv.2.1 Nv.2.2, .slice none 0 0, .slice none 0 0] := S.bx; replace c2 := X2.cell; replace f2 := X2.froz; replace dP := dP.kept S.kept (by omega); replace hdP := Nat.le_trans hdP S.kept.size; replace dM := dM.kept S.kept (by omega); replace hdM := Nat.le_trans hdM S.kept.size; replace dH := dH.kept S.kept (by omega); replace hdH := Nat.le_trans hdH S.kept.size; replace B := B.trans (S.kept.below _ (by omega) B.size); clear S) | ((have g := ob1); clear g; (with_reducible refine alloc_newX 83 [.int .i64 0, .slice none 0 0, .slice none 0 0, .slice none 0 0] (fun _ => by kernel_rfl) ?_); intro b2 W2 N2; have ob2 : w.heap.size ≤ b2 := Nat.le_trans B.size N2.ge; have o0_b2 : b0 < b2 := Nat.lt_of_lt_of_le X0.lt N2.ge; have o1_b2 : b1 < b2 := Nat.lt_of_lt_of_le X1.lt N2.ge; have odP_b2 : up ≤ b2 := Nat.le_trans hdP N2.ge; have odM_b2 : ux ≤ b2 := Nat.le_trans hdM N2.ge; have odH_b2 : uv ≤ b2 := Nat.le_trans hdH N2.ge; replace X0 := X0.below N2.below; replace c0 := X0.cell; replace f0 := X0.froz; replace X1 := X1.below N2.below; replace c1 := X1.cell; replace f1 := X1.froz; replace dP := dP.below N2.below; replace hdP := Nat.le_trans hdP N2.below.size; replace dM := dM.below N2.below; replace hdM := Nat.le_trans hdM N2.below.size; replace dH := dH.below N2.below; replace hdH := Nat.le_trans hdH N2.below.size; replace B := below_next B N2.below; have X2 := N2.bx; have c2 := X2.cell; have f2 := X2.froz; clear N2) | fail)
  refine (eqClR_yes c Nv (none, 0, 0) (none, 0, 0) Np (none, 0, 0) (none, 0, 0) yv yp [] [] [] _ dH dP (Ep.out.trans Ev.out.symm) rfl Zv.out).mono ?_
  rintro e w7 ⟨rfl, BB⟩
  replace X0 := X0.below BB
  replace c0 := X0.cell
  replace f0 := X0.froz
  replace X1 := X1.below BB
  replace c1 := X1.cell
  replace f1 := X1.froz
  replace X2 := X2.below BB
  replace c2 := X2.cell
  replace f2 := X2.froz
  replace dP := dP.below BB
  replace hdP := Nat.le_trans hdP BB.size
  replace dM := dM.below BB
  replace hdM := Nat.le_trans hdM BB.size
  replace dH := dH.below BB
  replace hdH := Nat.le_trans hdH BB.size
  replace B := below_next B BB
  clear BB
  go_wp2_with fail
  refine (heldClR_any c Nx (none, 0, 0) (none, 0, 0) yx [] 1 _ dM Zx.out rfl (by omega) Sx.out).mono ?_
  rintro e w8 ⟨rfl, BB⟩
  replace X0 := X0.below BB
  replace c0 := X0.cell
  replace f0 := X0.froz
  replace X1 := X1.below BB
  replace c1 := X1.cell
  replace f1 := X1.froz
  replace X2 := X2.below BB
  replace c2 := X2.cell
  replace f2 := X2.froz
  replace dP := dP.below BB
  replace hdP := Nat.le_trans hdP BB.size
  replace dM := dM.below BB
  replace hdM := Nat.le_trans hdM BB.size
  replace dH := dH.below BB
  replace hdH := Nat.le_trans hdH BB.size
  replace B := below_next B BB
  clear BB
  rw [HQQ.out]
  go_wp2
  go_ret
  exact ⟨rfl, B⟩

open Go.ChangeShapes Go.WideShapes Go.ChangeAt Go.Joins

set_option maxRecDepth 100000 in
theorem liftedNewCluster (os : Os) (started : os.Started) (H : Type) (enc : TypeId × Value → H) :
    ReturnsInHanded {} Try.checked os 7 .any (Rows.fnExactNewClusterSpec.pre6 enc Try.prog Try.f7 Rows.fnExactNewClusterRow.domain false) (Rows.fnExactNewClusterSpec.post enc Try.prog Try.f7 false true false false) := by
  refine returnsInHanded_of_change (C := Try.checked) Try.own started (by kernel_rfl) Try.func7
    (ChangeSpec.witness6 (enc := enc) (C := Try.checked) false ⟨#[], #[.int .i64 0], []⟩ 8 (by kernel_rfl) (by kernel_rfl) (by kernel_rfl) (by kernel_rfl)) ?_
  intro W base args ds gs before hval0 hW hcnd _
  have hval : ∀ (j : Nat) t v, Try.f7.params[j]? = some t → args[j]? = some v → Value.okWide Try.prog W .any base t v := hval0
  have hW' := hW
  obtain ⟨p, q, hA0, hV, rfl, hfz, hnd⟩ := hW
  have hA : DataW.TrodAll enc Try.prog W 0 (fun _ => true) true Try.f7.params.toList args.toList ds p := hA0
  rw [Try.params7] at hA hval
  obtain ⟨v0, vs0, d0, ds0, p0, q0, hargs, rfl, rfl, h0, r0⟩ := trodAll_cons hA
  obtain ⟨rfl, rfl, rfl⟩ := trodAll_nil r0
  obtain rfl : args = #[v0] := by cases args; simp_all
  obtain ⟨rfl, rfl⟩ := trodVars_none hV
  obtain ⟨x0, rfl, rfl, rfl, wx0⟩ := open_int Try.underlying2 (hval 0 2 v0 rfl rfl) h0
  clear hA0 hval0
  refine (lawNewCluster x0 W).mono fun e W' ⟨he, bel⟩ => ?_
  subst he
  exact ⟨_, rfl, _, _, _, [], _, [], hW', trodAll_mk1 (shut_bool Try.underlying4 _), (trodAll_cons_mk (shut_int Try.underlying2 wx0) trodAll_mk0), rfl, bel.frame _, fun h => by cases h⟩

set_option maxRecDepth 100000 in
set_option maxHeartbeats 0 in
theorem closedNewCluster : joinedFacts Try.prog 7 Try.f7 Rows.fnExactNewClusterSpec Rows.fnExactNewClusterRow = true := by
  have q1 : (Rows.fnExactNewClusterRow.inPlace == Try.prog.inPlace 7) = true := by rw [inPlace_at leads_is inp_is]; kernel_rfl
  have q2 : (Rows.fnExactNewClusterRow.unfollowed == Try.prog.unfollowed 7) = true := by rw [unfollowed_at leads_is unf_is]; kernel_rfl
  have q3 : (Rows.fnExactNewClusterRow.recurses == Try.prog.recurses 7) = true := (by rw [recurses_no leads_is (by rw [unfollowed_at leads_is unf_is]; kernel_rfl) ranks_ok (by kernel_rfl)]; rfl)
  have q4 : (Rows.fnExactNewClusterRow.named == Try.prog.varsNamed 7) = true := by rw [varsNamed_at leads_is var_ok ent_is]; kernel_rfl
  have q5 : (Try.prog.make == some Rows.fnExactNewClusterRow.make) = true := by rw [made_cut]; rfl
  have q6 : (Rows.fnExactNewClusterRow.lifted == Try.prog.liftsFinal) = true := by rw [lifts_no]; rfl
  have q7 : Try.prog.mayEnter = true := may_enter
  have q8 : laidOutB Try.prog = true := Try.laidOut
  unfold joinedFacts
  repeat' (with_reducible refine Bool.and_eq_true_iff.2 ⟨?_, ?_⟩)
  all_goals (first | with_reducible exact q1 | with_reducible exact q2 | with_reducible exact q3 | with_reducible exact q4 | with_reducible exact q5 | with_reducible exact q6 | with_reducible exact q7 | with_reducible exact q8 | (as_aux_lemma => kernel_rfl))

theorem newCluster_holds : Rows.FnExactNewClusterSaid :=
  OpenClaim.holds_of_wide 7 Try.f7 rfl rfl rfl rfl rfl rfl rfl ⟨rfl, rfl, rfl, rfl, rfl⟩ rfl rfl rfl rfl rfl (by as_aux_lemma => kernel_rfl) Try.func7 closedNewCluster
    (of_decide_eq_true (by as_aux_lemma => kernel_rfl)) (by unfold Func.isWrapper; first | (rw [if_pos (by decide +kernel)]; kernel_rfl) | (rw [if_neg (by decide +kernel)]; exact ⟨rfl, rfl⟩))
    (fun os started H enc _ => liftedNewCluster os started H enc)

#print axioms newCluster_holds

end Go.Proofs.Ytikplcpgocgogaa
