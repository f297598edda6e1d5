/- At every list of words, place and number the program's ChunkDelta answers as its model does, field by field, writes into no argument and owns what it answers: the law FnExactChunkDelta is true at every argument, with no condition. -/
import Derived.Test.YtcbfmjanjciodaaEX
import Derived.Test.YtcbfmjanjciodaaRows
import Derived.Test.YtcbfmjanjciodaaC1
import Derived.Test.YtcbfmjanjciodaaAll
import Derived.Test.YtcbfmjanjciodaaZR
namespace Go.Proofs.Ytcbfmjanjciodaa
open Go.RowKit

theorem toInts_ex {own : Bool} {lo hi : Nat} (ao : Option Addr) (n cap : Nat) (xs : List Int) (w : World) (h : RowAt w own lo hi 1 ao n cap (ints xs)) (hn : n ≤ 1048576) :
    Calls Try.prog 56 #[.slice ao n cap] w fun e w' => ∃ g, e = .returned (.slice (some ⟨g, 0, none⟩) n n) ∧ RowAt w' true w.heap.size w'.heap.size 1 (some ⟨g, 0, none⟩) n n (ints xs) ∧ Below w.heap.size w w' :=
  (toInts_any ao n cap xs w h hn).mono fun _ _ h => ⟨_, h⟩
theorem chunk_len (xs : List Int) (a k : Int) : (chunkL xs a k).length ≤ xs.length := by
  unfold chunkL
  split
  · rw [List.length_take, List.length_drop]; omega
  · exact Nat.zero_le _

set_option maxRecDepth 20000 in
set_option maxHeartbeats 4000000 in
theorem lawChunkDelta {o0 : Bool} (a0 : Option Addr) (n0 c0 : Nat) (xs : List Int) (a k : Int) (w : World) (h0 : RowAt w o0 0 w.heap.size 1 a0 n0 c0 (ints xs)) (hn : n0 ≤ maxLen) :
    Calls Try.prog 13 #[.slice a0 n0 c0, .int .i64 a, .int .i64 k] w fun e w' => e = .returned (.bool true) ∧ Below w.heap.size w w' := by
  have _ := hn
  have B : Below w.heap.size w w := Below.refl _ _
  have hyl := h0.nInts
  obtain ⟨cd, hcd⟩ : ∃ cd, chunkC xs a k = cd := ⟨_, rfl⟩
  obtain ⟨ys, hys⟩ : ∃ ys, chunkL xs a k = ys := ⟨_, rfl⟩
  have hb2 : ys.length ≤ n0 := by rw [← hys, ← hyl]; exact chunk_len xs a k
  have Hcd : Hid _ := hcd
  have Hys : Hid _ := hys
  clear hcd hys
  go_enter Try.func13, Try.ntmps13
  by_cases hbig : 1048576 < n0
  · have hbi : (1048576 : Int) < (n0 : Int) := by omega
    go_wp2
    go_ret
    exact ⟨rfl, B⟩
  have hbi : ¬ (1048576 : Int) < (n0 : Int) := by omega
  have hsz : n0 ≤ 1048576 := by omega
  have hn0 : n0 ≤ 2097152 := by omega
  go_wp2_with fail
  refine (toInts_ex _ _ _ xs _ (by exact h0.below B) hsz).mono ?_
  rintro e w2 ⟨ta, rfl, rT, hb⟩
  replace B := below_next B hb
  have S1 := hb.size
  clear hb
  go_wp2_with fail
  refine (specChunk_is ta 0 n0 n0 xs _ rT a k cd ys Hcd.out Hys.out).mono ?_
  rintro e w3 ⟨pa, pn, pc, rfl, dP, hb⟩
  replace B := below_next B hb
  have S2 := hb.size
  clear hb
  have pL : pn ≤ 2097152 := by rw [← dP.nInts]; omega
  clear rT
  go_wp2_with fail
  have A3 : Below w3.heap.size w3 (w3.alloc (.cells #[.int .i64 cd, .slice pa pn pc] 92)) := (Below.refl _ _).alloc (Nat.le_refl _) _
  replace dP := dP.below A3
  replace B := below_next B A3
  have S4 := A3.size
  clear A3
  have E4 : w3.heap.size + 1 ≤ (w3.alloc (.cells #[.int .i64 cd, .slice pa pn pc] 92)).heap.size := by simp
  have pb0 : (w3.alloc (.cells #[.int .i64 cd, .slice pa pn pc] 92)).cell? ⟨w3.heap.size, 0, none⟩ = some (.int .i64 cd) := by simp
  have pb1 : (w3.alloc (.cells #[.int .i64 cd, .slice pa pn pc] 92)).cell? ⟨w3.heap.size, 1, none⟩ = some (.slice pa pn pc) := by simp
  have lpb : w3.heap.size < (w3.alloc (.cells #[.int .i64 cd, .slice pa pn pc] 92)).heap.size := by simp
  go_wp2_with fail
  refine (toInts_ex _ _ _ xs _ (by exact h0.below B) hsz).mono ?_
  rintro e w4 ⟨xa, rfl, rX, hb⟩
  replace pb0 := cell_later hb pb0
  replace pb1 := cell_later hb pb1
  replace dP := dP.below hb
  replace lpb := Nat.lt_of_lt_of_le lpb hb.size
  replace B := below_next B hb
  have S5 := hb.size
  clear hb
  go_wp2_with fail
  refine (implChunk_is xa 0 n0 n0 xs _ rX a k cd ys Hcd.out Hys.out).mono ?_
  rintro e w5 ⟨qa, qn, qc, rfl, dQ, hb⟩
  replace pb0 := cell_later hb pb0
  replace pb1 := cell_later hb pb1
  replace dP := dP.below hb
  replace rX := rX.below hb
  replace lpb := Nat.lt_of_lt_of_le lpb hb.size
  replace B := below_next B hb
  have S6 := hb.size
  clear hb
  have qL : qn ≤ 2097152 := by rw [← dQ.nInts]; omega
  go_wp2_with fail
  have A7 : Below w5.heap.size w5 (w5.alloc (.cells #[.int .i64 cd, .slice qa qn qc] 92)) := (Below.refl _ _).alloc (Nat.le_refl _) _
  replace pb0 := cell_later A7 pb0
  replace pb1 := cell_later A7 pb1
  replace dP := dP.below A7
  replace rX := rX.below A7
  replace dQ := dQ.below A7
  replace lpb := Nat.lt_of_lt_of_le lpb A7.size
  replace B := below_next B A7
  have S8 := A7.size
  clear A7
  have E8 : w5.heap.size + 1 ≤ (w5.alloc (.cells #[.int .i64 cd, .slice qa qn qc] 92)).heap.size := by simp
  have qb0 : (w5.alloc (.cells #[.int .i64 cd, .slice qa qn qc] 92)).cell? ⟨w5.heap.size, 0, none⟩ = some (.int .i64 cd) := by simp
  have qb1 : (w5.alloc (.cells #[.int .i64 cd, .slice qa qn qc] 92)).cell? ⟨w5.heap.size, 1, none⟩ = some (.slice qa qn qc) := by simp
  have lqb : w5.heap.size < (w5.alloc (.cells #[.int .i64 cd, .slice qa qn qc] 92)).heap.size := by simp
  go_wp2_with fail
  refine (eqIRes_yes _ _ _ _ _ _ _ _ _ dQ dP qL).mono ?_
  rintro e w6 ⟨rfl, hb⟩
  replace pb0 := cell_later hb pb0
  replace pb1 := cell_later hb pb1
  replace qb0 := cell_later hb qb0
  replace qb1 := cell_later hb qb1
  replace dP := dP.below hb
  replace rX := rX.below hb
  replace dQ := dQ.below hb
  replace lpb := Nat.lt_of_lt_of_le lpb hb.size
  replace lqb := Nat.lt_of_lt_of_le lqb hb.size
  replace B := below_next B hb
  have S9 := hb.size
  clear hb
  go_wp2_with fail
  refine (toInts_ex _ _ _ xs _ (by exact h0.below B) hsz).mono ?_
  rintro e w7 ⟨ya, rfl, rY, hb⟩
  replace pb0 := cell_later hb pb0
  replace pb1 := cell_later hb pb1
  replace qb0 := cell_later hb qb0
  replace qb1 := cell_later hb qb1
  replace dP := dP.below hb
  replace rX := rX.below hb
  replace dQ := dQ.below hb
  replace lpb := Nat.lt_of_lt_of_le lpb hb.size
  replace lqb := Nat.lt_of_lt_of_le lqb hb.size
  replace B := below_next B hb
  have S10 := hb.size
  clear hb
  go_wp2_with fail
  refine (eqInts_is _ _ _ _ _ _ xs xs _ rX rY hn0 hn0 true (by simp)).mono ?_
  rintro e w8 ⟨rfl, hb⟩
  replace pb0 := cell_later hb pb0
  replace pb1 := cell_later hb pb1
  replace qb0 := cell_later hb qb0
  replace qb1 := cell_later hb qb1
  replace dP := dP.below hb
  replace rX := rX.below hb
  replace dQ := dQ.below hb
  replace lpb := Nat.lt_of_lt_of_le lpb hb.size
  replace lqb := Nat.lt_of_lt_of_le lqb hb.size
  replace B := below_next B hb
  have S11 := hb.size
  clear hb
  clear rY
  go_wp2_with fail
  refine (markInts_any _ _ _ xs _ _ rX (by omega) (by omega) (by omega)).mono ?_
  rintro e w9 ⟨rfl, rX', K⟩
  replace pb0 := K.cell pb0 (by omega)
  replace pb1 := K.cell pb1 (by omega)
  replace qb0 := K.cell qb0 (by omega)
  replace qb1 := K.cell qb1 (by omega)
  replace dP := dP.kept K (by omega)
  replace dQ := dQ.kept K (by omega)
  replace lpb := Nat.lt_of_lt_of_le lpb K.size
  replace lqb := Nat.lt_of_lt_of_le lqb K.size
  replace B := B.trans (K.below _ (by omega) (by omega))
  have S12 := K.size
  clear rX rX' K
  have hk : ¬ ((1 : Int) + n0 < 0) := by omega
  go_wp2_with fail
  refine (eqIRes_yes _ _ _ _ _ _ _ _ _ dQ dP qL).mono ?_
  rintro e w10 ⟨rfl, hb⟩
  replace pb0 := cell_later hb pb0
  replace pb1 := cell_later hb pb1
  replace qb0 := cell_later hb qb0
  replace qb1 := cell_later hb qb1
  replace dP := dP.below hb
  replace dQ := dQ.below hb
  replace lpb := Nat.lt_of_lt_of_le lpb hb.size
  replace lqb := Nat.lt_of_lt_of_le lqb hb.size
  replace B := below_next B hb
  have S13 := hb.size
  clear hb
  go_wp2_with fail
  refine (markIRes_any _ _ _ _ _ _ dQ (by omega)).mono ?_
  rintro e w11 ⟨rfl, dM, K⟩
  replace pb0 := K.cell pb0 (by omega)
  replace pb1 := K.cell pb1 (by omega)
  replace qb0 := K.cell qb0 (by omega)
  replace qb1 := K.cell qb1 (by omega)
  replace dP := dP.kept K (by omega)
  replace lpb := Nat.lt_of_lt_of_le lpb K.size
  replace lqb := Nat.lt_of_lt_of_le lqb K.size
  replace B := B.trans (K.below _ (by omega) (by omega))
  have S14 := K.size
  clear dQ K
  go_wp2_with fail
  refine (heldIRes_any _ _ _ _ _ dM (by omega)).mono ?_
  rintro e w12 ⟨rfl, hb⟩
  replace pb0 := cell_later hb pb0
  replace pb1 := cell_later hb pb1
  replace qb0 := cell_later hb qb0
  replace qb1 := cell_later hb qb1
  replace dP := dP.below hb
  replace dM := dM.below hb
  replace lpb := Nat.lt_of_lt_of_le lpb hb.size
  replace lqb := Nat.lt_of_lt_of_le lqb hb.size
  replace B := below_next B hb
  have S15 := hb.size
  clear hb
  have hq : ¬ ((1 : Int) + qn < 0) := by omega
  have he : (((1 : Int) + qn) != ((1 : Int) + qn)) = false := by simp
  go_wp2_with fail
  refine (toInts_ex _ _ _ xs _ (by exact h0.below B) hsz).mono ?_
  rintro e w13 ⟨tb, rfl, rT, hb⟩
  replace pb0 := cell_later hb pb0
  replace pb1 := cell_later hb pb1
  replace qb0 := cell_later hb qb0
  replace qb1 := cell_later hb qb1
  replace dP := dP.below hb
  replace dM := dM.below hb
  replace lpb := Nat.lt_of_lt_of_le lpb hb.size
  replace lqb := Nat.lt_of_lt_of_le lqb hb.size
  replace B := below_next B hb
  have S16 := hb.size
  clear hb
  go_wp2_with fail
  refine (implChunk_is tb 0 n0 n0 xs _ rT a k cd ys Hcd.out Hys.out).mono ?_
  rintro e w14 ⟨ha, hn, hc, rfl, dH, hb⟩
  replace pb0 := cell_later hb pb0
  replace pb1 := cell_later hb pb1
  replace qb0 := cell_later hb qb0
  replace qb1 := cell_later hb qb1
  replace dP := dP.below hb
  replace dM := dM.below hb
  replace lpb := Nat.lt_of_lt_of_le lpb hb.size
  replace lqb := Nat.lt_of_lt_of_le lqb hb.size
  replace B := below_next B hb
  have S17 := hb.size
  clear hb
  have hL : hn ≤ 2097152 := by rw [← dH.nInts]; omega
  clear rT
  go_wp2_with fail
  have A18 : Below w14.heap.size w14 (w14.alloc (.cells #[.int .i64 cd, .slice ha hn hc] 92)) := (Below.refl _ _).alloc (Nat.le_refl _) _
  replace pb0 := cell_later A18 pb0
  replace pb1 := cell_later A18 pb1
  replace qb0 := cell_later A18 qb0
  replace qb1 := cell_later A18 qb1
  replace dP := dP.below A18
  replace dM := dM.below A18
  replace dH := dH.below A18
  replace lpb := Nat.lt_of_lt_of_le lpb A18.size
  replace lqb := Nat.lt_of_lt_of_le lqb A18.size
  replace B := below_next B A18
  have S19 := A18.size
  clear A18
  have E19 : w14.heap.size + 1 ≤ (w14.alloc (.cells #[.int .i64 cd, .slice ha hn hc] 92)).heap.size := by simp
  have hb0 : (w14.alloc (.cells #[.int .i64 cd, .slice ha hn hc] 92)).cell? ⟨w14.heap.size, 0, none⟩ = some (.int .i64 cd) := by simp
  have hb1 : (w14.alloc (.cells #[.int .i64 cd, .slice ha hn hc] 92)).cell? ⟨w14.heap.size, 1, none⟩ = some (.slice ha hn hc) := by simp
  have lhb : w14.heap.size < (w14.alloc (.cells #[.int .i64 cd, .slice ha hn hc] 92)).heap.size := by simp
  go_wp2_with fail
  refine (eqIRes_yes _ _ _ _ _ _ _ _ _ dH dP hL).mono ?_
  rintro e w15 ⟨rfl, hb⟩
  replace pb0 := cell_later hb pb0
  replace pb1 := cell_later hb pb1
  replace qb0 := cell_later hb qb0
  replace qb1 := cell_later hb qb1
  replace hb0 := cell_later hb hb0
  replace hb1 := cell_later hb hb1
  replace dP := dP.below hb
  replace dM := dM.below hb
  replace dH := dH.below hb
  replace lpb := Nat.lt_of_lt_of_le lpb hb.size
  replace lqb := Nat.lt_of_lt_of_le lqb hb.size
  replace lhb := Nat.lt_of_lt_of_le lhb hb.size
  replace B := below_next B hb
  have S20 := hb.size
  clear hb
  go_wp2_with fail
  refine (heldIRes_any _ _ _ _ _ dM (by omega)).mono ?_
  rintro e w16 ⟨rfl, hb⟩
  replace pb0 := cell_later hb pb0
  replace pb1 := cell_later hb pb1
  replace qb0 := cell_later hb qb0
  replace qb1 := cell_later hb qb1
  replace hb0 := cell_later hb hb0
  replace hb1 := cell_later hb hb1
  replace dP := dP.below hb
  replace dM := dM.below hb
  replace dH := dH.below hb
  replace lpb := Nat.lt_of_lt_of_le lpb hb.size
  replace lqb := Nat.lt_of_lt_of_le lqb hb.size
  replace lhb := Nat.lt_of_lt_of_le lhb hb.size
  replace B := below_next B hb
  have S21 := hb.size
  clear hb
  go_wp2
  go_ret
  exact ⟨rfl, B⟩

open Go.ChangeShapes Go.WideShapes Go.ChangeAt Go.Joins

set_option maxRecDepth 100000 in
theorem liftedChunkDelta (os : Os) (started : os.Started) (H : Type) (enc : TypeId × Value → H) :
    ReturnsInHanded {} Try.checked os 13 .any (Rows.fnExactChunkDeltaSpec.pre6 enc Try.prog Try.f13 Rows.fnExactChunkDeltaRow.domain false) (Rows.fnExactChunkDeltaSpec.post enc Try.prog Try.f13 false true false false) := by
  refine returnsInHanded_of_change (C := Try.checked) Try.own started (by kernel_rfl) Try.func13
    (ChangeSpec.witness6 (enc := enc) (C := Try.checked) false ⟨#[], #[.slice none 0 0, .int .i64 0, .int .i64 0], []⟩ 8 (by kernel_rfl) (by kernel_rfl) (by kernel_rfl) (by kernel_rfl)) ?_
  intro W base args ds gs before hval0 hW hcnd _
  have hval : ∀ (j : Nat) t v, Try.f13.params[j]? = some t → args[j]? = some v → Value.okWide Try.prog W .any base t v := hval0
  have hW' := hW
  obtain ⟨p, q, hA0, hV, rfl, hfz, hnd⟩ := hW
  have hA : DataW.TrodAll enc Try.prog W 0 (fun _ => true) true Try.f13.params.toList args.toList ds p := hA0
  rw [Try.params13] at hA hval
  obtain ⟨v0, vs0, d0, ds0, p0, q0, hargs, rfl, rfl, h0, r0⟩ := trodAll_cons hA
  obtain ⟨v1, vs1, d1, ds1, p1, q1, rfl, rfl, rfl, h1, r1⟩ := trodAll_cons r0
  obtain ⟨v2, vs2, d2, ds2, p2, q2, rfl, rfl, rfl, h2, r2⟩ := trodAll_cons r1
  obtain ⟨rfl, rfl, rfl⟩ := trodAll_nil r2
  obtain rfl : args = #[v0, v1, v2] := by cases args; simp_all
  obtain ⟨rfl, rfl⟩ := trodVars_none hV
  have lt0 : ∀ x ∈ p0, x.block < W.heap.size := by obtain ⟨m, hm⟩ := h0; exact DataW.trod_lt m _ _ _ hm
  have k0 := h0
  obtain ⟨fuel, hf⟩ := h0
  obtain ⟨av, lv, cv, rfl⟩ := okWide_slice Try.underlying32 (hval 0 32 v0 rfl rfl)
  obtain ⟨a2, n2, c2, zs, hv, hn2, s2⟩ := read_ints Try.underlying32 Try.underlying2 Try.cellsInt (v := .slice av lv cv) (by simpa [Value.cells] using hf)
  obtain ⟨rfl, rfl, rfl⟩ := Value.slice.inj hv
  obtain ⟨x1, rfl, rfl, rfl, wx1⟩ := open_int Try.underlying2 (hval 1 2 v1 rfl rfl) h1
  obtain ⟨x2, rfl, rfl, rfl, wx2⟩ := open_int Try.underlying2 (hval 2 2 v2 rfl rfl) h2
  clear hA0 hval0
  refine (lawChunkDelta _ _ _ zs x1 x2 W s2 hn2).mono fun e W' ⟨he, bel⟩ => ?_
  subst he
  exact ⟨_, rfl, _, _, _, [], _, [], hW', trodAll_mk1 (shut_bool Try.underlying4 _), (trodAll_cons_mk (Below.trod Try.laidOut (by kernel_rfl) (of_decide_eq_true (by kernel_rfl)) k0 bel lt0) (trodAll_cons_mk (shut_int Try.underlying2 wx1) (trodAll_cons_mk (shut_int Try.underlying2 wx2) trodAll_mk0))), rfl, bel.frame _, fun h => by cases h⟩

set_option maxRecDepth 100000 in
set_option maxHeartbeats 0 in
theorem closedChunkDelta : joinedFacts Try.prog 13 Try.f13 Rows.fnExactChunkDeltaSpec Rows.fnExactChunkDeltaRow = true := by
  have q1 : (Rows.fnExactChunkDeltaRow.inPlace == Try.prog.inPlace 13) = true := by rw [inPlace_at leads_is inp_is]; kernel_rfl
  have q2 : (Rows.fnExactChunkDeltaRow.unfollowed == Try.prog.unfollowed 13) = true := by rw [unfollowed_at leads_is unf_is]; kernel_rfl
  have q3 : (Rows.fnExactChunkDeltaRow.recurses == Try.prog.recurses 13) = true := (by rw [recurses_no leads_is (by rw [unfollowed_at leads_is unf_is]; kernel_rfl) ranks_ok (by kernel_rfl)]; rfl)
  have q4 : (Rows.fnExactChunkDeltaRow.named == Try.prog.varsNamed 13) = true := by rw [varsNamed_at leads_is var_ok ent_is]; kernel_rfl
  have q5 : (Try.prog.make == some Rows.fnExactChunkDeltaRow.make) = true := by rw [made_cut]; rfl
  have q6 : (Rows.fnExactChunkDeltaRow.lifted == Try.prog.liftsFinal) = true := by rw [lifts_no]; rfl
  have q7 : Try.prog.mayEnter = true := may_enter
  have q8 : laidOutB Try.prog = true := Try.laidOut
  unfold joinedFacts
  repeat' (with_reducible refine Bool.and_eq_true_iff.2 ⟨?_, ?_⟩)
  all_goals (first | with_reducible exact q1 | with_reducible exact q2 | with_reducible exact q3 | with_reducible exact q4 | with_reducible exact q5 | with_reducible exact q6 | with_reducible exact q7 | with_reducible exact q8 | (as_aux_lemma => kernel_rfl))

theorem chunkDelta_holds : Rows.FnExactChunkDeltaSaid :=
  OpenClaim.holds_of_wide 13 Try.f13 rfl rfl rfl rfl rfl rfl rfl ⟨rfl, rfl, rfl, rfl, rfl⟩ rfl rfl rfl rfl rfl (by as_aux_lemma => kernel_rfl) Try.func13 closedChunkDelta
    (of_decide_eq_true (by as_aux_lemma => kernel_rfl)) (by unfold Func.isWrapper; first | (rw [if_pos (by decide +kernel)]; kernel_rfl) | (rw [if_neg (by decide +kernel)]; exact ⟨rfl, rfl⟩))
    (fun os started H enc _ => liftedChunkDelta os started H enc)

#print axioms chunkDelta_holds

end Go.Proofs.Ytcbfmjanjciodaa
