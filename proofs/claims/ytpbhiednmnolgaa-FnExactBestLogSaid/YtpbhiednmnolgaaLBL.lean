/- At every list of numbers and of logs the program's BestLog answers as its model does, field by field, and writes into no argument: the law FnExactBestLog is true at every argument, with no condition. -/
import Derived.Test.YtpbhiednmnolgaaEX
import Derived.Test.YtpbhiednmnolgaaRows
import Derived.Test.YtpbhiednmnolgaaH8
import Derived.Test.YtpbhiednmnolgaaH9i
import Derived.Test.YtpbhiednmnolgaaH9s
import Derived.Test.YtpbhiednmnolgaaWordAt
import Derived.Test.YtpbhiednmnolgaaAll
import Derived.Test.YtpbhiednmnolgaaOpenG
import Derived.Test.YtpbhiednmnolgaaXB
namespace Go.Proofs.Ytpbhiednmnolgaa
open Go.RowKit

theorem toInts_ex {own : Bool} {lo hi : Nat} (ao : Option Addr) (n cap : Nat) (xs : List Int) (w : World) (h : RowAt w own lo hi 1 ao n cap (ints xs)) (hn : n ≤ 1048576) :
    Calls Try.prog 39 #[.slice ao n cap] w fun e w' => ∃ g, e = .returned (.slice (some ⟨g, 0, none⟩) n n) ∧ RowAt w' true w.heap.size w'.heap.size 1 (some ⟨g, 0, none⟩) n n (ints xs) ∧ Below w.heap.size w w' :=
  (toInts_any ao n cap xs w h hn).mono fun _ _ h => ⟨_, h⟩
set_option maxRecDepth 20000 in
set_option maxHeartbeats 4000000 in
theorem lawBestLog {o0 o1 : Bool} (a0 : Option Addr) (n0 c0 : Nat) (xs : List Int) (a1 : Option Addr) (n1 c1 : Nat) (hd : Nat → Hd) (xss : List (List En)) (w : World) (h0 : RowAt w o0 0 w.heap.size 1 a0 n0 c0 (ints xs)) (hn : n0 ≤ maxLen) (h1 : LogsAt w o1 0 w.heap.size a1 n1 c1 hd xss) (hm : n1 ≤ maxLen) (hl : ∀ i, i < n1 → (hd i).2.1 ≤ maxLen) :
    Calls Try.prog 11 #[.slice a0 n0 c0, .slice a1 n1 c1] w fun e w' => e = .returned (.bool true) ∧ Below w.heap.size w w' := by
  have _ := hn
  have B : Below w.heap.size w w := Below.refl _ _
  obtain ⟨⟨cd, vl⟩, hr⟩ : ∃ r, bestR xs xss = r := ⟨_, rfl⟩
  have HR : Hid _ := hr
  clear hr
  go_enter Try.func11, Try.ntmps11
  by_cases hbig : 1048576 < n0
  · have hbi : (1048576 : Int) < (n0 : Int) := by omega
    go_wp2
    go_ret
    exact ⟨rfl, B⟩
  have hbi : ¬ (1048576 : Int) < (n0 : Int) := by omega
  have hsz : n0 ≤ 1048576 := by omega
  have hn0 : n0 ≤ 2097152 := by omega
  go_wp2_with fail
  refine (szLogs_left a1 n1 c1 hd xss _ h1 hm hl).mono ?_
  rintro e w0 ⟨r, rfl, rfl, hr⟩
  rcases hr with hr | ⟨hr, hs1, hs2⟩
  · go_wp2
    go_ret
    exact ⟨rfl, B⟩
  have hr' : ¬ r < 0 := by omega
  have HS2 : Hid _ := hs2
  have hn1 : n1 ≤ 2097152 := by omega
  clear hr hs2
  go_wp2_with fail
  refine (toInts_ex _ _ _ xs _ (by exact h0.below B) hsz).mono ?_
  rintro e w2 ⟨ta, rfl, rT, hb⟩
  replace B := below_next B hb
  have S1 := hb.size
  clear hb
  go_wp2_with fail
  refine (toLogs_ex _ _ _ hd xss _ (by exact h1.below B) hs1 HS2.out).mono ?_
  rintro e w3 ⟨tl, tld, rfl, rL, rLm, hb⟩
  replace rT := rT.below hb
  replace B := below_next B hb
  have S2 := hb.size
  clear hb
  go_wp2_with fail
  refine (specBest_is _ _ n0 n0 n1 n1 tld xs xss _ rT rL hs1 cd vl HR.out).mono ?_
  rintro e w4 ⟨rfl, hb⟩
  replace rT := rT.below hb
  replace rL := rL.below hb
  replace B := below_next B hb
  have S3 := hb.size
  clear hb
  clear rT rL rLm
  go_wp2_with fail
  have A4 : Below w4.heap.size w4 (w4.alloc (.cells #[.int .i64 cd, .int .i64 (vl : Int)] 49)) := (Below.refl _ _).alloc (Nat.le_refl _) _
  replace B := below_next B A4
  have S5 := A4.size
  clear A4
  have E5 : w4.heap.size + 1 ≤ (w4.alloc (.cells #[.int .i64 cd, .int .i64 (vl : Int)] 49)).heap.size := by simp
  have pb0 : (w4.alloc (.cells #[.int .i64 cd, .int .i64 (vl : Int)] 49)).cell? ⟨w4.heap.size, 0, none⟩ = some (.int .i64 cd) := by simp
  have pb1 : (w4.alloc (.cells #[.int .i64 cd, .int .i64 (vl : Int)] 49)).cell? ⟨w4.heap.size, 1, none⟩ = some (.int .i64 (vl : Int)) := by simp
  have lpb : w4.heap.size < (w4.alloc (.cells #[.int .i64 cd, .int .i64 (vl : Int)] 49)).heap.size := by simp
  go_wp2_with fail
  refine (toInts_ex _ _ _ xs _ (by exact h0.below B) hsz).mono ?_
  rintro e w5 ⟨xa, rfl, rX, hb⟩
  replace pb0 := cell_later hb pb0
  replace pb1 := cell_later hb pb1
  replace lpb := Nat.lt_of_lt_of_le lpb hb.size
  replace B := below_next B hb
  have S6 := hb.size
  clear hb
  go_wp2_with fail
  refine (toLogs_ex _ _ _ hd xss _ (by exact h1.below B) hs1 HS2.out).mono ?_
  rintro e w6 ⟨xl, xld, rfl, rM, rMm, hb⟩
  replace pb0 := cell_later hb pb0
  replace pb1 := cell_later hb pb1
  replace rX := rX.below hb
  replace lpb := Nat.lt_of_lt_of_le lpb hb.size
  replace B := below_next B hb
  have S7 := hb.size
  clear hb
  go_wp2_with fail
  refine (implBest_is _ _ n0 n0 n1 n1 xld xs xss _ rX rM hs1 cd vl HR.out).mono ?_
  rintro e w7 ⟨rfl, hb⟩
  replace pb0 := cell_later hb pb0
  replace pb1 := cell_later hb pb1
  replace rX := rX.below hb
  replace rM := rM.below hb
  replace lpb := Nat.lt_of_lt_of_le lpb hb.size
  replace B := below_next B hb
  have S8 := hb.size
  clear hb
  go_wp2_with fail
  have A9 : Below w7.heap.size w7 (w7.alloc (.cells #[.int .i64 cd, .int .i64 (vl : Int)] 49)) := (Below.refl _ _).alloc (Nat.le_refl _) _
  replace pb0 := cell_later A9 pb0
  replace pb1 := cell_later A9 pb1
  replace rX := rX.below A9
  replace rM := rM.below A9
  replace lpb := Nat.lt_of_lt_of_le lpb A9.size
  replace B := below_next B A9
  have S10 := A9.size
  clear A9
  have E10 : w7.heap.size + 1 ≤ (w7.alloc (.cells #[.int .i64 cd, .int .i64 (vl : Int)] 49)).heap.size := by simp
  have qb0 : (w7.alloc (.cells #[.int .i64 cd, .int .i64 (vl : Int)] 49)).cell? ⟨w7.heap.size, 0, none⟩ = some (.int .i64 cd) := by simp
  have qb1 : (w7.alloc (.cells #[.int .i64 cd, .int .i64 (vl : Int)] 49)).cell? ⟨w7.heap.size, 1, none⟩ = some (.int .i64 (vl : Int)) := by simp
  have lqb : w7.heap.size < (w7.alloc (.cells #[.int .i64 cd, .int .i64 (vl : Int)] 49)).heap.size := by simp
  go_wp2_with fail
  refine (eqNRes_yes _ _ _).mono ?_
  rintro e w8 ⟨rfl, hb⟩
  replace pb0 := cell_later hb pb0
  replace pb1 := cell_later hb pb1
  replace qb0 := cell_later hb qb0
  replace qb1 := cell_later hb qb1
  replace rX := rX.below hb
  replace rM := rM.below hb
  replace lpb := Nat.lt_of_lt_of_le lpb hb.size
  replace lqb := Nat.lt_of_lt_of_le lqb hb.size
  replace B := below_next B hb
  have S11 := hb.size
  clear hb
  go_wp2_with fail
  refine (toInts_ex _ _ _ xs _ (by exact h0.below B) hsz).mono ?_
  rintro e w9 ⟨ya, rfl, rY, hb⟩
  replace pb0 := cell_later hb pb0
  replace pb1 := cell_later hb pb1
  replace qb0 := cell_later hb qb0
  replace qb1 := cell_later hb qb1
  replace rX := rX.below hb
  replace rM := rM.below hb
  replace lpb := Nat.lt_of_lt_of_le lpb hb.size
  replace lqb := Nat.lt_of_lt_of_le lqb hb.size
  replace B := below_next B hb
  have S12 := hb.size
  clear hb
  go_wp2_with fail
  refine (eqInts_is _ _ _ _ _ _ xs xs _ rX rY hn0 hn0 true (by simp)).mono ?_
  rintro e w10 ⟨rfl, hb⟩
  replace pb0 := cell_later hb pb0
  replace pb1 := cell_later hb pb1
  replace qb0 := cell_later hb qb0
  replace qb1 := cell_later hb qb1
  replace rX := rX.below hb
  replace rM := rM.below hb
  replace rY := rY.below hb
  replace lpb := Nat.lt_of_lt_of_le lpb hb.size
  replace lqb := Nat.lt_of_lt_of_le lqb hb.size
  replace B := below_next B hb
  have S13 := hb.size
  clear hb
  clear rX rY
  go_wp2_with fail
  refine (toLogs_ex _ _ _ hd xss _ (by exact h1.below B) hs1 HS2.out).mono ?_
  rintro e w11 ⟨zl, zld, rfl, rZ, rZm, hb⟩
  replace pb0 := cell_later hb pb0
  replace pb1 := cell_later hb pb1
  replace qb0 := cell_later hb qb0
  replace qb1 := cell_later hb qb1
  replace rM := rM.below hb
  replace lpb := Nat.lt_of_lt_of_le lpb hb.size
  replace lqb := Nat.lt_of_lt_of_le lqb hb.size
  replace B := below_next B hb
  have S14 := hb.size
  clear hb
  go_wp2_with fail
  refine (eqLogs_yes _ _ n1 n1 n1 n1 xld zld xss _ rM rZ hn1 (fun i hi => by rw [rMm i hi]; have := HS2.out i hi; omega)).mono ?_
  rintro e w12 ⟨rfl, hb⟩
  replace pb0 := cell_later hb pb0
  replace pb1 := cell_later hb pb1
  replace qb0 := cell_later hb qb0
  replace qb1 := cell_later hb qb1
  replace rM := rM.below hb
  replace rZ := rZ.below hb
  replace lpb := Nat.lt_of_lt_of_le lpb hb.size
  replace lqb := Nat.lt_of_lt_of_le lqb hb.size
  replace B := below_next B hb
  have S15 := hb.size
  clear hb
  go_wp2
  go_ret
  exact ⟨rfl, B⟩

open Go.ChangeShapes Go.WideShapes Go.ChangeAt Go.Joins

set_option maxRecDepth 100000 in
theorem liftedBestLog (os : Os) (started : os.Started) (H : Type) (enc : TypeId × Value → H) :
    ReturnsInHanded {} Try.checked os 11 .any (Rows.fnExactBestLogSpec.pre6 enc Try.prog Try.f11 Rows.fnExactBestLogRow.domain false) (Rows.fnExactBestLogSpec.post enc Try.prog Try.f11 false true false false) := by
  refine returnsInHanded_of_change (C := Try.checked) Try.own started (by kernel_rfl) Try.func11
    (ChangeSpec.witness6 (enc := enc) (C := Try.checked) false ⟨#[], #[.slice none 0 0, .slice none 0 0], []⟩ 8 (by kernel_rfl) (by kernel_rfl) (by kernel_rfl) (by kernel_rfl)) ?_
  intro W base args ds gs before hval0 hW hcnd _
  have hval : ∀ (j : Nat) t v, Try.f11.params[j]? = some t → args[j]? = some v → Value.okWide Try.prog W .any base t v := hval0
  have hW' := hW
  obtain ⟨p, q, hA0, hV, rfl, hfz, hnd⟩ := hW
  have hA : DataW.TrodAll enc Try.prog W 0 (fun _ => true) true Try.f11.params.toList args.toList ds p := hA0
  rw [Try.params11] at hA hval
  obtain ⟨v0, vs0, d0, ds0, p0, q0, hargs, rfl, rfl, h0, r0⟩ := trodAll_cons hA
  obtain ⟨v1, vs1, d1, ds1, p1, q1, rfl, rfl, rfl, h1, r1⟩ := trodAll_cons r0
  obtain ⟨rfl, rfl, rfl⟩ := trodAll_nil r1
  obtain rfl : args = #[v0, v1] := by cases args; simp_all
  obtain ⟨rfl, rfl⟩ := trodVars_none hV
  have lt0 : ∀ x ∈ p0, x.block < W.heap.size := by obtain ⟨m, hm⟩ := h0; exact DataW.trod_lt m _ _ _ hm
  have k0 := h0
  obtain ⟨fuel, hf⟩ := h0
  obtain ⟨av, lv, cv, rfl⟩ := okWide_slice Try.underlying24 (hval 0 24 v0 rfl rfl)
  obtain ⟨a2, n2, c2, zs, hv, hn2, s2⟩ := read_ints Try.underlying24 Try.underlying2 Try.cellsInt (v := .slice av lv cv) (by simpa [Value.cells] using hf)
  obtain ⟨rfl, rfl, rfl⟩ := Value.slice.inj hv
  have lt1 : ∀ x ∈ p1, x.block < W.heap.size := by obtain ⟨m, hm⟩ := h1; exact DataW.trod_lt m _ _ _ hm
  have k1 := h1
  obtain ⟨fuel1, hf1⟩ := h1
  obtain ⟨av1, lv1, cv1, rfl⟩ := okWide_slice Try.underlying67 (hval 1 67 v1 rfl rfl)
  obtain ⟨ae1, ne1, ce1, hd1, es1, hve1, he1, se1, le1⟩ := read_logs Try.underlying67 Try.underlying57 Try.cellsEntries Try.enTy (v := .slice av1 lv1 cv1) (by simpa [Value.cells] using hf1)
  obtain ⟨rfl, rfl, rfl⟩ := Value.slice.inj hve1
  clear hA0 hval0
  refine (lawBestLog _ _ _ zs _ _ _ hd1 es1 W s2 hn2 se1 he1 le1).mono fun e W' ⟨he, bel⟩ => ?_
  subst he
  exact ⟨_, rfl, _, _, _, [], _, [], hW', trodAll_mk1 (shut_bool Try.underlying4 _), (trodAll_cons_mk (Below.trod Try.laidOut (by kernel_rfl) (of_decide_eq_true (by kernel_rfl)) k0 bel lt0) (trodAll_cons_mk (Below.trod Try.laidOut (by kernel_rfl) (of_decide_eq_true (by kernel_rfl)) k1 bel lt1) trodAll_mk0)), rfl, bel.frame _, fun h => by cases h⟩

set_option maxRecDepth 100000 in
set_option maxHeartbeats 0 in
theorem closedBestLog : joinedFacts Try.prog 11 Try.f11 Rows.fnExactBestLogSpec Rows.fnExactBestLogRow = true := by
  have q1 : (Rows.fnExactBestLogRow.inPlace == Try.prog.inPlace 11) = true := by rw [inPlace_at leads_is inp_is]; kernel_rfl
  have q2 : (Rows.fnExactBestLogRow.unfollowed == Try.prog.unfollowed 11) = true := by rw [unfollowed_at leads_is unf_is]; kernel_rfl
  have q3 : (Rows.fnExactBestLogRow.recurses == Try.prog.recurses 11) = true := (by rw [recurses_no leads_is (by rw [unfollowed_at leads_is unf_is]; kernel_rfl) ranks_ok (by kernel_rfl)]; rfl)
  have q4 : (Rows.fnExactBestLogRow.named == Try.prog.varsNamed 11) = true := by rw [varsNamed_at leads_is var_ok ent_is]; kernel_rfl
  have q5 : (Try.prog.make == some Rows.fnExactBestLogRow.make) = true := by rw [made_cut]; rfl
  have q6 : (Rows.fnExactBestLogRow.lifted == Try.prog.liftsFinal) = true := by rw [lifts_no]; rfl
  have q7 : Try.prog.mayEnter = true := may_enter
  have q8 : laidOutB Try.prog = true := Try.laidOut
  unfold joinedFacts
  repeat' (with_reducible refine Bool.and_eq_true_iff.2 ⟨?_, ?_⟩)
  all_goals (first | with_reducible exact q1 | with_reducible exact q2 | with_reducible exact q3 | with_reducible exact q4 | with_reducible exact q5 | with_reducible exact q6 | with_reducible exact q7 | with_reducible exact q8 | (as_aux_lemma => kernel_rfl))

theorem bestLog_holds : Rows.FnExactBestLogSaid :=
  OpenClaim.holds_of_wide 11 Try.f11 rfl rfl rfl rfl rfl rfl rfl ⟨rfl, rfl, rfl, rfl, rfl⟩ rfl rfl rfl rfl rfl (by as_aux_lemma => kernel_rfl) Try.func11 closedBestLog
    (of_decide_eq_true (by as_aux_lemma => kernel_rfl)) (by unfold Func.isWrapper; first | (rw [if_pos (by decide +kernel)]; kernel_rfl) | (rw [if_neg (by decide +kernel)]; exact ⟨rfl, rfl⟩))
    (fun os started H enc _ => liftedBestLog os started H enc)

#print axioms bestLog_holds

end Go.Proofs.Ytpbhiednmnolgaa
