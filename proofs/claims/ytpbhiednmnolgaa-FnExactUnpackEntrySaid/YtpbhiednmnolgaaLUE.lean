/- At every list of words the program's UnpackEntry answers as its model does, field by field, and writes into no argument: the law FnExactUnpackEntry is true at every argument, with no condition. -/
import Derived.Test.YtpbhiednmnolgaaEX
import Derived.Test.YtpbhiednmnolgaaRows
import Derived.Test.YtpbhiednmnolgaaXA
import Derived.Test.YtpbhiednmnolgaaH5
import Derived.Test.YtpbhiednmnolgaaH7
import Derived.Test.YtpbhiednmnolgaaAll
import Derived.Test.YtpbhiednmnolgaaXB
namespace Go.Proofs.Ytpbhiednmnolgaa
open Go.RowKit

theorem toInts_ex {own : Bool} {lo hi : Nat} (ao : Option Addr) (n cap : Nat) (xs : List Int) (w : World) (h : RowAt w own lo hi 1 ao n cap (ints xs)) (hn : n ≤ 1048576) :
    Calls Try.prog 39 #[.slice ao n cap] w fun e w' => ∃ g, e = .returned (.slice (some ⟨g, 0, none⟩) n n) ∧ RowAt w' true w.heap.size w'.heap.size 1 (some ⟨g, 0, none⟩) n n (ints xs) ∧ Below w.heap.size w w' :=
  (toInts_any ao n cap xs w h hn).mono fun _ _ h => ⟨_, h⟩
theorem eqER_yes (cd y0 y1 y2 y3 y4 y5 : Int) (w : World) : Calls Try.prog 40 #[.agg #[.int .i64 cd, .int .i64 y0, .int .i64 y1, .int .i64 y2, .int .i64 y3, .int .i64 y4, .int .i64 y5], .agg #[.int .i64 cd, .int .i64 y0, .int .i64 y1, .int .i64 y2, .int .i64 y3, .int .i64 y4, .int .i64 y5]] w fun e w' => e = .returned (.bool true) ∧ Below w.heap.size w w' := by
  have e1 : (cd != cd) = false := by simp
  go_enter Try.func40, Try.ntmps40
  go_wp2_with fail
  refine (eqEntry_yes y0 y1 y2 y3 y4 y5 _).mono ?_
  rintro e w1 ⟨rfl, hb⟩
  have B : Below w.heap.size w w1 := below_next (((Below.refl _ _).alloc (Nat.le_refl _) _).alloc (by simp) _) hb
  clear hb
  go_wp2
  go_ret
  exact ⟨rfl, B⟩
set_option maxRecDepth 20000 in
set_option maxHeartbeats 4000000 in
theorem lawUnpackEntry {o0 : Bool} (a0 : Option Addr) (n0 c0 : Nat) (xs : List Int) (w : World) (h0 : RowAt w o0 0 w.heap.size 1 a0 n0 c0 (ints xs)) (hn : n0 ≤ maxLen) :
    Calls Try.prog 8 #[.slice a0 n0 c0] w fun e w' => e = .returned (.bool true) ∧ Below w.heap.size w w' := by
  have _ := hn
  have B : Below w.heap.size w w := Below.refl _ _
  obtain ⟨⟨cd, y0, y1, y2, y3, y4, y5⟩, hr⟩ : ∃ r, unER xs = r := ⟨_, rfl⟩
  have HR : Hid _ := hr
  clear hr
  go_enter Try.func8, Try.ntmps8
  by_cases hbig : 1048576 < n0
  · have hbi : (1048576 : Int) < (n0 : Int) := by omega
    go_wp2
    go_ret
    exact ⟨rfl, B⟩
  have hbi : ¬ (1048576 : Int) < (n0 : Int) := by omega
  have hsz : n0 ≤ 1048576 := by omega
  have hn0 : n0 ≤ 2097152 := by omega
  go_wp2_with fail
  refine (toInts_ex _ _ _ xs _ (by exact h0.below B) hsz).mono ?_
  rintro e w2 ⟨ta, rfl, rT, hb⟩
  replace B := below_next B hb
  have S1 := hb.size
  clear hb
  go_wp2_with fail
  refine (specUnE_is _ n0 n0 xs _ rT cd y0 y1 y2 y3 y4 y5 HR.out).mono ?_
  rintro e w3 ⟨rfl, hb⟩
  replace rT := rT.below hb
  replace B := below_next B hb
  have S2 := hb.size
  clear hb
  clear rT
  go_wp2_with fail
  have A3 : Below w3.heap.size w3 (w3.alloc (.cells #[.int .i64 cd, .int .i64 y0, .int .i64 y1, .int .i64 y2, .int .i64 y3, .int .i64 y4, .int .i64 y5] 31)) := (Below.refl _ _).alloc (Nat.le_refl _) _
  replace B := below_next B A3
  have S4 := A3.size
  clear A3
  have E4 : w3.heap.size + 1 ≤ (w3.alloc (.cells #[.int .i64 cd, .int .i64 y0, .int .i64 y1, .int .i64 y2, .int .i64 y3, .int .i64 y4, .int .i64 y5] 31)).heap.size := by simp
  have pb0 : (w3.alloc (.cells #[.int .i64 cd, .int .i64 y0, .int .i64 y1, .int .i64 y2, .int .i64 y3, .int .i64 y4, .int .i64 y5] 31)).cell? ⟨w3.heap.size, 0, none⟩ = some (.int .i64 cd) := by simp
  have pb1 : (w3.alloc (.cells #[.int .i64 cd, .int .i64 y0, .int .i64 y1, .int .i64 y2, .int .i64 y3, .int .i64 y4, .int .i64 y5] 31)).cell? ⟨w3.heap.size, 1, none⟩ = some (.int .i64 y0) := by simp
  have pb2 : (w3.alloc (.cells #[.int .i64 cd, .int .i64 y0, .int .i64 y1, .int .i64 y2, .int .i64 y3, .int .i64 y4, .int .i64 y5] 31)).cell? ⟨w3.heap.size, 2, none⟩ = some (.int .i64 y1) := by simp
  have pb3 : (w3.alloc (.cells #[.int .i64 cd, .int .i64 y0, .int .i64 y1, .int .i64 y2, .int .i64 y3, .int .i64 y4, .int .i64 y5] 31)).cell? ⟨w3.heap.size, 3, none⟩ = some (.int .i64 y2) := by simp
  have pb4 : (w3.alloc (.cells #[.int .i64 cd, .int .i64 y0, .int .i64 y1, .int .i64 y2, .int .i64 y3, .int .i64 y4, .int .i64 y5] 31)).cell? ⟨w3.heap.size, 4, none⟩ = some (.int .i64 y3) := by simp
  have pb5 : (w3.alloc (.cells #[.int .i64 cd, .int .i64 y0, .int .i64 y1, .int .i64 y2, .int .i64 y3, .int .i64 y4, .int .i64 y5] 31)).cell? ⟨w3.heap.size, 5, none⟩ = some (.int .i64 y4) := by simp
  have pb6 : (w3.alloc (.cells #[.int .i64 cd, .int .i64 y0, .int .i64 y1, .int .i64 y2, .int .i64 y3, .int .i64 y4, .int .i64 y5] 31)).cell? ⟨w3.heap.size, 6, none⟩ = some (.int .i64 y5) := by simp
  have lpb : w3.heap.size < (w3.alloc (.cells #[.int .i64 cd, .int .i64 y0, .int .i64 y1, .int .i64 y2, .int .i64 y3, .int .i64 y4, .int .i64 y5] 31)).heap.size := by simp
  go_wp2_with fail
  refine (toInts_ex _ _ _ xs _ (by exact h0.below B) hsz).mono ?_
  rintro e w4 ⟨xa, rfl, rX, hb⟩
  replace pb0 := cell_later hb pb0
  replace pb1 := cell_later hb pb1
  replace pb2 := cell_later hb pb2
  replace pb3 := cell_later hb pb3
  replace pb4 := cell_later hb pb4
  replace pb5 := cell_later hb pb5
  replace pb6 := cell_later hb pb6
  replace lpb := Nat.lt_of_lt_of_le lpb hb.size
  replace B := below_next B hb
  have S5 := hb.size
  clear hb
  go_wp2_with fail
  refine (implUnE_is _ n0 n0 xs _ rX cd y0 y1 y2 y3 y4 y5 HR.out).mono ?_
  rintro e w5 ⟨rfl, hb⟩
  replace pb0 := cell_later hb pb0
  replace pb1 := cell_later hb pb1
  replace pb2 := cell_later hb pb2
  replace pb3 := cell_later hb pb3
  replace pb4 := cell_later hb pb4
  replace pb5 := cell_later hb pb5
  replace pb6 := cell_later hb pb6
  replace rX := rX.below hb
  replace lpb := Nat.lt_of_lt_of_le lpb hb.size
  replace B := below_next B hb
  have S6 := hb.size
  clear hb
  go_wp2_with fail
  have A7 : Below w5.heap.size w5 (w5.alloc (.cells #[.int .i64 cd, .int .i64 y0, .int .i64 y1, .int .i64 y2, .int .i64 y3, .int .i64 y4, .int .i64 y5] 31)) := (Below.refl _ _).alloc (Nat.le_refl _) _
  replace pb0 := cell_later A7 pb0
  replace pb1 := cell_later A7 pb1
  replace pb2 := cell_later A7 pb2
  replace pb3 := cell_later A7 pb3
  replace pb4 := cell_later A7 pb4
  replace pb5 := cell_later A7 pb5
  replace pb6 := cell_later A7 pb6
  replace rX := rX.below A7
  replace lpb := Nat.lt_of_lt_of_le lpb A7.size
  replace B := below_next B A7
  have S8 := A7.size
  clear A7
  have E8 : w5.heap.size + 1 ≤ (w5.alloc (.cells #[.int .i64 cd, .int .i64 y0, .int .i64 y1, .int .i64 y2, .int .i64 y3, .int .i64 y4, .int .i64 y5] 31)).heap.size := by simp
  have qb0 : (w5.alloc (.cells #[.int .i64 cd, .int .i64 y0, .int .i64 y1, .int .i64 y2, .int .i64 y3, .int .i64 y4, .int .i64 y5] 31)).cell? ⟨w5.heap.size, 0, none⟩ = some (.int .i64 cd) := by simp
  have qb1 : (w5.alloc (.cells #[.int .i64 cd, .int .i64 y0, .int .i64 y1, .int .i64 y2, .int .i64 y3, .int .i64 y4, .int .i64 y5] 31)).cell? ⟨w5.heap.size, 1, none⟩ = some (.int .i64 y0) := by simp
  have qb2 : (w5.alloc (.cells #[.int .i64 cd, .int .i64 y0, .int .i64 y1, .int .i64 y2, .int .i64 y3, .int .i64 y4, .int .i64 y5] 31)).cell? ⟨w5.heap.size, 2, none⟩ = some (.int .i64 y1) := by simp
  have qb3 : (w5.alloc (.cells #[.int .i64 cd, .int .i64 y0, .int .i64 y1, .int .i64 y2, .int .i64 y3, .int .i64 y4, .int .i64 y5] 31)).cell? ⟨w5.heap.size, 3, none⟩ = some (.int .i64 y2) := by simp
  have qb4 : (w5.alloc (.cells #[.int .i64 cd, .int .i64 y0, .int .i64 y1, .int .i64 y2, .int .i64 y3, .int .i64 y4, .int .i64 y5] 31)).cell? ⟨w5.heap.size, 4, none⟩ = some (.int .i64 y3) := by simp
  have qb5 : (w5.alloc (.cells #[.int .i64 cd, .int .i64 y0, .int .i64 y1, .int .i64 y2, .int .i64 y3, .int .i64 y4, .int .i64 y5] 31)).cell? ⟨w5.heap.size, 5, none⟩ = some (.int .i64 y4) := by simp
  have qb6 : (w5.alloc (.cells #[.int .i64 cd, .int .i64 y0, .int .i64 y1, .int .i64 y2, .int .i64 y3, .int .i64 y4, .int .i64 y5] 31)).cell? ⟨w5.heap.size, 6, none⟩ = some (.int .i64 y5) := by simp
  have lqb : w5.heap.size < (w5.alloc (.cells #[.int .i64 cd, .int .i64 y0, .int .i64 y1, .int .i64 y2, .int .i64 y3, .int .i64 y4, .int .i64 y5] 31)).heap.size := by simp
  go_wp2_with fail
  refine (eqER_yes cd y0 y1 y2 y3 y4 y5 _).mono ?_
  rintro e w6 ⟨rfl, hb⟩
  replace pb0 := cell_later hb pb0
  replace pb1 := cell_later hb pb1
  replace pb2 := cell_later hb pb2
  replace pb3 := cell_later hb pb3
  replace pb4 := cell_later hb pb4
  replace pb5 := cell_later hb pb5
  replace pb6 := cell_later hb pb6
  replace qb0 := cell_later hb qb0
  replace qb1 := cell_later hb qb1
  replace qb2 := cell_later hb qb2
  replace qb3 := cell_later hb qb3
  replace qb4 := cell_later hb qb4
  replace qb5 := cell_later hb qb5
  replace qb6 := cell_later hb qb6
  replace rX := rX.below hb
  replace lpb := Nat.lt_of_lt_of_le lpb hb.size
  replace lqb := Nat.lt_of_lt_of_le lqb hb.size
  replace B := below_next B hb
  have S9 := hb.size
  clear hb
  go_wp2_with fail
  refine (toInts_ex _ _ _ xs _ (by exact h0.below B) hsz).mono ?_
  rintro e w7 ⟨ya, rfl, rY, hb⟩
  replace pb0 := cell_later hb pb0
  replace pb1 := cell_later hb pb1
  replace pb2 := cell_later hb pb2
  replace pb3 := cell_later hb pb3
  replace pb4 := cell_later hb pb4
  replace pb5 := cell_later hb pb5
  replace pb6 := cell_later hb pb6
  replace qb0 := cell_later hb qb0
  replace qb1 := cell_later hb qb1
  replace qb2 := cell_later hb qb2
  replace qb3 := cell_later hb qb3
  replace qb4 := cell_later hb qb4
  replace qb5 := cell_later hb qb5
  replace qb6 := cell_later hb qb6
  replace rX := rX.below hb
  replace lpb := Nat.lt_of_lt_of_le lpb hb.size
  replace lqb := Nat.lt_of_lt_of_le lqb hb.size
  replace B := below_next B hb
  have S10 := hb.size
  clear hb
  go_wp2_with fail
  refine (eqInts_is _ _ _ _ _ _ xs xs _ rX rY hn0 hn0 true (by simp)).mono ?_
  rintro e w8 ⟨rfl, hb⟩
  replace pb0 := cell_later hb pb0
  replace pb1 := cell_later hb pb1
  replace pb2 := cell_later hb pb2
  replace pb3 := cell_later hb pb3
  replace pb4 := cell_later hb pb4
  replace pb5 := cell_later hb pb5
  replace pb6 := cell_later hb pb6
  replace qb0 := cell_later hb qb0
  replace qb1 := cell_later hb qb1
  replace qb2 := cell_later hb qb2
  replace qb3 := cell_later hb qb3
  replace qb4 := cell_later hb qb4
  replace qb5 := cell_later hb qb5
  replace qb6 := cell_later hb qb6
  replace rX := rX.below hb
  replace rY := rY.below hb
  replace lpb := Nat.lt_of_lt_of_le lpb hb.size
  replace lqb := Nat.lt_of_lt_of_le lqb hb.size
  replace B := below_next B hb
  have S11 := hb.size
  clear hb
  go_wp2
  go_ret
  exact ⟨rfl, B⟩

open Go.ChangeShapes Go.WideShapes Go.ChangeAt Go.Joins

set_option maxRecDepth 100000 in
theorem liftedUnpackEntry (os : Os) (started : os.Started) (H : Type) (enc : TypeId × Value → H) :
    ReturnsInHanded {} Try.checked os 8 .any (Rows.fnExactUnpackEntrySpec.pre6 enc Try.prog Try.f8 Rows.fnExactUnpackEntryRow.domain false) (Rows.fnExactUnpackEntrySpec.post enc Try.prog Try.f8 false true false false) := by
  refine returnsInHanded_of_change (C := Try.checked) Try.own started (by kernel_rfl) Try.func8
    (ChangeSpec.witness6 (enc := enc) (C := Try.checked) false ⟨#[], #[.slice none 0 0], []⟩ 8 (by kernel_rfl) (by kernel_rfl) (by kernel_rfl) (by kernel_rfl)) ?_
  intro W base args ds gs before hval0 hW hcnd _
  have hval : ∀ (j : Nat) t v, Try.f8.params[j]? = some t → args[j]? = some v → Value.okWide Try.prog W .any base t v := hval0
  have hW' := hW
  obtain ⟨p, q, hA0, hV, rfl, hfz, hnd⟩ := hW
  have hA : DataW.TrodAll enc Try.prog W 0 (fun _ => true) true Try.f8.params.toList args.toList ds p := hA0
  rw [Try.params8] at hA hval
  obtain ⟨v0, vs0, d0, ds0, p0, q0, hargs, rfl, rfl, h0, r0⟩ := trodAll_cons hA
  obtain ⟨rfl, rfl, rfl⟩ := trodAll_nil r0
  obtain rfl : args = #[v0] := by cases args; simp_all
  obtain ⟨rfl, rfl⟩ := trodVars_none hV
  have lt0 : ∀ x ∈ p0, x.block < W.heap.size := by obtain ⟨m, hm⟩ := h0; exact DataW.trod_lt m _ _ _ hm
  have k0 := h0
  obtain ⟨fuel, hf⟩ := h0
  obtain ⟨av, lv, cv, rfl⟩ := okWide_slice Try.underlying24 (hval 0 24 v0 rfl rfl)
  obtain ⟨a2, n2, c2, zs, hv, hn2, s2⟩ := read_ints Try.underlying24 Try.underlying2 Try.cellsInt (v := .slice av lv cv) (by simpa [Value.cells] using hf)
  obtain ⟨rfl, rfl, rfl⟩ := Value.slice.inj hv
  clear hA0 hval0
  refine (lawUnpackEntry _ _ _ zs W s2 hn2).mono fun e W' ⟨he, bel⟩ => ?_
  subst he
  exact ⟨_, rfl, _, _, _, [], _, [], hW', trodAll_mk1 (shut_bool Try.underlying4 _), (trodAll_cons_mk (Below.trod Try.laidOut (by kernel_rfl) (of_decide_eq_true (by kernel_rfl)) k0 bel lt0) trodAll_mk0), rfl, bel.frame _, fun h => by cases h⟩

set_option maxRecDepth 100000 in
set_option maxHeartbeats 0 in
theorem closedUnpackEntry : joinedFacts Try.prog 8 Try.f8 Rows.fnExactUnpackEntrySpec Rows.fnExactUnpackEntryRow = true := by
  have q1 : (Rows.fnExactUnpackEntryRow.inPlace == Try.prog.inPlace 8) = true := by rw [inPlace_at leads_is inp_is]; kernel_rfl
  have q2 : (Rows.fnExactUnpackEntryRow.unfollowed == Try.prog.unfollowed 8) = true := by rw [unfollowed_at leads_is unf_is]; kernel_rfl
  have q3 : (Rows.fnExactUnpackEntryRow.recurses == Try.prog.recurses 8) = true := (by rw [recurses_unf leads_is (by rw [unfollowed_at leads_is unf_is]; kernel_rfl)]; rfl)
  have q4 : (Rows.fnExactUnpackEntryRow.named == Try.prog.varsNamed 8) = true := by rw [varsNamed_at leads_is var_ok ent_is]; kernel_rfl
  have q5 : (Try.prog.make == some Rows.fnExactUnpackEntryRow.make) = true := by rw [made_cut]; rfl
  have q6 : (Rows.fnExactUnpackEntryRow.lifted == Try.prog.liftsFinal) = true := by rw [lifts_no]; rfl
  have q7 : Try.prog.mayEnter = true := may_enter
  have q8 : laidOutB Try.prog = true := Try.laidOut
  unfold joinedFacts
  repeat' (with_reducible refine Bool.and_eq_true_iff.2 ⟨?_, ?_⟩)
  all_goals (first | with_reducible exact q1 | with_reducible exact q2 | with_reducible exact q3 | with_reducible exact q4 | with_reducible exact q5 | with_reducible exact q6 | with_reducible exact q7 | with_reducible exact q8 | (as_aux_lemma => kernel_rfl))

theorem unpackEntry_holds : Rows.FnExactUnpackEntrySaid :=
  OpenClaim.holds_of_wide 8 Try.f8 rfl rfl rfl rfl rfl rfl rfl ⟨rfl, rfl, rfl, rfl, rfl⟩ rfl rfl rfl rfl rfl (by as_aux_lemma => kernel_rfl) Try.func8 closedUnpackEntry
    (of_decide_eq_true (by as_aux_lemma => kernel_rfl)) (by unfold Func.isWrapper; first | (rw [if_pos (by decide +kernel)]; kernel_rfl) | (rw [if_neg (by decide +kernel)]; exact ⟨rfl, rfl⟩))
    (fun os started H enc _ => liftedUnpackEntry os started H enc)

#print axioms unpackEntry_holds

end Go.Proofs.Ytpbhiednmnolgaa
