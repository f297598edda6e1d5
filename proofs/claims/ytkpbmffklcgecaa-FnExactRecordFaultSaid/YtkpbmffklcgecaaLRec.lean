/- At every list of words the program's RecordFault answers as its model does and writes into no argument: the law FnExactRecordFault is true at every argument, with no condition. -/
import Derived.Test.YtkpbmffklcgecaaRows
import Derived.Test.YtkpbmffklcgecaaK1
import Derived.Test.YtkpbmffklcgecaaRow
import Derived.Test.YtkpbmffklcgecaaEq
import Derived.Test.YtkpbmffklcgecaaCopy
namespace Go.Proofs.Ytkpbmffklcgecaa
open Go.RowKit

theorem toInts_ex {own : Bool} {lo hi : Nat} (ao : Option Addr) (n cap : Nat) (xs : List Int) (w : World) (h : RowAt w own lo hi 1 ao n cap (ints xs)) (hn : n ≤ 1048576) :
    Calls Try.prog 33 #[.slice ao n cap] w fun e w' => ∃ ad : Addr, e = .returned (.slice (some ad) n n) ∧ RowAt w' true w.heap.size w'.heap.size 1 (some ad) n n (ints xs) ∧ Below w.heap.size w w' :=
  (toInts_any ao n cap xs w h hn).mono fun _ _ h => ⟨_, h⟩

set_option maxRecDepth 20000 in
set_option maxHeartbeats 4000000 in
theorem lawRecordFault {o0 : Bool} (a0 : Option Addr) (n0 c0 : Nat) (xs : List Int) (w : World) (h0 : RowAt w o0 0 w.heap.size 1 a0 n0 c0 (ints xs)) (hn : n0 ≤ maxLen) :
    Calls Try.prog 13 #[.slice a0 n0 c0] w fun e w' => e = .returned (.bool true) ∧ Below w.heap.size w w' := by
  unfold maxLen at hn
  have B : Below w.heap.size w w := Below.refl _ _
  by_cases hbig : (1048576 : Int) < n0
  · go_enter Try.func13, Try.ntmps13
    go_wp2
    go_ret
    exact ⟨rfl, B⟩
  have hsz : n0 ≤ 1048576 := by omega
  have hn0 : n0 ≤ 2097152 := by omega
  go_enter Try.func13, Try.ntmps13
  go_wp2_with fail
  refine (toInts_ex _ _ _ xs _ (by exact h0.below B) hsz).mono ?_
  rintro e w1 ⟨ta, rfl, rT, hb⟩
  have B := below_next B hb
  have S1 := hb.size
  clear hb
  go_wp2_with fail
  refine (specRec_any _ _ _ xs _ rT hn0).mono ?_
  rintro e w2 ⟨rfl, hb⟩
  have B := below_next B hb
  have S2 := hb.size
  clear hb rT
  go_wp2_with fail
  refine (toInts_ex _ _ _ xs _ (by exact h0.below B) hsz).mono ?_
  rintro e w3 ⟨xa, rfl, rX, hb⟩
  have B := below_next B hb
  have S3 := hb.size
  clear hb
  go_wp2_with fail
  refine (implRec_any _ _ _ xs _ rX hn0).mono ?_
  rintro e w4 ⟨rfl, rfl⟩
  generalize recFault xs = r
  have hd : (r != r) = false := by simp
  go_wp2_with fail
  refine (toInts_ex _ _ _ xs _ (by exact h0.below B) hsz).mono ?_
  rintro e w6 ⟨ya, rfl, rY, hb⟩
  have rX := rX.below hb
  have B := below_next B hb
  have S4 := hb.size
  clear hb
  go_wp2_with fail
  refine (eqInts_is _ _ _ _ _ _ xs xs _ rX rY hn0 hn0 true (by simp)).mono ?_
  rintro e w7 ⟨rfl, hb⟩
  have rX := rX.below hb
  have B := below_next B hb
  have S5 := hb.size
  clear hb rY
  go_wp2
  go_ret
  exact ⟨rfl, B⟩

open Go.ChangeShapes Go.WideShapes Go.ChangeAt Go.Joins

set_option maxRecDepth 100000 in
theorem liftedRecordFault (os : Os) (started : os.Started) (H : Type) (enc : TypeId × Value → H) :
    ReturnsInHanded {} Try.checked os 13 .any (Rows.fnExactRecordFaultSpec.pre6 enc Try.prog Try.f13 Rows.fnExactRecordFaultRow.domain false) (Rows.fnExactRecordFaultSpec.post enc Try.prog Try.f13 false true false false) := by
  refine returnsInHanded_of_change (C := Try.checked) Try.own started (by kernel_rfl) Try.func13
    (ChangeSpec.witness6 (enc := enc) (C := Try.checked) false ⟨#[], #[.slice none 0 0], []⟩ 8 (by kernel_rfl) (by kernel_rfl) (by kernel_rfl) (by kernel_rfl)) ?_
  intro W base args ds gs before hval0 hW hcnd _
  have hval : ∀ (j : Nat) t v, Try.f13.params[j]? = some t → args[j]? = some v → Value.okWide Try.prog W .any base t v := hval0
  have hW' := hW
  obtain ⟨p, q, hA0, hV, rfl, hfz, hnd⟩ := hW
  have hA : DataW.TrodAll enc Try.prog W 0 (fun _ => true) true Try.f13.params.toList args.toList ds p := hA0
  rw [Try.params13] at hA hval
  obtain ⟨v0, vs0, d0, ds0, p0, q0, hargs, rfl, rfl, h0, r0⟩ := trodAll_cons hA
  obtain ⟨rfl, rfl, rfl⟩ := trodAll_nil r0
  obtain rfl : args = #[v0] := by cases args; simp_all
  obtain ⟨rfl, rfl⟩ := trodVars_none hV
  have lt0 : ∀ x ∈ p0, x.block < W.heap.size := by obtain ⟨m, hm⟩ := h0; exact DataW.trod_lt m _ _ _ hm
  have k0 := h0
  obtain ⟨fuel, hf⟩ := h0
  obtain ⟨av, lv, cv, rfl⟩ := okWide_slice Try.underlying24 (hval 0 24 v0 rfl rfl)
  obtain ⟨a2, n2, c2, zs, hv, hn2, s2⟩ := read_ints Try.underlying24 Try.underlying2 Try.cellsInt (v := .slice av lv cv) (by simpa [Value.cells] using hf)
  obtain ⟨rfl, rfl, rfl⟩ := Value.slice.inj hv
  clear hA0 hval0
  refine (lawRecordFault _ _ _ zs W s2 hn2).mono fun e W' ⟨he, bel⟩ => ?_
  subst he
  exact ⟨_, rfl, _, _, _, [], _, [], hW', trodAll_mk1 (shut_bool Try.underlying4 _), (trodAll_cons_mk (Below.trod Try.laidOut (by kernel_rfl) (of_decide_eq_true (by kernel_rfl)) k0 bel lt0) trodAll_mk0), rfl, bel.frame _, fun h => by cases h⟩

theorem recordFault_holds : Rows.FnExactRecordFaultSaid :=
  OpenClaim.holds_of_wide 13 Try.f13 rfl rfl rfl rfl rfl rfl rfl ⟨rfl, rfl, rfl, rfl, rfl⟩ rfl rfl rfl rfl rfl (by kernel_rfl) Try.func13 (by kernel_rfl)
    (of_decide_eq_true (by kernel_rfl)) (by unfold Func.isWrapper; first | (rw [if_pos (by decide +kernel)]; kernel_rfl) | (rw [if_neg (by decide +kernel)]; exact ⟨rfl, rfl⟩))
    (fun os started H enc _ => liftedRecordFault os started H enc)

#print axioms recordFault_holds
end Go.Proofs.Ytkpbmffklcgecaa
