/- At every list of blocks the program's BlocksFault answers as its model does and writes into no argument: the law FnExactBlocksFault is true at every argument, with no condition. -/
import Derived.Test.YtlblbjebbecgbaaRows
import Derived.Test.YtlblbjebbecgbaaQ1
import Derived.Test.YtlblbjebbecgbaaBC
import Derived.Test.YtlblbjebbecgbaaRow
namespace Go.Proofs.Ytlblbjebbecgbaa
open Go.RowKit

theorem Try.cellsBlk : Try.prog.cellsOf 126 = 2 := by kernel_rfl
theorem toBlocks_ex {own : Bool} {lo hi : Nat} (ao : Option Addr) (n cap : Nat) (xs : List (Int × Int)) (w : World) (h : RowAt w own lo hi 2 ao n cap (pairs xs)) (hn : n ≤ 1048576) :
    Calls Try.prog 62 #[.slice ao n cap] w fun e w' => ∃ ad : Addr, e = .returned (.slice (some ad) n n) ∧ RowAt w' true w.heap.size w'.heap.size 2 (some ad) n n (pairs xs) ∧ Below w.heap.size w w' :=
  (toBlocks_any ao n cap xs w h hn).mono fun _ _ h => ⟨_, h⟩

set_option maxRecDepth 20000 in
set_option maxHeartbeats 4000000 in
theorem lawBlocksFault {o0 : Bool} (a0 : Option Addr) (n0 c0 : Nat) (ys : List (Int × Int)) (w : World) (h0 : RowAt w o0 0 w.heap.size 2 a0 n0 c0 (pairs ys)) (hn : n0 ≤ maxLen) :
    Calls Try.prog 12 #[.slice a0 n0 c0] w fun e w' => e = .returned (.bool true) ∧ Below w.heap.size w w' := by
  have B : Below w.heap.size w w := Below.refl _ _
  have hyl := h0.nPairs
  obtain ⟨cd, hcd⟩ : ∃ cd, blkFault ys = cd := ⟨_, rfl⟩
  have Hcd : Hid _ := hcd
  clear hcd
  go_enter Try.func12, Try.ntmps12
  go_wp2_with fail
  refine (szBlocks_any _ _ _ _ _ hn rfl).mono ?_
  rintro e w1 ⟨r, rfl, rfl, hr⟩
  rcases hr with hr | ⟨hr, hsz⟩
  · go_wp2
    go_ret
    exact ⟨rfl, B⟩
  have hr' : ¬ r < 0 := by omega
  clear hr
  have hn0 : n0 ≤ 2097152 := by omega
  go_wp2_with fail
  refine (toBlocks_ex _ _ _ ys _ (by exact h0.below B) hsz).mono ?_
  rintro e w2 ⟨ta, rfl, rT, hb⟩
  replace B := below_next B hb
  have S1 := hb.size
  clear hb
  go_wp2_with fail
  refine (specBF_b _ _ _ ys _ rT hn0 cd Hcd.out).mono ?_
  rintro e w3 ⟨rfl, hb⟩
  replace B := below_next B hb
  have S2 := hb.size
  clear hb
  clear rT
  go_wp2_with fail
  refine (toBlocks_ex _ _ _ ys _ (by exact h0.below B) hsz).mono ?_
  rintro e w4 ⟨xa, rfl, rX, hb⟩
  replace B := below_next B hb
  have S3 := hb.size
  clear hb
  go_wp2_with fail
  refine (implBF_b _ _ _ ys _ rX hn0 cd Hcd.out).mono ?_
  rintro e w5 ⟨rfl, hb⟩
  replace rX := rX.below hb
  replace B := below_next B hb
  have S4 := hb.size
  clear hb
  have hd : (cd != cd) = false := by simp
  go_wp2_with fail
  refine (toBlocks_ex _ _ _ ys _ (by exact h0.below B) hsz).mono ?_
  rintro e w7 ⟨ya, rfl, rY, hb⟩
  replace rX := rX.below hb
  replace B := below_next B hb
  have S5 := hb.size
  clear hb
  go_wp2_with fail
  refine (eqBlocks_is _ _ _ _ _ _ ys ys _ rX rY hn0 hn0 true (by simp)).mono ?_
  rintro e w8 ⟨rfl, hb⟩
  replace rX := rX.below hb
  replace B := below_next B hb
  have S6 := hb.size
  clear hb
  clear rY
  go_wp2
  go_ret
  exact ⟨rfl, B⟩

open Go.ChangeShapes Go.WideShapes Go.ChangeAt Go.Joins

set_option maxRecDepth 100000 in
theorem liftedBlocksFault (os : Os) (started : os.Started) (H : Type) (enc : TypeId × Value → H) :
    ReturnsInHanded {} Try.checked os 12 .any (Rows.fnExactBlocksFaultSpec.pre6 enc Try.prog Try.f12 Rows.fnExactBlocksFaultRow.domain false) (Rows.fnExactBlocksFaultSpec.post enc Try.prog Try.f12 false true false false) := by
  refine returnsInHanded_of_change (C := Try.checked) Try.own started (by kernel_rfl) Try.func12
    (ChangeSpec.witness6 (enc := enc) (C := Try.checked) false ⟨#[], #[.slice none 0 0], []⟩ 8 (by kernel_rfl) (by kernel_rfl) (by kernel_rfl) (by kernel_rfl)) ?_
  intro W base args ds gs before hval0 hW hcnd _
  have hval : ∀ (j : Nat) t v, Try.f12.params[j]? = some t → args[j]? = some v → Value.okWide Try.prog W .any base t v := hval0
  have hW' := hW
  obtain ⟨p, q, hA0, hV, rfl, hfz, hnd⟩ := hW
  have hA : DataW.TrodAll enc Try.prog W 0 (fun _ => true) true Try.f12.params.toList args.toList ds p := hA0
  rw [Try.params12] at hA hval
  obtain ⟨v0, vs0, d0, ds0, p0, q0, hargs, rfl, rfl, h0, r0⟩ := trodAll_cons hA
  obtain ⟨rfl, rfl, rfl⟩ := trodAll_nil r0
  obtain rfl : args = #[v0] := by cases args; simp_all
  obtain ⟨rfl, rfl⟩ := trodVars_none hV
  have lt0 : ∀ x ∈ p0, x.block < W.heap.size := by obtain ⟨m, hm⟩ := h0; exact DataW.trod_lt m _ _ _ hm
  have k0 := h0
  obtain ⟨fuel, hf⟩ := h0
  obtain ⟨av, lv, cv, rfl⟩ := okWide_slice Try.underlying80 (hval 0 80 v0 rfl rfl)
  obtain ⟨a2, n2, c2, zs, hv, hn2, s2⟩ := read_pairs Try.underlying80 Try.underlying126 Try.cellsBlk rfl rfl Try.underlying2 Try.underlying2 Try.cellsInt Try.cellsInt (v := .slice av lv cv) (by simpa [Value.cells] using hf)
  obtain ⟨rfl, rfl, rfl⟩ := Value.slice.inj hv
  clear hA0 hval0
  refine (lawBlocksFault _ _ _ zs W s2 hn2).mono fun e W' ⟨he, bel⟩ => ?_
  subst he
  exact ⟨_, rfl, _, _, _, [], _, [], hW', trodAll_mk1 (shut_bool Try.underlying4 _), (trodAll_cons_mk (Below.trod Try.laidOut (by kernel_rfl) (of_decide_eq_true (by kernel_rfl)) k0 bel lt0) trodAll_mk0), rfl, bel.frame _, fun h => by cases h⟩

theorem blocksFault_holds : Rows.FnExactBlocksFaultSaid :=
  OpenClaim.holds_of_wide 12 Try.f12 rfl rfl rfl rfl rfl rfl rfl ⟨rfl, rfl, rfl, rfl, rfl⟩ rfl rfl rfl rfl rfl (by kernel_rfl) Try.func12 (by kernel_rfl)
    (of_decide_eq_true (by kernel_rfl)) (by unfold Func.isWrapper; first | (rw [if_pos (by decide +kernel)]; kernel_rfl) | (rw [if_neg (by decide +kernel)]; exact ⟨rfl, rfl⟩))
    (fun os started H enc _ => liftedBlocksFault os started H enc)

#print axioms blocksFault_holds
end Go.Proofs.Ytlblbjebbecgbaa
