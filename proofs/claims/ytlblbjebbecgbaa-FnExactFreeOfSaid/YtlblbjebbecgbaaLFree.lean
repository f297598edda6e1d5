/- At every list of blocks the program's FreeOf answers as its model does and writes into no argument: the law FnExactFreeOf is true at every argument, with no condition. -/
import Derived.Test.YtlblbjebbecgbaaRows
import Derived.Test.YtlblbjebbecgbaaQ1
import Derived.Test.YtlblbjebbecgbaaBC
import Derived.Test.YtlblbjebbecgbaaRow
import Derived.Test.YtlblbjebbecgbaaWordAt
namespace Go.Proofs.Ytlblbjebbecgbaa
open Go.RowKit

theorem Try.cellsBlk : Try.prog.cellsOf 126 = 2 := by kernel_rfl
theorem toBlocks_ex {own : Bool} {lo hi : Nat} (ao : Option Addr) (n cap : Nat) (xs : List (Int × Int)) (w : World) (h : RowAt w own lo hi 2 ao n cap (pairs xs)) (hn : n ≤ 1048576) :
    Calls Try.prog 62 #[.slice ao n cap] w fun e w' => ∃ ad : Addr, e = .returned (.slice (some ad) n n) ∧ RowAt w' true w.heap.size w'.heap.size 2 (some ad) n n (pairs xs) ∧ Below w.heap.size w w' :=
  (toBlocks_any ao n cap xs w h hn).mono fun _ _ h => ⟨_, h⟩

set_option maxRecDepth 20000 in
set_option maxHeartbeats 4000000 in
theorem lawFreeOf {o0 : Bool} (a0 : Option Addr) (n0 c0 : Nat) (ys : List (Int × Int)) (w : World) (h0 : RowAt w o0 0 w.heap.size 2 a0 n0 c0 (pairs ys)) (hn : n0 ≤ maxLen) :
    Calls Try.prog 17 #[.slice a0 n0 c0] w fun e w' => e = .returned (.bool true) ∧ Below w.heap.size w w' := by
  have B : Below w.heap.size w w := Below.refl _ _
  have hyl := h0.nPairs
  obtain ⟨cd, hcd⟩ : ∃ cd, blkFault ys = cd := ⟨_, rfl⟩
  obtain ⟨vl, hvl⟩ : ∃ vl, freeVal ys = vl := ⟨_, rfl⟩
  have Hcd : Hid _ := hcd
  have Hvl : Hid _ := hvl
  clear hcd hvl
  go_enter Try.func17, Try.ntmps17
  go_wp2_with fail
  refine (szBlocks_any _ _ _ _ _ hn rfl).mono ?_
  rintro e w1 ⟨r, rfl, rfl, hr⟩
  rcases hr with hr | ⟨hr, hsz⟩
  · go_wp2
    go_ret
    exact ⟨rfl, B⟩
  have hr' : ¬ r < 0 := by omega
  clear hr
  have hn0 : n0 ≤ 2097152 := by omega
  go_wp2_with fail
  refine (toBlocks_ex _ _ _ ys _ (by exact h0.below B) hsz).mono ?_
  rintro e w2 ⟨ta, rfl, rT, hb⟩
  replace B := below_next B hb
  have S1 := hb.size
  clear hb
  go_wp2_with fail
  refine (specFree_is _ _ _ ys _ rT hn0 cd vl Hcd.out Hvl.out).mono ?_
  rintro e w3 ⟨rfl, hb⟩
  replace B := below_next B hb
  have S2 := hb.size
  clear hb
  clear rT
  go_wp2_with fail
  have A3 : Below w3.heap.size w3 (w3.alloc (.cells #[.int .i64 cd, .int .i64 vl] 43)) := (Below.refl _ _).alloc (Nat.le_refl _) _
  replace B := below_next B A3
  have S4 := A3.size
  clear A3
  have E4 : w3.heap.size + 1 ≤ (w3.alloc (.cells #[.int .i64 cd, .int .i64 vl] 43)).heap.size := by simp
  have pb0 : (w3.alloc (.cells #[.int .i64 cd, .int .i64 vl] 43)).cell? ⟨w3.heap.size, 0, none⟩ = some (.int .i64 cd) := by simp
  have pb1 : (w3.alloc (.cells #[.int .i64 cd, .int .i64 vl] 43)).cell? ⟨w3.heap.size, 1, none⟩ = some (.int .i64 vl) := by simp
  have lpb : w3.heap.size < (w3.alloc (.cells #[.int .i64 cd, .int .i64 vl] 43)).heap.size := by simp
  go_wp2_with fail
  refine (toBlocks_ex _ _ _ ys _ (by exact h0.below B) hsz).mono ?_
  rintro e w4 ⟨xa, rfl, rX, hb⟩
  replace pb0 := cell_later hb pb0
  replace pb1 := cell_later hb pb1
  replace lpb := Nat.lt_of_lt_of_le lpb hb.size
  replace B := below_next B hb
  have S5 := hb.size
  clear hb
  go_wp2_with fail
  refine (implFree_is _ _ _ ys _ rX hn0 cd vl Hcd.out Hvl.out).mono ?_
  rintro e w5 ⟨rfl, hb⟩
  replace pb0 := cell_later hb pb0
  replace pb1 := cell_later hb pb1
  replace rX := rX.below hb
  replace lpb := Nat.lt_of_lt_of_le lpb hb.size
  replace B := below_next B hb
  have S6 := hb.size
  clear hb
  go_wp2_with fail
  have A7 : Below w5.heap.size w5 (w5.alloc (.cells #[.int .i64 cd, .int .i64 vl] 43)) := (Below.refl _ _).alloc (Nat.le_refl _) _
  replace pb0 := cell_later A7 pb0
  replace pb1 := cell_later A7 pb1
  replace rX := rX.below A7
  replace lpb := Nat.lt_of_lt_of_le lpb A7.size
  replace B := below_next B A7
  have S8 := A7.size
  clear A7
  have E8 : w5.heap.size + 1 ≤ (w5.alloc (.cells #[.int .i64 cd, .int .i64 vl] 43)).heap.size := by simp
  have qb0 : (w5.alloc (.cells #[.int .i64 cd, .int .i64 vl] 43)).cell? ⟨w5.heap.size, 0, none⟩ = some (.int .i64 cd) := by simp
  have qb1 : (w5.alloc (.cells #[.int .i64 cd, .int .i64 vl] 43)).cell? ⟨w5.heap.size, 1, none⟩ = some (.int .i64 vl) := by simp
  have lqb : w5.heap.size < (w5.alloc (.cells #[.int .i64 cd, .int .i64 vl] 43)).heap.size := by simp
  go_wp2_with fail
  refine (eqNRes_yes _ _ _).mono ?_
  rintro e w6 ⟨rfl, hb⟩
  replace pb0 := cell_later hb pb0
  replace pb1 := cell_later hb pb1
  replace qb0 := cell_later hb qb0
  replace qb1 := cell_later hb qb1
  replace rX := rX.below hb
  replace lpb := Nat.lt_of_lt_of_le lpb hb.size
  replace lqb := Nat.lt_of_lt_of_le lqb hb.size
  replace B := below_next B hb
  have S9 := hb.size
  clear hb
  go_wp2_with fail
  refine (toBlocks_ex _ _ _ ys _ (by exact h0.below B) hsz).mono ?_
  rintro e w7 ⟨ya, rfl, rY, hb⟩
  replace pb0 := cell_later hb pb0
  replace pb1 := cell_later hb pb1
  replace qb0 := cell_later hb qb0
  replace qb1 := cell_later hb qb1
  replace rX := rX.below hb
  replace lpb := Nat.lt_of_lt_of_le lpb hb.size
  replace lqb := Nat.lt_of_lt_of_le lqb hb.size
  replace B := below_next B hb
  have S10 := hb.size
  clear hb
  go_wp2_with fail
  refine (eqBlocks_is _ _ _ _ _ _ ys ys _ rX rY hn0 hn0 true (by simp)).mono ?_
  rintro e w8 ⟨rfl, hb⟩
  replace pb0 := cell_later hb pb0
  replace pb1 := cell_later hb pb1
  replace qb0 := cell_later hb qb0
  replace qb1 := cell_later hb qb1
  replace rX := rX.below hb
  replace lpb := Nat.lt_of_lt_of_le lpb hb.size
  replace lqb := Nat.lt_of_lt_of_le lqb hb.size
  replace B := below_next B hb
  have S11 := hb.size
  clear hb
  clear rY
  go_wp2
  go_ret
  exact ⟨rfl, B⟩

open Go.ChangeShapes Go.WideShapes Go.ChangeAt Go.Joins

set_option maxRecDepth 100000 in
theorem liftedFreeOf (os : Os) (started : os.Started) (H : Type) (enc : TypeId × Value → H) :
    ReturnsInHanded {} Try.checked os 17 .any (Rows.fnExactFreeOfSpec.pre6 enc Try.prog Try.f17 Rows.fnExactFreeOfRow.domain false) (Rows.fnExactFreeOfSpec.post enc Try.prog Try.f17 false true false false) := by
  refine returnsInHanded_of_change (C := Try.checked) Try.own started (by kernel_rfl) Try.func17
    (ChangeSpec.witness6 (enc := enc) (C := Try.checked) false ⟨#[], #[.slice none 0 0], []⟩ 8 (by kernel_rfl) (by kernel_rfl) (by kernel_rfl) (by kernel_rfl)) ?_
  intro W base args ds gs before hval0 hW hcnd _
  have hval : ∀ (j : Nat) t v, Try.f17.params[j]? = some t → args[j]? = some v → Value.okWide Try.prog W .any base t v := hval0
  have hW' := hW
  obtain ⟨p, q, hA0, hV, rfl, hfz, hnd⟩ := hW
  have hA : DataW.TrodAll enc Try.prog W 0 (fun _ => true) true Try.f17.params.toList args.toList ds p := hA0
  rw [Try.params17] at hA hval
  obtain ⟨v0, vs0, d0, ds0, p0, q0, hargs, rfl, rfl, h0, r0⟩ := trodAll_cons hA
  obtain ⟨rfl, rfl, rfl⟩ := trodAll_nil r0
  obtain rfl : args = #[v0] := by cases args; simp_all
  obtain ⟨rfl, rfl⟩ := trodVars_none hV
  have lt0 : ∀ x ∈ p0, x.block < W.heap.size := by obtain ⟨m, hm⟩ := h0; exact DataW.trod_lt m _ _ _ hm
  have k0 := h0
  obtain ⟨fuel, hf⟩ := h0
  obtain ⟨av, lv, cv, rfl⟩ := okWide_slice Try.underlying80 (hval 0 80 v0 rfl rfl)
  obtain ⟨a2, n2, c2, zs, hv, hn2, s2⟩ := read_pairs Try.underlying80 Try.underlying126 Try.cellsBlk rfl rfl Try.underlying2 Try.underlying2 Try.cellsInt Try.cellsInt (v := .slice av lv cv) (by simpa [Value.cells] using hf)
  obtain ⟨rfl, rfl, rfl⟩ := Value.slice.inj hv
  clear hA0 hval0
  refine (lawFreeOf _ _ _ zs W s2 hn2).mono fun e W' ⟨he, bel⟩ => ?_
  subst he
  exact ⟨_, rfl, _, _, _, [], _, [], hW', trodAll_mk1 (shut_bool Try.underlying4 _), (trodAll_cons_mk (Below.trod Try.laidOut (by kernel_rfl) (of_decide_eq_true (by kernel_rfl)) k0 bel lt0) trodAll_mk0), rfl, bel.frame _, fun h => by cases h⟩

theorem freeOf_holds : Rows.FnExactFreeOfSaid :=
  OpenClaim.holds_of_wide 17 Try.f17 rfl rfl rfl rfl rfl rfl rfl ⟨rfl, rfl, rfl, rfl, rfl⟩ rfl rfl rfl rfl rfl (by kernel_rfl) Try.func17 (by kernel_rfl)
    (of_decide_eq_true (by kernel_rfl)) (by unfold Func.isWrapper; first | (rw [if_pos (by decide +kernel)]; kernel_rfl) | (rw [if_neg (by decide +kernel)]; exact ⟨rfl, rfl⟩))
    (fun os started H enc _ => liftedFreeOf os started H enc)

#print axioms freeOf_holds
end Go.Proofs.Ytlblbjebbecgbaa
