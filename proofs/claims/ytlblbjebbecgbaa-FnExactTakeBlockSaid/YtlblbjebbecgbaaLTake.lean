/- At every list of blocks and data the program's TakeBlock answers as its model does, field by field, writes into no argument and owns what it answers: the law FnExactTakeBlock is true at every argument, with no condition. -/
import Derived.Test.YtlblbjebbecgbaaRows
import Derived.Test.YtlblbjebbecgbaaQ1
import Derived.Test.YtlblbjebbecgbaaBC
import Derived.Test.YtlblbjebbecgbaaRow
namespace Go.Proofs.Ytlblbjebbecgbaa
open Go.RowKit

theorem Try.cellsBlk : Try.prog.cellsOf 126 = 2 := by kernel_rfl
theorem toBlocks_ex {own : Bool} {lo hi : Nat} (ao : Option Addr) (n cap : Nat) (xs : List (Int × Int)) (w : World) (h : RowAt w own lo hi 2 ao n cap (pairs xs)) (hn : n ≤ 1048576) :
    Calls Try.prog 62 #[.slice ao n cap] w fun e w' => ∃ ad : Addr, e = .returned (.slice (some ad) n n) ∧ RowAt w' true w.heap.size w'.heap.size 2 (some ad) n n (pairs xs) ∧ Below w.heap.size w w' :=
  (toBlocks_any ao n cap xs w h hn).mono fun _ _ h => ⟨_, h⟩

set_option maxRecDepth 20000 in
set_option maxHeartbeats 4000000 in
theorem lawTakeBlock {o0 : Bool} (a0 : Option Addr) (n0 c0 : Nat) (ys : List (Int × Int)) (x : Int) (w : World) (h0 : RowAt w o0 0 w.heap.size 2 a0 n0 c0 (pairs ys)) (hn : n0 ≤ maxLen) :
    Calls Try.prog 14 #[.slice a0 n0 c0, .int .i64 x] w fun e w' => e = .returned (.bool true) ∧ Below w.heap.size w w' := by
  have B : Below w.heap.size w w := Below.refl _ _
  have hyl := h0.nPairs
  obtain ⟨cd, hcd⟩ : ∃ cd, takeCode ys x = cd := ⟨_, rfl⟩
  obtain ⟨at', hat'⟩ : ∃ at', (takeAt ys x : Int) = at' := ⟨_, rfl⟩
  obtain ⟨bl, hbl⟩ : ∃ bl, takeList ys x = bl := ⟨_, rfl⟩
  have hb2 : bl.length ≤ 2097152 ∨ 1048576 < n0 := by rw [← hbl]; exact take_len ys x n0 hyl
  have Hcd : Hid _ := hcd
  have Hat' : Hid _ := hat'
  have Hbl : Hid _ := hbl
  clear hcd hat' hbl
  go_enter Try.func14, Try.ntmps14
  go_wp2_with fail
  refine (szBlocks_any _ _ _ _ _ hn rfl).mono ?_
  rintro e w1 ⟨r, rfl, rfl, hr⟩
  rcases hr with hr | ⟨hr, hsz⟩
  · go_wp2
    go_ret
    exact ⟨rfl, B⟩
  have hr' : ¬ r < 0 := by omega
  clear hr
  have hn0 : n0 ≤ 2097152 := by omega
  replace hb2 : bl.length ≤ 2097152 := by omega
  go_wp2_with fail
  refine (toBlocks_ex _ _ _ ys _ (by exact h0.below B) hsz).mono ?_
  rintro e w2 ⟨ta, rfl, rT, hb⟩
  replace B := below_next B hb
  have S1 := hb.size
  clear hb
  go_wp2_with fail
  refine (specTakeBlock_is _ _ _ ys _ rT hn0 x cd at' bl Hcd.out Hat'.out Hbl.out).mono ?_
  rintro e w3 ⟨pa, pn, pc, rfl, dP, hb⟩
  replace B := below_next B hb
  have S2 := hb.size
  clear hb
  have pL : pn ≤ 2097152 := by rw [← dP.nPairs]; exact hb2
  clear rT
  go_wp2_with fail
  have A3 : Below w3.heap.size w3 (w3.alloc (.cells #[.int .i64 cd, .int .i64 at', .slice pa pn pc] 51)) := (Below.refl _ _).alloc (Nat.le_refl _) _
  replace dP := dP.below A3
  replace B := below_next B A3
  have S4 := A3.size
  clear A3
  have E4 : w3.heap.size + 1 ≤ (w3.alloc (.cells #[.int .i64 cd, .int .i64 at', .slice pa pn pc] 51)).heap.size := by simp
  have pb0 : (w3.alloc (.cells #[.int .i64 cd, .int .i64 at', .slice pa pn pc] 51)).cell? ⟨w3.heap.size, 0, none⟩ = some (.int .i64 cd) := by simp
  have pb1 : (w3.alloc (.cells #[.int .i64 cd, .int .i64 at', .slice pa pn pc] 51)).cell? ⟨w3.heap.size, 1, none⟩ = some (.int .i64 at') := by simp
  have pb2 : (w3.alloc (.cells #[.int .i64 cd, .int .i64 at', .slice pa pn pc] 51)).cell? ⟨w3.heap.size, 2, none⟩ = some (.slice pa pn pc) := by simp
  have lpb : w3.heap.size < (w3.alloc (.cells #[.int .i64 cd, .int .i64 at', .slice pa pn pc] 51)).heap.size := by simp
  go_wp2_with fail
  refine (toBlocks_ex _ _ _ ys _ (by exact h0.below B) hsz).mono ?_
  rintro e w4 ⟨xa, rfl, rX, hb⟩
  replace pb0 := cell_later hb pb0
  replace pb1 := cell_later hb pb1
  replace pb2 := cell_later hb pb2
  replace dP := dP.below hb
  replace lpb := Nat.lt_of_lt_of_le lpb hb.size
  replace B := below_next B hb
  have S5 := hb.size
  clear hb
  go_wp2_with fail
  refine (implTakeBlock_is _ _ _ ys _ rX hn0 x cd at' bl Hcd.out Hat'.out Hbl.out).mono ?_
  rintro e w5 ⟨qa, qn, qc, rfl, dQ, hb⟩
  replace pb0 := cell_later hb pb0
  replace pb1 := cell_later hb pb1
  replace pb2 := cell_later hb pb2
  replace dP := dP.below hb
  replace rX := rX.below hb
  replace lpb := Nat.lt_of_lt_of_le lpb hb.size
  replace B := below_next B hb
  have S6 := hb.size
  clear hb
  have qL : qn ≤ 2097152 := by rw [← dQ.nPairs]; exact hb2
  go_wp2_with fail
  have A7 : Below w5.heap.size w5 (w5.alloc (.cells #[.int .i64 cd, .int .i64 at', .slice qa qn qc] 51)) := (Below.refl _ _).alloc (Nat.le_refl _) _
  replace pb0 := cell_later A7 pb0
  replace pb1 := cell_later A7 pb1
  replace pb2 := cell_later A7 pb2
  replace dP := dP.below A7
  replace rX := rX.below A7
  replace dQ := dQ.below A7
  replace lpb := Nat.lt_of_lt_of_le lpb A7.size
  replace B := below_next B A7
  have S8 := A7.size
  clear A7
  have E8 : w5.heap.size + 1 ≤ (w5.alloc (.cells #[.int .i64 cd, .int .i64 at', .slice qa qn qc] 51)).heap.size := by simp
  have qb0 : (w5.alloc (.cells #[.int .i64 cd, .int .i64 at', .slice qa qn qc] 51)).cell? ⟨w5.heap.size, 0, none⟩ = some (.int .i64 cd) := by simp
  have qb1 : (w5.alloc (.cells #[.int .i64 cd, .int .i64 at', .slice qa qn qc] 51)).cell? ⟨w5.heap.size, 1, none⟩ = some (.int .i64 at') := by simp
  have qb2 : (w5.alloc (.cells #[.int .i64 cd, .int .i64 at', .slice qa qn qc] 51)).cell? ⟨w5.heap.size, 2, none⟩ = some (.slice qa qn qc) := by simp
  have lqb : w5.heap.size < (w5.alloc (.cells #[.int .i64 cd, .int .i64 at', .slice qa qn qc] 51)).heap.size := by simp
  go_wp2_with fail
  refine (eqBRes_yes cd at' _ _ _ _ _ _ bl _ dQ dP qL).mono ?_
  rintro e w6 ⟨rfl, hb⟩
  replace pb0 := cell_later hb pb0
  replace pb1 := cell_later hb pb1
  replace pb2 := cell_later hb pb2
  replace qb0 := cell_later hb qb0
  replace qb1 := cell_later hb qb1
  replace qb2 := cell_later hb qb2
  replace dP := dP.below hb
  replace rX := rX.below hb
  replace dQ := dQ.below hb
  replace lpb := Nat.lt_of_lt_of_le lpb hb.size
  replace lqb := Nat.lt_of_lt_of_le lqb hb.size
  replace B := below_next B hb
  have S9 := hb.size
  clear hb
  go_wp2_with fail
  refine (toBlocks_ex _ _ _ ys _ (by exact h0.below B) hsz).mono ?_
  rintro e w7 ⟨ya, rfl, rY, hb⟩
  replace pb0 := cell_later hb pb0
  replace pb1 := cell_later hb pb1
  replace pb2 := cell_later hb pb2
  replace qb0 := cell_later hb qb0
  replace qb1 := cell_later hb qb1
  replace qb2 := cell_later hb qb2
  replace dP := dP.below hb
  replace rX := rX.below hb
  replace dQ := dQ.below hb
  replace lpb := Nat.lt_of_lt_of_le lpb hb.size
  replace lqb := Nat.lt_of_lt_of_le lqb hb.size
  replace B := below_next B hb
  have S10 := hb.size
  clear hb
  go_wp2_with fail
  refine (eqBlocks_is _ _ _ _ _ _ ys ys _ rX rY hn0 hn0 true (by simp)).mono ?_
  rintro e w8 ⟨rfl, hb⟩
  replace pb0 := cell_later hb pb0
  replace pb1 := cell_later hb pb1
  replace pb2 := cell_later hb pb2
  replace qb0 := cell_later hb qb0
  replace qb1 := cell_later hb qb1
  replace qb2 := cell_later hb qb2
  replace dP := dP.below hb
  replace rX := rX.below hb
  replace dQ := dQ.below hb
  replace lpb := Nat.lt_of_lt_of_le lpb hb.size
  replace lqb := Nat.lt_of_lt_of_le lqb hb.size
  replace B := below_next B hb
  have S11 := hb.size
  clear hb
  clear rY
  go_wp2_with fail
  refine (markBlocks_any _ _ _ ys _ _ rX (by omega) (by omega) (by omega)).mono ?_
  rintro e w9 ⟨rfl, rX', K⟩
  replace pb0 := K.cell pb0 (by omega)
  replace pb1 := K.cell pb1 (by omega)
  replace pb2 := K.cell pb2 (by omega)
  replace qb0 := K.cell qb0 (by omega)
  replace qb1 := K.cell qb1 (by omega)
  replace qb2 := K.cell qb2 (by omega)
  replace dP := dP.kept K (by omega)
  replace dQ := dQ.kept K (by omega)
  replace lpb := Nat.lt_of_lt_of_le lpb K.size
  replace lqb := Nat.lt_of_lt_of_le lqb K.size
  replace B := B.trans (K.below _ (by omega) (by omega))
  have S12 := K.size
  clear rX rX' K
  have hk : ¬ ((1 : Int) + 2 * n0 < 0) := by omega
  go_wp2_with fail
  refine (eqBRes_yes cd at' _ _ _ _ _ _ bl _ dQ dP qL).mono ?_
  rintro e w10 ⟨rfl, hb⟩
  replace pb0 := cell_later hb pb0
  replace pb1 := cell_later hb pb1
  replace pb2 := cell_later hb pb2
  replace qb0 := cell_later hb qb0
  replace qb1 := cell_later hb qb1
  replace qb2 := cell_later hb qb2
  replace dP := dP.below hb
  replace dQ := dQ.below hb
  replace lpb := Nat.lt_of_lt_of_le lpb hb.size
  replace lqb := Nat.lt_of_lt_of_le lqb hb.size
  replace B := below_next B hb
  have S13 := hb.size
  clear hb
  go_wp2_with fail
  refine (markBRes_any cd at' _ _ _ bl _ dQ (by omega)).mono ?_
  rintro e w11 ⟨rfl, dM, K⟩
  replace pb0 := K.cell pb0 (by omega)
  replace pb1 := K.cell pb1 (by omega)
  replace pb2 := K.cell pb2 (by omega)
  replace qb0 := K.cell qb0 (by omega)
  replace qb1 := K.cell qb1 (by omega)
  replace qb2 := K.cell qb2 (by omega)
  replace dP := dP.kept K (by omega)
  replace lpb := Nat.lt_of_lt_of_le lpb K.size
  replace lqb := Nat.lt_of_lt_of_le lqb K.size
  replace B := B.trans (K.below _ (by omega) (by omega))
  have S14 := K.size
  clear dQ K
  go_wp2_with fail
  refine (heldBRes_any cd at' _ _ _ _ dM (by omega)).mono ?_
  rintro e w12 ⟨rfl, hb⟩
  replace pb0 := cell_later hb pb0
  replace pb1 := cell_later hb pb1
  replace pb2 := cell_later hb pb2
  replace qb0 := cell_later hb qb0
  replace qb1 := cell_later hb qb1
  replace qb2 := cell_later hb qb2
  replace dP := dP.below hb
  replace dM := dM.below hb
  replace lpb := Nat.lt_of_lt_of_le lpb hb.size
  replace lqb := Nat.lt_of_lt_of_le lqb hb.size
  replace B := below_next B hb
  have S15 := hb.size
  clear hb
  have hq : ¬ ((1 : Int) + 2 * qn < 0) := by omega
  have he : (((1 : Int) + 2 * qn) != ((1 : Int) + 2 * qn)) = false := by simp
  go_wp2_with fail
  refine (toBlocks_ex _ _ _ ys _ (by exact h0.below B) hsz).mono ?_
  rintro e w13 ⟨tb, rfl, rT, hb⟩
  replace pb0 := cell_later hb pb0
  replace pb1 := cell_later hb pb1
  replace pb2 := cell_later hb pb2
  replace qb0 := cell_later hb qb0
  replace qb1 := cell_later hb qb1
  replace qb2 := cell_later hb qb2
  replace dP := dP.below hb
  replace dM := dM.below hb
  replace lpb := Nat.lt_of_lt_of_le lpb hb.size
  replace lqb := Nat.lt_of_lt_of_le lqb hb.size
  replace B := below_next B hb
  have S16 := hb.size
  clear hb
  go_wp2_with fail
  refine (implTakeBlock_is _ _ _ ys _ rT hn0 x cd at' bl Hcd.out Hat'.out Hbl.out).mono ?_
  rintro e w14 ⟨ha, hn, hc, rfl, dH, hb⟩
  replace pb0 := cell_later hb pb0
  replace pb1 := cell_later hb pb1
  replace pb2 := cell_later hb pb2
  replace qb0 := cell_later hb qb0
  replace qb1 := cell_later hb qb1
  replace qb2 := cell_later hb qb2
  replace dP := dP.below hb
  replace dM := dM.below hb
  replace lpb := Nat.lt_of_lt_of_le lpb hb.size
  replace lqb := Nat.lt_of_lt_of_le lqb hb.size
  replace B := below_next B hb
  have S17 := hb.size
  clear hb
  have hL : hn ≤ 2097152 := by rw [← dH.nPairs]; exact hb2
  clear rT
  go_wp2_with fail
  have A18 : Below w14.heap.size w14 (w14.alloc (.cells #[.int .i64 cd, .int .i64 at', .slice ha hn hc] 51)) := (Below.refl _ _).alloc (Nat.le_refl _) _
  replace pb0 := cell_later A18 pb0
  replace pb1 := cell_later A18 pb1
  replace pb2 := cell_later A18 pb2
  replace qb0 := cell_later A18 qb0
  replace qb1 := cell_later A18 qb1
  replace qb2 := cell_later A18 qb2
  replace dP := dP.below A18
  replace dM := dM.below A18
  replace dH := dH.below A18
  replace lpb := Nat.lt_of_lt_of_le lpb A18.size
  replace lqb := Nat.lt_of_lt_of_le lqb A18.size
  replace B := below_next B A18
  have S19 := A18.size
  clear A18
  have E19 : w14.heap.size + 1 ≤ (w14.alloc (.cells #[.int .i64 cd, .int .i64 at', .slice ha hn hc] 51)).heap.size := by simp
  have hb0 : (w14.alloc (.cells #[.int .i64 cd, .int .i64 at', .slice ha hn hc] 51)).cell? ⟨w14.heap.size, 0, none⟩ = some (.int .i64 cd) := by simp
  have hb1 : (w14.alloc (.cells #[.int .i64 cd, .int .i64 at', .slice ha hn hc] 51)).cell? ⟨w14.heap.size, 1, none⟩ = some (.int .i64 at') := by simp
  have hb2 : (w14.alloc (.cells #[.int .i64 cd, .int .i64 at', .slice ha hn hc] 51)).cell? ⟨w14.heap.size, 2, none⟩ = some (.slice ha hn hc) := by simp
  have lhb : w14.heap.size < (w14.alloc (.cells #[.int .i64 cd, .int .i64 at', .slice ha hn hc] 51)).heap.size := by simp
  go_wp2_with fail
  refine (eqBRes_yes cd at' _ _ _ _ _ _ bl _ dH dP hL).mono ?_
  rintro e w15 ⟨rfl, hb⟩
  replace pb0 := cell_later hb pb0
  replace pb1 := cell_later hb pb1
  replace pb2 := cell_later hb pb2
  replace qb0 := cell_later hb qb0
  replace qb1 := cell_later hb qb1
  replace qb2 := cell_later hb qb2
  replace hb0 := cell_later hb hb0
  replace hb1 := cell_later hb hb1
  replace hb2 := cell_later hb hb2
  replace dP := dP.below hb
  replace dM := dM.below hb
  replace dH := dH.below hb
  replace lpb := Nat.lt_of_lt_of_le lpb hb.size
  replace lqb := Nat.lt_of_lt_of_le lqb hb.size
  replace lhb := Nat.lt_of_lt_of_le lhb hb.size
  replace B := below_next B hb
  have S20 := hb.size
  clear hb
  go_wp2_with fail
  refine (heldBRes_any cd at' _ _ _ _ dM (by omega)).mono ?_
  rintro e w16 ⟨rfl, hb⟩
  replace pb0 := cell_later hb pb0
  replace pb1 := cell_later hb pb1
  replace pb2 := cell_later hb pb2
  replace qb0 := cell_later hb qb0
  replace qb1 := cell_later hb qb1
  replace qb2 := cell_later hb qb2
  replace hb0 := cell_later hb hb0
  replace hb1 := cell_later hb hb1
  replace hb2 := cell_later hb hb2
  replace dP := dP.below hb
  replace dM := dM.below hb
  replace dH := dH.below hb
  replace lpb := Nat.lt_of_lt_of_le lpb hb.size
  replace lqb := Nat.lt_of_lt_of_le lqb hb.size
  replace lhb := Nat.lt_of_lt_of_le lhb hb.size
  replace B := below_next B hb
  have S21 := hb.size
  clear hb
  go_wp2
  go_ret
  exact ⟨rfl, B⟩

open Go.ChangeShapes Go.WideShapes Go.ChangeAt Go.Joins

set_option maxRecDepth 100000 in
theorem liftedTakeBlock (os : Os) (started : os.Started) (H : Type) (enc : TypeId × Value → H) :
    ReturnsInHanded {} Try.checked os 14 .any (Rows.fnExactTakeBlockSpec.pre6 enc Try.prog Try.f14 Rows.fnExactTakeBlockRow.domain false) (Rows.fnExactTakeBlockSpec.post enc Try.prog Try.f14 false true false false) := by
  refine returnsInHanded_of_change (C := Try.checked) Try.own started (by kernel_rfl) Try.func14
    (ChangeSpec.witness6 (enc := enc) (C := Try.checked) false ⟨#[], #[.slice none 0 0, .int .i64 0], []⟩ 8 (by kernel_rfl) (by kernel_rfl) (by kernel_rfl) (by kernel_rfl)) ?_
  intro W base args ds gs before hval0 hW hcnd _
  have hval : ∀ (j : Nat) t v, Try.f14.params[j]? = some t → args[j]? = some v → Value.okWide Try.prog W .any base t v := hval0
  have hW' := hW
  obtain ⟨p, q, hA0, hV, rfl, hfz, hnd⟩ := hW
  have hA : DataW.TrodAll enc Try.prog W 0 (fun _ => true) true Try.f14.params.toList args.toList ds p := hA0
  rw [Try.params14] at hA hval
  obtain ⟨v0, vs0, d0, ds0, p0, q0, hargs, rfl, rfl, h0, r0⟩ := trodAll_cons hA
  obtain ⟨v1, vs1, d1, ds1, p1, q1, rfl, rfl, rfl, h1, r1⟩ := trodAll_cons r0
  obtain ⟨rfl, rfl, rfl⟩ := trodAll_nil r1
  obtain rfl : args = #[v0, v1] := by cases args; simp_all
  obtain ⟨rfl, rfl⟩ := trodVars_none hV
  have lt0 : ∀ x ∈ p0, x.block < W.heap.size := by obtain ⟨m, hm⟩ := h0; exact DataW.trod_lt m _ _ _ hm
  have k0 := h0
  obtain ⟨fuel, hf⟩ := h0
  obtain ⟨av, lv, cv, rfl⟩ := okWide_slice Try.underlying80 (hval 0 80 v0 rfl rfl)
  obtain ⟨a2, n2, c2, zs, hv, hn2, s2⟩ := read_pairs Try.underlying80 Try.underlying126 Try.cellsBlk rfl rfl Try.underlying2 Try.underlying2 Try.cellsInt Try.cellsInt (v := .slice av lv cv) (by simpa [Value.cells] using hf)
  obtain ⟨rfl, rfl, rfl⟩ := Value.slice.inj hv
  obtain ⟨x1, rfl, rfl, rfl, wx1⟩ := open_int Try.underlying2 (hval 1 2 v1 rfl rfl) h1
  clear hA0 hval0
  refine (lawTakeBlock _ _ _ zs x1 W s2 hn2).mono fun e W' ⟨he, bel⟩ => ?_
  subst he
  exact ⟨_, rfl, _, _, _, [], _, [], hW', trodAll_mk1 (shut_bool Try.underlying4 _), (trodAll_cons_mk (Below.trod Try.laidOut (by kernel_rfl) (of_decide_eq_true (by kernel_rfl)) k0 bel lt0) (trodAll_cons_mk (shut_int Try.underlying2 wx1) trodAll_mk0)), rfl, bel.frame _, fun h => by cases h⟩

theorem takeBlock_holds : Rows.FnExactTakeBlockSaid :=
  OpenClaim.holds_of_wide 14 Try.f14 rfl rfl rfl rfl rfl rfl rfl ⟨rfl, rfl, rfl, rfl, rfl⟩ rfl rfl rfl rfl rfl (by kernel_rfl) Try.func14 (by kernel_rfl)
    (of_decide_eq_true (by kernel_rfl)) (by unfold Func.isWrapper; first | (rw [if_pos (by decide +kernel)]; kernel_rfl) | (rw [if_neg (by decide +kernel)]; exact ⟨rfl, rfl⟩))
    (fun os started H enc _ => liftedTakeBlock os started H enc)

#print axioms takeBlock_holds
end Go.Proofs.Ytlblbjebbecgbaa
