/- At every number the program's NewBlocks answers as its model does, field by field, and owns what it answers: the law FnExactNewBlocks is true at every argument, with no condition. -/
import Derived.Test.YtlblbjebbecgbaaRows
import Derived.Test.YtlblbjebbecgbaaQ1
import Derived.Test.YtlblbjebbecgbaaBC
import Derived.Test.YtlblbjebbecgbaaRow
namespace Go.Proofs.Ytlblbjebbecgbaa
open Go.RowKit

set_option maxRecDepth 20000 in
set_option maxHeartbeats 4000000 in
theorem lawNewBlocks (x : Int) (w : World) :
    Calls Try.prog 13 #[.int .i64 x] w fun e w' => e = .returned (.bool true) ∧ Below w.heap.size w w' := by
  have B : Below w.heap.size w w := Below.refl _ _
  obtain ⟨cd, hcd⟩ : ∃ cd, newBCode x = cd := ⟨_, rfl⟩
  obtain ⟨bl, hbl⟩ : ∃ bl, newBList x = bl := ⟨_, rfl⟩
  have hb24 : bl.length ≤ 24 := by rw [← hbl]; exact newB_len x
  have Hcd : Hid _ := hcd
  have Hbl : Hid _ := hbl
  clear hcd hbl
  go_enter Try.func13, Try.ntmps13
  go_wp2_with fail
  refine (specNewBlocks_is x _ cd bl Hcd.out Hbl.out).mono ?_
  rintro e w3 ⟨pa, pn, pc, rfl, dP, hb⟩
  replace B := below_next B hb
  have S1 := hb.size
  clear hb
  have pL : pn ≤ 2097152 := by rw [← dP.nPairs]; omega
  go_wp2_with fail
  have A2 : Below w3.heap.size w3 (w3.alloc (.cells #[.int .i64 cd, .int .i64 0, .slice pa pn pc] 51)) := (Below.refl _ _).alloc (Nat.le_refl _) _
  replace dP := dP.below A2
  replace B := below_next B A2
  have S3 := A2.size
  clear A2
  have E3 : w3.heap.size + 1 ≤ (w3.alloc (.cells #[.int .i64 cd, .int .i64 0, .slice pa pn pc] 51)).heap.size := by simp
  have pb0 : (w3.alloc (.cells #[.int .i64 cd, .int .i64 0, .slice pa pn pc] 51)).cell? ⟨w3.heap.size, 0, none⟩ = some (.int .i64 cd) := by simp
  have pb1 : (w3.alloc (.cells #[.int .i64 cd, .int .i64 0, .slice pa pn pc] 51)).cell? ⟨w3.heap.size, 1, none⟩ = some (.int .i64 0) := by simp
  have pb2 : (w3.alloc (.cells #[.int .i64 cd, .int .i64 0, .slice pa pn pc] 51)).cell? ⟨w3.heap.size, 2, none⟩ = some (.slice pa pn pc) := by simp
  have lpb : w3.heap.size < (w3.alloc (.cells #[.int .i64 cd, .int .i64 0, .slice pa pn pc] 51)).heap.size := by simp
  go_wp2_with fail
  refine (implNewBlocks_is x _ cd bl Hcd.out Hbl.out).mono ?_
  rintro e w5 ⟨qa, qn, qc, rfl, dQ, hb⟩
  replace pb0 := cell_later hb pb0
  replace pb1 := cell_later hb pb1
  replace pb2 := cell_later hb pb2
  replace dP := dP.below hb
  replace lpb := Nat.lt_of_lt_of_le lpb hb.size
  replace B := below_next B hb
  have S4 := hb.size
  clear hb
  have qL : qn ≤ 2097152 := by rw [← dQ.nPairs]; omega
  go_wp2_with fail
  have A5 : Below w5.heap.size w5 (w5.alloc (.cells #[.int .i64 cd, .int .i64 0, .slice qa qn qc] 51)) := (Below.refl _ _).alloc (Nat.le_refl _) _
  replace pb0 := cell_later A5 pb0
  replace pb1 := cell_later A5 pb1
  replace pb2 := cell_later A5 pb2
  replace dP := dP.below A5
  replace dQ := dQ.below A5
  replace lpb := Nat.lt_of_lt_of_le lpb A5.size
  replace B := below_next B A5
  have S6 := A5.size
  clear A5
  have E6 : w5.heap.size + 1 ≤ (w5.alloc (.cells #[.int .i64 cd, .int .i64 0, .slice qa qn qc] 51)).heap.size := by simp
  have qb0 : (w5.alloc (.cells #[.int .i64 cd, .int .i64 0, .slice qa qn qc] 51)).cell? ⟨w5.heap.size, 0, none⟩ = some (.int .i64 cd) := by simp
  have qb1 : (w5.alloc (.cells #[.int .i64 cd, .int .i64 0, .slice qa qn qc] 51)).cell? ⟨w5.heap.size, 1, none⟩ = some (.int .i64 0) := by simp
  have qb2 : (w5.alloc (.cells #[.int .i64 cd, .int .i64 0, .slice qa qn qc] 51)).cell? ⟨w5.heap.size, 2, none⟩ = some (.slice qa qn qc) := by simp
  have lqb : w5.heap.size < (w5.alloc (.cells #[.int .i64 cd, .int .i64 0, .slice qa qn qc] 51)).heap.size := by simp
  go_wp2_with fail
  refine (eqBRes_yes cd 0 _ _ _ _ _ _ bl _ dQ dP qL).mono ?_
  rintro e w6 ⟨rfl, hb⟩
  replace pb0 := cell_later hb pb0
  replace pb1 := cell_later hb pb1
  replace pb2 := cell_later hb pb2
  replace qb0 := cell_later hb qb0
  replace qb1 := cell_later hb qb1
  replace qb2 := cell_later hb qb2
  replace dP := dP.below hb
  replace dQ := dQ.below hb
  replace lpb := Nat.lt_of_lt_of_le lpb hb.size
  replace lqb := Nat.lt_of_lt_of_le lqb hb.size
  replace B := below_next B hb
  have S7 := hb.size
  clear hb
  go_wp2_with fail
  refine (markBRes_any cd 0 _ _ _ bl _ dQ (by omega)).mono ?_
  rintro e w11 ⟨rfl, dM, K⟩
  replace pb0 := K.cell pb0 (by omega)
  replace pb1 := K.cell pb1 (by omega)
  replace pb2 := K.cell pb2 (by omega)
  replace qb0 := K.cell qb0 (by omega)
  replace qb1 := K.cell qb1 (by omega)
  replace qb2 := K.cell qb2 (by omega)
  replace dP := dP.kept K (by omega)
  replace lpb := Nat.lt_of_lt_of_le lpb K.size
  replace lqb := Nat.lt_of_lt_of_le lqb K.size
  replace B := B.trans (K.below _ (by omega) (by omega))
  have S8 := K.size
  clear dQ K
  go_wp2_with fail
  refine (heldBRes_any cd 0 _ _ _ _ dM (by omega)).mono ?_
  rintro e w12 ⟨rfl, hb⟩
  replace pb0 := cell_later hb pb0
  replace pb1 := cell_later hb pb1
  replace pb2 := cell_later hb pb2
  replace qb0 := cell_later hb qb0
  replace qb1 := cell_later hb qb1
  replace qb2 := cell_later hb qb2
  replace dP := dP.below hb
  replace dM := dM.below hb
  replace lpb := Nat.lt_of_lt_of_le lpb hb.size
  replace lqb := Nat.lt_of_lt_of_le lqb hb.size
  replace B := below_next B hb
  have S9 := hb.size
  clear hb
  have hq : ¬ ((1 : Int) + 2 * qn < 0) := by omega
  have he : (((1 : Int) + 2 * qn) != ((1 : Int) + 2 * qn)) = false := by simp
  go_wp2_with fail
  refine (implNewBlocks_is x _ cd bl Hcd.out Hbl.out).mono ?_
  rintro e w14 ⟨ha, hn, hc, rfl, dH, hb⟩
  replace pb0 := cell_later hb pb0
  replace pb1 := cell_later hb pb1
  replace pb2 := cell_later hb pb2
  replace qb0 := cell_later hb qb0
  replace qb1 := cell_later hb qb1
  replace qb2 := cell_later hb qb2
  replace dP := dP.below hb
  replace dM := dM.below hb
  replace lpb := Nat.lt_of_lt_of_le lpb hb.size
  replace lqb := Nat.lt_of_lt_of_le lqb hb.size
  replace B := below_next B hb
  have S10 := hb.size
  clear hb
  have hL : hn ≤ 2097152 := by rw [← dH.nPairs]; omega
  go_wp2_with fail
  have A11 : Below w14.heap.size w14 (w14.alloc (.cells #[.int .i64 cd, .int .i64 0, .slice ha hn hc] 51)) := (Below.refl _ _).alloc (Nat.le_refl _) _
  replace pb0 := cell_later A11 pb0
  replace pb1 := cell_later A11 pb1
  replace pb2 := cell_later A11 pb2
  replace qb0 := cell_later A11 qb0
  replace qb1 := cell_later A11 qb1
  replace qb2 := cell_later A11 qb2
  replace dP := dP.below A11
  replace dM := dM.below A11
  replace dH := dH.below A11
  replace lpb := Nat.lt_of_lt_of_le lpb A11.size
  replace lqb := Nat.lt_of_lt_of_le lqb A11.size
  replace B := below_next B A11
  have S12 := A11.size
  clear A11
  have E12 : w14.heap.size + 1 ≤ (w14.alloc (.cells #[.int .i64 cd, .int .i64 0, .slice ha hn hc] 51)).heap.size := by simp
  have hb0 : (w14.alloc (.cells #[.int .i64 cd, .int .i64 0, .slice ha hn hc] 51)).cell? ⟨w14.heap.size, 0, none⟩ = some (.int .i64 cd) := by simp
  have hb1 : (w14.alloc (.cells #[.int .i64 cd, .int .i64 0, .slice ha hn hc] 51)).cell? ⟨w14.heap.size, 1, none⟩ = some (.int .i64 0) := by simp
  have hb2 : (w14.alloc (.cells #[.int .i64 cd, .int .i64 0, .slice ha hn hc] 51)).cell? ⟨w14.heap.size, 2, none⟩ = some (.slice ha hn hc) := by simp
  have lhb : w14.heap.size < (w14.alloc (.cells #[.int .i64 cd, .int .i64 0, .slice ha hn hc] 51)).heap.size := by simp
  go_wp2_with fail
  refine (eqBRes_yes cd 0 _ _ _ _ _ _ bl _ dH dP hL).mono ?_
  rintro e w15 ⟨rfl, hb⟩
  replace pb0 := cell_later hb pb0
  replace pb1 := cell_later hb pb1
  replace pb2 := cell_later hb pb2
  replace qb0 := cell_later hb qb0
  replace qb1 := cell_later hb qb1
  replace qb2 := cell_later hb qb2
  replace hb0 := cell_later hb hb0
  replace hb1 := cell_later hb hb1
  replace hb2 := cell_later hb hb2
  replace dP := dP.below hb
  replace dM := dM.below hb
  replace dH := dH.below hb
  replace lpb := Nat.lt_of_lt_of_le lpb hb.size
  replace lqb := Nat.lt_of_lt_of_le lqb hb.size
  replace lhb := Nat.lt_of_lt_of_le lhb hb.size
  replace B := below_next B hb
  have S13 := hb.size
  clear hb
  go_wp2_with fail
  refine (heldBRes_any cd 0 _ _ _ _ dM (by omega)).mono ?_
  rintro e w16 ⟨rfl, hb⟩
  replace pb0 := cell_later hb pb0
  replace pb1 := cell_later hb pb1
  replace pb2 := cell_later hb pb2
  replace qb0 := cell_later hb qb0
  replace qb1 := cell_later hb qb1
  replace qb2 := cell_later hb qb2
  replace hb0 := cell_later hb hb0
  replace hb1 := cell_later hb hb1
  replace hb2 := cell_later hb hb2
  replace dP := dP.below hb
  replace dM := dM.below hb
  replace dH := dH.below hb
  replace lpb := Nat.lt_of_lt_of_le lpb hb.size
  replace lqb := Nat.lt_of_lt_of_le lqb hb.size
  replace lhb := Nat.lt_of_lt_of_le lhb hb.size
  replace B := below_next B hb
  have S14 := hb.size
  clear hb
  go_wp2
  go_ret
  exact ⟨rfl, B⟩

open Go.ChangeShapes Go.WideShapes Go.ChangeAt Go.Joins

set_option maxRecDepth 100000 in
theorem liftedNewBlocks (os : Os) (started : os.Started) (H : Type) (enc : TypeId × Value → H) :
    ReturnsInHanded {} Try.checked os 13 .any (Rows.fnExactNewBlocksSpec.pre6 enc Try.prog Try.f13 Rows.fnExactNewBlocksRow.domain false) (Rows.fnExactNewBlocksSpec.post enc Try.prog Try.f13 false true false false) := by
  refine returnsInHanded_of_change (C := Try.checked) Try.own started (by kernel_rfl) Try.func13
    (ChangeSpec.witness6 (enc := enc) (C := Try.checked) false ⟨#[], #[.int .i64 0], []⟩ 8 (by kernel_rfl) (by kernel_rfl) (by kernel_rfl) (by kernel_rfl)) ?_
  intro W base args ds gs before hval0 hW hcnd _
  have hval : ∀ (j : Nat) t v, Try.f13.params[j]? = some t → args[j]? = some v → Value.okWide Try.prog W .any base t v := hval0
  have hW' := hW
  obtain ⟨p, q, hA0, hV, rfl, hfz, hnd⟩ := hW
  have hA : DataW.TrodAll enc Try.prog W 0 (fun _ => true) true Try.f13.params.toList args.toList ds p := hA0
  rw [Try.params13] at hA hval
  obtain ⟨v0, vs0, d0, ds0, p0, q0, hargs, rfl, rfl, h0, r0⟩ := trodAll_cons hA
  obtain ⟨rfl, rfl, rfl⟩ := trodAll_nil r0
  obtain rfl : args = #[v0] := by cases args; simp_all
  obtain ⟨rfl, rfl⟩ := trodVars_none hV
  obtain ⟨x0, rfl, rfl, rfl, wx0⟩ := open_int Try.underlying2 (hval 0 2 v0 rfl rfl) h0
  clear hA0 hval0
  refine (lawNewBlocks x0 W).mono fun e W' ⟨he, bel⟩ => ?_
  subst he
  exact ⟨_, rfl, _, _, _, [], _, [], hW', trodAll_mk1 (shut_bool Try.underlying4 _), (trodAll_cons_mk (shut_int Try.underlying2 wx0) trodAll_mk0), rfl, bel.frame _, fun h => by cases h⟩

theorem newBlocks_holds : Rows.FnExactNewBlocksSaid :=
  OpenClaim.holds_of_wide 13 Try.f13 rfl rfl rfl rfl rfl rfl rfl ⟨rfl, rfl, rfl, rfl, rfl⟩ rfl rfl rfl rfl rfl (by kernel_rfl) Try.func13 (by kernel_rfl)
    (of_decide_eq_true (by kernel_rfl)) (by unfold Func.isWrapper; first | (rw [if_pos (by decide +kernel)]; kernel_rfl) | (rw [if_neg (by decide +kernel)]; exact ⟨rfl, rfl⟩))
    (fun os started H enc _ => liftedNewBlocks os started H enc)

#print axioms newBlocks_holds
end Go.Proofs.Ytlblbjebbecgbaa
