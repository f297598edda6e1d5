/- At every list of words the program's NewDisk answers as its model does, field by field, writes into no argument and owns what it answers: the law FnExactNewDisk is true at every argument, with no condition. -/
import Derived.Test.YtnhkfoedbhfjgaaRows
import Derived.Test.YtnhkfoedbhfjgaaNewS
import Derived.Test.YtnhkfoedbhfjgaaRow
namespace Go.Proofs.Ytnhkfoedbhfjgaa
open Go.RowKit

theorem toInts_ex {own : Bool} {lo hi : Nat} (ao : Option Addr) (n cap : Nat) (xs : List Int) (w : World) (h : RowAt w own lo hi 1 ao n cap (ints xs)) (hn : n ≤ 1048576) :
    Calls Try.prog 26 #[.slice ao n cap] w fun e w' => ∃ ad : Addr, e = .returned (.slice (some ad) n n) ∧ RowAt w' true w.heap.size w'.heap.size 1 (some ad) n n (ints xs) ∧ Below w.heap.size w w' :=
  (toInts_any ao n cap xs w h hn).mono fun _ _ h => ⟨_, h⟩
theorem new_len (xs : List Int) (h : xs.length ≤ 1048576) : (newList xs).length ≤ 2097152 := by
  unfold newList
  split
  · simp [pad]; omega
  · simp

set_option maxRecDepth 20000 in
set_option maxHeartbeats 4000000 in
theorem lawNewDisk {o0 : Bool} (a0 : Option Addr) (n0 c0 : Nat) (xs : List Int) (w : World) (h0 : RowAt w o0 0 w.heap.size 1 a0 n0 c0 (ints xs)) (hn : n0 ≤ maxLen) :
    Calls Try.prog 5 #[.slice a0 n0 c0] w fun e w' => e = .returned (.bool true) ∧ Below w.heap.size w w' := by
  unfold maxLen at hn
  have B : Below w.heap.size w w := Below.refl _ _
  by_cases hbig : (1048576 : Int) < n0
  · go_enter Try.func5, Try.ntmps5
    go_wp2
    go_ret
    exact ⟨rfl, B⟩
  have hsz : n0 ≤ 1048576 := by omega
  have hb0 : (newList xs).length ≤ 2097152 := new_len xs (by rw [h0.nInts]; exact hsz)
  have hn0 : n0 ≤ 2097152 := by omega
  go_enter Try.func5, Try.ntmps5
  go_wp2_with fail
  refine (toInts_ex _ _ _ xs _ (by exact h0.below B) hsz).mono ?_
  rintro e w1 ⟨ta, rfl, rT, hb⟩
  have B := below_next B hb
  have S1 := hb.size
  clear hb
  go_wp2_with fail
  refine (specNew_any _ _ _ xs _ rT hn0).mono ?_
  rintro e w2 ⟨p0, pn0, pc0, p1, pn1, pc1, rfl, dP, hb⟩
  have pL0 : pn0 ≤ 2097152 := by obtain ⟨_, _, _, t0, _⟩ := dP.parts; rw [← t0.nInts]; exact hb0
  have pL1 : pn1 ≤ 2097152 := by obtain ⟨_, _, _, _, t1⟩ := dP.parts; rw [← t1.nPairs]; simp
  have B := below_next B hb
  have S2 := hb.size
  clear hb
  clear rT
  go_wp2_with fail
  have A3 : Below w2.heap.size w2 (w2.alloc (.cells #[.int .i64 (newCode xs), .slice p0 pn0 pc0, .slice p1 pn1 pc1] 32)) := (Below.refl _ _).alloc (Nat.le_refl _) _
  have dP := dP.below A3
  have B := below_next B A3
  have S4 := A3.size
  have E4 : (w2.alloc (.cells #[.int .i64 (newCode xs), .slice p0 pn0 pc0, .slice p1 pn1 pc1] 32)).heap.size = w2.heap.size + 1 := by simp
  have pb0 : (w2.alloc (.cells #[.int .i64 (newCode xs), .slice p0 pn0 pc0, .slice p1 pn1 pc1] 32)).cell? ⟨w2.heap.size, 0, none⟩ = some (.int .i64 (newCode xs)) := by simp
  have pb1 : (w2.alloc (.cells #[.int .i64 (newCode xs), .slice p0 pn0 pc0, .slice p1 pn1 pc1] 32)).cell? ⟨w2.heap.size, 1, none⟩ = some (.slice p0 pn0 pc0) := by simp
  have pb2 : (w2.alloc (.cells #[.int .i64 (newCode xs), .slice p0 pn0 pc0, .slice p1 pn1 pc1] 32)).cell? ⟨w2.heap.size, 2, none⟩ = some (.slice p1 pn1 pc1) := by simp
  have lpb : w2.heap.size < (w2.alloc (.cells #[.int .i64 (newCode xs), .slice p0 pn0 pc0, .slice p1 pn1 pc1] 32)).heap.size := by simp
  clear A3
  go_wp2_with fail
  refine (toInts_ex _ _ _ xs _ (by exact h0.below B) hsz).mono ?_
  rintro e w3 ⟨xa, rfl, rX, hb⟩
  have pb0 := cell_later hb pb0
  have pb1 := cell_later hb pb1
  have pb2 := cell_later hb pb2
  have dP := dP.below hb
  have lpb := Nat.lt_of_lt_of_le lpb hb.size
  have B := below_next B hb
  have S5 := hb.size
  clear hb
  go_wp2_with fail
  refine (implNew_any _ _ _ xs _ rX hn0).mono ?_
  rintro e w4 ⟨q0, qn0, qc0, q1, qn1, qc1, rfl, dQ, hb⟩
  have qL0 : qn0 ≤ 2097152 := by obtain ⟨_, _, _, t0, _⟩ := dQ.parts; rw [← t0.nInts]; exact hb0
  have qL1 : qn1 ≤ 2097152 := by obtain ⟨_, _, _, _, t1⟩ := dQ.parts; rw [← t1.nPairs]; simp
  have pb0 := cell_later hb pb0
  have pb1 := cell_later hb pb1
  have pb2 := cell_later hb pb2
  have dP := dP.below hb
  have rX := rX.below hb
  have lpb := Nat.lt_of_lt_of_le lpb hb.size
  have B := below_next B hb
  have S6 := hb.size
  clear hb
  go_wp2_with fail
  have A7 : Below w4.heap.size w4 (w4.alloc (.cells #[.int .i64 (newCode xs), .slice q0 qn0 qc0, .slice q1 qn1 qc1] 32)) := (Below.refl _ _).alloc (Nat.le_refl _) _
  have pb0 := cell_later A7 pb0
  have pb1 := cell_later A7 pb1
  have pb2 := cell_later A7 pb2
  have dP := dP.below A7
  have dQ := dQ.below A7
  have rX := rX.below A7
  have lpb := Nat.lt_of_lt_of_le lpb A7.size
  have B := below_next B A7
  have S8 := A7.size
  have E8 : (w4.alloc (.cells #[.int .i64 (newCode xs), .slice q0 qn0 qc0, .slice q1 qn1 qc1] 32)).heap.size = w4.heap.size + 1 := by simp
  have qb0 : (w4.alloc (.cells #[.int .i64 (newCode xs), .slice q0 qn0 qc0, .slice q1 qn1 qc1] 32)).cell? ⟨w4.heap.size, 0, none⟩ = some (.int .i64 (newCode xs)) := by simp
  have qb1 : (w4.alloc (.cells #[.int .i64 (newCode xs), .slice q0 qn0 qc0, .slice q1 qn1 qc1] 32)).cell? ⟨w4.heap.size, 1, none⟩ = some (.slice q0 qn0 qc0) := by simp
  have qb2 : (w4.alloc (.cells #[.int .i64 (newCode xs), .slice q0 qn0 qc0, .slice q1 qn1 qc1] 32)).cell? ⟨w4.heap.size, 2, none⟩ = some (.slice q1 qn1 qc1) := by simp
  have lqb : w4.heap.size < (w4.alloc (.cells #[.int .i64 (newCode xs), .slice q0 qn0 qc0, .slice q1 qn1 qc1] 32)).heap.size := by simp
  clear A7
  go_wp2_with fail
  refine (eqRes_yes _ _ _ _ _ _ _ _ _ _ _ _ _ _ _ _ dQ dP qL0 qL1).mono ?_
  rintro e w5 ⟨rfl, hb⟩
  have pb0 := cell_later hb pb0
  have pb1 := cell_later hb pb1
  have pb2 := cell_later hb pb2
  have qb0 := cell_later hb qb0
  have qb1 := cell_later hb qb1
  have qb2 := cell_later hb qb2
  have dP := dP.below hb
  have dQ := dQ.below hb
  have rX := rX.below hb
  have lpb := Nat.lt_of_lt_of_le lpb hb.size
  have lqb := Nat.lt_of_lt_of_le lqb hb.size
  have B := below_next B hb
  have S9 := hb.size
  clear hb
  go_wp2_with fail
  refine (toInts_ex _ _ _ xs _ (by exact h0.below B) hsz).mono ?_
  rintro e w6 ⟨ya, rfl, rY, hb⟩
  have pb0 := cell_later hb pb0
  have pb1 := cell_later hb pb1
  have pb2 := cell_later hb pb2
  have qb0 := cell_later hb qb0
  have qb1 := cell_later hb qb1
  have qb2 := cell_later hb qb2
  have dP := dP.below hb
  have dQ := dQ.below hb
  have rX := rX.below hb
  have lpb := Nat.lt_of_lt_of_le lpb hb.size
  have lqb := Nat.lt_of_lt_of_le lqb hb.size
  have B := below_next B hb
  have S10 := hb.size
  clear hb
  go_wp2_with fail
  refine (eqInts_is _ _ _ _ _ _ xs xs _ rX rY hn0 hn0 true (by simp)).mono ?_
  rintro e w7 ⟨rfl, hb⟩
  have pb0 := cell_later hb pb0
  have pb1 := cell_later hb pb1
  have pb2 := cell_later hb pb2
  have qb0 := cell_later hb qb0
  have qb1 := cell_later hb qb1
  have qb2 := cell_later hb qb2
  have dP := dP.below hb
  have dQ := dQ.below hb
  have rX := rX.below hb
  have lpb := Nat.lt_of_lt_of_le lpb hb.size
  have lqb := Nat.lt_of_lt_of_le lqb hb.size
  have B := below_next B hb
  have S11 := hb.size
  clear hb rY
  go_wp2_with fail
  refine (markInts_any _ _ _ xs _ _ rX (by omega) (by omega) (by omega)).mono ?_
  rintro e w8 ⟨rfl, rX', K⟩
  have pb0 := K.cell pb0 (by omega)
  have pb1 := K.cell pb1 (by omega)
  have pb2 := K.cell pb2 (by omega)
  have qb0 := K.cell qb0 (by omega)
  have qb1 := K.cell qb1 (by omega)
  have qb2 := K.cell qb2 (by omega)
  have dP := dP.kept K (by omega)
  have dQ := dQ.kept K (by omega)
  have lpb := Nat.lt_of_lt_of_le lpb K.size
  have lqb := Nat.lt_of_lt_of_le lqb K.size
  have B := B.trans (K.below _ (by omega) (by omega))
  have S12 := K.size
  clear rX rX' K
  have hk : ¬ ((1 : Int) + n0 < 0) := by omega
  go_wp2_with fail
  refine (eqRes_yes _ _ _ _ _ _ _ _ _ _ _ _ _ _ _ _ dQ dP qL0 qL1).mono ?_
  rintro e w9 ⟨rfl, hb⟩
  have pb0 := cell_later hb pb0
  have pb1 := cell_later hb pb1
  have pb2 := cell_later hb pb2
  have qb0 := cell_later hb qb0
  have qb1 := cell_later hb qb1
  have qb2 := cell_later hb qb2
  have dP := dP.below hb
  have dQ := dQ.below hb
  have lpb := Nat.lt_of_lt_of_le lpb hb.size
  have lqb := Nat.lt_of_lt_of_le lqb hb.size
  have B := below_next B hb
  have S13 := hb.size
  clear hb
  go_wp2_with fail
  refine (markRes_any _ _ _ _ _ _ _ _ _ _ dQ (by omega) (by omega) (by omega)).mono ?_
  rintro e w10 ⟨rfl, dM, K⟩
  have pb0 := K.cell pb0 (by omega)
  have pb1 := K.cell pb1 (by omega)
  have pb2 := K.cell pb2 (by omega)
  have qb0 := K.cell qb0 (by omega)
  have qb1 := K.cell qb1 (by omega)
  have qb2 := K.cell qb2 (by omega)
  have dP := dP.kept K (by omega)
  have lpb := Nat.lt_of_lt_of_le lpb K.size
  have lqb := Nat.lt_of_lt_of_le lqb K.size
  have B := B.trans (K.below _ (by omega) (by omega))
  have S14 := K.size
  clear dQ K
  go_wp2_with fail
  refine (heldRes_any _ _ _ _ _ _ _ _ dM (by omega) (by omega)).mono ?_
  rintro e w11 ⟨rfl, hb⟩
  have pb0 := cell_later hb pb0
  have pb1 := cell_later hb pb1
  have pb2 := cell_later hb pb2
  have qb0 := cell_later hb qb0
  have qb1 := cell_later hb qb1
  have qb2 := cell_later hb qb2
  have dP := dP.below hb
  have dM := dM.below hb
  have lpb := Nat.lt_of_lt_of_le lpb hb.size
  have lqb := Nat.lt_of_lt_of_le lqb hb.size
  have B := below_next B hb
  have S15 := hb.size
  clear hb
  have hq : ¬ ((1 : Int) + qn0 + 2 * qn1 < 0) := by omega
  have he : (((1 : Int) + qn0 + 2 * qn1) != ((1 : Int) + qn0 + 2 * qn1)) = false := by simp
  go_wp2_with fail
  refine (toInts_ex _ _ _ xs _ (by exact h0.below B) hsz).mono ?_
  rintro e w12 ⟨tb, rfl, rT, hb⟩
  have pb0 := cell_later hb pb0
  have pb1 := cell_later hb pb1
  have pb2 := cell_later hb pb2
  have qb0 := cell_later hb qb0
  have qb1 := cell_later hb qb1
  have qb2 := cell_later hb qb2
  have dP := dP.below hb
  have dM := dM.below hb
  have lpb := Nat.lt_of_lt_of_le lpb hb.size
  have lqb := Nat.lt_of_lt_of_le lqb hb.size
  have B := below_next B hb
  have S16 := hb.size
  clear hb
  go_wp2_with fail
  refine (implNew_any _ _ _ xs _ rT hn0).mono ?_
  rintro e w13 ⟨h0, hn0, hc0, h1, hn1, hc1, rfl, dH, hb⟩
  have hL0 : hn0 ≤ 2097152 := by obtain ⟨_, _, _, t0, _⟩ := dH.parts; rw [← t0.nInts]; exact hb0
  have hL1 : hn1 ≤ 2097152 := by obtain ⟨_, _, _, _, t1⟩ := dH.parts; rw [← t1.nPairs]; simp
  have pb0 := cell_later hb pb0
  have pb1 := cell_later hb pb1
  have pb2 := cell_later hb pb2
  have qb0 := cell_later hb qb0
  have qb1 := cell_later hb qb1
  have qb2 := cell_later hb qb2
  have dP := dP.below hb
  have dM := dM.below hb
  have lpb := Nat.lt_of_lt_of_le lpb hb.size
  have lqb := Nat.lt_of_lt_of_le lqb hb.size
  have B := below_next B hb
  have S17 := hb.size
  clear hb
  clear rT
  go_wp2_with fail
  have A18 : Below w13.heap.size w13 (w13.alloc (.cells #[.int .i64 (newCode xs), .slice h0 hn0 hc0, .slice h1 hn1 hc1] 32)) := (Below.refl _ _).alloc (Nat.le_refl _) _
  have pb0 := cell_later A18 pb0
  have pb1 := cell_later A18 pb1
  have pb2 := cell_later A18 pb2
  have qb0 := cell_later A18 qb0
  have qb1 := cell_later A18 qb1
  have qb2 := cell_later A18 qb2
  have dP := dP.below A18
  have dM := dM.below A18
  have dH := dH.below A18
  have lpb := Nat.lt_of_lt_of_le lpb A18.size
  have lqb := Nat.lt_of_lt_of_le lqb A18.size
  have B := below_next B A18
  have S19 := A18.size
  have E19 : (w13.alloc (.cells #[.int .i64 (newCode xs), .slice h0 hn0 hc0, .slice h1 hn1 hc1] 32)).heap.size = w13.heap.size + 1 := by simp
  have hb0 : (w13.alloc (.cells #[.int .i64 (newCode xs), .slice h0 hn0 hc0, .slice h1 hn1 hc1] 32)).cell? ⟨w13.heap.size, 0, none⟩ = some (.int .i64 (newCode xs)) := by simp
  have hb1 : (w13.alloc (.cells #[.int .i64 (newCode xs), .slice h0 hn0 hc0, .slice h1 hn1 hc1] 32)).cell? ⟨w13.heap.size, 1, none⟩ = some (.slice h0 hn0 hc0) := by simp
  have hb2 : (w13.alloc (.cells #[.int .i64 (newCode xs), .slice h0 hn0 hc0, .slice h1 hn1 hc1] 32)).cell? ⟨w13.heap.size, 2, none⟩ = some (.slice h1 hn1 hc1) := by simp
  have lhb : w13.heap.size < (w13.alloc (.cells #[.int .i64 (newCode xs), .slice h0 hn0 hc0, .slice h1 hn1 hc1] 32)).heap.size := by simp
  clear A18
  go_wp2_with fail
  refine (eqRes_yes _ _ _ _ _ _ _ _ _ _ _ _ _ _ _ _ dH dP hL0 hL1).mono ?_
  rintro e w14 ⟨rfl, hb⟩
  have pb0 := cell_later hb pb0
  have pb1 := cell_later hb pb1
  have pb2 := cell_later hb pb2
  have qb0 := cell_later hb qb0
  have qb1 := cell_later hb qb1
  have qb2 := cell_later hb qb2
  have hb0 := cell_later hb hb0
  have hb1 := cell_later hb hb1
  have hb2 := cell_later hb hb2
  have dP := dP.below hb
  have dM := dM.below hb
  have dH := dH.below hb
  have lpb := Nat.lt_of_lt_of_le lpb hb.size
  have lqb := Nat.lt_of_lt_of_le lqb hb.size
  have lhb := Nat.lt_of_lt_of_le lhb hb.size
  have B := below_next B hb
  have S20 := hb.size
  clear hb
  go_wp2_with fail
  refine (heldRes_any _ _ _ _ _ _ _ _ dM (by omega) (by omega)).mono ?_
  rintro e w15 ⟨rfl, hb⟩
  have pb0 := cell_later hb pb0
  have pb1 := cell_later hb pb1
  have pb2 := cell_later hb pb2
  have qb0 := cell_later hb qb0
  have qb1 := cell_later hb qb1
  have qb2 := cell_later hb qb2
  have hb0 := cell_later hb hb0
  have hb1 := cell_later hb hb1
  have hb2 := cell_later hb hb2
  have dP := dP.below hb
  have dM := dM.below hb
  have dH := dH.below hb
  have lpb := Nat.lt_of_lt_of_le lpb hb.size
  have lqb := Nat.lt_of_lt_of_le lqb hb.size
  have lhb := Nat.lt_of_lt_of_le lhb hb.size
  have B := below_next B hb
  have S21 := hb.size
  clear hb
  go_wp2
  go_ret
  exact ⟨rfl, B⟩

open Go.ChangeShapes Go.WideShapes Go.ChangeAt Go.Joins

set_option maxRecDepth 100000 in
theorem liftedNewDisk (os : Os) (started : os.Started) (H : Type) (enc : TypeId × Value → H) :
    ReturnsInHanded {} Try.checked os 5 .any (Rows.fnExactNewDiskSpec.pre6 enc Try.prog Try.f5 Rows.fnExactNewDiskRow.domain false) (Rows.fnExactNewDiskSpec.post enc Try.prog Try.f5 false true false false) := by
  refine returnsInHanded_of_change (C := Try.checked) Try.own started (by kernel_rfl) Try.func5
    (ChangeSpec.witness6 (enc := enc) (C := Try.checked) false ⟨#[], #[.slice none 0 0], []⟩ 8 (by kernel_rfl) (by kernel_rfl) (by kernel_rfl) (by kernel_rfl)) ?_
  intro W base args ds gs before hval0 hW hcnd _
  have hval : ∀ (j : Nat) t v, Try.f5.params[j]? = some t → args[j]? = some v → Value.okWide Try.prog W .any base t v := hval0
  have hW' := hW
  obtain ⟨p, q, hA0, hV, rfl, hfz, hnd⟩ := hW
  have hA : DataW.TrodAll enc Try.prog W 0 (fun _ => true) true Try.f5.params.toList args.toList ds p := hA0
  rw [Try.params5] at hA hval
  obtain ⟨v0, vs0, d0, ds0, p0, q0, hargs, rfl, rfl, h0, r0⟩ := trodAll_cons hA
  obtain ⟨rfl, rfl, rfl⟩ := trodAll_nil r0
  obtain rfl : args = #[v0] := by cases args; simp_all
  obtain ⟨rfl, rfl⟩ := trodVars_none hV
  have lt0 : ∀ x ∈ p0, x.block < W.heap.size := by obtain ⟨m, hm⟩ := h0; exact DataW.trod_lt m _ _ _ hm
  have k0 := h0
  obtain ⟨fuel, hf⟩ := h0
  obtain ⟨av, lv, cv, rfl⟩ := okWide_slice Try.underlying24 (hval 0 24 v0 rfl rfl)
  obtain ⟨a2, n2, c2, zs, hv, hn2, s2⟩ := read_ints Try.underlying24 Try.underlying2 Try.cellsInt (v := .slice av lv cv) (by simpa [Value.cells] using hf)
  obtain ⟨rfl, rfl, rfl⟩ := Value.slice.inj hv
  clear hA0 hval0
  refine (lawNewDisk _ _ _ zs W s2 hn2).mono fun e W' ⟨he, bel⟩ => ?_
  subst he
  exact ⟨_, rfl, _, _, _, [], _, [], hW', trodAll_mk1 (shut_bool Try.underlying4 _), (trodAll_cons_mk (Below.trod Try.laidOut (by kernel_rfl) (of_decide_eq_true (by kernel_rfl)) k0 bel lt0) trodAll_mk0), rfl, bel.frame _, fun h => by cases h⟩

theorem newDisk_holds : Rows.FnExactNewDiskSaid :=
  OpenClaim.holds_of_wide 5 Try.f5 rfl rfl rfl rfl rfl rfl rfl ⟨rfl, rfl, rfl, rfl, rfl⟩ rfl rfl rfl rfl rfl (by kernel_rfl) Try.func5 (by kernel_rfl)
    (of_decide_eq_true (by kernel_rfl)) (by unfold Func.isWrapper; first | (rw [if_pos (by decide +kernel)]; kernel_rfl) | (rw [if_neg (by decide +kernel)]; exact ⟨rfl, rfl⟩))
    (fun os started H enc _ => liftedNewDisk os started H enc)

#print axioms newDisk_holds
end Go.Proofs.Ytnhkfoedbhfjgaa
