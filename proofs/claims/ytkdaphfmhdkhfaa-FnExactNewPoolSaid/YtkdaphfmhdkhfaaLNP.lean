/- At every number the program's NewPool answers as its model does, every field, and its answer owns its memory: the law FnExactNewPool is true at every argument, with no condition. -/
import Derived.Test.YtkdaphfmhdkhfaaRows
import Derived.Test.YtkdaphfmhdkhfaaNP
import Derived.Test.YtkdaphfmhdkhfaaT8
import Derived.Test.YtkdaphfmhdkhfaaZR
namespace Go.Proofs.Ytkdaphfmhdkhfaa
open Go.RowKit

theorem fo_lens {w : World} {o : Bool} {l u : Nat} {an : Option Addr} {nn cn : Nat} {ab : Option Addr} {nb cb : Nat} {K : Nat → KS} {f : Fo} (h : FoAt w o l u an nn cn ab nb cb K f) {N : Nat} (hk : kl f.1 nn ≤ N) : ∀ i, i < nn → (K i).2.1 ≤ N := fun i hi => by
  have h1 := h.nodes.nKids hi
  have h2 := kl_at (ns := f.1) (i := i) (by rw [h.nodes.len]; exact hi)
  rw [h.nodes.len] at h2
  omega
set_option maxRecDepth 20000 in
set_option maxHeartbeats 8000000 in
theorem lawNewPool (x : Int) (w : World) :
    Calls Try.prog 32 #[.int .i64 x] w fun e w' => e = .returned (.bool true) ∧ Below w.heap.size w w' := by
  have B : Below w.heap.size w w := Below.refl _ _
  obtain ⟨cd, hcd⟩ : ∃ cd, newBCode x = cd := ⟨_, rfl⟩
  obtain ⟨g, hg⟩ : ∃ g, newFoList x = g := ⟨_, rfl⟩
  obtain ⟨hg1, hg2, hg3⟩ : Lesser g := by rw [← hg]; exact newF_size x
  have Hcd : Hid _ := hcd
  have Hg : Hid _ := hg
  clear hcd hg
  go_enter Try.func32, Try.ntmps32
  go_wp2_with fail
  refine (specNewP_is x _ cd g Hcd.out Hg.out).mono ?_
  rintro e w3 ⟨pn, p1, p2, pb, p3, p4, lop, midp, pK, rfl, dP, p0p, p1p, hb⟩
  replace B := below_next B hb
  have S1 := hb.size
  clear hb
  have pL : p1 ≤ 2097152 := by rw [← dP.nodes.len]; omega
  have pM : p3 ≤ 2097152 := by rw [← dP.blocks.nPairs]; omega
  have pX : kl g.1 p1 ≤ 1048576 := by rw [← dP.nodes.len]; exact hg3
  have pY : kOf g.1 1 p1 ≤ 4194304 := by have := dP.nodes.len; unfold kOf; omega
  go_wp2_with fail
  have A2 : Below w3.heap.size w3 (w3.alloc (.cells #[.int .i64 cd, .int .i64 0, .int .i64 0, .slice pn p1 p2, .slice pb p3 p4, .slice none 0 0] 79)) := (Below.refl _ _).alloc (Nat.le_refl _) _
  replace dP := dP.below A2
  replace B := below_next B A2
  have S3 := A2.size
  clear A2
  have E3 : w3.heap.size + 1 ≤ (w3.alloc (.cells #[.int .i64 cd, .int .i64 0, .int .i64 0, .slice pn p1 p2, .slice pb p3 p4, .slice none 0 0] 79)).heap.size := by simp
  have pb0 : (w3.alloc (.cells #[.int .i64 cd, .int .i64 0, .int .i64 0, .slice pn p1 p2, .slice pb p3 p4, .slice none 0 0] 79)).cell? ⟨w3.heap.size, 0, none⟩ = some (.int .i64 cd) := by simp
  have pb1 : (w3.alloc (.cells #[.int .i64 cd, .int .i64 0, .int .i64 0, .slice pn p1 p2, .slice pb p3 p4, .slice none 0 0] 79)).cell? ⟨w3.heap.size, 1, none⟩ = some (.int .i64 0) := by simp
  have pb2 : (w3.alloc (.cells #[.int .i64 cd, .int .i64 0, .int .i64 0, .slice pn p1 p2, .slice pb p3 p4, .slice none 0 0] 79)).cell? ⟨w3.heap.size, 2, none⟩ = some (.int .i64 0) := by simp
  have pb3 : (w3.alloc (.cells #[.int .i64 cd, .int .i64 0, .int .i64 0, .slice pn p1 p2, .slice pb p3 p4, .slice none 0 0] 79)).cell? ⟨w3.heap.size, 3, none⟩ = some (.slice pn p1 p2) := by simp
  have pb4 : (w3.alloc (.cells #[.int .i64 cd, .int .i64 0, .int .i64 0, .slice pn p1 p2, .slice pb p3 p4, .slice none 0 0] 79)).cell? ⟨w3.heap.size, 4, none⟩ = some (.slice pb p3 p4) := by simp
  have pb5 : (w3.alloc (.cells #[.int .i64 cd, .int .i64 0, .int .i64 0, .slice pn p1 p2, .slice pb p3 p4, .slice none 0 0] 79)).cell? ⟨w3.heap.size, 5, none⟩ = some (.slice none 0 0) := by simp
  have lpb : w3.heap.size < (w3.alloc (.cells #[.int .i64 cd, .int .i64 0, .int .i64 0, .slice pn p1 p2, .slice pb p3 p4, .slice none 0 0] 79)).heap.size := by simp
  go_wp2_with fail
  refine (implNewP_is x _ cd g Hcd.out Hg.out).mono ?_
  rintro e w5 ⟨qn, q1, q2, qb, q3, q4, loq, midq, qK, rfl, dQ, p0q, p1q, hb⟩
  replace pb0 := cell_later hb pb0
  replace pb1 := cell_later hb pb1
  replace pb2 := cell_later hb pb2
  replace pb3 := cell_later hb pb3
  replace pb4 := cell_later hb pb4
  replace pb5 := cell_later hb pb5
  replace dP := dP.below hb
  replace lpb := Nat.lt_of_lt_of_le lpb hb.size
  replace B := below_next B hb
  have S4 := hb.size
  clear hb
  have qL : q1 ≤ 2097152 := by rw [← dQ.nodes.len]; omega
  have qM : q3 ≤ 2097152 := by rw [← dQ.blocks.nPairs]; omega
  have qX : kl g.1 q1 ≤ 1048576 := by rw [← dQ.nodes.len]; exact hg3
  have qY : kOf g.1 1 q1 ≤ 4194304 := by have := dQ.nodes.len; unfold kOf; omega
  go_wp2_with fail
  have A5 : Below w5.heap.size w5 (w5.alloc (.cells #[.int .i64 cd, .int .i64 0, .int .i64 0, .slice qn q1 q2, .slice qb q3 q4, .slice none 0 0] 79)) := (Below.refl _ _).alloc (Nat.le_refl _) _
  replace pb0 := cell_later A5 pb0
  replace pb1 := cell_later A5 pb1
  replace pb2 := cell_later A5 pb2
  replace pb3 := cell_later A5 pb3
  replace pb4 := cell_later A5 pb4
  replace pb5 := cell_later A5 pb5
  replace dP := dP.below A5
  replace dQ := dQ.below A5
  replace lpb := Nat.lt_of_lt_of_le lpb A5.size
  replace B := below_next B A5
  have S6 := A5.size
  clear A5
  have E6 : w5.heap.size + 1 ≤ (w5.alloc (.cells #[.int .i64 cd, .int .i64 0, .int .i64 0, .slice qn q1 q2, .slice qb q3 q4, .slice none 0 0] 79)).heap.size := by simp
  have qb0 : (w5.alloc (.cells #[.int .i64 cd, .int .i64 0, .int .i64 0, .slice qn q1 q2, .slice qb q3 q4, .slice none 0 0] 79)).cell? ⟨w5.heap.size, 0, none⟩ = some (.int .i64 cd) := by simp
  have qb1 : (w5.alloc (.cells #[.int .i64 cd, .int .i64 0, .int .i64 0, .slice qn q1 q2, .slice qb q3 q4, .slice none 0 0] 79)).cell? ⟨w5.heap.size, 1, none⟩ = some (.int .i64 0) := by simp
  have qb2 : (w5.alloc (.cells #[.int .i64 cd, .int .i64 0, .int .i64 0, .slice qn q1 q2, .slice qb q3 q4, .slice none 0 0] 79)).cell? ⟨w5.heap.size, 2, none⟩ = some (.int .i64 0) := by simp
  have qb3 : (w5.alloc (.cells #[.int .i64 cd, .int .i64 0, .int .i64 0, .slice qn q1 q2, .slice qb q3 q4, .slice none 0 0] 79)).cell? ⟨w5.heap.size, 3, none⟩ = some (.slice qn q1 q2) := by simp
  have qb4 : (w5.alloc (.cells #[.int .i64 cd, .int .i64 0, .int .i64 0, .slice qn q1 q2, .slice qb q3 q4, .slice none 0 0] 79)).cell? ⟨w5.heap.size, 4, none⟩ = some (.slice qb q3 q4) := by simp
  have qb5 : (w5.alloc (.cells #[.int .i64 cd, .int .i64 0, .int .i64 0, .slice qn q1 q2, .slice qb q3 q4, .slice none 0 0] 79)).cell? ⟨w5.heap.size, 5, none⟩ = some (.slice none 0 0) := by simp
  have lqb : w5.heap.size < (w5.alloc (.cells #[.int .i64 cd, .int .i64 0, .int .i64 0, .slice qn q1 q2, .slice qb q3 q4, .slice none 0 0] 79)).heap.size := by simp
  go_wp2_with fail
  refine (eqPRes_yes (l3 := 0) (u3 := 0) (l4 := 0) (u4 := 0) (o3 := true) (o4 := true) cd 0 0 _ _ _ _ _ _ _ _ _ _ _ _ _ _ _ _ _ _ qK pK g [] _ dQ (RowAt.nil _ _ _ _ _) dP (RowAt.nil _ _ _ _ _) qL qM (fo_lens dQ (Nat.le_trans qX (by omega))) (by omega)).mono ?_
  rintro e w6 ⟨rfl, hb⟩
  replace pb0 := cell_later hb pb0
  replace pb1 := cell_later hb pb1
  replace pb2 := cell_later hb pb2
  replace pb3 := cell_later hb pb3
  replace pb4 := cell_later hb pb4
  replace pb5 := cell_later hb pb5
  replace qb0 := cell_later hb qb0
  replace qb1 := cell_later hb qb1
  replace qb2 := cell_later hb qb2
  replace qb3 := cell_later hb qb3
  replace qb4 := cell_later hb qb4
  replace qb5 := cell_later hb qb5
  replace dP := dP.below hb
  replace dQ := dQ.below hb
  replace lpb := Nat.lt_of_lt_of_le lpb hb.size
  replace lqb := Nat.lt_of_lt_of_le lqb hb.size
  replace B := below_next B hb
  have S7 := hb.size
  clear hb
  go_wp2_with fail
  refine (markPRes_nil cd _ _ _ _ _ _ qK g _ dQ (by omega) qY (by omega)).mono ?_
  rintro e w11 ⟨rfl, dM, KK⟩
  replace pb0 := KK.cell pb0 (by omega)
  replace pb1 := KK.cell pb1 (by omega)
  replace pb2 := KK.cell pb2 (by omega)
  replace pb3 := KK.cell pb3 (by omega)
  replace pb4 := KK.cell pb4 (by omega)
  replace pb5 := KK.cell pb5 (by omega)
  replace qb0 := KK.cell qb0 (by omega)
  replace qb1 := KK.cell qb1 (by omega)
  replace qb2 := KK.cell qb2 (by omega)
  replace qb3 := KK.cell qb3 (by omega)
  replace qb4 := KK.cell qb4 (by omega)
  replace qb5 := KK.cell qb5 (by omega)
  replace dP := dP.kept KK (by omega)
  replace lpb := Nat.lt_of_lt_of_le lpb KK.size
  replace lqb := Nat.lt_of_lt_of_le lqb KK.size
  replace B := B.trans (KK.below _ (by omega) (by omega))
  have S8 := KK.size
  clear dQ KK
  go_wp2_with fail
  refine (heldPRes_nil cd _ _ _ _ _ _ qK g _ dM qY (by omega)).mono ?_
  rintro e w12 ⟨rfl, hb⟩
  replace pb0 := cell_later hb pb0
  replace pb1 := cell_later hb pb1
  replace pb2 := cell_later hb pb2
  replace pb3 := cell_later hb pb3
  replace pb4 := cell_later hb pb4
  replace pb5 := cell_later hb pb5
  replace qb0 := cell_later hb qb0
  replace qb1 := cell_later hb qb1
  replace qb2 := cell_later hb qb2
  replace qb3 := cell_later hb qb3
  replace qb4 := cell_later hb qb4
  replace qb5 := cell_later hb qb5
  replace dP := dP.below hb
  replace dM := dM.below hb
  replace lpb := Nat.lt_of_lt_of_le lpb hb.size
  replace lqb := Nat.lt_of_lt_of_le lqb hb.size
  replace B := below_next B hb
  have S9 := hb.size
  clear hb
  have hq : ¬ (endF g q1 q3 < 0) := by unfold endF kOf; omega
  have he : ((endF g q1 q3) != (endF g q1 q3)) = false := by simp
  go_wp2_with fail
  refine (implNewP_is x _ cd g Hcd.out Hg.out).mono ?_
  rintro e w14 ⟨hn, h1, h2, hb, h3, h4, loh, midh, hK, rfl, dH, p0h, p1h, hb⟩
  replace pb0 := cell_later hb pb0
  replace pb1 := cell_later hb pb1
  replace pb2 := cell_later hb pb2
  replace pb3 := cell_later hb pb3
  replace pb4 := cell_later hb pb4
  replace pb5 := cell_later hb pb5
  replace qb0 := cell_later hb qb0
  replace qb1 := cell_later hb qb1
  replace qb2 := cell_later hb qb2
  replace qb3 := cell_later hb qb3
  replace qb4 := cell_later hb qb4
  replace qb5 := cell_later hb qb5
  replace dP := dP.below hb
  replace dM := dM.below hb
  replace lpb := Nat.lt_of_lt_of_le lpb hb.size
  replace lqb := Nat.lt_of_lt_of_le lqb hb.size
  replace B := below_next B hb
  have S10 := hb.size
  clear hb
  have hL : h1 ≤ 2097152 := by rw [← dH.nodes.len]; omega
  have hM : h3 ≤ 2097152 := by rw [← dH.blocks.nPairs]; omega
  have hX : kl g.1 h1 ≤ 1048576 := by rw [← dH.nodes.len]; exact hg3
  have hY : kOf g.1 1 h1 ≤ 4194304 := by have := dH.nodes.len; unfold kOf; omega
  go_wp2_with fail
  have A11 : Below w14.heap.size w14 (w14.alloc (.cells #[.int .i64 cd, .int .i64 0, .int .i64 0, .slice hn h1 h2, .slice hb h3 h4, .slice none 0 0] 79)) := (Below.refl _ _).alloc (Nat.le_refl _) _
  replace pb0 := cell_later A11 pb0
  replace pb1 := cell_later A11 pb1
  replace pb2 := cell_later A11 pb2
  replace pb3 := cell_later A11 pb3
  replace pb4 := cell_later A11 pb4
  replace pb5 := cell_later A11 pb5
  replace qb0 := cell_later A11 qb0
  replace qb1 := cell_later A11 qb1
  replace qb2 := cell_later A11 qb2
  replace qb3 := cell_later A11 qb3
  replace qb4 := cell_later A11 qb4
  replace qb5 := cell_later A11 qb5
  replace dP := dP.below A11
  replace dM := dM.below A11
  replace dH := dH.below A11
  replace lpb := Nat.lt_of_lt_of_le lpb A11.size
  replace lqb := Nat.lt_of_lt_of_le lqb A11.size
  replace B := below_next B A11
  have S12 := A11.size
  clear A11
  have E12 : w14.heap.size + 1 ≤ (w14.alloc (.cells #[.int .i64 cd, .int .i64 0, .int .i64 0, .slice hn h1 h2, .slice hb h3 h4, .slice none 0 0] 79)).heap.size := by simp
  have hb0 : (w14.alloc (.cells #[.int .i64 cd, .int .i64 0, .int .i64 0, .slice hn h1 h2, .slice hb h3 h4, .slice none 0 0] 79)).cell? ⟨w14.heap.size, 0, none⟩ = some (.int .i64 cd) := by simp
  have hb1 : (w14.alloc (.cells #[.int .i64 cd, .int .i64 0, .int .i64 0, .slice hn h1 h2, .slice hb h3 h4, .slice none 0 0] 79)).cell? ⟨w14.heap.size, 1, none⟩ = some (.int .i64 0) := by simp
  have hb2 : (w14.alloc (.cells #[.int .i64 cd, .int .i64 0, .int .i64 0, .slice hn h1 h2, .slice hb h3 h4, .slice none 0 0] 79)).cell? ⟨w14.heap.size, 2, none⟩ = some (.int .i64 0) := by simp
  have hb3 : (w14.alloc (.cells #[.int .i64 cd, .int .i64 0, .int .i64 0, .slice hn h1 h2, .slice hb h3 h4, .slice none 0 0] 79)).cell? ⟨w14.heap.size, 3, none⟩ = some (.slice hn h1 h2) := by simp
  have hb4 : (w14.alloc (.cells #[.int .i64 cd, .int .i64 0, .int .i64 0, .slice hn h1 h2, .slice hb h3 h4, .slice none 0 0] 79)).cell? ⟨w14.heap.size, 4, none⟩ = some (.slice hb h3 h4) := by simp
  have hb5 : (w14.alloc (.cells #[.int .i64 cd, .int .i64 0, .int .i64 0, .slice hn h1 h2, .slice hb h3 h4, .slice none 0 0] 79)).cell? ⟨w14.heap.size, 5, none⟩ = some (.slice none 0 0) := by simp
  have lhb : w14.heap.size < (w14.alloc (.cells #[.int .i64 cd, .int .i64 0, .int .i64 0, .slice hn h1 h2, .slice hb h3 h4, .slice none 0 0] 79)).heap.size := by simp
  go_wp2_with fail
  refine (eqPRes_yes (l3 := 0) (u3 := 0) (l4 := 0) (u4 := 0) (o3 := true) (o4 := true) cd 0 0 _ _ _ _ _ _ _ _ _ _ _ _ _ _ _ _ _ _ hK pK g [] _ dH (RowAt.nil _ _ _ _ _) dP (RowAt.nil _ _ _ _ _) hL hM (fo_lens dH (Nat.le_trans hX (by omega))) (by omega)).mono ?_
  rintro e w15 ⟨rfl, hb⟩
  replace pb0 := cell_later hb pb0
  replace pb1 := cell_later hb pb1
  replace pb2 := cell_later hb pb2
  replace pb3 := cell_later hb pb3
  replace pb4 := cell_later hb pb4
  replace pb5 := cell_later hb pb5
  replace qb0 := cell_later hb qb0
  replace qb1 := cell_later hb qb1
  replace qb2 := cell_later hb qb2
  replace qb3 := cell_later hb qb3
  replace qb4 := cell_later hb qb4
  replace qb5 := cell_later hb qb5
  replace hb0 := cell_later hb hb0
  replace hb1 := cell_later hb hb1
  replace hb2 := cell_later hb hb2
  replace hb3 := cell_later hb hb3
  replace hb4 := cell_later hb hb4
  replace hb5 := cell_later hb hb5
  replace dP := dP.below hb
  replace dM := dM.below hb
  replace dH := dH.below hb
  replace lpb := Nat.lt_of_lt_of_le lpb hb.size
  replace lqb := Nat.lt_of_lt_of_le lqb hb.size
  replace lhb := Nat.lt_of_lt_of_le lhb hb.size
  replace B := below_next B hb
  have S13 := hb.size
  clear hb
  go_wp2_with fail
  refine (heldPRes_nil cd _ _ _ _ _ _ qK g _ dM qY (by omega)).mono ?_
  rintro e w16 ⟨rfl, hb⟩
  replace pb0 := cell_later hb pb0
  replace pb1 := cell_later hb pb1
  replace pb2 := cell_later hb pb2
  replace pb3 := cell_later hb pb3
  replace pb4 := cell_later hb pb4
  replace pb5 := cell_later hb pb5
  replace qb0 := cell_later hb qb0
  replace qb1 := cell_later hb qb1
  replace qb2 := cell_later hb qb2
  replace qb3 := cell_later hb qb3
  replace qb4 := cell_later hb qb4
  replace qb5 := cell_later hb qb5
  replace hb0 := cell_later hb hb0
  replace hb1 := cell_later hb hb1
  replace hb2 := cell_later hb hb2
  replace hb3 := cell_later hb hb3
  replace hb4 := cell_later hb hb4
  replace hb5 := cell_later hb hb5
  replace dP := dP.below hb
  replace dM := dM.below hb
  replace dH := dH.below hb
  replace lpb := Nat.lt_of_lt_of_le lpb hb.size
  replace lqb := Nat.lt_of_lt_of_le lqb hb.size
  replace lhb := Nat.lt_of_lt_of_le lhb hb.size
  replace B := below_next B hb
  have S14 := hb.size
  clear hb
  go_wp2
  go_ret
  exact ⟨rfl, B⟩

open Go.ChangeShapes Go.WideShapes Go.ChangeAt Go.Joins

set_option maxRecDepth 100000 in
theorem liftedNewPool (os : Os) (started : os.Started) (H : Type) (enc : TypeId × Value → H) :
    ReturnsInHanded {} Try.checked os 32 .any (Rows.fnExactNewPoolSpec.pre6 enc Try.prog Try.f32 Rows.fnExactNewPoolRow.domain false) (Rows.fnExactNewPoolSpec.post enc Try.prog Try.f32 false true false false) := by
  refine returnsInHanded_of_change (C := Try.checked) Try.own started (by kernel_rfl) Try.func32
    (ChangeSpec.witness6 (enc := enc) (C := Try.checked) false ⟨#[], #[.int .i64 0], []⟩ 8 (by kernel_rfl) (by kernel_rfl) (by kernel_rfl) (by kernel_rfl)) ?_
  intro W base args ds gs before hval0 hW hcnd _
  have hval : ∀ (j : Nat) t v, Try.f32.params[j]? = some t → args[j]? = some v → Value.okWide Try.prog W .any base t v := hval0
  have hW' := hW
  obtain ⟨p, q, hA0, hV, rfl, hfz, hnd⟩ := hW
  have hA : DataW.TrodAll enc Try.prog W 0 (fun _ => true) true Try.f32.params.toList args.toList ds p := hA0
  rw [Try.params32] at hA hval
  obtain ⟨v0, vs0, d0, ds0, p0, q0, hargs, rfl, rfl, h0, r0⟩ := trodAll_cons hA
  obtain ⟨rfl, rfl, rfl⟩ := trodAll_nil r0
  obtain rfl : args = #[v0] := by cases args; simp_all
  obtain ⟨rfl, rfl⟩ := trodVars_none hV
  obtain ⟨x0, rfl, rfl, rfl, wx0⟩ := open_int Try.underlying2 (hval 0 2 v0 rfl rfl) h0
  clear hA0 hval0
  refine (lawNewPool x0 W).mono fun e W' ⟨he, bel⟩ => ?_
  subst he
  exact ⟨_, rfl, _, _, _, [], _, [], hW', trodAll_mk1 (shut_bool Try.underlying4 _), (trodAll_cons_mk (shut_int Try.underlying2 wx0) trodAll_mk0), rfl, bel.frame _, fun h => by cases h⟩

set_option maxRecDepth 100000 in
set_option maxHeartbeats 0 in
theorem closedNewPool : joinedFacts Try.prog 32 Try.f32 Rows.fnExactNewPoolSpec Rows.fnExactNewPoolRow = true := by
  have q1 : (Rows.fnExactNewPoolRow.inPlace == Try.prog.inPlace 32) = true := by rw [inPlace_at leads_is inp_is]; kernel_rfl
  have q2 : (Rows.fnExactNewPoolRow.unfollowed == Try.prog.unfollowed 32) = true := by rw [unfollowed_at leads_is unf_is]; kernel_rfl
  have q3 : (Rows.fnExactNewPoolRow.recurses == Try.prog.recurses 32) = true := (by rw [recurses_no leads_is (by rw [unfollowed_at leads_is unf_is]; kernel_rfl) ranks_ok (by kernel_rfl)]; rfl)
  have q4 : (Rows.fnExactNewPoolRow.named == Try.prog.varsNamed 32) = true := by rw [varsNamed_at leads_is var_ok ent_is]; kernel_rfl
  have q5 : (Try.prog.make == some Rows.fnExactNewPoolRow.make) = true := by rw [made_cut]; rfl
  have q6 : (Rows.fnExactNewPoolRow.lifted == Try.prog.liftsFinal) = true := by rw [lifts_no]; rfl
  have q7 : Try.prog.mayEnter = true := may_enter
  have q8 : laidOutB Try.prog = true := Try.laidOut
  unfold joinedFacts
  repeat' (with_reducible refine Bool.and_eq_true_iff.2 ⟨?_, ?_⟩)
  all_goals (first | with_reducible exact q1 | with_reducible exact q2 | with_reducible exact q3 | with_reducible exact q4 | with_reducible exact q5 | with_reducible exact q6 | with_reducible exact q7 | with_reducible exact q8 | (as_aux_lemma => kernel_rfl))

theorem newPool_holds : Rows.FnExactNewPoolSaid :=
  OpenClaim.holds_of_wide 32 Try.f32 rfl rfl rfl rfl rfl rfl rfl ⟨rfl, rfl, rfl, rfl, rfl⟩ rfl rfl rfl rfl rfl (by as_aux_lemma => kernel_rfl) Try.func32 closedNewPool
    (of_decide_eq_true (by as_aux_lemma => kernel_rfl)) (by unfold Func.isWrapper; first | (rw [if_pos (by decide +kernel)]; kernel_rfl) | (rw [if_neg (by decide +kernel)]; exact ⟨rfl, rfl⟩))
    (fun os started H enc _ => liftedNewPool os started H enc)

#print axioms newPool_holds

end Go.Proofs.Ytkdaphfmhdkhfaa
