/- Chapter 11: NewCluster of the model. -/
import Derived.Test.YtgldocaohcoleaaGreatQAFN
import Derived.Test.YtgldocaohcoleaaGreatQABN
import Derived.Test.YtgldocaohcoleaaGreatQBAN
import Derived.Test.YtgldocaohcoleaaGreatWSN
import Derived.Test.YtgldocaohcoleaaGreatWRN
import Derived.Test.YtgldocaohcoleaaGreatQAPN
import Derived.Test.YtgldocaohcoleaaGreatWHN
import Derived.Test.YtgldocaohcoleaaGreatWYN
import Derived.Test.YtgldocaohcoleaaGreatQAJN
import Derived.Test.YtgldocaohcoleaaGreatQAUN
import Derived.Deep.MidRow
import Derived.Deep.RegionHeld3
import Derived.Deep.WholeRow
import Derived.Test.YtgldocaohcoleaaGreatQAEN
set_option maxRecDepth 20000
set_option maxHeartbeats 16000000
namespace Go.Proofs.YtgldocaohcoleaaGreat
open Go.RowKit
theorem l11Bad_is (c : Int) (w : World) : Calls Tryz.prog 73 #[.int .i64 c] w fun e w' => e = .returned (.agg #[.int .i64 c, .slice none 0 0, .slice none 0 0, .slice none 0 0]) ∧ Below w.heap.size w w' := by
 go_enter Tryz.func73, Tryz.ntmps73
 go_wp2_with (first | ((with_reducible refine store_midX 34 X0 0 [.int .i64 c, .slice none 0 0, .slice none 0 0, .slice none 0 0] (by simp) (by kernel_rfl) (by simp [Value.oneCell']) rfl rfl ?_); intro V1 S; replace X0 : Bx V1 b0 [.int .i64 c, .slice none 0 0, .slice none 0 0, .slice none 0 0] := S.bx; replace c0 := X0.cell; replace f0 := X0.froz; replace B := bkp B S.kept; clear S) | ((with_reducible refine alloc_newX 34 [.int .i64 0, .slice none 0 0, .slice none 0 0, .slice none 0 0] (fun _ => by kernel_rfl) ?_); intro b0 W0 N0; have ob0 := N0.ge; have B := N0.below; have X0 := N0.bx; have c0 := X0.cell; have f0 := X0.froz; clear N0))
 refine bodyPost_ret (v := .agg #[.int .i64 c, .slice none 0 0, .slice none 0 0, .slice none 0 0]) (by simp [results, Tryz.results73, go_sem, *]) rfl ⟨rfl, B⟩
theorem specNewCl_is (m : Int) (w : World) : Calls Tryz.prog 35 #[.int .i64 m] w fun e w' => NewAns m w w' e := by
 go_enter Tryz.func35, Tryz.ntmps35
 go_wp2_with (first | ((with_reducible refine alloc_newX 34 [.int .i64 0, .slice none 0 0, .slice none 0 0, .slice none 0 0] (fun _ => by kernel_rfl) ?_); intro b0 W0 N0; have ob0 := N0.ge; have B := N0.below; have X0 := N0.bx; have c0 := X0.cell; have f0 := X0.froz; clear N0) | fail)
 by_cases q0 : 1 ≤ m ∧ m ≤ 5
 rotate_left 1
 ·refine (l1In_is' m 1 5 _ false (by simp only [decide_eq_false_eq]; exact q0)).mono ?_
  rintro e W9 ⟨rfl, rfl⟩
  go_wp2_with fail
  refine (l11Bad_is 3 _).mono ?_
  rintro e w1 ⟨rfl, BB⟩
  replace X0 := X0.below BB
  replace c0 := X0.cell
  replace f0 := X0.froz
  replace B := below_next B BB
  clear BB
  go_wp2_with (first | ((with_reducible refine store_midX 34 X0 0 [.int .i64 3, .slice none 0 0, .slice none 0 0, .slice none 0 0] (by simp) (by kernel_rfl) (by simp [Value.oneCell']) rfl rfl ?_); intro V1 S; replace X0 : Bx V1 b0 [.int .i64 3, .slice none 0 0, .slice none 0 0, .slice none 0 0] := S.bx; replace c0 := X0.cell; replace f0 := X0.froz; replace B := bkp B S.kept; clear S))
  refine bodyPost_ret (v := .agg #[.int .i64 3, .slice none 0 0, .slice none 0 0, .slice none 0 0]) (by simp [results, Tryz.results35, go_sem, *]) rfl ⟨(none, 0, 0), [], by unfold nclC; rw [if_neg q0], LAt.nil _ _ _ _ _ _ _, by unfold newL; rw [if_neg q0]; rfl, fun i a e => by simp at e, B⟩
 refine (l1In_is' m 1 5 _ true (by simp only [decide_eq_true_eq]; exact q0)).mono ?_
 rintro e W9 ⟨rfl, rfl⟩
 obtain ⟨mm, hmm⟩ : ∃ mm : Nat, m = (mm : Int) := ⟨m.toNat, by omega⟩
 subst hmm
 have hm5 : mm ≤ 5 := by omega
 go_upto_region 4 with (first | ((with_reducible refine store_midX 34 X1 0 [.int .i64 0, .slice none 0 0, .slice none 0 0, .slice none 0 0] (by simp) (by kernel_rfl) (by simp [Value.oneCell']) rfl rfl ?_); intro V1 S; replace X0 := X0.kp S.kept; replace c0 := X0.cell; replace f0 := X0.froz; replace X1 : Bx V1 b1 [.int .i64 0, .slice none 0 0, .slice none 0 0, .slice none 0 0] := S.bx; replace c1 := X1.cell; replace f1 := X1.froz; replace B := bkp B S.kept; clear S) | ((have g := ob0); clear g; (with_reducible refine alloc_newX 34 [.int .i64 0, .slice none 0 0, .slice none 0 0, .slice none 0 0] (fun _ => by kernel_rfl) ?_); intro b1 W1 N1; have ob1 := Nat.le_trans B.size N1.ge; have o0_b1 := ltl X0.lt N1.ge; replace X0 := X0.below N1.below; replace c0 := X0.cell; replace f0 := X0.froz; replace B := below_next B N1.below; have X1 := N1.bx; have c1 := X1.cell; have f1 := X1.froz; clear N1) | fail)
 obtain ⟨zz, hzz⟩ : ∃ zz, zz = V1.heap.size := ⟨_, rfl⟩
 have lz0 : b0 < zz := by rw [hzz]; exact X0.lt
 have lz1 : b1 < zz := by rw [hzz]; exact X1.lt
 have lw : w.heap.size ≤ zz := by rw [hzz]; exact B.size
 have hzl : zz ≤ V1.heap.size := Nat.le_of_eq hzz
 have HX0 : Hid _ := X0
 have HX1 : Hid _ := X1
 have HB : Hid _ := B
 clear hzz X0 B c0 f0 X1 c1 f1
 go_wp2
 go_loopw [4] (fun iv wr => ∃ (k : Nat) (v : Value), k ≤ mm ∧ iv = .int .i64 k ∧ Bx wr b0 [.int .i64 0, .slice none 0 0, .slice none 0 0, .slice none 0 0] ∧ Bx wr b1 [.int .i64 0, v, .slice none 0 0, .slice none 0 0] ∧ NewSt (mm : Int) wr zz 65 v k ∧ zz ≤ wr.heap.size ∧ Below w.heap.size w wr) (fun iv _ => mm - (intOf iv).toNat)
 case atStart => exact ⟨0, _, Nat.zero_le _, rfl, HX0.out, HX1.out, ⟨[], GrowL.nil _ _ _ _, rfl, fun i a e => by simp at e⟩, hzl, HB.out⟩
 case round =>
  obtain ⟨k, v, hk, rfl, X0, X1, G, LZ, B⟩ := hrel
  clear HX0 HX1 HB hzl
  have c0 := X0.cell
  have f0 := X0.froz
  have c1 := X1.cell
  have f1 := X1.froz
  by_cases hlt : k < mm
  ·have hlk : (k : Int) < (mm : Int) := by omega
   have HG : Hid (NewSt (mm : Int) wr zz 65 v k) := G
   clear G
   obtain ⟨q, hq⟩ : ∃ q, newRep (k : Int) (mm : Int) = q := ⟨_, rfl⟩
   have HQ : Hid _ := hq
   clear hq
   obtain ⟨c, hc⟩ : ∃ c, newC (k : Int) (mm : Int) = c := ⟨_, rfl⟩
   have HC : Hid _ := hc
   clear hc
   go_wp2_with fail
   have DQ : Below wr.heap.size wr wr.drew := (Below.refl _ _).drew
   replace X0 := X0.below DQ
   replace c0 := X0.cell
   replace f0 := X0.froz
   replace X1 := X1.below DQ
   replace c1 := X1.cell
   replace f1 := X1.froz
   replace LZ := Nat.le_trans LZ DQ.size
   replace B := below_next B DQ
   clear DQ
   replace HG : Hid (NewSt (mm : Int) wr.drew zz 65 v k) := NewSt.below HG.out (Below.refl _ _).drew
   have LZD := LZ
   refine wp_region_held_drew (S := (fun _ => True)) (by kernel_rfl) trivial (fun hZq => ?_)
   refine tk 0 hZq ?_
   refine tk 1 hZq ?_
   refine tk 3 hZq ?_
   refine tk 4 hZq ?_
   refine wpAnyH_ready (rs := [2, 5]) (by kernel_rfl) (by simp) ?_
   refine (AllReadyH.cons rfl (fun KK hKK => ?_) (AllReadyH.cons rfl (fun KK hKK => ?_) AllReadyH.nil))
   ·rw [if_pos (by simp [Region.wanted])]
    unfold Oper.wp execOp
    go_simp
    clear hZq
    refine hKK _ _ trivial (fun hZq => ?_)
    clear hKK KK
    refine rd1 5 (fun KK hKK => ?_)
    go_simp
    go_at_call 102
    refine (specNewR_is (k : Int) (mm : Int) _ c q HC.out HQ.out).mono ?_
    rintro e v1 ⟨oa, on, oc, rfl, hon, R1, BB⟩
    have HR1 : Hid _ := R1
    have HB1 : Hid (Below wr.drew.heap.size wr.drew v1) := BB
    replace X0 := X0.below BB
    replace c0 := X0.cell
    replace f0 := X0.froz
    replace X1 := X1.below BB
    replace c1 := X1.cell
    replace f1 := X1.froz
    replace LZ := Nat.le_trans LZ BB.size
    replace B := below_next B BB
    clear BB R1
    have hfi : ∀ W, (Instr.field 68 (.agg #[.int .i64 c, .int .i64 q.id, .int .i64 q.size, .int .i64 q.view, .bool q.normal, .int .i64 q.last, .slice none 0 0, .int .i64 q.commit, .slice oa on oc, .slice none 0 0, .slice none 0 0, .slice none 0 0]) 1).run Tryz.prog W = .ok (.agg #[.int .i64 q.id, .int .i64 q.size, .int .i64 q.view, .bool q.normal, .int .i64 q.last, .slice none 0 0, .int .i64 q.commit, .slice oa on oc, .slice none 0 0, .slice none 0 0]) W := fun W => by kernel_rfl
    clear hZq
    refine hKK _ _ trivial (fun hZq => ?_)
    clear hKK KK
    refine tk 6 hZq ?_
    refine rd1 7 (fun KK hKK => ?_)
    refine step_litX 28 1 _ [.int .i64 q.id, .int .i64 q.size, .int .i64 q.view, .bool q.normal, .int .i64 q.last, .slice none 0 0, .int .i64 q.commit, .slice oa on oc, .slice none 0 0, .slice none 0 0] 65 (fun _ => by kernel_rfl) ?_
    intro bl Wl Nl
    have bB := Nl.below
    have Xl := Nl.bx
    clear Nl
    obtain ⟨v', w6, hr, G2, BL⟩ := new_snoc HG.out (below_next HB1.out bB) Xl ((HR1.out.below bB).widen (Nat.le_refl _) bB.size) (Nat.le_refl _) LZD HQ.out hon (by omega)
    replace X0 := X0.below bB
    replace c0 := X0.cell
    replace f0 := X0.froz
    replace X1 := X1.below bB
    replace c1 := X1.cell
    replace f1 := X1.froz
    replace LZ := Nat.le_trans LZ bB.size
    replace B := below_next B bB
    have HG2 : Hid (NewSt (mm : Int) w6 zz 65 v' (k + 1)) := G2
    clear bB G2 Xl HR1 HB1
    clear hZq
    refine hKK _ _ trivial (fun hZq => ?_)
    clear hKK KK
    refine rd1 8 (fun KK hKK => ?_)
    refine step_append_run rfl _ _ _ _ rfl _ _ rfl rfl _ _ (hr _) ?_
    clear hr
    replace X0 := X0.low BL lz0
    replace c0 := X0.cell
    replace f0 := X0.froz
    replace X1 := X1.low BL lz1
    replace c1 := X1.cell
    replace f1 := X1.froz
    replace LZ := Nat.le_trans LZ BL.size
    replace B := B.trans (BL.mono lw)
    clear BL
    clear hZq
    refine hKK _ _ trivial (fun hZq => ?_)
    clear hKK KK
    refine tk 9 hZq ?_
    refine tk 10 hZq ?_
    refine rd1 11 (fun KK hKK => ?_)
    obtain ⟨sa, sc, hv'⟩ : ∃ sa sc, v' = .slice sa (k + 1) sc := by
     obtain ⟨ys, G, _, _⟩ := HG2.out
     obtain ⟨ao, cap, e, _⟩ := G.els
     exact ⟨ao, cap, e⟩
    subst hv'
    refine step_oneX 28 X1 1 (.slice sa (k + 1) sc) (by simp) (by kernel_rfl) rfl rfl rfl ?_
    intro V7 S
    have HG3 : Hid (NewSt (mm : Int) V7 zz 65 (.slice sa (k + 1) sc) (k + 1)) := NewSt.kept HG2.out S.kept (by omega)
    replace X0 := X0.kp S.kept
    replace c0 := X0.cell
    replace f0 := X0.froz
    replace X1 : Bx V7 b1 [.int .i64 0, .slice sa (k + 1) sc, .slice none 0 0, .slice none 0 0] := S.bx
    replace c1 := X1.cell
    replace f1 := X1.froz
    replace LZ := Nat.le_trans LZ S.kept.size
    replace B := bkp B S.kept
    clear S
    clear hZq
    refine hKK _ _ trivial (fun hZq => ?_)
    clear hKK KK
    refine wpAnyH_done (by kernel_rfl) ?_ _
    have H0 : Hid _ := X0
    have H1 : Hid _ := X1
    have HLZ : Hid _ := LZ
    have HB2 : Hid _ := B
    clear X0 X1 c0 f0 c1 f1 LZ B HG HG2 HQ HC
    go_wp2
    go_roundw
    case rel => exact ⟨k + 1, _, by omega, by go_num, H0.out, H1.out, HG3.out, HLZ.out, HB2.out⟩
    case measure => simp [intOf]; omega
   ·go_simp
    go_at_call 102
    refine (specNewR_is (k : Int) (mm : Int) _ c q HC.out HQ.out).mono ?_
    rintro e v1 ⟨oa, on, oc, rfl, hon, R1, BB⟩
    have HR1 : Hid _ := R1
    have HB1 : Hid (Below wr.drew.heap.size wr.drew v1) := BB
    replace X0 := X0.below BB
    replace c0 := X0.cell
    replace f0 := X0.froz
    replace X1 := X1.below BB
    replace c1 := X1.cell
    replace f1 := X1.froz
    replace LZ := Nat.le_trans LZ BB.size
    replace B := below_next B BB
    clear BB R1
    have hfi : ∀ W, (Instr.field 68 (.agg #[.int .i64 c, .int .i64 q.id, .int .i64 q.size, .int .i64 q.view, .bool q.normal, .int .i64 q.last, .slice none 0 0, .int .i64 q.commit, .slice oa on oc, .slice none 0 0, .slice none 0 0, .slice none 0 0]) 1).run Tryz.prog W = .ok (.agg #[.int .i64 q.id, .int .i64 q.size, .int .i64 q.view, .bool q.normal, .int .i64 q.last, .slice none 0 0, .int .i64 q.commit, .slice oa on oc, .slice none 0 0, .slice none 0 0]) W := fun W => by kernel_rfl
    clear hZq
    refine hKK _ _ trivial (fun hZq => ?_)
    clear hKK KK
    refine tk 6 hZq ?_
    refine wpAnyH_ready (rs := [2, 7]) (by kernel_rfl) (by simp) ?_
    refine (AllReadyH.cons rfl (fun KK hKK => ?_) (AllReadyH.cons rfl (fun KK hKK => ?_) AllReadyH.nil))
    ·rw [if_pos (by simp [Region.wanted])]
     unfold Oper.wp execOp
     go_simp
     clear hZq
     refine hKK _ _ trivial (fun hZq => ?_)
     clear hKK KK
     refine rd1 7 (fun KK hKK => ?_)
     refine step_litX 28 1 _ [.int .i64 q.id, .int .i64 q.size, .int .i64 q.view, .bool q.normal, .int .i64 q.last, .slice none 0 0, .int .i64 q.commit, .slice oa on oc, .slice none 0 0, .slice none 0 0] 65 (fun _ => by kernel_rfl) ?_
     intro bl Wl Nl
     have bB := Nl.below
     have Xl := Nl.bx
     clear Nl
     obtain ⟨v', w6, hr, G2, BL⟩ := new_snoc HG.out (below_next HB1.out bB) Xl ((HR1.out.below bB).widen (Nat.le_refl _) bB.size) (Nat.le_refl _) LZD HQ.out hon (by omega)
     replace X0 := X0.below bB
     replace c0 := X0.cell
     replace f0 := X0.froz
     replace X1 := X1.below bB
     replace c1 := X1.cell
     replace f1 := X1.froz
     replace LZ := Nat.le_trans LZ bB.size
     replace B := below_next B bB
     have HG2 : Hid (NewSt (mm : Int) w6 zz 65 v' (k + 1)) := G2
     clear bB G2 Xl HR1 HB1
     clear hZq
     refine hKK _ _ trivial (fun hZq => ?_)
     clear hKK KK
     refine rd1 8 (fun KK hKK => ?_)
     refine step_append_run rfl _ _ _ _ rfl _ _ rfl rfl _ _ (hr _) ?_
     clear hr
     replace X0 := X0.low BL lz0
     replace c0 := X0.cell
     replace f0 := X0.froz
     replace X1 := X1.low BL lz1
     replace c1 := X1.cell
     replace f1 := X1.froz
     replace LZ := Nat.le_trans LZ BL.size
     replace B := B.trans (BL.mono lw)
     clear BL
     clear hZq
     refine hKK _ _ trivial (fun hZq => ?_)
     clear hKK KK
     refine tk 9 hZq ?_
     refine tk 10 hZq ?_
     refine rd1 11 (fun KK hKK => ?_)
     obtain ⟨sa, sc, hv'⟩ : ∃ sa sc, v' = .slice sa (k + 1) sc := by
      obtain ⟨ys, G, _, _⟩ := HG2.out
      obtain ⟨ao, cap, e, _⟩ := G.els
      exact ⟨ao, cap, e⟩
     subst hv'
     refine step_oneX 28 X1 1 (.slice sa (k + 1) sc) (by simp) (by kernel_rfl) rfl rfl rfl ?_
     intro V7 S
     have HG3 : Hid (NewSt (mm : Int) V7 zz 65 (.slice sa (k + 1) sc) (k + 1)) := NewSt.kept HG2.out S.kept (by omega)
     replace X0 := X0.kp S.kept
     replace c0 := X0.cell
     replace f0 := X0.froz
     replace X1 : Bx V7 b1 [.int .i64 0, .slice sa (k + 1) sc, .slice none 0 0, .slice none 0 0] := S.bx
     replace c1 := X1.cell
     replace f1 := X1.froz
     replace LZ := Nat.le_trans LZ S.kept.size
     replace B := bkp B S.kept
     clear S
     clear hZq
     refine hKK _ _ trivial (fun hZq => ?_)
     clear hKK KK
     refine wpAnyH_done (by kernel_rfl) ?_ _
     have H0 : Hid _ := X0
     have H1 : Hid _ := X1
     have HLZ : Hid _ := LZ
     have HB2 : Hid _ := B
     clear X0 X1 c0 f0 c1 f1 LZ B HG HG2 HQ HC
     go_wp2
     go_roundw
     case rel => exact ⟨k + 1, _, by omega, by go_num, H0.out, H1.out, HG3.out, HLZ.out, HB2.out⟩
     case measure => simp [intOf]; omega
    ·refine step_litX 28 1 _ [.int .i64 q.id, .int .i64 q.size, .int .i64 q.view, .bool q.normal, .int .i64 q.last, .slice none 0 0, .int .i64 q.commit, .slice oa on oc, .slice none 0 0, .slice none 0 0] 65 (fun _ => by kernel_rfl) ?_
     intro bl Wl Nl
     have bB := Nl.below
     have Xl := Nl.bx
     clear Nl
     obtain ⟨v', w6, hr, G2, BL⟩ := new_snoc HG.out (below_next HB1.out bB) Xl ((HR1.out.below bB).widen (Nat.le_refl _) bB.size) (Nat.le_refl _) LZD HQ.out hon (by omega)
     replace X0 := X0.below bB
     replace c0 := X0.cell
     replace f0 := X0.froz
     replace X1 := X1.below bB
     replace c1 := X1.cell
     replace f1 := X1.froz
     replace LZ := Nat.le_trans LZ bB.size
     replace B := below_next B bB
     have HG2 : Hid (NewSt (mm : Int) w6 zz 65 v' (k + 1)) := G2
     clear bB G2 Xl HR1 HB1
     clear hZq
     refine hKK _ _ trivial (fun hZq => ?_)
     clear hKK KK
     refine rd1 2 (fun KK hKK => ?_)
     rw [if_pos (by simp [Region.wanted])]
     unfold Oper.wp execOp
     go_simp
     clear hZq
     refine hKK _ _ trivial (fun hZq => ?_)
     clear hKK KK
     refine rd1 8 (fun KK hKK => ?_)
     refine step_append_run rfl _ _ _ _ rfl _ _ rfl rfl _ _ (hr _) ?_
     clear hr
     replace X0 := X0.low BL lz0
     replace c0 := X0.cell
     replace f0 := X0.froz
     replace X1 := X1.low BL lz1
     replace c1 := X1.cell
     replace f1 := X1.froz
     replace LZ := Nat.le_trans LZ BL.size
     replace B := B.trans (BL.mono lw)
     clear BL
     clear hZq
     refine hKK _ _ trivial (fun hZq => ?_)
     clear hKK KK
     refine tk 9 hZq ?_
     refine tk 10 hZq ?_
     refine rd1 11 (fun KK hKK => ?_)
     obtain ⟨sa, sc, hv'⟩ : ∃ sa sc, v' = .slice sa (k + 1) sc := by
      obtain ⟨ys, G, _, _⟩ := HG2.out
      obtain ⟨ao, cap, e, _⟩ := G.els
      exact ⟨ao, cap, e⟩
     subst hv'
     refine step_oneX 28 X1 1 (.slice sa (k + 1) sc) (by simp) (by kernel_rfl) rfl rfl rfl ?_
     intro V7 S
     have HG3 : Hid (NewSt (mm : Int) V7 zz 65 (.slice sa (k + 1) sc) (k + 1)) := NewSt.kept HG2.out S.kept (by omega)
     replace X0 := X0.kp S.kept
     replace c0 := X0.cell
     replace f0 := X0.froz
     replace X1 : Bx V7 b1 [.int .i64 0, .slice sa (k + 1) sc, .slice none 0 0, .slice none 0 0] := S.bx
     replace c1 := X1.cell
     replace f1 := X1.froz
     replace LZ := Nat.le_trans LZ S.kept.size
     replace B := bkp B S.kept
     clear S
     clear hZq
     refine hKK _ _ trivial (fun hZq => ?_)
     clear hKK KK
     refine wpAnyH_done (by kernel_rfl) ?_ _
     have H0 : Hid _ := X0
     have H1 : Hid _ := X1
     have HLZ : Hid _ := LZ
     have HB2 : Hid _ := B
     clear X0 X1 c0 f0 c1 f1 LZ B HG HG2 HQ HC
     go_wp2
     go_roundw
     case rel => exact ⟨k + 1, _, by omega, by go_num, H0.out, H1.out, HG3.out, HLZ.out, HB2.out⟩
     case measure => simp [intOf]; omega
  ·obtain rfl : k = mm := by omega
   obtain ⟨ys, G, hys, hsz⟩ := G
   obtain ⟨ao, cap, rfl, L⟩ := G.els
   have HL : Hid (LAt nodeK wr true zz wr.heap.size ao k cap ys) := L
   have HY : Hid _ := hys
   have HZ : Hid _ := hsz
   clear L G hys hsz LZ
   go_wp2_with (first | ((with_reducible refine store_midX 34 X0 0 [.int .i64 0, .slice ao k cap, .slice none 0 0, .slice none 0 0] (by simp) (by kernel_rfl) (by simp [Value.oneCell']) rfl rfl ?_); intro V10 S; replace X0 : Bx V10 b0 [.int .i64 0, .slice ao k cap, .slice none 0 0, .slice none 0 0] := S.bx; replace c0 := X0.cell; replace f0 := X0.froz; replace X1 := X1.kp S.kept; replace c1 := X1.cell; replace f1 := X1.froz; replace B := bkp B S.kept; have hk2 := S.kept; clear S))
   have L2 := (HL.out.kept nodeOk hk2 (Or.inr lz0)).widen nodeOk lw hk2.size
   refine bodyPost_ret (v := .agg #[.int .i64 0, .slice ao k cap, .slice none 0 0, .slice none 0 0]) (by simp [results, Tryz.results35, go_sem, *]) rfl ⟨(ao, k, cap), ys, by unfold nclC; rw [if_pos q0], L2, by unfold newL; rw [if_pos q0]; exact HY.out, HZ.out, B⟩
def dsum (ds : List Dr) : Nat → Nat
 | 0 => 0
 | i + 1 => dsum ds i + (drL ds i).length
def rlen (r : Rep) : Nat := r.log.length + r.oks.length + r.asks.length + r.doers.length + dsum r.doers r.doers.length
structure FewR (r : Rep) : Prop where
 log : r.log.length ≤ 40
 oks : r.oks.length ≤ 5
 asks : r.asks.length ≤ 5
 doers : r.doers.length ≤ 5
 logs : ∀ i, (drL r.doers i).length ≤ 40
def ClZ (own : Bool) (w w' : World) (e : Ending) (cd : Int) (rs : List Rep) (ms : List Ml) (es : List En) : Prop := ∃ (z u : Nat) (N M S : Hd) (xs : List Nod) (ys : List Mal), e = .returned (.agg #[.int .i64 cd, .slice N.1 N.2.1 N.2.2, .slice M.1 M.2.1 M.2.2, .slice S.1 S.2.1 S.2.2]) ∧ w.heap.size ≤ z ∧ u ≤ w'.heap.size ∧ ClAt w' own z u N M S xs ys es ∧ ClSz N M S xs ys 1048576 ∧ xs.map (·.1) = rs ∧ ys.map (·.1) = ms ∧ Below w.heap.size w w'
theorem ClRes.z {own : Bool} {w w' : World} {e : Ending} {cd : Int} {rs : List Rep} {ms : List Ml} {es : List En} (h : ClRes own w w' e cd rs ms es) : ClZ own w w' e cd rs ms es := by
 obtain ⟨N, M, S, xs, ys, e1, x, s, e2, e3, b⟩ := h
 exact ⟨_, _, N, M, S, xs, ys, e1, Nat.le_refl _, Nat.le_refl _, x, s, e2, e3, b⟩
def lwN (bs : List Nat) (i n : Nat) : Nat := if n ≤ 1 then 0 else if bs.length = 0 then (i * 7) % n else (bs.getD (i % bs.length) 0 + i / bs.length * 3) % n
theorem lwN_lt (bs : List Nat) (i n : Nat) (h : 0 < n) : lwN bs i n < n := by
 unfold lwN
 split
 ·omega
 ·split
  ·exact Nat.mod_lt _ h
  ·exact Nat.mod_lt _ h
theorem lwAt_is {o : Bool} {lo hi : Nat} (ac : Option Addr) (nc cc : Nat) (bs : List Nat) (i n : Nat) (w : World) (hr : RowAt w o lo hi 1 ac nc cc (bys bs)) (hb : ∀ i, bs.getD i 0 < 256) (hi : i ≤ 100000) (hc : nc ≤ 1048576) (hn : n ≤ 200) (d : Nat) (hd : lwN bs i n = d) :
  Calls Tryz.prog 37 #[.slice ac nc cc, .int .i64 (i : Int), .int .i64 (n : Int)] w fun e w' => e = .returned (.int .i64 (d : Int)) ∧ Below w.heap.size w w' := by
 have hx := hr.nBytes
 have HD : Hid _ := hd
 clear hd
 by_cases hn1 : n ≤ 1
 ·have hn1' : (n : Int) ≤ 1 := by omega
  obtain rfl : d = 0 := by rw [← HD.out]; unfold lwN; rw [if_pos hn1]
  clear HD
  go_enter Tryz.func37, Tryz.ntmps37
  go_wp2
  go_ret
  exact ⟨rfl, Below.refl _ _⟩
 have hn2 : ¬ (n : Int) ≤ 1 := by omega
 have hn3 : ¬ (n : Int) = 0 := by omega
 have hn4 : ¬ (200 : Int) < (n : Int) := by omega
 by_cases h0 : nc = 0
 ·subst h0
  have ed : d = (i * 7) % n := by rw [← HD.out]; unfold lwN; rw [if_neg hn1, if_pos hx]
  have hw : IntKind.i64.wrap ((i : Int) * 7) = (i : Int) * 7 := by rw [IntKind.wrap_i64]; omega
  have ht : ((i : Int) * 7).tmod (n : Int) = (d : Int) := by rw [Int.tmod_eq_emod_of_nonneg (by omega), ed, Int.natCast_emod, Int.natCast_mul]; rfl
  have hw2 : IntKind.i64.wrap (d : Int) = d := by rw [IntKind.wrap_i64]; have := Nat.mod_lt (i * 7) (show n > 0 by omega); omega
  clear ed HD
  go_enter Tryz.func37, Tryz.ntmps37
  go_wp2
  go_ret
  exact ⟨rfl, Below.refl _ _⟩
 ·obtain ⟨m, hm⟩ : ∃ m, i % nc = m := ⟨_, rfl⟩
  obtain ⟨q, hq⟩ : ∃ q, i / nc = q := ⟨_, rfl⟩
  have hm' : (i : Int) % (nc : Int) = (m : Int) := by rw [← hm]; rfl
  have hq' : (i : Int) / (nc : Int) = (q : Int) := by rw [← hq]; rfl
  have hk : m < nc := by rw [← hm]; exact Nat.mod_lt _ (by omega)
  have hq2 : q ≤ i := by rw [← hq]; exact Nat.div_le_self _ _
  have D : Below w.heap.size w w.drew := (Below.refl _ _).drew
  obtain ⟨b, off, rfl, _, _, _, e1⟩ := (hr.below D).byte hk
  obtain ⟨v, hv⟩ : ∃ v, bs.getD m 0 = v := ⟨_, rfl⟩
  have hv2 := hb m
  rw [hv] at e1 hv2
  have ed : d = (v + q * 3) % n := by rw [← HD.out]; unfold lwN; rw [if_neg hn1, if_neg (by omega), hx, hm, hq, hv]
  have h0i : ¬ (nc : Int) = 0 := by omega
  have t7 : (i : Int).tmod (nc : Int) = (m : Int) := by rw [Int.tmod_eq_emod_of_nonneg (by omega)]; exact hm'
  have t8 : (i : Int).tdiv (nc : Int) = (q : Int) := by rw [Int.tdiv_eq_ediv_of_nonneg (by omega)]; exact hq'
  have hk2 : (m : Int) < nc := by omega
  have w1 : IntKind.i64.wrap ((q : Int) * 3) = (q : Int) * 3 := by rw [IntKind.wrap_i64]; omega
  have w2 : IntKind.i64.wrap ((v : Int) + (q : Int) * 3) = (v : Int) + (q : Int) * 3 := by rw [IntKind.wrap_i64]; omega
  have w3 : IntKind.i64.wrap (q : Int) = (q : Int) := by rw [IntKind.wrap_i64]; omega
  have w4 : IntKind.i64.wrap (v : Int) = (v : Int) := by rw [IntKind.wrap_i64]; omega
  have w5 : IntKind.i64.wrap (m : Int) = (m : Int) := by rw [IntKind.wrap_i64]; omega
  have t9 : ((v : Int) + (q : Int) * 3).tmod (n : Int) = (d : Int) := by rw [Int.tmod_eq_emod_of_nonneg (by omega), ed, Int.natCast_emod, Int.natCast_add, Int.natCast_mul]; rfl
  have w6 : IntKind.i64.wrap (d : Int) = d := by rw [IntKind.wrap_i64]; have := Nat.mod_lt (v + q * 3) (show n > 0 by omega); omega
  clear ed HD hm hq hv hm' hq'
  go_enter Tryz.func37, Tryz.ntmps37
  go_wp2
  go_region_held3 (fun w' => w'.cell? ⟨b, off + m, none⟩ = some (.int .u8 v)) (exact e1) (fail)
  go_wp2
  go_ret
  exact ⟨rfl, D⟩
theorem lwBig_is (ac : Option Addr) (nc cc : Nat) (w : World) (d : Bool) (h : decide (1048576 < nc) = d) : Calls Tryz.prog 32 #[.slice ac nc cc] w fun e w' => e = .returned (.bool d) ∧ w' = w := by
 rw [← h]
 go_enter Tryz.func32, Tryz.ntmps32
 go_wp2
 go_ret
 exact ⟨ret_bool (by simp; omega), rfl⟩
theorem clAt_bare {w : World} {o : Bool} {lo hi : Nat} {N : Hd} {ys : List Nod} (x : NAt w o lo hi N ys) : ClAt w o lo hi N (none, 0, 0) (none, 0, 0) ys [] [] := by
 refine ⟨x, LAt.nil _ _ _ _ _ _ _, RowAt.nilR _ _ _ _ _ _ _, fun _ => ⟨fun q _ h => ?_, fun q _ h => h.1 rfl, fun q _ h => h.1 rfl⟩⟩
 rcases h with h | ⟨i, a, e, _⟩
 ·exact h.1 rfl
 ·simp at e
theorem nsum_le5 : ∀ ys : List Nod, (∀ (i : Nat) (a : Nod), ys[i]? = some a → rsum a.2 ≤ 5) → nsum ys ≤ 6 * ys.length
 | [], _ => by simp [nsum]
 | a :: t, h => by
  have h1 := h 0 a (by simp)
  have h2 := nsum_le5 t (fun i b e => h (i + 1) b (by simpa using e))
  simp only [nsum, List.length_cons]
  omega
theorem newL_len (m : Int) : (newL m).length ≤ 5 := by
 unfold newL
 split
 ·simp [newK]; omega
 ·simp
theorem newAns_z {m : Int} {w w' : World} {e : Ending} (h : NewAns m w w' e) {c : Int} (hc : nclC m = c) : ∃ (z u : Nat) (N : Hd) (ys : List Nod), e = .returned (.agg #[.int .i64 c, .slice N.1 N.2.1 N.2.2, .slice none 0 0, .slice none 0 0]) ∧ w.heap.size ≤ z ∧ u ≤ w'.heap.size ∧ ClAt w' true z u N (none, 0, 0) (none, 0, 0) ys [] [] ∧ ys.map (·.1) = newL m ∧ ClSz N (none, 0, 0) (none, 0, 0) ys [] 1048576 ∧ (1 : Int) + 6 * (nsum ys : Int) ≤ 12000000 ∧ Below w.heap.size w w' := by
 obtain ⟨N, ys, e1, x, e2, s, b⟩ := h
 rw [hc] at e1
 have hl : ys.length ≤ 5 := by
  have h := congrArg List.length e2
  rw [List.length_map] at h
  rw [h]; exact newL_len m
 have h1 := nsum_le5 ys s
 have hn : N.2.1 = ys.length := x.len.symm
 exact ⟨_, _, N, ys, e1, Nat.le_refl _, Nat.le_refl _, clAt_bare x, e2, ⟨by omega, Nat.zero_le _, Nat.zero_le _, fun i a e => (rsum_sz a.2).mono (by have := s i a e; omega), fun i a e => by simp at e⟩, by omega, b⟩
theorem specNewCl_z (m : Int) (w : World) (c : Int) (hc : nclC m = c) : Calls Tryz.prog 35 #[.int .i64 m] w fun e w' => ∃ (z u : Nat) (N : Hd) (ys : List Nod), e = .returned (.agg #[.int .i64 c, .slice N.1 N.2.1 N.2.2, .slice none 0 0, .slice none 0 0]) ∧ w.heap.size ≤ z ∧ u ≤ w'.heap.size ∧ ClAt w' true z u N (none, 0, 0) (none, 0, 0) ys [] [] ∧ ys.map (·.1) = newL m ∧ ClSz N (none, 0, 0) (none, 0, 0) ys [] 1048576 ∧ (1 : Int) + 6 * (nsum ys : Int) ≤ 12000000 ∧ Below w.heap.size w w' :=
 (specNewCl_is m w).mono fun _ _ h => newAns_z h hc
theorem implNewCl_z (m : Int) (w : World) (c : Int) (hc : nclC m = c) : Calls Tryz.prog 34 #[.int .i64 m] w fun e w' => ∃ (z u : Nat) (N : Hd) (ys : List Nod), e = .returned (.agg #[.int .i64 c, .slice N.1 N.2.1 N.2.2, .slice none 0 0, .slice none 0 0]) ∧ w.heap.size ≤ z ∧ u ≤ w'.heap.size ∧ ClAt w' true z u N (none, 0, 0) (none, 0, 0) ys [] [] ∧ ys.map (·.1) = newL m ∧ ClSz N (none, 0, 0) (none, 0, 0) ys [] 1048576 ∧ (1 : Int) + 6 * (nsum ys : Int) ≤ 12000000 ∧ Below w.heap.size w w' :=
 (implNewCl_is m w).mono fun _ _ h => newAns_z h hc
theorem lwAt_of {o : Bool} {lo hi : Nat} (ac : Option Addr) (nc cc : Nat) (bs : List Nat) (i n : Nat) (x y : Int) (hx : x = (i : Int)) (hy : y = (n : Int)) (w : World) (hr : RowAt w o lo hi 1 ac nc cc (bys bs)) (hb : ∀ i, bs.getD i 0 < 256) (hi : i ≤ 100000) (hc : nc ≤ 1048576) (hn : n ≤ 200) (d : Nat) (hd : lwN bs i n = d) :
  Calls Tryz.prog 37 #[.slice ac nc cc, .int .i64 x, .int .i64 y] w fun e w' => e = .returned (.int .i64 (d : Int)) ∧ Below w.heap.size w w' := by
 subst hx hy
 exact lwAt_is ac nc cc bs i n w hr hb hi hc hn d hd
theorem drawNewCl_any {o : Bool} {hi : Nat} (ac : Option Addr) (nc cc : Nat) (cs : List Nat) (w : World) (h : RowAt w o 0 hi 1 ac nc cc (bys cs)) (hcs : ∀ i, cs.getD i 0 < 256) (hhi : hi ≤ w.heap.size) (hc : nc ≤ 1048576) : Calls Tryz.prog 33 #[.slice ac nc cc] w fun e w' => ∃ v : Nat, v < 8 ∧ e = .returned (.int .i64 ((v : Int) - 1)) ∧ Below w.heap.size w w' := by
 go_enter Tryz.func33, Tryz.ntmps33
 go_wp2_with fail
 refine (l1Source_any ac nc cc _).mono ?_
 rintro e w1 ⟨rfl, S, B, hsz⟩
 go_wp2_with fail
 refine (l1Next_any ac nc cc cs w.heap.size 0 8 _ S (h.below B) hcs (Or.inl hhi) (by omega) (by omega) (by omega) hc).mono ?_
 rintro e w2 ⟨v, hv, rfl, _, K, _⟩
 have B2 : Below w.heap.size w w2 := B.trans (K.below _ (Nat.le_refl _) B.size)
 have hw : IntKind.i64.wrap ((v : Int) - 1) = (v : Int) - 1 := wrapI_same _ (by omega)
 go_wp2
 go_ret
 exact ⟨v, hv, rfl, B2⟩
end Go.Proofs.YtgldocaohcoleaaGreat
