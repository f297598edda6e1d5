/- Chapter 11: NewCluster of the model. -/
import Derived.Test.YtikplcpgocgogaaCN1
import Derived.Test.YtikplcpgocgogaaWS
import Derived.Test.YtikplcpgocgogaaWR
namespace Go.Proofs.Ytikplcpgocgogaa
open Go.RowKit

set_option maxRecDepth 20000 in
set_option maxHeartbeats 2000000 in
theorem l11Bad_is (c : Int) (w : World) : Calls Try.prog 105 #[.int .i64 c] w fun e w' => e = .returned (.agg #[.int .i64 c, .slice none 0 0, .slice none 0 0, .slice none 0 0]) ∧ Below w.heap.size w w' := by
  go_enter Try.func105, Try.ntmps105
  go_wp2_with (first | ((with_reducible refine store_midX 83 X0 0 [.int .i64 c, .slice none 0 0, .slice none 0 0, .slice none 0 0] (by simp) (by kernel_rfl) (by simp [Value.oneCell']) rfl rfl ?_); intro V1 S; replace X0 : Bx V1 b0 [.int .i64 c, .slice none 0 0, .slice none 0 0, .slice none 0 0] := S.bx; replace c0 := X0.cell; replace f0 := X0.froz; replace B := B.trans (S.kept.below _ (by omega) B.size); clear S) | ((with_reducible refine alloc_newX 83 [.int .i64 0, .slice none 0 0, .slice none 0 0, .slice none 0 0] (fun _ => by kernel_rfl) ?_); intro b0 W0 N0; have ob0 : w.heap.size ≤ b0 := N0.ge; have B := N0.below; have X0 := N0.bx; have c0 := X0.cell; have f0 := X0.froz; clear N0))
  refine bodyPost_ret (v := .agg #[.int .i64 c, .slice none 0 0, .slice none 0 0, .slice none 0 0]) (by simp [results, Try.results105, go_sem, *]) rfl ⟨rfl, B⟩
set_option maxRecDepth 20000 in
set_option maxHeartbeats 2000000 in
theorem specNewCl_is (m : Int) (w : World) : Calls Try.prog 35 #[.int .i64 m] w fun e w' => NewAns m w w' e := by
  go_enter Try.func35, Try.ntmps35
  go_wp2_with (first | ((with_reducible refine alloc_newX 83 [.int .i64 0, .slice none 0 0, .slice none 0 0, .slice none 0 0] (fun _ => by kernel_rfl) ?_); intro b0 W0 N0; have ob0 : w.heap.size ≤ b0 := N0.ge; have B := N0.below; have X0 := N0.bx; have c0 := X0.cell; have f0 := X0.froz; clear N0) | fail)
  by_cases q0 : 1 ≤ m ∧ m ≤ 5
  rotate_left 1
  · refine (l1In_is' m 1 5 _ false (by simp only [decide_eq_false_eq]; exact q0)).mono ?_
    rintro e W9 ⟨rfl, rfl⟩
    go_wp2_with fail
    refine (l11Bad_is 3 _).mono ?_
    rintro e w1 ⟨rfl, BB⟩
    replace X0 := X0.below BB
    replace c0 := X0.cell
    replace f0 := X0.froz
    replace B := below_next B BB
    clear BB
    go_wp2_with (first | ((with_reducible refine store_midX 83 X0 0 [.int .i64 3, .slice none 0 0, .slice none 0 0, .slice none 0 0] (by simp) (by kernel_rfl) (by simp [Value.oneCell']) rfl rfl ?_); intro V1 S; replace X0 : Bx V1 b0 [.int .i64 3, .slice none 0 0, .slice none 0 0, .slice none 0 0] := S.bx; replace c0 := X0.cell; replace f0 := X0.froz; replace B := B.trans (S.kept.below _ (by omega) B.size); clear S))
    refine bodyPost_ret (v := .agg #[.int .i64 3, .slice none 0 0, .slice none 0 0, .slice none 0 0]) (by simp [results, Try.results35, go_sem, *]) rfl ⟨(none, 0, 0), [], by unfold nclC; rw [if_neg q0], LAt.nil _ _ _ _ _ _ _, by unfold newL; rw [if_neg q0]; rfl, fun i a e => by simp at e, B⟩
  refine (l1In_is' m 1 5 _ true (by simp only [decide_eq_true_eq]; exact q0)).mono ?_
  rintro e W9 ⟨rfl, rfl⟩
  obtain ⟨mm, hmm⟩ : ∃ mm : Nat, m = (mm : Int) := ⟨m.toNat, by omega⟩
  subst hmm
  have hm5 : mm ≤ 5 := by omega
  go_upto_region 4 with (first | ((with_reducible refine store_midX 83 X1 0 [.int .i64 0, .slice none 0 0, .slice none 0 0, .slice none 0 0] (by simp) (by kernel_rfl) (by simp [Value.oneCell']) rfl rfl ?_); intro V1 S; replace X0 := X0.kept S.kept (by omega); replace c0 := X0.cell; replace f0 := X0.froz; replace X1 : Bx V1 b1 [.int .i64 0, .slice none 0 0, .slice none 0 0, .slice none 0 0] := S.bx; replace c1 := X1.cell; replace f1 := X1.froz; replace B := B.trans (S.kept.below _ (by omega) B.size); clear S) | ((have g := ob0); clear g; (with_reducible refine alloc_newX 83 [.int .i64 0, .slice none 0 0, .slice none 0 0, .slice none 0 0] (fun _ => by kernel_rfl) ?_); intro b1 W1 N1; have ob1 : w.heap.size ≤ b1 := Nat.le_trans B.size N1.ge; have o0_b1 : b0 < b1 := Nat.lt_of_lt_of_le X0.lt N1.ge; replace X0 := X0.below N1.below; replace c0 := X0.cell; replace f0 := X0.froz; replace B := below_next B N1.below; have X1 := N1.bx; have c1 := X1.cell; have f1 := X1.froz; clear N1) | fail)
  obtain ⟨zz, hzz⟩ : ∃ zz, zz = V1.heap.size := ⟨_, rfl⟩
  have lz0 : b0 < zz := by rw [hzz]; exact X0.lt
  have lz1 : b1 < zz := by rw [hzz]; exact X1.lt
  have lw : w.heap.size ≤ zz := by rw [hzz]; exact B.size
  have hzl : zz ≤ V1.heap.size := Nat.le_of_eq hzz
  have HX0 : Hid _ := X0
  have HX1 : Hid _ := X1
  have HB : Hid _ := B
  clear hzz X0 B c0 f0 X1 c1 f1
  go_wp2
  go_loopw [4] (fun iv wr => ∃ (k : Nat) (v : Value), k ≤ mm ∧ iv = .int .i64 k ∧ Bx wr b0 [.int .i64 0, .slice none 0 0, .slice none 0 0, .slice none 0 0] ∧ Bx wr b1 [.int .i64 0, v, .slice none 0 0, .slice none 0 0] ∧ NewSt (mm : Int) wr zz 29 v k ∧ zz ≤ wr.heap.size ∧ Below w.heap.size w wr) (fun iv _ => mm - (intOf iv).toNat)
  case atStart => exact ⟨0, _, Nat.zero_le _, rfl, HX0.out, HX1.out, ⟨[], GrowL.nil _ _ _ _, rfl, fun i a e => by simp at e⟩, hzl, HB.out⟩
  case round =>
    obtain ⟨k, v, hk, rfl, X0, X1, G, LZ, B⟩ := hrel
    clear HX0 HX1 HB hzl
    have c0 := X0.cell
    have f0 := X0.froz
    have c1 := X1.cell
    have f1 := X1.froz
    by_cases hlt : k < mm
    · have hlk : (k : Int) < (mm : Int) := by omega
      have HG : Hid (NewSt (mm : Int) wr zz 29 v k) := G
      clear G
      obtain ⟨q, hq⟩ : ∃ q, newRep (k : Int) (mm : Int) = q := ⟨_, rfl⟩
      have HQ : Hid _ := hq
      clear hq
      obtain ⟨c, hc⟩ : ∃ c, newC (k : Int) (mm : Int) = c := ⟨_, rfl⟩
      have HC : Hid _ := hc
      clear hc
      go_wp2_with fail
      have DQ : Below wr.heap.size wr wr.drew := (Below.refl _ _).drew
      replace X0 := X0.below DQ
      replace c0 := X0.cell
      replace f0 := X0.froz
      replace X1 := X1.below DQ
      replace c1 := X1.cell
      replace f1 := X1.froz
      replace LZ := Nat.le_trans LZ DQ.size
      replace B := below_next B DQ
      clear DQ
      replace HG : Hid (NewSt (mm : Int) wr.drew zz 29 v k) := NewSt.below HG.out (Below.refl _ _).drew
      have LZD := LZ
      refine wp_region_held_drew (S := (fun _ => True)) (by kernel_rfl) trivial (fun hHeld => ?_)
      refine wpAnyH_take (i := 0) (v := ?_) rfl (by kernel_rfl) (by kernel_rfl) (by kernel_rfl) (fun _ _ _ h => h) (Or.inl ⟨by rfl, ?_⟩) hHeld ?_
      rotate_left 1
      · intro w hSw
        try dsimp only at hSw
        first | (go_simp; done) | (go_simp; with_reducible rfl)
      simp only [Act.put, List.setIfInBounds_toArray, List.set_cons_zero, List.set_cons_succ, List.getElem_toArray, List.getElem_cons_zero]
      refine wpAnyH_take (i := 1) (v := ?_) rfl (by kernel_rfl) (by kernel_rfl) (by kernel_rfl) (fun _ _ _ h => h) (Or.inl ⟨by rfl, ?_⟩) hHeld ?_
      rotate_left 1
      · intro w hSw
        try dsimp only at hSw
        first | (go_simp; done) | (go_simp; with_reducible rfl)
      simp only [Act.put, List.setIfInBounds_toArray, List.set_cons_zero, List.set_cons_succ, List.getElem_toArray, List.getElem_cons_zero, List.getElem_cons_succ]
      refine wpAnyH_take (i := 3) (v := ?_) rfl (by kernel_rfl) (by kernel_rfl) (by kernel_rfl) (fun _ _ _ h => h) (Or.inl ⟨by rfl, ?_⟩) hHeld ?_
      rotate_left 1
      · intro w hSw
        try dsimp only at hSw
        first | (go_simp; done) | (go_simp; with_reducible rfl)
      simp only [Act.put, List.setIfInBounds_toArray, List.set_cons_zero, List.set_cons_succ, List.getElem_toArray, List.getElem_cons_zero, List.getElem_cons_succ]
      refine wpAnyH_take (i := 4) (v := ?_) rfl (by kernel_rfl) (by kernel_rfl) (by kernel_rfl) (fun _ _ _ h => h) (Or.inl ⟨by rfl, ?_⟩) hHeld ?_
      rotate_left 1
      · intro w hSw
        try dsimp only at hSw
        first | (go_simp; done) | (go_simp; with_reducible rfl)
      simp only [Act.put, List.setIfInBounds_toArray, List.set_cons_zero, List.set_cons_succ, List.getElem_toArray, List.getElem_cons_zero, List.getElem_cons_succ]
      refine wpAnyH_ready (rs := [2, 5]) (by kernel_rfl) (by simp) ?_
      refine (AllReadyH.cons rfl (fun KK hKK => ?_) (AllReadyH.cons rfl (fun KK hKK => ?_) AllReadyH.nil))
      · rw [if_pos (by simp [Region.wanted])]
        unfold Oper.wp execOp
        go_simp
        clear hHeld
        refine hKK _ _ trivial (fun hHeld => ?_)
        clear hKK KK
        refine wpAnyH_ready (rs := [5]) (by kernel_rfl) (by simp) ?_
        refine (AllReadyH.cons rfl (fun KK hKK => ?_) AllReadyH.nil)
        go_simp
        go_at_call 43
        refine (specNewR_is (k : Int) (mm : Int) _ c q HC.out HQ.out).mono ?_
        rintro e v1 ⟨oa, on, oc, rfl, hon, R1, BB⟩
        have HR1 : Hid _ := R1
        have HB1 : Hid (Below wr.drew.heap.size wr.drew v1) := BB
        replace X0 := X0.below BB
        replace c0 := X0.cell
        replace f0 := X0.froz
        replace X1 := X1.below BB
        replace c1 := X1.cell
        replace f1 := X1.froz
        replace LZ := Nat.le_trans LZ BB.size
        replace B := below_next B BB
        clear BB R1
        have hfi : ∀ W, (Instr.field 38 (.agg #[.int .i64 c, .int .i64 q.id, .int .i64 q.size, .int .i64 q.view, .bool q.normal, .int .i64 q.last, .slice none 0 0, .int .i64 q.commit, .slice oa on oc, .slice none 0 0, .slice none 0 0, .slice none 0 0]) 1).run Try.prog W = .ok (.agg #[.int .i64 q.id, .int .i64 q.size, .int .i64 q.view, .bool q.normal, .int .i64 q.last, .slice none 0 0, .int .i64 q.commit, .slice oa on oc, .slice none 0 0, .slice none 0 0]) W := fun W => by kernel_rfl
        clear hHeld
        refine hKK _ _ trivial (fun hHeld => ?_)
        clear hKK KK
        refine wpAnyH_take (i := 6) (v := ?_) rfl (by kernel_rfl) (by kernel_rfl) (by kernel_rfl) (fun _ _ _ h => h) (Or.inl ⟨by rfl, ?_⟩) hHeld ?_
        rotate_left 1
        · intro w hSw
          try dsimp only at hSw
          first | (go_simp; done) | (go_simp; with_reducible rfl)
        simp only [Act.put, List.setIfInBounds_toArray, List.set_cons_zero, List.set_cons_succ, List.getElem_toArray, List.getElem_cons_zero, List.getElem_cons_succ]
        refine wpAnyH_ready (rs := [7]) (by kernel_rfl) (by simp) ?_
        refine (AllReadyH.cons rfl (fun KK hKK => ?_) AllReadyH.nil)
        refine step_litX 76 1 _ [.int .i64 q.id, .int .i64 q.size, .int .i64 q.view, .bool q.normal, .int .i64 q.last, .slice none 0 0, .int .i64 q.commit, .slice oa on oc, .slice none 0 0, .slice none 0 0] 29 (fun _ => by kernel_rfl) ?_
        intro bl Wl Nl
        have bB := Nl.below
        have Xl := Nl.bx
        clear Nl
        obtain ⟨v', w6, hr, G2, BL⟩ := new_snoc HG.out (below_next HB1.out bB) Xl ((HR1.out.below bB).widen (Nat.le_refl _) bB.size) (Nat.le_refl _) LZD HQ.out hon (by omega)
        replace X0 := X0.below bB
        replace c0 := X0.cell
        replace f0 := X0.froz
        replace X1 := X1.below bB
        replace c1 := X1.cell
        replace f1 := X1.froz
        replace LZ := Nat.le_trans LZ bB.size
        replace B := below_next B bB
        have HG2 : Hid (NewSt (mm : Int) w6 zz 29 v' (k + 1)) := G2
        clear bB G2 Xl HR1 HB1
        clear hHeld
        refine hKK _ _ trivial (fun hHeld => ?_)
        clear hKK KK
        refine wpAnyH_ready (rs := [8]) (by kernel_rfl) (by simp) ?_
        refine (AllReadyH.cons rfl (fun KK hKK => ?_) AllReadyH.nil)
        refine step_append_run rfl _ _ _ _ rfl _ _ rfl rfl _ _ (hr _) ?_
        clear hr
        replace X0 := X0.low BL lz0
        replace c0 := X0.cell
        replace f0 := X0.froz
        replace X1 := X1.low BL lz1
        replace c1 := X1.cell
        replace f1 := X1.froz
        replace LZ := Nat.le_trans LZ BL.size
        replace B := B.trans (BL.mono lw)
        clear BL
        clear hHeld
        refine hKK _ _ trivial (fun hHeld => ?_)
        clear hKK KK
        refine wpAnyH_take (i := 9) (v := ?_) rfl (by kernel_rfl) (by kernel_rfl) (by kernel_rfl) (fun _ _ _ h => h) (Or.inl ⟨by rfl, ?_⟩) hHeld ?_
        rotate_left 1
        · intro w hSw
          try dsimp only at hSw
          first | (go_simp; done) | (go_simp; with_reducible rfl)
        simp only [Act.put, List.setIfInBounds_toArray, List.set_cons_zero, List.set_cons_succ, List.getElem_toArray, List.getElem_cons_zero, List.getElem_cons_succ]
        refine wpAnyH_take (i := 10) (v := ?_) rfl (by kernel_rfl) (by kernel_rfl) (by kernel_rfl) (fun _ _ _ h => h) (Or.inl ⟨by rfl, ?_⟩) hHeld ?_
        rotate_left 1
        · intro w hSw
          try dsimp only at hSw
          first | (go_simp; done) | (go_simp; with_reducible rfl)
        simp only [Act.put, List.setIfInBounds_toArray, List.set_cons_zero, List.set_cons_succ, List.getElem_toArray, List.getElem_cons_zero, List.getElem_cons_succ]
        refine wpAnyH_ready (rs := [11]) (by kernel_rfl) (by simp) ?_
        refine (AllReadyH.cons rfl (fun KK hKK => ?_) AllReadyH.nil)
        obtain ⟨sa, sc, hv'⟩ : ∃ sa sc, v' = .slice sa (k + 1) sc := by
          obtain ⟨ys, G, _, _⟩ := HG2.out
          obtain ⟨ao, cap, e, _⟩ := G.els
          exact ⟨ao, cap, e⟩
        subst hv'
        refine step_oneX 76 X1 1 (.slice sa (k + 1) sc) (by simp) (by kernel_rfl) rfl rfl rfl ?_
        intro V7 S
        have HG3 : Hid (NewSt (mm : Int) V7 zz 29 (.slice sa (k + 1) sc) (k + 1)) := NewSt.kept HG2.out S.kept (by omega)
        replace X0 := X0.kept S.kept (by omega)
        replace c0 := X0.cell
        replace f0 := X0.froz
        replace X1 : Bx V7 b1 [.int .i64 0, .slice sa (k + 1) sc, .slice none 0 0, .slice none 0 0] := S.bx
        replace c1 := X1.cell
        replace f1 := X1.froz
        replace LZ := Nat.le_trans LZ S.kept.size
        replace B := B.trans (S.kept.below _ (by omega) B.size)
        clear S
        clear hHeld
        refine hKK _ _ trivial (fun hHeld => ?_)
        clear hKK KK
        refine wpAnyH_done (by kernel_rfl) ?_ _
        have H0 : Hid _ := X0
        have H1 : Hid _ := X1
        have HLZ : Hid _ := LZ
        have HB2 : Hid _ := B
        clear X0 X1 c0 f0 c1 f1 LZ B HG HG2 HQ HC
        go_wp2
        go_roundw
        case rel => exact ⟨k + 1, _, by omega, by go_num, H0.out, H1.out, HG3.out, HLZ.out, HB2.out⟩
        case measure => simp [intOf]; omega
      · go_simp
        go_at_call 43
        refine (specNewR_is (k : Int) (mm : Int) _ c q HC.out HQ.out).mono ?_
        rintro e v1 ⟨oa, on, oc, rfl, hon, R1, BB⟩
        have HR1 : Hid _ := R1
        have HB1 : Hid (Below wr.drew.heap.size wr.drew v1) := BB
        replace X0 := X0.below BB
        replace c0 := X0.cell
        replace f0 := X0.froz
        replace X1 := X1.below BB
        replace c1 := X1.cell
        replace f1 := X1.froz
        replace LZ := Nat.le_trans LZ BB.size
        replace B := below_next B BB
        clear BB R1
        have hfi : ∀ W, (Instr.field 38 (.agg #[.int .i64 c, .int .i64 q.id, .int .i64 q.size, .int .i64 q.view, .bool q.normal, .int .i64 q.last, .slice none 0 0, .int .i64 q.commit, .slice oa on oc, .slice none 0 0, .slice none 0 0, .slice none 0 0]) 1).run Try.prog W = .ok (.agg #[.int .i64 q.id, .int .i64 q.size, .int .i64 q.view, .bool q.normal, .int .i64 q.last, .slice none 0 0, .int .i64 q.commit, .slice oa on oc, .slice none 0 0, .slice none 0 0]) W := fun W => by kernel_rfl
        clear hHeld
        refine hKK _ _ trivial (fun hHeld => ?_)
        clear hKK KK
        refine wpAnyH_take (i := 6) (v := ?_) rfl (by kernel_rfl) (by kernel_rfl) (by kernel_rfl) (fun _ _ _ h => h) (Or.inl ⟨by rfl, ?_⟩) hHeld ?_
        rotate_left 1
        · intro w hSw
          try dsimp only at hSw
          first | (go_simp; done) | (go_simp; with_reducible rfl)
        simp only [Act.put, List.setIfInBounds_toArray, List.set_cons_zero, List.set_cons_succ, List.getElem_toArray, List.getElem_cons_zero, List.getElem_cons_succ]
        refine wpAnyH_ready (rs := [2, 7]) (by kernel_rfl) (by simp) ?_
        refine (AllReadyH.cons rfl (fun KK hKK => ?_) (AllReadyH.cons rfl (fun KK hKK => ?_) AllReadyH.nil))
        · rw [if_pos (by simp [Region.wanted])]
          unfold Oper.wp execOp
          go_simp
          clear hHeld
          refine hKK _ _ trivial (fun hHeld => ?_)
          clear hKK KK
          refine wpAnyH_ready (rs := [7]) (by kernel_rfl) (by simp) ?_
          refine (AllReadyH.cons rfl (fun KK hKK => ?_) AllReadyH.nil)
          refine step_litX 76 1 _ [.int .i64 q.id, .int .i64 q.size, .int .i64 q.view, .bool q.normal, .int .i64 q.last, .slice none 0 0, .int .i64 q.commit, .slice oa on oc, .slice none 0 0, .slice none 0 0] 29 (fun _ => by kernel_rfl) ?_
          intro bl Wl Nl
          have bB := Nl.below
          have Xl := Nl.bx
          clear Nl
          obtain ⟨v', w6, hr, G2, BL⟩ := new_snoc HG.out (below_next HB1.out bB) Xl ((HR1.out.below bB).widen (Nat.le_refl _) bB.size) (Nat.le_refl _) LZD HQ.out hon (by omega)
          replace X0 := X0.below bB
          replace c0 := X0.cell
          replace f0 := X0.froz
          replace X1 := X1.below bB
          replace c1 := X1.cell
          replace f1 := X1.froz
          replace LZ := Nat.le_trans LZ bB.size
          replace B := below_next B bB
          have HG2 : Hid (NewSt (mm : Int) w6 zz 29 v' (k + 1)) := G2
          clear bB G2 Xl HR1 HB1
          clear hHeld
          refine hKK _ _ trivial (fun hHeld => ?_)
          clear hKK KK
          refine wpAnyH_ready (rs := [8]) (by kernel_rfl) (by simp) ?_
          refine (AllReadyH.cons rfl (fun KK hKK => ?_) AllReadyH.nil)
          refine step_append_run rfl _ _ _ _ rfl _ _ rfl rfl _ _ (hr _) ?_
          clear hr
          replace X0 := X0.low BL lz0
          replace c0 := X0.cell
          replace f0 := X0.froz
          replace X1 := X1.low BL lz1
          replace c1 := X1.cell
          replace f1 := X1.froz
          replace LZ := Nat.le_trans LZ BL.size
          replace B := B.trans (BL.mono lw)
          clear BL
          clear hHeld
          refine hKK _ _ trivial (fun hHeld => ?_)
          clear hKK KK
          refine wpAnyH_take (i := 9) (v := ?_) rfl (by kernel_rfl) (by kernel_rfl) (by kernel_rfl) (fun _ _ _ h => h) (Or.inl ⟨by rfl, ?_⟩) hHeld ?_
          rotate_left 1
          · intro w hSw
            try dsimp only at hSw
            first | (go_simp; done) | (go_simp; with_reducible rfl)
          simp only [Act.put, List.setIfInBounds_toArray, List.set_cons_zero, List.set_cons_succ, List.getElem_toArray, List.getElem_cons_zero, List.getElem_cons_succ]
          refine wpAnyH_take (i := 10) (v := ?_) rfl (by kernel_rfl) (by kernel_rfl) (by kernel_rfl) (fun _ _ _ h => h) (Or.inl ⟨by rfl, ?_⟩) hHeld ?_
          rotate_left 1
          · intro w hSw
            try dsimp only at hSw
            first | (go_simp; done) | (go_simp; with_reducible rfl)
          simp only [Act.put, List.setIfInBounds_toArray, List.set_cons_zero, List.set_cons_succ, List.getElem_toArray, List.getElem_cons_zero, List.getElem_cons_succ]
          refine wpAnyH_ready (rs := [11]) (by kernel_rfl) (by simp) ?_
          refine (AllReadyH.cons rfl (fun KK hKK => ?_) AllReadyH.nil)
          obtain ⟨sa, sc, hv'⟩ : ∃ sa sc, v' = .slice sa (k + 1) sc := by
            obtain ⟨ys, G, _, _⟩ := HG2.out
            obtain ⟨ao, cap, e, _⟩ := G.els
            exact ⟨ao, cap, e⟩
          subst hv'
          refine step_oneX 76 X1 1 (.slice sa (k + 1) sc) (by simp) (by kernel_rfl) rfl rfl rfl ?_
          intro V7 S
          have HG3 : Hid (NewSt (mm : Int) V7 zz 29 (.slice sa (k + 1) sc) (k + 1)) := NewSt.kept HG2.out S.kept (by omega)
          replace X0 := X0.kept S.kept (by omega)
          replace c0 := X0.cell
          replace f0 := X0.froz
          replace X1 : Bx V7 b1 [.int .i64 0, .slice sa (k + 1) sc, .slice none 0 0, .slice none 0 0] := S.bx
          replace c1 := X1.cell
          replace f1 := X1.froz
          replace LZ := Nat.le_trans LZ S.kept.size
          replace B := B.trans (S.kept.below _ (by omega) B.size)
          clear S
          clear hHeld
          refine hKK _ _ trivial (fun hHeld => ?_)
          clear hKK KK
          refine wpAnyH_done (by kernel_rfl) ?_ _
          have H0 : Hid _ := X0
          have H1 : Hid _ := X1
          have HLZ : Hid _ := LZ
          have HB2 : Hid _ := B
          clear X0 X1 c0 f0 c1 f1 LZ B HG HG2 HQ HC
          go_wp2
          go_roundw
          case rel => exact ⟨k + 1, _, by omega, by go_num, H0.out, H1.out, HG3.out, HLZ.out, HB2.out⟩
          case measure => simp [intOf]; omega
        · refine step_litX 76 1 _ [.int .i64 q.id, .int .i64 q.size, .int .i64 q.view, .bool q.normal, .int .i64 q.last, .slice none 0 0, .int .i64 q.commit, .slice oa on oc, .slice none 0 0, .slice none 0 0] 29 (fun _ => by kernel_rfl) ?_
          intro bl Wl Nl
          have bB := Nl.below
          have Xl := Nl.bx
          clear Nl
          obtain ⟨v', w6, hr, G2, BL⟩ := new_snoc HG.out (below_next HB1.out bB) Xl ((HR1.out.below bB).widen (Nat.le_refl _) bB.size) (Nat.le_refl _) LZD HQ.out hon (by omega)
          replace X0 := X0.below bB
          replace c0 := X0.cell
          replace f0 := X0.froz
          replace X1 := X1.below bB
          replace c1 := X1.cell
          replace f1 := X1.froz
          replace LZ := Nat.le_trans LZ bB.size
          replace B := below_next B bB
          have HG2 : Hid (NewSt (mm : Int) w6 zz 29 v' (k + 1)) := G2
          clear bB G2 Xl HR1 HB1
          clear hHeld
          refine hKK _ _ trivial (fun hHeld => ?_)
          clear hKK KK
          refine wpAnyH_ready (rs := [2]) (by kernel_rfl) (by simp) ?_
          refine (AllReadyH.cons rfl (fun KK hKK => ?_) AllReadyH.nil)
          rw [if_pos (by simp [Region.wanted])]
          unfold Oper.wp execOp
          go_simp
          clear hHeld
          refine hKK _ _ trivial (fun hHeld => ?_)
          clear hKK KK
          refine wpAnyH_ready (rs := [8]) (by kernel_rfl) (by simp) ?_
          refine (AllReadyH.cons rfl (fun KK hKK => ?_) AllReadyH.nil)
          refine step_append_run rfl _ _ _ _ rfl _ _ rfl rfl _ _ (hr _) ?_
          clear hr
          replace X0 := X0.low BL lz0
          replace c0 := X0.cell
          replace f0 := X0.froz
          replace X1 := X1.low BL lz1
          replace c1 := X1.cell
          replace f1 := X1.froz
          replace LZ := Nat.le_trans LZ BL.size
          replace B := B.trans (BL.mono lw)
          clear BL
          clear hHeld
          refine hKK _ _ trivial (fun hHeld => ?_)
          clear hKK KK
          refine wpAnyH_take (i := 9) (v := ?_) rfl (by kernel_rfl) (by kernel_rfl) (by kernel_rfl) (fun _ _ _ h => h) (Or.inl ⟨by rfl, ?_⟩) hHeld ?_
          rotate_left 1
          · intro w hSw
            try dsimp only at hSw
            first | (go_simp; done) | (go_simp; with_reducible rfl)
          simp only [Act.put, List.setIfInBounds_toArray, List.set_cons_zero, List.set_cons_succ, List.getElem_toArray, List.getElem_cons_zero, List.getElem_cons_succ]
          refine wpAnyH_take (i := 10) (v := ?_) rfl (by kernel_rfl) (by kernel_rfl) (by kernel_rfl) (fun _ _ _ h => h) (Or.inl ⟨by rfl, ?_⟩) hHeld ?_
          rotate_left 1
          · intro w hSw
            try dsimp only at hSw
            first | (go_simp; done) | (go_simp; with_reducible rfl)
          simp only [Act.put, List.setIfInBounds_toArray, List.set_cons_zero, List.set_cons_succ, List.getElem_toArray, List.getElem_cons_zero, List.getElem_cons_succ]
          refine wpAnyH_ready (rs := [11]) (by kernel_rfl) (by simp) ?_
          refine (AllReadyH.cons rfl (fun KK hKK => ?_) AllReadyH.nil)
          obtain ⟨sa, sc, hv'⟩ : ∃ sa sc, v' = .slice sa (k + 1) sc := by
            obtain ⟨ys, G, _, _⟩ := HG2.out
            obtain ⟨ao, cap, e, _⟩ := G.els
            exact ⟨ao, cap, e⟩
          subst hv'
          refine step_oneX 76 X1 1 (.slice sa (k + 1) sc) (by simp) (by kernel_rfl) rfl rfl rfl ?_
          intro V7 S
          have HG3 : Hid (NewSt (mm : Int) V7 zz 29 (.slice sa (k + 1) sc) (k + 1)) := NewSt.kept HG2.out S.kept (by omega)
          replace X0 := X0.kept S.kept (by omega)
          replace c0 := X0.cell
          replace f0 := X0.froz
          replace X1 : Bx V7 b1 [.int .i64 0, .slice sa (k + 1) sc, .slice none 0 0, .slice none 0 0] := S.bx
          replace c1 := X1.cell
          replace f1 := X1.froz
          replace LZ := Nat.le_trans LZ S.kept.size
          replace B := B.trans (S.kept.below _ (by omega) B.size)
          clear S
          clear hHeld
          refine hKK _ _ trivial (fun hHeld => ?_)
          clear hKK KK
          refine wpAnyH_done (by kernel_rfl) ?_ _
          have H0 : Hid _ := X0
          have H1 : Hid _ := X1
          have HLZ : Hid _ := LZ
          have HB2 : Hid _ := B
          clear X0 X1 c0 f0 c1 f1 LZ B HG HG2 HQ HC
          go_wp2
          go_roundw
          case rel => exact ⟨k + 1, _, by omega, by go_num, H0.out, H1.out, HG3.out, HLZ.out, HB2.out⟩
          case measure => simp [intOf]; omega
    · obtain rfl : k = mm := by omega
      obtain ⟨ys, G, hys, hsz⟩ := G
      obtain ⟨ao, cap, rfl, L⟩ := G.els
      have HL : Hid (LAt nodeK wr true zz wr.heap.size ao k cap ys) := L
      have HY : Hid _ := hys
      have HZ : Hid _ := hsz
      clear L G hys hsz LZ
      go_wp2_with (first | ((with_reducible refine store_midX 83 X0 0 [.int .i64 0, .slice ao k cap, .slice none 0 0, .slice none 0 0] (by simp) (by kernel_rfl) (by simp [Value.oneCell']) rfl rfl ?_); intro V10 S; replace X0 : Bx V10 b0 [.int .i64 0, .slice ao k cap, .slice none 0 0, .slice none 0 0] := S.bx; replace c0 := X0.cell; replace f0 := X0.froz; replace X1 := X1.kept S.kept (by omega); replace c1 := X1.cell; replace f1 := X1.froz; replace B := B.trans (S.kept.below _ (by omega) B.size); have hk2 := S.kept; clear S))
      have L2 := (HL.out.kept nodeOk hk2 (Or.inr lz0)).widen nodeOk lw hk2.size
      refine bodyPost_ret (v := .agg #[.int .i64 0, .slice ao k cap, .slice none 0 0, .slice none 0 0]) (by simp [results, Try.results35, go_sem, *]) rfl ⟨(ao, k, cap), ys, by unfold nclC; rw [if_pos q0], L2, by unfold newL; rw [if_pos q0]; exact HY.out, HZ.out, B⟩

end Go.Proofs.Ytikplcpgocgogaa
