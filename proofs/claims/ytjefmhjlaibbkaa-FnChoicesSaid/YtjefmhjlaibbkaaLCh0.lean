/- Who begins a view takes the log of one of those who told of themselves, and of the greatest view among these: the law FnChoices is true at every argument, with no condition. -/
import Derived.Test.YtjefmhjlaibbkaaRows
import Derived.Test.YtjefmhjlaibbkaaQAO
import Derived.Test.YtjefmhjlaibbkaaQAT
import Derived.Test.YtjefmhjlaibbkaaQAF
import Derived.Deep.DeepCutAuto
set_option maxRecDepth 20000
set_option maxHeartbeats 16000000
namespace Go.Proofs.Ytjefmhjlaibbkaa
open Go.RowKit
theorem lawChoices {o : Bool} {hi : Nat} (ac : Option Addr) (nc cc : Nat) (cs : List Nat) (w0 : World) (hrow : RowAt w0 o 0 hi 1 ac nc cc (bys cs)) (hcs : ∀ i, cs.getD i 0 < 256) (hhi : hi ≤ w0.heap.size) : Calls Try.prog 3 #[.slice ac nc cc] w0 fun e w' => e = .returned (.bool true) ∧ Below w0.heap.size w0 w' := by
 by_cases hbig : 1048576 < nc
 ·go_enter Try.func3, Try.ntmps3
  go_wp2_with fail
  refine (lwBig_is ac nc cc _ true (by simp; exact hbig)).mono ?_
  rintro e w1 ⟨rfl, rfl⟩
  go_wp2
  go_ret
  exact ⟨rfl, Below.refl _ _⟩
 have hc : nc ≤ 1048576 := by omega
 go_enter Try.func3, Try.ntmps3
 go_wp2_with fail
 refine (lwBig_is ac nc cc _ false (by simp; omega)).mono ?_
 rintro e w0 ⟨rfl, rfl⟩
 go_wp2_with fail
 refine (drawCho_any ac nc cc cs _ hrow hcs hhi hc).mono ?_
 rintro e w1 ⟨r, hh, rfl, Y, SZ, B⟩
 obtain ⟨zY, hzY⟩ : ∃ zY, zY = w0.heap.size := ⟨_, rfl⟩
 obtain ⟨uY, huY⟩ : ∃ uY, uY = w1.heap.size := ⟨_, rfl⟩
 have lwY : w0.heap.size ≤ zY := Nat.le_of_eq hzY.symm
 rw [← hzY, ← huY] at Y
 have hY : uY ≤ w1.heap.size := Nat.le_of_eq huY
 clear hzY huY
 obtain ⟨c, hcc⟩ : ∃ c, chC r = c := ⟨_, rfl⟩
 obtain ⟨v, hvv⟩ : ∃ v, chV r = v := ⟨_, rfl⟩
 obtain ⟨rc, hrc⟩ : ∃ rc, repF r = rc := ⟨_, rfl⟩
 obtain ⟨dv, hdv⟩ : ∃ dv, cdsV r = dv := ⟨_, rfl⟩
 obtain ⟨tc, htc⟩ : ∃ tc, teC r = tc := ⟨_, rfl⟩
 obtain ⟨tm, htm⟩ : ∃ tm, teM r = tm := ⟨_, rfl⟩
 have HC : Hid _ := hcc
 have HV : Hid _ := hvv
 have HR : Hid _ := hrc
 have HD : Hid _ := hdv
 have HTC : Hid _ := htc
 have HTM : Hid _ := htm
 have HSZ : Hid (RSz hh 1048576) := SZ.mono (by omega)
 clear hcc hvv hrc hdv htc htm SZ
 go_wp2_with (first | ((with_reducible refine store_midX 29 X0 0 [.int .i64 r.id, .int .i64 r.size, .int .i64 r.view, .bool r.normal, .int .i64 r.last, .slice hh.L.1 hh.L.2.1 hh.L.2.2, .int .i64 r.commit, .slice hh.O.1 hh.O.2.1 hh.O.2.2, .slice hh.A.1 hh.A.2.1 hh.A.2.2, .slice hh.D.1 hh.D.2.1 hh.D.2.2] (by simp) (by kernel_rfl) (by simp [Value.oneCell']) rfl rfl ?_); intro V1 S; replace X0 : Bx V1 b0 [.int .i64 r.id, .int .i64 r.size, .int .i64 r.view, .bool r.normal, .int .i64 r.last, .slice hh.L.1 hh.L.2.1 hh.L.2.2, .int .i64 r.commit, .slice hh.O.1 hh.O.2.1 hh.O.2.2, .slice hh.A.1 hh.A.2.1 hh.A.2.2, .slice hh.D.1 hh.D.2.1 hh.D.2.2] := S.bx; replace c0 := X0.cell; replace f0 := X0.froz; replace Y := Y.kept S.kept (by omega); replace hY := Nat.le_trans hY S.kept.size; replace B := B.trans (S.kept.below _ (by omega) B.size); clear S) | ((with_reducible refine alloc_newX 29 [.int .i64 0, .int .i64 0, .int .i64 0, .bool false, .int .i64 0, .slice none 0 0, .int .i64 0, .slice none 0 0, .slice none 0 0, .slice none 0 0] (fun _ => by kernel_rfl) ?_); intro b0 W0 N0; have ob0 := Nat.le_trans B.size N0.ge; have oY_b0 : uY ≤ b0 := Nat.le_trans hY N0.ge; replace Y := Y.below N0.below; replace hY := Nat.le_trans hY N0.below.size; replace B := below_next B N0.below; have X0 := N0.bx; have c0 := X0.cell; have f0 := X0.froz; clear N0) | fail)
 refine (implCh_is r hh _ Y HSZ.out c v HC.out HV.out).mono ?_
 rintro e w2 ⟨rfl, BB⟩
 replace X0 := X0.below BB
 replace c0 := X0.cell
 replace f0 := X0.froz
 replace Y := Y.below BB
 replace hY := Nat.le_trans hY BB.size
 replace B := below_next B BB
 clear BB
 go_wp2_with (first | ((with_reducible refine store_midX 32 X1 0 [.int .i64 c, .int .i64 v] (by simp) (by kernel_rfl) (by simp [Value.oneCell']) rfl rfl ?_); intro V2 S; replace X0 := X0.kept S.kept (by omega); replace c0 := X0.cell; replace f0 := X0.froz; replace X1 : Bx V2 b1 [.int .i64 c, .int .i64 v] := S.bx; replace c1 := X1.cell; replace f1 := X1.froz; replace Y := Y.kept S.kept (by omega); replace hY := Nat.le_trans hY S.kept.size; replace B := B.trans (S.kept.below _ (by omega) B.size); clear S) | ((have g := ob0); clear g; (with_reducible refine alloc_newX 32 [.int .i64 0, .int .i64 0] (fun _ => by kernel_rfl) ?_); intro b1 W1 N1; have ob1 := Nat.le_trans B.size N1.ge; have o0_b1 : b0 < b1 := Nat.lt_of_lt_of_le X0.lt N1.ge; have oY_b1 : uY ≤ b1 := Nat.le_trans hY N1.ge; replace X0 := X0.below N1.below; replace c0 := X0.cell; replace f0 := X0.froz; replace Y := Y.below N1.below; replace hY := Nat.le_trans hY N1.below.size; replace B := below_next B N1.below; have X1 := N1.bx; have c1 := X1.cell; have f1 := X1.froz; clear N1) | fail)
 refine (implCDs_is r hh _ Y HSZ.out rc dv HR.out HD.out).mono ?_
 rintro e w3 ⟨rfl, BB⟩
 replace X0 := X0.below BB
 replace c0 := X0.cell
 replace f0 := X0.froz
 replace X1 := X1.below BB
 replace c1 := X1.cell
 replace f1 := X1.froz
 replace Y := Y.below BB
 replace hY := Nat.le_trans hY BB.size
 replace B := below_next B BB
 clear BB
 go_wp2_with (first | ((with_reducible refine store_midX 32 X2 0 [.int .i64 rc, .int .i64 dv] (by simp) (by kernel_rfl) (by simp [Value.oneCell']) rfl rfl ?_); intro V3 S; replace X0 := X0.kept S.kept (by omega); replace c0 := X0.cell; replace f0 := X0.froz; replace X1 := X1.kept S.kept (by omega); replace c1 := X1.cell; replace f1 := X1.froz; replace X2 : Bx V3 b2 [.int .i64 rc, .int .i64 dv] := S.bx; replace c2 := X2.cell; replace f2 := X2.froz; replace Y := Y.kept S.kept (by omega); replace hY := Nat.le_trans hY S.kept.size; replace B := B.trans (S.kept.below _ (by omega) B.size); clear S) | ((have g := ob1); clear g; (with_reducible refine alloc_newX 32 [.int .i64 0, .int .i64 0] (fun _ => by kernel_rfl) ?_); intro b2 W2 N2; have ob2 := Nat.le_trans B.size N2.ge; have o0_b2 : b0 < b2 := Nat.lt_of_lt_of_le X0.lt N2.ge; have o1_b2 : b1 < b2 := Nat.lt_of_lt_of_le X1.lt N2.ge; have oY_b2 : uY ≤ b2 := Nat.le_trans hY N2.ge; replace X0 := X0.below N2.below; replace c0 := X0.cell; replace f0 := X0.froz; replace X1 := X1.below N2.below; replace c1 := X1.cell; replace f1 := X1.froz; replace Y := Y.below N2.below; replace hY := Nat.le_trans hY N2.below.size; replace B := below_next B N2.below; have X2 := N2.bx; have c2 := X2.cell; have f2 := X2.froz; clear N2) | fail)
 refine (implTe_is r hh _ Y HSZ.out tc tm HTC.out HTM.out).mono ?_
 rintro e w4 ⟨zT, uT, sT, KT, rfl, GzT, hMT, MT, ZT, BB⟩
 have ozT : w0.heap.size ≤ zT := Nat.le_trans B.size GzT
 have o0_zT : b0 < zT := Nat.lt_of_lt_of_le X0.lt GzT
 have o1_zT : b1 < zT := Nat.lt_of_lt_of_le X1.lt GzT
 have o2_zT : b2 < zT := Nat.lt_of_lt_of_le X2.lt GzT
 have oY_zT : uY ≤ zT := Nat.le_trans hY GzT
 clear GzT
 replace X0 := X0.below BB
 replace c0 := X0.cell
 replace f0 := X0.froz
 replace X1 := X1.below BB
 replace c1 := X1.cell
 replace f1 := X1.froz
 replace X2 := X2.below BB
 replace c2 := X2.cell
 replace f2 := X2.froz
 replace Y := Y.below BB
 replace hY := Nat.le_trans hY BB.size
 replace B := below_next B BB
 clear BB
 by_cases q0 : c = 0
 rotate_left 1
 ·have q0' : (c != 0) = true := by simp [q0]
  have ec : (c == c) = true := by simp
  have erc : (rc == rc) = true := by simp
  have etc : (tc == tc) = true := by simp
  have edv : (dv == dv) = true := by simp
  go_wp2_with (first | ((with_reducible refine store_midX 36 X3 0 [.int .i64 tc, .slice sT.1 sT.2.1 sT.2.2] (by simp) (by kernel_rfl) (by simp [Value.oneCell']) rfl rfl ?_); intro V4 S; replace X0 := X0.kept S.kept (by omega); replace c0 := X0.cell; replace f0 := X0.froz; replace X1 := X1.kept S.kept (by omega); replace c1 := X1.cell; replace f1 := X1.froz; replace X2 := X2.kept S.kept (by omega); replace c2 := X2.cell; replace f2 := X2.froz; replace X3 : Bx V4 b3 [.int .i64 tc, .slice sT.1 sT.2.1 sT.2.2] := S.bx; replace c3 := X3.cell; replace f3 := X3.froz; replace Y := Y.kept S.kept (by omega); replace hY := Nat.le_trans hY S.kept.size; replace MT := MT.kept S.kept (by omega); replace hMT := Nat.le_trans hMT S.kept.size; replace B := B.trans (S.kept.below _ (by omega) B.size); clear S) | ((have g := ob2); clear g; (with_reducible refine alloc_newX 36 [.int .i64 0, .slice none 0 0] (fun _ => by kernel_rfl) ?_); intro b3 W3 N3; have ob3 := Nat.le_trans B.size N3.ge; have o0_b3 : b0 < b3 := Nat.lt_of_lt_of_le X0.lt N3.ge; have o1_b3 : b1 < b3 := Nat.lt_of_lt_of_le X1.lt N3.ge; have o2_b3 : b2 < b3 := Nat.lt_of_lt_of_le X2.lt N3.ge; have oY_b3 : uY ≤ b3 := Nat.le_trans hY N3.ge; have oMT_b3 : uT ≤ b3 := Nat.le_trans hMT N3.ge; replace X0 := X0.below N3.below; replace c0 := X0.cell; replace f0 := X0.froz; replace X1 := X1.below N3.below; replace c1 := X1.cell; replace f1 := X1.froz; replace X2 := X2.below N3.below; replace c2 := X2.cell; replace f2 := X2.froz; replace Y := Y.below N3.below; replace hY := Nat.le_trans hY N3.below.size; replace MT := MT.below N3.below; replace hMT := Nat.le_trans hMT N3.below.size; replace B := below_next B N3.below; have X3 := N3.bx; have c3 := X3.cell; have f3 := X3.froz; clear N3) | fail)
  have DQ : Below V4.heap.size V4 V4.drew := (Below.refl _ _).drew
  replace X0 := X0.below DQ
  replace c0 := X0.cell
  replace f0 := X0.froz
  replace X1 := X1.below DQ
  replace c1 := X1.cell
  replace f1 := X1.froz
  replace X2 := X2.below DQ
  replace c2 := X2.cell
  replace f2 := X2.froz
  replace X3 := X3.below DQ
  replace c3 := X3.cell
  replace f3 := X3.froz
  replace Y := Y.below DQ
  replace hY := Nat.le_trans hY DQ.size
  replace MT := MT.below DQ
  replace hMT := Nat.le_trans hMT DQ.size
  replace B := below_next B DQ
  clear DQ
  refine wp_region_held_drew (S := (fun w' => (∀ k_2 : Nat, w'.cell? ⟨b0, k_2, none⟩ = [.int .i64 r.id, .int .i64 r.size, .int .i64 r.view, .bool r.normal, .int .i64 r.last, .slice hh.L.1 hh.L.2.1 hh.L.2.2, .int .i64 r.commit, .slice hh.O.1 hh.O.2.1 hh.O.2.2, .slice hh.A.1 hh.A.2.1 hh.A.2.2, .slice hh.D.1 hh.D.2.1 hh.D.2.2][k_2]?) ∧ (∀ k_2 : Nat, w'.cell? ⟨b1, k_2, none⟩ = [.int .i64 c, .int .i64 v][k_2]?) ∧ (∀ k_2 : Nat, w'.cell? ⟨b2, k_2, none⟩ = [.int .i64 rc, .int .i64 dv][k_2]?) ∧ (∀ k_2 : Nat, w'.cell? ⟨b3, k_2, none⟩ = [.int .i64 tc, .slice sT.1 sT.2.1 sT.2.2][k_2]?))) (by kernel_rfl) ⟨c0, c1, c2, c3⟩ (fun hZq => ?_)
  refine wpAnyH_take (i := 0) (v := ?_) rfl (by kernel_rfl) (by kernel_rfl) (by kernel_rfl) (fun _ _ _ h => h) (Or.inl ⟨by rfl, ?_⟩) hZq ?_
  rotate_left 1
  ·intro w hSw
   try dsimp only at hSw
   first | (go_simp; done) | (go_simp; with_reducible rfl)
  simp only [Act.put, List.setIfInBounds_toArray, List.set_cons_zero, List.set_cons_succ, List.getElem_toArray, List.getElem_cons_zero]
  refine wpAnyH_take (i := 3) (v := ?_) rfl (by kernel_rfl) (by kernel_rfl) (by kernel_rfl) (fun _ _ _ h => h) (Or.inl ⟨by rfl, ?_⟩) hZq ?_
  rotate_left 1
  ·intro w hSw
   try dsimp only at hSw
   first | (go_simp; done) | (go_simp; with_reducible rfl)
  simp only [Act.put, List.setIfInBounds_toArray, List.set_cons_zero, List.set_cons_succ, List.getElem_toArray, List.getElem_cons_zero, List.getElem_cons_succ]
  refine wpAnyH_take (i := 4) (v := ?_) rfl (by kernel_rfl) (by kernel_rfl) (by kernel_rfl) (fun _ _ _ h => h) (Or.inl ⟨by rfl, ?_⟩) hZq ?_
  rotate_left 1
  ·intro w hSw
   try dsimp only at hSw
   first | (go_simp; done) | (go_simp; with_reducible rfl)
  simp only [Act.put, List.setIfInBounds_toArray, List.set_cons_zero, List.set_cons_succ, List.getElem_toArray, List.getElem_cons_zero, List.getElem_cons_succ]
  refine wpAnyH_ready (rs := [1]) (by kernel_rfl) (by simp) ?_
  refine AllReadyH.cons rfl (fun KK hKK => ?_) AllReadyH.nil
  go_simp
  go_at_call 10
  refine (specCh_is r hh _ Y HSZ.out c v HC.out HV.out).mono ?_
  rintro e v1 ⟨rfl, BB⟩
  replace X0 := X0.below BB
  replace c0 := X0.cell
  replace f0 := X0.froz
  replace X1 := X1.below BB
  replace c1 := X1.cell
  replace f1 := X1.froz
  replace X2 := X2.below BB
  replace c2 := X2.cell
  replace f2 := X2.froz
  replace X3 := X3.below BB
  replace c3 := X3.cell
  replace f3 := X3.froz
  replace Y := Y.below BB
  replace hY := Nat.le_trans hY BB.size
  replace MT := MT.below BB
  replace hMT := Nat.le_trans hMT BB.size
  replace B := below_next B BB
  have hf1 : ∀ W, (Instr.field 32 (.agg #[.int .i64 c, .int .i64 v]) 0).run Try.prog W = .ok (.int .i64 c) W := fun W => by kernel_rfl
  clear BB
  clear hZq
  refine hKK _ _ ⟨c0, c1, c2, c3⟩ (fun hZq => ?_)
  clear hKK KK
  refine wpAnyH_take (i := 2) (v := ?_) rfl (by kernel_rfl) (by kernel_rfl) (by kernel_rfl) (fun _ _ _ h => h) (Or.inl ⟨by rfl, ?_⟩) hZq ?_
  rotate_left 1
  ·intro w hSw
   try dsimp only at hSw
   first | (go_simp; done) | (go_simp; with_reducible rfl)
  simp only [Act.put, List.setIfInBounds_toArray, List.set_cons_zero, List.set_cons_succ, List.getElem_toArray, List.getElem_cons_zero, List.getElem_cons_succ]
  refine wpAnyH_take (i := 5) (v := ?_) rfl (by kernel_rfl) (by kernel_rfl) (by kernel_rfl) (fun _ _ _ h => h) (Or.inl ⟨by rfl, ?_⟩) hZq ?_
  rotate_left 1
  ·intro w hSw
   try dsimp only at hSw
   first | (go_simp; done) | (go_simp; with_reducible rfl)
  simp only [Act.put, List.setIfInBounds_toArray, List.set_cons_zero, List.set_cons_succ, List.getElem_toArray, List.getElem_cons_zero, List.getElem_cons_succ]
  refine wpAnyH_take (i := 6) (v := ?_) rfl (by kernel_rfl) (by kernel_rfl) (by kernel_rfl) (fun _ _ _ h => h) (Or.inl ⟨by rfl, ?_⟩) hZq ?_
  rotate_left 1
  ·intro w hSw
   try dsimp only at hSw
   first | (go_simp; done) | (go_simp; with_reducible rfl)
  simp only [Act.put, List.setIfInBounds_toArray, List.set_cons_zero, List.set_cons_succ, List.getElem_toArray, List.getElem_cons_zero, List.getElem_cons_succ]
  refine wpAnyH_take (i := 7) (v := ?_) rfl (by kernel_rfl) (by kernel_rfl) (by kernel_rfl) (fun _ _ _ h => h) (Or.inl ⟨by rfl, ?_⟩) hZq ?_
  rotate_left 1
  ·intro w hSw
   try dsimp only at hSw
   first | (go_simp; done) | (go_simp; with_reducible rfl)
  simp only [Act.put, List.setIfInBounds_toArray, List.set_cons_zero, List.set_cons_succ, List.getElem_toArray, List.getElem_cons_zero, List.getElem_cons_succ]
  refine wpAnyH_take (i := 8) (v := ?_) rfl (by kernel_rfl) (by kernel_rfl) (by kernel_rfl) (fun _ _ _ h => h) (Or.inl ⟨by rfl, ?_⟩) hZq ?_
  rotate_left 1
  ·intro w hSw
   try dsimp only at hSw
   first | (go_simp; done) | (go_simp; with_reducible rfl)
  simp only [Act.put, List.setIfInBounds_toArray, List.set_cons_zero, List.set_cons_succ, List.getElem_toArray, List.getElem_cons_zero, List.getElem_cons_succ]
  refine wpAnyH_take (i := 9) (v := ?_) rfl (by kernel_rfl) (by kernel_rfl) (by kernel_rfl) (fun _ _ _ h => h) (Or.inl ⟨by rfl, ?_⟩) hZq ?_
  rotate_left 1
  ·intro w hSw
   try dsimp only at hSw
   first | (go_simp; done) | (go_simp; with_reducible rfl)
  simp only [Act.put, List.setIfInBounds_toArray, List.set_cons_zero, List.set_cons_succ, List.getElem_toArray, List.getElem_cons_zero, List.getElem_cons_succ]
  refine wpAnyH_ready (rs := [10]) (by kernel_rfl) (by simp) ?_
  refine AllReadyH.cons rfl (fun KK hKK => ?_) AllReadyH.nil
  go_simp
  go_at_call 11
  refine (specCDs_is r hh _ Y HSZ.out rc dv HR.out HD.out).mono ?_
  rintro e v2 ⟨rfl, BB⟩
  replace X0 := X0.below BB
  replace c0 := X0.cell
  replace f0 := X0.froz
  replace X1 := X1.below BB
  replace c1 := X1.cell
  replace f1 := X1.froz
  replace X2 := X2.below BB
  replace c2 := X2.cell
  replace f2 := X2.froz
  replace X3 := X3.below BB
  replace c3 := X3.cell
  replace f3 := X3.froz
  replace Y := Y.below BB
  replace hY := Nat.le_trans hY BB.size
  replace MT := MT.below BB
  replace hMT := Nat.le_trans hMT BB.size
  replace B := below_next B BB
  have hf2 : ∀ W, (Instr.field 32 (.agg #[.int .i64 rc, .int .i64 dv]) 0).run Try.prog W = .ok (.int .i64 rc) W := fun W => by kernel_rfl
  clear BB
  clear hZq
  refine hKK _ _ ⟨c0, c1, c2, c3⟩ (fun hZq => ?_)
  clear hKK KK
  refine wpAnyH_take (i := 11) (v := ?_) rfl (by kernel_rfl) (by kernel_rfl) (by kernel_rfl) (fun _ _ _ h => h) (Or.inl ⟨by rfl, ?_⟩) hZq ?_
  rotate_left 1
  ·intro w hSw
   try dsimp only at hSw
   first | (go_simp; done) | (go_simp; with_reducible rfl)
  simp only [Act.put, List.setIfInBounds_toArray, List.set_cons_zero, List.set_cons_succ, List.getElem_toArray, List.getElem_cons_zero, List.getElem_cons_succ]
  refine wpAnyH_take (i := 12) (v := ?_) rfl (by kernel_rfl) (by kernel_rfl) (by kernel_rfl) (fun _ _ _ h => h) (Or.inl ⟨by rfl, ?_⟩) hZq ?_
  rotate_left 1
  ·intro w hSw
   try dsimp only at hSw
   first | (go_simp; done) | (go_simp; with_reducible rfl)
  simp only [Act.put, List.setIfInBounds_toArray, List.set_cons_zero, List.set_cons_succ, List.getElem_toArray, List.getElem_cons_zero, List.getElem_cons_succ]
  refine wpAnyH_take (i := 13) (v := ?_) rfl (by kernel_rfl) (by kernel_rfl) (by kernel_rfl) (fun _ _ _ h => h) (Or.inl ⟨by rfl, ?_⟩) hZq ?_
  rotate_left 1
  ·intro w hSw
   try dsimp only at hSw
   first | (go_simp; done) | (go_simp; with_reducible rfl)
  simp only [Act.put, List.setIfInBounds_toArray, List.set_cons_zero, List.set_cons_succ, List.getElem_toArray, List.getElem_cons_zero, List.getElem_cons_succ]
  refine wpAnyH_take (i := 14) (v := ?_) rfl (by kernel_rfl) (by kernel_rfl) (by kernel_rfl) (fun _ _ _ h => h) (Or.inl ⟨by rfl, ?_⟩) hZq ?_
  rotate_left 1
  ·intro w hSw
   try dsimp only at hSw
   first | (go_simp; done) | (go_simp; with_reducible rfl)
  simp only [Act.put, List.setIfInBounds_toArray, List.set_cons_zero, List.set_cons_succ, List.getElem_toArray, List.getElem_cons_zero, List.getElem_cons_succ]
  refine wpAnyH_take (i := 15) (v := ?_) rfl (by kernel_rfl) (by kernel_rfl) (by kernel_rfl) (fun _ _ _ h => h) (Or.inl ⟨by rfl, ?_⟩) hZq ?_
  rotate_left 1
  ·intro w hSw
   try dsimp only at hSw
   first | (go_simp; done) | (go_simp; with_reducible rfl)
  simp only [Act.put, List.setIfInBounds_toArray, List.set_cons_zero, List.set_cons_succ, List.getElem_toArray, List.getElem_cons_zero, List.getElem_cons_succ]
  refine wpAnyH_take (i := 16) (v := ?_) rfl (by kernel_rfl) (by kernel_rfl) (by kernel_rfl) (fun _ _ _ h => h) (Or.inl ⟨by rfl, ?_⟩) hZq ?_
  rotate_left 1
  ·intro w hSw
   try dsimp only at hSw
   first | (go_simp; done) | (go_simp; with_reducible rfl)
  simp only [Act.put, List.setIfInBounds_toArray, List.set_cons_zero, List.set_cons_succ, List.getElem_toArray, List.getElem_cons_zero, List.getElem_cons_succ]
  refine wpAnyH_take (i := 17) (v := ?_) rfl (by kernel_rfl) (by kernel_rfl) (by kernel_rfl) (fun _ _ _ h => h) (Or.inl ⟨by rfl, ?_⟩) hZq ?_
  rotate_left 1
  ·intro w hSw
   try dsimp only at hSw
   first | (go_simp; done) | (go_simp; with_reducible rfl)
  simp only [Act.put, List.setIfInBounds_toArray, List.set_cons_zero, List.set_cons_succ, List.getElem_toArray, List.getElem_cons_zero, List.getElem_cons_succ]
  refine wpAnyH_ready (rs := [18]) (by kernel_rfl) (by simp) ?_
  refine AllReadyH.cons rfl (fun KK hKK => ?_) AllReadyH.nil
  go_simp
  go_at_call 12
  refine (specTe_is r hh _ Y HSZ.out tc tm HTC.out HTM.out).mono ?_
  rintro e v3 ⟨zS, uS, sS, KS, rfl, -, -, -, -, BB⟩
  replace X0 := X0.below BB
  replace c0 := X0.cell
  replace f0 := X0.froz
  replace X1 := X1.below BB
  replace c1 := X1.cell
  replace f1 := X1.froz
  replace X2 := X2.below BB
  replace c2 := X2.cell
  replace f2 := X2.froz
  replace X3 := X3.below BB
  replace c3 := X3.cell
  replace f3 := X3.froz
  replace Y := Y.below BB
  replace hY := Nat.le_trans hY BB.size
  replace MT := MT.below BB
  replace hMT := Nat.le_trans hMT BB.size
  replace B := below_next B BB
  have hf3 : ∀ W, (Instr.field 36 (.agg #[.int .i64 tc, .slice sS.1 sS.2.1 sS.2.2]) 0).run Try.prog W = .ok (.int .i64 tc) W := fun W => by kernel_rfl
  clear BB
  clear hZq
  refine hKK _ _ ⟨c0, c1, c2, c3⟩ (fun hZq => ?_)
  clear hKK KK
  refine wpAnyH_take (i := 19) (v := ?_) rfl (by kernel_rfl) (by kernel_rfl) (by kernel_rfl) (fun _ _ _ h => h) (Or.inl ⟨by rfl, ?_⟩) hZq ?_
  rotate_left 1
  ·intro w hSw
   try dsimp only at hSw
   first | (go_simp; done) | (go_simp; with_reducible rfl)
  simp only [Act.put, List.setIfInBounds_toArray, List.set_cons_zero, List.set_cons_succ, List.getElem_toArray, List.getElem_cons_zero, List.getElem_cons_succ]
  refine wpAnyH_take (i := 20) (v := ?_) rfl (by kernel_rfl) (by kernel_rfl) (by kernel_rfl) (fun _ _ _ h => h) (Or.inl ⟨by rfl, ?_⟩) hZq ?_
  rotate_left 1
  ·intro w hSw
   try dsimp only at hSw
   first | (go_simp; done) | (go_simp; with_reducible rfl)
  simp only [Act.put, List.setIfInBounds_toArray, List.set_cons_zero, List.set_cons_succ, List.getElem_toArray, List.getElem_cons_zero, List.getElem_cons_succ]
  refine wpAnyH_take (i := 21) (v := ?_) rfl (by kernel_rfl) (by kernel_rfl) (by kernel_rfl) (fun _ _ _ h => h) (Or.inl ⟨by rfl, ?_⟩) hZq ?_
  rotate_left 1
  ·intro w hSw
   try dsimp only at hSw
   first | (go_simp; done) | (go_simp; with_reducible rfl)
  simp only [Act.put, List.setIfInBounds_toArray, List.set_cons_zero, List.set_cons_succ, List.getElem_toArray, List.getElem_cons_zero, List.getElem_cons_succ]
  refine wpAnyH_take (i := 22) (v := ?_) rfl (by kernel_rfl) (by kernel_rfl) (by kernel_rfl) (fun _ _ _ h => h) (Or.inl ⟨by rfl, ?_⟩) hZq ?_
  rotate_left 1
  ·intro w hSw
   try dsimp only at hSw
   first | (go_simp; done) | (go_simp; with_reducible rfl)
  simp only [Act.put, List.setIfInBounds_toArray, List.set_cons_zero, List.set_cons_succ, List.getElem_toArray, List.getElem_cons_zero, List.getElem_cons_succ]
  refine wpAnyH_take (i := 23) (v := ?_) rfl (by kernel_rfl) (by kernel_rfl) (by kernel_rfl) (fun _ _ _ h => h) (Or.inl ⟨by rfl, ?_⟩) hZq ?_
  rotate_left 1
  ·intro w hSw
   try dsimp only at hSw
   first | (go_simp; done) | (go_simp; with_reducible rfl)
  simp only [Act.put, List.setIfInBounds_toArray, List.set_cons_zero, List.set_cons_succ, List.getElem_toArray, List.getElem_cons_zero, List.getElem_cons_succ]
  refine wpAnyH_take (i := 24) (v := ?_) rfl (by kernel_rfl) (by kernel_rfl) (by kernel_rfl) (fun _ _ _ h => h) (Or.inl ⟨by rfl, ?_⟩) hZq ?_
  rotate_left 1
  ·intro w hSw
   try dsimp only at hSw
   first | (go_simp; done) | (go_simp; with_reducible rfl)
  simp only [Act.put, List.setIfInBounds_toArray, List.set_cons_zero, List.set_cons_succ, List.getElem_toArray, List.getElem_cons_zero, List.getElem_cons_succ]
  refine wpAnyH_take (i := 25) (v := ?_) rfl (by kernel_rfl) (by kernel_rfl) (by kernel_rfl) (fun _ _ _ h => h) (Or.inl ⟨by rfl, ?_⟩) hZq ?_
  rotate_left 1
  ·intro w hSw
   try dsimp only at hSw
   first | (go_simp; done) | (go_simp; with_reducible rfl)
  simp only [Act.put, List.setIfInBounds_toArray, List.set_cons_zero, List.set_cons_succ, List.getElem_toArray, List.getElem_cons_zero, List.getElem_cons_succ]
  refine wpAnyH_ready (rs := [26]) (by kernel_rfl) (by simp) ?_
  refine AllReadyH.cons rfl (fun KK hKK => ?_) AllReadyH.nil
  go_simp
  go_at_call 11
  refine (specCDs_is r hh _ Y HSZ.out rc dv HR.out HD.out).mono ?_
  rintro e v4 ⟨rfl, BB⟩
  replace X0 := X0.below BB
  replace c0 := X0.cell
  replace f0 := X0.froz
  replace X1 := X1.below BB
  replace c1 := X1.cell
  replace f1 := X1.froz
  replace X2 := X2.below BB
  replace c2 := X2.cell
  replace f2 := X2.froz
  replace X3 := X3.below BB
  replace c3 := X3.cell
  replace f3 := X3.froz
  replace Y := Y.below BB
  replace hY := Nat.le_trans hY BB.size
  replace MT := MT.below BB
  replace hMT := Nat.le_trans hMT BB.size
  replace B := below_next B BB
  have hf4 : ∀ W, (Instr.field 32 (.agg #[.int .i64 rc, .int .i64 dv]) 1).run Try.prog W = .ok (.int .i64 dv) W := fun W => by kernel_rfl
  clear BB
  clear hZq
  refine hKK _ _ ⟨c0, c1, c2, c3⟩ (fun hZq => ?_)
  clear hKK KK
  refine wpAnyH_take (i := 27) (v := ?_) rfl (by kernel_rfl) (by kernel_rfl) (by kernel_rfl) (fun _ _ _ h => h) (Or.inl ⟨by rfl, ?_⟩) hZq ?_
  rotate_left 1
  ·intro w hSw
   try dsimp only at hSw
   first | (go_simp; done) | (go_simp; with_reducible rfl)
  simp only [Act.put, List.setIfInBounds_toArray, List.set_cons_zero, List.set_cons_succ, List.getElem_toArray, List.getElem_cons_zero, List.getElem_cons_succ]
  refine wpAnyH_take (i := 28) (v := ?_) rfl (by kernel_rfl) (by kernel_rfl) (by kernel_rfl) (fun _ _ _ h => h) (Or.inl ⟨by rfl, ?_⟩) hZq ?_
  rotate_left 1
  ·intro w hSw
   try dsimp only at hSw
   first | (go_simp; done) | (go_simp; with_reducible rfl)
  simp only [Act.put, List.setIfInBounds_toArray, List.set_cons_zero, List.set_cons_succ, List.getElem_toArray, List.getElem_cons_zero, List.getElem_cons_succ]
  refine wpAnyH_take (i := 29) (v := ?_) rfl (by kernel_rfl) (by kernel_rfl) (by kernel_rfl) (fun _ _ _ h => h) (Or.inl ⟨by rfl, ?_⟩) hZq ?_
  rotate_left 1
  ·intro w hSw
   try dsimp only at hSw
   first | (go_simp; done) | (go_simp; with_reducible rfl)
  simp only [Act.put, List.setIfInBounds_toArray, List.set_cons_zero, List.set_cons_succ, List.getElem_toArray, List.getElem_cons_zero, List.getElem_cons_succ]
  refine wpAnyH_take (i := 30) (v := ?_) rfl (by kernel_rfl) (by kernel_rfl) (by kernel_rfl) (fun _ _ _ h => h) (Or.inl ⟨by rfl, ?_⟩) hZq ?_
  rotate_left 1
  ·intro w hSw
   try dsimp only at hSw
   first | (go_simp; done) | (go_simp; with_reducible rfl)
  simp only [Act.put, List.setIfInBounds_toArray, List.set_cons_zero, List.set_cons_succ, List.getElem_toArray, List.getElem_cons_zero, List.getElem_cons_succ]
  refine wpAnyH_done (by kernel_rfl) ?_ _
  go_wp2
  go_ret
  exact ⟨by simp, B⟩
 subst q0
 obtain ⟨hF, hN, hP⟩ := ch_ok HC.out
 have hrc0 : rc = 0 := by rw [← HR.out]; exact hF
 subst hrc0
 obtain ⟨eT, eM⟩ := te_ok HC.out
 have htc0 : tc = 0 := by rw [← HTC.out]; exact eT
 subst htc0
 have htm0 : tm = [] := by rw [← HTM.out]; exact eM
 subst htm0
 have hsT : sT.2.1 = 0 := MT.len.symm
 obtain ⟨sa, sn, sc⟩ := sT
 have hsn : sn = 0 := hsT
 subst hsn
 dsimp only
 obtain ⟨vv, la, CO⟩ := cho_ok hF hN
 have hv : v = (vv : Int) := by rw [← HV.out]; unfold chV; rw [if_pos HC.out]; exact CO.val
 subst hv
 have HCO : Hid _ := CO
 have hdv : dv = cntD r r.doers.length := by rw [← HD.out]; unfold cdsV; rw [if_pos hF]
 have HDV : Hid _ := hdv
 have hdl := Y.doers.len
 obtain ⟨⟨hs1, hs2⟩, ⟨hi1, hi2⟩, _, _⟩ := (rep_ok hF).1
 have hsz := (rep_ok hF).2.2.2.1.2.2
 rw [hN] at hsz
 simp only [Bool.false_eq_true, if_false] at hsz
 have HLO : Hid (vv < hh.D.2.1) := (by have := CO.low; omega : vv < hh.D.2.1)
 have HSS : Hid ((hh.D.2.1 : Int) = r.size) := (by omega : (hh.D.2.1 : Int) = r.size)
 have HDL : Hid _ := hdl
 have hD5 : hh.D.2.1 ≤ 5 := by omega
 clear CO hF hN hP eT eM hsT hdv hdl hsz
 go_upto_region 9 with (first | ((with_reducible refine store_midX 36 X3 0 [.int .i64 0, .slice sa 0 sc] (by simp) (by kernel_rfl) (by simp [Value.oneCell']) rfl rfl ?_); intro V4 S; replace X0 := X0.kept S.kept (by omega); replace c0 := X0.cell; replace f0 := X0.froz; replace X1 := X1.kept S.kept (by omega); replace c1 := X1.cell; replace f1 := X1.froz; replace X2 := X2.kept S.kept (by omega); replace c2 := X2.cell; replace f2 := X2.froz; replace X3 : Bx V4 b3 [.int .i64 0, .slice sa 0 sc] := S.bx; replace c3 := X3.cell; replace f3 := X3.froz; replace Y := Y.kept S.kept (by omega); replace hY := Nat.le_trans hY S.kept.size; replace MT := MT.kept S.kept (by omega); replace hMT := Nat.le_trans hMT S.kept.size; replace B := B.trans (S.kept.below _ (by omega) B.size); clear S) | ((have g := ob2); clear g; (with_reducible refine alloc_newX 36 [.int .i64 0, .slice none 0 0] (fun _ => by kernel_rfl) ?_); intro b3 W3 N3; have ob3 := Nat.le_trans B.size N3.ge; have o0_b3 : b0 < b3 := Nat.lt_of_lt_of_le X0.lt N3.ge; have o1_b3 : b1 < b3 := Nat.lt_of_lt_of_le X1.lt N3.ge; have o2_b3 : b2 < b3 := Nat.lt_of_lt_of_le X2.lt N3.ge; have oY_b3 : uY ≤ b3 := Nat.le_trans hY N3.ge; have oMT_b3 : uT ≤ b3 := Nat.le_trans hMT N3.ge; replace X0 := X0.below N3.below; replace c0 := X0.cell; replace f0 := X0.froz; replace X1 := X1.below N3.below; replace c1 := X1.cell; replace f1 := X1.froz; replace X2 := X2.below N3.below; replace c2 := X2.cell; replace f2 := X2.froz; replace Y := Y.below N3.below; replace hY := Nat.le_trans hY N3.below.size; replace MT := MT.below N3.below; replace hMT := Nat.le_trans hMT N3.below.size; replace B := below_next B N3.below; have X3 := N3.bx; have c3 := X3.cell; have f3 := X3.froz; clear N3) | fail)
 by_cases qv : (vv : Int) = r.id
 ·have qv' : ((vv : Int) != r.id) = false := by simp [qv]
  have hla : r.last = la := HCO.out.own qv
  have HLA : Hid _ := hla
  clear hla qv
  go_wp2
  rw [HLA.out]
  have HX0 : Hid _ := X0
  have HX1 : Hid _ := X1
  have HX2 : Hid _ := X2
  have HX3 : Hid _ := X3
  have HY : Hid _ := Y
  have HB : Hid _ := B
  have HUY : Hid _ := hY
  clear X0 c0 f0 X1 c1 f1 X2 c2 f2 X3 c3 f3 Y hY B MT hMT
  go_loopw [8, 9] (fun kv iv wr => ∃ k : Nat, k ≤ hh.D.2.1 ∧ iv = .int .i64 k ∧ kv = .int .i64 (cntD r k) ∧ Below V4.heap.size V4 wr) (fun _ iv _ => hh.D.2.1 - (intOf iv).toNat)
  case atStart => exact ⟨0, Nat.zero_le _, rfl, rfl, Below.refl _ _⟩
  case round =>
   obtain ⟨k, hk, rfl, rfl, BL⟩ := hrel
   have X0 := HX0.out.below BL
   have c0 := X0.cell
   have hck := cntD_in r k
   by_cases hlt : k < hh.D.2.1
   ·have hlk : (k : Int) < (hh.D.2.1 : Int) := by omega
    obtain ⟨b, off, es, -, -, lbw, d0, d1, -, -, -⟩ := (HY.out.below BL).doers.doer hlt
    rw [es] at c0
    have hcs : cntD r (k + 1) = cntD r k + (if (k : Int) ≠ r.id ∧ (r.doers.getD k dr0).1 = true then 1 else 0) := rfl
    have HALL := HCO.out.all k (by have := HSS.out; omega)
    have wk : IntKind.i64.wrap (cntD r k + 1) = cntD r k + 1 := wrapI_same _ (by omega)
    by_cases qi : (k : Int) = r.id
    ·have qi' : ((k : Int) != r.id) = false := by simp [qi]
     have hcz : cntD r (k + 1) = cntD r k := by rw [hcs, if_neg (fun z => z.1 qi)]; omega
     clear hcs
     go_wp2
     go_roundw
     case rel => exact ⟨k + 1, by omega, by go_num, by rw [hcz], BL⟩
     case measure => simp [intOf]; omega
    have qi' : ((k : Int) != r.id) = true := by simp [qi]
    obtain ⟨kn, hkn⟩ : ∃ kn, (r.doers.getD k dr0).1 = kn := ⟨_, rfl⟩
    rw [hkn] at d0 hcs HALL
    cases kn
    ·have hcz : cntD r (k + 1) = cntD r k := by rw [hcs, if_neg (fun z => by cases z.2)]; omega
     clear hcs HALL
     go_wp2
     go_roundw
     case rel => exact ⟨k + 1, by omega, by go_num, by rw [hcz], BL⟩
     case measure => simp [intOf]; omega
    ·have hle := HALL qi rfl
     have hng : ¬ la < (r.doers.getD k dr0).2.1 := by omega
     have hcz : cntD r (k + 1) = cntD r k + 1 := by rw [hcs, if_pos ⟨qi, rfl⟩]
     clear hcs HALL
     go_wp2
     go_roundw
     case rel => exact ⟨k + 1, by omega, by go_num, by rw [hcz], BL⟩
     case measure => simp [intOf]; omega
   ·obtain rfl : k = hh.D.2.1 := by omega
    go_wp2_with fail
    have X1 := HX1.out.below BL
    have X2 := HX2.out.below BL
    have X3 := HX3.out.below BL
    have c1 := X1.cell
    have c2 := X2.cell
    have c3 := X3.cell
    have Y := HY.out.below BL
    have hY : uY ≤ wr.heap.size := Nat.le_trans HUY.out BL.size
    have B : Below w0.heap.size w0 wr := below_next HB.out BL
    clear BL
    have hse := HCO.out.self
    have y1 : (cntD r hh.D.2.1 == dv) = true := by rw [HDV.out, HDL.out]; simp
    have y2 : ((vv : Int) == (vv : Int)) = true := by simp
    have DQ : Below wr.heap.size wr wr.drew := (Below.refl _ _).drew
    replace X0 := X0.below DQ
    replace c0 := X0.cell
    replace X1 := X1.below DQ
    replace c1 := X1.cell
    replace X2 := X2.below DQ
    replace c2 := X2.cell
    replace X3 := X3.below DQ
    replace c3 := X3.cell
    replace Y := Y.below DQ
    replace hY := Nat.le_trans hY DQ.size
    replace B := below_next B DQ
    clear DQ
    refine wp_region_held_drew (S := (fun w' => (∀ k_2 : Nat, w'.cell? ⟨b0, k_2, none⟩ = [.int .i64 r.id, .int .i64 r.size, .int .i64 r.view, .bool r.normal, .int .i64 r.last, .slice hh.L.1 hh.L.2.1 hh.L.2.2, .int .i64 r.commit, .slice hh.O.1 hh.O.2.1 hh.O.2.2, .slice hh.A.1 hh.A.2.1 hh.A.2.2, .slice hh.D.1 hh.D.2.1 hh.D.2.2][k_2]?) ∧ (∀ k_2 : Nat, w'.cell? ⟨b1, k_2, none⟩ = [.int .i64 0, .int .i64 (vv : Int)][k_2]?) ∧ (∀ k_2 : Nat, w'.cell? ⟨b2, k_2, none⟩ = [.int .i64 0, .int .i64 dv][k_2]?) ∧ (∀ k_2 : Nat, w'.cell? ⟨b3, k_2, none⟩ = [.int .i64 0, .slice sa 0 sc][k_2]?))) (by kernel_rfl) ⟨c0, c1, c2, c3⟩ (fun hZq => ?_)
    refine wpAnyH_take (i := 0) (v := ?_) rfl (by kernel_rfl) (by kernel_rfl) (by kernel_rfl) (fun _ _ _ h => h) (Or.inl ⟨by rfl, ?_⟩) hZq ?_
    rotate_left 1
    ·intro w hSw
     try dsimp only at hSw
     first | (go_simp; done) | (go_simp; with_reducible rfl)
    simp only [Act.put, List.setIfInBounds_toArray, List.set_cons_zero, List.set_cons_succ, List.getElem_toArray, List.getElem_cons_zero]
    refine wpAnyH_take (i := 1) (v := ?_) rfl (by kernel_rfl) (by kernel_rfl) (by kernel_rfl) (fun _ _ _ h => h) (Or.inl ⟨by rfl, ?_⟩) hZq ?_
    rotate_left 1
    ·intro w hSw
     try dsimp only at hSw
     first | (go_simp; done) | (go_simp; with_reducible rfl)
    simp only [Act.put, List.setIfInBounds_toArray, List.set_cons_zero, List.set_cons_succ, List.getElem_toArray, List.getElem_cons_zero, List.getElem_cons_succ]
    refine wpAnyH_take (i := 2) (v := ?_) rfl (by kernel_rfl) (by kernel_rfl) (by kernel_rfl) (fun _ _ _ h => h) (Or.inl ⟨by rfl, ?_⟩) hZq ?_
    rotate_left 1
    ·intro w hSw
     try dsimp only at hSw
     first | (go_simp; done) | (go_simp; with_reducible rfl)
    simp only [Act.put, List.setIfInBounds_toArray, List.set_cons_zero, List.set_cons_succ, List.getElem_toArray, List.getElem_cons_zero, List.getElem_cons_succ]
    refine wpAnyH_take (i := 3) (v := ?_) rfl (by kernel_rfl) (by kernel_rfl) (by kernel_rfl) (fun _ _ _ h => h) (Or.inl ⟨by rfl, ?_⟩) hZq ?_
    rotate_left 1
    ·intro w hSw
     try dsimp only at hSw
     first | (go_simp; done) | (go_simp; with_reducible rfl)
    simp only [Act.put, List.setIfInBounds_toArray, List.set_cons_zero, List.set_cons_succ, List.getElem_toArray, List.getElem_cons_zero, List.getElem_cons_succ]
    refine wpAnyH_take (i := 4) (v := ?_) rfl (by kernel_rfl) (by kernel_rfl) (by kernel_rfl) (fun _ _ _ h => h) (Or.inl ⟨by rfl, ?_⟩) hZq ?_
    rotate_left 1
    ·intro w hSw
     try dsimp only at hSw
     first | (go_simp; done) | (go_simp; with_reducible rfl)
    simp only [Act.put, List.setIfInBounds_toArray, List.set_cons_zero, List.set_cons_succ, List.getElem_toArray, List.getElem_cons_zero, List.getElem_cons_succ]
    refine wpAnyH_take (i := 5) (v := ?_) rfl (by kernel_rfl) (by kernel_rfl) (by kernel_rfl) (fun _ _ _ h => h) (Or.inl ⟨by rfl, ?_⟩) hZq ?_
    rotate_left 1
    ·intro w hSw
     try dsimp only at hSw
     first | (go_simp; done) | (go_simp; with_reducible rfl)
    simp only [Act.put, List.setIfInBounds_toArray, List.set_cons_zero, List.set_cons_succ, List.getElem_toArray, List.getElem_cons_zero, List.getElem_cons_succ]
    refine wpAnyH_take (i := 6) (v := ?_) rfl (by kernel_rfl) (by kernel_rfl) (by kernel_rfl) (fun _ _ _ h => h) (Or.inl ⟨by rfl, ?_⟩) hZq ?_
    rotate_left 1
    ·intro w hSw
     try dsimp only at hSw
     first | (go_simp; done) | (go_simp; with_reducible rfl)
    simp only [Act.put, List.setIfInBounds_toArray, List.set_cons_zero, List.set_cons_succ, List.getElem_toArray, List.getElem_cons_zero, List.getElem_cons_succ]
    refine wpAnyH_take (i := 7) (v := ?_) rfl (by kernel_rfl) (by kernel_rfl) (by kernel_rfl) (fun _ _ _ h => h) (Or.inl ⟨by rfl, ?_⟩) hZq ?_
    rotate_left 1
    ·intro w hSw
     try dsimp only at hSw
     first | (go_simp; done) | (go_simp; with_reducible rfl)
    simp only [Act.put, List.setIfInBounds_toArray, List.set_cons_zero, List.set_cons_succ, List.getElem_toArray, List.getElem_cons_zero, List.getElem_cons_succ]
    refine wpAnyH_take (i := 8) (v := ?_) rfl (by kernel_rfl) (by kernel_rfl) (by kernel_rfl) (fun _ _ _ h => h) (Or.inl ⟨by rfl, ?_⟩) hZq ?_
    rotate_left 1
    ·intro w hSw
     try dsimp only at hSw
     first | (go_simp; done) | (go_simp; with_reducible rfl)
    simp only [Act.put, List.setIfInBounds_toArray, List.set_cons_zero, List.set_cons_succ, List.getElem_toArray, List.getElem_cons_zero, List.getElem_cons_succ]
    refine wpAnyH_take (i := 9) (v := ?_) rfl (by kernel_rfl) (by kernel_rfl) (by kernel_rfl) (fun _ _ _ h => h) (Or.inl ⟨by rfl, ?_⟩) hZq ?_
    rotate_left 1
    ·intro w hSw
     try dsimp only at hSw
     first | (go_simp; done) | (go_simp; with_reducible rfl)
    simp only [Act.put, List.setIfInBounds_toArray, List.set_cons_zero, List.set_cons_succ, List.getElem_toArray, List.getElem_cons_zero, List.getElem_cons_succ]
    refine wpAnyH_take (i := 10) (v := ?_) rfl (by kernel_rfl) (by kernel_rfl) (by kernel_rfl) (fun _ _ _ h => h) (Or.inl ⟨by rfl, ?_⟩) hZq ?_
    rotate_left 1
    ·intro w hSw
     try dsimp only at hSw
     first | (go_simp; done) | (go_simp; with_reducible rfl)
    simp only [Act.put, List.setIfInBounds_toArray, List.set_cons_zero, List.set_cons_succ, List.getElem_toArray, List.getElem_cons_zero, List.getElem_cons_succ]
    refine wpAnyH_take (i := 11) (v := ?_) rfl (by kernel_rfl) (by kernel_rfl) (by kernel_rfl) (fun _ _ _ h => h) (Or.inl ⟨by rfl, ?_⟩) hZq ?_
    rotate_left 1
    ·intro w hSw
     try dsimp only at hSw
     first | (go_simp; done) | (go_simp; with_reducible rfl)
    simp only [Act.put, List.setIfInBounds_toArray, List.set_cons_zero, List.set_cons_succ, List.getElem_toArray, List.getElem_cons_zero, List.getElem_cons_succ]
    refine wpAnyH_take (i := 12) (v := ?_) rfl (by kernel_rfl) (by kernel_rfl) (by kernel_rfl) (fun _ _ _ h => h) (Or.inl ⟨by rfl, ?_⟩) hZq ?_
    rotate_left 1
    ·intro w hSw
     try dsimp only at hSw
     first | (go_simp; done) | (go_simp; with_reducible rfl)
    simp only [Act.put, List.setIfInBounds_toArray, List.set_cons_zero, List.set_cons_succ, List.getElem_toArray, List.getElem_cons_zero, List.getElem_cons_succ]
    refine wpAnyH_take (i := 13) (v := ?_) rfl (by kernel_rfl) (by kernel_rfl) (by kernel_rfl) (fun _ _ _ h => h) (Or.inl ⟨by rfl, ?_⟩) hZq ?_
    rotate_left 1
    ·intro w hSw
     try dsimp only at hSw
     first | (go_simp; done) | (go_simp; with_reducible rfl)
    simp only [Act.put, List.setIfInBounds_toArray, List.set_cons_zero, List.set_cons_succ, List.getElem_toArray, List.getElem_cons_zero, List.getElem_cons_succ]
    refine wpAnyH_take (i := 14) (v := ?_) rfl (by kernel_rfl) (by kernel_rfl) (by kernel_rfl) (fun _ _ _ h => h) (Or.inl ⟨by rfl, ?_⟩) hZq ?_
    rotate_left 1
    ·intro w hSw
     try dsimp only at hSw
     first | (go_simp; done) | (go_simp; with_reducible rfl)
    simp only [Act.put, List.setIfInBounds_toArray, List.set_cons_zero, List.set_cons_succ, List.getElem_toArray, List.getElem_cons_zero, List.getElem_cons_succ]
    refine wpAnyH_take (i := 15) (v := ?_) rfl (by kernel_rfl) (by kernel_rfl) (by kernel_rfl) (fun _ _ _ h => h) (Or.inl ⟨by rfl, ?_⟩) hZq ?_
    rotate_left 1
    ·intro w hSw
     try dsimp only at hSw
     first | (go_simp; done) | (go_simp; with_reducible rfl)
    simp only [Act.put, List.setIfInBounds_toArray, List.set_cons_zero, List.set_cons_succ, List.getElem_toArray, List.getElem_cons_zero, List.getElem_cons_succ]
    refine wpAnyH_take (i := 16) (v := ?_) rfl (by kernel_rfl) (by kernel_rfl) (by kernel_rfl) (fun _ _ _ h => h) (Or.inl ⟨by rfl, ?_⟩) hZq ?_
    rotate_left 1
    ·intro w hSw
     try dsimp only at hSw
     first | (go_simp; done) | (go_simp; with_reducible rfl)
    simp only [Act.put, List.setIfInBounds_toArray, List.set_cons_zero, List.set_cons_succ, List.getElem_toArray, List.getElem_cons_zero, List.getElem_cons_succ]
    refine wpAnyH_take (i := 17) (v := ?_) rfl (by kernel_rfl) (by kernel_rfl) (by kernel_rfl) (fun _ _ _ h => h) (Or.inl ⟨by rfl, ?_⟩) hZq ?_
    rotate_left 1
    ·intro w hSw
     try dsimp only at hSw
     first | (go_simp; done) | (go_simp; with_reducible rfl)
    simp only [Act.put, List.setIfInBounds_toArray, List.set_cons_zero, List.set_cons_succ, List.getElem_toArray, List.getElem_cons_zero, List.getElem_cons_succ]
    refine wpAnyH_take (i := 18) (v := ?_) rfl (by kernel_rfl) (by kernel_rfl) (by kernel_rfl) (fun _ _ _ h => h) (Or.inl ⟨by rfl, ?_⟩) hZq ?_
    rotate_left 1
    ·intro w hSw
     try dsimp only at hSw
     first | (go_simp; done) | (go_simp; with_reducible rfl)
    simp only [Act.put, List.setIfInBounds_toArray, List.set_cons_zero, List.set_cons_succ, List.getElem_toArray, List.getElem_cons_zero, List.getElem_cons_succ]
    refine wpAnyH_take (i := 19) (v := ?_) rfl (by kernel_rfl) (by kernel_rfl) (by kernel_rfl) (fun _ _ _ h => h) (Or.inl ⟨by rfl, ?_⟩) hZq ?_
    rotate_left 1
    ·intro w hSw
     try dsimp only at hSw
     first | (go_simp; done) | (go_simp; with_reducible rfl)
    simp only [Act.put, List.setIfInBounds_toArray, List.set_cons_zero, List.set_cons_succ, List.getElem_toArray, List.getElem_cons_zero, List.getElem_cons_succ]
    refine wpAnyH_take (i := 20) (v := ?_) rfl (by kernel_rfl) (by kernel_rfl) (by kernel_rfl) (fun _ _ _ h => h) (Or.inl ⟨by rfl, ?_⟩) hZq ?_
    rotate_left 1
    ·intro w hSw
     try dsimp only at hSw
     first | (go_simp; done) | (go_simp; with_reducible rfl)
    simp only [Act.put, List.setIfInBounds_toArray, List.set_cons_zero, List.set_cons_succ, List.getElem_toArray, List.getElem_cons_zero, List.getElem_cons_succ]
    refine wpAnyH_take (i := 21) (v := ?_) rfl (by kernel_rfl) (by kernel_rfl) (by kernel_rfl) (fun _ _ _ h => h) (Or.inl ⟨by rfl, ?_⟩) hZq ?_
    rotate_left 1
    ·intro w hSw
     try dsimp only at hSw
     first | (go_simp; done) | (go_simp; with_reducible rfl)
    simp only [Act.put, List.setIfInBounds_toArray, List.set_cons_zero, List.set_cons_succ, List.getElem_toArray, List.getElem_cons_zero, List.getElem_cons_succ]
    refine wpAnyH_take (i := 22) (v := ?_) rfl (by kernel_rfl) (by kernel_rfl) (by kernel_rfl) (fun _ _ _ h => h) (Or.inl ⟨by rfl, ?_⟩) hZq ?_
    rotate_left 1
    ·intro w hSw
     try dsimp only at hSw
     first | (go_simp; done) | (go_simp; with_reducible rfl)
    simp only [Act.put, List.setIfInBounds_toArray, List.set_cons_zero, List.set_cons_succ, List.getElem_toArray, List.getElem_cons_zero, List.getElem_cons_succ]
    refine wpAnyH_take (i := 23) (v := ?_) rfl (by kernel_rfl) (by kernel_rfl) (by kernel_rfl) (fun _ _ _ h => h) (Or.inl ⟨by rfl, ?_⟩) hZq ?_
    rotate_left 1
    ·intro w hSw
     try dsimp only at hSw
     first | (go_simp; done) | (go_simp; with_reducible rfl)
    simp only [Act.put, List.setIfInBounds_toArray, List.set_cons_zero, List.set_cons_succ, List.getElem_toArray, List.getElem_cons_zero, List.getElem_cons_succ]
    refine wpAnyH_take (i := 24) (v := ?_) rfl (by kernel_rfl) (by kernel_rfl) (by kernel_rfl) (fun _ _ _ h => h) (Or.inl ⟨by rfl, ?_⟩) hZq ?_
    rotate_left 1
    ·intro w hSw
     try dsimp only at hSw
     first | (go_simp; done) | (go_simp; with_reducible rfl)
    simp only [Act.put, List.setIfInBounds_toArray, List.set_cons_zero, List.set_cons_succ, List.getElem_toArray, List.getElem_cons_zero, List.getElem_cons_succ]
    refine wpAnyH_ready (rs := [25]) (by kernel_rfl) (by simp) ?_
    refine AllReadyH.cons rfl (fun KK hKK => ?_) AllReadyH.nil
    go_simp
    go_at_call 10
    refine (specCh_is r hh _ Y HSZ.out 0 (vv : Int) HC.out HV.out).mono ?_
    rintro e v1 ⟨rfl, BB⟩
    replace X0 := X0.below BB
    replace c0 := X0.cell
    replace X1 := X1.below BB
    replace c1 := X1.cell
    replace X2 := X2.below BB
    replace c2 := X2.cell
    replace X3 := X3.below BB
    replace c3 := X3.cell
    replace Y := Y.below BB
    replace hY := Nat.le_trans hY BB.size
    replace B := below_next B BB
    have hf1 : ∀ W, (Instr.field 32 (.agg #[.int .i64 0, .int .i64 (vv : Int)]) 1).run Try.prog W = .ok (.int .i64 (vv : Int)) W := fun W => by kernel_rfl
    clear BB
    clear hZq
    refine hKK _ _ ⟨c0, c1, c2, c3⟩ (fun hZq => ?_)
    clear hKK KK
    refine wpAnyH_take (i := 26) (v := ?_) rfl (by kernel_rfl) (by kernel_rfl) (by kernel_rfl) (fun _ _ _ h => h) (Or.inl ⟨by rfl, ?_⟩) hZq ?_
    rotate_left 1
    ·intro w hSw
     try dsimp only at hSw
     first | (go_simp; done) | (go_simp; with_reducible rfl)
    simp only [Act.put, List.setIfInBounds_toArray, List.set_cons_zero, List.set_cons_succ, List.getElem_toArray, List.getElem_cons_zero, List.getElem_cons_succ]
    refine wpAnyH_take (i := 27) (v := ?_) rfl (by kernel_rfl) (by kernel_rfl) (by kernel_rfl) (fun _ _ _ h => h) (Or.inl ⟨by rfl, ?_⟩) hZq ?_
    rotate_left 1
    ·intro w hSw
     try dsimp only at hSw
     first | (go_simp; done) | (go_simp; with_reducible rfl)
    simp only [Act.put, List.setIfInBounds_toArray, List.set_cons_zero, List.set_cons_succ, List.getElem_toArray, List.getElem_cons_zero, List.getElem_cons_succ]
    refine wpAnyH_take (i := 28) (v := ?_) rfl (by kernel_rfl) (by kernel_rfl) (by kernel_rfl) (fun _ _ _ h => h) (Or.inl ⟨by rfl, ?_⟩) hZq ?_
    rotate_left 1
    ·intro w hSw
     try dsimp only at hSw
     first | (go_simp; done) | (go_simp; with_reducible rfl)
    simp only [Act.put, List.setIfInBounds_toArray, List.set_cons_zero, List.set_cons_succ, List.getElem_toArray, List.getElem_cons_zero, List.getElem_cons_succ]
    refine wpAnyH_take (i := 29) (v := ?_) rfl (by kernel_rfl) (by kernel_rfl) (by kernel_rfl) (fun _ _ _ h => h) (Or.inl ⟨by rfl, ?_⟩) hZq ?_
    rotate_left 1
    ·intro w hSw
     try dsimp only at hSw
     first | (go_simp; done) | (go_simp; with_reducible rfl)
    simp only [Act.put, List.setIfInBounds_toArray, List.set_cons_zero, List.set_cons_succ, List.getElem_toArray, List.getElem_cons_zero, List.getElem_cons_succ]
    refine wpAnyH_done (by kernel_rfl) ?_ _
    go_wp2
    go_ret
    exact ⟨by simp, B⟩
 ·have qv' : ((vv : Int) != r.id) = true := by simp [qv]
  obtain ⟨hkn, hla⟩ := HCO.out.oth qv
  obtain ⟨bd, od, eds, -, -, lbd, d0, d1, -, -, -⟩ := Y.doers.doer HLO.out
  rw [hkn] at d0
  rw [hla] at d1
  have c0' := c0
  rw [eds] at c0'
  have hlv : (vv : Int) < (hh.D.2.1 : Int) := by (have := HLO.out; omega)
  clear c0
  have c0 := c0'
  clear c0'
  go_wp2
  clear d0 d1 eds lbd
  have HX0 : Hid _ := X0
  have HX1 : Hid _ := X1
  have HX2 : Hid _ := X2
  have HX3 : Hid _ := X3
  have HY : Hid _ := Y
  have HB : Hid _ := B
  have HUY : Hid _ := hY
  clear X0 c0 f0 X1 c1 f1 X2 c2 f2 X3 c3 f3 Y hY B MT hMT
  go_loopw [8, 9] (fun kv iv wr => ∃ k : Nat, k ≤ hh.D.2.1 ∧ iv = .int .i64 k ∧ kv = .int .i64 (cntD r k) ∧ Below V4.heap.size V4 wr) (fun _ iv _ => hh.D.2.1 - (intOf iv).toNat)
  case atStart => exact ⟨0, Nat.zero_le _, rfl, rfl, Below.refl _ _⟩
  case round =>
   obtain ⟨k, hk, rfl, rfl, BL⟩ := hrel
   have X0 := HX0.out.below BL
   have c0 := X0.cell
   have hck := cntD_in r k
   by_cases hlt : k < hh.D.2.1
   ·have hlk : (k : Int) < (hh.D.2.1 : Int) := by omega
    obtain ⟨b, off, es, -, -, lbw, d0, d1, -, -, -⟩ := (HY.out.below BL).doers.doer hlt
    rw [es] at c0
    have hcs : cntD r (k + 1) = cntD r k + (if (k : Int) ≠ r.id ∧ (r.doers.getD k dr0).1 = true then 1 else 0) := rfl
    have HALL := HCO.out.all k (by have := HSS.out; omega)
    have wk : IntKind.i64.wrap (cntD r k + 1) = cntD r k + 1 := wrapI_same _ (by omega)
    by_cases qi : (k : Int) = r.id
    ·have qi' : ((k : Int) != r.id) = false := by simp [qi]
     have hcz : cntD r (k + 1) = cntD r k := by rw [hcs, if_neg (fun z => z.1 qi)]; omega
     clear hcs
     go_wp2
     go_roundw
     case rel => exact ⟨k + 1, by omega, by go_num, by rw [hcz], BL⟩
     case measure => simp [intOf]; omega
    have qi' : ((k : Int) != r.id) = true := by simp [qi]
    obtain ⟨kn, hkn⟩ : ∃ kn, (r.doers.getD k dr0).1 = kn := ⟨_, rfl⟩
    rw [hkn] at d0 hcs HALL
    cases kn
    ·have hcz : cntD r (k + 1) = cntD r k := by rw [hcs, if_neg (fun z => by cases z.2)]; omega
     clear hcs HALL
     go_wp2
     go_roundw
     case rel => exact ⟨k + 1, by omega, by go_num, by rw [hcz], BL⟩
     case measure => simp [intOf]; omega
    ·have hle := HALL qi rfl
     have hng : ¬ la < (r.doers.getD k dr0).2.1 := by omega
     have hcz : cntD r (k + 1) = cntD r k + 1 := by rw [hcs, if_pos ⟨qi, rfl⟩]
     clear hcs HALL
     go_wp2
     go_roundw
     case rel => exact ⟨k + 1, by omega, by go_num, by rw [hcz], BL⟩
     case measure => simp [intOf]; omega
   ·obtain rfl : k = hh.D.2.1 := by omega
    go_wp2_with fail
    have X1 := HX1.out.below BL
    have X2 := HX2.out.below BL
    have X3 := HX3.out.below BL
    have c1 := X1.cell
    have c2 := X2.cell
    have c3 := X3.cell
    have Y := HY.out.below BL
    have hY : uY ≤ wr.heap.size := Nat.le_trans HUY.out BL.size
    have B : Below w0.heap.size w0 wr := below_next HB.out BL
    clear BL
    have hse := HCO.out.self
    have y1 : (cntD r hh.D.2.1 == dv) = true := by rw [HDV.out, HDL.out]; simp
    have y2 : ((vv : Int) == (vv : Int)) = true := by simp
    have DQ : Below wr.heap.size wr wr.drew := (Below.refl _ _).drew
    replace X0 := X0.below DQ
    replace c0 := X0.cell
    replace X1 := X1.below DQ
    replace c1 := X1.cell
    replace X2 := X2.below DQ
    replace c2 := X2.cell
    replace X3 := X3.below DQ
    replace c3 := X3.cell
    replace Y := Y.below DQ
    replace hY := Nat.le_trans hY DQ.size
    replace B := below_next B DQ
    clear DQ
    refine wp_region_held_drew (S := (fun w' => (∀ k_2 : Nat, w'.cell? ⟨b0, k_2, none⟩ = [.int .i64 r.id, .int .i64 r.size, .int .i64 r.view, .bool r.normal, .int .i64 r.last, .slice hh.L.1 hh.L.2.1 hh.L.2.2, .int .i64 r.commit, .slice hh.O.1 hh.O.2.1 hh.O.2.2, .slice hh.A.1 hh.A.2.1 hh.A.2.2, .slice hh.D.1 hh.D.2.1 hh.D.2.2][k_2]?) ∧ (∀ k_2 : Nat, w'.cell? ⟨b1, k_2, none⟩ = [.int .i64 0, .int .i64 (vv : Int)][k_2]?) ∧ (∀ k_2 : Nat, w'.cell? ⟨b2, k_2, none⟩ = [.int .i64 0, .int .i64 dv][k_2]?) ∧ (∀ k_2 : Nat, w'.cell? ⟨b3, k_2, none⟩ = [.int .i64 0, .slice sa 0 sc][k_2]?))) (by kernel_rfl) ⟨c0, c1, c2, c3⟩ (fun hZq => ?_)
    refine wpAnyH_take (i := 0) (v := ?_) rfl (by kernel_rfl) (by kernel_rfl) (by kernel_rfl) (fun _ _ _ h => h) (Or.inl ⟨by rfl, ?_⟩) hZq ?_
    rotate_left 1
    ·intro w hSw
     try dsimp only at hSw
     first | (go_simp; done) | (go_simp; with_reducible rfl)
    simp only [Act.put, List.setIfInBounds_toArray, List.set_cons_zero, List.set_cons_succ, List.getElem_toArray, List.getElem_cons_zero]
    refine wpAnyH_take (i := 1) (v := ?_) rfl (by kernel_rfl) (by kernel_rfl) (by kernel_rfl) (fun _ _ _ h => h) (Or.inl ⟨by rfl, ?_⟩) hZq ?_
    rotate_left 1
    ·intro w hSw
     try dsimp only at hSw
     first | (go_simp; done) | (go_simp; with_reducible rfl)
    simp only [Act.put, List.setIfInBounds_toArray, List.set_cons_zero, List.set_cons_succ, List.getElem_toArray, List.getElem_cons_zero, List.getElem_cons_succ]
    refine wpAnyH_take (i := 2) (v := ?_) rfl (by kernel_rfl) (by kernel_rfl) (by kernel_rfl) (fun _ _ _ h => h) (Or.inl ⟨by rfl, ?_⟩) hZq ?_
    rotate_left 1
    ·intro w hSw
     try dsimp only at hSw
     first | (go_simp; done) | (go_simp; with_reducible rfl)
    simp only [Act.put, List.setIfInBounds_toArray, List.set_cons_zero, List.set_cons_succ, List.getElem_toArray, List.getElem_cons_zero, List.getElem_cons_succ]
    refine wpAnyH_take (i := 3) (v := ?_) rfl (by kernel_rfl) (by kernel_rfl) (by kernel_rfl) (fun _ _ _ h => h) (Or.inl ⟨by rfl, ?_⟩) hZq ?_
    rotate_left 1
    ·intro w hSw
     try dsimp only at hSw
     first | (go_simp; done) | (go_simp; with_reducible rfl)
    simp only [Act.put, List.setIfInBounds_toArray, List.set_cons_zero, List.set_cons_succ, List.getElem_toArray, List.getElem_cons_zero, List.getElem_cons_succ]
    refine wpAnyH_take (i := 4) (v := ?_) rfl (by kernel_rfl) (by kernel_rfl) (by kernel_rfl) (fun _ _ _ h => h) (Or.inl ⟨by rfl, ?_⟩) hZq ?_
    rotate_left 1
    ·intro w hSw
     try dsimp only at hSw
     first | (go_simp; done) | (go_simp; with_reducible rfl)
    simp only [Act.put, List.setIfInBounds_toArray, List.set_cons_zero, List.set_cons_succ, List.getElem_toArray, List.getElem_cons_zero, List.getElem_cons_succ]
    refine wpAnyH_take (i := 5) (v := ?_) rfl (by kernel_rfl) (by kernel_rfl) (by kernel_rfl) (fun _ _ _ h => h) (Or.inl ⟨by rfl, ?_⟩) hZq ?_
    rotate_left 1
    ·intro w hSw
     try dsimp only at hSw
     first | (go_simp; done) | (go_simp; with_reducible rfl)
    simp only [Act.put, List.setIfInBounds_toArray, List.set_cons_zero, List.set_cons_succ, List.getElem_toArray, List.getElem_cons_zero, List.getElem_cons_succ]
    refine wpAnyH_take (i := 6) (v := ?_) rfl (by kernel_rfl) (by kernel_rfl) (by kernel_rfl) (fun _ _ _ h => h) (Or.inl ⟨by rfl, ?_⟩) hZq ?_
    rotate_left 1
    ·intro w hSw
     try dsimp only at hSw
     first | (go_simp; done) | (go_simp; with_reducible rfl)
    simp only [Act.put, List.setIfInBounds_toArray, List.set_cons_zero, List.set_cons_succ, List.getElem_toArray, List.getElem_cons_zero, List.getElem_cons_succ]
    refine wpAnyH_take (i := 7) (v := ?_) rfl (by kernel_rfl) (by kernel_rfl) (by kernel_rfl) (fun _ _ _ h => h) (Or.inl ⟨by rfl, ?_⟩) hZq ?_
    rotate_left 1
    ·intro w hSw
     try dsimp only at hSw
     first | (go_simp; done) | (go_simp; with_reducible rfl)
    simp only [Act.put, List.setIfInBounds_toArray, List.set_cons_zero, List.set_cons_succ, List.getElem_toArray, List.getElem_cons_zero, List.getElem_cons_succ]
    refine wpAnyH_take (i := 8) (v := ?_) rfl (by kernel_rfl) (by kernel_rfl) (by kernel_rfl) (fun _ _ _ h => h) (Or.inl ⟨by rfl, ?_⟩) hZq ?_
    rotate_left 1
    ·intro w hSw
     try dsimp only at hSw
     first | (go_simp; done) | (go_simp; with_reducible rfl)
    simp only [Act.put, List.setIfInBounds_toArray, List.set_cons_zero, List.set_cons_succ, List.getElem_toArray, List.getElem_cons_zero, List.getElem_cons_succ]
    refine wpAnyH_take (i := 9) (v := ?_) rfl (by kernel_rfl) (by kernel_rfl) (by kernel_rfl) (fun _ _ _ h => h) (Or.inl ⟨by rfl, ?_⟩) hZq ?_
    rotate_left 1
    ·intro w hSw
     try dsimp only at hSw
     first | (go_simp; done) | (go_simp; with_reducible rfl)
    simp only [Act.put, List.setIfInBounds_toArray, List.set_cons_zero, List.set_cons_succ, List.getElem_toArray, List.getElem_cons_zero, List.getElem_cons_succ]
    refine wpAnyH_take (i := 10) (v := ?_) rfl (by kernel_rfl) (by kernel_rfl) (by kernel_rfl) (fun _ _ _ h => h) (Or.inl ⟨by rfl, ?_⟩) hZq ?_
    rotate_left 1
    ·intro w hSw
     try dsimp only at hSw
     first | (go_simp; done) | (go_simp; with_reducible rfl)
    simp only [Act.put, List.setIfInBounds_toArray, List.set_cons_zero, List.set_cons_succ, List.getElem_toArray, List.getElem_cons_zero, List.getElem_cons_succ]
    refine wpAnyH_take (i := 11) (v := ?_) rfl (by kernel_rfl) (by kernel_rfl) (by kernel_rfl) (fun _ _ _ h => h) (Or.inl ⟨by rfl, ?_⟩) hZq ?_
    rotate_left 1
    ·intro w hSw
     try dsimp only at hSw
     first | (go_simp; done) | (go_simp; with_reducible rfl)
    simp only [Act.put, List.setIfInBounds_toArray, List.set_cons_zero, List.set_cons_succ, List.getElem_toArray, List.getElem_cons_zero, List.getElem_cons_succ]
    refine wpAnyH_take (i := 12) (v := ?_) rfl (by kernel_rfl) (by kernel_rfl) (by kernel_rfl) (fun _ _ _ h => h) (Or.inl ⟨by rfl, ?_⟩) hZq ?_
    rotate_left 1
    ·intro w hSw
     try dsimp only at hSw
     first | (go_simp; done) | (go_simp; with_reducible rfl)
    simp only [Act.put, List.setIfInBounds_toArray, List.set_cons_zero, List.set_cons_succ, List.getElem_toArray, List.getElem_cons_zero, List.getElem_cons_succ]
    refine wpAnyH_take (i := 13) (v := ?_) rfl (by kernel_rfl) (by kernel_rfl) (by kernel_rfl) (fun _ _ _ h => h) (Or.inl ⟨by rfl, ?_⟩) hZq ?_
    rotate_left 1
    ·intro w hSw
     try dsimp only at hSw
     first | (go_simp; done) | (go_simp; with_reducible rfl)
    simp only [Act.put, List.setIfInBounds_toArray, List.set_cons_zero, List.set_cons_succ, List.getElem_toArray, List.getElem_cons_zero, List.getElem_cons_succ]
    refine wpAnyH_take (i := 14) (v := ?_) rfl (by kernel_rfl) (by kernel_rfl) (by kernel_rfl) (fun _ _ _ h => h) (Or.inl ⟨by rfl, ?_⟩) hZq ?_
    rotate_left 1
    ·intro w hSw
     try dsimp only at hSw
     first | (go_simp; done) | (go_simp; with_reducible rfl)
    simp only [Act.put, List.setIfInBounds_toArray, List.set_cons_zero, List.set_cons_succ, List.getElem_toArray, List.getElem_cons_zero, List.getElem_cons_succ]
    refine wpAnyH_take (i := 15) (v := ?_) rfl (by kernel_rfl) (by kernel_rfl) (by kernel_rfl) (fun _ _ _ h => h) (Or.inl ⟨by rfl, ?_⟩) hZq ?_
    rotate_left 1
    ·intro w hSw
     try dsimp only at hSw
     first | (go_simp; done) | (go_simp; with_reducible rfl)
    simp only [Act.put, List.setIfInBounds_toArray, List.set_cons_zero, List.set_cons_succ, List.getElem_toArray, List.getElem_cons_zero, List.getElem_cons_succ]
    refine wpAnyH_take (i := 16) (v := ?_) rfl (by kernel_rfl) (by kernel_rfl) (by kernel_rfl) (fun _ _ _ h => h) (Or.inl ⟨by rfl, ?_⟩) hZq ?_
    rotate_left 1
    ·intro w hSw
     try dsimp only at hSw
     first | (go_simp; done) | (go_simp; with_reducible rfl)
    simp only [Act.put, List.setIfInBounds_toArray, List.set_cons_zero, List.set_cons_succ, List.getElem_toArray, List.getElem_cons_zero, List.getElem_cons_succ]
    refine wpAnyH_take (i := 17) (v := ?_) rfl (by kernel_rfl) (by kernel_rfl) (by kernel_rfl) (fun _ _ _ h => h) (Or.inl ⟨by rfl, ?_⟩) hZq ?_
    rotate_left 1
    ·intro w hSw
     try dsimp only at hSw
     first | (go_simp; done) | (go_simp; with_reducible rfl)
    simp only [Act.put, List.setIfInBounds_toArray, List.set_cons_zero, List.set_cons_succ, List.getElem_toArray, List.getElem_cons_zero, List.getElem_cons_succ]
    refine wpAnyH_take (i := 18) (v := ?_) rfl (by kernel_rfl) (by kernel_rfl) (by kernel_rfl) (fun _ _ _ h => h) (Or.inl ⟨by rfl, ?_⟩) hZq ?_
    rotate_left 1
    ·intro w hSw
     try dsimp only at hSw
     first | (go_simp; done) | (go_simp; with_reducible rfl)
    simp only [Act.put, List.setIfInBounds_toArray, List.set_cons_zero, List.set_cons_succ, List.getElem_toArray, List.getElem_cons_zero, List.getElem_cons_succ]
    refine wpAnyH_take (i := 19) (v := ?_) rfl (by kernel_rfl) (by kernel_rfl) (by kernel_rfl) (fun _ _ _ h => h) (Or.inl ⟨by rfl, ?_⟩) hZq ?_
    rotate_left 1
    ·intro w hSw
     try dsimp only at hSw
     first | (go_simp; done) | (go_simp; with_reducible rfl)
    simp only [Act.put, List.setIfInBounds_toArray, List.set_cons_zero, List.set_cons_succ, List.getElem_toArray, List.getElem_cons_zero, List.getElem_cons_succ]
    refine wpAnyH_take (i := 20) (v := ?_) rfl (by kernel_rfl) (by kernel_rfl) (by kernel_rfl) (fun _ _ _ h => h) (Or.inl ⟨by rfl, ?_⟩) hZq ?_
    rotate_left 1
    ·intro w hSw
     try dsimp only at hSw
     first | (go_simp; done) | (go_simp; with_reducible rfl)
    simp only [Act.put, List.setIfInBounds_toArray, List.set_cons_zero, List.set_cons_succ, List.getElem_toArray, List.getElem_cons_zero, List.getElem_cons_succ]
    refine wpAnyH_take (i := 21) (v := ?_) rfl (by kernel_rfl) (by kernel_rfl) (by kernel_rfl) (fun _ _ _ h => h) (Or.inl ⟨by rfl, ?_⟩) hZq ?_
    rotate_left 1
    ·intro w hSw
     try dsimp only at hSw
     first | (go_simp; done) | (go_simp; with_reducible rfl)
    simp only [Act.put, List.setIfInBounds_toArray, List.set_cons_zero, List.set_cons_succ, List.getElem_toArray, List.getElem_cons_zero, List.getElem_cons_succ]
    refine wpAnyH_take (i := 22) (v := ?_) rfl (by kernel_rfl) (by kernel_rfl) (by kernel_rfl) (fun _ _ _ h => h) (Or.inl ⟨by rfl, ?_⟩) hZq ?_
    rotate_left 1
    ·intro w hSw
     try dsimp only at hSw
     first | (go_simp; done) | (go_simp; with_reducible rfl)
    simp only [Act.put, List.setIfInBounds_toArray, List.set_cons_zero, List.set_cons_succ, List.getElem_toArray, List.getElem_cons_zero, List.getElem_cons_succ]
    refine wpAnyH_take (i := 23) (v := ?_) rfl (by kernel_rfl) (by kernel_rfl) (by kernel_rfl) (fun _ _ _ h => h) (Or.inl ⟨by rfl, ?_⟩) hZq ?_
    rotate_left 1
    ·intro w hSw
     try dsimp only at hSw
     first | (go_simp; done) | (go_simp; with_reducible rfl)
    simp only [Act.put, List.setIfInBounds_toArray, List.set_cons_zero, List.set_cons_succ, List.getElem_toArray, List.getElem_cons_zero, List.getElem_cons_succ]
    refine wpAnyH_take (i := 24) (v := ?_) rfl (by kernel_rfl) (by kernel_rfl) (by kernel_rfl) (fun _ _ _ h => h) (Or.inl ⟨by rfl, ?_⟩) hZq ?_
    rotate_left 1
    ·intro w hSw
     try dsimp only at hSw
     first | (go_simp; done) | (go_simp; with_reducible rfl)
    simp only [Act.put, List.setIfInBounds_toArray, List.set_cons_zero, List.set_cons_succ, List.getElem_toArray, List.getElem_cons_zero, List.getElem_cons_succ]
    refine wpAnyH_ready (rs := [25]) (by kernel_rfl) (by simp) ?_
    refine AllReadyH.cons rfl (fun KK hKK => ?_) AllReadyH.nil
    go_simp
    go_at_call 10
    refine (specCh_is r hh _ Y HSZ.out 0 (vv : Int) HC.out HV.out).mono ?_
    rintro e v1 ⟨rfl, BB⟩
    replace X0 := X0.below BB
    replace c0 := X0.cell
    replace X1 := X1.below BB
    replace c1 := X1.cell
    replace X2 := X2.below BB
    replace c2 := X2.cell
    replace X3 := X3.below BB
    replace c3 := X3.cell
    replace Y := Y.below BB
    replace hY := Nat.le_trans hY BB.size
    replace B := below_next B BB
    have hf1 : ∀ W, (Instr.field 32 (.agg #[.int .i64 0, .int .i64 (vv : Int)]) 1).run Try.prog W = .ok (.int .i64 (vv : Int)) W := fun W => by kernel_rfl
    clear BB
    clear hZq
    refine hKK _ _ ⟨c0, c1, c2, c3⟩ (fun hZq => ?_)
    clear hKK KK
    refine wpAnyH_take (i := 26) (v := ?_) rfl (by kernel_rfl) (by kernel_rfl) (by kernel_rfl) (fun _ _ _ h => h) (Or.inl ⟨by rfl, ?_⟩) hZq ?_
    rotate_left 1
    ·intro w hSw
     try dsimp only at hSw
     first | (go_simp; done) | (go_simp; with_reducible rfl)
    simp only [Act.put, List.setIfInBounds_toArray, List.set_cons_zero, List.set_cons_succ, List.getElem_toArray, List.getElem_cons_zero, List.getElem_cons_succ]
    refine wpAnyH_take (i := 27) (v := ?_) rfl (by kernel_rfl) (by kernel_rfl) (by kernel_rfl) (fun _ _ _ h => h) (Or.inl ⟨by rfl, ?_⟩) hZq ?_
    rotate_left 1
    ·intro w hSw
     try dsimp only at hSw
     first | (go_simp; done) | (go_simp; with_reducible rfl)
    simp only [Act.put, List.setIfInBounds_toArray, List.set_cons_zero, List.set_cons_succ, List.getElem_toArray, List.getElem_cons_zero, List.getElem_cons_succ]
    refine wpAnyH_take (i := 28) (v := ?_) rfl (by kernel_rfl) (by kernel_rfl) (by kernel_rfl) (fun _ _ _ h => h) (Or.inl ⟨by rfl, ?_⟩) hZq ?_
    rotate_left 1
    ·intro w hSw
     try dsimp only at hSw
     first | (go_simp; done) | (go_simp; with_reducible rfl)
    simp only [Act.put, List.setIfInBounds_toArray, List.set_cons_zero, List.set_cons_succ, List.getElem_toArray, List.getElem_cons_zero, List.getElem_cons_succ]
    refine wpAnyH_take (i := 29) (v := ?_) rfl (by kernel_rfl) (by kernel_rfl) (by kernel_rfl) (fun _ _ _ h => h) (Or.inl ⟨by rfl, ?_⟩) hZq ?_
    rotate_left 1
    ·intro w hSw
     try dsimp only at hSw
     first | (go_simp; done) | (go_simp; with_reducible rfl)
    simp only [Act.put, List.setIfInBounds_toArray, List.set_cons_zero, List.set_cons_succ, List.getElem_toArray, List.getElem_cons_zero, List.getElem_cons_succ]
    refine wpAnyH_done (by kernel_rfl) ?_ _
    go_wp2
    go_ret
    exact ⟨by simp, B⟩
end Go.Proofs.Ytjefmhjlaibbkaa
