/- What a node sends by itself can be heard by whom it is for: the law FnBeats is true at every argument, with no condition. -/
import Derived.Test.YtonclmbihhdkpaaGreatQAF
import Derived.Test.YtonclmbihhdkpaaGreatQAB
import Derived.Test.YtonclmbihhdkpaaGreatRows
import Derived.Test.YtonclmbihhdkpaaGreatQAU
import Derived.Test.YtonclmbihhdkpaaGreatFB2
import Derived.Test.YtonclmbihhdkpaaGreatWI
import Derived.Test.YtonclmbihhdkpaaGreatWF
import Derived.Test.YtonclmbihhdkpaaGreatQAZ
set_option maxRecDepth 20000
set_option maxHeartbeats 16000000
namespace Go.Proofs.YtonclmbihhdkpaaGreat
open Go.RowKit
theorem lawBeats {o : Bool} {hi : Nat} (ac : Option Addr) (nc cc : Nat) (cs : List Nat) (w0 : World) (hrow : RowAt w0 o 0 hi 1 ac nc cc (bys cs)) (hcs : ∀ i, cs.getD i 0 < 256) (hhi : hi ≤ w0.heap.size) : Calls Tryz.prog 4 #[.slice ac nc cc] w0 fun e w' => e = .returned (.bool true) ∧ Below w0.heap.size w0 w' := by
 by_cases hbig : 1048576 < nc
 ·go_enter Tryz.func4, Tryz.ntmps4
  go_wp2_with fail
  refine (lwBig_is ac nc cc _ true (by simp; exact hbig)).mono ?_
  rintro e w1 ⟨rfl, rfl⟩
  go_wp2
  go_ret
  exact ⟨rfl, Below.refl _ _⟩
 have hc : nc ≤ 1048576 := by omega
 go_enter Tryz.func4, Tryz.ntmps4
 go_wp2_with fail
 refine (lwBig_is ac nc cc _ false (by simp; omega)).mono ?_
 rintro e w0 ⟨rfl, rfl⟩
 go_wp2_with fail
 refine (drawBeat_any ac nc cc cs _ hrow hcs hhi hc).mono ?_
 rintro e w1 ⟨r, hh, rfl, Y, SZ, B⟩
 obtain ⟨zY, hzY⟩ : ∃ zY, zY = w0.heap.size := ⟨_, rfl⟩
 obtain ⟨uY, huY⟩ : ∃ uY, uY = w1.heap.size := ⟨_, rfl⟩
 have lwY : w0.heap.size ≤ zY := Nat.le_of_eq hzY.symm
 rw [← hzY, ← huY] at Y
 have hY : uY ≤ w1.heap.size := Nat.le_of_eq huY
 clear hzY huY
 obtain ⟨c, hcc⟩ : ∃ c, repF r = c := ⟨_, rfl⟩
 obtain ⟨bq, hbq⟩ : ∃ bq, beQ r = bq := ⟨_, rfl⟩
 obtain ⟨bm, hbm⟩ : ∃ bm, beMs r = bm := ⟨_, rfl⟩
 have HC : Hid _ := hcc
 have HBQ : Hid _ := hbq
 have HBM : Hid _ := hbm
 have HSZ : Hid (RSz hh 1048576) := SZ.mono (by omega)
 clear hcc hbq hbm SZ
 go_wp2_with (first | ((with_reducible refine sm 29 X0 0 [.int .i64 r.id, .int .i64 r.size, .int .i64 r.view, .bool r.normal, .int .i64 r.last, .slice hh.L.1 hh.L.2.1 hh.L.2.2, .int .i64 r.commit, .slice hh.O.1 hh.O.2.1 hh.O.2.2, .slice hh.A.1 hh.A.2.1 hh.A.2.2, .slice hh.D.1 hh.D.2.1 hh.D.2.2] ?_); intro V1 S; replace X0 : Bx V1 b0 [.int .i64 r.id, .int .i64 r.size, .int .i64 r.view, .bool r.normal, .int .i64 r.last, .slice hh.L.1 hh.L.2.1 hh.L.2.2, .int .i64 r.commit, .slice hh.O.1 hh.O.2.1 hh.O.2.2, .slice hh.A.1 hh.A.2.1 hh.A.2.2, .slice hh.D.1 hh.D.2.1 hh.D.2.2] := S.bx; replace c0 := X0.cell; replace f0 := X0.froz; replace Y := Y.kept S.kept (by omega); replace hY := Nat.le_trans hY S.kept.size; replace B := bkp B S.kept; clear S) | ((with_reducible refine al 29 [.int .i64 0, .int .i64 0, .int .i64 0, .bool false, .int .i64 0, .slice none 0 0, .int .i64 0, .slice none 0 0, .slice none 0 0, .slice none 0 0] ?_); intro b0 W0 N0; have ob0 := N0.o B; have oY_b0 : uY ≤ b0 := Nat.le_trans hY N0.ge; replace Y := Y.below N0.below; replace hY := Nat.le_trans hY N0.below.size; replace B := N0.n B; obtain ⟨X0, c0, f0⟩ := N0.a; clear N0) | fail)
 refine (implBeat_is r hh _ Y HSZ.out c bq bm HC.out HBQ.out HBM.out).mono ?_
 rintro e w2 ⟨zB, uB, hB, sB, KB, rfl, GzB, hAB, AB, ZB, BB⟩
 have ozB : w0.heap.size ≤ zB := Nat.le_trans B.size GzB
 have o0_zB := ltl X0.lt GzB
 have oY_zB : uY ≤ zB := Nat.le_trans hY GzB
 clear GzB
 replace X0 := X0.below BB
 replace c0 := X0.cell
 replace f0 := X0.froz
 replace Y := Y.below BB
 replace hY := Nat.le_trans hY BB.size
 replace B := below_next B BB
 have HZB : Hid _ := ZB
 clear ZB
 clear BB
 by_cases q0 : c = 0
 rotate_left 1
 ·have q0' : (c != 0) = true := by simp [q0]
  have ecc : (c == c) = true := by simp
  go_wp2_with (first | ((with_reducible refine sm 33 X1 0 [.int .i64 c, .int .i64 bq.id, .int .i64 bq.size, .int .i64 bq.view, .bool bq.normal, .int .i64 bq.last, .slice hB.L.1 hB.L.2.1 hB.L.2.2, .int .i64 bq.commit, .slice hB.O.1 hB.O.2.1 hB.O.2.2, .slice hB.A.1 hB.A.2.1 hB.A.2.2, .slice hB.D.1 hB.D.2.1 hB.D.2.2, .slice sB.1 sB.2.1 sB.2.2] ?_); intro V2 S; replace X0 := X0.kp S.kept; replace c0 := X0.cell; replace f0 := X0.froz; replace X1 : Bx V2 b1 [.int .i64 c, .int .i64 bq.id, .int .i64 bq.size, .int .i64 bq.view, .bool bq.normal, .int .i64 bq.last, .slice hB.L.1 hB.L.2.1 hB.L.2.2, .int .i64 bq.commit, .slice hB.O.1 hB.O.2.1 hB.O.2.2, .slice hB.A.1 hB.A.2.1 hB.A.2.2, .slice hB.D.1 hB.D.2.1 hB.D.2.2, .slice sB.1 sB.2.1 sB.2.2] := S.bx; replace c1 := X1.cell; replace f1 := X1.froz; replace Y := Y.kept S.kept (by omega); replace hY := Nat.le_trans hY S.kept.size; replace AB := AB.kept S.kept (by omega); replace hAB := Nat.le_trans hAB S.kept.size; replace B := bkp B S.kept; clear S) | ((have g := ob0); clear g; (with_reducible refine al 33 [.int .i64 0, .int .i64 0, .int .i64 0, .int .i64 0, .bool false, .int .i64 0, .slice none 0 0, .int .i64 0, .slice none 0 0, .slice none 0 0, .slice none 0 0, .slice none 0 0] ?_); intro b1 W1 N1; have ob1 := N1.o B; have o0_b1 := N1.u X0; have oY_b1 : uY ≤ b1 := Nat.le_trans hY N1.ge; have oAB_b1 : uB ≤ b1 := Nat.le_trans hAB N1.ge; replace X0 := N1.r X0; replace c0 := X0.cell; replace f0 := X0.froz; replace Y := Y.below N1.below; replace hY := Nat.le_trans hY N1.below.size; replace AB := AB.below N1.below; replace hAB := Nat.le_trans hAB N1.below.size; replace B := N1.n B; obtain ⟨X1, c1, f1⟩ := N1.a; clear N1) | fail)
  have DQ : Below V2.heap.size V2 V2.drew := (Below.refl _ _).drew
  replace X0 := X0.below DQ
  replace c0 := X0.cell
  replace f0 := X0.froz
  replace X1 := X1.below DQ
  replace c1 := X1.cell
  replace f1 := X1.froz
  replace Y := Y.below DQ
  replace hY := Nat.le_trans hY DQ.size
  replace AB := AB.below DQ
  replace hAB := Nat.le_trans hAB DQ.size
  replace B := below_next B DQ
  clear DQ
  refine wp_region_held_drew (S := (fun w' => (∀ k_2 : Nat, w'.cell? ⟨b0, k_2, none⟩ = [.int .i64 r.id, .int .i64 r.size, .int .i64 r.view, .bool r.normal, .int .i64 r.last, .slice hh.L.1 hh.L.2.1 hh.L.2.2, .int .i64 r.commit, .slice hh.O.1 hh.O.2.1 hh.O.2.2, .slice hh.A.1 hh.A.2.1 hh.A.2.2, .slice hh.D.1 hh.D.2.1 hh.D.2.2][k_2]?) ∧ (∀ k_2 : Nat, w'.cell? ⟨b1, k_2, none⟩ = [.int .i64 c, .int .i64 bq.id, .int .i64 bq.size, .int .i64 bq.view, .bool bq.normal, .int .i64 bq.last, .slice hB.L.1 hB.L.2.1 hB.L.2.2, .int .i64 bq.commit, .slice hB.O.1 hB.O.2.1 hB.O.2.2, .slice hB.A.1 hB.A.2.1 hB.A.2.2, .slice hB.D.1 hB.D.2.1 hB.D.2.2, .slice sB.1 sB.2.1 sB.2.2][k_2]?))) (by kernel_rfl) ⟨c0, c1⟩ (fun hZq => ?_)
  refine tk 0 hZq ?_
  refine tk 3 hZq ?_
  refine tk 4 hZq ?_
  refine rd1 1 (fun KK hKK => ?_)
  go_simp
  go_at_call 18
  refine (specBeat_is r hh _ Y HSZ.out c bq bm HC.out HBQ.out HBM.out).mono ?_
  rintro e v1 ⟨zS, uS, hS, sS, KS, rfl, -, -, -, -, BB⟩
  replace X0 := X0.below BB
  replace c0 := X0.cell
  replace f0 := X0.froz
  replace X1 := X1.below BB
  replace c1 := X1.cell
  replace f1 := X1.froz
  replace Y := Y.below BB
  replace hY := Nat.le_trans hY BB.size
  replace AB := AB.below BB
  replace hAB := Nat.le_trans hAB BB.size
  replace B := below_next B BB
  have hfi : ∀ W, (Instr.field 33 (.agg #[.int .i64 c, .int .i64 bq.id, .int .i64 bq.size, .int .i64 bq.view, .bool bq.normal, .int .i64 bq.last, .slice hS.L.1 hS.L.2.1 hS.L.2.2, .int .i64 bq.commit, .slice hS.O.1 hS.O.2.1 hS.O.2.2, .slice hS.A.1 hS.A.2.1 hS.A.2.2, .slice hS.D.1 hS.D.2.1 hS.D.2.2, .slice sS.1 sS.2.1 sS.2.2]) 0).run Tryz.prog W = .ok (.int .i64 c) W := fun W => by kernel_rfl
  clear BB
  clear hZq
  refine hKK _ _ ⟨c0, c1⟩ (fun hZq => ?_)
  clear hKK KK
  refine tk 2 hZq ?_
  refine tk 5 hZq ?_
  refine tk 6 hZq ?_
  refine wpAnyH_done (by kernel_rfl) ?_ _
  go_wp2
  go_ret
  exact ⟨by simp, B⟩
 subst q0
 have HRD : Hid (∀ x, x ∈ bm → Heard r.size x) := fun x hx => beats_heard HC.out (by rw [HBM.out]; exact hx)
 have HR0 : Hid (repF bq = 0) := by (show _ = _; rw [← HBQ.out]; exact beQ_rep HC.out)
 have eL : bq.log = r.log := by rw [← HBQ.out]; exact (beQ_log HC.out).1
 have eS : bq.size = r.size := by rw [← HBQ.out]; exact (beQ_log HC.out).2
 have hLq : hB.L.2.1 = hh.L.2.1 := by
  have e1 := AB.rep.log.nSixs
  have e2 := Y.log.nSixs
  rw [eL] at e1
  omega
 have HLQ : Hid _ := hLq
 have HES : Hid _ := eS
 have hsl : bm.length = sB.2.1 := AB.send.len
 have HSL : Hid _ := hsl
 have hs9 : sB.2.1 ≤ 1048576 := HZB.out.n
 clear eL eS hLq hsl
 go_wp2_with (first | ((with_reducible refine sm 33 X1 0 [.int .i64 0, .int .i64 bq.id, .int .i64 bq.size, .int .i64 bq.view, .bool bq.normal, .int .i64 bq.last, .slice hB.L.1 hB.L.2.1 hB.L.2.2, .int .i64 bq.commit, .slice hB.O.1 hB.O.2.1 hB.O.2.2, .slice hB.A.1 hB.A.2.1 hB.A.2.2, .slice hB.D.1 hB.D.2.1 hB.D.2.2, .slice sB.1 sB.2.1 sB.2.2] ?_); intro V2 S; replace X0 := X0.kp S.kept; replace c0 := X0.cell; replace f0 := X0.froz; replace X1 : Bx V2 b1 [.int .i64 0, .int .i64 bq.id, .int .i64 bq.size, .int .i64 bq.view, .bool bq.normal, .int .i64 bq.last, .slice hB.L.1 hB.L.2.1 hB.L.2.2, .int .i64 bq.commit, .slice hB.O.1 hB.O.2.1 hB.O.2.2, .slice hB.A.1 hB.A.2.1 hB.A.2.2, .slice hB.D.1 hB.D.2.1 hB.D.2.2, .slice sB.1 sB.2.1 sB.2.2] := S.bx; replace c1 := X1.cell; replace f1 := X1.froz; replace Y := Y.kept S.kept (by omega); replace hY := Nat.le_trans hY S.kept.size; replace AB := AB.kept S.kept (by omega); replace hAB := Nat.le_trans hAB S.kept.size; replace B := bkp B S.kept; clear S) | ((have g := ob0); clear g; (with_reducible refine al 33 [.int .i64 0, .int .i64 0, .int .i64 0, .int .i64 0, .bool false, .int .i64 0, .slice none 0 0, .int .i64 0, .slice none 0 0, .slice none 0 0, .slice none 0 0, .slice none 0 0] ?_); intro b1 W1 N1; have ob1 := N1.o B; have o0_b1 := N1.u X0; have oY_b1 : uY ≤ b1 := Nat.le_trans hY N1.ge; have oAB_b1 : uB ≤ b1 := Nat.le_trans hAB N1.ge; replace X0 := N1.r X0; replace c0 := X0.cell; replace f0 := X0.froz; replace Y := Y.below N1.below; replace hY := Nat.le_trans hY N1.below.size; replace AB := AB.below N1.below; replace hAB := Nat.le_trans hAB N1.below.size; replace B := N1.n B; obtain ⟨X1, c1, f1⟩ := N1.a; clear N1) | fail)
 have HX0 : Hid _ := X0
 have HX1 : Hid _ := X1
 have HAA : Hid _ := AB
 have HYY : Hid _ := Y
 have HB5 : Hid _ := B
 have HUY : Hid _ := hY
 have HAB : Hid _ := hAB
 clear X0 c0 f0 X1 c1 f1 Y hY AB hAB B
 go_loopw [5, 6] (fun iv _ wr => ∃ k : Nat, k ≤ sB.2.1 ∧ iv = .int .i64 k ∧ Below V2.heap.size V2 wr) (fun iv _ _ => sB.2.1 - (intOf iv).toNat)
 case atStart => exact ⟨0, Nat.zero_le _, rfl, Below.refl _ _⟩
 case round =>
  obtain ⟨k, hk0, rfl, BL⟩ := hrel
  have c1 := (HX1.out.below BL).cell
  by_cases hlt : k < sB.2.1
  ·have hlk : (k : Int) < (sB.2.1 : Int) := by omega
   have BL0 := BL
   go_wp2_with fail
   have DQ : Below wr.heap.size wr wr.drew := (Below.refl _ _).drew
   clear c1
   replace BL := below_next BL DQ
   obtain ⟨b, off, es, lzb, lbu, lbw, e1, RL⟩ := (HAA.out.send.below BL).mailC hlt
   have hmem : bm.getD k ml0 ∈ bm := by
    rw [List.getD_eq_getElem?_getD, List.getElem?_eq_getElem (by rw [HSL.out]; exact hlt)]
    exact List.getElem_mem _
   have HD := HRD.out _ hmem
   clear hmem
   obtain ⟨ml, hml⟩ : ∃ ml, bm.getD k ml0 = ml := ⟨_, rfl⟩
   obtain ⟨hk, hhk⟩ : ∃ hk, KB k = hk := ⟨_, rfl⟩
   rw [hml] at HD RL
   rw [hml, hhk] at e1
   rw [hhk] at RL
   clear hml hhk
   have m0 : wr.drew.cell? ⟨b, off + k * 15, none⟩ = some (.int .i64 ml.kind) := e1 0 (by decide)
   have m1 : wr.drew.cell? ⟨b, off + k * 15 + 1, none⟩ = some (.int .i64 ml.fr) := e1 1 (by decide)
   have m2 : wr.drew.cell? ⟨b, off + k * 15 + 2, none⟩ = some (.int .i64 ml.to) := e1 2 (by decide)
   have m3 : wr.drew.cell? ⟨b, off + k * 15 + 3, none⟩ = some (.int .i64 ml.view) := e1 3 (by decide)
   have m4 : wr.drew.cell? ⟨b, off + k * 15 + 4, none⟩ = some (.int .i64 ml.at_) := e1 4 (by decide)
   have m5 : wr.drew.cell? ⟨b, off + k * 15 + 5, none⟩ = some (.bool ml.has) := e1 5 (by decide)
   have m6 : wr.drew.cell? ⟨b, off + k * 15 + 6, none⟩ = some (.int .i64 ml.en.1) := e1 6 (by decide)
   have m7 : wr.drew.cell? ⟨b, off + k * 15 + 7, none⟩ = some (.int .i64 ml.en.2.1) := e1 7 (by decide)
   have m8 : wr.drew.cell? ⟨b, off + k * 15 + 8, none⟩ = some (.int .i64 ml.en.2.2.1) := e1 8 (by decide)
   have m9 : wr.drew.cell? ⟨b, off + k * 15 + 9, none⟩ = some (.int .i64 ml.en.2.2.2.1) := e1 9 (by decide)
   have m10 : wr.drew.cell? ⟨b, off + k * 15 + 10, none⟩ = some (.int .i64 ml.en.2.2.2.2.1) := e1 10 (by decide)
   have m11 : wr.drew.cell? ⟨b, off + k * 15 + 11, none⟩ = some (.int .i64 ml.en.2.2.2.2.2) := e1 11 (by decide)
   have m12 : wr.drew.cell? ⟨b, off + k * 15 + 12, none⟩ = some (.int .i64 ml.last) := e1 12 (by decide)
   have m13 : wr.drew.cell? ⟨b, off + k * 15 + 13, none⟩ = some (.slice hk.1 hk.2.1 hk.2.2) := e1 13 (by decide)
   have m14 : wr.drew.cell? ⟨b, off + k * 15 + 14, none⟩ = some (.int .i64 ml.commit) := e1 14 (by decide)
   clear e1
   have HCO : Hid (newC ml.to r.size = 0) := HD.new.code
   obtain ⟨q, hq⟩ : ∃ q, newRep ml.to r.size = q := ⟨_, rfl⟩
   have HMF : Hid (mailF q ml = 0) := by (show _ = _; rw [← hq]; exact HD.mail)
   have HQ : Hid _ := hq
   have HQE : Hid (q.log = [] ∧ q.asks = [] ∧ q.doers = []) := by
    show _
    rw [← hq]
    unfold newRep
    split <;> exact ⟨rfl, rfl, rfl⟩
   clear hq HD
   have X0 := HX0.out.below BL
   have c0 := X0.cell
   have X1 := HX1.out.below BL
   rw [es] at X1
   have HEs : Hid _ := es
   clear es
   have c1 := X1.cell
   have hRL : uB ≤ wr.drew.heap.size := Nat.le_trans HAB.out BL.size
   have B : Below wr.heap.size wr wr.drew := DQ
   clear DQ BL
   refine wp_region_held_drew (S := (fun w' => (∀ k_2 : Nat, w'.cell? ⟨b0, k_2, none⟩ = [.int .i64 r.id, .int .i64 r.size, .int .i64 r.view, .bool r.normal, .int .i64 r.last, .slice hh.L.1 hh.L.2.1 hh.L.2.2, .int .i64 r.commit, .slice hh.O.1 hh.O.2.1 hh.O.2.2, .slice hh.A.1 hh.A.2.1 hh.A.2.2, .slice hh.D.1 hh.D.2.1 hh.D.2.2][k_2]?) ∧ (∀ k_2 : Nat, w'.cell? ⟨b1, k_2, none⟩ = [.int .i64 0, .int .i64 bq.id, .int .i64 bq.size, .int .i64 bq.view, .bool bq.normal, .int .i64 bq.last, .slice hB.L.1 hB.L.2.1 hB.L.2.2, .int .i64 bq.commit, .slice hB.O.1 hB.O.2.1 hB.O.2.2, .slice hB.A.1 hB.A.2.1 hB.A.2.2, .slice hB.D.1 hB.D.2.1 hB.D.2.2, .slice (some ⟨b, off, none⟩) sB.2.1 sB.2.2][k_2]?) ∧ w'.cell? ⟨b, off + k * 15 + 2, none⟩ = some (.int .i64 ml.to))) (by kernel_rfl) ⟨c0, c1, m2⟩ (fun hZq => ?_)
   refine tk 0 hZq ?_
   refine tk 1 hZq ?_
   refine tk 2 hZq ?_
   refine tk 3 hZq ?_
   refine tk 4 hZq ?_
   refine tk 5 hZq ?_
   refine tk 6 hZq ?_
   refine tk 7 hZq ?_
   refine wpAnyH_ready (rs := [8, 9]) (by kernel_rfl) (by simp) ?_
   refine (AllReadyH.cons rfl (fun KK hKK => ?_) (AllReadyH.cons rfl (fun KK hKK => ?_) AllReadyH.nil))
   ·go_simp
    go_at_call 20
    refine (implNewR_is ml.to r.size _ 0 q HCO.out HQ.out).mono ?_
    rintro e v1 ⟨oa, on, oc, rfl, hon, R1, BB⟩
    obtain ⟨zO, hzO⟩ : ∃ zO, zO = wr.drew.heap.size := ⟨_, rfl⟩
    obtain ⟨uO, huO⟩ : ∃ uO, uO = v1.heap.size := ⟨_, rfl⟩
    rw [← hzO, ← huO] at R1
    have hR1 : uO ≤ v1.heap.size := Nat.le_of_eq huO
    have lzO : zO ≤ uO := by rw [hzO, huO]; exact BB.size
    clear hzO huO
    replace X0 := X0.below BB
    replace c0 := X0.cell
    replace X1 := X1.below BB
    replace c1 := X1.cell
    replace RL := RL.below BB
    replace hRL := Nat.le_trans hRL BB.size
    replace B := below_next B BB
    replace m0 := cell_later BB m0
    replace m1 := cell_later BB m1
    replace m2 := cell_later BB m2
    replace m3 := cell_later BB m3
    replace m4 := cell_later BB m4
    replace m5 := cell_later BB m5
    replace m6 := cell_later BB m6
    replace m7 := cell_later BB m7
    replace m8 := cell_later BB m8
    replace m9 := cell_later BB m9
    replace m10 := cell_later BB m10
    replace m11 := cell_later BB m11
    replace m12 := cell_later BB m12
    replace m13 := cell_later BB m13
    replace m14 := cell_later BB m14
    clear BB
    clear hZq
    refine hKK _ _ ⟨c0, c1, m2⟩ (fun hZq => ?_)
    clear hKK KK
    refine rd1 9 (fun KK hKK => ?_)
    refine step_allocX 33 [.int .i64 0, .int .i64 0, .int .i64 0, .int .i64 0, .bool false, .int .i64 0, .slice none 0 0, .int .i64 0, .slice none 0 0, .slice none 0 0, .slice none 0 0, .slice none 0 0] (fun _ => by kernel_rfl) ?_
    intro b2 W2 N2
    have ob2 := N2.o B
    have o0_b2 := N2.u X0
    have o1_b2 := N2.u X1
    have oRL_b2 : uB ≤ b2 := Nat.le_trans hRL N2.ge
    have oR1_b2 : uO ≤ b2 := Nat.le_trans hR1 N2.ge
    replace X0 := N2.r X0
    replace c0 := X0.cell
    replace X1 := N2.r X1
    replace c1 := X1.cell
    replace RL := RL.below N2.below
    replace hRL := Nat.le_trans hRL N2.below.size
    replace R1 := R1.below N2.below
    replace hR1 := Nat.le_trans hR1 N2.below.size
    replace B := N2.n B
    replace m0 := cell_later N2.below m0
    replace m1 := cell_later N2.below m1
    replace m2 := cell_later N2.below m2
    replace m3 := cell_later N2.below m3
    replace m4 := cell_later N2.below m4
    replace m5 := cell_later N2.below m5
    replace m6 := cell_later N2.below m6
    replace m7 := cell_later N2.below m7
    replace m8 := cell_later N2.below m8
    replace m9 := cell_later N2.below m9
    replace m10 := cell_later N2.below m10
    replace m11 := cell_later N2.below m11
    replace m12 := cell_later N2.below m12
    replace m13 := cell_later N2.below m13
    replace m14 := cell_later N2.below m14
    obtain ⟨X2, c2, f2⟩ := N2.a
    clear N2
    clear hZq
    refine hKK _ _ ⟨c0, c1, m2⟩ (fun hZq => ?_)
    clear hKK KK
    refine rd1 10 (fun KK hKK => ?_)
    refine step_midX 33 X2 0 [.int .i64 0, .int .i64 q.id, .int .i64 q.size, .int .i64 q.view, .bool q.normal, .int .i64 q.last, .slice none 0 0, .int .i64 q.commit, .slice oa on oc, .slice none 0 0, .slice none 0 0, .slice none 0 0] (by simp) (by kernel_rfl) (by simp [Value.oneCell']) rfl rfl ?_
    intro V1 S
    replace X0 := X0.kp S.kept
    replace c0 := X0.cell
    replace X1 := X1.kp S.kept
    replace c1 := X1.cell
    replace X2 : Bx V1 b2 [.int .i64 0, .int .i64 q.id, .int .i64 q.size, .int .i64 q.view, .bool q.normal, .int .i64 q.last, .slice none 0 0, .int .i64 q.commit, .slice oa on oc, .slice none 0 0, .slice none 0 0, .slice none 0 0] := S.bx
    replace c2 := X2.cell
    replace f2 := X2.froz
    replace RL := RL.kept S.kept (by omega)
    replace hRL := Nat.le_trans hRL S.kept.size
    replace R1 := R1.kept S.kept (by omega)
    replace hR1 := Nat.le_trans hR1 S.kept.size
    replace B := bkp B S.kept
    replace m0 := S.kept.cell m0 (by omega)
    replace m1 := S.kept.cell m1 (by omega)
    replace m2 := S.kept.cell m2 (by omega)
    replace m3 := S.kept.cell m3 (by omega)
    replace m4 := S.kept.cell m4 (by omega)
    replace m5 := S.kept.cell m5 (by omega)
    replace m6 := S.kept.cell m6 (by omega)
    replace m7 := S.kept.cell m7 (by omega)
    replace m8 := S.kept.cell m8 (by omega)
    replace m9 := S.kept.cell m9 (by omega)
    replace m10 := S.kept.cell m10 (by omega)
    replace m11 := S.kept.cell m11 (by omega)
    replace m12 := S.kept.cell m12 (by omega)
    replace m13 := S.kept.cell m13 (by omega)
    replace m14 := S.kept.cell m14 (by omega)
    clear S
    clear hZq
    refine hKK _ _ ⟨c0, c1, m2⟩ (fun hZq => ?_)
    clear hKK KK
    refine wpAnyH_done (by kernel_rfl) ?_ _
    go_wp2_with fail
    have DQ : Below V1.heap.size V1 V1.drew := (Below.refl _ _).drew
    replace X0 := X0.below DQ
    replace c0 := X0.cell
    replace X1 := X1.below DQ
    replace c1 := X1.cell
    replace X2 := X2.below DQ
    replace c2 := X2.cell
    replace f2 := X2.froz
    replace RL := RL.below DQ
    replace hRL := Nat.le_trans hRL DQ.size
    replace R1 := R1.below DQ
    replace hR1 := Nat.le_trans hR1 DQ.size
    replace B := below_next B DQ
    replace m0 := cell_later DQ m0
    replace m1 := cell_later DQ m1
    replace m2 := cell_later DQ m2
    replace m3 := cell_later DQ m3
    replace m4 := cell_later DQ m4
    replace m5 := cell_later DQ m5
    replace m6 := cell_later DQ m6
    replace m7 := cell_later DQ m7
    replace m8 := cell_later DQ m8
    replace m9 := cell_later DQ m9
    replace m10 := cell_later DQ m10
    replace m11 := cell_later DQ m11
    replace m12 := cell_later DQ m12
    replace m13 := cell_later DQ m13
    replace m14 := cell_later DQ m14
    clear DQ
    refine wp_region_held_drew (S := (fun w' => (∀ k_2 : Nat, w'.cell? ⟨b1, k_2, none⟩ = [.int .i64 0, .int .i64 bq.id, .int .i64 bq.size, .int .i64 bq.view, .bool bq.normal, .int .i64 bq.last, .slice hB.L.1 hB.L.2.1 hB.L.2.2, .int .i64 bq.commit, .slice hB.O.1 hB.O.2.1 hB.O.2.2, .slice hB.A.1 hB.A.2.1 hB.A.2.2, .slice hB.D.1 hB.D.2.1 hB.D.2.2, .slice (some ⟨b, off, none⟩) sB.2.1 sB.2.2][k_2]?) ∧ (∀ k_2 : Nat, w'.cell? ⟨b2, k_2, none⟩ = [.int .i64 0, .int .i64 q.id, .int .i64 q.size, .int .i64 q.view, .bool q.normal, .int .i64 q.last, .slice none 0 0, .int .i64 q.commit, .slice oa on oc, .slice none 0 0, .slice none 0 0, .slice none 0 0][k_2]?) ∧ w'.cell? ⟨b, off + k * 15, none⟩ = some (.int .i64 ml.kind) ∧ w'.cell? ⟨b, off + k * 15 + 1, none⟩ = some (.int .i64 ml.fr) ∧ w'.cell? ⟨b, off + k * 15 + 2, none⟩ = some (.int .i64 ml.to) ∧ w'.cell? ⟨b, off + k * 15 + 3, none⟩ = some (.int .i64 ml.view) ∧ w'.cell? ⟨b, off + k * 15 + 4, none⟩ = some (.int .i64 ml.at_) ∧ w'.cell? ⟨b, off + k * 15 + 5, none⟩ = some (.bool ml.has) ∧ w'.cell? ⟨b, off + k * 15 + 6, none⟩ = some (.int .i64 ml.en.1) ∧ w'.cell? ⟨b, off + k * 15 + 7, none⟩ = some (.int .i64 ml.en.2.1) ∧ w'.cell? ⟨b, off + k * 15 + 8, none⟩ = some (.int .i64 ml.en.2.2.1) ∧ w'.cell? ⟨b, off + k * 15 + 9, none⟩ = some (.int .i64 ml.en.2.2.2.1) ∧ w'.cell? ⟨b, off + k * 15 + 10, none⟩ = some (.int .i64 ml.en.2.2.2.2.1) ∧ w'.cell? ⟨b, off + k * 15 + 11, none⟩ = some (.int .i64 ml.en.2.2.2.2.2) ∧ w'.cell? ⟨b, off + k * 15 + 12, none⟩ = some (.int .i64 ml.last) ∧ w'.cell? ⟨b, off + k * 15 + 13, none⟩ = some (.slice hk.1 hk.2.1 hk.2.2) ∧ w'.cell? ⟨b, off + k * 15 + 14, none⟩ = some (.int .i64 ml.commit))) (by kernel_rfl) ⟨c1, c2, m0, m1, m2, m3, m4, m5, m6, m7, m8, m9, m10, m11, m12, m13, m14⟩ (fun hZq => ?_)
    refine tk 0 hZq ?_
    refine tk 1 hZq ?_
    refine tk 2 hZq ?_
    refine tk 3 hZq ?_
    refine tk 4 hZq ?_
    refine tk 5 hZq ?_
    refine tk 6 hZq ?_
    refine tk 7 hZq ?_
    refine tk 8 hZq ?_
    refine tk 9 hZq ?_
    refine tk 10 hZq ?_
    refine rd1 11 (fun KK hKK => ?_)
    go_simp
    go_at_call 21
    refine (implMF_is q ⟨(none, 0, 0), (oa, on, oc), (none, 0, 0), (none, 0, 0), fun _ => (none, 0, 0)⟩ ml hk _ (rep_oks HQE.out.1 HQE.out.2.1 HQE.out.2.2 R1) (sz_oks (by omega)) RL 0 HMF.out).mono ?_
    rintro e v2 ⟨rfl, BB⟩
    replace X0 := X0.below BB
    replace c0 := X0.cell
    replace X1 := X1.below BB
    replace c1 := X1.cell
    replace X2 := X2.below BB
    replace c2 := X2.cell
    replace f2 := X2.froz
    replace RL := RL.below BB
    replace hRL := Nat.le_trans hRL BB.size
    replace R1 := R1.below BB
    replace hR1 := Nat.le_trans hR1 BB.size
    replace B := below_next B BB
    replace m0 := cell_later BB m0
    replace m1 := cell_later BB m1
    replace m2 := cell_later BB m2
    replace m3 := cell_later BB m3
    replace m4 := cell_later BB m4
    replace m5 := cell_later BB m5
    replace m6 := cell_later BB m6
    replace m7 := cell_later BB m7
    replace m8 := cell_later BB m8
    replace m9 := cell_later BB m9
    replace m10 := cell_later BB m10
    replace m11 := cell_later BB m11
    replace m12 := cell_later BB m12
    replace m13 := cell_later BB m13
    replace m14 := cell_later BB m14
    clear BB
    clear hZq
    refine hKK _ _ ⟨c1, c2, m0, m1, m2, m3, m4, m5, m6, m7, m8, m9, m10, m11, m12, m13, m14⟩ (fun hZq => ?_)
    clear hKK KK
    refine tk 12 hZq ?_
    refine tk 13 hZq ?_
    refine wpAnyH_done (by kernel_rfl) ?_ _
    have HBL : Hid (Below V2.heap.size V2 v2) := below_next BL0 B
    clear BL0 B X0 X1 X2 c0 c1 c2 R1 RL hRL hR1 m0 m1 m2 m3 m4 m5 m6 m7 m8 m9 m10 m11 m12 m13 m14
    try clear f2
    try simp only [Bool.not_true, Bool.not_false]
    go_wp2
    go_roundw
    case rel => exact ⟨k + 1, by omega, by go_num, HBL.out⟩
    case measure => simp [intOf]; omega
   ·refine step_allocX 33 [.int .i64 0, .int .i64 0, .int .i64 0, .int .i64 0, .bool false, .int .i64 0, .slice none 0 0, .int .i64 0, .slice none 0 0, .slice none 0 0, .slice none 0 0, .slice none 0 0] (fun _ => by kernel_rfl) ?_
    intro b2 W2 N2
    have ob2 := N2.o B
    have o0_b2 := N2.u X0
    have o1_b2 := N2.u X1
    have oRL_b2 : uB ≤ b2 := Nat.le_trans hRL N2.ge
    replace X0 := N2.r X0
    replace c0 := X0.cell
    replace X1 := N2.r X1
    replace c1 := X1.cell
    replace RL := RL.below N2.below
    replace hRL := Nat.le_trans hRL N2.below.size
    replace B := N2.n B
    replace m0 := cell_later N2.below m0
    replace m1 := cell_later N2.below m1
    replace m2 := cell_later N2.below m2
    replace m3 := cell_later N2.below m3
    replace m4 := cell_later N2.below m4
    replace m5 := cell_later N2.below m5
    replace m6 := cell_later N2.below m6
    replace m7 := cell_later N2.below m7
    replace m8 := cell_later N2.below m8
    replace m9 := cell_later N2.below m9
    replace m10 := cell_later N2.below m10
    replace m11 := cell_later N2.below m11
    replace m12 := cell_later N2.below m12
    replace m13 := cell_later N2.below m13
    replace m14 := cell_later N2.below m14
    obtain ⟨X2, c2, f2⟩ := N2.a
    clear N2
    clear hZq
    refine hKK _ _ ⟨c0, c1, m2⟩ (fun hZq => ?_)
    clear hKK KK
    refine rd1 8 (fun KK hKK => ?_)
    go_simp
    go_at_call 20
    refine (implNewR_is ml.to r.size _ 0 q HCO.out HQ.out).mono ?_
    rintro e v1 ⟨oa, on, oc, rfl, hon, R1, BB⟩
    obtain ⟨zO, hzO⟩ : ∃ zO, zO = W2.heap.size := ⟨_, rfl⟩
    obtain ⟨uO, huO⟩ : ∃ uO, uO = v1.heap.size := ⟨_, rfl⟩
    have o2O : b2 < zO := by rw [hzO]; exact X2.lt
    rw [← hzO, ← huO] at R1
    have hR1 : uO ≤ v1.heap.size := Nat.le_of_eq huO
    have lzO : zO ≤ uO := by rw [hzO, huO]; exact BB.size
    clear hzO huO
    replace X0 := X0.below BB
    replace c0 := X0.cell
    replace X1 := X1.below BB
    replace c1 := X1.cell
    replace X2 := X2.below BB
    replace c2 := X2.cell
    replace f2 := X2.froz
    replace RL := RL.below BB
    replace hRL := Nat.le_trans hRL BB.size
    replace B := below_next B BB
    replace m0 := cell_later BB m0
    replace m1 := cell_later BB m1
    replace m2 := cell_later BB m2
    replace m3 := cell_later BB m3
    replace m4 := cell_later BB m4
    replace m5 := cell_later BB m5
    replace m6 := cell_later BB m6
    replace m7 := cell_later BB m7
    replace m8 := cell_later BB m8
    replace m9 := cell_later BB m9
    replace m10 := cell_later BB m10
    replace m11 := cell_later BB m11
    replace m12 := cell_later BB m12
    replace m13 := cell_later BB m13
    replace m14 := cell_later BB m14
    clear BB
    clear hZq
    refine hKK _ _ ⟨c0, c1, m2⟩ (fun hZq => ?_)
    clear hKK KK
    refine rd1 10 (fun KK hKK => ?_)
    refine step_midX 33 X2 0 [.int .i64 0, .int .i64 q.id, .int .i64 q.size, .int .i64 q.view, .bool q.normal, .int .i64 q.last, .slice none 0 0, .int .i64 q.commit, .slice oa on oc, .slice none 0 0, .slice none 0 0, .slice none 0 0] (by simp) (by kernel_rfl) (by simp [Value.oneCell']) rfl rfl ?_
    intro V1 S
    replace X0 := X0.kp S.kept
    replace c0 := X0.cell
    replace X1 := X1.kp S.kept
    replace c1 := X1.cell
    replace X2 : Bx V1 b2 [.int .i64 0, .int .i64 q.id, .int .i64 q.size, .int .i64 q.view, .bool q.normal, .int .i64 q.last, .slice none 0 0, .int .i64 q.commit, .slice oa on oc, .slice none 0 0, .slice none 0 0, .slice none 0 0] := S.bx
    replace c2 := X2.cell
    replace f2 := X2.froz
    replace RL := RL.kept S.kept (by omega)
    replace hRL := Nat.le_trans hRL S.kept.size
    replace R1 := R1.kept S.kept (by omega)
    replace hR1 := Nat.le_trans hR1 S.kept.size
    replace B := bkp B S.kept
    replace m0 := S.kept.cell m0 (by omega)
    replace m1 := S.kept.cell m1 (by omega)
    replace m2 := S.kept.cell m2 (by omega)
    replace m3 := S.kept.cell m3 (by omega)
    replace m4 := S.kept.cell m4 (by omega)
    replace m5 := S.kept.cell m5 (by omega)
    replace m6 := S.kept.cell m6 (by omega)
    replace m7 := S.kept.cell m7 (by omega)
    replace m8 := S.kept.cell m8 (by omega)
    replace m9 := S.kept.cell m9 (by omega)
    replace m10 := S.kept.cell m10 (by omega)
    replace m11 := S.kept.cell m11 (by omega)
    replace m12 := S.kept.cell m12 (by omega)
    replace m13 := S.kept.cell m13 (by omega)
    replace m14 := S.kept.cell m14 (by omega)
    clear S
    clear hZq
    refine hKK _ _ ⟨c0, c1, m2⟩ (fun hZq => ?_)
    clear hKK KK
    refine wpAnyH_done (by kernel_rfl) ?_ _
    go_wp2_with fail
    have DQ : Below V1.heap.size V1 V1.drew := (Below.refl _ _).drew
    replace X0 := X0.below DQ
    replace c0 := X0.cell
    replace X1 := X1.below DQ
    replace c1 := X1.cell
    replace X2 := X2.below DQ
    replace c2 := X2.cell
    replace f2 := X2.froz
    replace RL := RL.below DQ
    replace hRL := Nat.le_trans hRL DQ.size
    replace R1 := R1.below DQ
    replace hR1 := Nat.le_trans hR1 DQ.size
    replace B := below_next B DQ
    replace m0 := cell_later DQ m0
    replace m1 := cell_later DQ m1
    replace m2 := cell_later DQ m2
    replace m3 := cell_later DQ m3
    replace m4 := cell_later DQ m4
    replace m5 := cell_later DQ m5
    replace m6 := cell_later DQ m6
    replace m7 := cell_later DQ m7
    replace m8 := cell_later DQ m8
    replace m9 := cell_later DQ m9
    replace m10 := cell_later DQ m10
    replace m11 := cell_later DQ m11
    replace m12 := cell_later DQ m12
    replace m13 := cell_later DQ m13
    replace m14 := cell_later DQ m14
    clear DQ
    refine wp_region_held_drew (S := (fun w' => (∀ k_2 : Nat, w'.cell? ⟨b1, k_2, none⟩ = [.int .i64 0, .int .i64 bq.id, .int .i64 bq.size, .int .i64 bq.view, .bool bq.normal, .int .i64 bq.last, .slice hB.L.1 hB.L.2.1 hB.L.2.2, .int .i64 bq.commit, .slice hB.O.1 hB.O.2.1 hB.O.2.2, .slice hB.A.1 hB.A.2.1 hB.A.2.2, .slice hB.D.1 hB.D.2.1 hB.D.2.2, .slice (some ⟨b, off, none⟩) sB.2.1 sB.2.2][k_2]?) ∧ (∀ k_2 : Nat, w'.cell? ⟨b2, k_2, none⟩ = [.int .i64 0, .int .i64 q.id, .int .i64 q.size, .int .i64 q.view, .bool q.normal, .int .i64 q.last, .slice none 0 0, .int .i64 q.commit, .slice oa on oc, .slice none 0 0, .slice none 0 0, .slice none 0 0][k_2]?) ∧ w'.cell? ⟨b, off + k * 15, none⟩ = some (.int .i64 ml.kind) ∧ w'.cell? ⟨b, off + k * 15 + 1, none⟩ = some (.int .i64 ml.fr) ∧ w'.cell? ⟨b, off + k * 15 + 2, none⟩ = some (.int .i64 ml.to) ∧ w'.cell? ⟨b, off + k * 15 + 3, none⟩ = some (.int .i64 ml.view) ∧ w'.cell? ⟨b, off + k * 15 + 4, none⟩ = some (.int .i64 ml.at_) ∧ w'.cell? ⟨b, off + k * 15 + 5, none⟩ = some (.bool ml.has) ∧ w'.cell? ⟨b, off + k * 15 + 6, none⟩ = some (.int .i64 ml.en.1) ∧ w'.cell? ⟨b, off + k * 15 + 7, none⟩ = some (.int .i64 ml.en.2.1) ∧ w'.cell? ⟨b, off + k * 15 + 8, none⟩ = some (.int .i64 ml.en.2.2.1) ∧ w'.cell? ⟨b, off + k * 15 + 9, none⟩ = some (.int .i64 ml.en.2.2.2.1) ∧ w'.cell? ⟨b, off + k * 15 + 10, none⟩ = some (.int .i64 ml.en.2.2.2.2.1) ∧ w'.cell? ⟨b, off + k * 15 + 11, none⟩ = some (.int .i64 ml.en.2.2.2.2.2) ∧ w'.cell? ⟨b, off + k * 15 + 12, none⟩ = some (.int .i64 ml.last) ∧ w'.cell? ⟨b, off + k * 15 + 13, none⟩ = some (.slice hk.1 hk.2.1 hk.2.2) ∧ w'.cell? ⟨b, off + k * 15 + 14, none⟩ = some (.int .i64 ml.commit))) (by kernel_rfl) ⟨c1, c2, m0, m1, m2, m3, m4, m5, m6, m7, m8, m9, m10, m11, m12, m13, m14⟩ (fun hZq => ?_)
    refine tk 0 hZq ?_
    refine tk 1 hZq ?_
    refine tk 2 hZq ?_
    refine tk 3 hZq ?_
    refine tk 4 hZq ?_
    refine tk 5 hZq ?_
    refine tk 6 hZq ?_
    refine tk 7 hZq ?_
    refine tk 8 hZq ?_
    refine tk 9 hZq ?_
    refine tk 10 hZq ?_
    refine rd1 11 (fun KK hKK => ?_)
    go_simp
    go_at_call 21
    refine (implMF_is q ⟨(none, 0, 0), (oa, on, oc), (none, 0, 0), (none, 0, 0), fun _ => (none, 0, 0)⟩ ml hk _ (rep_oks HQE.out.1 HQE.out.2.1 HQE.out.2.2 R1) (sz_oks (by omega)) RL 0 HMF.out).mono ?_
    rintro e v2 ⟨rfl, BB⟩
    replace X0 := X0.below BB
    replace c0 := X0.cell
    replace X1 := X1.below BB
    replace c1 := X1.cell
    replace X2 := X2.below BB
    replace c2 := X2.cell
    replace f2 := X2.froz
    replace RL := RL.below BB
    replace hRL := Nat.le_trans hRL BB.size
    replace R1 := R1.below BB
    replace hR1 := Nat.le_trans hR1 BB.size
    replace B := below_next B BB
    replace m0 := cell_later BB m0
    replace m1 := cell_later BB m1
    replace m2 := cell_later BB m2
    replace m3 := cell_later BB m3
    replace m4 := cell_later BB m4
    replace m5 := cell_later BB m5
    replace m6 := cell_later BB m6
    replace m7 := cell_later BB m7
    replace m8 := cell_later BB m8
    replace m9 := cell_later BB m9
    replace m10 := cell_later BB m10
    replace m11 := cell_later BB m11
    replace m12 := cell_later BB m12
    replace m13 := cell_later BB m13
    replace m14 := cell_later BB m14
    clear BB
    clear hZq
    refine hKK _ _ ⟨c1, c2, m0, m1, m2, m3, m4, m5, m6, m7, m8, m9, m10, m11, m12, m13, m14⟩ (fun hZq => ?_)
    clear hKK KK
    refine tk 12 hZq ?_
    refine tk 13 hZq ?_
    refine wpAnyH_done (by kernel_rfl) ?_ _
    have HBL : Hid (Below V2.heap.size V2 v2) := below_next BL0 B
    clear BL0 B X0 X1 X2 c0 c1 c2 R1 RL hRL hR1 m0 m1 m2 m3 m4 m5 m6 m7 m8 m9 m10 m11 m12 m13 m14
    try clear f2
    try simp only [Bool.not_true, Bool.not_false]
    go_wp2
    go_roundw
    case rel => exact ⟨k + 1, by omega, by go_num, HBL.out⟩
    case measure => simp [intOf]; omega
  ·obtain rfl : k = sB.2.1 := by omega
   go_wp2_with fail
   have BL0 := BL
   have DQ : Below wr.heap.size wr wr.drew := (Below.refl _ _).drew
   clear c1
   replace BL := below_next BL DQ
   clear DQ
   have X0 := HX0.out.below BL
   have c0 := X0.cell
   have X1 := HX1.out.below BL
   have c1 := X1.cell
   have Y := HYY.out.below BL
   have AB := HAA.out.below BL
   have hY : uY ≤ wr.drew.heap.size := Nat.le_trans HUY.out BL.size
   have hAB : uB ≤ wr.drew.heap.size := Nat.le_trans HAB.out BL.size
   have B : Below w0.heap.size w0 wr.drew := below_next HB5.out BL
   clear BL BL0
   have z2 : ((hB.L.2.1 : Int) == (hh.L.2.1 : Int)) = true := by rw [HLQ.out]; simp
   have z3 : (bq.size == r.size) = true := by rw [HES.out]; simp
   refine wp_region_held_drew (S := (fun w' => (∀ k_2 : Nat, w'.cell? ⟨b0, k_2, none⟩ = [.int .i64 r.id, .int .i64 r.size, .int .i64 r.view, .bool r.normal, .int .i64 r.last, .slice hh.L.1 hh.L.2.1 hh.L.2.2, .int .i64 r.commit, .slice hh.O.1 hh.O.2.1 hh.O.2.2, .slice hh.A.1 hh.A.2.1 hh.A.2.2, .slice hh.D.1 hh.D.2.1 hh.D.2.2][k_2]?) ∧ (∀ k_2 : Nat, w'.cell? ⟨b1, k_2, none⟩ = [.int .i64 0, .int .i64 bq.id, .int .i64 bq.size, .int .i64 bq.view, .bool bq.normal, .int .i64 bq.last, .slice hB.L.1 hB.L.2.1 hB.L.2.2, .int .i64 bq.commit, .slice hB.O.1 hB.O.2.1 hB.O.2.2, .slice hB.A.1 hB.A.2.1 hB.A.2.2, .slice hB.D.1 hB.D.2.1 hB.D.2.2, .slice sB.1 sB.2.1 sB.2.2][k_2]?))) (by kernel_rfl) ⟨c0, c1⟩ (fun hZq => ?_)
   refine tk 0 hZq ?_
   refine tk 1 hZq ?_
   refine tk 2 hZq ?_
   refine tk 3 hZq ?_
   refine rd1 4 (fun KK hKK => ?_)
   go_simp
   go_at_call 18
   refine (specBeat_is r hh _ Y HSZ.out 0 bq bm HC.out HBQ.out HBM.out).mono ?_
   rintro e v1 ⟨zS, uS, hS, sS, KS, rfl, -, -, SS, -, BB⟩
   replace X0 := X0.below BB
   replace c0 := X0.cell
   replace X1 := X1.below BB
   replace c1 := X1.cell
   replace Y := Y.below BB
   replace hY := Nat.le_trans hY BB.size
   replace AB := AB.below BB
   replace hAB := Nat.le_trans hAB BB.size
   replace B := below_next B BB
   have hf2 : ∀ W, (Instr.field 33 (.agg #[.int .i64 0, .int .i64 bq.id, .int .i64 bq.size, .int .i64 bq.view, .bool bq.normal, .int .i64 bq.last, .slice hS.L.1 hS.L.2.1 hS.L.2.2, .int .i64 bq.commit, .slice hS.O.1 hS.O.2.1 hS.O.2.2, .slice hS.A.1 hS.A.2.1 hS.A.2.2, .slice hS.D.1 hS.D.2.1 hS.D.2.2, .slice sS.1 sS.2.1 sS.2.2]) 2).run Tryz.prog W = .ok (.slice sS.1 sS.2.1 sS.2.2) W := fun W => by kernel_rfl
   have y6 : ((sB.2.1 : Int) == (sS.2.1 : Int)) = true := by
    have e2 := SS.send.len
    rw [← HSL.out, ← e2]; simp
   clear BB
   clear hZq
   refine hKK _ _ ⟨c0, c1⟩ (fun hZq => ?_)
   clear hKK KK
   refine tk 5 hZq ?_
   refine tk 6 hZq ?_
   refine tk 7 hZq ?_
   refine tk 8 hZq ?_
   refine tk 9 hZq ?_
   refine tk 10 hZq ?_
   refine rd1 11 (fun KK hKK => ?_)
   go_simp
   go_at_call 13
   refine (implRF_is bq hB _ AB.rep (HZB.out.rep.mono (by omega)) 0 HR0.out).mono ?_
   rintro e v2 ⟨rfl, BB⟩
   replace X0 := X0.below BB
   replace c0 := X0.cell
   replace X1 := X1.below BB
   replace c1 := X1.cell
   replace Y := Y.below BB
   replace hY := Nat.le_trans hY BB.size
   replace AB := AB.below BB
   replace hAB := Nat.le_trans hAB BB.size
   replace B := below_next B BB
   clear BB
   clear hZq
   refine hKK _ _ ⟨c0, c1⟩ (fun hZq => ?_)
   clear hKK KK
   refine tk 12 hZq ?_
   refine tk 13 hZq ?_
   refine tk 14 hZq ?_
   refine tk 15 hZq ?_
   refine tk 16 hZq ?_
   refine tk 17 hZq ?_
   refine tk 18 hZq ?_
   refine tk 19 hZq ?_
   refine tk 20 hZq ?_
   refine tk 21 hZq ?_
   refine tk 22 hZq ?_
   refine tk 23 hZq ?_
   refine tk 24 hZq ?_
   refine tk 25 hZq ?_
   refine tk 26 hZq ?_
   refine tk 27 hZq ?_
   refine tk 28 hZq ?_
   refine tk 29 hZq ?_
   refine tk 30 hZq ?_
   refine tk 31 hZq ?_
   refine tk 32 hZq ?_
   refine wpAnyH_done (by kernel_rfl) ?_ _
   go_wp2
   go_ret
   exact ⟨by simp, B⟩
end Go.Proofs.YtonclmbihhdkpaaGreat
