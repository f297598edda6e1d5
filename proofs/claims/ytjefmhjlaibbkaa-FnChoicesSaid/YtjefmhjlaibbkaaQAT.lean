/- Chapter 9: a MailPrepare is sent, by the program. -/
import Derived.Test.YtjefmhjlaibbkaaQAF
import Derived.Test.YtjefmhjlaibbkaaQAB
import Derived.Test.YtjefmhjlaibbkaaQAL
import Derived.Deep.DeepCutAuto
import Derived.Deep.RegionLaw
import Derived.OwnWalk
import Derived.Test.YtjefmhjlaibbkaaQAG
import Derived.Test.YtjefmhjlaibbkaaVY
import Derived.Test.YtjefmhjlaibbkaaQAP
import Derived.Deep.MidRow
import Derived.Deep.RegionHeld3
import Derived.Deep.WholeRow
import Derived.Test.YtjefmhjlaibbkaaQAE
set_option maxRecDepth 20000
set_option maxHeartbeats 16000000
namespace Go.Proofs.Ytjefmhjlaibbkaa
open Go.RowKit
structure OwnE (w : World) (z ue : Nat) (v : Value) (n : Nat) (xs : List En) : Prop where
 own : w.ownsRow z 97 6 v n (sixs xs)
 lt : ∀ g, v.ownBlock = some g → g < ue
theorem l1Max9_is (x y : Int) (w : World) : Calls Try.prog 47 #[.int .i64 x, .int .i64 y] w fun e w' => e = .returned (.int .i64 (max x y)) ∧ w' = w := by
 by_cases h : y < x
 ·have h' : max x y = x := by omega
  rw [h']
  go_enter Try.func47, Try.ntmps47
  go_wp2
  go_ret
  exact ⟨rfl, rfl⟩
 ·have h' : max x y = y := by omega
  rw [h']
  go_enter Try.func47, Try.ntmps47
  go_wp2
  go_ret
  exact ⟨rfl, rfl⟩
def ChgDrawn (w w' : World) (e : Ending) : Prop := ∃ (r : Rep) (hh : RH), e = .returned (.agg #[.int .i64 r.id, .int .i64 r.size, .int .i64 r.view, .bool r.normal, .int .i64 r.last, .slice hh.L.1 hh.L.2.1 hh.L.2.2, .int .i64 r.commit, .slice hh.O.1 hh.O.2.1 hh.O.2.2, .slice hh.A.1 hh.A.2.1 hh.A.2.2, .slice hh.D.1 hh.D.2.1 hh.D.2.2]) ∧ RepAt w' true w.heap.size w'.heap.size hh r ∧ RSz hh 1001 ∧ Below w.heap.size w w'
theorem l10Changing_any {o : Bool} {lo hi : Nat} (ac : Option Addr) (nc cc : Nat) (bs : List Nat) (w0 : World) (hr : RowAt w0 o lo hi 1 ac nc cc (bys bs)) (hb : ∀ i, bs.getD i 0 < 256) (hhi : hi ≤ w0.heap.size) (hc : nc ≤ 1048576) : Calls Try.prog 19 #[.slice ac nc cc] w0 fun e w' => ChgDrawn w0 w' e := by
 go_enter Try.func19, Try.ntmps19
 go_wp2_with (first | ((with_reducible refine al 29 [.int .i64 0, .int .i64 0, .int .i64 0, .bool false, .int .i64 0, .slice none 0 0, .int .i64 0, .slice none 0 0, .slice none 0 0, .slice none 0 0] ?_); intro b0 W0 N0; have ob0 := N0.ge; have B := N0.below; obtain ⟨X0, c0, f0⟩ := N0.a; clear N0) | fail)
 have lt0 := X0.lt
 obtain ⟨g, hgE⟩ : ∃ g, g = W0.heap.size := ⟨_, rfl⟩
 rw [← hgE] at lt0
 have lwg : w0.heap.size ≤ g := by rw [hgE]; exact B.size
 refine (l1Source_any _ _ _ _).mono ?_
 rintro e w ⟨rfl, s1, BB, hsz⟩
 rw [← hgE]
 rw [← hgE] at s1 hsz
 have h : SB w g 0 ac nc cc bs := ⟨s1, ⟨_, _, _, (hr.below B).below BB, Or.inl (by omega)⟩, hb, hc⟩
 replace X0 := X0.below BB
 replace c0 := X0.cell
 replace f0 := X0.froz
 replace B := below_next B BB
 clear BB s1 hgE
 have hg : g < w.heap.size := by omega
 have KP : Kept g (g + 1) w w := Kept.refl _ _ _
 have D := h
 have HB0 : Hid _ := B
 clear B hsz
 go_wp2_with fail
 refine (l9Bent_any g 0 ac nc cc bs _ D (by omega)).mono ?_
 rintro e w1 ⟨r, hh, p', rfl, Y, SZ, hp', D', K'⟩
 obtain ⟨zY, hzY⟩ : ∃ zY, zY = w.heap.size := ⟨_, rfl⟩
 obtain ⟨uY, huY⟩ : ∃ uY, uY = w1.heap.size := ⟨_, rfl⟩
 rw [← hzY, ← huY] at Y
 have lgY : g + 1 ≤ zY := by (have := KP.size; omega)
 have hY : uY ≤ w1.heap.size := Nat.le_of_eq huY
 clear hzY huY
 replace X0 := X0.kept K' (by omega)
 replace c0 := X0.cell
 replace f0 := X0.froz
 replace KP := KP.trans K'
 replace D := D'
 clear D' K'
 obtain ⟨nm, hnm⟩ : ∃ nm, r.normal = nm := ⟨_, rfl⟩
 rw [hnm]
 have HNM : Hid _ := hnm
 clear hnm
 go_upto_region 4 with (first | ((with_reducible refine sm 29 X1 0 [.int .i64 r.id, .int .i64 r.size, .int .i64 r.view, .bool nm, .int .i64 r.last, .slice hh.L.1 hh.L.2.1 hh.L.2.2, .int .i64 r.commit, .slice hh.O.1 hh.O.2.1 hh.O.2.2, .slice hh.A.1 hh.A.2.1 hh.A.2.2, .slice hh.D.1 hh.D.2.1 hh.D.2.2] ?_); intro V1 S; replace X0 := X0.kp S.kept; replace c0 := X0.cell; replace f0 := X0.froz; replace X1 : Bx V1 b1 [.int .i64 r.id, .int .i64 r.size, .int .i64 r.view, .bool nm, .int .i64 r.last, .slice hh.L.1 hh.L.2.1 hh.L.2.2, .int .i64 r.commit, .slice hh.O.1 hh.O.2.1 hh.O.2.2, .slice hh.A.1 hh.A.2.1 hh.A.2.2, .slice hh.D.1 hh.D.2.1 hh.D.2.2] := S.bx; replace c1 := X1.cell; replace f1 := X1.froz; replace Y := Y.kept S.kept (by omega); replace hY := Nat.le_trans hY S.kept.size; replace KP := KP.low (S.kept.below _ (by omega) KP.size); replace D := h.move KP (D.src.kept S.kept (by omega)); clear S) | ((have g := ob0); clear g; (with_reducible refine al 29 [.int .i64 0, .int .i64 0, .int .i64 0, .bool false, .int .i64 0, .slice none 0 0, .int .i64 0, .slice none 0 0, .slice none 0 0, .slice none 0 0] ?_); intro b1 W1 N1; have ob1 : w.heap.size ≤ b1 := Nat.le_trans KP.size N1.ge; have o0_b1 := N1.u X0; have oY_b1 : uY ≤ b1 := Nat.le_trans hY N1.ge; replace X0 := N1.r X0; replace c0 := X0.cell; replace f0 := X0.froz; replace Y := Y.below N1.below; replace hY := Nat.le_trans hY N1.below.size; replace D := D.below N1.below; replace KP := KP.next N1.below; obtain ⟨X1, c1, f1⟩ := N1.a; clear N1) | fail)
 have ob1w : w.heap.size ≤ b1 := by assumption
 have HX0 : Hid _ := X0
 have HX1 : Hid _ := X1
 have HYY : Hid _ := Y
 have HDD : Hid _ := D
 have HKP : Hid _ := KP
 have HUY : Hid _ := hY
 clear X0 c0 f0 X1 c1 f1 Y D KP hY
 go_wp2
 go_loopw [5] (fun iv wr => ∃ (k p' : Nat) (r : Rep) (hh : RH) (nm : Bool) (z u : Nat), k ≤ 6 ∧ iv = .int .i64 k ∧ Bx wr b0 [.int .i64 0, .int .i64 0, .int .i64 0, .bool false, .int .i64 0, .slice none 0 0, .int .i64 0, .slice none 0 0, .slice none 0 0, .slice none 0 0] ∧ Bx wr b1 [.int .i64 r.id, .int .i64 r.size, .int .i64 r.view, .bool nm, .int .i64 r.last, .slice hh.L.1 hh.L.2.1 hh.L.2.2, .int .i64 r.commit, .slice hh.O.1 hh.O.2.1 hh.O.2.2, .slice hh.A.1 hh.A.2.1 hh.A.2.2, .slice hh.D.1 hh.D.2.1 hh.D.2.2] ∧ Hid (r.normal = nm) ∧ RepAt wr true z u hh r ∧ u ≤ wr.heap.size ∧ g + 1 ≤ z ∧ (b1 < z ∨ u ≤ b1) ∧ RSz hh 1001 ∧ p' ≤ 710 * (k + 1) ∧ SB wr g p' ac nc cc bs ∧ Kept g (g + 1) w wr) (fun iv _ => 6 - (intOf iv).toNat)
 case atStart => exact ⟨0, p', r, hh, nm, zY, uY, by omega, rfl, HX0.out, HX1.out, HNM, HYY.out, HUY.out, lgY, Or.inr (by assumption), SZ, by omega, HDD.out, HKP.out⟩
 case round =>
  clear HX0 HX1 HYY HDD HKP HUY SZ hp' HNM lgY
  obtain ⟨k, p', r, hh, nm, z, u, hk, rfl, X0, X1, HNM, Y, hY, lgz, hbz, SZ, hp, D, KP⟩ := hrel
  have c0 := X0.cell
  have f0 := X0.froz
  have c1 := X1.cell
  have f1 := X1.froz
  have hKPs := KP.size
  by_cases hlt : k < 6
  ·
   have hlk : (k : Int) < 6 := by omega
   cases nm
   ·
    by_cases hs0 : 0 < r.size
    rotate_left 1
    ·
     have B : Below w0.heap.size w0 wr := HB0.out.trans (KP.below _ lwg (by have := HB0.out.size; omega))
     clear KP D
     go_wp2_with (first | ((with_reducible refine sm 29 X0 0 [.int .i64 r.id, .int .i64 r.size, .int .i64 r.view, .bool false, .int .i64 r.last, .slice hh.L.1 hh.L.2.1 hh.L.2.2, .int .i64 r.commit, .slice hh.O.1 hh.O.2.1 hh.O.2.2, .slice hh.A.1 hh.A.2.1 hh.A.2.2, .slice hh.D.1 hh.D.2.1 hh.D.2.2] ?_); intro V31 S; replace X0 : Bx V31 b0 [.int .i64 r.id, .int .i64 r.size, .int .i64 r.view, .bool false, .int .i64 r.last, .slice hh.L.1 hh.L.2.1 hh.L.2.2, .int .i64 r.commit, .slice hh.O.1 hh.O.2.1 hh.O.2.2, .slice hh.A.1 hh.A.2.1 hh.A.2.2, .slice hh.D.1 hh.D.2.1 hh.D.2.2] := S.bx; replace c0 := X0.cell; replace f0 := X0.froz; replace X1 := X1.kp S.kept; replace c1 := X1.cell; replace f1 := X1.froz; replace Y := Y.kept S.kept (by omega); replace hY := Nat.le_trans hY S.kept.size; replace B := bkp B S.kept; clear S))
     refine bodyPost_ret (v := .agg #[.int .i64 r.id, .int .i64 r.size, .int .i64 r.view, .bool false, .int .i64 r.last, .slice hh.L.1 hh.L.2.1 hh.L.2.2, .int .i64 r.commit, .slice hh.O.1 hh.O.2.1 hh.O.2.2, .slice hh.A.1 hh.A.2.1 hh.A.2.2, .slice hh.D.1 hh.D.2.1 hh.D.2.2]) (by simp [results, Try.results19, go_sem, *]) rfl ⟨r, hh, ?_, ?_, SZ, B⟩
     ·first | rfl | (simp only [HNM.out])
     ·exact Y.widen (by omega) hY
    go_wp2_with fail
    refine (chance_sb D 2 rfl (by omega) (by omega) (by omega)).mono ?_
    rintro e x1 ⟨cb, rfl, D', K', -⟩
    replace X0 := X0.kept K' (by omega)
    replace c0 := X0.cell
    replace f0 := X0.froz
    replace X1 := X1.kept K' (by omega)
    replace c1 := X1.cell
    replace f1 := X1.froz
    replace Y := Y.kept K' (by omega)
    replace hY := Nat.le_trans hY K'.size
    replace KP := KP.trans K'
    replace D := D'
    clear D' K'
    cases cb
    ·
     have B : Below w0.heap.size w0 x1 := HB0.out.trans (KP.below _ lwg (by have := HB0.out.size; omega))
     clear KP D
     go_wp2_with (first | ((with_reducible refine sm 29 X0 0 [.int .i64 r.id, .int .i64 r.size, .int .i64 r.view, .bool false, .int .i64 r.last, .slice hh.L.1 hh.L.2.1 hh.L.2.2, .int .i64 r.commit, .slice hh.O.1 hh.O.2.1 hh.O.2.2, .slice hh.A.1 hh.A.2.1 hh.A.2.2, .slice hh.D.1 hh.D.2.1 hh.D.2.2] ?_); intro V31 S; replace X0 : Bx V31 b0 [.int .i64 r.id, .int .i64 r.size, .int .i64 r.view, .bool false, .int .i64 r.last, .slice hh.L.1 hh.L.2.1 hh.L.2.2, .int .i64 r.commit, .slice hh.O.1 hh.O.2.1 hh.O.2.2, .slice hh.A.1 hh.A.2.1 hh.A.2.2, .slice hh.D.1 hh.D.2.1 hh.D.2.2] := S.bx; replace c0 := X0.cell; replace f0 := X0.froz; replace X1 := X1.kp S.kept; replace c1 := X1.cell; replace f1 := X1.froz; replace Y := Y.kept S.kept (by omega); replace hY := Nat.le_trans hY S.kept.size; replace B := bkp B S.kept; clear S))
     refine bodyPost_ret (v := .agg #[.int .i64 r.id, .int .i64 r.size, .int .i64 r.view, .bool false, .int .i64 r.last, .slice hh.L.1 hh.L.2.1 hh.L.2.2, .int .i64 r.commit, .slice hh.O.1 hh.O.2.1 hh.O.2.2, .slice hh.A.1 hh.A.2.1 hh.A.2.2, .slice hh.D.1 hh.D.2.1 hh.D.2.2]) (by simp [results, Try.results19, go_sem, *]) rfl ⟨r, hh, ?_, ?_, SZ, B⟩
     ·first | rfl | (simp only [HNM.out])
     ·exact Y.widen (by omega) hY
    ·
     go_wp2_with fail
     have hs1 : ¬ r.size = 0 := by omega
     have DQ : Below x1.heap.size x1 x1.drew := (Below.refl _ _).drew
     replace X0 := X0.below DQ
     replace c0 := X0.cell
     replace f0 := X0.froz
     replace X1 := X1.below DQ
     replace c1 := X1.cell
     replace f1 := X1.froz
     replace Y := Y.below DQ
     replace hY := Nat.le_trans hY DQ.size
     replace D := D.below DQ
     replace KP := KP.next DQ
     clear DQ
     refine wp_region_held_drew (S := (fun w' => w'.cell? ⟨b1, 2, none⟩ = some (.int .i64 r.view) ∧ w'.cell? ⟨b1, 1, none⟩ = some (.int .i64 r.size))) (by kernel_rfl) ⟨c1 2, c1 1⟩ (fun hZq => ?_)
     refine tk 0 hZq ?_
     refine tk 1 hZq ?_
     refine tk 3 hZq ?_
     refine tk 4 hZq ?_
     refine rd1 2 (fun KK hKK => ?_)
     go_simp
     go_at_call 47
     refine (l1Max9_is 0 r.view _).mono ?_
     rintro e v1 ⟨rfl, rfl⟩
     clear hZq
     refine hKK _ _ ⟨c1 2, c1 1⟩ (fun hZq => ?_)
     clear hKK KK
     refine tk 5 hZq ?_
     refine tk 6 hZq ?_
     refine rd1 7 (fun KK hKK => ?_)
     obtain ⟨nid, hnid⟩ : ∃ nid : Int, nid = (max 0 r.view).tmod r.size := ⟨_, rfl⟩
     refine step_oneX 2 X1 0 (.int .i64 ((max 0 r.view).tmod r.size)) (by simp) (by kernel_rfl) rfl rfl rfl ?_
     rw [← hnid]
     clear hnid
     intro V6 S
     replace X0 := X0.kp S.kept
     replace c0 := X0.cell
     replace f0 := X0.froz
     replace X1 : Bx V6 b1 [.int .i64 nid, .int .i64 r.size, .int .i64 r.view, .bool false, .int .i64 r.last, .slice hh.L.1 hh.L.2.1 hh.L.2.2, .int .i64 r.commit, .slice hh.O.1 hh.O.2.1 hh.O.2.2, .slice hh.A.1 hh.A.2.1 hh.A.2.2, .slice hh.D.1 hh.D.2.1 hh.D.2.2] := S.bx
     replace c1 := X1.cell
     replace f1 := X1.froz
     replace Y := Y.kept S.kept (by omega)
     replace hY := Nat.le_trans hY S.kept.size
     replace KP := KP.low (S.kept.below _ (by omega) KP.size)
     replace D := h.move KP (D.src.kept S.kept (by omega))
     clear S
     clear hZq
     refine hKK _ _ ⟨c1 2, c1 1⟩ (fun hZq => ?_)
     clear hKK KK
     refine wpAnyH_done (by kernel_rfl) ?_ _
     have B : Below w0.heap.size w0 V6 := HB0.out.trans (KP.below _ lwg (by have := HB0.out.size; omega))
     clear KP D
     go_wp2_with (first | ((with_reducible refine sm 29 X0 0 [.int .i64 nid, .int .i64 r.size, .int .i64 r.view, .bool false, .int .i64 r.last, .slice hh.L.1 hh.L.2.1 hh.L.2.2, .int .i64 r.commit, .slice hh.O.1 hh.O.2.1 hh.O.2.2, .slice hh.A.1 hh.A.2.1 hh.A.2.2, .slice hh.D.1 hh.D.2.1 hh.D.2.2] ?_); intro V31 S; replace X0 : Bx V31 b0 [.int .i64 nid, .int .i64 r.size, .int .i64 r.view, .bool false, .int .i64 r.last, .slice hh.L.1 hh.L.2.1 hh.L.2.2, .int .i64 r.commit, .slice hh.O.1 hh.O.2.1 hh.O.2.2, .slice hh.A.1 hh.A.2.1 hh.A.2.2, .slice hh.D.1 hh.D.2.1 hh.D.2.2] := S.bx; replace c0 := X0.cell; replace f0 := X0.froz; replace X1 := X1.kp S.kept; replace c1 := X1.cell; replace f1 := X1.froz; replace Y := Y.kept S.kept (by omega); replace hY := Nat.le_trans hY S.kept.size; replace B := bkp B S.kept; clear S))
     refine bodyPost_ret (v := .agg #[.int .i64 nid, .int .i64 r.size, .int .i64 r.view, .bool false, .int .i64 r.last, .slice hh.L.1 hh.L.2.1 hh.L.2.2, .int .i64 r.commit, .slice hh.O.1 hh.O.2.1 hh.O.2.2, .slice hh.A.1 hh.A.2.1 hh.A.2.2, .slice hh.D.1 hh.D.2.1 hh.D.2.2]) (by simp [results, Try.results19, go_sem, *]) rfl ⟨⟨nid, r.size, r.view, r.normal, r.last, r.log, r.commit, r.oks, r.asks, r.doers⟩, hh, ?_, ?_, SZ, B⟩
     ·first | rfl | (simp only [HNM.out])
     ·exact (show RepAt V31 true z u hh ⟨nid, r.size, r.view, r.normal, r.last, r.log, r.commit, r.oks, r.asks, r.doers⟩ from ⟨Y.log, Y.oks, Y.asks, Y.doers, Y.sep⟩).widen (by omega) hY
   ·
    go_wp2_with fail
    refine (l9Bent_any g p' ac nc cc bs _ D (by omega)).mono ?_
    rintro e w1 ⟨r2, hh2, p2, rfl, Y2, SZ2, hp2, D', K'⟩
    have hb1w := X1.lt
    have hgz : g + 1 ≤ wr.heap.size := by omega
    clear Y hY
    replace X0 := X0.kept K' (by omega)
    replace c0 := X0.cell
    replace f0 := X0.froz
    replace X1 := X1.kept K' (by omega)
    replace c1 := X1.cell
    replace f1 := X1.froz
    replace KP := KP.trans K'
    replace D := D'
    have hYw := K'.size
    clear D' K'
    obtain ⟨nm2, hnm2⟩ : ∃ nm2, r2.normal = nm2 := ⟨_, rfl⟩
    rw [hnm2]
    have HNM2 : Hid _ := hnm2
    clear hnm2
    obtain ⟨z2, hz2⟩ : ∃ z2, z2 = wr.heap.size := ⟨_, rfl⟩
    obtain ⟨u2, hu2⟩ : ∃ u2, u2 = w1.heap.size := ⟨_, rfl⟩
    rw [← hz2, ← hu2] at Y2
    have hY2 : u2 ≤ w1.heap.size := Nat.le_of_eq hu2
    rw [← hz2] at hb1w hgz
    have hz2b := hb1w
    clear hz2 hu2
    go_wp2_with (first | ((with_reducible refine sm 29 X1 0 [.int .i64 r2.id, .int .i64 r2.size, .int .i64 r2.view, .bool nm2, .int .i64 r2.last, .slice hh2.L.1 hh2.L.2.1 hh2.L.2.2, .int .i64 r2.commit, .slice hh2.O.1 hh2.O.2.1 hh2.O.2.2, .slice hh2.A.1 hh2.A.2.1 hh2.A.2.2, .slice hh2.D.1 hh2.D.2.1 hh2.D.2.2] ?_); intro V6 S; replace X0 := X0.kp S.kept; replace c0 := X0.cell; replace f0 := X0.froz; replace X1 : Bx V6 b1 [.int .i64 r2.id, .int .i64 r2.size, .int .i64 r2.view, .bool nm2, .int .i64 r2.last, .slice hh2.L.1 hh2.L.2.1 hh2.L.2.2, .int .i64 r2.commit, .slice hh2.O.1 hh2.O.2.1 hh2.O.2.2, .slice hh2.A.1 hh2.A.2.1 hh2.A.2.2, .slice hh2.D.1 hh2.D.2.1 hh2.D.2.2] := S.bx; replace c1 := X1.cell; replace f1 := X1.froz; replace Y2 := Y2.kept S.kept (by omega); replace hY2 := Nat.le_trans hY2 S.kept.size; replace KP := KP.low (S.kept.below _ (by omega) KP.size); replace D := h.move KP (D.src.kept S.kept (by omega)); clear S))
    go_roundw
    case rel => exact ⟨k + 1, p2, r2, hh2, nm2, z2, u2, by omega, by go_num, X0, X1, HNM2, Y2, hY2, hgz, Or.inl hz2b, SZ2, by omega, D, KP⟩
    case measure => simp [intOf]; omega
  ·obtain rfl : k = 6 := by omega
   cases nm
   ·
    by_cases hs0 : 0 < r.size
    rotate_left 1
    ·
     have B : Below w0.heap.size w0 wr := HB0.out.trans (KP.below _ lwg (by have := HB0.out.size; omega))
     clear KP D
     go_wp2_with (first | ((with_reducible refine sm 29 X0 0 [.int .i64 r.id, .int .i64 r.size, .int .i64 r.view, .bool false, .int .i64 r.last, .slice hh.L.1 hh.L.2.1 hh.L.2.2, .int .i64 r.commit, .slice hh.O.1 hh.O.2.1 hh.O.2.2, .slice hh.A.1 hh.A.2.1 hh.A.2.2, .slice hh.D.1 hh.D.2.1 hh.D.2.2] ?_); intro V31 S; replace X0 : Bx V31 b0 [.int .i64 r.id, .int .i64 r.size, .int .i64 r.view, .bool false, .int .i64 r.last, .slice hh.L.1 hh.L.2.1 hh.L.2.2, .int .i64 r.commit, .slice hh.O.1 hh.O.2.1 hh.O.2.2, .slice hh.A.1 hh.A.2.1 hh.A.2.2, .slice hh.D.1 hh.D.2.1 hh.D.2.2] := S.bx; replace c0 := X0.cell; replace f0 := X0.froz; replace X1 := X1.kp S.kept; replace c1 := X1.cell; replace f1 := X1.froz; replace Y := Y.kept S.kept (by omega); replace hY := Nat.le_trans hY S.kept.size; replace B := bkp B S.kept; clear S))
     refine bodyPost_ret (v := .agg #[.int .i64 r.id, .int .i64 r.size, .int .i64 r.view, .bool false, .int .i64 r.last, .slice hh.L.1 hh.L.2.1 hh.L.2.2, .int .i64 r.commit, .slice hh.O.1 hh.O.2.1 hh.O.2.2, .slice hh.A.1 hh.A.2.1 hh.A.2.2, .slice hh.D.1 hh.D.2.1 hh.D.2.2]) (by simp [results, Try.results19, go_sem, *]) rfl ⟨r, hh, ?_, ?_, SZ, B⟩
     ·first | rfl | (simp only [HNM.out])
     ·exact Y.widen (by omega) hY
    go_wp2_with fail
    refine (chance_sb D 2 rfl (by omega) (by omega) (by omega)).mono ?_
    rintro e x1 ⟨cb, rfl, D', K', -⟩
    replace X0 := X0.kept K' (by omega)
    replace c0 := X0.cell
    replace f0 := X0.froz
    replace X1 := X1.kept K' (by omega)
    replace c1 := X1.cell
    replace f1 := X1.froz
    replace Y := Y.kept K' (by omega)
    replace hY := Nat.le_trans hY K'.size
    replace KP := KP.trans K'
    replace D := D'
    clear D' K'
    cases cb
    ·
     have B : Below w0.heap.size w0 x1 := HB0.out.trans (KP.below _ lwg (by have := HB0.out.size; omega))
     clear KP D
     go_wp2_with (first | ((with_reducible refine sm 29 X0 0 [.int .i64 r.id, .int .i64 r.size, .int .i64 r.view, .bool false, .int .i64 r.last, .slice hh.L.1 hh.L.2.1 hh.L.2.2, .int .i64 r.commit, .slice hh.O.1 hh.O.2.1 hh.O.2.2, .slice hh.A.1 hh.A.2.1 hh.A.2.2, .slice hh.D.1 hh.D.2.1 hh.D.2.2] ?_); intro V31 S; replace X0 : Bx V31 b0 [.int .i64 r.id, .int .i64 r.size, .int .i64 r.view, .bool false, .int .i64 r.last, .slice hh.L.1 hh.L.2.1 hh.L.2.2, .int .i64 r.commit, .slice hh.O.1 hh.O.2.1 hh.O.2.2, .slice hh.A.1 hh.A.2.1 hh.A.2.2, .slice hh.D.1 hh.D.2.1 hh.D.2.2] := S.bx; replace c0 := X0.cell; replace f0 := X0.froz; replace X1 := X1.kp S.kept; replace c1 := X1.cell; replace f1 := X1.froz; replace Y := Y.kept S.kept (by omega); replace hY := Nat.le_trans hY S.kept.size; replace B := bkp B S.kept; clear S))
     refine bodyPost_ret (v := .agg #[.int .i64 r.id, .int .i64 r.size, .int .i64 r.view, .bool false, .int .i64 r.last, .slice hh.L.1 hh.L.2.1 hh.L.2.2, .int .i64 r.commit, .slice hh.O.1 hh.O.2.1 hh.O.2.2, .slice hh.A.1 hh.A.2.1 hh.A.2.2, .slice hh.D.1 hh.D.2.1 hh.D.2.2]) (by simp [results, Try.results19, go_sem, *]) rfl ⟨r, hh, ?_, ?_, SZ, B⟩
     ·first | rfl | (simp only [HNM.out])
     ·exact Y.widen (by omega) hY
    ·
     go_wp2_with fail
     have hs1 : ¬ r.size = 0 := by omega
     have DQ : Below x1.heap.size x1 x1.drew := (Below.refl _ _).drew
     replace X0 := X0.below DQ
     replace c0 := X0.cell
     replace f0 := X0.froz
     replace X1 := X1.below DQ
     replace c1 := X1.cell
     replace f1 := X1.froz
     replace Y := Y.below DQ
     replace hY := Nat.le_trans hY DQ.size
     replace D := D.below DQ
     replace KP := KP.next DQ
     clear DQ
     refine wp_region_held_drew (S := (fun w' => w'.cell? ⟨b1, 2, none⟩ = some (.int .i64 r.view) ∧ w'.cell? ⟨b1, 1, none⟩ = some (.int .i64 r.size))) (by kernel_rfl) ⟨c1 2, c1 1⟩ (fun hZq => ?_)
     refine tk 0 hZq ?_
     refine tk 1 hZq ?_
     refine tk 3 hZq ?_
     refine tk 4 hZq ?_
     refine rd1 2 (fun KK hKK => ?_)
     go_simp
     go_at_call 47
     refine (l1Max9_is 0 r.view _).mono ?_
     rintro e v1 ⟨rfl, rfl⟩
     clear hZq
     refine hKK _ _ ⟨c1 2, c1 1⟩ (fun hZq => ?_)
     clear hKK KK
     refine tk 5 hZq ?_
     refine tk 6 hZq ?_
     refine rd1 7 (fun KK hKK => ?_)
     obtain ⟨nid, hnid⟩ : ∃ nid : Int, nid = (max 0 r.view).tmod r.size := ⟨_, rfl⟩
     refine step_oneX 2 X1 0 (.int .i64 ((max 0 r.view).tmod r.size)) (by simp) (by kernel_rfl) rfl rfl rfl ?_
     rw [← hnid]
     clear hnid
     intro V6 S
     replace X0 := X0.kp S.kept
     replace c0 := X0.cell
     replace f0 := X0.froz
     replace X1 : Bx V6 b1 [.int .i64 nid, .int .i64 r.size, .int .i64 r.view, .bool false, .int .i64 r.last, .slice hh.L.1 hh.L.2.1 hh.L.2.2, .int .i64 r.commit, .slice hh.O.1 hh.O.2.1 hh.O.2.2, .slice hh.A.1 hh.A.2.1 hh.A.2.2, .slice hh.D.1 hh.D.2.1 hh.D.2.2] := S.bx
     replace c1 := X1.cell
     replace f1 := X1.froz
     replace Y := Y.kept S.kept (by omega)
     replace hY := Nat.le_trans hY S.kept.size
     replace KP := KP.low (S.kept.below _ (by omega) KP.size)
     replace D := h.move KP (D.src.kept S.kept (by omega))
     clear S
     clear hZq
     refine hKK _ _ ⟨c1 2, c1 1⟩ (fun hZq => ?_)
     clear hKK KK
     refine wpAnyH_done (by kernel_rfl) ?_ _
     have B : Below w0.heap.size w0 V6 := HB0.out.trans (KP.below _ lwg (by have := HB0.out.size; omega))
     clear KP D
     go_wp2_with (first | ((with_reducible refine sm 29 X0 0 [.int .i64 nid, .int .i64 r.size, .int .i64 r.view, .bool false, .int .i64 r.last, .slice hh.L.1 hh.L.2.1 hh.L.2.2, .int .i64 r.commit, .slice hh.O.1 hh.O.2.1 hh.O.2.2, .slice hh.A.1 hh.A.2.1 hh.A.2.2, .slice hh.D.1 hh.D.2.1 hh.D.2.2] ?_); intro V31 S; replace X0 : Bx V31 b0 [.int .i64 nid, .int .i64 r.size, .int .i64 r.view, .bool false, .int .i64 r.last, .slice hh.L.1 hh.L.2.1 hh.L.2.2, .int .i64 r.commit, .slice hh.O.1 hh.O.2.1 hh.O.2.2, .slice hh.A.1 hh.A.2.1 hh.A.2.2, .slice hh.D.1 hh.D.2.1 hh.D.2.2] := S.bx; replace c0 := X0.cell; replace f0 := X0.froz; replace X1 := X1.kp S.kept; replace c1 := X1.cell; replace f1 := X1.froz; replace Y := Y.kept S.kept (by omega); replace hY := Nat.le_trans hY S.kept.size; replace B := bkp B S.kept; clear S))
     refine bodyPost_ret (v := .agg #[.int .i64 nid, .int .i64 r.size, .int .i64 r.view, .bool false, .int .i64 r.last, .slice hh.L.1 hh.L.2.1 hh.L.2.2, .int .i64 r.commit, .slice hh.O.1 hh.O.2.1 hh.O.2.2, .slice hh.A.1 hh.A.2.1 hh.A.2.2, .slice hh.D.1 hh.D.2.1 hh.D.2.2]) (by simp [results, Try.results19, go_sem, *]) rfl ⟨⟨nid, r.size, r.view, r.normal, r.last, r.log, r.commit, r.oks, r.asks, r.doers⟩, hh, ?_, ?_, SZ, B⟩
     ·first | rfl | (simp only [HNM.out])
     ·exact (show RepAt V31 true z u hh ⟨nid, r.size, r.view, r.normal, r.last, r.log, r.commit, r.oks, r.asks, r.doers⟩ from ⟨Y.log, Y.oks, Y.asks, Y.doers, Y.sep⟩).widen (by omega) hY
   ·
    have B : Below w0.heap.size w0 wr := HB0.out.trans (KP.below _ lwg (by have := HB0.out.size; omega))
    clear KP D
    go_wp2_with (first | ((with_reducible refine sm 29 X0 0 [.int .i64 r.id, .int .i64 r.size, .int .i64 r.view, .bool true, .int .i64 r.last, .slice hh.L.1 hh.L.2.1 hh.L.2.2, .int .i64 r.commit, .slice hh.O.1 hh.O.2.1 hh.O.2.2, .slice hh.A.1 hh.A.2.1 hh.A.2.2, .slice hh.D.1 hh.D.2.1 hh.D.2.2] ?_); intro V31 S; replace X0 : Bx V31 b0 [.int .i64 r.id, .int .i64 r.size, .int .i64 r.view, .bool true, .int .i64 r.last, .slice hh.L.1 hh.L.2.1 hh.L.2.2, .int .i64 r.commit, .slice hh.O.1 hh.O.2.1 hh.O.2.2, .slice hh.A.1 hh.A.2.1 hh.A.2.2, .slice hh.D.1 hh.D.2.1 hh.D.2.2] := S.bx; replace c0 := X0.cell; replace f0 := X0.froz; replace X1 := X1.kp S.kept; replace c1 := X1.cell; replace f1 := X1.froz; replace Y := Y.kept S.kept (by omega); replace hY := Nat.le_trans hY S.kept.size; replace B := bkp B S.kept; clear S))
    refine bodyPost_ret (v := .agg #[.int .i64 r.id, .int .i64 r.size, .int .i64 r.view, .bool true, .int .i64 r.last, .slice hh.L.1 hh.L.2.1 hh.L.2.2, .int .i64 r.commit, .slice hh.O.1 hh.O.2.1 hh.O.2.2, .slice hh.A.1 hh.A.2.1 hh.A.2.2, .slice hh.D.1 hh.D.2.1 hh.D.2.2]) (by simp [results, Try.results19, go_sem, *]) rfl ⟨r, hh, ?_, ?_, SZ, B⟩
    ·first | rfl | (simp only [HNM.out])
    ·exact Y.widen (by omega) hY
theorem drawCho_any {o : Bool} {lo hi : Nat} (ac : Option Addr) (nc cc : Nat) (bs : List Nat) (w : World) (hr : RowAt w o lo hi 1 ac nc cc (bys bs)) (hb : ∀ i, bs.getD i 0 < 256) (hhi : hi ≤ w.heap.size) (hc : nc ≤ 1048576) : Calls Try.prog 6 #[.slice ac nc cc] w fun e w' => ChgDrawn w w' e := by
 go_enter Try.func6, Try.ntmps6
 go_wp2_with (first | ((with_reducible refine al 29 [.int .i64 0, .int .i64 0, .int .i64 0, .bool false, .int .i64 0, .slice none 0 0, .int .i64 0, .slice none 0 0, .slice none 0 0, .slice none 0 0] ?_); intro b0 W0 N0; have ob0 := N0.ge; have B := N0.below; obtain ⟨X0, c0, f0⟩ := N0.a; clear N0) | fail)
 refine (l10Changing_any ac nc cc bs _ (hr.below B) hb (by have := B.size; omega) hc).mono ?_
 rintro e w1 ⟨r, hh, rfl, Y, SZ, BB⟩
 obtain ⟨zY, hzY⟩ : ∃ zY, zY = W0.heap.size := ⟨_, rfl⟩
 obtain ⟨uY, huY⟩ : ∃ uY, uY = w1.heap.size := ⟨_, rfl⟩
 have lt0 : b0 < zY := by rw [hzY]; exact X0.lt
 have lwz : w.heap.size ≤ zY := by rw [hzY]; exact B.size
 rw [← hzY, ← huY] at Y
 have hY : uY ≤ w1.heap.size := Nat.le_of_eq huY
 clear hzY huY
 replace X0 := X0.below BB
 replace c0 := X0.cell
 replace f0 := X0.froz
 replace B := below_next B BB
 clear BB
 go_wp2_with (first | ((with_reducible refine sm 29 X0 0 [.int .i64 r.id, .int .i64 r.size, .int .i64 r.view, .bool r.normal, .int .i64 r.last, .slice hh.L.1 hh.L.2.1 hh.L.2.2, .int .i64 r.commit, .slice hh.O.1 hh.O.2.1 hh.O.2.2, .slice hh.A.1 hh.A.2.1 hh.A.2.2, .slice hh.D.1 hh.D.2.1 hh.D.2.2] ?_); intro V1 S; replace X0 : Bx V1 b0 [.int .i64 r.id, .int .i64 r.size, .int .i64 r.view, .bool r.normal, .int .i64 r.last, .slice hh.L.1 hh.L.2.1 hh.L.2.2, .int .i64 r.commit, .slice hh.O.1 hh.O.2.1 hh.O.2.2, .slice hh.A.1 hh.A.2.1 hh.A.2.2, .slice hh.D.1 hh.D.2.1 hh.D.2.2] := S.bx; replace c0 := X0.cell; replace f0 := X0.froz; replace Y := Y.kept S.kept (by omega); replace hY := Nat.le_trans hY S.kept.size; replace B := bkp B S.kept; clear S))
 refine bodyPost_ret (v := .agg #[.int .i64 r.id, .int .i64 r.size, .int .i64 r.view, .bool r.normal, .int .i64 r.last, .slice hh.L.1 hh.L.2.1 hh.L.2.2, .int .i64 r.commit, .slice hh.O.1 hh.O.2.1 hh.O.2.2, .slice hh.A.1 hh.A.2.1 hh.A.2.2, .slice hh.D.1 hh.D.2.1 hh.D.2.2]) (by simp [results, Try.results6, go_sem, *]) rfl ⟨r, hh, rfl, Y.widen (by omega) hY, SZ, B⟩
theorem lwBig_is (ac : Option Addr) (nc cc : Nat) (w : World) (d : Bool) (h : decide (1048576 < nc) = d) : Calls Try.prog 5 #[.slice ac nc cc] w fun e w' => e = .returned (.bool d) ∧ w' = w := by
 rw [← h]
 go_enter Try.func5, Try.ntmps5
 go_wp2
 go_ret
 exact ⟨ret_bool (by simp; omega), rfl⟩
end Go.Proofs.Ytjefmhjlaibbkaa
namespace Go.Proofs.Ytjefmhjlaibbkaa
open Go.RowKit Go.ChangeShapes Go.WideShapes Go.Deep
section
variable {H : Type} {enc : TypeId × Value → H} {P : Program} {w : World}
def EnTy (P : Program) (e : TypeId) : Prop := ∃ f0 f1 f2 g0 g1 g2 g3 : Field, P.underlying e = some (.struct #[f0, f1, f2]) ∧ (f0.offset = 0 ∧ f1.offset = 1 ∧ f2.offset = 2) ∧ (P.cellsOf e = 6 ∧ P.cellsOf f0.type = 1 ∧ P.cellsOf f1.type = 1 ∧ P.cellsOf f2.type = 4) ∧
 (P.underlying f0.type = some (.int .i64) ∧ P.underlying f1.type = some (.int .i64) ∧ P.underlying f2.type = some (.struct #[g0, g1, g2, g3])) ∧ (g0.offset = 0 ∧ g1.offset = 1 ∧ g2.offset = 2 ∧ g3.offset = 3) ∧
 (P.cellsOf g0.type = 1 ∧ P.cellsOf g1.type = 1 ∧ P.cellsOf g2.type = 1 ∧ P.cellsOf g3.type = 1) ∧ (P.underlying g0.type = some (.int .i64) ∧ P.underlying g1.type = some (.int .i64) ∧ P.underlying g2.type = some (.int .i64) ∧ P.underlying g3.type = some (.int .i64))
end
end Go.Proofs.Ytjefmhjlaibbkaa
