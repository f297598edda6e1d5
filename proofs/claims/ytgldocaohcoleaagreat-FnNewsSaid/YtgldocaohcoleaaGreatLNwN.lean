/- A new cluster has its first node as the first of its view, and nothing is agreed: the law FnNews is true at every argument, with no condition. -/
import Derived.Test.YtgldocaohcoleaaGreatQAFN
import Derived.Test.YtgldocaohcoleaaGreatQABN
import Derived.Test.YtgldocaohcoleaaGreatRows
import Derived.Test.YtgldocaohcoleaaGreatQBAN
import Derived.Test.YtgldocaohcoleaaGreatQBBN
import Derived.Test.YtgldocaohcoleaaGreatQBCN
import Derived.Test.YtgldocaohcoleaaGreatAU8N
import Derived.Test.YtgldocaohcoleaaGreatQAPN
import Derived.Test.YtgldocaohcoleaaGreatQAVN
import Derived.Deep.MidRow
import Derived.Deep.RegionHeld3
import Derived.Deep.WholeRow
import Derived.Test.YtgldocaohcoleaaGreatQAEN
import Derived.Deep.DeepCutAuto
set_option maxRecDepth 20000
set_option maxHeartbeats 16000000
namespace Go.Proofs.YtgldocaohcoleaaGreat
open Go.RowKit
def CBox (W wx : World) (xb : Nat) (R : List Rep) (M : List Ml) (E : List En) : Prop := ∃ (z u : Nat) (N M' S : Hd) (xs : List Nod) (ys : List Mal), Bx wx xb [.int .i64 0, .slice N.1 N.2.1 N.2.2, .slice M'.1 M'.2.1 M'.2.2, .slice S.1 S.2.1 S.2.2] ∧ ClAt wx true z u N M' S xs ys E ∧ ClSz N M' S xs ys 1048576 ∧ xs.map (·.1) = R ∧ ys.map (·.1) = M ∧ W.heap.size ≤ z ∧ u ≤ wx.heap.size ∧ W.heap.size ≤ xb ∧ (xb < z ∨ u ≤ xb) ∧ Below W.heap.size W wx
theorem lawNews {o : Bool} {hi : Nat} (ac : Option Addr) (nc cc : Nat) (cs : List Nat) (w0 : World) (hrow : RowAt w0 o 0 hi 1 ac nc cc (bys cs)) (hcs : ∀ i, cs.getD i 0 < 256) (hhi : hi ≤ w0.heap.size) : Calls Tryz.prog 8 #[.slice ac nc cc] w0 fun e w' => e = .returned (.bool true) ∧ Below w0.heap.size w0 w' := by
 by_cases hbig : 1048576 < nc
 ·go_enter Tryz.func8, Tryz.ntmps8
  go_wp2_with fail
  refine (lwBig_is ac nc cc _ true (by simp; exact hbig)).mono ?_
  rintro e w1 ⟨rfl, rfl⟩
  go_wp2
  go_ret
  exact ⟨rfl, Below.refl _ _⟩
 have hc : nc ≤ 1048576 := by omega
 go_enter Tryz.func8, Tryz.ntmps8
 go_wp2_with fail
 refine (lwBig_is ac nc cc _ false (by simp; omega)).mono ?_
 rintro e w0 ⟨rfl, rfl⟩
 go_wp2_with fail
 refine (drawNewCl_any ac nc cc cs _ hrow hcs hhi hc).mono ?_
 rintro e w1 ⟨sv, hsv, rfl, B⟩
 obtain ⟨cd, hcd⟩ : ∃ c, nclC ((sv : Int) - 1) = c := ⟨_, rfl⟩
 have HCD : Hid _ := hcd
 clear hcd
 go_wp2_with fail
 refine (implNewCl_z ((sv : Int) - 1) _ cd HCD.out).mono ?_
 rintro e w2 ⟨z, u, N, xs, rfl, Gz, hY, Y, f0, s0, _, BB⟩
 have oz : w0.heap.size ≤ z := Nat.le_trans B.size Gz
 clear Gz
 replace B := below_next B BB
 have F0 : Hid _ := f0
 have S0 : Hid _ := s0
 clear f0 s0
 clear BB
 by_cases h0 : cd = 0
 rotate_left 1
 ·have h0' : (cd != 0) = true := by simp [h0]
  go_wp2_with (first | ((with_reducible refine store_midX 34 X0 0 [.int .i64 cd, .slice N.1 N.2.1 N.2.2, .slice none 0 0, .slice none 0 0] (by simp) (by kernel_rfl) (by simp [Value.oneCell']) rfl rfl ?_); intro V1 S; replace X0 : Bx V1 b0 [.int .i64 cd, .slice N.1 N.2.1 N.2.2, .slice none 0 0, .slice none 0 0] := S.bx; replace c0 := X0.cell; replace f0 := X0.froz; replace Y := Y.kept S.kept (by omega); replace hY := Nat.le_trans hY S.kept.size; replace B := bkp B S.kept; clear S) | ((with_reducible refine alloc_newX 34 [.int .i64 0, .slice none 0 0, .slice none 0 0, .slice none 0 0] (fun _ => by kernel_rfl) ?_); intro b0 W0 N0; have ob0 := Nat.le_trans B.size N0.ge; have oY_b0 : u ≤ b0 := Nat.le_trans hY N0.ge; replace Y := Y.below N0.below; replace hY := Nat.le_trans hY N0.below.size; replace B := below_next B N0.below; have X0 := N0.bx; have c0 := X0.cell; have f0 := X0.froz; clear N0) | fail)
  have DQ : Below V1.heap.size V1 V1.drew := (Below.refl _ _).drew
  replace X0 := X0.below DQ
  replace c0 := X0.cell
  replace f0 := X0.froz
  replace Y := Y.below DQ
  replace hY := Nat.le_trans hY DQ.size
  replace B := below_next B DQ
  clear DQ
  refine wp_region_held_drew (S := (fun w' => (∀ k : Nat, w'.cell? ⟨b0, k, none⟩ = [.int .i64 cd, .slice N.1 N.2.1 N.2.2, .slice none 0 0, .slice none 0 0][k]?))) (by kernel_rfl) c0 (fun hZq => ?_)
  refine tk 0 hZq ?_
  refine tk 3 hZq ?_
  refine tk 4 hZq ?_
  refine rd1 1 (fun KK hKK => ?_)
  go_simp
  go_at_call 35
  refine (specNewCl_z ((sv : Int) - 1) _ cd HCD.out).mono ?_
  rintro e v1 ⟨_, _, Nx, _, rfl, _, _, _, _, _, _, BB⟩
  replace X0 := X0.below BB
  replace c0 := X0.cell
  replace f0 := X0.froz
  replace Y := Y.below BB
  replace hY := Nat.le_trans hY BB.size
  replace B := below_next B BB
  clear BB
  have hfi : ∀ W, (Instr.field 34 (.agg #[.int .i64 cd, .slice Nx.1 Nx.2.1 Nx.2.2, .slice none 0 0, .slice none 0 0]) 0).run Tryz.prog W = .ok (.int .i64 cd) W := fun W => by kernel_rfl
  clear hZq
  refine hKK _ _ c0 (fun hZq => ?_)
  clear hKK KK
  refine tk 2 hZq ?_
  refine tk 5 hZq ?_
  refine tk 6 hZq ?_
  refine wpAnyH_done (by kernel_rfl) ?_ _
  have ecc : (cd == cd) = true := by simp
  go_wp2
  go_ret
  exact ⟨by simp, B⟩
 subst h0
 have hsz : 1 ≤ (sv : Int) - 1 ∧ (sv : Int) - 1 ≤ 5 := by
  have := HCD.out
  unfold nclC at this
  by_cases q : 1 ≤ (sv : Int) - 1 ∧ (sv : Int) - 1 ≤ 5
  ·exact q
  ·rw [if_neg q] at this; cases this
 obtain ⟨m, rfl⟩ : ∃ m : Nat, sv = m + 1 := ⟨sv - 1, by omega⟩
 have hm1 : 1 ≤ m := by omega
 have hm5 : m ≤ 5 := by omega
 have em : ((m + 1 : Nat) : Int) - 1 = (m : Int) := by omega
 rw [em] at F0 ⊢
 clear hsz hsv HCD em
 obtain ⟨v, hv⟩ : ∃ v, lwN cs 1 m = v := ⟨_, rfl⟩
 have hvm : v < m := by rw [← hv]; exact lwN_lt cs 1 m (by omega)
 have HV : Hid _ := hv
 obtain ⟨p1, p2, p3, p4, p5, p6, p7, p8, p9, p10, p11, p12⟩ := nw_parts (nw_ok hm1 hm5 hvm)
 have HCr : Hid (∀ {own : Bool} {lo hi : Nat} (N M Sl : Hd) (xs : List Nod) (ms : List Mal) (w : World), ClAt w own lo hi N M Sl xs ms [] → ClSz N M Sl xs ms 1048576 → xs.map (·.1) = (nwL m) → ms.map (·.1) = [] → Calls Tryz.prog 26 #[.agg #[.slice N.1 N.2.1 N.2.2, .slice M.1 M.2.1 M.2.2, .slice Sl.1 Sl.2.1 Sl.2.2], .int .i64 (v : Int)] w fun e w' => ClZ true w w' e 0 (nwR1 m v) (nwM1 m v) (nwE1 m v)) := fun N M Sl xs ms w x s h1 h2 => (implCrashAt_is N M Sl xs ms [] (v : Int) w x s (nwL m) [] h1 h2 0 _ _ _ p6 rfl rfl rfl).mono fun _ _ h => h.z
 have HTi : Hid (∀ {own : Bool} {lo hi : Nat} (N M Sl : Hd) (xs : List Nod) (ms : List Mal) (w : World), ClAt w own lo hi N M Sl xs ms [] → ClSz N M Sl xs ms 1048576 → xs.map (·.1) = (nwL m) → ms.map (·.1) = [] → Calls Tryz.prog 17 #[.agg #[.slice N.1 N.2.1 N.2.2, .slice M.1 M.2.1 M.2.2, .slice Sl.1 Sl.2.1 Sl.2.2], .int .i64 (v : Int)] w fun e w' => ClZ true w w' e 0 (nwR3 m v) (nwM3 m v) (nwE3 m v)) := fun N M Sl xs ms w x s h1 h2 => (implTimeoutAt_is N M Sl xs ms [] (v : Int) w x s (nwL m) [] h1 h2 0 _ _ _ p11 rfl rfl rfl).mono fun _ _ h => h.z
 have HBe : Hid (∀ {own : Bool} {lo hi : Nat} (N M Sl : Hd) (xs : List Nod) (ms : List Mal) (w : World), ClAt w own lo hi N M Sl xs ms (nwE1 m v) → ClSz N M Sl xs ms 1048576 → xs.map (·.1) = (nwR1 m v) → ms.map (·.1) = (nwM1 m v) → Calls Tryz.prog 24 #[.agg #[.slice N.1 N.2.1 N.2.2, .slice M.1 M.2.1 M.2.2, .slice Sl.1 Sl.2.1 Sl.2.2], .int .i64 (0 : Int)] w fun e w' => ClZ true w w' e 0 (atN (nwR1 m v) (nwM1 m v) (nwE1 m v) 0 repF beQ) (nwM2 m v) (atE (nwR1 m v) (nwM1 m v) (nwE1 m v) 0 repF beQ)) := fun N M Sl xs ms w x s h1 h2 => (implBeatAt_is N M Sl xs ms (nwE1 m v) (0 : Int) w x s (nwR1 m v) (nwM1 m v) h1 h2 0 _ _ _ p9 rfl rfl rfl).mono fun _ _ h => h.z
 have HP1 : Hid _ := p1
 have HP3 : Hid _ := p3
 have HP4 : Hid _ := p4
 have HP5 : Hid _ := p5
 have HP7 : Hid _ := p7
 have HP8 : Hid _ := p8
 have HP10 : Hid _ := p10
 have HP12 : Hid _ := p12
 have hNm : Hid (N.2.1 = m) := by
  show _ = _
  have h1 := Y.nodes.len
  have h2 : (xs.map (·.1)).length = m := by (rw [F0.out]; exact p2)
  rw [List.length_map] at h2; omega
 have HF : Hid (xs.map (·.1) = nwL m) := F0.out
 clear p1 p2 p3 p4 p5 p6 p7 p8 p9 p10 p11 p12 hv
 go_wp2_with (first | ((with_reducible refine store_midX 34 X0 0 [.int .i64 0, .slice N.1 N.2.1 N.2.2, .slice none 0 0, .slice none 0 0] (by simp) (by kernel_rfl) (by simp [Value.oneCell']) rfl rfl ?_); intro V1 S; replace X0 : Bx V1 b0 [.int .i64 0, .slice N.1 N.2.1 N.2.2, .slice none 0 0, .slice none 0 0] := S.bx; replace c0 := X0.cell; replace f0 := X0.froz; replace Y := Y.kept S.kept (by omega); replace hY := Nat.le_trans hY S.kept.size; replace B := bkp B S.kept; clear S) | ((with_reducible refine alloc_newX 34 [.int .i64 0, .slice none 0 0, .slice none 0 0, .slice none 0 0] (fun _ => by kernel_rfl) ?_); intro b0 W0 N0; have ob0 := Nat.le_trans B.size N0.ge; have oY_b0 : u ≤ b0 := Nat.le_trans hY N0.ge; replace Y := Y.below N0.below; replace hY := Nat.le_trans hY N0.below.size; replace B := below_next B N0.below; have X0 := N0.bx; have c0 := X0.cell; have f0 := X0.froz; clear N0) | fail)
 refine (auLeader_is N (none, 0, 0) (none, 0, 0) xs [] [] _ Y S0.out 0 0 (by rw [HF.out]; show auLC (cluF (nwL m) [] []) _ = 0; rw [HP1.out, HP3.out]; rfl) (by rw [HF.out]; show auLV (cluF (nwL m) [] []) _ = 0; rw [HP1.out, HP3.out]; rfl)).mono ?_
 rintro e w3 ⟨rfl, BB⟩
 replace X0 := X0.below BB
 replace c0 := X0.cell
 replace f0 := X0.froz
 replace Y := Y.below BB
 replace hY := Nat.le_trans hY BB.size
 replace B := below_next B BB
 clear BB
 go_wp2_with (first | ((with_reducible refine store_midX 57 X1 0 [.int .i64 0, .int .i64 0] (by simp) (by kernel_rfl) (by simp [Value.oneCell']) rfl rfl ?_); intro V2 S; replace X0 := X0.kp S.kept; replace c0 := X0.cell; replace f0 := X0.froz; replace X1 : Bx V2 b1 [.int .i64 0, .int .i64 0] := S.bx; replace c1 := X1.cell; replace f1 := X1.froz; replace Y := Y.kept S.kept (by omega); replace hY := Nat.le_trans hY S.kept.size; replace B := bkp B S.kept; clear S) | ((have g := ob0); clear g; (with_reducible refine alloc_newX 57 [.int .i64 0, .int .i64 0] (fun _ => by kernel_rfl) ?_); intro b1 W1 N1; have ob1 := Nat.le_trans B.size N1.ge; have o0_b1 := ltl X0.lt N1.ge; have oY_b1 : u ≤ b1 := Nat.le_trans hY N1.ge; replace X0 := X0.below N1.below; replace c0 := X0.cell; replace f0 := X0.froz; replace Y := Y.below N1.below; replace hY := Nat.le_trans hY N1.below.size; replace B := below_next B N1.below; have X1 := N1.bx; have c1 := X1.cell; have f1 := X1.froz; clear N1) | fail)
 first | go_frame | skip
 go_cut [6] (fun y wx => ∃ xb : Nat, y = .pointer (some ⟨xb, 0, none⟩) ∧ CBox V2 wx xb (nwR1 m v) (nwM1 m v) (nwE1 m v))
 case first =>
  have BW : Below V2.heap.size V2 V2 := Below.refl _ _
  have DQ : Below V2.heap.size V2 V2.drew := (Below.refl _ _).drew
  replace X0 := X0.below DQ
  replace c0 := X0.cell
  replace f0 := X0.froz
  replace X1 := X1.below DQ
  replace c1 := X1.cell
  replace f1 := X1.froz
  replace Y := Y.below DQ
  replace hY := Nat.le_trans hY DQ.size
  replace B := below_next B DQ
  replace BW := below_next BW DQ
  clear DQ
  refine wp_region_held_drew (S := (fun w' => (∀ k : Nat, w'.cell? ⟨b0, k, none⟩ = [.int .i64 0, .slice N.1 N.2.1 N.2.2, .slice none 0 0, .slice none 0 0][k]?))) (by kernel_rfl) c0 (fun hZq => ?_)
  refine tk 0 hZq ?_
  refine tk 1 hZq ?_
  refine tk 2 hZq ?_
  refine tk 3 hZq ?_
  refine wpAnyH_ready (rs := [4, 6]) (by kernel_rfl) (by simp) ?_
  refine (AllReadyH.cons rfl (fun KK hKK => ?_) (AllReadyH.cons rfl (fun KK hKK => ?_) AllReadyH.nil))
  ·go_simp
   go_at_call 37
   refine (lwAt_of ac nc cc cs 1 m (1 : Int) (m : Int) rfl rfl _ (hrow.below B) hcs (by omega) hc (by omega) v HV.out).mono ?_
   rintro e v4 ⟨rfl, BB⟩
   replace X0 := X0.below BB
   replace c0 := X0.cell
   replace f0 := X0.froz
   replace X1 := X1.below BB
   replace c1 := X1.cell
   replace f1 := X1.froz
   replace Y := Y.below BB
   replace hY := Nat.le_trans hY BB.size
   replace B := below_next B BB
   replace BW := below_next BW BB
   clear BB
   clear hZq
   refine hKK _ _ c0 (fun hZq => ?_)
   clear hKK KK
   refine wpAnyH_ready (rs := [5, 6]) (by kernel_rfl) (by simp) ?_
   refine (AllReadyH.cons rfl (fun KK hKK => ?_) (AllReadyH.cons rfl (fun KK hKK => ?_) AllReadyH.nil))
   ·go_simp
    go_at_call 26
    refine (HCr.out N (none, 0, 0) (none, 0, 0) xs [] _ Y S0.out HF.out rfl).mono ?_
    rintro e v5 ⟨zc, uc, Nc, Mc, Lc, xc, yc, rfl, Gzc, hdC, dC, sC, fC, kC, BB⟩
    have ozc : w0.heap.size ≤ zc := Nat.le_trans B.size Gzc
    have o0_zc := ltl X0.lt Gzc
    have o1_zc := ltl X1.lt Gzc
    have oY_zc : u ≤ zc := Nat.le_trans hY Gzc
    have BW_zc := Nat.le_trans BW.size Gzc
    clear Gzc
    replace X0 := X0.below BB
    replace c0 := X0.cell
    replace f0 := X0.froz
    replace X1 := X1.below BB
    replace c1 := X1.cell
    replace f1 := X1.froz
    replace Y := Y.below BB
    replace hY := Nat.le_trans hY BB.size
    replace B := below_next B BB
    replace BW := below_next BW BB
    clear BB
    clear hZq
    refine hKK _ _ c0 (fun hZq => ?_)
    clear hKK KK
    refine rd1 6 (fun KK hKK => ?_)
    refine step_allocX 34 [.int .i64 0, .slice none 0 0, .slice none 0 0, .slice none 0 0] (fun _ => by kernel_rfl) ?_
    intro b2 W2 N2
    have ob2 := Nat.le_trans B.size N2.ge
    have o0_b2 := ltl X0.lt N2.ge
    have o1_b2 := ltl X1.lt N2.ge
    have oY_b2 : u ≤ b2 := Nat.le_trans hY N2.ge
    have odC_b2 : uc ≤ b2 := Nat.le_trans hdC N2.ge
    have BW_b2 := Nat.le_trans BW.size N2.ge
    replace X0 := X0.below N2.below
    replace c0 := X0.cell
    replace f0 := X0.froz
    replace X1 := X1.below N2.below
    replace c1 := X1.cell
    replace f1 := X1.froz
    replace Y := Y.below N2.below
    replace hY := Nat.le_trans hY N2.below.size
    replace dC := dC.below N2.below
    replace hdC := Nat.le_trans hdC N2.below.size
    replace B := below_next B N2.below
    replace BW := below_next BW N2.below
    have X2 := N2.bx
    have c2 := X2.cell
    have f2 := X2.froz
    clear N2
    clear hZq
    refine hKK _ _ c0 (fun hZq => ?_)
    clear hKK KK
    refine rd1 7 (fun KK hKK => ?_)
    refine step_midX 34 X2 0 [.int .i64 0, .slice Nc.1 Nc.2.1 Nc.2.2, .slice Mc.1 Mc.2.1 Mc.2.2, .slice Lc.1 Lc.2.1 Lc.2.2] (by simp) (by kernel_rfl) (by simp [Value.oneCell']) rfl rfl ?_
    intro V3 S
    replace X0 := X0.kp S.kept
    replace c0 := X0.cell
    replace f0 := X0.froz
    replace X1 := X1.kp S.kept
    replace c1 := X1.cell
    replace f1 := X1.froz
    replace X2 : Bx V3 b2 [.int .i64 0, .slice Nc.1 Nc.2.1 Nc.2.2, .slice Mc.1 Mc.2.1 Mc.2.2, .slice Lc.1 Lc.2.1 Lc.2.2] := S.bx
    replace c2 := X2.cell
    replace f2 := X2.froz
    replace Y := Y.kept S.kept (by omega)
    replace hY := Nat.le_trans hY S.kept.size
    replace dC := dC.kept S.kept (by omega)
    replace hdC := Nat.le_trans hdC S.kept.size
    replace B := bkp B S.kept
    replace BW := BW.trans (S.kept.below _ (by omega) BW.size)
    clear S
    clear hZq
    refine hKK _ _ c0 (fun hZq => ?_)
    clear hKK KK
    refine wpAnyH_done (by kernel_rfl) ?_ _
    go_wp2_with fail
    go_meet
    exact ⟨b2, rfl, zc, uc, Nc, Mc, Lc, xc, yc, X2, dC, sC, fC, kC, by omega, hdC, by omega, by omega, BW⟩
   ·refine step_allocX 34 [.int .i64 0, .slice none 0 0, .slice none 0 0, .slice none 0 0] (fun _ => by kernel_rfl) ?_
    intro b2 W2 N2
    have ob2 := Nat.le_trans B.size N2.ge
    have o0_b2 := ltl X0.lt N2.ge
    have o1_b2 := ltl X1.lt N2.ge
    have oY_b2 : u ≤ b2 := Nat.le_trans hY N2.ge
    have BW_b2 := Nat.le_trans BW.size N2.ge
    replace X0 := X0.below N2.below
    replace c0 := X0.cell
    replace f0 := X0.froz
    replace X1 := X1.below N2.below
    replace c1 := X1.cell
    replace f1 := X1.froz
    replace Y := Y.below N2.below
    replace hY := Nat.le_trans hY N2.below.size
    replace B := below_next B N2.below
    replace BW := below_next BW N2.below
    have X2 := N2.bx
    have c2 := X2.cell
    have f2 := X2.froz
    clear N2
    clear hZq
    refine hKK _ _ c0 (fun hZq => ?_)
    clear hKK KK
    refine rd1 5 (fun KK hKK => ?_)
    go_simp
    go_at_call 26
    refine (HCr.out N (none, 0, 0) (none, 0, 0) xs [] _ Y S0.out HF.out rfl).mono ?_
    rintro e v5 ⟨zc, uc, Nc, Mc, Lc, xc, yc, rfl, Gzc, hdC, dC, sC, fC, kC, BB⟩
    have ozc : w0.heap.size ≤ zc := Nat.le_trans B.size Gzc
    have o0_zc := ltl X0.lt Gzc
    have o1_zc := ltl X1.lt Gzc
    have o2_zc := ltl X2.lt Gzc
    have oY_zc : u ≤ zc := Nat.le_trans hY Gzc
    have BW_zc := Nat.le_trans BW.size Gzc
    clear Gzc
    replace X0 := X0.below BB
    replace c0 := X0.cell
    replace f0 := X0.froz
    replace X1 := X1.below BB
    replace c1 := X1.cell
    replace f1 := X1.froz
    replace X2 := X2.below BB
    replace c2 := X2.cell
    replace f2 := X2.froz
    replace Y := Y.below BB
    replace hY := Nat.le_trans hY BB.size
    replace B := below_next B BB
    replace BW := below_next BW BB
    clear BB
    clear hZq
    refine hKK _ _ c0 (fun hZq => ?_)
    clear hKK KK
    refine rd1 7 (fun KK hKK => ?_)
    refine step_midX 34 X2 0 [.int .i64 0, .slice Nc.1 Nc.2.1 Nc.2.2, .slice Mc.1 Mc.2.1 Mc.2.2, .slice Lc.1 Lc.2.1 Lc.2.2] (by simp) (by kernel_rfl) (by simp [Value.oneCell']) rfl rfl ?_
    intro V3 S
    replace X0 := X0.kp S.kept
    replace c0 := X0.cell
    replace f0 := X0.froz
    replace X1 := X1.kp S.kept
    replace c1 := X1.cell
    replace f1 := X1.froz
    replace X2 : Bx V3 b2 [.int .i64 0, .slice Nc.1 Nc.2.1 Nc.2.2, .slice Mc.1 Mc.2.1 Mc.2.2, .slice Lc.1 Lc.2.1 Lc.2.2] := S.bx
    replace c2 := X2.cell
    replace f2 := X2.froz
    replace Y := Y.kept S.kept (by omega)
    replace hY := Nat.le_trans hY S.kept.size
    replace dC := dC.kept S.kept (by omega)
    replace hdC := Nat.le_trans hdC S.kept.size
    replace B := bkp B S.kept
    replace BW := BW.trans (S.kept.below _ (by omega) BW.size)
    clear S
    clear hZq
    refine hKK _ _ c0 (fun hZq => ?_)
    clear hKK KK
    refine wpAnyH_done (by kernel_rfl) ?_ _
    go_wp2_with fail
    go_meet
    exact ⟨b2, rfl, zc, uc, Nc, Mc, Lc, xc, yc, X2, dC, sC, fC, kC, by omega, hdC, by omega, by omega, BW⟩
  ·refine step_allocX 34 [.int .i64 0, .slice none 0 0, .slice none 0 0, .slice none 0 0] (fun _ => by kernel_rfl) ?_
   intro b2 W2 N2
   have ob2 := Nat.le_trans B.size N2.ge
   have o0_b2 := ltl X0.lt N2.ge
   have o1_b2 := ltl X1.lt N2.ge
   have oY_b2 : u ≤ b2 := Nat.le_trans hY N2.ge
   have BW_b2 := Nat.le_trans BW.size N2.ge
   replace X0 := X0.below N2.below
   replace c0 := X0.cell
   replace f0 := X0.froz
   replace X1 := X1.below N2.below
   replace c1 := X1.cell
   replace f1 := X1.froz
   replace Y := Y.below N2.below
   replace hY := Nat.le_trans hY N2.below.size
   replace B := below_next B N2.below
   replace BW := below_next BW N2.below
   have X2 := N2.bx
   have c2 := X2.cell
   have f2 := X2.froz
   clear N2
   clear hZq
   refine hKK _ _ c0 (fun hZq => ?_)
   clear hKK KK
   refine rd1 4 (fun KK hKK => ?_)
   go_simp
   go_at_call 37
   refine (lwAt_of ac nc cc cs 1 m (1 : Int) (m : Int) rfl rfl _ (hrow.below B) hcs (by omega) hc (by omega) v HV.out).mono ?_
   rintro e v4 ⟨rfl, BB⟩
   replace X0 := X0.below BB
   replace c0 := X0.cell
   replace f0 := X0.froz
   replace X1 := X1.below BB
   replace c1 := X1.cell
   replace f1 := X1.froz
   replace X2 := X2.below BB
   replace c2 := X2.cell
   replace f2 := X2.froz
   replace Y := Y.below BB
   replace hY := Nat.le_trans hY BB.size
   replace B := below_next B BB
   replace BW := below_next BW BB
   clear BB
   clear hZq
   refine hKK _ _ c0 (fun hZq => ?_)
   clear hKK KK
   refine rd1 5 (fun KK hKK => ?_)
   go_simp
   go_at_call 26
   refine (HCr.out N (none, 0, 0) (none, 0, 0) xs [] _ Y S0.out HF.out rfl).mono ?_
   rintro e v5 ⟨zc, uc, Nc, Mc, Lc, xc, yc, rfl, Gzc, hdC, dC, sC, fC, kC, BB⟩
   have ozc : w0.heap.size ≤ zc := Nat.le_trans B.size Gzc
   have o0_zc := ltl X0.lt Gzc
   have o1_zc := ltl X1.lt Gzc
   have o2_zc := ltl X2.lt Gzc
   have oY_zc : u ≤ zc := Nat.le_trans hY Gzc
   have BW_zc := Nat.le_trans BW.size Gzc
   clear Gzc
   replace X0 := X0.below BB
   replace c0 := X0.cell
   replace f0 := X0.froz
   replace X1 := X1.below BB
   replace c1 := X1.cell
   replace f1 := X1.froz
   replace X2 := X2.below BB
   replace c2 := X2.cell
   replace f2 := X2.froz
   replace Y := Y.below BB
   replace hY := Nat.le_trans hY BB.size
   replace B := below_next B BB
   replace BW := below_next BW BB
   clear BB
   clear hZq
   refine hKK _ _ c0 (fun hZq => ?_)
   clear hKK KK
   refine rd1 7 (fun KK hKK => ?_)
   refine step_midX 34 X2 0 [.int .i64 0, .slice Nc.1 Nc.2.1 Nc.2.2, .slice Mc.1 Mc.2.1 Mc.2.2, .slice Lc.1 Lc.2.1 Lc.2.2] (by simp) (by kernel_rfl) (by simp [Value.oneCell']) rfl rfl ?_
   intro V3 S
   replace X0 := X0.kp S.kept
   replace c0 := X0.cell
   replace f0 := X0.froz
   replace X1 := X1.kp S.kept
   replace c1 := X1.cell
   replace f1 := X1.froz
   replace X2 : Bx V3 b2 [.int .i64 0, .slice Nc.1 Nc.2.1 Nc.2.2, .slice Mc.1 Mc.2.1 Mc.2.2, .slice Lc.1 Lc.2.1 Lc.2.2] := S.bx
   replace c2 := X2.cell
   replace f2 := X2.froz
   replace Y := Y.kept S.kept (by omega)
   replace hY := Nat.le_trans hY S.kept.size
   replace dC := dC.kept S.kept (by omega)
   replace hdC := Nat.le_trans hdC S.kept.size
   replace B := bkp B S.kept
   replace BW := BW.trans (S.kept.below _ (by omega) BW.size)
   clear S
   clear hZq
   refine hKK _ _ c0 (fun hZq => ?_)
   clear hKK KK
   refine wpAnyH_done (by kernel_rfl) ?_ _
   go_wp2_with fail
   go_meet
   exact ⟨b2, rfl, zc, uc, Nc, Mc, Lc, xc, yc, X2, dC, sC, fC, kC, by omega, hdC, by omega, by omega, BW⟩
 case rest =>
  obtain ⟨b2, rfl, zc, uc, Nc, Mc, Lc, xc, yc, XX, dC, sC, fC, kC, Gz9, hdC, Gb9, sep2, BX⟩ := hcut
  rename World => wc8
  have hbx := BX.size
  have ob2 : w0.heap.size ≤ b2 := Nat.le_trans B.size Gb9
  have o0_b2 := ltl X0.lt Gb9
  have o1_b2 := ltl X1.lt Gb9
  have oY_b2 : u ≤ b2 := Nat.le_trans hY Gb9
  have ozc : w0.heap.size ≤ zc := Nat.le_trans B.size Gz9
  have o0_zc := ltl X0.lt Gz9
  have o1_zc := ltl X1.lt Gz9
  have oY_zc : u ≤ zc := Nat.le_trans hY Gz9
  replace X0 := X0.below BX
  replace c0 := X0.cell
  replace f0 := X0.froz
  replace X1 := X1.below BX
  replace c1 := X1.cell
  replace f1 := X1.froz
  replace Y := Y.below BX
  replace hY := Nat.le_trans hY BX.size
  replace B := below_next B BX
  have X2 := XX
  have c2 := X2.cell
  clear XX BX Gz9 Gb9
  go_wp2_with fail
  refine (HBe.out Nc Mc Lc xc yc _ dC sC fC kC).mono ?_
  rintro e w5 ⟨zb, ub, Nb, Mb, Lb, xb, yb, rfl, Gzb, hdB, dB, sB, fB, kB, BB⟩
  have ozb : w0.heap.size ≤ zb := Nat.le_trans B.size Gzb
  have o0_zb := ltl X0.lt Gzb
  have o1_zb := ltl X1.lt Gzb
  have o2_zb := ltl X2.lt Gzb
  have oY_zb : u ≤ zb := Nat.le_trans hY Gzb
  have odC_zb : uc ≤ zb := Nat.le_trans hdC Gzb
  clear Gzb
  replace X0 := X0.below BB
  replace c0 := X0.cell
  replace f0 := X0.froz
  replace X1 := X1.below BB
  replace c1 := X1.cell
  replace f1 := X1.froz
  replace X2 := X2.below BB
  replace c2 := X2.cell
  replace Y := Y.below BB
  replace hY := Nat.le_trans hY BB.size
  replace dC := dC.below BB
  replace hdC := Nat.le_trans hdC BB.size
  replace B := below_next B BB
  clear BB
  go_wp2_with (first | ((with_reducible refine store_midX 34 X3 0 [.int .i64 0, .slice Nb.1 Nb.2.1 Nb.2.2, .slice Mb.1 Mb.2.1 Mb.2.2, .slice Lb.1 Lb.2.1 Lb.2.2] (by simp) (by kernel_rfl) (by simp [Value.oneCell']) rfl rfl ?_); intro V3 S; replace X0 := X0.kp S.kept; replace c0 := X0.cell; replace f0 := X0.froz; replace X1 := X1.kp S.kept; replace c1 := X1.cell; replace f1 := X1.froz; replace X2 := X2.kp S.kept; replace c2 := X2.cell; replace X3 : Bx V3 b3 [.int .i64 0, .slice Nb.1 Nb.2.1 Nb.2.2, .slice Mb.1 Mb.2.1 Mb.2.2, .slice Lb.1 Lb.2.1 Lb.2.2] := S.bx; replace c3 := X3.cell; replace f3 := X3.froz; replace Y := Y.kept S.kept (by omega); replace hY := Nat.le_trans hY S.kept.size; replace dC := dC.kept S.kept (by omega); replace hdC := Nat.le_trans hdC S.kept.size; replace dB := dB.kept S.kept (by omega); replace hdB := Nat.le_trans hdB S.kept.size; replace B := bkp B S.kept; clear S) | ((have g := ob2); clear g; (with_reducible refine alloc_newX 34 [.int .i64 0, .slice none 0 0, .slice none 0 0, .slice none 0 0] (fun _ => by kernel_rfl) ?_); intro b3 W3 N3; have ob3 := Nat.le_trans B.size N3.ge; have o0_b3 := ltl X0.lt N3.ge; have o1_b3 := ltl X1.lt N3.ge; have o2_b3 := ltl X2.lt N3.ge; have oY_b3 : u ≤ b3 := Nat.le_trans hY N3.ge; have odC_b3 : uc ≤ b3 := Nat.le_trans hdC N3.ge; have odB_b3 : ub ≤ b3 := Nat.le_trans hdB N3.ge; replace X0 := X0.below N3.below; replace c0 := X0.cell; replace f0 := X0.froz; replace X1 := X1.below N3.below; replace c1 := X1.cell; replace f1 := X1.froz; replace X2 := X2.below N3.below; replace c2 := X2.cell; replace Y := Y.below N3.below; replace hY := Nat.le_trans hY N3.below.size; replace dC := dC.below N3.below; replace hdC := Nat.le_trans hdC N3.below.size; replace dB := dB.below N3.below; replace hdB := Nat.le_trans hdB N3.below.size; replace B := below_next B N3.below; have X3 := N3.bx; have c3 := X3.cell; have f3 := X3.froz; clear N3) | fail)
  have hMb : Hid (Mb.2.1 + 1 = m) := by
   show _ = _
   have h1 := dB.mails.len
   have h2 : (yb.map (·.1)).length + 1 = m := by rw [kB]; exact HP10.out
   rw [List.length_map] at h2; omega
  first | go_frame | skip
  go_cut [8] (fun y wx => ∃ xb : Nat, y = .pointer (some ⟨xb, 0, none⟩) ∧ CBox V3 wx xb (nwR3 m v) (nwM3 m v) (nwE3 m v))
  case first =>
   have BW : Below V3.heap.size V3 V3 := Below.refl _ _
   have DQ : Below V3.heap.size V3 V3.drew := (Below.refl _ _).drew
   replace X0 := X0.below DQ
   replace c0 := X0.cell
   replace f0 := X0.froz
   replace X1 := X1.below DQ
   replace c1 := X1.cell
   replace f1 := X1.froz
   replace X2 := X2.below DQ
   replace c2 := X2.cell
   replace X3 := X3.below DQ
   replace c3 := X3.cell
   replace f3 := X3.froz
   replace Y := Y.below DQ
   replace hY := Nat.le_trans hY DQ.size
   replace dC := dC.below DQ
   replace hdC := Nat.le_trans hdC DQ.size
   replace dB := dB.below DQ
   replace hdB := Nat.le_trans hdB DQ.size
   replace B := below_next B DQ
   replace BW := below_next BW DQ
   clear DQ
   refine wp_region_held_drew (S := (fun w' => (∀ k : Nat, w'.cell? ⟨b0, k, none⟩ = [.int .i64 0, .slice N.1 N.2.1 N.2.2, .slice none 0 0, .slice none 0 0][k]?))) (by kernel_rfl) c0 (fun hZq => ?_)
   refine tk 0 hZq ?_
   refine tk 1 hZq ?_
   refine tk 2 hZq ?_
   refine tk 3 hZq ?_
   refine wpAnyH_ready (rs := [4, 6]) (by kernel_rfl) (by simp) ?_
   refine (AllReadyH.cons rfl (fun KK hKK => ?_) (AllReadyH.cons rfl (fun KK hKK => ?_) AllReadyH.nil))
   ·go_simp
    go_at_call 37
    refine (lwAt_of ac nc cc cs 1 m (1 : Int) (m : Int) rfl rfl _ (hrow.below B) hcs (by omega) hc (by omega) v HV.out).mono ?_
    rintro e v4 ⟨rfl, BB⟩
    replace X0 := X0.below BB
    replace c0 := X0.cell
    replace f0 := X0.froz
    replace X1 := X1.below BB
    replace c1 := X1.cell
    replace f1 := X1.froz
    replace X2 := X2.below BB
    replace c2 := X2.cell
    replace X3 := X3.below BB
    replace c3 := X3.cell
    replace f3 := X3.froz
    replace Y := Y.below BB
    replace hY := Nat.le_trans hY BB.size
    replace dC := dC.below BB
    replace hdC := Nat.le_trans hdC BB.size
    replace dB := dB.below BB
    replace hdB := Nat.le_trans hdB BB.size
    replace B := below_next B BB
    replace BW := below_next BW BB
    clear BB
    clear hZq
    refine hKK _ _ c0 (fun hZq => ?_)
    clear hKK KK
    refine wpAnyH_ready (rs := [5, 6]) (by kernel_rfl) (by simp) ?_
    refine (AllReadyH.cons rfl (fun KK hKK => ?_) (AllReadyH.cons rfl (fun KK hKK => ?_) AllReadyH.nil))
    ·go_simp
     go_at_call 17
     refine (HTi.out N (none, 0, 0) (none, 0, 0) xs [] _ Y S0.out HF.out rfl).mono ?_
     rintro e v5 ⟨zt, ut, Nt, Mt, Lt, xt, yt, rfl, Gzt, hdT, dT, sT, fT, kT, BB⟩
     have ozt : w0.heap.size ≤ zt := Nat.le_trans B.size Gzt
     have o0_zt := ltl X0.lt Gzt
     have o1_zt := ltl X1.lt Gzt
     have o2_zt := ltl X2.lt Gzt
     have o3_zt := ltl X3.lt Gzt
     have oY_zt : u ≤ zt := Nat.le_trans hY Gzt
     have odC_zt : uc ≤ zt := Nat.le_trans hdC Gzt
     have odB_zt : ub ≤ zt := Nat.le_trans hdB Gzt
     have BW_zt := Nat.le_trans BW.size Gzt
     clear Gzt
     replace X0 := X0.below BB
     replace c0 := X0.cell
     replace f0 := X0.froz
     replace X1 := X1.below BB
     replace c1 := X1.cell
     replace f1 := X1.froz
     replace X2 := X2.below BB
     replace c2 := X2.cell
     replace X3 := X3.below BB
     replace c3 := X3.cell
     replace f3 := X3.froz
     replace Y := Y.below BB
     replace hY := Nat.le_trans hY BB.size
     replace dC := dC.below BB
     replace hdC := Nat.le_trans hdC BB.size
     replace dB := dB.below BB
     replace hdB := Nat.le_trans hdB BB.size
     replace B := below_next B BB
     replace BW := below_next BW BB
     clear BB
     clear hZq
     refine hKK _ _ c0 (fun hZq => ?_)
     clear hKK KK
     refine rd1 6 (fun KK hKK => ?_)
     refine step_allocX 34 [.int .i64 0, .slice none 0 0, .slice none 0 0, .slice none 0 0] (fun _ => by kernel_rfl) ?_
     intro b4 W4 N4
     have ob4 := Nat.le_trans B.size N4.ge
     have o0_b4 := ltl X0.lt N4.ge
     have o1_b4 := ltl X1.lt N4.ge
     have o2_b4 := ltl X2.lt N4.ge
     have o3_b4 := ltl X3.lt N4.ge
     have oY_b4 : u ≤ b4 := Nat.le_trans hY N4.ge
     have odC_b4 : uc ≤ b4 := Nat.le_trans hdC N4.ge
     have odB_b4 : ub ≤ b4 := Nat.le_trans hdB N4.ge
     have odT_b4 : ut ≤ b4 := Nat.le_trans hdT N4.ge
     have BW_b4 := Nat.le_trans BW.size N4.ge
     replace X0 := X0.below N4.below
     replace c0 := X0.cell
     replace f0 := X0.froz
     replace X1 := X1.below N4.below
     replace c1 := X1.cell
     replace f1 := X1.froz
     replace X2 := X2.below N4.below
     replace c2 := X2.cell
     replace X3 := X3.below N4.below
     replace c3 := X3.cell
     replace f3 := X3.froz
     replace Y := Y.below N4.below
     replace hY := Nat.le_trans hY N4.below.size
     replace dC := dC.below N4.below
     replace hdC := Nat.le_trans hdC N4.below.size
     replace dB := dB.below N4.below
     replace hdB := Nat.le_trans hdB N4.below.size
     replace dT := dT.below N4.below
     replace hdT := Nat.le_trans hdT N4.below.size
     replace B := below_next B N4.below
     replace BW := below_next BW N4.below
     have X4 := N4.bx
     have c4 := X4.cell
     have f4 := X4.froz
     clear N4
     clear hZq
     refine hKK _ _ c0 (fun hZq => ?_)
     clear hKK KK
     refine rd1 7 (fun KK hKK => ?_)
     refine step_midX 34 X4 0 [.int .i64 0, .slice Nt.1 Nt.2.1 Nt.2.2, .slice Mt.1 Mt.2.1 Mt.2.2, .slice Lt.1 Lt.2.1 Lt.2.2] (by simp) (by kernel_rfl) (by simp [Value.oneCell']) rfl rfl ?_
     intro V4 S
     replace X0 := X0.kp S.kept
     replace c0 := X0.cell
     replace f0 := X0.froz
     replace X1 := X1.kp S.kept
     replace c1 := X1.cell
     replace f1 := X1.froz
     replace X2 := X2.kp S.kept
     replace c2 := X2.cell
     replace X3 := X3.kp S.kept
     replace c3 := X3.cell
     replace f3 := X3.froz
     replace X4 : Bx V4 b4 [.int .i64 0, .slice Nt.1 Nt.2.1 Nt.2.2, .slice Mt.1 Mt.2.1 Mt.2.2, .slice Lt.1 Lt.2.1 Lt.2.2] := S.bx
     replace c4 := X4.cell
     replace f4 := X4.froz
     replace Y := Y.kept S.kept (by omega)
     replace hY := Nat.le_trans hY S.kept.size
     replace dC := dC.kept S.kept (by omega)
     replace hdC := Nat.le_trans hdC S.kept.size
     replace dB := dB.kept S.kept (by omega)
     replace hdB := Nat.le_trans hdB S.kept.size
     replace dT := dT.kept S.kept (by omega)
     replace hdT := Nat.le_trans hdT S.kept.size
     replace B := bkp B S.kept
     replace BW := BW.trans (S.kept.below _ (by omega) BW.size)
     clear S
     clear hZq
     refine hKK _ _ c0 (fun hZq => ?_)
     clear hKK KK
     refine wpAnyH_done (by kernel_rfl) ?_ _
     go_wp2_with fail
     go_meet
     exact ⟨b4, rfl, zt, ut, Nt, Mt, Lt, xt, yt, X4, dT, sT, fT, kT, by omega, hdT, by omega, by omega, BW⟩
    ·refine step_allocX 34 [.int .i64 0, .slice none 0 0, .slice none 0 0, .slice none 0 0] (fun _ => by kernel_rfl) ?_
     intro b4 W4 N4
     have ob4 := Nat.le_trans B.size N4.ge
     have o0_b4 := ltl X0.lt N4.ge
     have o1_b4 := ltl X1.lt N4.ge
     have o2_b4 := ltl X2.lt N4.ge
     have o3_b4 := ltl X3.lt N4.ge
     have oY_b4 : u ≤ b4 := Nat.le_trans hY N4.ge
     have odC_b4 : uc ≤ b4 := Nat.le_trans hdC N4.ge
     have odB_b4 : ub ≤ b4 := Nat.le_trans hdB N4.ge
     have BW_b4 := Nat.le_trans BW.size N4.ge
     replace X0 := X0.below N4.below
     replace c0 := X0.cell
     replace f0 := X0.froz
     replace X1 := X1.below N4.below
     replace c1 := X1.cell
     replace f1 := X1.froz
     replace X2 := X2.below N4.below
     replace c2 := X2.cell
     replace X3 := X3.below N4.below
     replace c3 := X3.cell
     replace f3 := X3.froz
     replace Y := Y.below N4.below
     replace hY := Nat.le_trans hY N4.below.size
     replace dC := dC.below N4.below
     replace hdC := Nat.le_trans hdC N4.below.size
     replace dB := dB.below N4.below
     replace hdB := Nat.le_trans hdB N4.below.size
     replace B := below_next B N4.below
     replace BW := below_next BW N4.below
     have X4 := N4.bx
     have c4 := X4.cell
     have f4 := X4.froz
     clear N4
     clear hZq
     refine hKK _ _ c0 (fun hZq => ?_)
     clear hKK KK
     refine rd1 5 (fun KK hKK => ?_)
     go_simp
     go_at_call 17
     refine (HTi.out N (none, 0, 0) (none, 0, 0) xs [] _ Y S0.out HF.out rfl).mono ?_
     rintro e v5 ⟨zt, ut, Nt, Mt, Lt, xt, yt, rfl, Gzt, hdT, dT, sT, fT, kT, BB⟩
     have ozt : w0.heap.size ≤ zt := Nat.le_trans B.size Gzt
     have o0_zt := ltl X0.lt Gzt
     have o1_zt := ltl X1.lt Gzt
     have o2_zt := ltl X2.lt Gzt
     have o3_zt := ltl X3.lt Gzt
     have o4_zt := ltl X4.lt Gzt
     have oY_zt : u ≤ zt := Nat.le_trans hY Gzt
     have odC_zt : uc ≤ zt := Nat.le_trans hdC Gzt
     have odB_zt : ub ≤ zt := Nat.le_trans hdB Gzt
     have BW_zt := Nat.le_trans BW.size Gzt
     clear Gzt
     replace X0 := X0.below BB
     replace c0 := X0.cell
     replace f0 := X0.froz
     replace X1 := X1.below BB
     replace c1 := X1.cell
     replace f1 := X1.froz
     replace X2 := X2.below BB
     replace c2 := X2.cell
     replace X3 := X3.below BB
     replace c3 := X3.cell
     replace f3 := X3.froz
     replace X4 := X4.below BB
     replace c4 := X4.cell
     replace f4 := X4.froz
     replace Y := Y.below BB
     replace hY := Nat.le_trans hY BB.size
     replace dC := dC.below BB
     replace hdC := Nat.le_trans hdC BB.size
     replace dB := dB.below BB
     replace hdB := Nat.le_trans hdB BB.size
     replace B := below_next B BB
     replace BW := below_next BW BB
     clear BB
     clear hZq
     refine hKK _ _ c0 (fun hZq => ?_)
     clear hKK KK
     refine rd1 7 (fun KK hKK => ?_)
     refine step_midX 34 X4 0 [.int .i64 0, .slice Nt.1 Nt.2.1 Nt.2.2, .slice Mt.1 Mt.2.1 Mt.2.2, .slice Lt.1 Lt.2.1 Lt.2.2] (by simp) (by kernel_rfl) (by simp [Value.oneCell']) rfl rfl ?_
     intro V4 S
     replace X0 := X0.kp S.kept
     replace c0 := X0.cell
     replace f0 := X0.froz
     replace X1 := X1.kp S.kept
     replace c1 := X1.cell
     replace f1 := X1.froz
     replace X2 := X2.kp S.kept
     replace c2 := X2.cell
     replace X3 := X3.kp S.kept
     replace c3 := X3.cell
     replace f3 := X3.froz
     replace X4 : Bx V4 b4 [.int .i64 0, .slice Nt.1 Nt.2.1 Nt.2.2, .slice Mt.1 Mt.2.1 Mt.2.2, .slice Lt.1 Lt.2.1 Lt.2.2] := S.bx
     replace c4 := X4.cell
     replace f4 := X4.froz
     replace Y := Y.kept S.kept (by omega)
     replace hY := Nat.le_trans hY S.kept.size
     replace dC := dC.kept S.kept (by omega)
     replace hdC := Nat.le_trans hdC S.kept.size
     replace dB := dB.kept S.kept (by omega)
     replace hdB := Nat.le_trans hdB S.kept.size
     replace dT := dT.kept S.kept (by omega)
     replace hdT := Nat.le_trans hdT S.kept.size
     replace B := bkp B S.kept
     replace BW := BW.trans (S.kept.below _ (by omega) BW.size)
     clear S
     clear hZq
     refine hKK _ _ c0 (fun hZq => ?_)
     clear hKK KK
     refine wpAnyH_done (by kernel_rfl) ?_ _
     go_wp2_with fail
     go_meet
     exact ⟨b4, rfl, zt, ut, Nt, Mt, Lt, xt, yt, X4, dT, sT, fT, kT, by omega, hdT, by omega, by omega, BW⟩
   ·refine step_allocX 34 [.int .i64 0, .slice none 0 0, .slice none 0 0, .slice none 0 0] (fun _ => by kernel_rfl) ?_
    intro b4 W4 N4
    have ob4 := Nat.le_trans B.size N4.ge
    have o0_b4 := ltl X0.lt N4.ge
    have o1_b4 := ltl X1.lt N4.ge
    have o2_b4 := ltl X2.lt N4.ge
    have o3_b4 := ltl X3.lt N4.ge
    have oY_b4 : u ≤ b4 := Nat.le_trans hY N4.ge
    have odC_b4 : uc ≤ b4 := Nat.le_trans hdC N4.ge
    have odB_b4 : ub ≤ b4 := Nat.le_trans hdB N4.ge
    have BW_b4 := Nat.le_trans BW.size N4.ge
    replace X0 := X0.below N4.below
    replace c0 := X0.cell
    replace f0 := X0.froz
    replace X1 := X1.below N4.below
    replace c1 := X1.cell
    replace f1 := X1.froz
    replace X2 := X2.below N4.below
    replace c2 := X2.cell
    replace X3 := X3.below N4.below
    replace c3 := X3.cell
    replace f3 := X3.froz
    replace Y := Y.below N4.below
    replace hY := Nat.le_trans hY N4.below.size
    replace dC := dC.below N4.below
    replace hdC := Nat.le_trans hdC N4.below.size
    replace dB := dB.below N4.below
    replace hdB := Nat.le_trans hdB N4.below.size
    replace B := below_next B N4.below
    replace BW := below_next BW N4.below
    have X4 := N4.bx
    have c4 := X4.cell
    have f4 := X4.froz
    clear N4
    clear hZq
    refine hKK _ _ c0 (fun hZq => ?_)
    clear hKK KK
    refine rd1 4 (fun KK hKK => ?_)
    go_simp
    go_at_call 37
    refine (lwAt_of ac nc cc cs 1 m (1 : Int) (m : Int) rfl rfl _ (hrow.below B) hcs (by omega) hc (by omega) v HV.out).mono ?_
    rintro e v4 ⟨rfl, BB⟩
    replace X0 := X0.below BB
    replace c0 := X0.cell
    replace f0 := X0.froz
    replace X1 := X1.below BB
    replace c1 := X1.cell
    replace f1 := X1.froz
    replace X2 := X2.below BB
    replace c2 := X2.cell
    replace X3 := X3.below BB
    replace c3 := X3.cell
    replace f3 := X3.froz
    replace X4 := X4.below BB
    replace c4 := X4.cell
    replace f4 := X4.froz
    replace Y := Y.below BB
    replace hY := Nat.le_trans hY BB.size
    replace dC := dC.below BB
    replace hdC := Nat.le_trans hdC BB.size
    replace dB := dB.below BB
    replace hdB := Nat.le_trans hdB BB.size
    replace B := below_next B BB
    replace BW := below_next BW BB
    clear BB
    clear hZq
    refine hKK _ _ c0 (fun hZq => ?_)
    clear hKK KK
    refine rd1 5 (fun KK hKK => ?_)
    go_simp
    go_at_call 17
    refine (HTi.out N (none, 0, 0) (none, 0, 0) xs [] _ Y S0.out HF.out rfl).mono ?_
    rintro e v5 ⟨zt, ut, Nt, Mt, Lt, xt, yt, rfl, Gzt, hdT, dT, sT, fT, kT, BB⟩
    have ozt : w0.heap.size ≤ zt := Nat.le_trans B.size Gzt
    have o0_zt := ltl X0.lt Gzt
    have o1_zt := ltl X1.lt Gzt
    have o2_zt := ltl X2.lt Gzt
    have o3_zt := ltl X3.lt Gzt
    have o4_zt := ltl X4.lt Gzt
    have oY_zt : u ≤ zt := Nat.le_trans hY Gzt
    have odC_zt : uc ≤ zt := Nat.le_trans hdC Gzt
    have odB_zt : ub ≤ zt := Nat.le_trans hdB Gzt
    have BW_zt := Nat.le_trans BW.size Gzt
    clear Gzt
    replace X0 := X0.below BB
    replace c0 := X0.cell
    replace f0 := X0.froz
    replace X1 := X1.below BB
    replace c1 := X1.cell
    replace f1 := X1.froz
    replace X2 := X2.below BB
    replace c2 := X2.cell
    replace X3 := X3.below BB
    replace c3 := X3.cell
    replace f3 := X3.froz
    replace X4 := X4.below BB
    replace c4 := X4.cell
    replace f4 := X4.froz
    replace Y := Y.below BB
    replace hY := Nat.le_trans hY BB.size
    replace dC := dC.below BB
    replace hdC := Nat.le_trans hdC BB.size
    replace dB := dB.below BB
    replace hdB := Nat.le_trans hdB BB.size
    replace B := below_next B BB
    replace BW := below_next BW BB
    clear BB
    clear hZq
    refine hKK _ _ c0 (fun hZq => ?_)
    clear hKK KK
    refine rd1 7 (fun KK hKK => ?_)
    refine step_midX 34 X4 0 [.int .i64 0, .slice Nt.1 Nt.2.1 Nt.2.2, .slice Mt.1 Mt.2.1 Mt.2.2, .slice Lt.1 Lt.2.1 Lt.2.2] (by simp) (by kernel_rfl) (by simp [Value.oneCell']) rfl rfl ?_
    intro V4 S
    replace X0 := X0.kp S.kept
    replace c0 := X0.cell
    replace f0 := X0.froz
    replace X1 := X1.kp S.kept
    replace c1 := X1.cell
    replace f1 := X1.froz
    replace X2 := X2.kp S.kept
    replace c2 := X2.cell
    replace X3 := X3.kp S.kept
    replace c3 := X3.cell
    replace f3 := X3.froz
    replace X4 : Bx V4 b4 [.int .i64 0, .slice Nt.1 Nt.2.1 Nt.2.2, .slice Mt.1 Mt.2.1 Mt.2.2, .slice Lt.1 Lt.2.1 Lt.2.2] := S.bx
    replace c4 := X4.cell
    replace f4 := X4.froz
    replace Y := Y.kept S.kept (by omega)
    replace hY := Nat.le_trans hY S.kept.size
    replace dC := dC.kept S.kept (by omega)
    replace hdC := Nat.le_trans hdC S.kept.size
    replace dB := dB.kept S.kept (by omega)
    replace hdB := Nat.le_trans hdB S.kept.size
    replace dT := dT.kept S.kept (by omega)
    replace hdT := Nat.le_trans hdT S.kept.size
    replace B := bkp B S.kept
    replace BW := BW.trans (S.kept.below _ (by omega) BW.size)
    clear S
    clear hZq
    refine hKK _ _ c0 (fun hZq => ?_)
    clear hKK KK
    refine wpAnyH_done (by kernel_rfl) ?_ _
    go_wp2_with fail
    go_meet
    exact ⟨b4, rfl, zt, ut, Nt, Mt, Lt, xt, yt, X4, dT, sT, fT, kT, by omega, hdT, by omega, by omega, BW⟩
  case rest =>
   obtain ⟨b4, rfl, zt, ut, Nt, Mt, Lt, xt, yt, XX, dT, sT, fT, kT, Gz9, hdT, Gb9, sep4, BX⟩ := hcut
   rename World => wc10
   have hbx := BX.size
   have ob4 : w0.heap.size ≤ b4 := Nat.le_trans B.size Gb9
   have o0_b4 := ltl X0.lt Gb9
   have o1_b4 := ltl X1.lt Gb9
   have o2_b4 := ltl X2.lt Gb9
   have o3_b4 := ltl X3.lt Gb9
   have oY_b4 : u ≤ b4 := Nat.le_trans hY Gb9
   have odC_b4 : uc ≤ b4 := Nat.le_trans hdC Gb9
   have odB_b4 : ub ≤ b4 := Nat.le_trans hdB Gb9
   have ozt : w0.heap.size ≤ zt := Nat.le_trans B.size Gz9
   have o0_zt := ltl X0.lt Gz9
   have o1_zt := ltl X1.lt Gz9
   have o2_zt := ltl X2.lt Gz9
   have o3_zt := ltl X3.lt Gz9
   have oY_zt : u ≤ zt := Nat.le_trans hY Gz9
   have odC_zt : uc ≤ zt := Nat.le_trans hdC Gz9
   have odB_zt : ub ≤ zt := Nat.le_trans hdB Gz9
   replace X0 := X0.below BX
   replace c0 := X0.cell
   replace f0 := X0.froz
   replace X1 := X1.below BX
   replace c1 := X1.cell
   replace f1 := X1.froz
   replace X2 := X2.below BX
   replace c2 := X2.cell
   replace X3 := X3.below BX
   replace c3 := X3.cell
   replace f3 := X3.froz
   replace Y := Y.below BX
   replace hY := Nat.le_trans hY BX.size
   replace dC := dC.below BX
   replace hdC := Nat.le_trans hdC BX.size
   replace dB := dB.below BX
   replace hdB := Nat.le_trans hdB BX.size
   replace B := below_next B BX
   have X4 := XX
   have c4 := X4.cell
   clear XX BX Gz9 Gb9
   obtain ⟨dm, hdm⟩ : ∃ q, decide (m = 1) = q := ⟨_, rfl⟩
   have HDM : Hid _ := hdm
   have h1m : ((m : Int) == 1) = dm := by rw [← hdm]; by_cases q : m = 1 <;> simp [q] <;> omega
   have hmm : (dm == dm) = true := by simp
   have hNi : ((N.2.1 : Int) == (m : Int)) = true := by simp [hNm.out]
   have hMi : ((Mb.2.1 : Int) == (m : Int) - 1) = true := by have := hMb.out; simp; omega
   clear hdm hNm hMb
   go_wp2_with fail
   refine (auEC_is N (none, 0, 0) (none, 0, 0) xs [] [] _ Y S0.out true (by rw [HF.out]; show (decide (cluF (nwL m) [] [] = 0) && auEven (nwL m)) = true; rw [HP1.out, HP4.out]; rfl)).mono ?_
   rintro e w6 ⟨rfl, BB⟩
   replace X0 := X0.below BB
   replace c0 := X0.cell
   replace f0 := X0.froz
   replace X1 := X1.below BB
   replace c1 := X1.cell
   replace f1 := X1.froz
   replace X2 := X2.below BB
   replace c2 := X2.cell
   replace X3 := X3.below BB
   replace c3 := X3.cell
   replace f3 := X3.froz
   replace X4 := X4.below BB
   replace c4 := X4.cell
   replace Y := Y.below BB
   replace hY := Nat.le_trans hY BB.size
   replace dC := dC.below BB
   replace hdC := Nat.le_trans hdC BB.size
   replace dB := dB.below BB
   replace hdB := Nat.le_trans hdB BB.size
   replace dT := dT.below BB
   replace hdT := Nat.le_trans hdT BB.size
   replace B := below_next B BB
   clear BB
   go_wp2_with fail
   refine (auSC_is N (none, 0, 0) (none, 0, 0) xs [] [] _ Y S0.out true (by rw [HF.out]; show (decide (cluF (nwL m) [] [] = 0) && auSafe (nwL m) []) = true; rw [HP1.out, HP5.out]; rfl)).mono ?_
   rintro e w7 ⟨rfl, BB⟩
   replace X0 := X0.below BB
   replace c0 := X0.cell
   replace f0 := X0.froz
   replace X1 := X1.below BB
   replace c1 := X1.cell
   replace f1 := X1.froz
   replace X2 := X2.below BB
   replace c2 := X2.cell
   replace X3 := X3.below BB
   replace c3 := X3.cell
   replace f3 := X3.froz
   replace X4 := X4.below BB
   replace c4 := X4.cell
   replace Y := Y.below BB
   replace hY := Nat.le_trans hY BB.size
   replace dC := dC.below BB
   replace hdC := Nat.le_trans hdC BB.size
   replace dB := dB.below BB
   replace hdB := Nat.le_trans hdB BB.size
   replace dT := dT.below BB
   replace hdT := Nat.le_trans hdT BB.size
   replace B := below_next B BB
   clear BB
   go_wp2_with fail
   refine (auEC_is Nc Mc Lc xc yc (nwE1 m v) _ dC sC true (by rw [fC, kC, HP7.out, HP8.out]; rfl)).mono ?_
   rintro e w8 ⟨rfl, BB⟩
   replace X0 := X0.below BB
   replace c0 := X0.cell
   replace f0 := X0.froz
   replace X1 := X1.below BB
   replace c1 := X1.cell
   replace f1 := X1.froz
   replace X2 := X2.below BB
   replace c2 := X2.cell
   replace X3 := X3.below BB
   replace c3 := X3.cell
   replace f3 := X3.froz
   replace X4 := X4.below BB
   replace c4 := X4.cell
   replace Y := Y.below BB
   replace hY := Nat.le_trans hY BB.size
   replace dC := dC.below BB
   replace hdC := Nat.le_trans hdC BB.size
   replace dB := dB.below BB
   replace hdB := Nat.le_trans hdB BB.size
   replace dT := dT.below BB
   replace hdT := Nat.le_trans hdT BB.size
   replace B := below_next B BB
   clear BB
   go_wp2_with fail
   refine (auEC_is Nt Mt Lt xt yt (nwE3 m v) _ dT sT dm (by rw [fT, kT, HP12.out]; exact HDM.out)).mono ?_
   rintro e w10 ⟨rfl, BB⟩
   replace X0 := X0.below BB
   replace c0 := X0.cell
   replace f0 := X0.froz
   replace X1 := X1.below BB
   replace c1 := X1.cell
   replace f1 := X1.froz
   replace X2 := X2.below BB
   replace c2 := X2.cell
   replace X3 := X3.below BB
   replace c3 := X3.cell
   replace f3 := X3.froz
   replace X4 := X4.below BB
   replace c4 := X4.cell
   replace Y := Y.below BB
   replace hY := Nat.le_trans hY BB.size
   replace dC := dC.below BB
   replace hdC := Nat.le_trans hdC BB.size
   replace dB := dB.below BB
   replace hdB := Nat.le_trans hdB BB.size
   replace dT := dT.below BB
   replace hdT := Nat.le_trans hdT BB.size
   replace B := below_next B BB
   clear BB
   go_wp2
   go_ret
   exact ⟨rfl, B⟩
open Go.ChangeShapes Go.WideShapes Go.ChangeAt Go.Joins
set_option maxRecDepth 100000 in
theorem liftedNews (os : Os) (started : os.Started) (H : Type) (enc : TypeId × Value → H) :
  ReturnsInHanded {} Tryz.checked os 8 .any (Rows.fnNewsSpec.pre6 enc Tryz.prog Tryz.f8 Rows.fnNewsRow.domain false) (Rows.fnNewsSpec.post enc Tryz.prog Tryz.f8 false true false false) := by
 refine returnsInHanded_of_change (C := Tryz.checked) Tryz.own started (by kernel_rfl) Tryz.func8
  (ChangeSpec.witness6 (enc := enc) (C := Tryz.checked) false ⟨#[], #[.slice none 0 0], []⟩ 8 (by kernel_rfl) (by kernel_rfl) (by kernel_rfl) (by kernel_rfl)) ?_
 intro W base args ds gs before hval0 hW hcnd _
 have hval : ∀ (j : Nat) t v, Tryz.f8.params[j]? = some t → args[j]? = some v → Value.okWide Tryz.prog W .any base t v := hval0
 have hW' := hW
 obtain ⟨p, q, hA0, hV, rfl, hfz, hnd⟩ := hW
 have hA : DataW.TrodAll enc Tryz.prog W 0 (fun _ => true) true Tryz.f8.params.toList args.toList ds p := hA0
 rw [Tryz.params8] at hA hval
 obtain ⟨v0, vs0, d0, ds0, p0, q0, hargs, rfl, rfl, h0, r0⟩ := trodAll_cons hA
 obtain ⟨rfl, rfl, rfl⟩ := trodAll_nil r0
 obtain rfl : args = #[v0] := by cases args; simp_all
 obtain ⟨rfl, rfl⟩ := trodVars_none hV
 have lt0 : ∀ x ∈ p0, x.block < W.heap.size := by obtain ⟨m, hm⟩ := h0; exact DataW.trod_lt m _ _ _ hm
 have k0 := h0
 obtain ⟨fuel, hf⟩ := h0
 obtain ⟨av, lv, cv, rfl⟩ := okWide_slice Tryz.underlying52 (hval 0 52 v0 rfl rfl)
 obtain ⟨a2, n2, c2, zs, hv, hn2, hz2, s2⟩ := read_bytes Tryz.underlying52 Tryz.underlying5 (by kernel_rfl) (v := .slice av lv cv) (by simpa [Value.cells] using hf)
 obtain ⟨rfl, rfl, rfl⟩ := Value.slice.inj hv
 clear hA0 hval0
 refine (lawNews _ _ _ zs _ s2 hz2 (Nat.le_refl _)).mono fun e W' ⟨he, bel⟩ => ?_
 subst he
 exact ⟨_, rfl, _, _, _, [], _, [], hW', trodAll_mk1 (shut_bool Tryz.underlying4 _), (trodAll_cons_mk (Below.trod Tryz.laidOut (by kernel_rfl) (of_decide_eq_true (by kernel_rfl)) k0 bel lt0) trodAll_mk0), rfl, bel.frame _, fun h => by cases h⟩
set_option maxRecDepth 100000 in
theorem closedNews : joinedFacts Tryz.prog 8 Tryz.f8 Rows.fnNewsSpec Rows.fnNewsRow = true := by
 have q1 : (Rows.fnNewsRow.inPlace == Tryz.prog.inPlace 8) = true := by rw [inPlace_at leads_is inp_is]; kernel_rfl
 have q2 : (Rows.fnNewsRow.unfollowed == Tryz.prog.unfollowed 8) = true := by rw [unfollowed_at leads_is unf_is]; kernel_rfl
 have q3 : (Rows.fnNewsRow.recurses == Tryz.prog.recurses 8) = true := (by rw [recurses_unf leads_is (by rw [unfollowed_at leads_is unf_is]; kernel_rfl)]; rfl)
 have q4 : (Rows.fnNewsRow.named == Tryz.prog.varsNamed 8) = true := by rw [varsNamed_at leads_is var_ok ent_is]; kernel_rfl
 have q5 : (Tryz.prog.make == some Rows.fnNewsRow.make) = true := by rw [made_cut]; rfl
 have q6 : (Rows.fnNewsRow.lifted == Tryz.prog.liftsFinal) = true := by rw [lifts_no]; rfl
 have q7 : Tryz.prog.mayEnter = true := may_enter
 have q8 : laidOutB Tryz.prog = true := Tryz.laidOut
 unfold joinedFacts
 repeat' (with_reducible refine Bool.and_eq_true_iff.2 ⟨?_, ?_⟩)
 all_goals (first | with_reducible exact q1 | with_reducible exact q2 | with_reducible exact q3 | with_reducible exact q4 | with_reducible exact q5 | with_reducible exact q6 | with_reducible exact q7 | with_reducible exact q8 | (as_aux_lemma => kernel_rfl))
theorem news_holds : Rows.FnNewsSaid :=
 OpenClaim.holds_of_wide 8 Tryz.f8 rfl rfl rfl rfl rfl rfl rfl ⟨rfl, rfl, rfl, rfl, rfl⟩ rfl rfl rfl rfl rfl (by as_aux_lemma => kernel_rfl) Tryz.func8 closedNews
  (of_decide_eq_true (by as_aux_lemma => kernel_rfl)) (by unfold Func.isWrapper; first | (rw [if_pos (by decide +kernel)]; kernel_rfl) | (rw [if_neg (by decide +kernel)]; exact ⟨rfl, rfl⟩))
  (fun os started H enc _ => liftedNews os started H enc)
#print axioms news_holds
end Go.Proofs.YtgldocaohcoleaaGreat
