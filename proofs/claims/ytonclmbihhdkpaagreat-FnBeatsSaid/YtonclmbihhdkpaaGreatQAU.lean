/- Chapter 9: a replica that is drawn and bent. -/
import Derived.Test.YtonclmbihhdkpaaGreatQAF
import Derived.Test.YtonclmbihhdkpaaGreatVY
import Derived.Test.YtonclmbihhdkpaaGreatQAQ
import Derived.Test.YtonclmbihhdkpaaGreatQAB
import Derived.Test.YtonclmbihhdkpaaGreatQAP
import Derived.Deep.DeepCutAuto
import Derived.Deep.RegionLaw
import Derived.OwnWalk
import Derived.Test.YtonclmbihhdkpaaGreatQAG
import Derived.Test.YtonclmbihhdkpaaGreatWR
import Derived.Test.YtonclmbihhdkpaaGreatQAE
import Derived.Test.YtonclmbihhdkpaaGreatQAH
set_option maxRecDepth 20000
set_option maxHeartbeats 16000000
namespace Go.Proofs.YtonclmbihhdkpaaGreat
open Go.RowKit
def BentDrawn (w w' : World) (e : Ending) : Prop := ∃ (r : Rep) (hh : RH), e = .returned (.agg #[.int .i64 r.id, .int .i64 r.size, .int .i64 r.view, .bool r.normal, .int .i64 r.last, .slice hh.L.1 hh.L.2.1 hh.L.2.2, .int .i64 r.commit, .slice hh.O.1 hh.O.2.1 hh.O.2.2, .slice hh.A.1 hh.A.2.1 hh.A.2.2, .slice hh.D.1 hh.D.2.1 hh.D.2.2]) ∧ RepAt w' true w.heap.size w'.heap.size hh r ∧ RSz hh 1001 ∧ Below w.heap.size w w'
theorem drawBeat_any {o : Bool} {lo hi : Nat} (ac : Option Addr) (nc cc : Nat) (bs : List Nat) (w0 : World) (hr : RowAt w0 o lo hi 1 ac nc cc (bys bs)) (hb : ∀ i, bs.getD i 0 < 256) (hhi : hi ≤ w0.heap.size) (hc : nc ≤ 1048576) : Calls Tryz.prog 19 #[.slice ac nc cc] w0 fun e w' => BentDrawn w0 w' e := by
 go_enter Tryz.func19, Tryz.ntmps19
 go_wp2_with (first | ((with_reducible refine al 29 [.int .i64 0, .int .i64 0, .int .i64 0, .bool false, .int .i64 0, .slice none 0 0, .int .i64 0, .slice none 0 0, .slice none 0 0, .slice none 0 0] ?_); intro b0 W0 N0; have ob0 := N0.ge; have B := N0.below; obtain ⟨X0, c0, f0⟩ := N0.a; clear N0) | fail)
 have lt0 := X0.lt
 obtain ⟨g, hgE⟩ : ∃ g, g = W0.heap.size := ⟨_, rfl⟩
 rw [← hgE] at lt0
 have lwg : w0.heap.size ≤ g := by rw [hgE]; exact B.size
 refine (l1Source_any _ _ _ _).mono ?_
 rintro e w ⟨rfl, s1, BB, hsz⟩
 rw [← hgE]
 rw [← hgE] at s1 hsz
 have h : SB w g 0 ac nc cc bs := ⟨s1, ⟨_, _, _, (hr.below B).below BB, Or.inl (by omega)⟩, hb, hc⟩
 replace X0 := X0.below BB
 replace c0 := X0.cell
 replace f0 := X0.froz
 replace B := below_next B BB
 clear BB s1 hgE
 have hg : g < w.heap.size := by omega
 have KP : Kept g (g + 1) w w := Kept.refl _ _ _
 have D := h
 have HB0 : Hid _ := B
 clear B hsz
 go_wp2_with fail
 refine (l9Bent_any g 0 ac nc cc bs _ D (by omega)).mono ?_
 rintro e w1 ⟨r, hh, p', rfl, Y, SZ, hp', D', K'⟩
 obtain ⟨zY, hzY⟩ : ∃ zY, zY = w.heap.size := ⟨_, rfl⟩
 obtain ⟨uY, huY⟩ : ∃ uY, uY = w1.heap.size := ⟨_, rfl⟩
 rw [← hzY, ← huY] at Y
 have lgY : g + 1 ≤ zY := by omega
 have hY : uY ≤ w1.heap.size := Nat.le_of_eq huY
 have lzu : zY ≤ uY := by rw [hzY, huY]; exact K'.size
 clear hzY huY
 replace X0 := X0.kept K' (by omega)
 replace c0 := X0.cell
 replace f0 := X0.froz
 replace KP := KP.trans K'
 replace D := D'
 clear D' K'
 have B : Below w0.heap.size w0 w1 := HB0.out.trans (KP.below _ lwg (by have := HB0.out.size; omega))
 clear KP D
 go_wp2_with (first | ((with_reducible refine sm 29 X0 0 [.int .i64 r.id, .int .i64 r.size, .int .i64 r.view, .bool r.normal, .int .i64 r.last, .slice hh.L.1 hh.L.2.1 hh.L.2.2, .int .i64 r.commit, .slice hh.O.1 hh.O.2.1 hh.O.2.2, .slice hh.A.1 hh.A.2.1 hh.A.2.2, .slice hh.D.1 hh.D.2.1 hh.D.2.2] ?_); intro V21 S; replace X0 : Bx V21 b0 [.int .i64 r.id, .int .i64 r.size, .int .i64 r.view, .bool r.normal, .int .i64 r.last, .slice hh.L.1 hh.L.2.1 hh.L.2.2, .int .i64 r.commit, .slice hh.O.1 hh.O.2.1 hh.O.2.2, .slice hh.A.1 hh.A.2.1 hh.A.2.2, .slice hh.D.1 hh.D.2.1 hh.D.2.2] := S.bx; replace c0 := X0.cell; replace f0 := X0.froz; replace Y := Y.kept S.kept (by omega); replace hY := Nat.le_trans hY S.kept.size; replace B := bkp B S.kept; clear S))
 refine bodyPost_ret (v := .agg #[.int .i64 r.id, .int .i64 r.size, .int .i64 r.view, .bool r.normal, .int .i64 r.last, .slice hh.L.1 hh.L.2.1 hh.L.2.2, .int .i64 r.commit, .slice hh.O.1 hh.O.2.1 hh.O.2.2, .slice hh.A.1 hh.A.2.1 hh.A.2.2, .slice hh.D.1 hh.D.2.1 hh.D.2.2]) (by simp [results, Tryz.results19, go_sem, *]) rfl ⟨r, hh, rfl, ?_, SZ, B⟩
 exact Y.widen (by omega) hY
def prepM (r : Rep) (k : Nat) : Ml := if k < r.log.length then ⟨1, 0, 0, 0, k, true, r.log.getD k en0, 0, [], r.commit⟩ else ⟨1, 0, 0, 0, k, false, en0, 0, [], r.commit⟩
theorem sendPrepare_is {own : Bool} {lo hi : Nat} (r : Rep) (h : RH) (s : Hd) (tgt : Int) (k : Nat) (base b0 : Nat) (w : World) (Km : Nat → Hd) (ms : List Ml) (X0 : Bx w b0 [.int .i64 r.id, .int .i64 r.size, .int .i64 r.view, .bool r.normal, .int .i64 r.last, .slice h.L.1 h.L.2.1 h.L.2.2, .int .i64 r.commit, .slice h.O.1 h.O.2.1 h.O.2.2, .slice h.A.1 h.A.2.1 h.A.2.2, .slice h.D.1 h.D.2.1 h.D.2.2, .slice s.1 s.2.1 s.2.2]) (L5 : RowAt w own lo hi 6 h.L.1 h.L.2.1 h.L.2.2 (sixs r.log)) (G : SentAt w base (.slice s.1 s.2.1 s.2.2) Km ms) (hb : b0 < base) (hbase : base ≤ w.heap.size) (hn : ms.length ≤ 1000) :
  Calls Tryz.prog 136 #[.agg #[.pointer (some ⟨b0, 0, none⟩)], .int .i64 tgt, .int .i64 k] w fun e w' => ∃ s' : Hd, e = .returned (.tuple #[]) ∧ Bx w' b0 [.int .i64 r.id, .int .i64 r.size, .int .i64 r.view, .bool r.normal, .int .i64 r.last, .slice h.L.1 h.L.2.1 h.L.2.2, .int .i64 r.commit, .slice h.O.1 h.O.2.1 h.O.2.2, .slice h.A.1 h.A.2.1 h.A.2.2, .slice h.D.1 h.D.2.1 h.D.2.2, .slice s'.1 s'.2.1 s'.2.2] ∧ SentAt w' base (.slice s'.1 s'.2.1 s'.2.2) (fun j => if j = ms.length then (none, 0, 0) else Km j) (ms ++ [putM (prepM r k) r.id tgt r.view]) ∧ s'.2.1 = ms.length + 1 ∧ KeptS (fun k => k = b0 ∨ base ≤ k) w w' := by
 have hll := L5.nSixs
 have c0 := X0.cell
 have f0 := X0.froz
 have ob0 := X0.lt
 have HG : Hid (GrowAt _ _ _ _ _ _ _ _ _) := G
 clear G
 go_enter Tryz.func136, Tryz.ntmps136
 go_upto_region 2 with (first | ((with_reducible refine sm 46 X2 0 [.int .i64 1, .int .i64 0, .int .i64 0, .int .i64 0, .int .i64 k, .bool false, .int .i64 0, .int .i64 0, .int .i64 0, .int .i64 0, .int .i64 0, .int .i64 0, .int .i64 0, .slice none 0 0, .int .i64 r.commit] ?_); intro V1 S; replace X0 := X0.kp S.kept; replace c0 := X0.cell; replace f0 := X0.froz; replace X1 := X1.kp S.kept; replace c1 := X1.cell; replace X2 : Bx V1 b2 [.int .i64 1, .int .i64 0, .int .i64 0, .int .i64 0, .int .i64 k, .bool false, .int .i64 0, .int .i64 0, .int .i64 0, .int .i64 0, .int .i64 0, .int .i64 0, .int .i64 0, .slice none 0 0, .int .i64 r.commit] := S.bx; replace c2 := X2.cell; replace f2 := X2.froz; replace B := bkp B S.kept; clear S) | ((have g := ob1); clear g; (with_reducible refine al 46 [.int .i64 0, .int .i64 0, .int .i64 0, .int .i64 0, .int .i64 0, .bool false, .int .i64 0, .int .i64 0, .int .i64 0, .int .i64 0, .int .i64 0, .int .i64 0, .int .i64 0, .slice none 0 0, .int .i64 0] ?_); intro b2 W2 N2; have ob2 := N2.o B; have o0_b2 := N2.u X0; have o1_b2 := N2.u X1; replace X0 := N2.r X0; replace c0 := X0.cell; replace f0 := X0.froz; replace X1 := N2.r X1; replace c1 := X1.cell; replace B := N2.n B; obtain ⟨X2, c2, f2⟩ := N2.a; clear N2) | ((have g := ob0); clear g; (with_reducible refine box_newX 106 [.pointer (some ⟨b0, 0, none⟩)] rfl ?_); intro b1 W1 N1; have ob1 := N1.ge; have o0_b1 := N1.u X0; replace X0 := N1.r X0; replace c0 := X0.cell; replace f0 := X0.froz; have B := N1.below; obtain ⟨X1, c1⟩ := N1.c; clear N1) | fail)
 by_cases hlt : k < h.L.2.1
 ·have hlk : (k : Int) < (h.L.2.1 : Int) := by omega
  obtain ⟨b, off, ea, _, _, hbl, e0, e1, e2, e3, e4, e5, _⟩ := (L5.below B).six hlt
  have HP : Hid (prepM r k = ⟨1, 0, 0, 0, k, true, r.log.getD k en0, 0, [], r.commit⟩) := by show _ = _; unfold prepM; rw [if_pos (by omega)]
  generalize r.log.getD k en0 = en at *
  have HX0 : Hid _ := X0
  rw [ea] at c0
  have hbw : b ≠ b2 := by have := (L5.inB (k := sb h.L.1) ⟨by omega, rfl⟩).2.2; rw [ea] at this; have e : sb (some (⟨b, off, none⟩ : Addr)) = b := rfl; omega
  go_wp2_with (first | ((with_reducible refine sm 44 X2 6 [.int .i64 en.1, .int .i64 en.2.1, .int .i64 en.2.2.1, .int .i64 en.2.2.2.1, .int .i64 en.2.2.2.2.1, .int .i64 en.2.2.2.2.2] ?_); intro V3 S; replace X0 := X0.kp S.kept; replace c0 := X0.cell; rw [ea] at c0; replace f0 := X0.froz; replace e0 := S.kept.cell e0 (by omega); replace e1 := S.kept.cell e1 (by omega); replace e2 := S.kept.cell e2 (by omega); replace e3 := S.kept.cell e3 (by omega); replace e4 := S.kept.cell e4 (by omega); replace e5 := S.kept.cell e5 (by omega); replace X1 := X1.kp S.kept; replace c1 := X1.cell; replace X2 : Bx V3 b2 [.int .i64 1, .int .i64 0, .int .i64 0, .int .i64 0, .int .i64 k, .bool true, .int .i64 en.1, .int .i64 en.2.1, .int .i64 en.2.2.1, .int .i64 en.2.2.2.1, .int .i64 en.2.2.2.2.1, .int .i64 en.2.2.2.2.2, .int .i64 0, .slice none 0 0, .int .i64 r.commit] := S.bx; replace c2 := X2.cell; replace f2 := X2.froz; replace B := bkp B S.kept; clear S) | ((with_reducible refine so 4 X2 5 (.bool true) ?_); intro V2 S; replace X0 := X0.kp S.kept; replace c0 := X0.cell; rw [ea] at c0; replace f0 := X0.froz; replace e0 := S.kept.cell e0 (by omega); replace e1 := S.kept.cell e1 (by omega); replace e2 := S.kept.cell e2 (by omega); replace e3 := S.kept.cell e3 (by omega); replace e4 := S.kept.cell e4 (by omega); replace e5 := S.kept.cell e5 (by omega); replace X1 := X1.kp S.kept; replace c1 := X1.cell; replace X2 : Bx V2 b2 [.int .i64 1, .int .i64 0, .int .i64 0, .int .i64 0, .int .i64 k, .bool true, .int .i64 0, .int .i64 0, .int .i64 0, .int .i64 0, .int .i64 0, .int .i64 0, .int .i64 0, .slice none 0 0, .int .i64 r.commit] := S.bx; replace c2 := X2.cell; replace f2 := X2.froz; replace B := bkp B S.kept; clear S) | fail)
  refine (send_is r h s tgt ⟨1, 0, 0, 0, k, true, en, 0, [], r.commit⟩ (none, 0, 0) base b0 _ Km ms X0 (HG.out.below B) (RowAt.nilR _ _ _ _ _ _ _) (fun h0 => absurd rfl h0) hb (Nat.le_trans hbase B.size) hn).mono ?_
  rintro e w2 ⟨s', rfl, X2', G2, hs2, KS2⟩
  have K9 : Hid (KeptS (fun q => q = b0 ∨ base ≤ q) w w2) := (KeptS.below B).trans KS2
  have H1 : Hid _ := X2'
  have H2 : Hid _ := G2
  clear X2' G2 KS2 X0 X1 X2 c0 c1 c2 f0 f2
  go_wp2
  refine bodyPost_end (v := .tuple #[]) (by simp [results, Tryz.results136, go_sem]) rfl ⟨s', rfl, H1.out, ?_, hs2, K9.out⟩
  rw [HP.out]
  exact H2.out
 ·have hlk : ¬ (k : Int) < (h.L.2.1 : Int) := by omega
  have HP : Hid (prepM r k = ⟨1, 0, 0, 0, k, false, en0, 0, [], r.commit⟩) := by show _ = _; unfold prepM; rw [if_neg (by omega)]
  go_wp2_with fail
  refine (send_is r h s tgt ⟨1, 0, 0, 0, k, false, en0, 0, [], r.commit⟩ (none, 0, 0) base b0 _ Km ms X0 (HG.out.below B) (RowAt.nilR _ _ _ _ _ _ _) (fun h0 => absurd rfl h0) hb (Nat.le_trans hbase B.size) hn).mono ?_
  rintro e w2 ⟨s', rfl, X2', G2, hs2, KS2⟩
  have K9 : Hid (KeptS (fun q => q = b0 ∨ base ≤ q) w w2) := (KeptS.below B).trans KS2
  have H1 : Hid _ := X2'
  have H2 : Hid _ := G2
  clear X2' G2 KS2 X0 X1 X2 c0 c1 c2 f0 f2
  go_wp2
  refine bodyPost_end (v := .tuple #[]) (by simp [results, Tryz.results136, go_sem]) rfl ⟨s', rfl, H1.out, ?_, hs2, K9.out⟩
  rw [HP.out]
  exact H2.out
def agrM (r : Rep) : Int := if agrR r ≤ r.commit then r.commit else agrR r
def agrC (r : Rep) : Rep := ⟨r.id, r.size, r.view, r.normal, r.last, r.log, agrM r, r.oks, r.asks, r.doers⟩
theorem agree_is {own : Bool} {lo hi : Nat} (r : Rep) (h : RH) (s : Hd) (b0 : Nat) (w : World) (X0 : Bx w b0 [.int .i64 r.id, .int .i64 r.size, .int .i64 r.view, .bool r.normal, .int .i64 r.last, .slice h.L.1 h.L.2.1 h.L.2.2, .int .i64 r.commit, .slice h.O.1 h.O.2.1 h.O.2.2, .slice h.A.1 h.A.2.1 h.A.2.2, .slice h.D.1 h.D.2.1 h.D.2.2, .slice s.1 s.2.1 s.2.2]) (x : RepAt w own lo hi h r) (hs : 1 ≤ r.size ∧ r.size ≤ 5) (hid : 0 ≤ r.id ∧ r.id ≤ r.size - 1) (hl : (r.oks.length : Int) = r.size) (ho : ∀ y ∈ r.oks, 0 ≤ y ∧ y ≤ (r.log.length : Int)) :
  Calls Tryz.prog 135 #[.agg #[.pointer (some ⟨b0, 0, none⟩)]] w fun e w' => e = .returned (.tuple #[]) ∧ Bx w' b0 [.int .i64 (agrC r).id, .int .i64 (agrC r).size, .int .i64 (agrC r).view, .bool (agrC r).normal, .int .i64 (agrC r).last, .slice h.L.1 h.L.2.1 h.L.2.2, .int .i64 (agrC r).commit, .slice h.O.1 h.O.2.1 h.O.2.2, .slice h.A.1 h.A.2.1 h.A.2.2, .slice h.D.1 h.D.2.1 h.D.2.2, .slice s.1 s.2.1 s.2.2] ∧ KeptS (fun k => k = b0) w w' := by
 have HO : Hid _ := ho
 have HL : Hid _ := hl
 have HM : Hid (agrM r = if agrR r ≤ r.commit then r.commit else agrR r) := rfl
 clear ho hl
 have c0 := X0.cell
 have f0 := X0.froz
 have ob0 := X0.lt
 go_enter Tryz.func135, Tryz.ntmps135
 go_wp2_with (first | ((have g := ob0); clear g; (with_reducible refine box_newX 106 [.pointer (some ⟨b0, 0, none⟩)] rfl ?_); intro b1 W1 N1; have ob1 := N1.ge; have o0_b1 := N1.u X0; replace X0 := N1.r X0; replace c0 := X0.cell; replace f0 := X0.froz; have B := N1.below; obtain ⟨X1, c1⟩ := N1.c; clear N1) | fail)
 have D : Below W1.heap.size W1 W1.drew := (Below.refl _ _).drew
 have XD := X0.below D
 have xD := x.below (below_next B D)
 have YD := X1.below D
 have BD := below_next B D
 clear D
 obtain ⟨ag, hag⟩ : ∃ ag, agrR r = ag := ⟨_, rfl⟩
 rw [hag] at HM
 have HAG : Hid _ := hag
 clear hag
 by_cases hmx : ag ≤ r.commit
 ·have HM2 : Hid (agrM r = r.commit) := by show _ = _; rw [HM.out, if_pos hmx]
  go_region_law (first | (go_simp; go_at_call 188; refine (agreed_is r h s b0 _ XD xD hs hid HL.out HO.out).mono ?_; rintro e w1 ⟨rfl, BB⟩; rw [HAG.out]; have XN := XD.below BB; have cN := XN.cell; have fN := XN.froz; have YN := YD.below BB; have dN := YN.cell; have BN := below_next BD BB; clear BB))
  all_goals
   have X9 := XN.set 6 (by simp) (.int .i64 r.commit)
   have K9 := (KeptS.setCell (S := fun k => k = b0) (KeptS.below BN) (p := ⟨b0, 6, none⟩) rfl (.int .i64 r.commit))
   have HX9 : Hid _ := X9
   have HK9 : Hid _ := K9
   clear X9 K9 XN cN fN YN dN
   go_wp2
   refine bodyPost_end (v := .tuple #[]) (by simp [results, Tryz.results135, go_sem]) rfl ⟨rfl, ?_, HK9.out⟩
   show Bx _ b0 [_, _, _, _, _, _, .int .i64 (agrM r), _, _, _, _]
   rw [HM2.out]
   exact HX9.out
 ·have HM2 : Hid (agrM r = ag) := by show _ = _; rw [HM.out, if_neg hmx]
  go_region_law (first | (go_simp; go_at_call 188; refine (agreed_is r h s b0 _ XD xD hs hid HL.out HO.out).mono ?_; rintro e w1 ⟨rfl, BB⟩; rw [HAG.out]; have XN := XD.below BB; have cN := XN.cell; have fN := XN.froz; have YN := YD.below BB; have dN := YN.cell; have BN := below_next BD BB; clear BB))
  all_goals
   have X9 := XN.set 6 (by simp) (.int .i64 ag)
   have K9 := (KeptS.setCell (S := fun k => k = b0) (KeptS.below BN) (p := ⟨b0, 6, none⟩) rfl (.int .i64 ag))
   have HX9 : Hid _ := X9
   have HK9 : Hid _ := K9
   clear X9 K9 XN cN fN YN dN
   go_wp2
   refine bodyPost_end (v := .tuple #[]) (by simp [results, Tryz.results135, go_sem]) rfl ⟨rfl, ?_, HK9.out⟩
   show Bx _ b0 [_, _, _, _, _, _, .int .i64 (agrM r), _, _, _, _]
   rw [HM2.out]
   exact HX9.out
structure OwnE (w : World) (z ue : Nat) (v : Value) (n : Nat) (xs : List En) : Prop where
 own : w.ownsRow z 44 6 v n (sixs xs)
 lt : ∀ g, v.ownBlock = some g → g < ue
def tookR (r : Rep) (en : En) : Rep := ⟨r.id, r.size, r.view, r.normal, r.last, r.log ++ [en], r.commit, r.oks, r.asks, r.doers⟩
def takeQ (r : Rep) (en : En) : Rep := agrC (tookR r en)
def takeM (r : Rep) (en : En) : List Ml := (othL r.id.toNat r.size.toNat).map fun t => putM (prepM (takeQ r en) r.log.length) r.id t r.view
theorem KeptS.fresh {S : Nat → Prop} {w w1 w2 : World} {b0 : Nat} (h : KeptS S w w1) (g : KeptS (fun q => q = b0 ∨ w1.heap.size ≤ q) w1 w2) (hb : S b0) : KeptS S w w2 :=
 ⟨g.os.trans h.os, g.tape.trans h.tape, g.output.trans h.output, Nat.le_trans h.size g.size, fun k hk hs => (g.block k (Nat.lt_of_lt_of_le hk h.size) (fun z => z.elim (fun e => hs (e ▸ hb)) (fun z => by have := h.size; omega))).trans (h.block k hk hs)⟩
def askC (r : Rep) (en : En) : Int := if ledF r = 0 then (if enFault en = 0 then (if r.log.length = 40 then 2 else 0) else enFault en) else ledF r
def askQ (r : Rep) (en : En) : Rep := if askC r en = 0 then takeQ r en else rep0
def askM (r : Rep) (en : En) : List Ml := if askC r en = 0 then takeM r en else []
theorem l1Max9_is (x y : Int) (w : World) : Calls Tryz.prog 75 #[.int .i64 x, .int .i64 y] w fun e w' => e = .returned (.int .i64 (max x y)) ∧ w' = w := by
 by_cases h : y < x
 ·have h' : max x y = x := by omega
  rw [h']
  go_enter Tryz.func75, Tryz.ntmps75
  go_wp2
  go_ret
  exact ⟨rfl, rfl⟩
 ·have h' : max x y = y := by omega
  rw [h']
  go_enter Tryz.func75, Tryz.ntmps75
  go_wp2
  go_ret
  exact ⟨rfl, rfl⟩
theorem agrTo_in (oks : List Int) (id size : Int) : ∀ k : Nat, 0 ≤ agrTo oks id size k ∧ agrTo oks id size k ≤ k
 | 0 => by simp [agrTo]
 | k + 1 => by
  have := agrTo_in oks id size k
  simp only [agrTo]
  split
  ·constructor <;> omega
  ·constructor <;> omega
structure AskOk (r : Rep) (en : En) : Prop where
 led : Led r
 lead : r.view % r.size = r.id
 norm : r.normal = true
 log : (askQ r en).log = r.log ++ [en]
 rep : repF (askQ r en) = 0
 ledQ : ledF (askQ r en) = 0
 agr : agrR (askQ r en) ≤ (askQ r en).commit
 len : ((askM r en).length : Int) = r.size - 1
 mail : ∀ i, i < (askM r en).length → ((askM r en).getD i ml0).kind = 1 ∧ ((askM r en).getD i ml0).en = en ∧ ((askM r en).getD i ml0).at_ = (r.log.length : Int)
theorem repF_of {r : Rep} (h1 : numsP r) (h2 : lgF r.log r.commit = 0) (h3 : r.normal = true → r.last = r.view) (h4 : sizesP r) (h5 : oksF r.log.length r.oks = 0) (h6 : drsF r.doers = 0) : repF r = 0 := by
 unfold repF
 rw [if_pos h1, if_pos h2, if_neg (by rintro (⟨q, q2⟩ | q); exact q2 (h3 q); exact q h4), if_pos h5, h6]
theorem oksF_zero (m n : Nat) : oksF m (List.replicate n 0) = 0 := by
 induction n with
 | zero => rfl
 | succ n ih =>
  rw [List.replicate_succ]
  unfold oksF
  rw [if_pos ⟨Int.le_refl _, by omega⟩]; exact ih
structure ToOk (r q : Rep) : Prop where
 rep : repF q = 0
 view : q.view = r.view + 1
 log : q.log = r.log
 norm : q.normal = decide (r.size = 1)
 asks : casV q = if r.size = 1 then 0 else 1
 low : r.view ≤ 199
 size : q.size = r.size
def tel0 (r : Rep) : Ml := ⟨4, 0, 0, 0, 0, false, en0, r.last, r.log, r.commit⟩
def telM (r : Rep) : Ml := putM (tel0 r) r.id (r.view % r.size) r.view
def tellM (r : Rep) : List Ml := if (r.view % r.size == r.id) = true then [] else [telM r]
theorem tellM_len (r : Rep) : (tellM r).length ≤ 1 := by unfold tellM; split <;> simp
theorem one_mail {w : World} {bl z ue base u : Nat} {hd : Hd} {m : Ml} (X : Bx w bl (mlV hd m)) (R : RowAt w true z ue 6 hd.1 hd.2.1 hd.2.2 (sixs m.log)) (h1 : base ≤ z) (h2 : ue ≤ u) (h3 : u ≤ bl) (h4 : base ≤ u) : MailsAt w true base w.heap.size (some ⟨bl, 0, none⟩) 1 1 (fun _ => hd) [m] := by
 have e : flatF 15 1 (mlF (fun _ => hd) [m]) = mlV hd m := by
  rw [flatF_snoc, flatF_zero, List.nil_append]; exact mlF_last (fun _ => hd) [] m
 have hlt := X.lt
 refine ⟨rfl, ⟨⟨by rw [e]; simp [mlV], Nat.le_refl _, fun _ => ⟨bl, 0, rfl, ?_, hlt, hlt, fun i hi => ?_, fun _ i _ => by rw [Nat.zero_add]; exact X.froz i⟩⟩, fun i hi => ?_, fun _ i hi h0 => ⟨fun q => ?_, fun j hj hne => by omega⟩⟩⟩
 ·by_cases q : hd.2.1 = 0
  ·omega
  ·have := R.inB (k := sb hd.1) ⟨q, rfl⟩; omega
 ·rw [e, Nat.zero_add, X.cell i, List.getD_eq_getElem?_getD, List.getElem?_eq_getElem (by simpa [mlV] using hi)]; rfl
 ·obtain rfl : i = 0 := by omega
  show RowAt w true base w.heap.size 6 hd.1 hd.2.1 hd.2.2 (sixs m.log)
  exact R.widen h1 (by omega)
 ·have := R.inB (k := sb hd.1) ⟨h0, rfl⟩
  have e2 : sb hd.1 = bl := q
  omega
theorem tellOfItself_is {own : Bool} {lo hi : Nat} (r : Rep) (h : RH) (s : Hd) (base b0 : Nat) (w : World) (Km : Nat → Hd) (ms : List Ml) (X0 : Bx w b0 [.int .i64 r.id, .int .i64 r.size, .int .i64 r.view, .bool r.normal, .int .i64 r.last, .slice h.L.1 h.L.2.1 h.L.2.2, .int .i64 r.commit, .slice h.O.1 h.O.2.1 h.O.2.2, .slice h.A.1 h.A.2.1 h.A.2.2, .slice h.D.1 h.D.2.1 h.D.2.2, .slice s.1 s.2.1 s.2.2]) (L5 : RowAt w own lo hi 6 h.L.1 h.L.2.1 h.L.2.2 (sixs r.log)) (hzL : h.L.2.1 ≤ 1048576) (G : SentAt w base (.slice s.1 s.2.1 s.2.2) Km ms) (hsn : s.2.1 = ms.length) (hK : ∀ j, j < s.2.1 → (Km j).2.1 ≤ 1048576) (hb : b0 < base) (hbase : base ≤ w.heap.size) (hn : ms.length ≤ 1000) (hs : 1 ≤ r.size ∧ r.size ≤ 5) (hv : 0 ≤ r.view ∧ r.view ≤ 300) :
  Calls Tryz.prog 68 #[.pointer (some ⟨b0, 0, none⟩)] w fun e w' => ∃ (s' : Hd) (Km' : Nat → Hd), e = .returned (.tuple #[]) ∧ Bx w' b0 [.int .i64 r.id, .int .i64 r.size, .int .i64 r.view, .bool r.normal, .int .i64 r.last, .slice h.L.1 h.L.2.1 h.L.2.2, .int .i64 r.commit, .slice h.O.1 h.O.2.1 h.O.2.2, .slice h.A.1 h.A.2.1 h.A.2.2, .slice h.D.1 h.D.2.1 h.D.2.2, .slice s'.1 s'.2.1 s'.2.2] ∧ SentAt w' base (.slice s'.1 s'.2.1 s'.2.2) Km' (ms ++ tellM r) ∧ s'.2.1 = (ms ++ tellM r).length ∧ (∀ j, j < s'.2.1 → (Km' j).2.1 ≤ 1048576) ∧ KeptS (fun k => k = b0 ∨ base ≤ k) w w' := by
 have HTM : Hid (tellM r = if (r.view % r.size == r.id) = true then [] else [telM r]) := rfl
 have HG : Hid (GrowAt _ _ _ _ _ _ _ _ _) := G
 have HK : Hid _ := hK
 clear G hK
 have c0 := X0.cell
 have ob0 := X0.lt
 go_enter Tryz.func68, Tryz.ntmps68
 go_wp2_with fail
 have DQ : Below w.heap.size w w.drew := (Below.refl _ _).drew
 replace X0 := X0.below DQ
 replace c0 := X0.cell
 have B := DQ
 clear DQ
 refine wp_region_held_drew (S := (fun w' => ∀ k : Nat, w'.cell? ⟨b0, k, none⟩ = [.int .i64 r.id, .int .i64 r.size, .int .i64 r.view, .bool r.normal, .int .i64 r.last, .slice h.L.1 h.L.2.1 h.L.2.2, .int .i64 r.commit, .slice h.O.1 h.O.2.1 h.O.2.2, .slice h.A.1 h.A.2.1 h.A.2.2, .slice h.D.1 h.D.2.1 h.D.2.2, .slice s.1 s.2.1 s.2.2][k]?)) (by kernel_rfl) c0 (fun hZq => ?_)
 refine tk 0 hZq ?_
 refine tk 1 hZq ?_
 refine tk 2 hZq ?_
 refine tk 3 hZq ?_
 refine tk 4 hZq ?_
 refine tk 5 hZq ?_
 refine tk 6 hZq ?_
 refine tk 7 hZq ?_
 refine tk 8 hZq ?_
 refine tk 9 hZq ?_
 refine rd1 10 (fun KK hKK => ?_)
 go_simp
 go_at_call 134
 refine (firstOf_is r.view r.size hs hv _).mono ?_
 rintro e W9 ⟨rfl, rfl⟩
 clear hZq
 refine hKK _ _ c0 (fun hZq => ?_)
 clear hKK KK
 refine tk 11 hZq ?_
 refine wpAnyH_done (by kernel_rfl) ?_ _
 obtain ⟨fo, hfo⟩ : ∃ fo, r.view % r.size = fo := ⟨_, rfl⟩
 have HF : Hid _ := hfo
 rw [hfo] at HTM
 simp only [hfo]
 clear hfo
 by_cases q : fo = r.id
 ·have q1 : (fo == r.id) = true := by simp [q]
  have E : tellM r = [] := by rw [HTM.out, if_pos q1]
  clear q
  go_wp2
  refine bodyPost_ret (v := .tuple #[]) (by simp [results, Tryz.results68, go_sem]) rfl ⟨s, Km, rfl, X0, ?_, ?_, HK.out, (KeptS.below B)⟩
  ·rw [E, List.append_nil]; exact HG.out.below B
  ·rw [E, List.append_nil]; exact hsn
 have q1 : (fo == r.id) = false := by simp [q]
 have E : tellM r = [telM r] := by rw [HTM.out, if_neg (by rw [q1]; decide)]
 clear q
 go_wp2_with fail
 have DQ : Below w.drew.heap.size w.drew w.drew.drew := (Below.refl _ _).drew
 replace X0 := X0.below DQ
 replace c0 := X0.cell
 replace B := below_next B DQ
 clear DQ
 have k4 := X0.cell 4
 simp only [List.getElem?_cons_succ, List.getElem?_cons_zero] at k4
 have k5 := X0.cell 5
 simp only [List.getElem?_cons_succ, List.getElem?_cons_zero] at k5
 have k6 := X0.cell 6
 simp only [List.getElem?_cons_succ, List.getElem?_cons_zero] at k6
 refine wp_region_held_drew (S := (fun w' => w'.cell? ⟨b0, 4, none⟩ = some (.int .i64 r.last) ∧ w'.cell? ⟨b0, 5, none⟩ = some (.slice h.L.1 h.L.2.1 h.L.2.2) ∧ w'.cell? ⟨b0, 6, none⟩ = some (.int .i64 r.commit))) (by kernel_rfl) ⟨k4, k5, k6⟩ (fun hZq => ?_)
 refine tk 0 hZq ?_
 refine tk 1 hZq ?_
 refine tk 2 hZq ?_
 refine tk 3 hZq ?_
 refine tk 4 hZq ?_
 refine tk 5 hZq ?_
 refine tk 6 hZq ?_
 refine tk 7 hZq ?_
 refine tk 8 hZq ?_
 refine tk 9 hZq ?_
 refine tk 10 hZq ?_
 refine tk 11 hZq ?_
 refine tk 13 hZq ?_
 refine tk 14 hZq ?_
 refine tk 15 hZq ?_
 refine tk 16 hZq ?_
 refine tk 17 hZq ?_
 refine rd1 12 (fun KK hKK => ?_)
 go_simp
 go_at_call 137
 refine (cloneE_z _ _ _ r.log _ (L5.below B) hzL).mono ?_
 rintro e w2 ⟨ra, rc, z, ue, rfl, Gz, zu, hR, R, BB⟩
 have gz : w.heap.size ≤ z := Nat.le_trans B.size Gz
 clear Gz zu
 replace X0 := X0.below BB
 replace B := below_next B BB
 clear BB k4 k5 k6
 have k4 := X0.cell 4
 simp only [List.getElem?_cons_succ, List.getElem?_cons_zero] at k4
 have k5 := X0.cell 5
 simp only [List.getElem?_cons_succ, List.getElem?_cons_zero] at k5
 have k6 := X0.cell 6
 simp only [List.getElem?_cons_succ, List.getElem?_cons_zero] at k6
 clear hZq
 refine hKK _ _ ⟨k4, k5, k6⟩ (fun hZq => ?_)
 clear hKK KK
 refine tk 18 hZq ?_
 refine rd1 19 (fun KK hKK => ?_)
 go_simp
 go_at_call 125
 refine (send_is r h s fo (tel0 r) (ra, h.L.2.1, rc) base b0 _ Km ms X0 (HG.out.below B) (R.widen (Nat.le_trans hbase gz) hR) (fun h0 => by
   have i1 := R.inB (k := sb ra) ⟨h0, rfl⟩
   refine ⟨fun qq => ?_, fun j hj h2 => ?_⟩
   ·have := (HG.out.own.lt (sb ra) qq).2; omega
   ·have := ((HG.out.logs j hj).inB (k := sb (Km j).1) ⟨h2, rfl⟩).2.2; simp only; omega) hb (Nat.le_trans hbase B.size) hn).mono ?_
 rintro e w3 ⟨s', rfl, X2, G2, hs2, KS2⟩
 have H1 : Hid _ := X2
 have H2 : Hid _ := G2
 have K9 : Hid (KeptS (fun q => q = b0 ∨ base ≤ q) w w3) := (KeptS.below B).trans KS2
 clear k4 k5 k6
 have k4 := X2.cell 4
 simp only [List.getElem?_cons_succ, List.getElem?_cons_zero] at k4
 have k5 := X2.cell 5
 simp only [List.getElem?_cons_succ, List.getElem?_cons_zero] at k5
 have k6 := X2.cell 6
 simp only [List.getElem?_cons_succ, List.getElem?_cons_zero] at k6
 clear X2 G2 KS2 X0 R
 clear hZq
 refine hKK _ _ ⟨k4, k5, k6⟩ (fun hZq => ?_)
 clear hKK KK
 refine wpAnyH_done (by kernel_rfl) ?_ _
 go_wp2
 refine bodyPost_end (v := .tuple #[]) (by simp [results, Tryz.results68, go_sem]) rfl ⟨s', (fun j => if j = ms.length then (ra, h.L.2.1, rc) else Km j), rfl, H1.out, ?_, ?_, fun j hj => ?_, K9.out⟩
 ·rw [E, show telM r = putM (tel0 r) r.id fo r.view by unfold telM; rw [HF.out]]; exact H2.out
 ·rw [E, hs2]; simp
 ·by_cases e : j = ms.length
  ·simp only [if_pos e]; exact hzL
  ·simp only [if_neg e]; exact HK.out j (by omega)
theorem l9Tell0_is {own : Bool} {lo hi : Nat} (r : Rep) (h : RH) (b0 : Nat) (w : World) (X0 : Bx w b0 [.int .i64 r.id, .int .i64 r.size, .int .i64 r.view, .bool r.normal, .int .i64 r.last, .slice h.L.1 h.L.2.1 h.L.2.2, .int .i64 r.commit, .slice h.O.1 h.O.2.1 h.O.2.2, .slice h.A.1 h.A.2.1 h.A.2.2, .slice h.D.1 h.D.2.1 h.D.2.2]) (L5 : RowAt w own lo hi 6 h.L.1 h.L.2.1 h.L.2.2 (sixs r.log)) (hzL : h.L.2.1 ≤ 1048576) (hs : 1 ≤ r.size ∧ r.size ≤ 5) (hv : 0 ≤ r.view ∧ r.view ≤ 300) :
  Calls Tryz.prog 73 #[.pointer (some ⟨b0, 0, none⟩)] w fun e w' => ∃ (s' : Hd) (Km : Nat → Hd), e = .returned (.slice s'.1 s'.2.1 s'.2.2) ∧ MailsAt w' true w.heap.size w'.heap.size s'.1 s'.2.1 s'.2.2 Km (tellM r) ∧ s'.2.1 = (tellM r).length ∧ (∀ j, j < s'.2.1 → (Km j).2.1 ≤ 1048576) ∧ Below w.heap.size w w' := by
 have h0 : ¬ r.size = 0 := by omega
 have hr : r.view.tmod r.size = r.view % r.size := Int.tmod_eq_emod_of_nonneg hv.1
 have hw : IntKind.i64.wrap (r.view % r.size) = r.view % r.size := by
  have h2 := Int.emod_nonneg r.view h0
  have h3 : r.view % r.size < r.size := Int.emod_lt_of_pos r.view (by omega)
  exact wrapI_same _ (by omega)
 have HTM : Hid (tellM r = if (r.view % r.size == r.id) = true then [] else [telM r]) := rfl
 obtain ⟨l, hl⟩ : ∃ l, (r.view % r.size == r.id) = l := ⟨_, rfl⟩
 rw [hl] at HTM
 have HL : Hid _ := hl
 clear hl
 have c0 := X0.cell
 have ob0 := X0.lt
 go_enter Tryz.func73, Tryz.ntmps73
 go_wp2_with fail
 refine (l9Primary_is b0 r.id r.size r.view r.normal r.last h.L r.commit h.O h.A h.D hs hv _ X0).mono ?_
 rintro e w1 ⟨rfl, BB⟩
 rw [HL.out]
 replace X0 := X0.below BB
 replace c0 := X0.cell
 have B := BB
 clear BB
 cases l
 rotate_left 1
 ·have E : tellM r = [] := by rw [HTM.out, if_pos rfl]
  go_wp2
  go_ret
  refine ⟨(none, 0, 0), kd0, rfl, ?_, ?_, fun j hj => absurd hj (Nat.not_lt_zero _), B⟩
  ·rw [E]; exact ⟨rfl, ElsAt.nil _ _ _ _ _ _ _ _ _ _⟩
  ·rw [E]; rfl
 have E : tellM r = [telM r] := by rw [HTM.out, if_neg (by decide)]
 go_wp2_with fail
 have DQ : Below w1.heap.size w1 w1.drew := (Below.refl _ _).drew
 replace X0 := X0.below DQ
 replace c0 := X0.cell
 replace B := below_next B DQ
 clear DQ
 refine wp_region_held_drew (S := (fun w' => ∀ k : Nat, w'.cell? ⟨b0, k, none⟩ = [.int .i64 r.id, .int .i64 r.size, .int .i64 r.view, .bool r.normal, .int .i64 r.last, .slice h.L.1 h.L.2.1 h.L.2.2, .int .i64 r.commit, .slice h.O.1 h.O.2.1 h.O.2.2, .slice h.A.1 h.A.2.1 h.A.2.2, .slice h.D.1 h.D.2.1 h.D.2.2][k]?)) (by kernel_rfl) c0 (fun hZq => ?_)
 refine tk 0 hZq ?_
 refine tk 1 hZq ?_
 refine tk 2 hZq ?_
 refine tk 3 hZq ?_
 refine tk 4 hZq ?_
 refine tk 5 hZq ?_
 refine tk 6 hZq ?_
 refine tk 7 hZq ?_
 refine tk 8 hZq ?_
 refine tk 9 hZq ?_
 refine tk 10 hZq ?_
 refine tk 11 hZq ?_
 refine tk 12 hZq ?_
 refine tk 13 hZq ?_
 refine tk 14 hZq ?_
 refine tk 15 hZq ?_
 refine tk 16 hZq ?_
 refine tk 17 hZq ?_
 refine tk 18 hZq ?_
 refine tk 19 hZq ?_
 refine tk 20 hZq ?_
 refine tk 21 hZq ?_
 refine tk 22 hZq ?_
 refine tk 23 hZq ?_
 refine tk 24 hZq ?_
 refine tk 26 hZq ?_
 refine tk 27 hZq ?_
 refine tk 28 hZq ?_
 refine tk 29 hZq ?_
 refine rd1 25 (fun KK hKK => ?_)
 go_simp
 go_at_call 138
 refine (l8Copy_z _ _ _ r.log _ (L5.below B) hzL).mono ?_
 rintro e w2 ⟨ra, rc, z, ue, rfl, Gz, zu, hR, R, BB⟩
 have gz : w.heap.size ≤ z := Nat.le_trans B.size Gz
 clear Gz
 replace X0 := X0.below BB
 replace c0 := X0.cell
 replace B := below_next B BB
 clear BB
 clear hZq
 refine hKK _ _ c0 (fun hZq => ?_)
 clear hKK KK
 refine tk 30 hZq ?_
 refine rd1 31 (fun KK hKK => ?_)
 refine step_litX 31 1 _ [.int .i64 4, .int .i64 r.id, .int .i64 (r.view % r.size), .int .i64 r.view, .int .i64 0, .bool false, .int .i64 0, .int .i64 0, .int .i64 0, .int .i64 0, .int .i64 0, .int .i64 0, .int .i64 r.last, .slice ra h.L.2.1 rc, .int .i64 r.commit] 46 (fun _ => by kernel_rfl) ?_
 intro bl W1 N1
 have ge : w2.heap.size ≤ bl := N1.ge
 have R2 := R.below N1.below
 replace B := N1.n B
 replace X0 := N1.r X0
 replace c0 := X0.cell
 have X1 : Bx W1 bl (mlV (ra, h.L.2.1, rc) (telM r)) := N1.bx
 clear N1
 clear hZq
 refine hKK _ _ c0 (fun hZq => ?_)
 clear hKK KK
 refine tk 32 hZq ?_
 refine wpAnyH_done (by kernel_rfl) ?_ _
 have MA : MailsAt W1 true w.heap.size W1.heap.size (some ⟨bl, 0, none⟩) 1 1 (fun _ => (ra, h.L.2.1, rc)) [telM r] := one_mail X1 R2 gz hR ge (Nat.le_trans gz (Nat.le_trans zu hR))
 have HMA : Hid _ := MA
 clear MA R2 X1 R X0 c0
 go_wp2
 go_ret
 refine ⟨(some ⟨bl, 0, none⟩, 1, 1), (fun _ => (ra, h.L.2.1, rc)), rfl, ?_, ?_, fun j hj => hzL, B⟩
 ·rw [E]; exact HMA.out
 ·rw [E]; rfl
end Go.Proofs.YtonclmbihhdkpaaGreat
