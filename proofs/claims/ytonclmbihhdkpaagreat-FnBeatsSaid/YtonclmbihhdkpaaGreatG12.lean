/- Chapter 9: BeatReplica of the model. -/
import Derived.Test.YtonclmbihhdkpaaGreatQAF
import Derived.Test.YtonclmbihhdkpaaGreatQAB
import Derived.Test.YtonclmbihhdkpaaGreatWY
import Derived.Deep.DeepCutAuto
import Derived.Deep.RegionLaw
set_option maxRecDepth 20000
set_option maxHeartbeats 16000000
namespace Go.Proofs.YtonclmbihhdkpaaGreat
open Go.RowKit
theorem step_allocB {P : Program} {ops : Array Oper} {dst : Option Tmp} {type : TypeId} {pos : String} {after : Array Edge} {a : Act} {w : World} {K : Act → World → Prop} {Q : Exit → Act → World → Prop} {E : Prop} (ty : TypeId) (cs : List Value) (hz : ∀ w, (zeroValue ty).run P w = .ok (.agg cs.toArray) w)
  (h : ∀ (b : Nat) (W : World), NewX w W b cs → K (a.put dst (.pointer (some ⟨b, 0, none⟩))) W) : if Region.wanted ⟨dst, .alloc ty, type, pos, after, none⟩ (yielded ops a.tmps) = true then Oper.wp P ⟨dst, .alloc ty, type, pos, after, none⟩ a w K Q else E := by
 have hw : Region.wanted ⟨dst, .alloc ty, type, pos, after, none⟩ (yielded ops a.tmps) = true := by simp [Region.wanted]
 rw [if_pos hw]
 unfold Oper.wp execOp
 go_simp
 exact h _ _ (by simpa using newX_mk w cs.toArray ty)
def BtL (V8 : World) (b2 m i : Nat) (qt : Rep) (h' : RH) (fT : Int → Ml) (iv : Value) (wr : World) : Prop := ∃ (k : Nat) (s : Hd) (Km : Nat → Hd), k ≤ m ∧ iv = .int .i64 k ∧ Bx wr b2 [.int .i64 0, .int .i64 qt.id, .int .i64 qt.size, .int .i64 qt.view, .bool qt.normal, .int .i64 qt.last, .slice h'.L.1 h'.L.2.1 h'.L.2.2, .int .i64 qt.commit, .slice h'.O.1 h'.O.2.1 h'.O.2.2, .slice h'.A.1 h'.A.2.1 h'.A.2.2, .slice h'.D.1 h'.D.2.1 h'.D.2.2, .slice s.1 s.2.1 s.2.2] ∧ SentAt wr V8.heap.size (.slice s.1 s.2.1 s.2.2) Km ((othL i k).map fT) ∧ s.2.1 = (othL i k).length ∧ NilK Km (othL i k).length ∧ V8.heap.size ≤ wr.heap.size ∧ KeptS (fun q => q = b2 ∨ V8.heap.size ≤ q) V8 wr
theorem specBeat_is {own : Bool} {lo hi : Nat} (r : Rep) (h : RH) (w : World) (x : RepAt w own lo hi h r) (hz : RSz h 1048576) (c : Int) (q : Rep) (ms : List Ml) (hc : repF r = c) (hq : beQ r = q) (hms : beMs r = ms) : Calls Tryz.prog 18 #[.agg #[.int .i64 r.id, .int .i64 r.size, .int .i64 r.view, .bool r.normal, .int .i64 r.last, .slice h.L.1 h.L.2.1 h.L.2.2, .int .i64 r.commit, .slice h.O.1 h.O.2.1 h.O.2.2, .slice h.A.1 h.A.2.1 h.A.2.2, .slice h.D.1 h.D.2.1 h.D.2.2]] w fun e w' => NodeRes w w' e c q ms := by
 unfold beQ at hq
 unfold beMs at hms
 rw [hc] at hq hms
 have HC : Hid _ := hc
 clear hc
 go_enter Tryz.func18, Tryz.ntmps18
 go_wp2_with (first | ((have g := ob0); clear g; (with_reducible refine al 33 [.int .i64 0, .int .i64 0, .int .i64 0, .int .i64 0, .bool false, .int .i64 0, .slice none 0 0, .int .i64 0, .slice none 0 0, .slice none 0 0, .slice none 0 0, .slice none 0 0] ?_); intro b1 W1 N1; have ob1 := N1.o B; have o0_b1 := N1.u X0; replace X0 := N1.r X0; replace c0 := X0.cell; replace B := N1.n B; obtain ⟨X1, c1, f1⟩ := N1.a; clear N1) | ((with_reducible refine box_newX 29 [.int .i64 r.id, .int .i64 r.size, .int .i64 r.view, .bool r.normal, .int .i64 r.last, .slice h.L.1 h.L.2.1 h.L.2.2, .int .i64 r.commit, .slice h.O.1 h.O.2.1 h.O.2.2, .slice h.A.1 h.A.2.1 h.A.2.2, .slice h.D.1 h.D.2.1 h.D.2.2] rfl ?_); intro b0 W0 N0; have ob0 := N0.ge; have B := N0.below; obtain ⟨X0, c0⟩ := N0.c; clear N0) | fail)
 refine (l9Fault_is b0 r h _ X0 (x.below B) (hz.mono (by omega)) c HC.out).mono ?_
 rintro e w1 ⟨rfl, BB⟩
 replace X0 := X0.below BB
 replace c0 := X0.cell
 replace X1 := X1.below BB
 replace c1 := X1.cell
 replace f1 := X1.froz
 replace B := below_next B BB
 clear BB
 by_cases h0 : c = 0
 rotate_left 1
 ·rw [if_neg h0] at hq hms
  subst hq
  subst hms
  have h0' : (c != 0) = true := by simp [h0]
  go_wp2_with fail
  refine (l9Bad_is c _).mono ?_
  rintro e wb ⟨rfl, BB⟩
  replace X0 := X0.below BB
  replace c0 := X0.cell
  replace X1 := X1.below BB
  replace c1 := X1.cell
  replace f1 := X1.froz
  replace B := below_next B BB
  clear BB
  go_wp2_with (first | ((with_reducible refine sm 33 X1 0 [.int .i64 c, .int .i64 0, .int .i64 0, .int .i64 0, .bool false, .int .i64 0, .slice none 0 0, .int .i64 0, .slice none 0 0, .slice none 0 0, .slice none 0 0, .slice none 0 0] ?_); intro V1 S; replace X0 := X0.kp S.kept; replace c0 := X0.cell; replace X1 : Bx V1 b1 [.int .i64 c, .int .i64 0, .int .i64 0, .int .i64 0, .bool false, .int .i64 0, .slice none 0 0, .int .i64 0, .slice none 0 0, .slice none 0 0, .slice none 0 0, .slice none 0 0] := S.bx; replace c1 := X1.cell; replace f1 := X1.froz; replace B := bkp B S.kept; clear S))
  refine bodyPost_ret (v := .agg #[.int .i64 c, .int .i64 0, .int .i64 0, .int .i64 0, .bool false, .int .i64 0, .slice none 0 0, .int .i64 0, .slice none 0 0, .slice none 0 0, .slice none 0 0, .slice none 0 0]) (by simp [results, Tryz.results18, go_sem, *]) rfl ⟨w.heap.size, _, ⟨(none, 0, 0), (none, 0, 0), (none, 0, 0), (none, 0, 0), fun _ => (none, 0, 0)⟩, (none, 0, 0), fun _ => (none, 0, 0), rfl, Nat.le_refl _, Nat.le_refl _, AnsAt.none _ _ _ _, ASz.none _, B⟩
 subst h0
 rw [if_pos rfl] at hq hms
 obtain ⟨N, LG, -, SP, OK9, -⟩ := rep_ok HC.out
 have N1 := N.1
 have N2 := N.2.1
 have N3 : 0 ≤ r.view ∧ r.view ≤ 300 := by have := N.2.2.1; omega
 have SO := SP.1
 have HOB : Hid _ := oksF_ok OK9
 have hdl := x.doers.len
 have hal := x.asks.nBls
 have SA := SP.2.1
 have SD := SP.2.2
 have hA5 : h.A.2.1 ≤ 1000 := by split at SA <;> omega
 have hD5 : h.D.2.1 ≤ 1000 := by split at SD <;> omega
 have hl40 := log_len (lg_ok LG).1
 have HLB : Hid (leadsB r = (r.normal && (r.view % r.size == r.id))) := rfl
 clear N LG SP OK9 SA SD hdl hal
 go_wp2_with fail
 have lb := X1.lt
 have lb0 := X0.lt
 have B9 := B.size
 refine (l9Copy_z r h _ (x.below B) hz hD5).mono ?_
 rintro e w2 ⟨z, ue, h', rfl, Gz, hR, R, HZ, BB⟩
 have R1 := R.widen Gz (Nat.le_refl ue)
 obtain ⟨z0, hz0⟩ : ∃ z0, z0 = w1.heap.size := ⟨_, rfl⟩
 rw [← hz0] at R1 lb lb0 B9
 have gw : z0 ≤ w2.heap.size := by rw [hz0]; exact BB.size
 clear hz0 R Gz
 replace X0 := X0.below BB
 replace c0 := X0.cell
 replace X1 := X1.below BB
 replace c1 := X1.cell
 replace f1 := X1.froz
 replace B := below_next B BB
 clear BB
 have hR1 := hR
 obtain ⟨nm, hnm⟩ : ∃ nm, r.normal = nm := ⟨_, rfl⟩
 have HN : Hid _ := hnm
 rw [hnm] at hms HLB
 have HX0 : Hid _ := X0
 rw [hnm] at X0 c0
 clear hnm
 cases nm
 ·have HE1 : Hid (r = q) := by show _ = _; rw [← hq, HLB.out, if_neg (by simp)]
  have HE2 : Hid ((if 2 * cntB r.asks > r.size then chgL r ++ tellM r else chgL r) = ms) := by show _ = _; rw [← hms, HLB.out]; simp
  clear hq hms HLB
  go_upto_region 6 with (first | ((with_reducible refine sm 33 X2 0 [.int .i64 0, .int .i64 r.id, .int .i64 r.size, .int .i64 r.view, .bool r.normal, .int .i64 r.last, .slice h'.L.1 h'.L.2.1 h'.L.2.2, .int .i64 r.commit, .slice h'.O.1 h'.O.2.1 h'.O.2.2, .slice h'.A.1 h'.A.2.1 h'.A.2.2, .slice h'.D.1 h'.D.2.1 h'.D.2.2, .slice none 0 0] ?_); intro V1 S; replace X0 := X0.kp S.kept; replace c0 := X0.cell; replace X1 := X1.kp S.kept; replace c1 := X1.cell; replace f1 := X1.froz; replace X2 : Bx V1 b2 [.int .i64 0, .int .i64 r.id, .int .i64 r.size, .int .i64 r.view, .bool r.normal, .int .i64 r.last, .slice h'.L.1 h'.L.2.1 h'.L.2.2, .int .i64 r.commit, .slice h'.O.1 h'.O.2.1 h'.O.2.2, .slice h'.A.1 h'.A.2.1 h'.A.2.2, .slice h'.D.1 h'.D.2.1 h'.D.2.2, .slice none 0 0] := S.bx; replace c2 := X2.cell; replace f2 := X2.froz; replace R1 := R1.kept S.kept (by omega); replace hR1 := Nat.le_trans hR1 S.kept.size; replace B := bkp B S.kept; clear S) | ((have g := ob1); clear g; (with_reducible refine al 33 [.int .i64 0, .int .i64 0, .int .i64 0, .int .i64 0, .bool false, .int .i64 0, .slice none 0 0, .int .i64 0, .slice none 0 0, .slice none 0 0, .slice none 0 0, .slice none 0 0] ?_); intro b2 W2 N2; have ob2 := N2.o B; have o0_b2 := N2.u X0; have o1_b2 := N2.u X1; have oR1_b2 : ue ≤ b2 := Nat.le_trans hR1 N2.ge; replace X0 := N2.r X0; replace c0 := X0.cell; replace X1 := N2.r X1; replace c1 := X1.cell; replace f1 := X1.froz; replace R1 := R1.below N2.below; replace hR1 := Nat.le_trans hR1 N2.below.size; replace B := N2.n B; obtain ⟨X2, c2, f2⟩ := N2.a; have o2z : z0 ≤ b2 := Nat.le_trans gw N2.ge; clear N2) | fail)
  go_wp2_with fail
  have HXN : Hid (Bx V1 b0 [.int .i64 r.id, .int .i64 r.size, .int .i64 r.view, .bool r.normal, .int .i64 r.last, .slice h.L.1 h.L.2.1 h.L.2.2, .int .i64 r.commit, .slice h.O.1 h.O.2.1 h.O.2.2, .slice h.A.1 h.A.2.1 h.A.2.2, .slice h.D.1 h.D.2.1 h.D.2.2]) := by show Bx _ _ _; rw [HN.out]; exact X0
  have lt2 := X2.lt
  refine (l9Changes0_is r h b0 _ HXN.out N1 N2).mono ?_
  rintro e w4 ⟨s, Km, base0, rfl, G0, hsn, NK, hb0, BB⟩
  have hw4 := BB.size
  obtain ⟨base, hbase, hbw, G⟩ := sent_base G0 hb0 hw4
  clear G0 hb0
  replace X0 := X0.below BB
  replace c0 := X0.cell
  replace X1 := X1.below BB
  replace c1 := X1.cell
  replace f1 := X1.froz
  replace X2 := X2.below BB
  replace c2 := X2.cell
  replace f2 := X2.froz
  replace R1 := R1.below BB
  replace hR1 := Nat.le_trans hR1 BB.size
  replace B := below_next B BB
  clear BB
  have hcl := chgL_len r
  have hs5 : s.2.1 ≤ 5 := by omega
  have HSN : Hid _ := hsn
  have HG : Hid (GrowAt _ _ _ _ _ _ _ _ _) := G
  clear hsn hcl G
  go_wp2_with (first | ((with_reducible refine so 31 X2 11 (.slice s.1 s.2.1 s.2.2) ?_); intro V2 S; replace X0 := X0.kp S.kept; replace c0 := X0.cell; replace X1 := X1.kp S.kept; replace c1 := X1.cell; replace f1 := X1.froz; replace X2 : Bx V2 b2 [.int .i64 0, .int .i64 r.id, .int .i64 r.size, .int .i64 r.view, .bool r.normal, .int .i64 r.last, .slice h'.L.1 h'.L.2.1 h'.L.2.2, .int .i64 r.commit, .slice h'.O.1 h'.O.2.1 h'.O.2.2, .slice h'.A.1 h'.A.2.1 h'.A.2.2, .slice h'.D.1 h'.D.2.1 h'.D.2.2, .slice s.1 s.2.1 s.2.2] := S.bx; replace c2 := X2.cell; replace f2 := X2.froz; replace R1 := R1.kept S.kept (by omega); replace hR1 := Nat.le_trans hR1 S.kept.size; replace B := bkp B S.kept; replace HG : Hid (GrowAt _ _ _ _ _ _ _ _ _) := GrowAt.kept HG.out S.kept (by omega); replace hbw := Nat.le_trans hbw S.kept.size; clear S) | fail)
  obtain ⟨d, hd⟩ : ∃ d, decide (2 * cntB r.asks > r.size) = d := ⟨_, rfl⟩
  have HD : Hid _ := hd
  clear hd
  have HXN2 : Hid (Bx V2 b0 [.int .i64 r.id, .int .i64 r.size, .int .i64 r.view, .bool r.normal, .int .i64 r.last, .slice h.L.1 h.L.2.1 h.L.2.2, .int .i64 r.commit, .slice h.O.1 h.O.2.1 h.O.2.2, .slice h.A.1 h.A.2.1 h.A.2.2, .slice h.D.1 h.D.2.1 h.D.2.2]) := by show Bx _ _ _; rw [HN.out]; exact X0
  refine (l9Asked0_is r h b0 _ HXN2.out (x.below B).asks hA5 N1 d HD.out).mono ?_
  rintro e W9 ⟨rfl, rfl⟩
  cases d
  ·have HE3 : Hid (chgL r = ms) := by show _ = _; rw [← HE2.out, if_neg (of_decide_eq_false HD.out)]
   have AN : AnsAt W9 true z0 W9.heap.size h' s Km r (chgL r) := ans_of R1 HG.out (by omega) (by omega) (by omega) rfl
   have hAN : W9.heap.size ≤ W9.heap.size := Nat.le_refl _
   have AZ : ASz h' s Km 1048576 := ⟨HZ, by omega, fun j hj => by rw [NK j hj]; exact Nat.zero_le _⟩
   skip
   clear R1 HG
   go_wp2_with (first | ((with_reducible refine sm 33 X1 0 [.int .i64 0, .int .i64 r.id, .int .i64 r.size, .int .i64 r.view, .bool r.normal, .int .i64 r.last, .slice h'.L.1 h'.L.2.1 h'.L.2.2, .int .i64 r.commit, .slice h'.O.1 h'.O.2.1 h'.O.2.2, .slice h'.A.1 h'.A.2.1 h'.A.2.2, .slice h'.D.1 h'.D.2.1 h'.D.2.2, .slice s.1 s.2.1 s.2.2] ?_); intro V3 S; replace X0 := X0.kp S.kept; replace c0 := X0.cell; replace X1 : Bx V3 b1 [.int .i64 0, .int .i64 r.id, .int .i64 r.size, .int .i64 r.view, .bool r.normal, .int .i64 r.last, .slice h'.L.1 h'.L.2.1 h'.L.2.2, .int .i64 r.commit, .slice h'.O.1 h'.O.2.1 h'.O.2.2, .slice h'.A.1 h'.A.2.1 h'.A.2.2, .slice h'.D.1 h'.D.2.1 h'.D.2.2, .slice s.1 s.2.1 s.2.2] := S.bx; replace c1 := X1.cell; replace f1 := X1.froz; replace X2 := X2.kp S.kept; replace c2 := X2.cell; replace f2 := X2.froz; replace AN := AN.kept S.kept (by omega); replace hAN := Nat.le_trans hAN S.kept.size; replace B := bkp B S.kept; clear S))
   have EQ := HE1.out
   have EM := HE3.out
   subst EM
   subst EQ
   exact bodyPost_ret (v := .agg #[.int .i64 0, .int .i64 r.id, .int .i64 r.size, .int .i64 r.view, .bool r.normal, .int .i64 r.last, .slice h'.L.1 h'.L.2.1 h'.L.2.2, .int .i64 r.commit, .slice h'.O.1 h'.O.2.1 h'.O.2.2, .slice h'.A.1 h'.A.2.1 h'.A.2.2, .slice h'.D.1 h'.D.2.1 h'.D.2.2, .slice s.1 s.2.1 s.2.2]) (by simp [results, Tryz.results18, go_sem, *]) rfl ⟨_, _, h', s, Km, rfl, B9, hAN, AN.ro, AZ, B⟩
  ·have HE3 : Hid (chgL r ++ tellM r = ms) := by show _ = _; rw [← HE2.out, if_pos (of_decide_eq_true HD.out)]
   have lt2' := X2.lt
   go_wp2_with fail
   have DD : Below W9.heap.size W9 W9.drew := (Below.refl _ _).drew
   have XN := HXN2.out.below DD
   have X2D := X2.below DD
   have c2D := X2D.cell
   have X0D := X0.below DD
   have X1D := X1.below DD
   have BD := below_next B DD
   have R1D := R1.below DD
   have hbwD := Nat.le_trans hbw DD.size
   have hKm : Hid (∀ j, j < (chgL r).length → (Km j).2.1 ≤ 1048576) := fun j hj => by rw [NK j (by rw [HSN.out]; exact hj)]; exact Nat.zero_le _
   have HC5 : Hid ((chgL r).length ≤ 5) := (by have := chgL_len r; omega : (chgL r).length ≤ 5)
   have hcl := HC5.out
   go_cut [] (fun wx => ∃ (s2 : Hd) (K2 : Nat → Hd), Bx wx b0 [.int .i64 r.id, .int .i64 r.size, .int .i64 r.view, .bool false, .int .i64 r.last, .slice h.L.1 h.L.2.1 h.L.2.2, .int .i64 r.commit, .slice h.O.1 h.O.2.1 h.O.2.2, .slice h.A.1 h.A.2.1 h.A.2.2, .slice h.D.1 h.D.2.1 h.D.2.2] ∧ Bx wx b1 [.int .i64 0, .int .i64 0, .int .i64 0, .int .i64 0, .bool false, .int .i64 0, .slice none 0 0, .int .i64 0, .slice none 0 0, .slice none 0 0, .slice none 0 0, .slice none 0 0] ∧ Bx wx b2 [.int .i64 0, .int .i64 r.id, .int .i64 r.size, .int .i64 r.view, .bool r.normal, .int .i64 r.last, .slice h'.L.1 h'.L.2.1 h'.L.2.2, .int .i64 r.commit, .slice h'.O.1 h'.O.2.1 h'.O.2.2, .slice h'.A.1 h'.A.2.1 h'.A.2.2, .slice h'.D.1 h'.D.2.1 h'.D.2.2, .slice s2.1 s2.2.1 s2.2.2] ∧ AnsAt wx true z0 wx.heap.size h' s2 K2 r (chgL r ++ tellM r) ∧ ASz h' s2 K2 1048576 ∧ W9.heap.size ≤ wx.heap.size ∧ Below w.heap.size w wx)
   case first =>
    clear HXN HXN2 c0 c1 f1
    have BW : Below W9.drew.heap.size W9.drew W9.drew := Below.refl _ _
    replace X0 := X0D
    replace X1 := X1D
    replace X2 := X2D
    replace c2 := X2.cell
    replace f2 := X2.froz
    replace R1 := R1D
    replace B := BD
    have c0 := X0.cell
    have c1 := X1.cell
    clear X0D X1D X2D c2D R1D BD XN hR1
    refine wp_region_held_drew (S := (fun _ => True)) (by kernel_rfl) trivial (fun hZq => ?_)
    refine tk 0 hZq ?_
    refine wpAnyH_ready (rs := [1, 2]) (by kernel_rfl) (by simp) ?_
    refine (AllReadyH.cons rfl (fun KK hKK => ?_) (AllReadyH.cons rfl (fun KK hKK => ?_) AllReadyH.nil))
    ·rw [if_pos (by simp [Region.wanted])]
     unfold Oper.wp execOp
     go_simp
     clear hZq
     refine hKK _ _ trivial (fun hZq => ?_)
     clear hKK KK
     refine rd1 2 (fun KK hKK => ?_)
     go_simp
     go_at_call 73
     refine (l9Tell0_is r h b0 _ (by rw [HN.out]; exact X0) (x.below B).log hz.L N1 N3).mono ?_
     rintro e w5 ⟨s3, K3, rfl, MA, hsn3, hK3, BB⟩
     replace X0 := X0.below BB
     replace c0 := X0.cell
     replace X1 := X1.below BB
     replace c1 := X1.cell
     replace X2 := X2.below BB
     replace c2 := X2.cell
     replace f2 := X2.froz
     replace R1 := R1.below BB
     replace B := below_next B BB
     replace BW := below_next BW BB
     have HSN3 : Hid _ := hsn3
     have HMA : Hid _ := MA
     have HK3 : Hid _ := hK3
     clear hsn3 MA hK3
     clear BB
     clear hZq
     refine hKK _ _ trivial (fun hZq => ?_)
     clear hKK KK
     refine rd1 3 (fun KK hKK => ?_)
     obtain ⟨v', w6, Kn, hr, G2, KS, B6, hKn⟩ := sent_tell (HG.out.below DD) BW HMA.out HSN3.out hKm.out HK3.out hbwD (by omega)
     have nbx : ∀ b, b < base → ¬ (Value.slice s.1 s.2.1 s.2.2).ownBlock = some b := (fun b hb z => by have := (HG.out.own.lt b z).1; omega)
     obtain ⟨sa, sc, e9, _, _⟩ := owns_slice (GrowAt.own (G2 : GrowAt _ _ _ _ _ _ _ _ _))
     subst e9
     refine step_append_run rfl _ _ _ _ rfl _ _ rfl rfl _ _ (hr _) ?_
     have HG2 : Hid (GrowAt _ _ _ _ _ _ _ _ _) := G2
     have HKn : Hid _ := hKn
     replace X0 := X0.keptS KS (nbx b0 (by omega))
     replace c0 := X0.cell
     replace X1 := X1.keptS KS (nbx b1 (by omega))
     replace c1 := X1.cell
     replace X2 := X2.keptS KS (nbx b2 (by omega))
     replace c2 := X2.cell
     replace f2 := X2.froz
     replace R1 := R1.keptS KS (fun k hk z => by have := R1.inB hk; have := (HG.out.own.lt k z).1; omega)
     replace B := B.trans (KS.low w.heap.size (fun k z => by have := (HG.out.own.lt k z).1; omega) B.size)
     have hw6 : W9.heap.size ≤ w6.heap.size := Nat.le_trans BW.size KS.size
     clear BW hr G2 hKn KS B6 nbx
     clear hZq
     refine hKK _ _ trivial (fun hZq => ?_)
     clear hKK KK
     refine tk 4 hZq ?_
     refine rd1 5 (fun KK hKK => ?_)
     refine step_oneX 31 X2 11 (.slice sa (chgL r ++ tellM r).length sc) (by simp) (by kernel_rfl) rfl rfl rfl ?_
     intro V7 S
     have HG9 : Hid (GrowAt _ _ _ _ _ _ _ _ _) := GrowAt.kept HG2.out S.kept (by omega)
     replace hw6 := Nat.le_trans hw6 S.kept.size
     replace X0 := X0.kp S.kept
     replace c0 := X0.cell
     replace X1 := X1.kp S.kept
     replace c1 := X1.cell
     replace X2 : Bx V7 b2 [.int .i64 0, .int .i64 r.id, .int .i64 r.size, .int .i64 r.view, .bool r.normal, .int .i64 r.last, .slice h'.L.1 h'.L.2.1 h'.L.2.2, .int .i64 r.commit, .slice h'.O.1 h'.O.2.1 h'.O.2.2, .slice h'.A.1 h'.A.2.1 h'.A.2.2, .slice h'.D.1 h'.D.2.1 h'.D.2.2, .slice (sa, (chgL r ++ tellM r).length, sc).1 (sa, (chgL r ++ tellM r).length, sc).2.1 (sa, (chgL r ++ tellM r).length, sc).2.2] := S.bx
     replace c2 := X2.cell
     replace f2 := X2.froz
     replace R1 := R1.kept S.kept (by omega)
     replace B := bkp B S.kept
     clear S
     clear hZq
     refine hKK _ _ trivial (fun hZq => ?_)
     clear hKK KK
     refine wpAnyH_done (by kernel_rfl) ?_ _
     have AN : AnsAt V7 true z0 V7.heap.size h' (sa, (chgL r ++ tellM r).length, sc) Kn r (chgL r ++ tellM r) := ans_of R1 HG9.out (by omega) (by omega) (by omega) rfl
     have htl := tellM_len r
     have AZ : ASz h' (sa, (chgL r ++ tellM r).length, sc) Kn 1048576 := ⟨HZ, (by have := HC5.out; show (chgL r ++ tellM r).length ≤ 1048576; rw [List.length_append]; omega), HKn.out⟩
     have H0 : Hid _ := X0
     have H1 : Hid _ := X1
     have H2 : Hid _ := X2
     clear X0 X1 X2 c0 c1 c2 f2
     go_wp2_with fail
     go_meet
     exact ⟨(sa, (chgL r ++ tellM r).length, sc), Kn, H0.out, H1.out, H2.out, AN, AZ, hw6, B⟩
    ·go_simp
     go_at_call 73
     refine (l9Tell0_is r h b0 _ (by rw [HN.out]; exact X0) (x.below B).log hz.L N1 N3).mono ?_
     rintro e w5 ⟨s3, K3, rfl, MA, hsn3, hK3, BB⟩
     replace X0 := X0.below BB
     replace c0 := X0.cell
     replace X1 := X1.below BB
     replace c1 := X1.cell
     replace X2 := X2.below BB
     replace c2 := X2.cell
     replace f2 := X2.froz
     replace R1 := R1.below BB
     replace B := below_next B BB
     replace BW := below_next BW BB
     have HSN3 : Hid _ := hsn3
     have HMA : Hid _ := MA
     have HK3 : Hid _ := hK3
     clear hsn3 MA hK3
     clear BB
     clear hZq
     refine hKK _ _ trivial (fun hZq => ?_)
     clear hKK KK
     refine rd1 1 (fun KK hKK => ?_)
     rw [if_pos (by simp [Region.wanted])]
     unfold Oper.wp execOp
     go_simp
     clear hZq
     refine hKK _ _ trivial (fun hZq => ?_)
     clear hKK KK
     refine rd1 3 (fun KK hKK => ?_)
     obtain ⟨v', w6, Kn, hr, G2, KS, B6, hKn⟩ := sent_tell (HG.out.below DD) BW HMA.out HSN3.out hKm.out HK3.out hbwD (by omega)
     have nbx : ∀ b, b < base → ¬ (Value.slice s.1 s.2.1 s.2.2).ownBlock = some b := (fun b hb z => by have := (HG.out.own.lt b z).1; omega)
     obtain ⟨sa, sc, e9, _, _⟩ := owns_slice (GrowAt.own (G2 : GrowAt _ _ _ _ _ _ _ _ _))
     subst e9
     refine step_append_run rfl _ _ _ _ rfl _ _ rfl rfl _ _ (hr _) ?_
     have HG2 : Hid (GrowAt _ _ _ _ _ _ _ _ _) := G2
     have HKn : Hid _ := hKn
     replace X0 := X0.keptS KS (nbx b0 (by omega))
     replace c0 := X0.cell
     replace X1 := X1.keptS KS (nbx b1 (by omega))
     replace c1 := X1.cell
     replace X2 := X2.keptS KS (nbx b2 (by omega))
     replace c2 := X2.cell
     replace f2 := X2.froz
     replace R1 := R1.keptS KS (fun k hk z => by have := R1.inB hk; have := (HG.out.own.lt k z).1; omega)
     replace B := B.trans (KS.low w.heap.size (fun k z => by have := (HG.out.own.lt k z).1; omega) B.size)
     have hw6 : W9.heap.size ≤ w6.heap.size := Nat.le_trans BW.size KS.size
     clear BW hr G2 hKn KS B6 nbx
     clear hZq
     refine hKK _ _ trivial (fun hZq => ?_)
     clear hKK KK
     refine tk 4 hZq ?_
     refine rd1 5 (fun KK hKK => ?_)
     refine step_oneX 31 X2 11 (.slice sa (chgL r ++ tellM r).length sc) (by simp) (by kernel_rfl) rfl rfl rfl ?_
     intro V7 S
     have HG9 : Hid (GrowAt _ _ _ _ _ _ _ _ _) := GrowAt.kept HG2.out S.kept (by omega)
     replace hw6 := Nat.le_trans hw6 S.kept.size
     replace X0 := X0.kp S.kept
     replace c0 := X0.cell
     replace X1 := X1.kp S.kept
     replace c1 := X1.cell
     replace X2 : Bx V7 b2 [.int .i64 0, .int .i64 r.id, .int .i64 r.size, .int .i64 r.view, .bool r.normal, .int .i64 r.last, .slice h'.L.1 h'.L.2.1 h'.L.2.2, .int .i64 r.commit, .slice h'.O.1 h'.O.2.1 h'.O.2.2, .slice h'.A.1 h'.A.2.1 h'.A.2.2, .slice h'.D.1 h'.D.2.1 h'.D.2.2, .slice (sa, (chgL r ++ tellM r).length, sc).1 (sa, (chgL r ++ tellM r).length, sc).2.1 (sa, (chgL r ++ tellM r).length, sc).2.2] := S.bx
     replace c2 := X2.cell
     replace f2 := X2.froz
     replace R1 := R1.kept S.kept (by omega)
     replace B := bkp B S.kept
     clear S
     clear hZq
     refine hKK _ _ trivial (fun hZq => ?_)
     clear hKK KK
     refine wpAnyH_done (by kernel_rfl) ?_ _
     have AN : AnsAt V7 true z0 V7.heap.size h' (sa, (chgL r ++ tellM r).length, sc) Kn r (chgL r ++ tellM r) := ans_of R1 HG9.out (by omega) (by omega) (by omega) rfl
     have htl := tellM_len r
     have AZ : ASz h' (sa, (chgL r ++ tellM r).length, sc) Kn 1048576 := ⟨HZ, (by have := HC5.out; show (chgL r ++ tellM r).length ≤ 1048576; rw [List.length_append]; omega), HKn.out⟩
     have H0 : Hid _ := X0
     have H1 : Hid _ := X1
     have H2 : Hid _ := X2
     clear X0 X1 X2 c0 c1 c2 f2
     go_wp2_with fail
     go_meet
     exact ⟨(sa, (chgL r ++ tellM r).length, sc), Kn, H0.out, H1.out, H2.out, AN, AZ, hw6, B⟩
   case rest =>
    clear c0 c1 f1 c2 f2 X0 X1 X2 c2D X0D X1D X2D R1 R1D B BD HG
    obtain ⟨s2, K2, X0, X1, X2, AN, AZ, hwx, B⟩ := hcut
    rename World => wq
    have c0 := X0.cell
    have c1 := X1.cell
    have f1 := X1.froz
    have c2 := X2.cell
    have f2 := X2.froz
    have hAN : wq.heap.size ≤ wq.heap.size := Nat.le_refl _
    go_wp2_with (first | ((with_reducible refine sm 33 X1 0 [.int .i64 0, .int .i64 r.id, .int .i64 r.size, .int .i64 r.view, .bool r.normal, .int .i64 r.last, .slice h'.L.1 h'.L.2.1 h'.L.2.2, .int .i64 r.commit, .slice h'.O.1 h'.O.2.1 h'.O.2.2, .slice h'.A.1 h'.A.2.1 h'.A.2.2, .slice h'.D.1 h'.D.2.1 h'.D.2.2, .slice s2.1 s2.2.1 s2.2.2] ?_); intro V3 S; replace X0 := X0.kp S.kept; replace c0 := X0.cell; replace X1 : Bx V3 b1 [.int .i64 0, .int .i64 r.id, .int .i64 r.size, .int .i64 r.view, .bool r.normal, .int .i64 r.last, .slice h'.L.1 h'.L.2.1 h'.L.2.2, .int .i64 r.commit, .slice h'.O.1 h'.O.2.1 h'.O.2.2, .slice h'.A.1 h'.A.2.1 h'.A.2.2, .slice h'.D.1 h'.D.2.1 h'.D.2.2, .slice s2.1 s2.2.1 s2.2.2] := S.bx; replace c1 := X1.cell; replace f1 := X1.froz; replace X2 := X2.kp S.kept; replace c2 := X2.cell; replace f2 := X2.froz; replace AN := AN.kept S.kept (by omega); replace hAN := Nat.le_trans hAN S.kept.size; replace B := bkp B S.kept; clear S))
    have EQ := HE1.out
    have EM := HE3.out
    subst EM
    subst EQ
    exact bodyPost_ret (v := .agg #[.int .i64 0, .int .i64 r.id, .int .i64 r.size, .int .i64 r.view, .bool r.normal, .int .i64 r.last, .slice h'.L.1 h'.L.2.1 h'.L.2.2, .int .i64 r.commit, .slice h'.O.1 h'.O.2.1 h'.O.2.2, .slice h'.A.1 h'.A.2.1 h'.A.2.2, .slice h'.D.1 h'.D.2.1 h'.D.2.2, .slice s2.1 s2.2.1 s2.2.2]) (by simp [results, Tryz.results18, go_sem, *]) rfl ⟨_, _, h', s2, K2, rfl, B9, hAN, AN.ro, AZ, B⟩
 ·have HE2 : Hid ((if (r.view % r.size == r.id) = true then beatM r else []) = ms) := by show _ = _; rw [← hms, HLB.out, Bool.true_and]; by_cases e : (r.view % r.size == r.id) = true <;> simp [e]
  have HE1 : Hid ((if (r.view % r.size == r.id) = true then agrC r else r) = q) := by show _ = _; rw [← hq, HLB.out, Bool.true_and]
  rw [HLB.out, Bool.true_and] at SO
  clear hq hms HLB
  obtain ⟨l, hl⟩ : ∃ l, (r.view % r.size == r.id) = l := ⟨_, rfl⟩
  rw [hl] at HE1 HE2 SO
  have HL : Hid _ := hl
  clear hl
  go_upto_region 10 with (first | ((with_reducible refine sm 33 X2 0 [.int .i64 0, .int .i64 r.id, .int .i64 r.size, .int .i64 r.view, .bool r.normal, .int .i64 r.last, .slice h'.L.1 h'.L.2.1 h'.L.2.2, .int .i64 r.commit, .slice h'.O.1 h'.O.2.1 h'.O.2.2, .slice h'.A.1 h'.A.2.1 h'.A.2.2, .slice h'.D.1 h'.D.2.1 h'.D.2.2, .slice none 0 0] ?_); intro V1 S; replace X0 := X0.kp S.kept; replace c0 := X0.cell; replace X1 := X1.kp S.kept; replace c1 := X1.cell; replace f1 := X1.froz; replace X2 : Bx V1 b2 [.int .i64 0, .int .i64 r.id, .int .i64 r.size, .int .i64 r.view, .bool r.normal, .int .i64 r.last, .slice h'.L.1 h'.L.2.1 h'.L.2.2, .int .i64 r.commit, .slice h'.O.1 h'.O.2.1 h'.O.2.2, .slice h'.A.1 h'.A.2.1 h'.A.2.2, .slice h'.D.1 h'.D.2.1 h'.D.2.2, .slice none 0 0] := S.bx; replace c2 := X2.cell; replace f2 := X2.froz; replace R1 := R1.kept S.kept (by omega); replace hR1 := Nat.le_trans hR1 S.kept.size; replace B := bkp B S.kept; clear S) | ((have g := ob1); clear g; (with_reducible refine al 33 [.int .i64 0, .int .i64 0, .int .i64 0, .int .i64 0, .bool false, .int .i64 0, .slice none 0 0, .int .i64 0, .slice none 0 0, .slice none 0 0, .slice none 0 0, .slice none 0 0] ?_); intro b2 W2 N2; have ob2 := N2.o B; have o0_b2 := N2.u X0; have o1_b2 := N2.u X1; have oR1_b2 : ue ≤ b2 := Nat.le_trans hR1 N2.ge; replace X0 := N2.r X0; replace c0 := X0.cell; replace X1 := N2.r X1; replace c1 := X1.cell; replace f1 := X1.froz; replace R1 := R1.below N2.below; replace hR1 := Nat.le_trans hR1 N2.below.size; replace B := N2.n B; obtain ⟨X2, c2, f2⟩ := N2.a; have o2z : z0 ≤ b2 := Nat.le_trans gw N2.ge; clear N2) | fail)
  go_wp2_with fail
  refine (l9Primary_is b0 r.id r.size r.view true r.last h.L r.commit h.O h.A h.D N1 N3 _ X0).mono ?_
  rintro e w4 ⟨rfl, BB⟩
  rw [HL.out]
  replace X0 := X0.below BB
  replace c0 := X0.cell
  replace X1 := X1.below BB
  replace c1 := X1.cell
  replace f1 := X1.froz
  replace X2 := X2.below BB
  replace c2 := X2.cell
  replace f2 := X2.froz
  replace R1 := R1.below BB
  replace hR1 := Nat.le_trans hR1 BB.size
  replace B := below_next B BB
  clear BB
  have lt2 := X2.lt
  cases l
  ·have HE3 : Hid (r = q) := by show _ = _; rw [← HE1.out, if_neg (by decide)]
   have HE4 : Hid (([] : List Ml) = ms) := by show _ = _; rw [← HE2.out, if_neg (by decide)]
   have R9 := R1.widen (Nat.le_refl _) (show ue ≤ w4.heap.size by omega)
   have AN : AnsAt w4 true z0 w4.heap.size h' (none, 0, 0) kd0 r [] := AnsAt.bare R9 _ _
   have hAN : w4.heap.size ≤ w4.heap.size := Nat.le_refl _
   clear R1 R9 HE1 HE2
   go_wp2_with (first | ((with_reducible refine sm 33 X1 0 [.int .i64 0, .int .i64 r.id, .int .i64 r.size, .int .i64 r.view, .bool r.normal, .int .i64 r.last, .slice h'.L.1 h'.L.2.1 h'.L.2.2, .int .i64 r.commit, .slice h'.O.1 h'.O.2.1 h'.O.2.2, .slice h'.A.1 h'.A.2.1 h'.A.2.2, .slice h'.D.1 h'.D.2.1 h'.D.2.2, .slice none 0 0] ?_); intro V2 S; replace X0 := X0.kp S.kept; replace c0 := X0.cell; replace X1 : Bx V2 b1 [.int .i64 0, .int .i64 r.id, .int .i64 r.size, .int .i64 r.view, .bool r.normal, .int .i64 r.last, .slice h'.L.1 h'.L.2.1 h'.L.2.2, .int .i64 r.commit, .slice h'.O.1 h'.O.2.1 h'.O.2.2, .slice h'.A.1 h'.A.2.1 h'.A.2.2, .slice h'.D.1 h'.D.2.1 h'.D.2.2, .slice none 0 0] := S.bx; replace c1 := X1.cell; replace f1 := X1.froz; replace X2 := X2.kp S.kept; replace c2 := X2.cell; replace f2 := X2.froz; replace AN := AN.kept S.kept (by omega); replace hAN := Nat.le_trans hAN S.kept.size; replace B := bkp B S.kept; clear S))
   have EQ := HE3.out
   have EM := HE4.out
   subst EM
   subst EQ
   exact bodyPost_ret (v := .agg #[.int .i64 0, .int .i64 r.id, .int .i64 r.size, .int .i64 r.view, .bool r.normal, .int .i64 r.last, .slice h'.L.1 h'.L.2.1 h'.L.2.2, .int .i64 r.commit, .slice h'.O.1 h'.O.2.1 h'.O.2.2, .slice h'.A.1 h'.A.2.1 h'.A.2.2, .slice h'.D.1 h'.D.2.1 h'.D.2.2, .slice none 0 0]) (by simp [results, Tryz.results18, go_sem, *]) rfl ⟨_, _, h', (none, 0, 0), kd0, rfl, B9, hAN, AN.ro, ASz.bare HZ _ _, B⟩
  ·rw [if_pos rfl] at SO
   have HE3 : Hid (agrC r = q) := by show _ = _; rw [← HE1.out, if_pos rfl]
   have HE4 : Hid (beatM r = ms) := by show _ = _; rw [← HE2.out, if_pos rfl]
   clear HE1 HE2
   obtain ⟨ag, hag⟩ : ∃ ag, max r.commit (agrR r) = ag := ⟨_, rfl⟩
   have HAG : Hid (agrM r = ag) := by
    show _ = _
    rw [← hag]
    unfold agrM
    split <;> omega
   have HAG0 : Hid _ := hag
   clear hag
   have HSO : Hid _ := SO
   have HNB : Hid (¬ inRep h' b2) := fun hk => by have := R1.inB hk; omega
   have HXN : Hid (Bx w4 b0 [.int .i64 r.id, .int .i64 r.size, .int .i64 r.view, .bool r.normal, .int .i64 r.last, .slice h.L.1 h.L.2.1 h.L.2.2, .int .i64 r.commit, .slice h.O.1 h.O.2.1 h.O.2.2, .slice h.A.1 h.A.2.1 h.A.2.2, .slice h.D.1 h.D.2.1 h.D.2.2]) := by show Bx _ _ _; rw [HN.out]; exact X0
   go_wp2_with fail
   have DQ : Below w4.heap.size w4 w4.drew := (Below.refl _ _).drew
   replace X0 := X0.below DQ
   replace c0 := X0.cell
   replace X1 := X1.below DQ
   replace c1 := X1.cell
   replace f1 := X1.froz
   replace X2 := X2.below DQ
   replace c2 := X2.cell
   replace f2 := X2.froz
   replace R1 := R1.below DQ
   replace hR1 := Nat.le_trans hR1 DQ.size
   replace B := below_next B DQ
   clear DQ
   replace HXN : Hid (Bx w4.drew b0 [.int .i64 r.id, .int .i64 r.size, .int .i64 r.view, .bool r.normal, .int .i64 r.last, .slice h.L.1 h.L.2.1 h.L.2.2, .int .i64 r.commit, .slice h.O.1 h.O.2.1 h.O.2.2, .slice h.A.1 h.A.2.1 h.A.2.2, .slice h.D.1 h.D.2.1 h.D.2.2]) := HXN.out.below (Below.refl _ _).drew
   refine wp_region_held_drew (S := (fun w' => ∀ k : Nat, w'.cell? ⟨b0, k, none⟩ = [.int .i64 r.id, .int .i64 r.size, .int .i64 r.view, .bool true, .int .i64 r.last, .slice h.L.1 h.L.2.1 h.L.2.2, .int .i64 r.commit, .slice h.O.1 h.O.2.1 h.O.2.2, .slice h.A.1 h.A.2.1 h.A.2.2, .slice h.D.1 h.D.2.1 h.D.2.2][k]?)) (by kernel_rfl) c0 (fun hZq => ?_)
   refine tk 0 hZq ?_
   refine tk 1 hZq ?_
   refine rd1 2 (fun KK hKK => ?_)
   go_simp
   go_at_call 76
   refine (l9Agreed_is r h b0 _ HXN.out (x.below B) N1 N2 hl40 HSO.out).mono ?_
   rintro e W9 ⟨rfl, rfl⟩
   clear hZq
   refine hKK _ _ c0 (fun hZq => ?_)
   clear hKK KK
   refine rd1 3 (fun KK hKK => ?_)
   go_simp
   go_at_call 75
   refine (l1Max9_is r.commit (agrR r) _).mono ?_
   rintro e W9 ⟨rfl, rfl⟩
   rw [HAG0.out]
   clear hZq
   refine hKK _ _ c0 (fun hZq => ?_)
   clear hKK KK
   refine tk 4 hZq ?_
   refine tk 5 hZq ?_
   refine rd1 6 (fun KK hKK => ?_)
   refine step_oneX 2 X2 7 (.int .i64 ag) (by simp) (by kernel_rfl) rfl rfl rfl ?_
   intro V8 S
   replace X0 := X0.kp S.kept
   replace c0 := X0.cell
   replace X1 := X1.kp S.kept
   replace c1 := X1.cell
   replace f1 := X1.froz
   replace X2 : Bx V8 b2 [.int .i64 0, .int .i64 r.id, .int .i64 r.size, .int .i64 r.view, .bool r.normal, .int .i64 r.last, .slice h'.L.1 h'.L.2.1 h'.L.2.2, .int .i64 ag, .slice h'.O.1 h'.O.2.1 h'.O.2.2, .slice h'.A.1 h'.A.2.1 h'.A.2.2, .slice h'.D.1 h'.D.2.1 h'.D.2.2, .slice none 0 0] := S.bx
   replace c2 := X2.cell
   replace f2 := X2.froz
   replace R1 := R1.kept S.kept (by omega)
   replace hR1 := Nat.le_trans hR1 S.kept.size
   replace B := bkp B S.kept
   clear S
   clear hZq
   refine hKK _ _ c0 (fun hZq => ?_)
   clear hKK KK
   refine wpAnyH_done (by kernel_rfl) ?_ _
   obtain ⟨qt, hqt⟩ : ∃ qt, agrC r = qt := ⟨_, rfl⟩
   have XT : Bx V8 b2 [.int .i64 0, .int .i64 qt.id, .int .i64 qt.size, .int .i64 qt.view, .bool qt.normal, .int .i64 qt.last, .slice h'.L.1 h'.L.2.1 h'.L.2.2, .int .i64 qt.commit, .slice h'.O.1 h'.O.2.1 h'.O.2.2, .slice h'.A.1 h'.A.2.1 h'.A.2.2, .slice h'.D.1 h'.D.2.1 h'.D.2.2, .slice none 0 0] := by
    rw [← hqt]
    show Bx V8 b2 [_, _, _, _, _, _, _, .int .i64 (agrM r), _, _, _, _]
    rw [HAG.out]; exact X2
   have RQ : RepAt V8 true z0 ue h' qt := by rw [← hqt]; exact ⟨R1.log, R1.oks, R1.asks, R1.doers, R1.sep⟩
   have q4 : Hid (qt.log = r.log) := by show _ = _; rw [← hqt]; rfl
   have HQT : Hid _ := hqt
   rw [hqt] at HE3
   clear hqt R1 X2 c2 f2
   have X2 := XT
   have c2 := X2.cell
   have f2 := X2.froz
   clear XT
   obtain ⟨m, hm⟩ : ∃ m : Nat, r.size = m := ⟨r.size.toNat, by omega⟩
   obtain ⟨i, hi0⟩ : ∃ i : Nat, r.id = i := ⟨r.id.toNat, by omega⟩
   have hm5 : m ≤ 5 := by omega
   have hol := x.oks.nInts
   have hll := x.log.nSixs
   have HMO : Hid (m = h.O.2.1) := (by have := HSO.out; omega : m = h.O.2.1)
   obtain ⟨fT, hfT⟩ : ∃ fT : Int → Ml, fT = fun t => putM (prepM qt (beatN r t)) r.id t r.view := ⟨_, rfl⟩
   have HTM : Hid (beatM r = (othL i m).map fT) := by show _ = _; unfold beatM; rw [hm, hi0, hfT, HQT.out, hi0]; rfl
   have HFL : Hid (∀ t, (fT t).log = []) := fun t => by
    rw [hfT]
    show (putM (prepM qt (beatN r t)) r.id t r.view).log = []
    unfold prepM
    split <;> rfl
   have HI0 : Hid (∀ j y : Nat, r.oks.getD j 0 = (y : Int) → ¬ y < h.L.2.1 → mlV (none, 0, 0) (fT (j : Int)) = [.int .i64 1, .int .i64 i, .int .i64 j, .int .i64 r.view, .int .i64 y, .bool false, .int .i64 0, .int .i64 0, .int .i64 0, .int .i64 0, .int .i64 0, .int .i64 0, .int .i64 0, .slice none 0 0, .int .i64 qt.commit]) := fun j y e1 e2 => by
    have e3 : prepM qt (beatN r (j : Int)) = ⟨1, 0, 0, 0, y, false, en0, 0, [], qt.commit⟩ := by
     have e4 : beatN r (j : Int) = y := by unfold beatN; rw [Int.toNat_natCast, e1, Int.toNat_natCast]
     unfold prepM; rw [e4, if_neg (by rw [q4.out]; omega)]
    rw [hfT]
    show mlV _ (putM (prepM qt (beatN r (j : Int))) r.id (j : Int) r.view) = _
    rw [e3]
    simp only [putM, mlV, hi0]
    rfl
   have HI1 : Hid (∀ j y : Nat, r.oks.getD j 0 = (y : Int) → y < h.L.2.1 → mlV (none, 0, 0) (fT (j : Int)) = [.int .i64 1, .int .i64 i, .int .i64 j, .int .i64 r.view, .int .i64 y, .bool true, .int .i64 (r.log.getD y en0).1, .int .i64 (r.log.getD y en0).2.1, .int .i64 (r.log.getD y en0).2.2.1, .int .i64 (r.log.getD y en0).2.2.2.1, .int .i64 (r.log.getD y en0).2.2.2.2.1, .int .i64 (r.log.getD y en0).2.2.2.2.2, .int .i64 0, .slice none 0 0, .int .i64 qt.commit]) := fun j y e1 e2 => by
    have e3 : prepM qt (beatN r (j : Int)) = ⟨1, 0, 0, 0, y, true, r.log.getD y en0, 0, [], qt.commit⟩ := by
     have e4 : beatN r (j : Int) = y := by unfold beatN; rw [Int.toNat_natCast, e1, Int.toNat_natCast]
     unfold prepM; rw [e4, if_pos (by rw [q4.out]; omega), q4.out]
    rw [hfT]
    show mlV _ (putM (prepM qt (beatN r (j : Int))) r.id (j : Int) r.view) = _
    rw [e3]
    simp only [putM, mlV, hi0]
    rfl
   have HOK : Hid (∀ j : Nat, j < h.O.2.1 → ∃ y : Nat, r.oks.getD j 0 = (y : Int)) := fun j hj => by
    have hm : r.oks.getD j 0 ∈ r.oks := by simp [List.getD, show j < r.oks.length by omega]
    exact ⟨(r.oks.getD j 0).toNat, by have := HOB.out _ hm; omega⟩
   have HM : Hid _ := hm
   have HI : Hid _ := hi0
   rw [hm, hi0] at X0 c0
   clear hm hi0 hfT hol
   have HX0 : Hid _ := X0
   have HX1 : Hid _ := X1
   have HX2 : Hid _ := X2
   have HB8 : Hid _ := B
   have HRQ : Hid _ := RQ
   have lt0 := X0.lt
   have lt1 := X1.lt
   have lt2' := X2.lt
   have hR8 : ue ≤ V8.heap.size := hR1
   clear X0 c0 X1 c1 f1 X2 c2 f2 B RQ HXN
   go_wp2
   go_loopw [5, 6] (fun iv _ wr => BtL V8 b2 m i qt h' fT iv wr) (fun iv _ _ => m - (intOf iv).toNat)
   case atStart => exact ⟨0, (none, 0, 0), kd0, Nat.zero_le _, rfl, HX2.out, GrowAt.nil _ _ _ _ _ _ _, rfl, fun j hj => absurd hj (Nat.not_lt_zero _), Nat.le_refl _, KeptS.refl _ _⟩
   case round =>
    obtain ⟨k, s, Km, hk, rfl, X2, G, hsk, NK, LZ, KS⟩ := hrel
    have X0 := HX0.out.keptS KS (by omega)
    have c0 := X0.cell
    have c2 := X2.cell
    have f2 := X2.froz
    clear HX2
    by_cases hlt : k < m
    ·have hlk : (k : Int) < (m : Int) := by omega
     have HO : Hid (othL i (k + 1) = if k = i then othL i k else othL i k ++ [(k : Int)]) := rfl
     have hol := othL_len i k
     have HG : Hid (GrowAt _ _ _ _ _ _ _ _ _) := G
     have HNK : Hid _ := NK
     have HLZ : Hid _ := LZ
     have HKS : Hid _ := KS
     have HSK : Hid _ := hsk
     have HX2 : Hid _ := X2
     clear G NK hsk
     by_cases q : k = i
     ·have q1' : ((k : Int) == (i : Int)) = true := by simp [q]
      have HO2 : Hid (othL i (k + 1) = othL i k) := by show _ = _; rw [HO.out, if_pos q]
      clear q HO X2 KS
      go_wp2
      go_roundw
      case rel => exact ⟨k + 1, s, Km, by omega, by go_num, HX2.out, by rw [HO2.out]; exact HG.out, by rw [HO2.out]; exact HSK.out, by rw [HO2.out]; exact HNK.out, HLZ.out, HKS.out⟩
      case measure => simp [intOf]; omega
     ·have q1' : ((k : Int) == (i : Int)) = false := by simp; omega
      have HO2 : Hid (othL i (k + 1) = othL i k ++ [(k : Int)]) := by show _ = _; rw [HO.out, if_neg q]
      clear q HO HX2
      have hbr : Below w.heap.size w wr := HB8.out.trans (KS.low _ (fun q hq => hq.elim (fun e => by omega) (fun e => Nat.le_trans HB8.out.size e)) HB8.out.size)
      clear KS
      obtain ⟨y, hy⟩ := HOK.out k (by have := HMO.out; omega)
      obtain ⟨bo, oo, eo, _, _, hbs, e7, _⟩ := (x.below hbr).oks.int (k := k) (by have := HMO.out; omega)
      rw [hy] at e7
      have hkO : (k : Int) < (h.O.2.1 : Int) := by have := HMO.out; omega
      have HX0' : Hid _ := X0
      rw [eo] at X0 c0
      have HXL : Hid (RowAt wr own lo hi 6 h.L.1 h.L.2.1 h.L.2.2 (sixs r.log)) := (x.below hbr).log
      go_wp2_with fail
      go_cut [6] (fun yv wx => ∃ b3 : Nat, yv = .pointer (some ⟨b3, 0, none⟩) ∧ wr.heap.size ≤ b3 ∧ Bx wx b3 [.int .i64 1, .int .i64 i, .int .i64 k, .int .i64 r.view, .int .i64 y, .bool false, .int .i64 0, .int .i64 0, .int .i64 0, .int .i64 0, .int .i64 0, .int .i64 0, .int .i64 0, .slice none 0 0, .int .i64 qt.commit] ∧ Below wr.heap.size wr wx)
      case first =>
       have ob2 := X2.lt
       have e7' : wr.drew.cell? ⟨bo, oo + k, none⟩ = some (.int .i64 (y : Int)) := e7
       have DQ : Below wr.heap.size wr wr.drew := (Below.refl _ _).drew
       replace X0 := X0.below DQ
       replace c0 := X0.cell
       replace X2 := X2.below DQ
       replace c2 := X2.cell
       replace f2 := X2.froz
       have B := DQ
       clear DQ
       refine wp_region_held_drew (S := (fun w' => (∀ k : Nat, w'.cell? ⟨b0, k, none⟩ = [.int .i64 i, .int .i64 m, .int .i64 r.view, .bool true, .int .i64 r.last, .slice h.L.1 h.L.2.1 h.L.2.2, .int .i64 r.commit, .slice (some ⟨bo, oo, none⟩) h.O.2.1 h.O.2.2, .slice h.A.1 h.A.2.1 h.A.2.2, .slice h.D.1 h.D.2.1 h.D.2.2][k]?) ∧ (∀ k : Nat, w'.cell? ⟨b2, k, none⟩ = [.int .i64 0, .int .i64 qt.id, .int .i64 qt.size, .int .i64 qt.view, .bool qt.normal, .int .i64 qt.last, .slice h'.L.1 h'.L.2.1 h'.L.2.2, .int .i64 qt.commit, .slice h'.O.1 h'.O.2.1 h'.O.2.2, .slice h'.A.1 h'.A.2.1 h'.A.2.2, .slice h'.D.1 h'.D.2.1 h'.D.2.2, .slice s.1 s.2.1 s.2.2][k]?) ∧ w'.cell? ⟨bo, oo + k, none⟩ = some (.int .i64 (y : Int)))) (by kernel_rfl) ⟨c0, c2, e7'⟩ (fun hZq => ?_)
       refine tk 0 hZq ?_
       refine tk 1 hZq ?_
       refine tk 2 hZq ?_
       refine tk 3 hZq ?_
       refine tk 4 hZq ?_
       refine tk 5 hZq ?_
       refine tk 6 hZq ?_
       refine tk 7 hZq ?_
       refine tk 8 hZq ?_
       refine tk 9 hZq ?_
       refine tk 10 hZq ?_
       refine tk 11 hZq ?_
       refine tk 12 hZq ?_
       refine tk 13 hZq ?_
       refine rd1 14 (fun KK hKK => ?_)
       refine step_allocB 46 [.int .i64 0, .int .i64 0, .int .i64 0, .int .i64 0, .int .i64 0, .bool false, .int .i64 0, .int .i64 0, .int .i64 0, .int .i64 0, .int .i64 0, .int .i64 0, .int .i64 0, .slice none 0 0, .int .i64 0] (fun _ => by kernel_rfl) ?_
       intro b3 W3 N3
       have ob3 := N3.o B
       have o0_b3 := N3.u X0
       have o2_b3 := N3.u X2
       replace e7' := cell_later N3.below e7'
       replace X0 := N3.r X0
       replace c0 := X0.cell
       replace X2 := N3.r X2
       replace c2 := X2.cell
       replace f2 := X2.froz
       replace B := N3.n B
       obtain ⟨X3, c3, f3⟩ := N3.a
       clear N3
       clear hZq
       refine hKK _ _ ⟨c0, c2, e7'⟩ (fun hZq => ?_)
       clear hKK KK
       refine rd1 15 (fun KK hKK => ?_)
       refine step_midX 46 X3 0 [.int .i64 1, .int .i64 i, .int .i64 k, .int .i64 r.view, .int .i64 y, .bool false, .int .i64 0, .int .i64 0, .int .i64 0, .int .i64 0, .int .i64 0, .int .i64 0, .int .i64 0, .slice none 0 0, .int .i64 qt.commit] (by simp) (by kernel_rfl) (by simp [Value.oneCell']) rfl rfl ?_
       intro V6 S
       replace e7' := S.kept.cell e7' (by omega)
       replace X0 := X0.kp S.kept
       replace c0 := X0.cell
       replace X2 := X2.kp S.kept
       replace c2 := X2.cell
       replace f2 := X2.froz
       replace X3 : Bx V6 b3 [.int .i64 1, .int .i64 i, .int .i64 k, .int .i64 r.view, .int .i64 y, .bool false, .int .i64 0, .int .i64 0, .int .i64 0, .int .i64 0, .int .i64 0, .int .i64 0, .int .i64 0, .slice none 0 0, .int .i64 qt.commit] := S.bx
       replace c3 := X3.cell
       replace f3 := X3.froz
       replace B := bkp B S.kept
       clear S
       clear hZq
       refine hKK _ _ ⟨c0, c2, e7'⟩ (fun hZq => ?_)
       clear hKK KK
       refine wpAnyH_done (by kernel_rfl) ?_ _
       go_wp2_with fail
       go_meet
       exact ⟨b3, rfl, by omega, X3, B⟩
      case rest =>
       obtain ⟨b3, rfl, ob3, X3, B3⟩ := hcut
       rename World => wm
       replace X0 : Bx wm b0 [.int .i64 i, .int .i64 m, .int .i64 r.view, .bool true, .int .i64 r.last, .slice h.L.1 h.L.2.1 h.L.2.2, .int .i64 r.commit, .slice h.O.1 h.O.2.1 h.O.2.2, .slice h.A.1 h.A.2.1 h.A.2.2, .slice h.D.1 h.D.2.1 h.D.2.2] := HX0'.out.below B3
       replace c0 := X0.cell
       replace X2 := X2.below B3
       replace c2 := X2.cell
       replace f2 := X2.froz
       have c3 := X3.cell
       have f3 := X3.froz
       have lt3 := X3.lt
       have HXL2 : Hid _ := HXL.out.below B3
       clear HXL e7 eo
       have hwm := B3.size
       have lt2q := X2.lt
       by_cases hyl : y < h.L.2.1
       ·have hyq : (y : Int) < (h.L.2.1 : Int) := by omega
        have HI2 : Hid _ := HI1.out k y hy hyl
        obtain ⟨bL, oL, eL, _, _, hbl, l0, l1, l2, l3, l4, l5, _⟩ := HXL2.out.six hyl
        have HX0b : Hid _ := X0
        rw [eL] at X0 c0
        have hbn : bL ≠ b3 := by
         have hin := x.log.inB (k := sb h.L.1) ⟨by omega, rfl⟩
         rw [eL] at hin
         have e : sb (some (⟨bL, oL, none⟩ : Addr)) = bL := rfl
         have := hbr.size
         omega
        generalize hen : r.log.getD y en0 = en at *
        clear hen
        go_upto_region 21 with (first | ((with_reducible refine sm 44 X3 6 [.int .i64 en.1, .int .i64 en.2.1, .int .i64 en.2.2.1, .int .i64 en.2.2.2.1, .int .i64 en.2.2.2.2.1, .int .i64 en.2.2.2.2.2] ?_); intro V4 S; replace X0 := X0.kp S.kept; replace c0 := X0.cell; replace X2 := X2.kp S.kept; replace c2 := X2.cell; replace f2 := X2.froz; replace X3 : Bx V4 b3 [.int .i64 1, .int .i64 i, .int .i64 k, .int .i64 r.view, .int .i64 y, .bool true, .int .i64 en.1, .int .i64 en.2.1, .int .i64 en.2.2.1, .int .i64 en.2.2.2.1, .int .i64 en.2.2.2.2.1, .int .i64 en.2.2.2.2.2, .int .i64 0, .slice none 0 0, .int .i64 qt.commit] := S.bx; replace c3 := X3.cell; replace f3 := X3.froz; have B5 := B4q.trans (S.kept.below _ ob3 B4q.size); clear S l0 l1 l2 l3 l4 l5) | ((with_reducible refine so 4 X3 5 (.bool true) ?_); intro V5 S; replace X0 := X0.kp S.kept; replace c0 := X0.cell; replace X2 := X2.kp S.kept; replace c2 := X2.cell; replace f2 := X2.froz; replace X3 : Bx V5 b3 [.int .i64 1, .int .i64 i, .int .i64 k, .int .i64 r.view, .int .i64 y, .bool true, .int .i64 0, .int .i64 0, .int .i64 0, .int .i64 0, .int .i64 0, .int .i64 0, .int .i64 0, .slice none 0 0, .int .i64 qt.commit] := S.bx; replace c3 := X3.cell; replace f3 := X3.froz; replace l0 := S.kept.cell l0 (by omega); replace l1 := S.kept.cell l1 (by omega); replace l2 := S.kept.cell l2 (by omega); replace l3 := S.kept.cell l3 (by omega); replace l4 := S.kept.cell l4 (by omega); replace l5 := S.kept.cell l5 (by omega); have B4q := B3.trans (S.kept.below _ ob3 B3.size); clear S) | fail)
        have hw5 := B5.size
        go_upto_region 15 with (first | ((with_reducible refine so 31 X2 11 (.slice sa ((othL i k).length + 1) sc) ?_); intro V7 S; have HX7 : Hid (Bx V7 b2 [.int .i64 0, .int .i64 qt.id, .int .i64 qt.size, .int .i64 qt.view, .bool qt.normal, .int .i64 qt.last, .slice h'.L.1 h'.L.2.1 h'.L.2.2, .int .i64 qt.commit, .slice h'.O.1 h'.O.2.1 h'.O.2.2, .slice h'.A.1 h'.A.2.1 h'.A.2.2, .slice h'.D.1 h'.D.2.1 h'.D.2.2, .slice (sa, (othL i k).length + 1, sc).1 (sa, (othL i k).length + 1, sc).2.1 (sa, (othL i k).length + 1, sc).2.2]) := S.bx; have HG7 : Hid _ := GrowAt.kept HG2.out S.kept (by omega); have HK7 : Hid (KeptS (fun q => q = b2 ∨ V8.heap.size ≤ q) V8 V7) := HKT.out.trans (S.kept.toS fun q q1 q2 => Or.inl (by omega)); have HS7 : Hid (V8.heap.size ≤ V7.heap.size) := Nat.le_trans HS4.out S.kept.size; clear S X0 X2 c0 c2 f2 HG2 HKT HS4) | (at_builtin; refine Lib.wpList_append_run _ rfl _ _ _ _ rfl _ _ rfl rfl _ _ (hr _) ?_; clear hr; replace X0 := Y0; clear Y0; replace c0 := X0.cell; replace X2 := Y2; clear Y2; replace c2 := X2.cell; replace f2 := X2.froz) | ((with_reducible refine lit_newX 31 1 _ [.int .i64 1, .int .i64 i, .int .i64 k, .int .i64 r.view, .int .i64 y, .bool true, .int .i64 en.1, .int .i64 en.2.1, .int .i64 en.2.2.1, .int .i64 en.2.2.2.1, .int .i64 en.2.2.2.2.1, .int .i64 en.2.2.2.2.2, .int .i64 0, .slice none 0 0, .int .i64 qt.commit] 46 (fun _ => by kernel_rfl) ?_); intro b4 W4 N4; replace X0 := N4.r X0; replace c0 := X0.cell; replace X2 := N4.r X2; replace c2 := X2.cell; have XM : Bx W4 b4 (mlV (none, 0, 0) (fT (k : Int))) := (by rw [HI2.out]; exact N4.bx); have B4 := B5.trans (N4.below.mono B5.size); have hw4 := N4.below.size; clear N4; obtain ⟨v', w4', hr, G2, KS, BB⟩ := sent_snoc (hd := (none, 0, 0)) (m := fT (k : Int)) (HG.out.below B4) XM (by rw [HFL.out]; exact RowAt.nilR _ _ _ _ _ _ _) (fun h0 => absurd rfl h0) (Nat.le_trans HLZ.out B4.size) (by simp; omega); obtain ⟨sa, sc, e9, _, _⟩ := owns_slice (GrowAt.own (G2 : GrowAt _ _ _ _ _ _ _ _ _)); rw [show (((othL i k).map fT) ++ [fT (k : Int)]).length = (othL i k).length + 1 by simp] at e9; subst e9; have HG2 : Hid (GrowAt _ _ _ _ _ _ _ _ _) := G2; have HKT : Hid (KeptS (fun q => q = b2 ∨ V8.heap.size ≤ q) V8 w4') := HKS.out.trans ((KeptS.below B4).trans (KS.mono fun q hq => Or.inr (HG.out.own.lt q hq).1)); have Y0 := X0.keptS KS (fun q => by have := (HG.out.own.lt _ q).1; omega); have Y2 := X2.keptS KS (fun q => by have := (HG.out.own.lt _ q).1; omega); have HS4 : Hid (V8.heap.size ≤ w4'.heap.size) := Nat.le_trans HLZ.out (Nat.le_trans B4.size KS.size); clear G2 KS BB XM B4) | fail)
        have G3 : Hid (SentAt V7 V8.heap.size (.slice sa ((othL i k).length + 1) sc) (fun j => if j = (othL i k).length then (none, 0, 0) else Km j) ((othL i (k + 1)).map fT)) := by show SentAt _ _ _ _ _; rw [HO2.out, List.map_append]; have := HG7.out; rw [show ((othL i k).map fT).length = (othL i k).length by simp] at this; exact this
        have NK2 : Hid (NilK (fun j => if j = (othL i k).length then ((none : Option Addr), 0, 0) else Km j) (othL i (k + 1)).length) := fun j hj => by
         rw [HO2.out, List.length_append] at hj
         by_cases e : j = (othL i k).length
         ·simp [e]
         ·simp only [if_neg e]; exact HNK.out j (by simp at hj; omega)
        have e8 : Hid ((othL i k).length + 1 = (othL i (k + 1)).length) := by show _ = _; rw [HO2.out, List.length_append]; rfl
        go_wp2
        go_roundw
        case rel => first | exact ⟨k + 1, (sa, (othL i k).length + 1, sc), (fun j => if j = (othL i k).length then (none, 0, 0) else Km j), by omega, by go_num, HX7.out, G3.out, e8.out, NK2.out, HS7.out, HK7.out⟩ | exact ⟨k + 1, by omega, by go_num, (sa, (othL i k).length + 1, sc), HX7.out, (fun j => if j = (othL i k).length then (none, 0, 0) else Km j), G3.out, e8.out, NK2.out, HS7.out, HK7.out⟩ | exact ⟨k + 1, by omega, by go_num, (sa, (othL i k).length + 1, sc), (fun j => if j = (othL i k).length then (none, 0, 0) else Km j), HX7.out, G3.out, e8.out, NK2.out, HS7.out, HK7.out⟩
        case measure => simp [intOf]; omega
       ·have hyq : ¬ (y : Int) < (h.L.2.1 : Int) := by omega
        have HI2 : Hid _ := HI0.out k y hy hyl
        have B5 := B3
        have hw5 := B5.size
        go_upto_region 15 with (first | ((with_reducible refine so 31 X2 11 (.slice sa ((othL i k).length + 1) sc) ?_); intro V7 S; have HX7 : Hid (Bx V7 b2 [.int .i64 0, .int .i64 qt.id, .int .i64 qt.size, .int .i64 qt.view, .bool qt.normal, .int .i64 qt.last, .slice h'.L.1 h'.L.2.1 h'.L.2.2, .int .i64 qt.commit, .slice h'.O.1 h'.O.2.1 h'.O.2.2, .slice h'.A.1 h'.A.2.1 h'.A.2.2, .slice h'.D.1 h'.D.2.1 h'.D.2.2, .slice (sa, (othL i k).length + 1, sc).1 (sa, (othL i k).length + 1, sc).2.1 (sa, (othL i k).length + 1, sc).2.2]) := S.bx; have HG7 : Hid _ := GrowAt.kept HG2.out S.kept (by omega); have HK7 : Hid (KeptS (fun q => q = b2 ∨ V8.heap.size ≤ q) V8 V7) := HKT.out.trans (S.kept.toS fun q q1 q2 => Or.inl (by omega)); have HS7 : Hid (V8.heap.size ≤ V7.heap.size) := Nat.le_trans HS4.out S.kept.size; clear S X0 X2 c0 c2 f2 HG2 HKT HS4) | (at_builtin; refine Lib.wpList_append_run _ rfl _ _ _ _ rfl _ _ rfl rfl _ _ (hr _) ?_; clear hr; replace X0 := Y0; clear Y0; replace c0 := X0.cell; replace X2 := Y2; clear Y2; replace c2 := X2.cell; replace f2 := X2.froz) | ((with_reducible refine lit_newX 31 1 _ [.int .i64 1, .int .i64 i, .int .i64 k, .int .i64 r.view, .int .i64 y, .bool false, .int .i64 0, .int .i64 0, .int .i64 0, .int .i64 0, .int .i64 0, .int .i64 0, .int .i64 0, .slice none 0 0, .int .i64 qt.commit] 46 (fun _ => by kernel_rfl) ?_); intro b4 W4 N4; replace X0 := N4.r X0; replace c0 := X0.cell; replace X2 := N4.r X2; replace c2 := X2.cell; have XM : Bx W4 b4 (mlV (none, 0, 0) (fT (k : Int))) := (by rw [HI2.out]; exact N4.bx); have B4 := B5.trans (N4.below.mono B5.size); have hw4 := N4.below.size; clear N4; obtain ⟨v', w4', hr, G2, KS, BB⟩ := sent_snoc (hd := (none, 0, 0)) (m := fT (k : Int)) (HG.out.below B4) XM (by rw [HFL.out]; exact RowAt.nilR _ _ _ _ _ _ _) (fun h0 => absurd rfl h0) (Nat.le_trans HLZ.out B4.size) (by simp; omega); obtain ⟨sa, sc, e9, _, _⟩ := owns_slice (GrowAt.own (G2 : GrowAt _ _ _ _ _ _ _ _ _)); rw [show (((othL i k).map fT) ++ [fT (k : Int)]).length = (othL i k).length + 1 by simp] at e9; subst e9; have HG2 : Hid (GrowAt _ _ _ _ _ _ _ _ _) := G2; have HKT : Hid (KeptS (fun q => q = b2 ∨ V8.heap.size ≤ q) V8 w4') := HKS.out.trans ((KeptS.below B4).trans (KS.mono fun q hq => Or.inr (HG.out.own.lt q hq).1)); have Y0 := X0.keptS KS (fun q => by have := (HG.out.own.lt _ q).1; omega); have Y2 := X2.keptS KS (fun q => by have := (HG.out.own.lt _ q).1; omega); have HS4 : Hid (V8.heap.size ≤ w4'.heap.size) := Nat.le_trans HLZ.out (Nat.le_trans B4.size KS.size); clear G2 KS BB XM B4) | fail)
        have G3 : Hid (SentAt V7 V8.heap.size (.slice sa ((othL i k).length + 1) sc) (fun j => if j = (othL i k).length then (none, 0, 0) else Km j) ((othL i (k + 1)).map fT)) := by show SentAt _ _ _ _ _; rw [HO2.out, List.map_append]; have := HG7.out; rw [show ((othL i k).map fT).length = (othL i k).length by simp] at this; exact this
        have NK2 : Hid (NilK (fun j => if j = (othL i k).length then ((none : Option Addr), 0, 0) else Km j) (othL i (k + 1)).length) := fun j hj => by
         rw [HO2.out, List.length_append] at hj
         by_cases e : j = (othL i k).length
         ·simp [e]
         ·simp only [if_neg e]; exact HNK.out j (by simp at hj; omega)
        have e8 : Hid ((othL i k).length + 1 = (othL i (k + 1)).length) := by show _ = _; rw [HO2.out, List.length_append]; rfl
        go_wp2
        go_roundw
        case rel => first | exact ⟨k + 1, (sa, (othL i k).length + 1, sc), (fun j => if j = (othL i k).length then (none, 0, 0) else Km j), by omega, by go_num, HX7.out, G3.out, e8.out, NK2.out, HS7.out, HK7.out⟩ | exact ⟨k + 1, by omega, by go_num, (sa, (othL i k).length + 1, sc), HX7.out, (fun j => if j = (othL i k).length then (none, 0, 0) else Km j), G3.out, e8.out, NK2.out, HS7.out, HK7.out⟩ | exact ⟨k + 1, by omega, by go_num, (sa, (othL i k).length + 1, sc), (fun j => if j = (othL i k).length then (none, 0, 0) else Km j), HX7.out, G3.out, e8.out, NK2.out, HS7.out, HK7.out⟩
        case measure => simp [intOf]; omega
    ·obtain rfl : k = m := by omega
     have X1 := HX1.out.keptS KS (by omega)
     have c1 := X1.cell
     have f1 := X1.froz
     have RQ := HRQ.out.keptS KS (fun q hq hs => hs.elim (fun e => by have := HRQ.out.inB hq; omega) (fun e => by have := HRQ.out.inB hq; omega))
     have B : Below w.heap.size w wr := HB8.out.trans (KS.low _ (fun q hq => hq.elim (fun e => by omega) (fun e => Nat.le_trans HB8.out.size e)) HB8.out.size)
     clear KS HX0 HX1
     have AN : AnsAt wr true z0 wr.heap.size h' s Km qt ((othL i k).map fT) := ans_of RQ G hR8 (Nat.le_trans hR8 LZ) (by omega) rfl
     have hAN : wr.heap.size ≤ wr.heap.size := Nat.le_refl _
     have hol := othL_len i k
     have AZ : ASz h' s Km 1048576 := ⟨HZ, by omega, fun j hj => by rw [NK j (by omega)]; exact Nat.zero_le _⟩
     have EM := HTM.out
     rw [← EM] at AN
     clear G NK hsk RQ hol EM
     go_wp2_with (first | ((with_reducible refine sm 33 X1 0 [.int .i64 0, .int .i64 qt.id, .int .i64 qt.size, .int .i64 qt.view, .bool qt.normal, .int .i64 qt.last, .slice h'.L.1 h'.L.2.1 h'.L.2.2, .int .i64 qt.commit, .slice h'.O.1 h'.O.2.1 h'.O.2.2, .slice h'.A.1 h'.A.2.1 h'.A.2.2, .slice h'.D.1 h'.D.2.1 h'.D.2.2, .slice s.1 s.2.1 s.2.2] ?_); intro V31 S; replace X0 := X0.kp S.kept; replace c0 := X0.cell; replace X1 : Bx V31 b1 [.int .i64 0, .int .i64 qt.id, .int .i64 qt.size, .int .i64 qt.view, .bool qt.normal, .int .i64 qt.last, .slice h'.L.1 h'.L.2.1 h'.L.2.2, .int .i64 qt.commit, .slice h'.O.1 h'.O.2.1 h'.O.2.2, .slice h'.A.1 h'.A.2.1 h'.A.2.2, .slice h'.D.1 h'.D.2.1 h'.D.2.2, .slice s.1 s.2.1 s.2.2] := S.bx; replace c1 := X1.cell; replace f1 := X1.froz; replace X2 := X2.kp S.kept; replace c2 := X2.cell; replace f2 := X2.froz; replace AN := AN.kept S.kept (by omega); replace hAN := Nat.le_trans hAN S.kept.size; replace B := bkp B S.kept; clear S))
     have EQ := HE3.out
     have EM := HE4.out
     subst EQ
     subst EM
     exact bodyPost_ret (v := .agg #[.int .i64 0, .int .i64 qt.id, .int .i64 qt.size, .int .i64 qt.view, .bool qt.normal, .int .i64 qt.last, .slice h'.L.1 h'.L.2.1 h'.L.2.2, .int .i64 qt.commit, .slice h'.O.1 h'.O.2.1 h'.O.2.2, .slice h'.A.1 h'.A.2.1 h'.A.2.2, .slice h'.D.1 h'.D.2.1 h'.D.2.2, .slice s.1 s.2.1 s.2.2]) (by simp [results, Tryz.results18, go_sem, *]) rfl ⟨_, _, h', s, Km, rfl, B9, hAN, AN.ro, AZ, B⟩
end Go.Proofs.YtonclmbihhdkpaaGreat
