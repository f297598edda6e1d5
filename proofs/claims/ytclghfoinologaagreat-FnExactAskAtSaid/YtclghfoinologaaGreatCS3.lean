/- Chapter 11: what a node did, by the model. -/
import Derived.Test.YtclghfoinologaaGreatCS1
import Derived.Test.YtclghfoinologaaGreatQBK
import Derived.Test.YtclghfoinologaaGreatQBD
set_option maxRecDepth 20000
set_option maxHeartbeats 16000000
namespace Go.Proofs.YtclghfoinologaaGreat
open Go.RowKit
def DoM (l0 : Nat) (w w' : World) (e : Ending) (cd : Int) (rs : List Rep) (ms : List Ml) (es : List En) : Prop := ∃ (N M S : Hd) (xs : List Nod) (ys : List Mal), e = .returned (.agg #[.int .i64 cd, .slice N.1 N.2.1 N.2.2, .slice M.1 M.2.1 M.2.2, .slice S.1 S.2.1 S.2.2]) ∧ ClAt w' false l0 w'.heap.size N M S xs ys es ∧ ClSz N M S xs ys 1048576 ∧ xs.map (·.1) = rs ∧ ys.map (·.1) = ms ∧ Below w.heap.size w w'
theorem DoM.nix (l0 : Nat) {w w' : World} (cd : Int) (B : Below w.heap.size w w') : DoM l0 w w' (.returned (.agg #[.int .i64 cd, .slice none 0 0, .slice none 0 0, .slice none 0 0])) cd [] [] [] :=
 ⟨(none, 0, 0), (none, 0, 0), (none, 0, 0), [], [], rfl, ⟨LAt.nil _ _ _ _ _ _ _, LAt.nil _ _ _ _ _ _ _, RowAt.nilR _ _ _ _ _ _ _, fun z => (by cases z)⟩, ⟨Nat.zero_le _, Nat.zero_le _, Nat.zero_le _, fun i a e => by simp at e, fun i a e => by simp at e⟩, rfl, rfl, B⟩
theorem l11Do_is {own : Bool} {lo hi l2 u2 l0 : Nat} (N M Sl : Hd) (xs : List Nod) (ms : List Mal) (es : List En) (i : Nat) (hi' : i < N.2.1) (w : World) (x : ClAt w own lo hi N M Sl xs ms es) (hs : ClSz N M Sl xs ms 1048576) (h5 : N.2.1 ≤ 5) (h120 : M.2.1 ≤ 120) (hd : ∀ (i : Nat) (a : Nod), xs[i]? = some a → a.2.D.2.1 ≤ 1000)
  (c : Int) (q : Rep) (hA : RH) (s : Hd) (Km : Nat → Hd) (zs : List Ml) (y : AnsAt w false l2 u2 hA s Km q zs) (hz : ASz hA s Km 1048576) (h02 : l0 ≤ l2) (h0w : l0 ≤ w.heap.size) (hu2 : u2 ≤ w.heap.size) (hcm : c = 0 → 0 ≤ q.commit ∧ q.commit ≤ q.log.length) (R' : List Rep) (M' : List Ml) (E' : List En) (hR : (if c = 0 then doN (xs.map (·.1)) i q else []) = R') (hM : (if c = 0 then doM (ms.map (·.1)) zs else []) = M') (hE : (if c = 0 then sealE q es else []) = E') :
  Calls Tryz.prog 22 #[.agg #[.slice N.1 N.2.1 N.2.2, .slice M.1 M.2.1 M.2.2, .slice Sl.1 Sl.2.1 Sl.2.2], .int .i64 i, .agg #[.int .i64 c, .int .i64 q.id, .int .i64 q.size, .int .i64 q.view, .bool q.normal, .int .i64 q.last, .slice hA.L.1 hA.L.2.1 hA.L.2.2, .int .i64 q.commit, .slice hA.O.1 hA.O.2.1 hA.O.2.2, .slice hA.A.1 hA.A.2.1 hA.A.2.2, .slice hA.D.1 hA.D.2.1 hA.D.2.2, .slice s.1 s.2.1 s.2.2]] w fun e w' => DoM l0 w w' e c R' M' E' := by
 obtain ⟨id, size, view, normal, last, log, commit, oks, asks, doers⟩ := q
 obtain ⟨L, O, A, D, K⟩ := hA
 have HX : Hid _ := x
 have HS : Hid _ := hs
 have HD : Hid _ := hd
 have HY : Hid _ := y
 have HZ : Hid _ := hz
 have HCM : Hid _ := hcm
 have HR : Hid _ := hR
 have HM : Hid _ := hM
 have HE : Hid _ := hE
 have H5 : Hid _ := h5
 have H120 : Hid _ := h120
 have HI : Hid _ := hi'
 have hzl : zs.length = s.2.1 := y.send.len
 have hmc : ∀ (l : List Mal), l.length = (l.map (·.1)).length := fun l => by rw [List.length_map]
 obtain ⟨i8, hi8, ha8, hb8, hc8⟩ := info_parts Tryz.infMail
 have HI8 : Hid (Tryz.prog.info? 96 = some i8 ∧ i8.zero = some (.agg #[.int .i64 0, .int .i64 0, .int .i64 0, .int .i64 0, .int .i64 0, .bool false, .int .i64 0, .int .i64 0, .int .i64 0, .int .i64 0, .int .i64 0, .int .i64 0, .int .i64 0, .slice none 0 0, .int .i64 0]) ∧ i8.size = 15 ∧ i8.bytes = 136) := ⟨hi8, ha8, hb8, hc8⟩
 clear x hs hd y hz hcm hR hM hE h5 h120 hi8 ha8 hb8 hc8
 go_enter Tryz.func22, Tryz.ntmps22
 by_cases hc0 : c = 0
 rotate_left 1
 ·have hc1 : (c != 0) = true := by simp [hc0]
  go_wp2_with (first | ((have g := ob1);clear g;(with_reducible refine al 38 [.int .i64 0, .slice none 0 0, .slice none 0 0, .slice none 0 0] ?_);intro b2 W2 N2;have ob2 := N2.o B;have o0_b2 := N2.u X0;have o1_b2 := N2.u X1;replace X0 := N2.r X0;replace c0 := X0.cell;replace f0 := X0.froz;replace X1 := N2.r X1;replace c1 := X1.cell;replace f1 := X1.froz;replace B := N2.n B;obtain ⟨X2, c2, f2⟩ := N2.a;clear N2) | ((have g := ob0);clear g;(with_reducible refine box_newX 65 [.int .i64 c, .int .i64 id, .int .i64 size, .int .i64 view, .bool normal, .int .i64 last, .slice L.1 L.2.1 L.2.2, .int .i64 commit, .slice O.1 O.2.1 O.2.2, .slice A.1 A.2.1 A.2.2, .slice D.1 D.2.1 D.2.2, .slice s.1 s.2.1 s.2.2] rfl ?_);intro b1 W1 N1;have ob1 := N1.o B;have o0_b1 := N1.u X0;replace X0 := N1.r X0;replace c0 := X0.cell;replace f0 := X0.froz;replace B := N1.n B;obtain ⟨X1, c1, f1⟩ := N1.a;clear N1) | ((with_reducible refine box_newX 36 [.slice N.1 N.2.1 N.2.2, .slice M.1 M.2.1 M.2.2, .slice Sl.1 Sl.2.1 Sl.2.2] rfl ?_);intro b0 W0 N0;have ob0 := N0.ge;have B := N0.below;obtain ⟨X0, c0, f0⟩ := N0.a;clear N0) | fail)
  refine (l11Bad_is c _).mono ?_;rintro e w1 ⟨rfl, BB⟩;replace X0 := X0.below BB;replace c0 := X0.cell;replace f0 := X0.froz;replace X1 := X1.below BB;replace c1 := X1.cell;replace f1 := X1.froz;replace X2 := X2.below BB;replace c2 := X2.cell;replace f2 := X2.froz;replace B := below_next B BB;clear BB
  go_wp2_with (first | ((with_reducible refine sm 38 X2 0 [.int .i64 c, .slice none 0 0, .slice none 0 0, .slice none 0 0] ?_);intro V1 S;replace X0 := X0.kp S.kept;replace c0 := X0.cell;replace f0 := X0.froz;replace X1 := X1.kp S.kept;replace c1 := X1.cell;replace f1 := X1.froz;replace X2 : Bx V1 b2 [.int .i64 c, .slice none 0 0, .slice none 0 0, .slice none 0 0] := S.bx;replace c2 := X2.cell;replace f2 := X2.froz;replace B := bkp B S.kept;clear S))
  refine bodyPost_ret (v := .agg #[.int .i64 c, .slice none 0 0, .slice none 0 0, .slice none 0 0]) (by simp [results, Tryz.results22, go_sem, *]) rfl ?_
  rw [← HR.out, ← HM.out, ← HE.out, if_neg hc0, if_neg hc0, if_neg hc0];exact DoM.nix l0 c B
 subst hc0
 obtain ⟨cm, hcm⟩ : ∃ cm : Nat, commit = (cm : Int) := ⟨commit.toNat, by have := (HCM.out rfl).1;simp only at this;omega⟩
 subst hcm
 go_wp2_with (first | ((have g := ob1);clear g;(with_reducible refine al 38 [.int .i64 0, .slice none 0 0, .slice none 0 0, .slice none 0 0] ?_);intro b2 W2 N2;have ob2 := N2.o B;have o0_b2 := N2.u X0;have o1_b2 := N2.u X1;replace X0 := N2.r X0;replace c0 := X0.cell;replace f0 := X0.froz;replace X1 := N2.r X1;replace c1 := X1.cell;replace f1 := X1.froz;replace B := N2.n B;obtain ⟨X2, c2, f2⟩ := N2.a;clear N2) | ((have g := ob0);clear g;(with_reducible refine box_newX 65 [.int .i64 0, .int .i64 id, .int .i64 size, .int .i64 view, .bool normal, .int .i64 last, .slice L.1 L.2.1 L.2.2, .int .i64 (cm : Int), .slice O.1 O.2.1 O.2.2, .slice A.1 A.2.1 A.2.2, .slice D.1 D.2.1 D.2.2, .slice s.1 s.2.1 s.2.2] rfl ?_);intro b1 W1 N1;have ob1 := N1.o B;have o0_b1 := N1.u X0;replace X0 := N1.r X0;replace c0 := X0.cell;replace f0 := X0.froz;replace B := N1.n B;obtain ⟨X1, c1, f1⟩ := N1.a;clear N1) | ((with_reducible refine box_newX 36 [.slice N.1 N.2.1 N.2.2, .slice M.1 M.2.1 M.2.2, .slice Sl.1 Sl.2.1 Sl.2.2] rfl ?_);intro b0 W0 N0;have ob0 := N0.ge;have B := N0.below;obtain ⟨X0, c0, f0⟩ := N0.a;clear N0) | fail)
 refine (l11Copy_is N M Sl xs ms es _ (HX.out.below B) HS.out H5.out H120.out HD.out).mono ?_;rintro e w1 ⟨N', M', S', xa, ya, b, rfl, L0, e1, e2, BB⟩;obtain ⟨base, hbase⟩ : ∃ z, z = W2.heap.size := ⟨_, rfl⟩;rw [← hbase] at L0
 have lb0 : b0 < base := by rw [hbase];exact X0.lt
 have lb1 : b1 < base := by rw [hbase];exact X1.lt
 have lb2 : b2 < base := by rw [hbase];exact X2.lt
 have lwb : w.heap.size ≤ base := by rw [hbase];exact B.size
 have hb1 : base ≤ w1.heap.size := by rw [hbase];exact BB.size
 clear hbase;replace X0 := X0.below BB;replace c0 := X0.cell;replace f0 := X0.froz;replace X1 := X1.below BB;replace c1 := X1.cell;replace f1 := X1.froz;replace X2 := X2.below BB;replace c2 := X2.cell;replace f2 := X2.froz;replace B := below_next B BB;clear BB
 have e1' := congrArg List.length e1
 have e2' := congrArg List.length e2
 rw [List.length_map, List.length_map, LAt.len L0.nodes, LAt.len HX.out.nodes] at e1';rw [List.length_map, List.length_map, L0.mails.gr.len, LAt.len HX.out.mails] at e2'
 obtain ⟨_, _, p, o, ex2, eN, hbp, _, Xn, _, -⟩ := LAt.node L0.nodes (by rw [e1'];exact HI.out)
 have hp1 : p < w1.heap.size := Xn.lt
 obtain ⟨N1, Nn, Nc⟩ := N'
 simp only at eN e1'
 subst eN
 have hin : i < Nn := by rw [e1'];exact HI.out
 have hik : (i : Int) < (Nn : Int) := by omega
 have hM120 : M'.2.1 ≤ 120 := by rw [e2'];exact H120.out
 have HL : Hid _ := L0
 have HE1 : Hid _ := e1
 have HE2 : Hid _ := e2
 have HM1 : Hid _ := hM120
 have hNn : Nn ≤ 1048576 := L0.sz.n
 clear L0 e1 e2 e1' e2' ex2 Xn hM120
 have K1 : Below w1.heap.size w1 w1 := Below.refl _ _
 go_upto_region 4 with (first | ((with_reducible refine sm 36 X3 0 [.slice (some ⟨p, o, none⟩) Nn Nc, .slice M'.1 M'.2.1 M'.2.2, .slice S'.1 S'.2.1 S'.2.2] ?_);intro V1 S;replace X0 := X0.kp S.kept;replace c0 := X0.cell;replace f0 := X0.froz;replace X1 := X1.kp S.kept;replace c1 := X1.cell;replace f1 := X1.froz;replace X2 := X2.kp S.kept;replace c2 := X2.cell;replace f2 := X2.froz;replace X3 : Bx V1 b3 [.slice (some ⟨p, o, none⟩) Nn Nc, .slice M'.1 M'.2.1 M'.2.2, .slice S'.1 S'.2.1 S'.2.2] := S.bx;replace c3 := X3.cell;replace f3 := X3.froz;replace B := bkp B S.kept;replace K1 := K1.trans (S.kept.below _ (by omega) K1.size);clear S) | ((have g := ob2);clear g;(with_reducible refine al 36 [.slice none 0 0, .slice none 0 0, .slice none 0 0] ?_);intro b3 W3 N3;have ob3 := N3.o B;have o0_b3 := N3.u X0;have o1_b3 := N3.u X1;have o2_b3 := N3.u X2;have K1_b3 := Nat.le_trans K1.size N3.ge;replace X0 := N3.r X0;replace c0 := X0.cell;replace f0 := X0.froz;replace X1 := N3.r X1;replace c1 := X1.cell;replace f1 := X1.froz;replace X2 := N3.r X2;replace c2 := X2.cell;replace f2 := X2.froz;replace B := N3.n B;replace K1 := below_next K1 N3.below;obtain ⟨X3, c3, f3⟩ := N3.a;clear N3) | fail)
 have L1 := HL.out.rebox K1 X3 K1_b3 hb1
 have HL1 : Hid _ := L1
 obtain ⟨_, _, _, _, _, en, _, _, Xn, _, fz⟩ := LAt.node L1.nodes hin
 simp only [Option.some.injEq, Addr.mk.injEq, and_true] at en
 obtain ⟨rfl, rfl⟩ := en
 have TH : V1.there p (o + i * 10) 10 := there_of rfl Xn.cell.2 (fz rfl)
 have YR : RepAt V1 false l2 u2 (⟨L, O, A, D, K⟩ : RH) (⟨id, size, view, normal, last, log, (cm : Int), oks, asks, doers⟩ : Rep) := HY.out.rep.below B
 have LM := L1.setM (lo := l0) (N' := (some ⟨p, o, none⟩, Nn, Nc)) rfl hin YR h02 (Nat.le_trans hu2 lwb) (Nat.le_trans hb1 K1.size) (Nat.le_trans h0w lwb) HZ.out.rep
 have GAP : Hid (∀ k, inL nodeK (some (⟨p, o, none⟩ : Addr)) Nn (xa.set i ((⟨id, size, view, normal, last, log, (cm : Int), oks, asks, doers⟩ : Rep), (⟨L, O, A, D, K⟩ : RH))) k → k < w.heap.size ∨ base ≤ k) := L1.gap hin YR hu2
 have HLM : Hid _ := LM
 have KP : Kept p (p + 1) V1 (V1.setCells p (o + i * 10) [.int .i64 id, .int .i64 size, .int .i64 view, .bool normal, .int .i64 last, .slice L.1 L.2.1 L.2.2, .int .i64 (cm : Int), .slice O.1 O.2.1 O.2.2, .slice A.1 A.2.1 A.2.2, .slice D.1 D.2.1 D.2.2]) := kept_el _ _ _
 clear L1 Xn fz YR LM
 go_upto_region 5 with (first | ((with_reducible refine store_elX 63 TH [.int .i64 id, .int .i64 size, .int .i64 view, .bool normal, .int .i64 last, .slice L.1 L.2.1 L.2.2, .int .i64 (cm : Int), .slice O.1 O.2.1 O.2.2, .slice A.1 A.2.1 A.2.2, .slice D.1 D.2.1 D.2.2] (by simp) (by kernel_rfl) (by simp [Value.oneCell']) rfl rfl ?_);intro W5 hW5;rw [← hW5] at KP) | fail)
 have LM5 : LiveM W5 96 l0 base b3 (some ⟨p, o, none⟩, Nn, Nc) M' S' (xa.set i ((⟨id, size, view, normal, last, log, (cm : Int), oks, asks, doers⟩ : Rep), (⟨L, O, A, D, K⟩ : RH))) ya es := by rw [hW5];exact HLM.out
 replace X0 := X0.kp KP;replace X1 := X1.kp KP;replace X2 := X2.kp KP;replace X3 := X3.kp KP;replace B := bkp B KP
 have hb5 : base ≤ W5.heap.size := Nat.le_trans (Nat.le_trans hb1 K1.size) KP.size
 have HLM5 : Hid _ := LM5
 have HX0 : Hid _ := X0
 have HX1 : Hid _ := X1
 have HX2 : Hid _ := X2
 have HX3 : Hid _ := X3
 have HB : Hid _ := B
 clear LM5 HLM KP hW5 TH K1 B HL HL1 X0 c0 f0 X1 c1 f1 X2 c2 f2 X3 c3 f3;obtain ⟨nd, hnd⟩ : ∃ nd, xa.set i ((⟨id, size, view, normal, last, log, (cm : Int), oks, asks, doers⟩ : Rep), (⟨L, O, A, D, K⟩ : RH)) = nd := ⟨_, rfl⟩;rw [hnd] at HLM5 GAP
 have HND : Hid _ := hnd
 clear hnd;go_wp2
 go_loopw [8] (fun iv wr => ∃ (k : Nat) (M2 : Hd) (yk : List Mal), k ≤ s.2.1 ∧ iv = .int .i64 k ∧ Bx wr b0 [.slice N.1 N.2.1 N.2.2, .slice M.1 M.2.1 M.2.2, .slice Sl.1 Sl.2.1 Sl.2.2] ∧ Bx wr b1 [.int .i64 0, .int .i64 id, .int .i64 size, .int .i64 view, .bool normal, .int .i64 last, .slice L.1 L.2.1 L.2.2, .int .i64 (cm : Int), .slice O.1 O.2.1 O.2.2, .slice A.1 A.2.1 A.2.2, .slice D.1 D.2.1 D.2.2, .slice s.1 s.2.1 s.2.2] ∧ Bx wr b2 [.int .i64 0, .slice none 0 0, .slice none 0 0, .slice none 0 0] ∧ Bx wr b3 [.slice (some ⟨p, o, none⟩) Nn Nc, .slice M2.1 M2.2.1 M2.2.2, .slice S'.1 S'.2.1 S'.2.2] ∧ LiveM wr 96 l0 base b3 (some ⟨p, o, none⟩, Nn, Nc) M2 S' nd yk es ∧ yk.map (·.1) = ya.map (·.1) ++ zs.take k ∧ yk.length ≤ 120 ∧ base ≤ wr.heap.size ∧ Below w.heap.size w wr) (fun iv _ => s.2.1 - (intOf iv).toNat)
 case atStart => exact ⟨0, M', ya, Nat.zero_le _, rfl, HX0.out, HX1.out, HX2.out, HX3.out, HLM5.out, by simp, by rw [HLM5.out.mails.gr.len];exact HM1.out, hb5, HB.out⟩
 case round =>
  obtain ⟨k, M2, yk, hk, rfl, X0, X1, X2, X3, LM, ey, hy120, lw1, B⟩ := hrel
  clear HX0 HX1 HX2 HX3 HB HLM5 hb5;have c0 := X0.cell;have c1 := X1.cell;have c2 := X2.cell;have c3 := X3.cell;have f0 := X0.froz;have f1 := X1.froz;have f2 := X2.froz;have f3 := X3.froz
  have ob3 : base ≤ b3 := LM.bb
  have hyl : yk.length = M2.2.1 := LM.mails.gr.len
  have HL : Hid _ := LM
  have HYK : Hid _ := ey
  clear LM ey
  by_cases hlt : k < s.2.1
  ·have hlk : (k : Int) < (s.2.1 : Int) := by omega
   by_cases hlt2 : M2.2.1 < 120
   ·have hl3 : (M2.2.1 : Int) < 120 := by omega
    have XM0 := LAt.mail HY.out.send.lat hlt
    obtain ⟨m, h, b, off, ex, en, _, _, XM0, y0, _⟩ := XM0
    have hbw : b < w.heap.size := XM0.lt
    have hmz := mals_at ex
    obtain ⟨hkz, hme⟩ := hmz
    simp only [Prod.mk.injEq] at hme
    have hmk : h.2.1 ≤ 1048576 := by rw [hme.2];exact HZ.out.K k hlt
    have HEM : Hid (zs[k]? = some m) := by (show _ = _;rw [hme.1, List.getD_eq_getElem?_getD, List.getElem?_eq_getElem hkz];rfl)
    clear ex hme
    obtain ⟨s1, sn, sc⟩ := s
    simp only at en
    subst en;have XM := XM0.below B;have y := y0.below B;have cM := XM.cell;clear XM0 y0
    simp only at hlk hlt hk X1 c1
    have hsn : sn ≤ 1048576 := HZ.out.n
    go_wp2_with fail
    have DQ : Below wr.heap.size wr wr.drew := (Below.refl _ _).drew
    replace X0 := X0.below DQ;replace c0 := X0.cell;replace f0 := X0.froz;replace X1 := X1.below DQ;replace c1 := X1.cell;replace f1 := X1.froz;replace X2 := X2.below DQ;replace c2 := X2.cell;replace f2 := X2.froz;replace X3 := X3.below DQ;replace c3 := X3.cell;replace f3 := X3.froz;replace B := below_next B DQ;clear DQ;replace XM := XM.below (Below.drew (Below.refl _ _));replace cM := XM.cell;replace y := y.below (Below.drew (Below.refl _ _))
    have HLd : Hid _ := HL.out.below (Below.drew (Below.refl _ _))
    have lbD : base ≤ wr.drew.heap.size := lw1
    refine wp_region_held_drew (S := (fun w' => (∀ k_2 : Nat, w'.cell? ⟨b1, k_2, none⟩ = [.int .i64 0, .int .i64 id, .int .i64 size, .int .i64 view, .bool normal, .int .i64 last, .slice L.1 L.2.1 L.2.2, .int .i64 (cm : Int), .slice O.1 O.2.1 O.2.2, .slice A.1 A.2.1 A.2.2, .slice D.1 D.2.1 D.2.2, .slice (some ⟨b, off, none⟩) sn sc][k_2]?) ∧ (w'.cell? ⟨b, off + k * 15, none⟩ = [.int .i64 m.kind, .int .i64 m.fr, .int .i64 m.to, .int .i64 m.view, .int .i64 m.at_, .bool m.has, .int .i64 m.en.1, .int .i64 m.en.2.1, .int .i64 m.en.2.2.1, .int .i64 m.en.2.2.2.1, .int .i64 m.en.2.2.2.2.1, .int .i64 m.en.2.2.2.2.2, .int .i64 m.last, .slice h.1 h.2.1 h.2.2, .int .i64 m.commit][0]? ∧ ∀ k_1 : Nat, k_1 < 15 → w'.cell? ⟨b, off + k * 15 + k_1, none⟩ = [.int .i64 m.kind, .int .i64 m.fr, .int .i64 m.to, .int .i64 m.view, .int .i64 m.at_, .bool m.has, .int .i64 m.en.1, .int .i64 m.en.2.1, .int .i64 m.en.2.2.1, .int .i64 m.en.2.2.2.1, .int .i64 m.en.2.2.2.2.1, .int .i64 m.en.2.2.2.2.2, .int .i64 m.last, .slice h.1 h.2.1 h.2.2, .int .i64 m.commit][k_1]?))) (by kernel_rfl) ⟨c1, cM⟩ (fun hZq => ?_)
    refine tk 0 hZq ?_;refine tk 2 hZq ?_;refine tk 3 hZq ?_;refine tk 4 hZq ?_;refine tk 5 hZq ?_;refine tk 6 hZq ?_
    refine wpAnyH_ready (rs := [1, 7]) (by kernel_rfl) (by simp) ?_
    refine (AllReadyH.cons rfl (fun KK hKK => ?_) (AllReadyH.cons rfl (fun KK hKK => ?_) AllReadyH.nil))
    ·rw [if_pos (by simp [Region.wanted])]
     unfold Oper.wp execOp
     go_simp
     clear hZq
     refine hKK _ _ ⟨c1, cM⟩ (fun hZq => ?_)
     clear hKK KK
     refine rd1 7 (fun KK hKK => ?_)
     go_simp
     go_at_call 49
     refine (l11Mail_is m h _ y hmk).mono ?_;rintro e v1 ⟨z1, u1, h', rfl, Gz1, hu1, R1, hn1, BB⟩
     have HB1 : Hid (Below wr.drew.heap.size wr.drew v1) := BB
     replace X0 := X0.below BB;replace c0 := X0.cell;replace f0 := X0.froz;replace X1 := X1.below BB;replace c1 := X1.cell;replace f1 := X1.froz;replace X2 := X2.below BB;replace c2 := X2.cell;replace f2 := X2.froz;replace X3 := X3.below BB;replace c3 := X3.cell;replace f3 := X3.froz;replace B := below_next B BB;replace XM := XM.below BB;replace cM := XM.cell
     have HR1 : Hid _ := R1
     have HN1 : Hid _ := hn1
     clear BB R1 hn1 y;clear hZq
     refine hKK _ _ ⟨c1, cM⟩ (fun hZq => ?_)
     clear hKK KK
     refine rd1 8 (fun KK hKK => ?_)
     refine step_litX 33 1 _ [.int .i64 m.kind, .int .i64 m.fr, .int .i64 m.to, .int .i64 m.view, .int .i64 m.at_, .bool m.has, .int .i64 m.en.1, .int .i64 m.en.2.1, .int .i64 m.en.2.2.1, .int .i64 m.en.2.2.2.1, .int .i64 m.en.2.2.2.2.1, .int .i64 m.en.2.2.2.2.2, .int .i64 m.last, .slice h'.1 h'.2.1 h'.2.2, .int .i64 m.commit] 96 (fun _ => by kernel_rfl) ?_
     intro bl Wl Nl;have bB := Nl.below;have Xl := Nl.bx;clear Nl
     obtain ⟨M3, w6, hr, BL, hL, X9⟩ := LiveM.one (P := Tryz.prog) HLd.out (below_next HB1.out bB) lbD 33 i8 _ 136 Tryz.underlying33 HI8.out.1 HI8.out.2.1 HI8.out.2.2.1 HI8.out.2.2.2 rfl (by omega) (m := m) (h := h') Xl (HR1.out.below bB) Gz1 (Nat.le_trans hu1 bB.size) hy120 (by have := HN1.out;omega)
     replace X0 := X0.below bB;replace c0 := X0.cell;replace f0 := X0.froz;replace X1 := X1.below bB;replace c1 := X1.cell;replace f1 := X1.froz;replace X2 := X2.below bB;replace c2 := X2.cell;replace f2 := X2.froz;replace X3 := X3.below bB;replace c3 := X3.cell;replace f3 := X3.froz;replace B := below_next B bB;replace XM := XM.below bB;replace cM := XM.cell
     have HL3 : Hid _ := hL
     have HX9 : Hid _ := X9
     clear bB Xl HR1 HB1 hL X9;clear hZq
     refine hKK _ _ ⟨c1, cM⟩ (fun hZq => ?_)
     clear hKK KK
     refine rd1 9 (fun KK hKK => ?_)
     refine step_append_run rfl _ _ _ _ rfl _ _ rfl rfl _ _ (hr _) ?_;clear hr
     replace X0 := X0.low BL (by omega)
     replace c0 := X0.cell;replace f0 := X0.froz
     replace X1 := X1.low BL (by omega)
     replace c1 := X1.cell;replace f1 := X1.froz
     replace X2 := X2.low BL (by omega)
     replace c2 := X2.cell;replace f2 := X2.froz;replace X3 := HX9.out;replace c3 := X3.cell;replace f3 := X3.froz
     replace XM := XM.low BL (by omega)
     replace cM := XM.cell
     replace B := B.trans (BL.mono (by omega))
     clear BL;clear hZq
     refine hKK _ _ ⟨c1, cM⟩ (fun hZq => ?_)
     clear hKK KK;refine tk 10 hZq ?_
     refine rd1 11 (fun KK hKK => ?_)
     refine step_oneX 33 X3 1 (.slice M3.1 M3.2.1 M3.2.2) (by simp) (by kernel_rfl) rfl rfl rfl ?_
     intro V9 S
     have HL4 : Hid _ := HL3.out V9 S
     have HY4 : Hid ((yk ++ [(m, h')]).map (·.1) = ya.map (·.1) ++ zs.take (k + 1)) := by (show _ = _;rw [List.map_append, HYK.out, List.take_add_one, HEM.out, List.append_assoc];rfl)
     have B7 := S.kept.below w.heap.size (by omega) B.size
     replace XM := XM.low B7 hbw;replace cM := XM.cell;clear B7;replace X0 := X0.kp S.kept;replace c0 := X0.cell;replace f0 := X0.froz;replace X1 := X1.kp S.kept;replace c1 := X1.cell;replace f1 := X1.froz;replace X2 := X2.kp S.kept;replace c2 := X2.cell;replace f2 := X2.froz
     replace X3 : Bx V9 b3 [.slice (some ⟨p, o, none⟩) Nn Nc, .slice M3.1 M3.2.1 M3.2.2, .slice S'.1 S'.2.1 S'.2.2] := S.bx
     replace c3 := X3.cell;replace f3 := X3.froz;replace B := bkp B S.kept;clear S;clear hZq
     refine hKK _ _ ⟨c1, cM⟩ (fun hZq => ?_)
     clear hKK KK
     refine wpAnyH_done (by kernel_rfl) ?_ _
     have H0 : Hid _ := X0
     have H1 : Hid _ := X1
     have H2 : Hid _ := X2
     have H3 : Hid _ := X3
     have HB2 : Hid _ := B
     have hl4 : base ≤ V9.heap.size := by (have := H3.out.lt;omega)
     have hl5 : (yk ++ [(m, h')]).length ≤ 120 := by (rw [List.length_append];show yk.length + 1 ≤ 120;omega)
     clear B HEM XM cM X0 c0 f0 X1 c1 f1 X2 c2 f2 X3 c3 f3;go_wp2
     go_roundw
     case rel => exact ⟨k + 1, M3, _, by show k + 1 ≤ sn;omega, by go_num, H0.out, H1.out, H2.out, H3.out, HL4.out, HY4.out, hl5, hl4, HB2.out⟩
     case measure => simp [intOf];omega
    ·go_simp
     go_at_call 49
     refine (l11Mail_is m h _ y hmk).mono ?_;rintro e v1 ⟨z1, u1, h', rfl, Gz1, hu1, R1, hn1, BB⟩
     have HB1 : Hid (Below wr.drew.heap.size wr.drew v1) := BB
     replace X0 := X0.below BB;replace c0 := X0.cell;replace f0 := X0.froz;replace X1 := X1.below BB;replace c1 := X1.cell;replace f1 := X1.froz;replace X2 := X2.below BB;replace c2 := X2.cell;replace f2 := X2.froz;replace X3 := X3.below BB;replace c3 := X3.cell;replace f3 := X3.froz;replace B := below_next B BB;replace XM := XM.below BB;replace cM := XM.cell
     have HR1 : Hid _ := R1
     have HN1 : Hid _ := hn1
     clear BB R1 hn1 y;clear hZq
     refine hKK _ _ ⟨c1, cM⟩ (fun hZq => ?_)
     clear hKK KK
     refine wpAnyH_ready (rs := [1, 8]) (by kernel_rfl) (by simp) ?_
     refine (AllReadyH.cons rfl (fun KK hKK => ?_) (AllReadyH.cons rfl (fun KK hKK => ?_) AllReadyH.nil))
     ·rw [if_pos (by simp [Region.wanted])]
      unfold Oper.wp execOp
      go_simp
      clear hZq
      refine hKK _ _ ⟨c1, cM⟩ (fun hZq => ?_)
      clear hKK KK
      refine rd1 8 (fun KK hKK => ?_)
      refine step_litX 33 1 _ [.int .i64 m.kind, .int .i64 m.fr, .int .i64 m.to, .int .i64 m.view, .int .i64 m.at_, .bool m.has, .int .i64 m.en.1, .int .i64 m.en.2.1, .int .i64 m.en.2.2.1, .int .i64 m.en.2.2.2.1, .int .i64 m.en.2.2.2.2.1, .int .i64 m.en.2.2.2.2.2, .int .i64 m.last, .slice h'.1 h'.2.1 h'.2.2, .int .i64 m.commit] 96 (fun _ => by kernel_rfl) ?_
      intro bl Wl Nl;have bB := Nl.below;have Xl := Nl.bx;clear Nl
      obtain ⟨M3, w6, hr, BL, hL, X9⟩ := LiveM.one (P := Tryz.prog) HLd.out (below_next HB1.out bB) lbD 33 i8 _ 136 Tryz.underlying33 HI8.out.1 HI8.out.2.1 HI8.out.2.2.1 HI8.out.2.2.2 rfl (by omega) (m := m) (h := h') Xl (HR1.out.below bB) Gz1 (Nat.le_trans hu1 bB.size) hy120 (by have := HN1.out;omega)
      replace X0 := X0.below bB;replace c0 := X0.cell;replace f0 := X0.froz;replace X1 := X1.below bB;replace c1 := X1.cell;replace f1 := X1.froz;replace X2 := X2.below bB;replace c2 := X2.cell;replace f2 := X2.froz;replace X3 := X3.below bB;replace c3 := X3.cell;replace f3 := X3.froz;replace B := below_next B bB;replace XM := XM.below bB;replace cM := XM.cell
      have HL3 : Hid _ := hL
      have HX9 : Hid _ := X9
      clear bB Xl HR1 HB1 hL X9;clear hZq
      refine hKK _ _ ⟨c1, cM⟩ (fun hZq => ?_)
      clear hKK KK
      refine rd1 9 (fun KK hKK => ?_)
      refine step_append_run rfl _ _ _ _ rfl _ _ rfl rfl _ _ (hr _) ?_;clear hr
      replace X0 := X0.low BL (by omega)
      replace c0 := X0.cell;replace f0 := X0.froz
      replace X1 := X1.low BL (by omega)
      replace c1 := X1.cell;replace f1 := X1.froz
      replace X2 := X2.low BL (by omega)
      replace c2 := X2.cell;replace f2 := X2.froz;replace X3 := HX9.out;replace c3 := X3.cell;replace f3 := X3.froz
      replace XM := XM.low BL (by omega)
      replace cM := XM.cell
      replace B := B.trans (BL.mono (by omega))
      clear BL;clear hZq
      refine hKK _ _ ⟨c1, cM⟩ (fun hZq => ?_)
      clear hKK KK;refine tk 10 hZq ?_
      refine rd1 11 (fun KK hKK => ?_)
      refine step_oneX 33 X3 1 (.slice M3.1 M3.2.1 M3.2.2) (by simp) (by kernel_rfl) rfl rfl rfl ?_
      intro V9 S
      have HL4 : Hid _ := HL3.out V9 S
      have HY4 : Hid ((yk ++ [(m, h')]).map (·.1) = ya.map (·.1) ++ zs.take (k + 1)) := by (show _ = _;rw [List.map_append, HYK.out, List.take_add_one, HEM.out, List.append_assoc];rfl)
      have B7 := S.kept.below w.heap.size (by omega) B.size
      replace XM := XM.low B7 hbw;replace cM := XM.cell;clear B7;replace X0 := X0.kp S.kept;replace c0 := X0.cell;replace f0 := X0.froz;replace X1 := X1.kp S.kept;replace c1 := X1.cell;replace f1 := X1.froz;replace X2 := X2.kp S.kept;replace c2 := X2.cell;replace f2 := X2.froz
      replace X3 : Bx V9 b3 [.slice (some ⟨p, o, none⟩) Nn Nc, .slice M3.1 M3.2.1 M3.2.2, .slice S'.1 S'.2.1 S'.2.2] := S.bx
      replace c3 := X3.cell;replace f3 := X3.froz;replace B := bkp B S.kept;clear S;clear hZq
      refine hKK _ _ ⟨c1, cM⟩ (fun hZq => ?_)
      clear hKK KK
      refine wpAnyH_done (by kernel_rfl) ?_ _
      have H0 : Hid _ := X0
      have H1 : Hid _ := X1
      have H2 : Hid _ := X2
      have H3 : Hid _ := X3
      have HB2 : Hid _ := B
      have hl4 : base ≤ V9.heap.size := by (have := H3.out.lt;omega)
      have hl5 : (yk ++ [(m, h')]).length ≤ 120 := by (rw [List.length_append];show yk.length + 1 ≤ 120;omega)
      clear B HEM XM cM X0 c0 f0 X1 c1 f1 X2 c2 f2 X3 c3 f3;go_wp2
      go_roundw
      case rel => exact ⟨k + 1, M3, _, by show k + 1 ≤ sn;omega, by go_num, H0.out, H1.out, H2.out, H3.out, HL4.out, HY4.out, hl5, hl4, HB2.out⟩
      case measure => simp [intOf];omega
     ·refine step_litX 33 1 _ [.int .i64 m.kind, .int .i64 m.fr, .int .i64 m.to, .int .i64 m.view, .int .i64 m.at_, .bool m.has, .int .i64 m.en.1, .int .i64 m.en.2.1, .int .i64 m.en.2.2.1, .int .i64 m.en.2.2.2.1, .int .i64 m.en.2.2.2.2.1, .int .i64 m.en.2.2.2.2.2, .int .i64 m.last, .slice h'.1 h'.2.1 h'.2.2, .int .i64 m.commit] 96 (fun _ => by kernel_rfl) ?_
      intro bl Wl Nl;have bB := Nl.below;have Xl := Nl.bx;clear Nl
      obtain ⟨M3, w6, hr, BL, hL, X9⟩ := LiveM.one (P := Tryz.prog) HLd.out (below_next HB1.out bB) lbD 33 i8 _ 136 Tryz.underlying33 HI8.out.1 HI8.out.2.1 HI8.out.2.2.1 HI8.out.2.2.2 rfl (by omega) (m := m) (h := h') Xl (HR1.out.below bB) Gz1 (Nat.le_trans hu1 bB.size) hy120 (by have := HN1.out;omega)
      replace X0 := X0.below bB;replace c0 := X0.cell;replace f0 := X0.froz;replace X1 := X1.below bB;replace c1 := X1.cell;replace f1 := X1.froz;replace X2 := X2.below bB;replace c2 := X2.cell;replace f2 := X2.froz;replace X3 := X3.below bB;replace c3 := X3.cell;replace f3 := X3.froz;replace B := below_next B bB;replace XM := XM.below bB;replace cM := XM.cell
      have HL3 : Hid _ := hL
      have HX9 : Hid _ := X9
      clear bB Xl HR1 HB1 hL X9;clear hZq
      refine hKK _ _ ⟨c1, cM⟩ (fun hZq => ?_)
      clear hKK KK
      refine rd1 1 (fun KK hKK => ?_)
      rw [if_pos (by simp [Region.wanted])]
      unfold Oper.wp execOp
      go_simp
      clear hZq
      refine hKK _ _ ⟨c1, cM⟩ (fun hZq => ?_)
      clear hKK KK
      refine rd1 9 (fun KK hKK => ?_)
      refine step_append_run rfl _ _ _ _ rfl _ _ rfl rfl _ _ (hr _) ?_;clear hr
      replace X0 := X0.low BL (by omega)
      replace c0 := X0.cell;replace f0 := X0.froz
      replace X1 := X1.low BL (by omega)
      replace c1 := X1.cell;replace f1 := X1.froz
      replace X2 := X2.low BL (by omega)
      replace c2 := X2.cell;replace f2 := X2.froz;replace X3 := HX9.out;replace c3 := X3.cell;replace f3 := X3.froz
      replace XM := XM.low BL (by omega)
      replace cM := XM.cell
      replace B := B.trans (BL.mono (by omega))
      clear BL;clear hZq
      refine hKK _ _ ⟨c1, cM⟩ (fun hZq => ?_)
      clear hKK KK;refine tk 10 hZq ?_
      refine rd1 11 (fun KK hKK => ?_)
      refine step_oneX 33 X3 1 (.slice M3.1 M3.2.1 M3.2.2) (by simp) (by kernel_rfl) rfl rfl rfl ?_
      intro V9 S
      have HL4 : Hid _ := HL3.out V9 S
      have HY4 : Hid ((yk ++ [(m, h')]).map (·.1) = ya.map (·.1) ++ zs.take (k + 1)) := by (show _ = _;rw [List.map_append, HYK.out, List.take_add_one, HEM.out, List.append_assoc];rfl)
      have B7 := S.kept.below w.heap.size (by omega) B.size
      replace XM := XM.low B7 hbw;replace cM := XM.cell;clear B7;replace X0 := X0.kp S.kept;replace c0 := X0.cell;replace f0 := X0.froz;replace X1 := X1.kp S.kept;replace c1 := X1.cell;replace f1 := X1.froz;replace X2 := X2.kp S.kept;replace c2 := X2.cell;replace f2 := X2.froz
      replace X3 : Bx V9 b3 [.slice (some ⟨p, o, none⟩) Nn Nc, .slice M3.1 M3.2.1 M3.2.2, .slice S'.1 S'.2.1 S'.2.2] := S.bx
      replace c3 := X3.cell;replace f3 := X3.froz;replace B := bkp B S.kept;clear S;clear hZq
      refine hKK _ _ ⟨c1, cM⟩ (fun hZq => ?_)
      clear hKK KK
      refine wpAnyH_done (by kernel_rfl) ?_ _
      have H0 : Hid _ := X0
      have H1 : Hid _ := X1
      have H2 : Hid _ := X2
      have H3 : Hid _ := X3
      have HB2 : Hid _ := B
      have hl4 : base ≤ V9.heap.size := by (have := H3.out.lt;omega)
      have hl5 : (yk ++ [(m, h')]).length ≤ 120 := by (rw [List.length_append];show yk.length + 1 ≤ 120;omega)
      clear B HEM XM cM X0 c0 f0 X1 c1 f1 X2 c2 f2 X3 c3 f3;go_wp2
      go_roundw
      case rel => exact ⟨k + 1, M3, _, by show k + 1 ≤ sn;omega, by go_num, H0.out, H1.out, H2.out, H3.out, HL4.out, HY4.out, hl5, hl4, HB2.out⟩
      case measure => simp [intOf];omega
   ·have hl3 : ¬ (M2.2.1 : Int) < 120 := by omega
    have hyE := doM_end hzl hk HYK.out (by rw [List.length_map];exact hy120) (Or.inr (by rw [List.length_map];omega))
    have HYE : Hid _ := hyE
    clear hyE
    have hel : es.length = S'.2.1 := HL.out.slog.nSixs
    by_cases hq : S'.2.1 < cm
    rotate_left 1
    ·have hq2 : ¬ (S'.2.1 : Int) < (cm : Int) := by omega
     go_wp2_with (first | ((with_reducible refine sm 38 X2 0 [.int .i64 0, .slice (some ⟨p, o, none⟩) Nn Nc, .slice M2.1 M2.2.1 M2.2.2, .slice S'.1 S'.2.1 S'.2.2] ?_);intro V2 S;replace X0 := X0.kp S.kept;replace c0 := X0.cell;replace f0 := X0.froz;replace X1 := X1.kp S.kept;replace c1 := X1.cell;replace f1 := X1.froz;replace X2 : Bx V2 b2 [.int .i64 0, .slice (some ⟨p, o, none⟩) Nn Nc, .slice M2.1 M2.2.1 M2.2.2, .slice S'.1 S'.2.1 S'.2.2] := S.bx;replace c2 := X2.cell;replace f2 := X2.froz;replace X3 := X3.kp S.kept;replace c3 := X3.cell;replace f3 := X3.froz;replace B := bkp B S.kept;have hk2 := S.kept;clear S))
     refine bodyPost_ret (v := .agg #[.int .i64 0, .slice (some ⟨p, o, none⟩) Nn Nc, .slice M2.1 M2.2.1 M2.2.2, .slice S'.1 S'.2.1 S'.2.2]) (by simp [results, Tryz.results22, go_sem, *]) rfl ?_
     rw [← HR.out, ← HM.out, ← HE.out, if_pos trivial, if_pos trivial, if_pos trivial]
     have eS : sealE (⟨id, size, view, normal, last, log, (cm : Int), oks, asks, doers⟩ : Rep) es = es := by
      show (if (es.length : Int) < (cm : Int) then log.take (cm : Int).toNat else es) = _
      rw [if_neg (by omega)]
     rw [eS]
     exact ⟨(some ⟨p, o, none⟩, Nn, Nc), M2, S', nd, yk, rfl, HL.out.cluKept hk2 lb2 (fun k hk => by have := GAP.out k hk;omega), HL.out.sz, by rw [← HND.out, map_set_fst, HE1.out];rfl, by rw [HYE.out, HE2.out];rfl, B⟩
    have hq2 : (S'.2.1 : Int) < (cm : Int) := by omega
    have hcl : cm ≤ L.2.1 := by (have h1 := (HCM.out (by first | trivial | rfl)).2;have h2 := HY.out.rep.log.nSixs;simp only at h1 h2;omega)
    have hLs : L.2.1 ≤ 1048576 := HZ.out.rep.L
    have hle := HY.out.rep.log.le
    obtain ⟨lb, lf, eL, -⟩ := HY.out.rep.log.cells (by simp only;omega)
    have HP : Hid (RowAt w false l2 u2 6 L.1 cm L.2.2 (sixs (log.take cm))) := HY.out.rep.log.preE hcl
    obtain ⟨L1, Ln, Lc⟩ := L
    simp only at eL hcl hle hLs
    subst eL
    have hcc : (cm : Int) ≤ (Lc : Int) := by omega
    have hcs : cm ≤ 1048576 := by omega
    go_wp2_with fail;refine (l8Copy_z (some ⟨lb, lf, none⟩) cm Lc (log.take cm) _ (HP.out.below B) hcs).mono ?_;rintro e w2 ⟨ra, rc, z, u, rfl, Gz, _, hR, R, BB⟩
    have HBB : Hid _ := BB
    have HRz : Hid _ := R
    have HGz : Hid _ := Gz
    have oz := Nat.le_trans B.size Gz;have o0_z := ltl X0.lt Gz;have o1_z := ltl X1.lt Gz;have o2_z := ltl X2.lt Gz;have o3_z := ltl X3.lt Gz;clear Gz;replace X0 := X0.below BB;replace c0 := X0.cell;replace f0 := X0.froz;replace X1 := X1.below BB;replace c1 := X1.cell;replace f1 := X1.froz;replace X2 := X2.below BB;replace c2 := X2.cell;replace f2 := X2.froz;replace X3 := X3.below BB;replace c3 := X3.cell;replace f3 := X3.froz;replace B := below_next B BB;clear BB;clear R hR
    go_upto_region 11 with (first | ((with_reducible refine so 34 X3 2 (.slice ra cm rc) ?_);intro V2 S;have PX := S;replace X0 := X0.kp S.kept;replace c0 := X0.cell;replace f0 := X0.froz;replace X1 := X1.kp S.kept;replace c1 := X1.cell;replace f1 := X1.froz;replace X2 := X2.kp S.kept;replace c2 := X2.cell;replace f2 := X2.froz;replace X3 : Bx V2 b3 [.slice (some ⟨p, o, none⟩) Nn Nc, .slice M2.1 M2.2.1 M2.2.2, .slice ra cm rc] := S.bx;replace c3 := X3.cell;replace f3 := X3.froz;replace B := bkp B S.kept;clear S) | fail)
    have x9 : Hid (LiveM V2 96 l0 base b3 (some ⟨p, o, none⟩, Nn, Nc) M2 (ra, cm, rc) nd yk (log.take cm)) := HL.out.setS HBB.out HRz.out HGz.out lw1 hcs PX
    clear PX
    go_wp2_with (first | ((with_reducible refine sm 38 X2 0 [.int .i64 0, .slice (some ⟨p, o, none⟩) Nn Nc, .slice M2.1 M2.2.1 M2.2.2, .slice ra cm rc] ?_);intro V3 S;replace X0 := X0.kp S.kept;replace c0 := X0.cell;replace f0 := X0.froz;replace X1 := X1.kp S.kept;replace c1 := X1.cell;replace f1 := X1.froz;replace X2 : Bx V3 b2 [.int .i64 0, .slice (some ⟨p, o, none⟩) Nn Nc, .slice M2.1 M2.2.1 M2.2.2, .slice ra cm rc] := S.bx;replace c2 := X2.cell;replace f2 := X2.froz;replace X3 := X3.kp S.kept;replace c3 := X3.cell;replace f3 := X3.froz;replace B := bkp B S.kept;have hk2 := S.kept;clear S))
    refine bodyPost_ret (v := .agg #[.int .i64 0, .slice (some ⟨p, o, none⟩) Nn Nc, .slice M2.1 M2.2.1 M2.2.2, .slice ra cm rc]) (by simp [results, Tryz.results22, go_sem, *]) rfl ?_
    rw [← HR.out, ← HM.out, ← HE.out, if_pos trivial, if_pos trivial, if_pos trivial]
    have eS : sealE (⟨id, size, view, normal, last, log, (cm : Int), oks, asks, doers⟩ : Rep) es = log.take cm := by
     show (if (es.length : Int) < (cm : Int) then log.take (cm : Int).toNat else es) = _
     rw [if_pos (by omega), Int.toNat_natCast]
    rw [eS]
    exact ⟨(some ⟨p, o, none⟩, Nn, Nc), M2, (ra, cm, rc), nd, yk, rfl, x9.out.cluKept hk2 lb2 (fun k hk => by have := GAP.out k hk;omega), x9.out.sz, by rw [← HND.out, map_set_fst, HE1.out];rfl, by rw [HYE.out, HE2.out];rfl, B⟩
  ·have hlk : ¬ (k : Int) < (s.2.1 : Int) := by omega
   have hyE := doM_end hzl hk HYK.out (by rw [List.length_map];exact hy120) (Or.inl (by omega))
   have HYE : Hid _ := hyE
   clear hyE
   have hel : es.length = S'.2.1 := HL.out.slog.nSixs
   by_cases hq : S'.2.1 < cm
   rotate_left 1
   ·have hq2 : ¬ (S'.2.1 : Int) < (cm : Int) := by omega
    go_wp2_with (first | ((with_reducible refine sm 38 X2 0 [.int .i64 0, .slice (some ⟨p, o, none⟩) Nn Nc, .slice M2.1 M2.2.1 M2.2.2, .slice S'.1 S'.2.1 S'.2.2] ?_);intro V2 S;replace X0 := X0.kp S.kept;replace c0 := X0.cell;replace f0 := X0.froz;replace X1 := X1.kp S.kept;replace c1 := X1.cell;replace f1 := X1.froz;replace X2 : Bx V2 b2 [.int .i64 0, .slice (some ⟨p, o, none⟩) Nn Nc, .slice M2.1 M2.2.1 M2.2.2, .slice S'.1 S'.2.1 S'.2.2] := S.bx;replace c2 := X2.cell;replace f2 := X2.froz;replace X3 := X3.kp S.kept;replace c3 := X3.cell;replace f3 := X3.froz;replace B := bkp B S.kept;have hk2 := S.kept;clear S))
    refine bodyPost_ret (v := .agg #[.int .i64 0, .slice (some ⟨p, o, none⟩) Nn Nc, .slice M2.1 M2.2.1 M2.2.2, .slice S'.1 S'.2.1 S'.2.2]) (by simp [results, Tryz.results22, go_sem, *]) rfl ?_
    rw [← HR.out, ← HM.out, ← HE.out, if_pos trivial, if_pos trivial, if_pos trivial]
    have eS : sealE (⟨id, size, view, normal, last, log, (cm : Int), oks, asks, doers⟩ : Rep) es = es := by
     show (if (es.length : Int) < (cm : Int) then log.take (cm : Int).toNat else es) = _
     rw [if_neg (by omega)]
    rw [eS]
    exact ⟨(some ⟨p, o, none⟩, Nn, Nc), M2, S', nd, yk, rfl, HL.out.cluKept hk2 lb2 (fun k hk => by have := GAP.out k hk;omega), HL.out.sz, by rw [← HND.out, map_set_fst, HE1.out];rfl, by rw [HYE.out, HE2.out];rfl, B⟩
   have hq2 : (S'.2.1 : Int) < (cm : Int) := by omega
   have hcl : cm ≤ L.2.1 := by (have h1 := (HCM.out (by first | trivial | rfl)).2;have h2 := HY.out.rep.log.nSixs;simp only at h1 h2;omega)
   have hLs : L.2.1 ≤ 1048576 := HZ.out.rep.L
   have hle := HY.out.rep.log.le
   obtain ⟨lb, lf, eL, -⟩ := HY.out.rep.log.cells (by simp only;omega)
   have HP : Hid (RowAt w false l2 u2 6 L.1 cm L.2.2 (sixs (log.take cm))) := HY.out.rep.log.preE hcl
   obtain ⟨L1, Ln, Lc⟩ := L
   simp only at eL hcl hle hLs
   subst eL
   have hcc : (cm : Int) ≤ (Lc : Int) := by omega
   have hcs : cm ≤ 1048576 := by omega
   go_wp2_with fail;refine (l8Copy_z (some ⟨lb, lf, none⟩) cm Lc (log.take cm) _ (HP.out.below B) hcs).mono ?_;rintro e w2 ⟨ra, rc, z, u, rfl, Gz, _, hR, R, BB⟩
   have HBB : Hid _ := BB
   have HRz : Hid _ := R
   have HGz : Hid _ := Gz
   have oz := Nat.le_trans B.size Gz;have o0_z := ltl X0.lt Gz;have o1_z := ltl X1.lt Gz;have o2_z := ltl X2.lt Gz;have o3_z := ltl X3.lt Gz;clear Gz;replace X0 := X0.below BB;replace c0 := X0.cell;replace f0 := X0.froz;replace X1 := X1.below BB;replace c1 := X1.cell;replace f1 := X1.froz;replace X2 := X2.below BB;replace c2 := X2.cell;replace f2 := X2.froz;replace X3 := X3.below BB;replace c3 := X3.cell;replace f3 := X3.froz;replace B := below_next B BB;clear BB;clear R hR
   go_upto_region 11 with (first | ((with_reducible refine so 34 X3 2 (.slice ra cm rc) ?_);intro V2 S;have PX := S;replace X0 := X0.kp S.kept;replace c0 := X0.cell;replace f0 := X0.froz;replace X1 := X1.kp S.kept;replace c1 := X1.cell;replace f1 := X1.froz;replace X2 := X2.kp S.kept;replace c2 := X2.cell;replace f2 := X2.froz;replace X3 : Bx V2 b3 [.slice (some ⟨p, o, none⟩) Nn Nc, .slice M2.1 M2.2.1 M2.2.2, .slice ra cm rc] := S.bx;replace c3 := X3.cell;replace f3 := X3.froz;replace B := bkp B S.kept;clear S) | fail)
   have x9 : Hid (LiveM V2 96 l0 base b3 (some ⟨p, o, none⟩, Nn, Nc) M2 (ra, cm, rc) nd yk (log.take cm)) := HL.out.setS HBB.out HRz.out HGz.out lw1 hcs PX
   clear PX
   go_wp2_with (first | ((with_reducible refine sm 38 X2 0 [.int .i64 0, .slice (some ⟨p, o, none⟩) Nn Nc, .slice M2.1 M2.2.1 M2.2.2, .slice ra cm rc] ?_);intro V3 S;replace X0 := X0.kp S.kept;replace c0 := X0.cell;replace f0 := X0.froz;replace X1 := X1.kp S.kept;replace c1 := X1.cell;replace f1 := X1.froz;replace X2 : Bx V3 b2 [.int .i64 0, .slice (some ⟨p, o, none⟩) Nn Nc, .slice M2.1 M2.2.1 M2.2.2, .slice ra cm rc] := S.bx;replace c2 := X2.cell;replace f2 := X2.froz;replace X3 := X3.kp S.kept;replace c3 := X3.cell;replace f3 := X3.froz;replace B := bkp B S.kept;have hk2 := S.kept;clear S))
   refine bodyPost_ret (v := .agg #[.int .i64 0, .slice (some ⟨p, o, none⟩) Nn Nc, .slice M2.1 M2.2.1 M2.2.2, .slice ra cm rc]) (by simp [results, Tryz.results22, go_sem, *]) rfl ?_
   rw [← HR.out, ← HM.out, ← HE.out, if_pos trivial, if_pos trivial, if_pos trivial]
   have eS : sealE (⟨id, size, view, normal, last, log, (cm : Int), oks, asks, doers⟩ : Rep) es = log.take cm := by
    show (if (es.length : Int) < (cm : Int) then log.take (cm : Int).toNat else es) = _
    rw [if_pos (by omega), Int.toNat_natCast]
   rw [eS]
   exact ⟨(some ⟨p, o, none⟩, Nn, Nc), M2, (ra, cm, rc), nd, yk, rfl, x9.out.cluKept hk2 lb2 (fun k hk => by have := GAP.out k hk;omega), x9.out.sz, by rw [← HND.out, map_set_fst, HE1.out];rfl, by rw [HYE.out, HE2.out];rfl, B⟩
end Go.Proofs.YtclghfoinologaaGreat
