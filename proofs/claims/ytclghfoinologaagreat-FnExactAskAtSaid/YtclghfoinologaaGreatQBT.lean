/- Chapter 11: doAt, told an act that captured a variable. -/
import Derived.Test.YtclghfoinologaaGreatQBS
set_option maxRecDepth 20000
set_option maxHeartbeats 16000000
namespace Go.Proofs.YtclghfoinologaaGreat
open Go.RowKit
theorem doAtC_is (FN : Nat) (hcf : ∀ (vs : Array Value) (W : World), (callFunc FN vs).run Tryz.prog W = .ok (.enter FN vs) W) (pc : Nat) (C : Rep → Int) (Q : Rep → Rep) (Ms : Rep → List Ml) {own : Bool} {lo hi : Nat} (N M Sl : Hd) (xs : List Nod) (ms : List Mal) (es : List En) (v : Int) (w : World) (x : ClAt w own lo hi N M Sl xs ms es) (hs : ClSz N M Sl xs ms 1048576)
  (hact : ∀ (W : World) (own : Bool) (lo hi : Nat) (r : Rep) (hA : RH), Below w.heap.size w W → RepAt W own lo hi hA r → RSz hA 1048576 → Calls Tryz.prog FN #[.agg #[.int .i64 r.id, .int .i64 r.size, .int .i64 r.view, .bool r.normal, .int .i64 r.last, .slice hA.L.1 hA.L.2.1 hA.L.2.2, .int .i64 r.commit, .slice hA.O.1 hA.O.2.1 hA.O.2.2, .slice hA.A.1 hA.A.2.1 hA.A.2.2, .slice hA.D.1 hA.D.2.1 hA.D.2.2], .pointer (some ⟨pc, 0, none⟩)] W fun e w' => NodeAns W w' e (C r) (Q r) (Ms r)) (hcm : ∀ r, repF r = 0 → C r = 0 → 0 ≤ (Q r).commit ∧ (Q r).commit ≤ (Q r).log.length) :
  Calls Tryz.prog 28 #[.agg #[.slice N.1 N.2.1 N.2.2, .slice M.1 M.2.1 M.2.2, .slice Sl.1 Sl.2.1 Sl.2.2], .int .i64 v, .func (.func FN) #[] #[.pointer (some ⟨pc, 0, none⟩)]] w fun e w' => ClRes true w w' e (atC (xs.map (·.1)) (ms.map (·.1)) es v C) (atN (xs.map (·.1)) (ms.map (·.1)) es v C Q) (atM (xs.map (·.1)) (ms.map (·.1)) es v C Ms) (atE (xs.map (·.1)) (ms.map (·.1)) es v C Q) := by
 obtain ⟨rs, hrs⟩ : ∃ rs, xs.map (·.1) = rs := ⟨_, rfl⟩;obtain ⟨ns, hns⟩ : ∃ ns, ms.map (·.1) = ns := ⟨_, rfl⟩
 have hlen : rs.length = N.2.1 := by rw [← hrs];simpa using x.nodes.len
 have HRS : Hid _ := hrs
 have HNS : Hid _ := hns
 have HLEN : Hid _ := hlen
 have HA : Hid _ := hact
 have HCM : Hid _ := hcm
 obtain ⟨d, hd⟩ : ∃ d, nplC (cluF rs ns es) N.2.1 v = d := ⟨_, rfl⟩
 have HD : Hid _ := hd
 have HS : Hid _ := hs
 rw [hrs, hns];clear hact hcm hd hs hrs hns hlen
 go_enter Tryz.func28, Tryz.ntmps28
 go_wp2_with (first | ((have g := ob0);clear g;(with_reducible refine al 38 [.int .i64 0, .slice none 0 0, .slice none 0 0, .slice none 0 0] ?_);intro b1 W1 N1;have ob1 := N1.o B;have o0_b1 := N1.u X0;replace X0 := N1.r X0;replace c0 := X0.cell;replace f0 := X0.froz;replace B := N1.n B;obtain ⟨X1, c1, f1⟩ := N1.a;clear N1) | ((with_reducible refine box_newX 36 [.slice N.1 N.2.1 N.2.2, .slice M.1 M.2.1 M.2.2, .slice Sl.1 Sl.2.1 Sl.2.2] rfl ?_);intro b0 W0 N0;have ob0 := N0.ge;have B := N0.below;obtain ⟨X0, c0, f0⟩ := N0.a;clear N0) | fail)
 refine (nodePl_is N M Sl xs ms es v _ (x.below B) HS.out _ rfl d (by rw [HRS.out, HNS.out];exact HD.out)).mono ?_
 rintro e w1 ⟨rfl, BB⟩;replace X0 := X0.below BB;replace c0 := X0.cell;replace f0 := X0.froz;replace X1 := X1.below BB;replace c1 := X1.cell;replace f1 := X1.froz;replace B := below_next B BB;clear BB
 by_cases q2 : d = 0
 rotate_left 1
 ·have q2' : (d != 0) = true := by simp [q2]
  go_wp2_with (first | ((with_reducible refine sm 38 X1 0 [.int .i64 d, .slice none 0 0, .slice none 0 0, .slice none 0 0] ?_);intro V1 S;replace X0 := X0.kp S.kept;replace c0 := X0.cell;replace f0 := X0.froz;replace X1 : Bx V1 b1 [.int .i64 d, .slice none 0 0, .slice none 0 0, .slice none 0 0] := S.bx;replace c1 := X1.cell;replace f1 := X1.froz;replace B := bkp B S.kept;clear S))
  refine bodyPost_ret (v := .agg #[.int .i64 d, .slice none 0 0, .slice none 0 0, .slice none 0 0]) (by simp [results, Tryz.results28, go_sem, *]) rfl ?_
  obtain ⟨e1, e2, e3, e4⟩ := atC_bad (C := C) (Q := Q) (Ms := Ms) (rs := rs) (by rw [HLEN.out];exact HD.out) q2
  rw [e1, e2, e3, e4];exact ClRes.nix d B
 subst q2
 obtain ⟨hF, hv0, hv1⟩ := npl_ok HD.out
 have HF : Hid _ := hF
 obtain ⟨i, hiv⟩ : ∃ i : Nat, v = (i : Int) := ⟨v.toNat, by omega⟩
 subst hiv
 have hin : i < N.2.1 := by omega
 clear hF hv0 hv1;go_wp2_with fail;refine (liveOf_is N M Sl xs ms es _ (x.below B) HS.out).mono ?_;rintro e w2 ⟨b, N', M', S', xa, ya, rfl, L, e1, e2, BB⟩;obtain ⟨base, hbase⟩ : ∃ z, z = w1.heap.size := ⟨_, rfl⟩;rw [← hbase] at L
 have lb1 : b1 < base := by rw [hbase];exact X1.lt
 have lwb : w.heap.size ≤ base := by rw [hbase];exact B.size
 have hb2 : base ≤ w2.heap.size := by rw [hbase];exact BB.size
 clear hbase;replace X0 := X0.below BB;replace c0 := X0.cell;replace f0 := X0.froz;replace X1 := X1.below BB;replace c1 := X1.cell;replace f1 := X1.froz;replace B := below_next B BB;clear BB
 have HL : Hid _ := L
 have HE1 : Hid _ := e1
 have HE2 : Hid _ := e2
 clear L e1 e2
 have hln : N'.2.1 = N.2.1 := by
  have a1 := LAt.len HL.out.nodes;have a2 := LAt.len x.nodes
  have := congrArg List.length HE1.out
  simp only [List.length_map] at this;omega
 have hlm : M'.2.1 ≤ 120 := by
  have a1 := HL.out.mails.gr.len
  have := congrArg List.length HE2.out
  simp only [List.length_map] at this;have h4 := (clu_parts HF.out).2.1;rw [← HNS.out, List.length_map] at h4;omega
 obtain ⟨⟨r, h⟩, ex⟩ : ∃ a, xa[i]? = some a := ⟨_, List.getElem?_eq_getElem (by rw [LAt.len HL.out.nodes, hln];exact hin)⟩
 have HER : Hid (rs.getD i rep0 = r) := by
  show _ = _
  rw [← HRS.out, ← HE1.out];exact mapD ex
 have HR0 : Hid (repF r = 0) := by
  show _ = _
  have := (nodesF_all (clu_parts HF.out).2.2.1 i (by rw [HLEN.out];exact hin)).1
  rw [HER.out] at this;exact this
 obtain ⟨c, hc⟩ : ∃ c, C r = c := ⟨_, rfl⟩
 have HC : Hid _ := hc
 clear hc
 have HAT := atC_code (C := C) (Q := Q) (Ms := Ms) (rs := rs) (ms := ns) (es := es) (v := (i : Int)) (c := c) (by rw [HLEN.out];exact HD.out) (by rw [Int.toNat_natCast, HER.out];exact HC.out)
 rw [Int.toNat_natCast, HER.out] at HAT
 have HAT2 : Hid _ := HAT
 have HEX : Hid _ := ex
 clear HAT ex;go_wp2_with fail
 refine (doC_is FN hcf pc N' M' S' xa ya es i (by omega) r h HEX.out _ HL.out hb2 hlm c (Q r) (Ms r) (fun W own lo hi hA bb y s => by have := HA.out W own lo hi r hA (below_next B bb) y s;rw [HC.out] at this;exact this) (fun z => HCM.out r HR0.out (by rw [HC.out];exact z))).mono ?_
 rintro e w3 ⟨rfl, BL, HZ⟩
 have X1' := X1.low BL lb1
 have B' := B.trans (BL.mono lwb)
 clear X0 c0 f0 X1 c1 f1 B;have X1 := X1';have c1 := X1.cell;have f1 := X1.froz;have B := B';clear X1' B'
 have HZZ : Hid _ := HZ
 clear HZ
 by_cases q3 : c = 0
 rotate_left 1
 ·have q3' : (c != 0) = true := by simp [q3]
  go_wp2_with (first | ((with_reducible refine sm 38 X1 0 [.int .i64 c, .slice none 0 0, .slice none 0 0, .slice none 0 0] ?_);intro V1 S;replace X1 : Bx V1 b1 [.int .i64 c, .slice none 0 0, .slice none 0 0, .slice none 0 0] := S.bx;replace c1 := X1.cell;replace f1 := X1.froz;replace B := bkp B S.kept;clear S))
  refine bodyPost_ret (v := .agg #[.int .i64 c, .slice none 0 0, .slice none 0 0, .slice none 0 0]) (by simp [results, Tryz.results28, go_sem, *]) rfl ?_
  obtain ⟨e1, e2, -⟩ := HAT2.out
  obtain ⟨e3, e4, e5⟩ := e2 q3
  rw [e1, e3, e4, e5];exact ClRes.nix c B
 subst q3
 obtain ⟨N3, M3, S3, x3, y3, L3, f1', f2'⟩ := HZZ.out (by first | trivial | rfl)
 have HL3 : Hid _ := L3
 have HF1 : Hid _ := f1'
 have HF2 : Hid _ := f2'
 clear HZZ L3 f1' f2';go_wp2_with fail;refine (clAnswer_is N3 M3 S3 _ HL3.out.bx).mono ?_;rintro e w4 ⟨rfl, BB⟩
 have HL4 : Hid _ := HL3.out.below BB
 replace X1 := X1.below BB;replace c1 := X1.cell;replace f1 := X1.froz;replace B := below_next B BB;clear BB
 go_wp2_with (first | ((with_reducible refine sm 38 X1 0 [.int .i64 0, .slice N3.1 N3.2.1 N3.2.2, .slice M3.1 M3.2.1 M3.2.2, .slice S3.1 S3.2.1 S3.2.2] ?_);intro V1 S;replace X1 : Bx V1 b1 [.int .i64 0, .slice N3.1 N3.2.1 N3.2.2, .slice M3.1 M3.2.1 M3.2.2, .slice S3.1 S3.2.1 S3.2.2] := S.bx;replace c1 := X1.cell;replace f1 := X1.froz;replace B := bkp B S.kept;have hk2 := S.kept;clear S))
 refine bodyPost_ret (v := .agg #[.int .i64 0, .slice N3.1 N3.2.1 N3.2.2, .slice M3.1 M3.2.1 M3.2.2, .slice S3.1 S3.2.1 S3.2.2]) (by simp [results, Tryz.results28, go_sem, *]) rfl ?_
 obtain ⟨e1, -, e2⟩ := HAT2.out
 obtain ⟨e3, e4, e5⟩ := e2 (by first | trivial | rfl)
 rw [e1, e3, e4, e5]
 refine ⟨N3, M3, S3, x3, y3, rfl, ((HL4.out.clu.kept hk2 (Or.inr (by omega))).widen lwb hk2.size), HL4.out.sz, ?_, ?_, B⟩
 ·rw [HF1.out, HE1.out, HRS.out]
 ·rw [HF2.out, HE2.out, HNS.out]
theorem askClos_is (en : En) {b0 : Nat} {own : Bool} {lo hi : Nat} (r : Rep) (h : RH) (w : World) (x : RepAt w own lo hi h r) (hz : RSz h 1048576) (X0 : Bx w b0 [.int .i64 en.1, .int .i64 en.2.1, .int .i64 en.2.2.1, .int .i64 en.2.2.2.1, .int .i64 en.2.2.2.2.1, .int .i64 en.2.2.2.2.2]) :
  Calls Tryz.prog 29 #[.agg #[.int .i64 r.id, .int .i64 r.size, .int .i64 r.view, .bool r.normal, .int .i64 r.last, .slice h.L.1 h.L.2.1 h.L.2.2, .int .i64 r.commit, .slice h.O.1 h.O.2.1 h.O.2.2, .slice h.A.1 h.A.2.1 h.A.2.2, .slice h.D.1 h.D.2.1 h.D.2.2], .pointer (some ⟨b0, 0, none⟩)] w fun e w' => NodeAns w w' e (askC r en) (askQ r en) (askM r en) := by
 obtain ⟨c, hc⟩ : ∃ c, askC r en = c := ⟨_, rfl⟩;obtain ⟨q, hq⟩ : ∃ q, askQ r en = q := ⟨_, rfl⟩;obtain ⟨ms, hms⟩ : ∃ ms, askM r en = ms := ⟨_, rfl⟩
 have HC : Hid _ := hc
 have HQ : Hid _ := hq
 have HM : Hid _ := hms
 rw [hc, hq, hms];clear hc hq hms;have c0 := X0.cell;have ob0 := X0.lt
 go_enter Tryz.func29, Tryz.ntmps29
 go_wp2_with (first | ((have g := ob1);clear g;(with_reducible refine al 65 [.int .i64 0, .int .i64 0, .int .i64 0, .int .i64 0, .bool false, .int .i64 0, .slice none 0 0, .int .i64 0, .slice none 0 0, .slice none 0 0, .slice none 0 0, .slice none 0 0] ?_);intro b2 W2 N2;have ob2 := N2.o B;have o0_b2 := N2.u X0;have o1_b2 := N2.u X1;replace X0 := N2.r X0;replace c0 := X0.cell;replace X1 := N2.r X1;replace c1 := X1.cell;replace B := N2.n B;obtain ⟨X2, c2, f2⟩ := N2.a;clear N2) | ((have g := ob0);clear g;(with_reducible refine box_newX 63 [.int .i64 r.id, .int .i64 r.size, .int .i64 r.view, .bool r.normal, .int .i64 r.last, .slice h.L.1 h.L.2.1 h.L.2.2, .int .i64 r.commit, .slice h.O.1 h.O.2.1 h.O.2.2, .slice h.A.1 h.A.2.1 h.A.2.2, .slice h.D.1 h.D.2.1 h.D.2.2] rfl ?_);intro b1 W1 N1;have ob1 := N1.ge;have o0_b1 := N1.u X0;replace X0 := N1.r X0;replace c0 := X0.cell;have B := N1.below;obtain ⟨X1, c1⟩ := N1.c;clear N1) | fail)
 refine (implAsk_is r h en _ (x.below B) hz c q ms HC.out HQ.out HM.out).mono ?_;rintro e w1 ⟨zA, uA, hA, sA, Km, rfl, GzA, hAA, AA, ZA, BB⟩;have ozA := Nat.le_trans B.size GzA;have o0_zA := ltl X0.lt GzA;have o1_zA := ltl X1.lt GzA;have o2_zA := ltl X2.lt GzA;clear GzA;replace X0 := X0.below BB;replace c0 := X0.cell;replace X1 := X1.below BB;replace c1 := X1.cell;replace X2 := X2.below BB;replace c2 := X2.cell;replace f2 := X2.froz;replace B := below_next B BB;clear BB
 go_wp2_with (first | ((with_reducible refine sm 65 X2 0 [.int .i64 c, .int .i64 q.id, .int .i64 q.size, .int .i64 q.view, .bool q.normal, .int .i64 q.last, .slice hA.L.1 hA.L.2.1 hA.L.2.2, .int .i64 q.commit, .slice hA.O.1 hA.O.2.1 hA.O.2.2, .slice hA.A.1 hA.A.2.1 hA.A.2.2, .slice hA.D.1 hA.D.2.1 hA.D.2.2, .slice sA.1 sA.2.1 sA.2.2] ?_);intro V1 S;replace X0 := X0.kp S.kept;replace c0 := X0.cell;replace X1 := X1.kp S.kept;replace c1 := X1.cell;replace X2 : Bx V1 b2 [.int .i64 c, .int .i64 q.id, .int .i64 q.size, .int .i64 q.view, .bool q.normal, .int .i64 q.last, .slice hA.L.1 hA.L.2.1 hA.L.2.2, .int .i64 q.commit, .slice hA.O.1 hA.O.2.1 hA.O.2.2, .slice hA.A.1 hA.A.2.1 hA.A.2.2, .slice hA.D.1 hA.D.2.1 hA.D.2.2, .slice sA.1 sA.2.1 sA.2.2] := S.bx;replace c2 := X2.cell;replace f2 := X2.froz;replace AA := AA.kept S.kept (by omega);replace hAA := Nat.le_trans hAA S.kept.size;replace B := bkp B S.kept;clear S))
 refine bodyPost_ret (v := .agg #[.int .i64 c, .int .i64 q.id, .int .i64 q.size, .int .i64 q.view, .bool q.normal, .int .i64 q.last, .slice hA.L.1 hA.L.2.1 hA.L.2.2, .int .i64 q.commit, .slice hA.O.1 hA.O.2.1 hA.O.2.2, .slice hA.A.1 hA.A.2.1 hA.A.2.2, .slice hA.D.1 hA.D.2.1 hA.D.2.2, .slice sA.1 sA.2.1 sA.2.2]) (by simp [results, Tryz.results29, go_sem, *]) rfl ⟨zA, uA, hA, sA, Km, rfl, ozA, hAA, AA, ZA, B⟩
theorem implAskAt_is (en : En) {own : Bool} {lo hi : Nat} (N M Sl : Hd) (xs : List Nod) (ms : List Mal) (es : List En) (v : Int) (w : World) (x : ClAt w own lo hi N M Sl xs ms es) (hs : ClSz N M Sl xs ms 1048576) (rs : List Rep) (ns : List Ml) (hrs : xs.map (·.1) = rs) (hns : ms.map (·.1) = ns) (cd : Int) (R' : List Rep) (M' : List Ml) (E' : List En) (hc : atC rs ns es v (fun r => askC r en) = cd) (hR : atN rs ns es v (fun r => askC r en) (fun r => askQ r en) = R') (hM : atM rs ns es v (fun r => askC r en) (fun r => askM r en) = M') (hE : atE rs ns es v (fun r => askC r en) (fun r => askQ r en) = E') :
  Calls Tryz.prog 9 #[.agg #[.slice N.1 N.2.1 N.2.2, .slice M.1 M.2.1 M.2.2, .slice Sl.1 Sl.2.1 Sl.2.2], .int .i64 v, .agg #[.int .i64 en.1, .int .i64 en.2.1, .int .i64 en.2.2.1, .int .i64 en.2.2.2.1, .int .i64 en.2.2.2.2.1, .int .i64 en.2.2.2.2.2]] w fun e w' => ClRes true w w' e cd R' M' E' := by
 subst hrs hns
 have HC : Hid _ := hc
 have HR : Hid _ := hR
 have HM : Hid _ := hM
 have HE : Hid _ := hE
 have hmf : ∀ (fn : Fn) (first cap : Array Value) (w : World), (Instr.makeFunc fn first cap).run Tryz.prog w = .ok (.func fn first cap) w := fun _ _ _ _ => rfl
 clear hc hR hM hE
 go_enter Tryz.func9, Tryz.ntmps9
 go_wp2_with (first | ((have g := ob1);clear g;(with_reducible refine al 38 [.int .i64 0, .slice none 0 0, .slice none 0 0, .slice none 0 0] ?_);intro b2 W2 N2;have ob2 := N2.o B;have o0_b2 := N2.u X0;have o1_b2 := N2.u X1;replace X0 := N2.r X0;replace c0 := X0.cell;replace f0 := X0.froz;replace X1 := N2.r X1;replace c1 := X1.cell;replace f1 := X1.froz;replace B := N2.n B;obtain ⟨X2, c2, f2⟩ := N2.a;clear N2) | ((have g := ob0);clear g;(with_reducible refine box_newX 43 [.int .i64 en.1, .int .i64 en.2.1, .int .i64 en.2.2.1, .int .i64 en.2.2.2.1, .int .i64 en.2.2.2.2.1, .int .i64 en.2.2.2.2.2] rfl ?_);intro b1 W1 N1;have ob1 := N1.o B;have o0_b1 := N1.u X0;replace X0 := N1.r X0;replace c0 := X0.cell;replace f0 := X0.froz;replace B := N1.n B;obtain ⟨X1, c1, f1⟩ := N1.a;clear N1) | ((with_reducible refine box_newX 36 [.slice N.1 N.2.1 N.2.2, .slice M.1 M.2.1 M.2.2, .slice Sl.1 Sl.2.1 Sl.2.2] rfl ?_);intro b0 W0 N0;have ob0 := N0.ge;have B := N0.below;obtain ⟨X0, c0, f0⟩ := N0.a;clear N0) | fail)
 have HX1 : Hid _ := X1
 refine (doAtC_is 29 (fun _ _ => by simp [go_sem]) b1 (fun r => askC r en) (fun r => askQ r en) (fun r => askM r en) N M Sl xs ms es v _ (x.below B) hs (fun W own lo hi r hA hb y s => askClos_is en r hA W y s (HX1.out.below hb)) (ask_com en)).mono ?_
 rintro e w1 ⟨N1, M1, S1, x1, y1, rfl, A1, Z1, f1', f2', BB⟩;rw [HC.out];rw [HE.out] at A1;rw [HR.out] at f1';rw [HM.out] at f2';obtain ⟨base, hbase⟩ : ∃ z, z = W2.heap.size := ⟨_, rfl⟩;rw [← hbase] at A1
 have lb2 : b2 < base := by rw [hbase];exact X2.lt
 have lwb : w.heap.size ≤ base := by rw [hbase];exact B.size
 clear hbase;replace X0 := X0.below BB;replace c0 := X0.cell;replace f0 := X0.froz;replace X1 := X1.below BB;replace c1 := X1.cell;replace f1 := X1.froz;replace X2 := X2.below BB;replace c2 := X2.cell;replace f2 := X2.froz;replace B := below_next B BB;clear BB
 have HA1 : Hid _ := A1
 have HZ1 : Hid _ := Z1
 have HF1 : Hid _ := f1'
 have HF2 : Hid _ := f2'
 have hl1 := A1;clear hl1 A1 Z1 f1' f2'
 go_wp2_with (first | ((with_reducible refine sm 38 X2 0 [.int .i64 cd, .slice N1.1 N1.2.1 N1.2.2, .slice M1.1 M1.2.1 M1.2.2, .slice S1.1 S1.2.1 S1.2.2] ?_);intro V1 S;replace X0 := X0.kp S.kept;replace c0 := X0.cell;replace f0 := X0.froz;replace X1 := X1.kp S.kept;replace c1 := X1.cell;replace f1 := X1.froz;replace X2 : Bx V1 b2 [.int .i64 cd, .slice N1.1 N1.2.1 N1.2.2, .slice M1.1 M1.2.1 M1.2.2, .slice S1.1 S1.2.1 S1.2.2] := S.bx;replace c2 := X2.cell;replace f2 := X2.froz;replace B := bkp B S.kept;have hk2 := S.kept;clear S))
 refine bodyPost_ret (v := .agg #[.int .i64 cd, .slice N1.1 N1.2.1 N1.2.2, .slice M1.1 M1.2.1 M1.2.2, .slice S1.1 S1.2.1 S1.2.2]) (by simp [results, Tryz.results9, go_sem, *]) rfl ?_
 exact ⟨N1, M1, S1, x1, y1, rfl, (HA1.out.kept hk2 (Or.inr (by omega))).widen lwb hk2.size, HZ1.out, HF1.out, HF2.out, B⟩
end Go.Proofs.YtclghfoinologaaGreat
