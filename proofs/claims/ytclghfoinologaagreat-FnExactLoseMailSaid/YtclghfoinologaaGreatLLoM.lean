/- At every cluster and number the program's LoseMail answers as its model does, field by field, writes into no argument, and its answer owns its memory: the law FnExactLoseMail is true at every argument, with no condition. -/
import Derived.Test.YtclghfoinologaaGreatQBN
set_option maxRecDepth 20000
set_option maxHeartbeats 16000000
namespace Go.Proofs.YtclghfoinologaaGreat
open Go.RowKit
theorem lawLoseMail {own : Bool} (N M Sl : Hd) (xs : List Nod) (ms : List Mal) (es : List En) (v : Int) (w : World) (x : ClAt w own 0 w.heap.size N M Sl xs ms es) (hs : ClSz N M Sl xs ms maxLen) : Calls Tryz.prog 4 #[.agg #[.slice N.1 N.2.1 N.2.2, .slice M.1 M.2.1 M.2.2, .slice Sl.1 Sl.2.1 Sl.2.2], .int .i64 v] w fun e w' => e = .returned (.bool true) ∧ Below w.heap.size w w' := by
 obtain ⟨rs, hrs⟩ : ∃ rs, xs.map (·.1) = rs := ⟨_, rfl⟩;obtain ⟨ns, hns⟩ : ∃ ns, ms.map (·.1) = ns := ⟨_, rfl⟩;obtain ⟨c, hc⟩ : ∃ c, loC rs ns es v = c := ⟨_, rfl⟩;obtain ⟨R', hR⟩ : ∃ R', loN rs ns es v = R' := ⟨_, rfl⟩;obtain ⟨M', hM⟩ : ∃ M', loM rs ns es v = M' := ⟨_, rfl⟩;obtain ⟨E', hE⟩ : ∃ E', loE rs ns es v = E' := ⟨_, rfl⟩
 have HS1 : Hid (∀ {own : Bool} {lo hi : Nat} (N M Sl : Hd) (xs : List Nod) (ms : List Mal) (w : World), ClAt w own lo hi N M Sl xs ms es → ClSz N M Sl xs ms 1048576 → xs.map (·.1) = rs → ms.map (·.1) = ns → Calls Tryz.prog 15 #[.agg #[.slice N.1 N.2.1 N.2.2, .slice M.1 M.2.1 M.2.2, .slice Sl.1 Sl.2.1 Sl.2.2], .int .i64 v] w fun e w' => ClZ false w w' e c R' M' E') := fun N M Sl xs ms w x s h1 h2 => (specLoseMail_is N M Sl xs ms es v w x s rs ns h1 h2 c R' M' E' hc hR hM hE).mono fun _ _ h => h.z
 have HI1 : Hid (∀ {own : Bool} {lo hi : Nat} (N M Sl : Hd) (xs : List Nod) (ms : List Mal) (w : World), ClAt w own lo hi N M Sl xs ms es → ClSz N M Sl xs ms 1048576 → xs.map (·.1) = rs → ms.map (·.1) = ns → Calls Tryz.prog 16 #[.agg #[.slice N.1 N.2.1 N.2.2, .slice M.1 M.2.1 M.2.2, .slice Sl.1 Sl.2.1 Sl.2.2], .int .i64 v] w fun e w' => ClZ true w w' e c R' M' E') := fun N M Sl xs ms w x s h1 h2 => (implLoseMail_is N M Sl xs ms es v w x s rs ns h1 h2 c R' M' E' hc hR hM hE).mono fun _ _ h => h.z
 have HNF : Hid (nlen R' ≤ 1280) := by rw [← hR];exact lo_few rs ns es v
 have HRS : Hid _ := hrs
 have HNS : Hid _ := hns
 have HSX : Hid (nsum xs = nlen rs) := by (show _ = _;rw [← hrs];exact clz_sum x)
 clear hc hR hM hE hrs hns
 go_enter Tryz.func4, Tryz.ntmps4
 go_wp2_with (first | ((with_reducible refine box_newX 26 [.slice N.1 N.2.1 N.2.2, .slice M.1 M.2.1 M.2.2, .slice Sl.1 Sl.2.1 Sl.2.2] rfl ?_);intro b0 W0 N0;have ob0 := N0.ge;have B := N0.below;obtain ⟨X0, c0⟩ := N0.c;clear N0) | fail)
 refine (szCluster_sum N M Sl xs ms es _ (x.below B) hs).mono ?_;rintro e w1 ⟨q, rfl, BB, hq⟩;replace X0 := X0.below BB;replace c0 := X0.cell;replace B := below_next B BB;clear BB
 rcases hq with hq | ⟨hq0, hq1, HZ0, hns0⟩
 ·go_wp2;go_ret;exact ⟨rfl, B⟩
 have hq' : ¬ q < 0 := by omega
 have HZ : Hid _ := HZ0
 have HNX : Hid _ := hns0
 clear hq0 hq1 HZ0 hns0;go_wp2_with fail;refine (toCluster_any N M Sl xs ms es _ (x.below B) HZ.out).mono ?_;rintro e w2 ⟨z1, u1, N1, M1, S1, x1, m1, rfl, _, _, y1, e1, e2, s1, BB⟩;replace X0 := X0.below BB;replace c0 := X0.cell;replace B := below_next B BB;clear BB;go_wp2_with fail;refine (HS1.out N1 M1 S1 x1 m1 _ y1 s1 (e1.trans HRS.out) (e2.trans HNS.out)).mono ?_;rintro e w3 ⟨zp, up, Np, Mp, Lp, xp, mp, rfl, Gzp, hdP, dP, sp, fp, kp, BB⟩;have ozp := Nat.le_trans B.size Gzp;have o0_zp := ltl X0.lt Gzp;clear Gzp;replace X0 := X0.below BB;replace c0 := X0.cell;replace B := below_next B BB
 have Fp : Hid _ := fp
 have Kp : Hid _ := kp
 have Zp : Hid _ := sp
 clear fp kp sp;clear BB;clear y1 s1 e1 e2
 go_wp2_with (first | ((with_reducible refine sm 38 X1 0 [.int .i64 c, .slice Np.1 Np.2.1 Np.2.2, .slice Mp.1 Mp.2.1 Mp.2.2, .slice Lp.1 Lp.2.1 Lp.2.2] ?_);intro V1 S;replace X0 := X0.kp S.kept;replace c0 := X0.cell;replace X1 : Bx V1 b1 [.int .i64 c, .slice Np.1 Np.2.1 Np.2.2, .slice Mp.1 Mp.2.1 Mp.2.2, .slice Lp.1 Lp.2.1 Lp.2.2] := S.bx;replace c1 := X1.cell;replace f1 := X1.froz;replace dP := dP.kept S.kept (by omega);replace hdP := Nat.le_trans hdP S.kept.size;replace B := bkp B S.kept;clear S) | ((have g := ob0);clear g;(with_reducible refine al 38 [.int .i64 0, .slice none 0 0, .slice none 0 0, .slice none 0 0] ?_);intro b1 W1 N1;have ob1 := N1.o B;have o0_b1 := N1.u X0;have odP_b1 := Nat.le_trans hdP N1.ge;replace X0 := N1.r X0;replace c0 := X0.cell;replace dP := dP.below N1.below;replace hdP := Nat.le_trans hdP N1.below.size;replace B := N1.n B;obtain ⟨X1, c1, f1⟩ := N1.a;clear N1) | fail)
 refine (toCluster_any N M Sl xs ms es _ (x.below B) HZ.out).mono ?_;rintro e w4 ⟨zY, uY, N2, M2, S2, x2, m2, rfl, GzY, hy2, y2, e1, e2, s2, BB⟩;have ozY := Nat.le_trans B.size GzY;have o0_zY := ltl X0.lt GzY;have o1_zY := ltl X1.lt GzY;have odP_zY := Nat.le_trans hdP GzY;clear GzY;replace X0 := X0.below BB;replace c0 := X0.cell;replace X1 := X1.below BB;replace c1 := X1.cell;replace f1 := X1.froz;replace dP := dP.below BB;replace hdP := Nat.le_trans hdP BB.size;replace B := below_next B BB
 have E1 : Hid _ := e1
 have E2 : Hid _ := e2
 have SZ2 : Hid _ := s2
 have HN2 : Hid (nsum x2 ≤ 1048576) := by (show _ ≤ _;rw [clz_sum y2, e1, HRS.out, ← HSX.out];exact HNX.out)
 clear e1 e2 s2;clear BB
 go_wp2_with (first | ((with_reducible refine sm 36 X2 0 [.slice N2.1 N2.2.1 N2.2.2, .slice M2.1 M2.2.1 M2.2.2, .slice S2.1 S2.2.1 S2.2.2] ?_);intro V2 S;replace X0 := X0.kp S.kept;replace c0 := X0.cell;replace X1 := X1.kp S.kept;replace c1 := X1.cell;replace f1 := X1.froz;replace X2 : Bx V2 b2 [.slice N2.1 N2.2.1 N2.2.2, .slice M2.1 M2.2.1 M2.2.2, .slice S2.1 S2.2.1 S2.2.2] := S.bx;replace c2 := X2.cell;replace f2 := X2.froz;replace dP := dP.kept S.kept (by omega);replace hdP := Nat.le_trans hdP S.kept.size;replace y2 := y2.kept S.kept (by omega);replace hy2 := Nat.le_trans hy2 S.kept.size;replace B := bkp B S.kept;clear S) | ((have g := ob1);clear g;(with_reducible refine al 36 [.slice none 0 0, .slice none 0 0, .slice none 0 0] ?_);intro b2 W2 N2;have ob2 := N2.o B;have o0_b2 := N2.u X0;have o1_b2 := N2.u X1;have odP_b2 := Nat.le_trans hdP N2.ge;have oy2_b2 := Nat.le_trans hy2 N2.ge;replace X0 := N2.r X0;replace c0 := X0.cell;replace X1 := N2.r X1;replace c1 := X1.cell;replace f1 := X1.froz;replace dP := dP.below N2.below;replace hdP := Nat.le_trans hdP N2.below.size;replace y2 := y2.below N2.below;replace hy2 := Nat.le_trans hy2 N2.below.size;replace B := N2.n B;obtain ⟨X2, c2, f2⟩ := N2.a;clear N2) | fail)
 refine (HI1.out N2 M2 S2 x2 m2 _ y2 SZ2.out (E1.out.trans HRS.out) (E2.out.trans HNS.out)).mono ?_;rintro e w5 ⟨zq, uq, Nq, Mq, Lq, xq, mq, rfl, Gzq, hdQ, dQ, sq, fq, kq, BB⟩;have ozq := Nat.le_trans B.size Gzq;have o0_zq := ltl X0.lt Gzq;have o1_zq := ltl X1.lt Gzq;have o2_zq := ltl X2.lt Gzq;have odP_zq := Nat.le_trans hdP Gzq;have oy2_zq := Nat.le_trans hy2 Gzq;clear Gzq;replace X0 := X0.below BB;replace c0 := X0.cell;replace X1 := X1.below BB;replace c1 := X1.cell;replace f1 := X1.froz;replace X2 := X2.below BB;replace c2 := X2.cell;replace f2 := X2.froz;replace dP := dP.below BB;replace hdP := Nat.le_trans hdP BB.size;replace y2 := y2.below BB;replace hy2 := Nat.le_trans hy2 BB.size;replace B := below_next B BB
 have Fq : Hid _ := fq
 have Kq : Hid _ := kq
 have Zq : Hid _ := sq
 clear fq kq sq;clear BB
 have HNQ : Hid (nsum xq ≤ 1280) := by (show _ ≤ _;rw [clz_sum dQ, Fq.out];exact HNF.out)
 have HLQ : Hid (mq.length = Mq.2.1) := dQ.mails.len
 go_wp2_with (first | ((with_reducible refine sm 38 X3 0 [.int .i64 c, .slice Nq.1 Nq.2.1 Nq.2.2, .slice Mq.1 Mq.2.1 Mq.2.2, .slice Lq.1 Lq.2.1 Lq.2.2] ?_);intro V3 S;replace X0 := X0.kp S.kept;replace c0 := X0.cell;replace X1 := X1.kp S.kept;replace c1 := X1.cell;replace f1 := X1.froz;replace X2 := X2.kp S.kept;replace c2 := X2.cell;replace f2 := X2.froz;replace X3 : Bx V3 b3 [.int .i64 c, .slice Nq.1 Nq.2.1 Nq.2.2, .slice Mq.1 Mq.2.1 Mq.2.2, .slice Lq.1 Lq.2.1 Lq.2.2] := S.bx;replace c3 := X3.cell;replace f3 := X3.froz;replace dP := dP.kept S.kept (by omega);replace hdP := Nat.le_trans hdP S.kept.size;replace y2 := y2.kept S.kept (by omega);replace hy2 := Nat.le_trans hy2 S.kept.size;replace dQ := dQ.kept S.kept (by omega);replace hdQ := Nat.le_trans hdQ S.kept.size;replace B := bkp B S.kept;clear S) | ((have g := ob2);clear g;(with_reducible refine al 38 [.int .i64 0, .slice none 0 0, .slice none 0 0, .slice none 0 0] ?_);intro b3 W3 N3;have ob3 := N3.o B;have o0_b3 := N3.u X0;have o1_b3 := N3.u X1;have o2_b3 := N3.u X2;have odP_b3 := Nat.le_trans hdP N3.ge;have oy2_b3 := Nat.le_trans hy2 N3.ge;have odQ_b3 := Nat.le_trans hdQ N3.ge;replace X0 := N3.r X0;replace c0 := X0.cell;replace X1 := N3.r X1;replace c1 := X1.cell;replace f1 := X1.froz;replace X2 := N3.r X2;replace c2 := X2.cell;replace f2 := X2.froz;replace dP := dP.below N3.below;replace hdP := Nat.le_trans hdP N3.below.size;replace y2 := y2.below N3.below;replace hy2 := Nat.le_trans hy2 N3.below.size;replace dQ := dQ.below N3.below;replace hdQ := Nat.le_trans hdQ N3.below.size;replace B := N3.n B;obtain ⟨X3, c3, f3⟩ := N3.a;clear N3) | fail)
 refine (eqClR_yes c Nq Mq Lq Np Mp Lp xq xp mq mp E' _ dQ dP (Fp.out.trans Fq.out.symm) (Kp.out.trans Kq.out.symm) Zq.out).mono ?_;rintro e w6 ⟨rfl, BB⟩;replace X0 := X0.below BB;replace c0 := X0.cell;replace X1 := X1.below BB;replace c1 := X1.cell;replace f1 := X1.froz;replace X2 := X2.below BB;replace c2 := X2.cell;replace f2 := X2.froz;replace X3 := X3.below BB;replace c3 := X3.cell;replace f3 := X3.froz;replace dP := dP.below BB;replace hdP := Nat.le_trans hdP BB.size;replace y2 := y2.below BB;replace hy2 := Nat.le_trans hy2 BB.size;replace dQ := dQ.below BB;replace hdQ := Nat.le_trans hdQ BB.size;replace B := below_next B BB;clear BB;go_wp2_with fail
 have DQ : Below w6.heap.size w6 w6.drew := (Below.refl _ _).drew
 replace X0 := X0.below DQ;replace c0 := X0.cell;replace X1 := X1.below DQ;replace c1 := X1.cell;replace f1 := X1.froz;replace X2 := X2.below DQ;replace c2 := X2.cell;replace f2 := X2.froz;replace X3 := X3.below DQ;replace c3 := X3.cell;replace f3 := X3.froz;replace dP := dP.below DQ;replace hdP := Nat.le_trans hdP DQ.size;replace y2 := y2.below DQ;replace hy2 := Nat.le_trans hy2 DQ.size;replace dQ := dQ.below DQ;replace hdQ := Nat.le_trans hdQ DQ.size;replace B := below_next B DQ;clear DQ
 refine wp_region_held_drew (S := (fun w' => (∀ k : Nat, w'.cell? ⟨b0, k, none⟩ = [.slice N.1 N.2.1 N.2.2, .slice M.1 M.2.1 M.2.2, .slice Sl.1 Sl.2.1 Sl.2.2][k]?) ∧ (∀ k : Nat, w'.cell? ⟨b2, k, none⟩ = [.slice N2.1 N2.2.1 N2.2.2, .slice M2.1 M2.2.1 M2.2.2, .slice S2.1 S2.2.1 S2.2.2][k]?))) (by kernel_rfl) ⟨c0, c2⟩ (fun hZq => ?_)
 refine tk 0 hZq ?_;refine tk 1 hZq ?_
 refine rd1 2 (fun KK hKK => ?_)
 go_simp
 go_at_call 7
 refine (toCluster_any N M Sl xs ms es _ (x.below B) HZ.out).mono ?_;rintro e v1 ⟨z9, u9, N9, M9, S9, x9, m9, rfl, _, _, y9, e1, e2, _, BB⟩;replace X0 := X0.below BB;replace c0 := X0.cell;replace X1 := X1.below BB;replace c1 := X1.cell;replace f1 := X1.froz;replace X2 := X2.below BB;replace c2 := X2.cell;replace f2 := X2.froz;replace X3 := X3.below BB;replace c3 := X3.cell;replace f3 := X3.froz;replace dP := dP.below BB;replace hdP := Nat.le_trans hdP BB.size;replace y2 := y2.below BB;replace hy2 := Nat.le_trans hy2 BB.size;replace dQ := dQ.below BB;replace hdQ := Nat.le_trans hdQ BB.size;replace B := below_next B BB;clear BB;clear hZq
 refine hKK _ _ ⟨c0, c2⟩ (fun hZq => ?_)
 clear hKK KK
 refine rd1 3 (fun KK hKK => ?_)
 go_simp
 go_at_call 11
 refine (eqCluster_yes N2 M2 S2 N9 M9 S9 x2 x9 m2 m9 es _ y2 y9 (e1.trans E1.out.symm) (e2.trans E2.out.symm) SZ2.out).mono ?_;rintro e v2 ⟨rfl, BB⟩;replace X0 := X0.below BB;replace c0 := X0.cell;replace X1 := X1.below BB;replace c1 := X1.cell;replace f1 := X1.froz;replace X2 := X2.below BB;replace c2 := X2.cell;replace f2 := X2.froz;replace X3 := X3.below BB;replace c3 := X3.cell;replace f3 := X3.froz;replace dP := dP.below BB;replace hdP := Nat.le_trans hdP BB.size;replace y2 := y2.below BB;replace hy2 := Nat.le_trans hy2 BB.size;replace dQ := dQ.below BB;replace hdQ := Nat.le_trans hdQ BB.size;replace B := below_next B BB;clear y9 e1 e2;clear BB;clear hZq
 refine hKK _ _ ⟨c0, c2⟩ (fun hZq => ?_)
 clear hKK KK;refine tk 4 hZq ?_
 refine wpAnyH_done (by kernel_rfl) ?_ _
 go_wp2_with fail
 have HL2 : Hid (m2.length = M2.2.1) := y2.mails.len
 have HIN : Hid (∀ q, inCl N2 M2 S2 x2 m2 q → zY ≤ q ∧ q < uY) := fun q hq => ⟨(y2.inB hq).1, (y2.inB hq).2.1⟩
 have hn2 : (1 : Int) + 6 * (nsum x2 : Int) ≤ 12000000 := by (have := HN2.out;omega)
 refine (markCluster_any N2 M2 S2 x2 m2 es 1 _ y2 SZ2.out (by omega) hn2).mono ?_
 rintro e w7 ⟨rfl, _, KSY⟩
 have KK : Kept zY uY _ w7 := KSY.kept HIN.out
 clear KSY HIN;replace X0 := X0.kp KK;replace c0 := X0.cell;replace X1 := X1.kp KK;replace c1 := X1.cell;replace f1 := X1.froz;replace X2 := X2.kp KK;replace c2 := X2.cell;replace f2 := X2.froz;replace X3 := X3.kp KK;replace c3 := X3.cell;replace f3 := X3.froz
 replace dP := dP.kept KK (by omega)
 replace hdP := Nat.le_trans hdP KK.size;replace hy2 := Nat.le_trans hy2 KK.size
 replace dQ := dQ.kept KK (by omega)
 replace hdQ := Nat.le_trans hdQ KK.size;replace B := bkp B KK;clear KK;clear y2 hy2
 have HI := (cQ_in (k := 1) (N := N2) (M := M2) (Sl := S2) (xs := x2) (ms := m2) (by omega) hn2 SZ2.out HL2.out).2.2.1
 generalize hqq : c3Q N2 M2 S2 x2 m2 1 = qy at *
 have HQqy : Hid _ := hqq
 clear hqq
 have hkqy : ¬ qy < 0 := by omega
 clear HI;clear hn2;go_wp2_with fail;refine (eqClR_yes c Nq Mq Lq Np Mp Lp xq xp mq mp E' _ dQ dP (Fp.out.trans Fq.out.symm) (Kp.out.trans Kq.out.symm) Zq.out).mono ?_;rintro e w8 ⟨rfl, BB⟩;replace X0 := X0.below BB;replace c0 := X0.cell;replace X1 := X1.below BB;replace c1 := X1.cell;replace f1 := X1.froz;replace X2 := X2.below BB;replace c2 := X2.cell;replace f2 := X2.froz;replace X3 := X3.below BB;replace c3 := X3.cell;replace f3 := X3.froz;replace dP := dP.below BB;replace hdP := Nat.le_trans hdP BB.size;replace dQ := dQ.below BB;replace hdQ := Nat.le_trans hdQ BB.size;replace B := below_next B BB;clear BB;go_wp2_with fail
 have KB : Hid (∀ q, inCl Nq Mq Lq xq mq q → zq ≤ q ∧ q < uq) := fun q hq => ⟨(dQ.inB hq).1, (dQ.inB hq).2.1⟩
 have hnq : (1 : Int) + 6 * (nsum xq : Int) ≤ 12000000 := by (have := HNQ.out;omega)
 have HNB : Hid _ := hnq
 refine (markClR_any c Nq Mq Lq xq mq E' 1 _ dQ Zq.out (by omega) hnq).mono ?_
 rintro e w9 ⟨rfl, dM, KS⟩;have KT := KS.kept KB.out;clear KS KB
 replace X0 := X0.kept KT (by omega)
 replace c0 := X0.cell
 replace X1 := X1.kept KT (by omega)
 replace c1 := X1.cell;replace f1 := X1.froz
 replace X2 := X2.kept KT (by omega)
 replace c2 := X2.cell;replace f2 := X2.froz
 replace X3 := X3.kept KT (by omega)
 replace c3 := X3.cell;replace f3 := X3.froz
 replace dP := dP.kept KT (by omega)
 replace hdP := Nat.le_trans hdP KT.size;replace hdQ := Nat.le_trans hdQ KT.size
 replace B := B.trans (KT.below _ (by omega) B.size)
 clear KT;clear dQ;have hdM := hdQ;clear hdQ
 have HI := (cQ_in (k := 1) (N := Nq) (M := Mq) (Sl := Lq) (xs := xq) (ms := mq) (by omega) hnq Zq.out HLQ.out).2.2.1
 generalize hqq : c3Q Nq Mq Lq xq mq 1 = qq at *
 have HQqq : Hid _ := hqq
 clear hqq
 have hkqq : ¬ qq < 0 := by omega
 clear HI
 have heq : (qq != qq) = false := by simp
 clear hnq;go_wp2_with fail
 refine (heldClR_any c Nq Mq Lq xq mq 1 _ dM Zq.out HLQ.out (by omega) HNB.out).mono ?_
 rintro e w10 ⟨rfl, BB⟩;replace X0 := X0.below BB;replace c0 := X0.cell;replace X1 := X1.below BB;replace c1 := X1.cell;replace f1 := X1.froz;replace X2 := X2.below BB;replace c2 := X2.cell;replace f2 := X2.froz;replace X3 := X3.below BB;replace c3 := X3.cell;replace f3 := X3.froz;replace dP := dP.below BB;replace hdP := Nat.le_trans hdP BB.size;replace dM := dM.below BB;replace hdM := Nat.le_trans hdM BB.size;replace B := below_next B BB;clear BB;rw [HQqq.out];go_wp2_with fail;refine (toCluster_any N M Sl xs ms es _ (x.below B) HZ.out).mono ?_;rintro e w11 ⟨z3, u3, N3, M3, S3, x3, m3, rfl, _, _, y3, e1, e2, s3, BB⟩;replace X0 := X0.below BB;replace c0 := X0.cell;replace X1 := X1.below BB;replace c1 := X1.cell;replace f1 := X1.froz;replace X2 := X2.below BB;replace c2 := X2.cell;replace f2 := X2.froz;replace X3 := X3.below BB;replace c3 := X3.cell;replace f3 := X3.froz;replace dP := dP.below BB;replace hdP := Nat.le_trans hdP BB.size;replace dM := dM.below BB;replace hdM := Nat.le_trans hdM BB.size;replace B := below_next B BB;clear BB;go_wp2_with fail;refine (HI1.out N3 M3 S3 x3 m3 _ y3 s3 (e1.trans HRS.out) (e2.trans HNS.out)).mono ?_;rintro e w12 ⟨zr, ur, Nr, Mr, Lr, xr, mr, rfl, Gzr, hdR, dR, sr, fr, kr, BB⟩;have ozr := Nat.le_trans B.size Gzr;have o0_zr := ltl X0.lt Gzr;have o1_zr := ltl X1.lt Gzr;have o2_zr := ltl X2.lt Gzr;have o3_zr := ltl X3.lt Gzr;have odP_zr := Nat.le_trans hdP Gzr;have odM_zr := Nat.le_trans hdM Gzr;clear Gzr;replace X0 := X0.below BB;replace c0 := X0.cell;replace X1 := X1.below BB;replace c1 := X1.cell;replace f1 := X1.froz;replace X2 := X2.below BB;replace c2 := X2.cell;replace f2 := X2.froz;replace X3 := X3.below BB;replace c3 := X3.cell;replace f3 := X3.froz;replace dP := dP.below BB;replace hdP := Nat.le_trans hdP BB.size;replace dM := dM.below BB;replace hdM := Nat.le_trans hdM BB.size;replace B := below_next B BB
 have Fr : Hid _ := fr
 have Kr : Hid _ := kr
 have Zr : Hid _ := sr
 clear fr kr sr;clear BB;clear y3 s3 e1 e2
 go_wp2_with (first | ((with_reducible refine sm 38 X4 0 [.int .i64 c, .slice Nr.1 Nr.2.1 Nr.2.2, .slice Mr.1 Mr.2.1 Mr.2.2, .slice Lr.1 Lr.2.1 Lr.2.2] ?_);intro V4 S;replace X0 := X0.kp S.kept;replace c0 := X0.cell;replace X1 := X1.kp S.kept;replace c1 := X1.cell;replace f1 := X1.froz;replace X2 := X2.kp S.kept;replace c2 := X2.cell;replace f2 := X2.froz;replace X3 := X3.kp S.kept;replace c3 := X3.cell;replace f3 := X3.froz;replace X4 : Bx V4 b4 [.int .i64 c, .slice Nr.1 Nr.2.1 Nr.2.2, .slice Mr.1 Mr.2.1 Mr.2.2, .slice Lr.1 Lr.2.1 Lr.2.2] := S.bx;replace c4 := X4.cell;replace f4 := X4.froz;replace dP := dP.kept S.kept (by omega);replace hdP := Nat.le_trans hdP S.kept.size;replace dM := dM.kept S.kept (by omega);replace hdM := Nat.le_trans hdM S.kept.size;replace dR := dR.kept S.kept (by omega);replace hdR := Nat.le_trans hdR S.kept.size;replace B := bkp B S.kept;clear S) | ((have g := ob3);clear g;(with_reducible refine al 38 [.int .i64 0, .slice none 0 0, .slice none 0 0, .slice none 0 0] ?_);intro b4 W4 N4;have ob4 := N4.o B;have o0_b4 := N4.u X0;have o1_b4 := N4.u X1;have o2_b4 := N4.u X2;have o3_b4 := N4.u X3;have odP_b4 := Nat.le_trans hdP N4.ge;have odM_b4 := Nat.le_trans hdM N4.ge;have odR_b4 := Nat.le_trans hdR N4.ge;replace X0 := N4.r X0;replace c0 := X0.cell;replace X1 := N4.r X1;replace c1 := X1.cell;replace f1 := X1.froz;replace X2 := N4.r X2;replace c2 := X2.cell;replace f2 := X2.froz;replace X3 := N4.r X3;replace c3 := X3.cell;replace f3 := X3.froz;replace dP := dP.below N4.below;replace hdP := Nat.le_trans hdP N4.below.size;replace dM := dM.below N4.below;replace hdM := Nat.le_trans hdM N4.below.size;replace dR := dR.below N4.below;replace hdR := Nat.le_trans hdR N4.below.size;replace B := N4.n B;obtain ⟨X4, c4, f4⟩ := N4.a;clear N4) | fail)
 refine (eqClR_yes c Nr Mr Lr Np Mp Lp xr xp mr mp E' _ dR dP (Fp.out.trans Fr.out.symm) (Kp.out.trans Kr.out.symm) Zr.out).mono ?_;rintro e w13 ⟨rfl, BB⟩;replace X0 := X0.below BB;replace c0 := X0.cell;replace X1 := X1.below BB;replace c1 := X1.cell;replace f1 := X1.froz;replace X2 := X2.below BB;replace c2 := X2.cell;replace f2 := X2.froz;replace X3 := X3.below BB;replace c3 := X3.cell;replace f3 := X3.froz;replace X4 := X4.below BB;replace c4 := X4.cell;replace f4 := X4.froz;replace dP := dP.below BB;replace hdP := Nat.le_trans hdP BB.size;replace dM := dM.below BB;replace hdM := Nat.le_trans hdM BB.size;replace dR := dR.below BB;replace hdR := Nat.le_trans hdR BB.size;replace B := below_next B BB;clear BB;go_wp2_with fail
 refine (heldClR_any c Nq Mq Lq xq mq 1 _ dM Zq.out HLQ.out (by omega) HNB.out).mono ?_
 rintro e w14 ⟨rfl, BB⟩;replace X0 := X0.below BB;replace c0 := X0.cell;replace X1 := X1.below BB;replace c1 := X1.cell;replace f1 := X1.froz;replace X2 := X2.below BB;replace c2 := X2.cell;replace f2 := X2.froz;replace X3 := X3.below BB;replace c3 := X3.cell;replace f3 := X3.froz;replace X4 := X4.below BB;replace c4 := X4.cell;replace f4 := X4.froz;replace dP := dP.below BB;replace hdP := Nat.le_trans hdP BB.size;replace dM := dM.below BB;replace hdM := Nat.le_trans hdM BB.size;replace dR := dR.below BB;replace hdR := Nat.le_trans hdR BB.size;replace B := below_next B BB;clear BB;rw [HQqq.out];go_wp2;go_ret;exact ⟨rfl, B⟩
open Go.ChangeShapes Go.WideShapes Go.ChangeAt Go.Joins
set_option maxRecDepth 100000 in
theorem liftedLoseMail (os : Os) (started : os.Started) (H : Type) (enc : TypeId × Value → H) :
  ReturnsInHanded {} Tryz.checked os 4 .any (Rows.fnExactLoseMailSpec.pre6 enc Tryz.prog Tryz.f4 Rows.fnExactLoseMailRow.domain false) (Rows.fnExactLoseMailSpec.post enc Tryz.prog Tryz.f4 false true false false) := by
 refine returnsInHanded_of_change (C := Tryz.checked) Tryz.own started (by kernel_rfl) Tryz.func4
  (ChangeSpec.witness6 (enc := enc) (C := Tryz.checked) false ⟨#[], #[.agg #[.slice none 0 0, .slice none 0 0, .slice none 0 0], .int .i64 0], []⟩ 8 (by kernel_rfl) (by kernel_rfl) (by kernel_rfl) (by kernel_rfl)) ?_
 intro W base args ds gs before hval0 hW hcnd _
 have hval : ∀ (j : Nat) t v, Tryz.f4.params[j]? = some t → args[j]? = some v → Value.okWide Tryz.prog W .any base t v := hval0
 have hW' := hW
 obtain ⟨p, q, hA0, hV, rfl, hfz, hnd⟩ := hW
 have hA : DataW.TrodAll enc Tryz.prog W 0 (fun _ => true) true Tryz.f4.params.toList args.toList ds p := hA0
 rw [Tryz.params4] at hA hval
 obtain ⟨v0, vs0, d0, ds0, p0, q0, hargs, rfl, rfl, h0, r0⟩ := trodAll_cons hA
 obtain ⟨v1, vs1, d1, ds1, p1, q1, rfl, rfl, rfl, h1, r1⟩ := trodAll_cons r0
 obtain ⟨rfl, rfl, rfl⟩ := trodAll_nil r1
 obtain rfl : args = #[v0, v1] := by cases args;simp_all
 obtain ⟨rfl, rfl⟩ := trodVars_none hV
 have lt0 : ∀ x ∈ p0, x.block < W.heap.size := by obtain ⟨m, hm⟩ := h0;exact DataW.trod_lt m _ _ _ hm
 have k0 := h0
 obtain ⟨cN, cM, cS, cx, cm, ce, rfl, cz, cl⟩ := open_cluster Tryz.clTy (hval 0 26 v0 rfl rfl) h0
 obtain ⟨x1, rfl, rfl, rfl, wx1⟩ := open_int Tryz.underlying2 (hval 1 2 v1 rfl rfl) h1
 clear hA0 hval0
 refine (lawLoseMail cN cM cS cx cm ce x1 W cl cz).mono fun e W' ⟨he, bel⟩ => ?_
 subst he
 exact ⟨_, rfl, _, _, _, [], _, [], hW', trodAll_mk1 (shut_bool Tryz.underlying4 _), (trodAll_cons_mk (Below.trod Tryz.laidOut (by kernel_rfl) (of_decide_eq_true (by kernel_rfl)) k0 bel lt0) (trodAll_cons_mk (shut_int Tryz.underlying2 wx1) trodAll_mk0)), rfl, bel.frame _, fun h => by cases h⟩
set_option maxRecDepth 100000 in
theorem closedLoseMail : joinedFacts Tryz.prog 4 Tryz.f4 Rows.fnExactLoseMailSpec Rows.fnExactLoseMailRow = true := by
 have q1 : (Rows.fnExactLoseMailRow.inPlace == Tryz.prog.inPlace 4) = true := by rw [inPlace_at leads_is inp_is];kernel_rfl
 have q2 : (Rows.fnExactLoseMailRow.unfollowed == Tryz.prog.unfollowed 4) = true := by rw [unfollowed_at leads_is unf_is];kernel_rfl
 have q3 : (Rows.fnExactLoseMailRow.recurses == Tryz.prog.recurses 4) = true := (by rw [recurses_unf leads_is (by rw [unfollowed_at leads_is unf_is];kernel_rfl)];rfl)
 have q4 : (Rows.fnExactLoseMailRow.named == Tryz.prog.varsNamed 4) = true := by rw [varsNamed_at leads_is var_ok ent_is];kernel_rfl
 have q5 : (Tryz.prog.make == some Rows.fnExactLoseMailRow.make) = true := by rw [made_cut];rfl
 have q6 : (Rows.fnExactLoseMailRow.lifted == Tryz.prog.liftsFinal) = true := by rw [lifts_no];rfl
 have q7 : Tryz.prog.mayEnter = true := may_enter
 have q8 : laidOutB Tryz.prog = true := Tryz.laidOut
 unfold joinedFacts
 repeat' (with_reducible refine Bool.and_eq_true_iff.2 ⟨?_, ?_⟩)
 all_goals (first | with_reducible exact q1 | with_reducible exact q2 | with_reducible exact q3 | with_reducible exact q4 | with_reducible exact q5 | with_reducible exact q6 | with_reducible exact q7 | with_reducible exact q8 | (as_aux_lemma => kernel_rfl))
theorem loseMail_holds : Rows.FnExactLoseMailSaid :=
 OpenClaim.holds_of_wide 4 Tryz.f4 rfl rfl rfl rfl rfl rfl rfl ⟨rfl, rfl, rfl, rfl, rfl⟩ rfl rfl rfl rfl rfl (by as_aux_lemma => kernel_rfl) Tryz.func4 closedLoseMail
  (of_decide_eq_true (by as_aux_lemma => kernel_rfl)) (by unfold Func.isWrapper;first | (rw [if_pos (by decide +kernel)];kernel_rfl) | (rw [if_neg (by decide +kernel)];exact ⟨rfl, rfl⟩))
  (fun os started H enc _ => liftedLoseMail os started H enc)
#print axioms loseMail_holds
end Go.Proofs.YtclghfoinologaaGreat
