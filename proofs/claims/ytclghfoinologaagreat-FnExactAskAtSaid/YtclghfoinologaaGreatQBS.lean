/- Chapter 11: AskAt of the model. -/
import Derived.Test.YtclghfoinologaaGreatQBR
set_option maxRecDepth 20000
set_option maxHeartbeats 16000000
namespace Go.Proofs.YtclghfoinologaaGreat
open Go.RowKit
theorem specAskAt_is (xe : En) {own : Bool} {lo hi : Nat} (N M Sl : Hd) (xs : List Nod) (ms : List Mal) (es : List En) (v : Int) (w : World) (x : ClAt w own lo hi N M Sl xs ms es) (hs : ClSz N M Sl xs ms 1048576) (rs : List Rep) (ns : List Ml) (hrs : xs.map (·.1) = rs) (hns : ms.map (·.1) = ns) (cd : Int) (R' : List Rep) (M' : List Ml) (E' : List En) (hc : atC rs ns es v (fun r => askC r xe) = cd) (hR : atN rs ns es v (fun r => askC r xe) (fun r => askQ r xe) = R') (hM : atM rs ns es v (fun r => askC r xe) (fun r => askM r xe) = M') (hE : atE rs ns es v (fun r => askC r xe) (fun r => askQ r xe) = E') :
  Calls Tryz.prog 6 #[.agg #[.slice N.1 N.2.1 N.2.2, .slice M.1 M.2.1 M.2.2, .slice Sl.1 Sl.2.1 Sl.2.2], .int .i64 v, .agg #[.int .i64 xe.1, .int .i64 xe.2.1, .int .i64 xe.2.2.1, .int .i64 xe.2.2.2.1, .int .i64 xe.2.2.2.2.1, .int .i64 xe.2.2.2.2.2]] w fun e w' => ClRes false w w' e cd R' M' E' := by
 obtain ⟨na, nn, nc⟩ := N
 have hlen : rs.length = nn := by rw [← hrs];simpa using x.nodes.len
 have HX : Hid _ := x
 have HRS : Hid _ := hrs
 have HNS : Hid _ := hns
 have HLEN : Hid _ := hlen
 have HCD : Hid _ := hc
 have HR : Hid _ := hR
 have HM : Hid _ := hM
 have HE : Hid _ := hE
 obtain ⟨d, hd⟩ : ∃ d, nplC (cluF rs ns es) nn v = d := ⟨_, rfl⟩
 have HD : Hid _ := hd
 have HS : Hid _ := hs
 clear hc hR hM hE hd hs hrs hns hlen x
 go_enter Tryz.func6, Tryz.ntmps6
 go_wp2_with (first | ((have g := ob1);clear g;(with_reducible refine al 38 [.int .i64 0, .slice none 0 0, .slice none 0 0, .slice none 0 0] ?_);intro b2 W2 N2;have ob2 := N2.o B;have o0_b2 := N2.u X0;have o1_b2 := N2.u X1;replace X0 := N2.r X0;replace c0 := X0.cell;replace f0 := X0.froz;replace X1 := N2.r X1;replace c1 := X1.cell;replace f1 := X1.froz;replace B := N2.n B;obtain ⟨X2, c2, f2⟩ := N2.a;clear N2) | ((have g := ob0);clear g;(with_reducible refine box_newX 43 [.int .i64 xe.1, .int .i64 xe.2.1, .int .i64 xe.2.2.1, .int .i64 xe.2.2.2.1, .int .i64 xe.2.2.2.2.1, .int .i64 xe.2.2.2.2.2] rfl ?_);intro b1 W1 N1;have ob1 := N1.o B;have o0_b1 := N1.u X0;replace X0 := N1.r X0;replace c0 := X0.cell;replace f0 := X0.froz;replace B := N1.n B;obtain ⟨X1, c1, f1⟩ := N1.a;clear N1) | ((with_reducible refine box_newX 36 [.slice na nn nc, .slice M.1 M.2.1 M.2.2, .slice Sl.1 Sl.2.1 Sl.2.2] rfl ?_);intro b0 W0 N0;have ob0 := N0.ge;have B := N0.below;obtain ⟨X0, c0, f0⟩ := N0.a;clear N0) | fail)
 refine (l11Node_is b0 (na, nn, nc) M Sl xs ms es v _ X0 (HX.out.below B) HS.out d (by rw [HRS.out, HNS.out];exact HD.out)).mono ?_
 rintro e w1 ⟨rfl, BB⟩;replace X0 := X0.below BB;replace c0 := X0.cell;replace f0 := X0.froz;replace X1 := X1.below BB;replace c1 := X1.cell;replace f1 := X1.froz;replace X2 := X2.below BB;replace c2 := X2.cell;replace f2 := X2.froz;replace B := below_next B BB;clear BB
 by_cases q2 : d = 0
 rotate_left 1
 ·have q2' : (d != 0) = true := by simp [q2]
  go_wp2_with fail;refine (l11Bad_is d _).mono ?_;rintro e w2 ⟨rfl, BB⟩;replace X0 := X0.below BB;replace c0 := X0.cell;replace f0 := X0.froz;replace X1 := X1.below BB;replace c1 := X1.cell;replace f1 := X1.froz;replace X2 := X2.below BB;replace c2 := X2.cell;replace f2 := X2.froz;replace B := below_next B BB;clear BB
  go_wp2_with (first | ((with_reducible refine sm 38 X2 0 [.int .i64 d, .slice none 0 0, .slice none 0 0, .slice none 0 0] ?_);intro V1 S;replace X0 := X0.kp S.kept;replace c0 := X0.cell;replace f0 := X0.froz;replace X1 := X1.kp S.kept;replace c1 := X1.cell;replace f1 := X1.froz;replace X2 : Bx V1 b2 [.int .i64 d, .slice none 0 0, .slice none 0 0, .slice none 0 0] := S.bx;replace c2 := X2.cell;replace f2 := X2.froz;replace B := bkp B S.kept;clear S))
  refine bodyPost_ret (v := .agg #[.int .i64 d, .slice none 0 0, .slice none 0 0, .slice none 0 0]) (by simp [results, Tryz.results6, go_sem, *]) rfl ?_
  obtain ⟨e1, e2, e3, e4⟩ := atC_bad (C := (fun r => askC r xe)) (Q := (fun r => askQ r xe)) (Ms := (fun r => askM r xe)) (rs := rs) (by rw [HLEN.out];exact HD.out) q2
  rw [← HCD.out, ← HR.out, ← HM.out, ← HE.out, e1, e2, e3, e4];exact DoM.nix _ d B
 subst q2
 obtain ⟨hF, hv0, hv1⟩ := npl_ok HD.out
 have HF : Hid _ := hF
 obtain ⟨i, hiv⟩ : ∃ i : Nat, v = (i : Int) := ⟨v.toNat, by omega⟩
 subst hiv
 have hin : i < nn := by omega
 have hik : (i : Int) < (nn : Int) := by omega
 clear hF hv0 hv1
 have HFW : Hid (∀ (j : Nat) (a : Nod), xs[j]? = some a → repF a.1 = 0) := fun j a e => by
  have hj : j < xs.length := (List.getElem?_eq_some_iff.1 e).1
  have h1 := (nodesF_all (clu_parts HF.out).2.2.1 j (by rw [← HRS.out, List.length_map];exact hj)).1
  rw [← HRS.out, mapD e] at h1;exact h1
 have H5 : Hid (nn ≤ 5) := by (show _;have := (clu_parts HF.out).1;rw [HLEN.out] at this;exact this)
 have H120 : Hid (M.2.1 ≤ 120) := by
  show _
  have := (clu_parts HF.out).2.1
  rw [← HNS.out, List.length_map, LAt.len HX.out.mails] at this;exact this
 have HDF : Hid (∀ (j : Nat) (a : Nod), xs[j]? = some a → a.2.D.2.1 ≤ 1000) := fun j a e => doers_few (HX.out.nodes.each j a e) (HFW.out j a e)
 have XN0 := LAt.node HX.out.nodes hin
 obtain ⟨r, h, b, off, ex, en, _, _, XN0, y0, _⟩ := XN0
 have hbw : b < w.heap.size := XN0.lt
 have hmk := HS.out.nodes i _ ex
 have HER : Hid (rs.getD i rep0 = r) := by (show _ = _;rw [← HRS.out];exact mapD ex)
 have HR0 : Hid (repF r = 0) := HFW.out i _ ex
 clear ex
 simp only at hmk en
 subst en
 obtain ⟨c, hc⟩ : ∃ c, (fun r => askC r xe) r = c := ⟨_, rfl⟩
 obtain ⟨q, hq⟩ : ∃ q : Rep, (fun r => askQ r xe) r = q := ⟨_, rfl⟩
 obtain ⟨zq, hzq⟩ : ∃ zq : List Ml, (fun r => askM r xe) r = zq := ⟨_, rfl⟩
 have HAT := atC_code (C := (fun r => askC r xe)) (Q := (fun r => askQ r xe)) (Ms := (fun r => askM r xe)) (rs := rs) (ms := ns) (es := es) (v := (i : Int)) (c := c) (by rw [HLEN.out];exact HD.out) (by rw [Int.toNat_natCast, HER.out];exact hc)
 rw [Int.toNat_natCast, HER.out] at HAT
 dsimp only at HAT hc hq hzq
 rw [hq, hzq] at HAT
 have HAT2 : Hid _ := HAT
 have HC1 : Hid _ := hc
 have HQ1 : Hid _ := hq
 have HZ1 : Hid _ := hzq
 have HCM : Hid (c = 0 → 0 ≤ q.commit ∧ q.commit ≤ q.log.length) := fun z => by (rw [← HQ1.out];exact ask_com xe r HR0.out (HC1.out.trans z))
 clear HAT hc hq hzq;have XN := XN0.below B;have y := y0.below B;have cN := XN.cell;clear XN0 y0;go_wp2_with fail
 have DQ : Below w1.heap.size w1 w1.drew := (Below.refl _ _).drew
 replace X0 := X0.below DQ;replace c0 := X0.cell;replace f0 := X0.froz;replace X1 := X1.below DQ;replace c1 := X1.cell;replace f1 := X1.froz;replace X2 := X2.below DQ;replace c2 := X2.cell;replace f2 := X2.froz;replace B := below_next B DQ;clear DQ;replace XN := XN.below (Below.drew (Below.refl _ _));replace cN := XN.cell;replace y := RepAt.below y (Below.drew (Below.refl _ _))
 refine wp_region_held_drew (S := (fun w' => (∀ k_2 : Nat, w'.cell? ⟨b0, k_2, none⟩ = [.slice (some ⟨b, off, none⟩) nn nc, .slice M.1 M.2.1 M.2.2, .slice Sl.1 Sl.2.1 Sl.2.2][k_2]?) ∧ (∀ k_2 : Nat, w'.cell? ⟨b1, k_2, none⟩ = [.int .i64 xe.1, .int .i64 xe.2.1, .int .i64 xe.2.2.1, .int .i64 xe.2.2.2.1, .int .i64 xe.2.2.2.2.1, .int .i64 xe.2.2.2.2.2][k_2]?) ∧ (w'.cell? ⟨b, off + i * 10, none⟩ = [.int .i64 r.id, .int .i64 r.size, .int .i64 r.view, .bool r.normal, .int .i64 r.last, .slice h.L.1 h.L.2.1 h.L.2.2, .int .i64 r.commit, .slice h.O.1 h.O.2.1 h.O.2.2, .slice h.A.1 h.A.2.1 h.A.2.2, .slice h.D.1 h.D.2.1 h.D.2.2][0]? ∧ ∀ k_1 : Nat, k_1 < 10 → w'.cell? ⟨b, off + i * 10 + k_1, none⟩ = [.int .i64 r.id, .int .i64 r.size, .int .i64 r.view, .bool r.normal, .int .i64 r.last, .slice h.L.1 h.L.2.1 h.L.2.2, .int .i64 r.commit, .slice h.O.1 h.O.2.1 h.O.2.2, .slice h.A.1 h.A.2.1 h.A.2.2, .slice h.D.1 h.D.2.1 h.D.2.2][k_1]?))) (by kernel_rfl) ⟨c0, c1, cN⟩ (fun hZq => ?_)
 refine tk 0 hZq ?_;refine tk 1 hZq ?_;refine tk 2 hZq ?_;refine tk 3 hZq ?_;refine tk 4 hZq ?_;refine tk 5 hZq ?_;refine tk 6 hZq ?_;refine tk 7 hZq ?_
 refine rd1 8 (fun KK hKK => ?_)
 go_simp
 go_at_call 23
 refine (specAsk_is r h xe _ y hmk c q zq HC1.out HQ1.out HZ1.out).mono ?_;rintro e v1 ⟨z, u, hA, s, Km, rfl, Gz, hAA, AA, ZA, BB⟩;obtain ⟨l0, hl0⟩ : ∃ l, l = w1.drew.heap.size := ⟨_, rfl⟩
 have G0 : l0 ≤ z := by rw [hl0];exact Gz
 have lb1 : b2 < l0 := by rw [hl0];exact X2.lt
 have lw0 : w.heap.size ≤ l0 := by rw [hl0];exact B.size
 have hl1 : l0 ≤ v1.heap.size := by rw [hl0];exact BB.size
 clear hl0 Gz;replace X0 := X0.below BB;replace c0 := X0.cell;replace f0 := X0.froz;replace X1 := X1.below BB;replace c1 := X1.cell;replace f1 := X1.froz;replace X2 := X2.below BB;replace c2 := X2.cell;replace f2 := X2.froz;replace B := below_next B BB;replace XN := XN.below BB;replace cN := XN.cell
 have HAA : Hid _ := AA
 have HZA : Hid _ := ZA
 clear BB AA ZA y;clear hZq
 refine hKK _ _ ⟨c0, c1, cN⟩ (fun hZq => ?_)
 clear hKK KK
 refine rd1 9 (fun KK hKK => ?_)
 have HQR : Hid ((if c = 0 then doN (xs.map (·.1)) i q else []) = R') := by
  show _ = _
  rw [← HR.out]
  by_cases z : c = 0
  ·rw [if_pos z, HRS.out, (HAT2.out.2.2 z).1]
  ·rw [if_neg z, (HAT2.out.2.1 z).1]
 have HQM : Hid ((if c = 0 then doM (ms.map (·.1)) zq else []) = M') := by
  show _ = _
  rw [← HM.out]
  by_cases z : c = 0
  ·rw [if_pos z, HNS.out, (HAT2.out.2.2 z).2.1]
  ·rw [if_neg z, (HAT2.out.2.1 z).2.1]
 have HQE : Hid ((if c = 0 then sealE q es else []) = E') := by
  show _ = _
  rw [← HE.out]
  by_cases z : c = 0
  ·rw [if_pos z, (HAT2.out.2.2 z).2.2]
  ·rw [if_neg z, (HAT2.out.2.1 z).2.2]
 go_simp
 go_at_call 22
 refine (l11Do_is (some ⟨b, off, none⟩, nn, nc) M Sl xs ms es i hin _ (HX.out.below B) HS.out H5.out H120.out HDF.out c q hA s Km zq HAA.out HZA.out G0 hl1 hAA HCM.out R' M' E' HQR.out HQM.out HQE.out).mono ?_;rintro e v2 ⟨N3, M3, S3, x3, y3, rfl, A3, Z3, f1', f2', BB⟩;replace X0 := X0.below BB;replace c0 := X0.cell;replace f0 := X0.froz;replace X1 := X1.below BB;replace c1 := X1.cell;replace f1 := X1.froz;replace X2 := X2.below BB;replace c2 := X2.cell;replace f2 := X2.froz;replace B := below_next B BB;replace XN := XN.below BB;replace cN := XN.cell
 have HA3 : Hid _ := A3
 have HZ3 : Hid _ := Z3
 have HF1 : Hid _ := f1'
 have HF2 : Hid _ := f2'
 clear BB A3 Z3 f1' f2' HAA HZA;clear hZq
 refine hKK _ _ ⟨c0, c1, cN⟩ (fun hZq => ?_)
 clear hKK KK
 refine rd1 10 (fun KK hKK => ?_)
 refine step_midX 38 X2 0 [.int .i64 c, .slice N3.1 N3.2.1 N3.2.2, .slice M3.1 M3.2.1 M3.2.2, .slice S3.1 S3.2.1 S3.2.2] (by simp) (by kernel_rfl) (by simp [Value.oneCell']) rfl rfl ?_
 intro V9 S;have hk2 := S.kept
 have B7 := S.kept.below w.heap.size (by omega) B.size
 replace XN := XN.low B7 hbw;replace cN := XN.cell;clear B7;replace X0 := X0.kp S.kept;replace c0 := X0.cell;replace f0 := X0.froz;replace X1 := X1.kp S.kept;replace c1 := X1.cell;replace f1 := X1.froz
 replace X2 : Bx V9 b2 [.int .i64 c, .slice N3.1 N3.2.1 N3.2.2, .slice M3.1 M3.2.1 M3.2.2, .slice S3.1 S3.2.1 S3.2.2] := S.bx
 replace c2 := X2.cell;replace f2 := X2.froz;replace B := bkp B S.kept;clear S;clear hZq
 refine hKK _ _ ⟨c0, c1, cN⟩ (fun hZq => ?_)
 clear hKK KK
 refine wpAnyH_done (by kernel_rfl) ?_ _
 go_wp2
 refine bodyPost_ret (v := .agg #[.int .i64 c, .slice N3.1 N3.2.1 N3.2.2, .slice M3.1 M3.2.1 M3.2.2, .slice S3.1 S3.2.1 S3.2.2]) (by simp [results, Tryz.results6, go_sem, *]) rfl ?_
 rw [← HCD.out, HAT2.out.1]
 exact ⟨N3, M3, S3, x3, y3, rfl, (HA3.out.kept hk2 (Or.inr (by omega))).widen lw0 hk2.size, HZ3.out, HF1.out, HF2.out, B⟩
theorem doC_is (FN : Nat) (hcf : ∀ (vs : Array Value) (W : World), (callFunc FN vs).run Tryz.prog W = .ok (.enter FN vs) W) (pc : Nat) {base b0 : Nat} (N M Sd : Hd) (xs : List Nod) (ys : List Mal) (es : List En) (i : Nat) (hi : i < N.2.1) (r : Rep) (h : RH) (ex : xs[i]? = some (r, h)) (w : World) (x : LiveAt w 96 base b0 N M Sd xs ys es) (hbw : base ≤ w.heap.size) (h120 : M.2.1 ≤ 120) (c : Int) (q : Rep) (ms : List Ml)
  (hact : ∀ (W : World) (own : Bool) (lo hi : Nat) (hA : RH), Below w.heap.size w W → RepAt W own lo hi hA r → RSz hA 1048576 → Calls Tryz.prog FN #[.agg #[.int .i64 r.id, .int .i64 r.size, .int .i64 r.view, .bool r.normal, .int .i64 r.last, .slice hA.L.1 hA.L.2.1 hA.L.2.2, .int .i64 r.commit, .slice hA.O.1 hA.O.2.1 hA.O.2.2, .slice hA.A.1 hA.A.2.1 hA.A.2.2, .slice hA.D.1 hA.D.2.1 hA.D.2.2], .pointer (some ⟨pc, 0, none⟩)] W fun e w' => NodeAns W w' e c q ms) (hcm : c = 0 → 0 ≤ q.commit ∧ q.commit ≤ q.log.length) :
  Calls Tryz.prog 60 #[.pointer (some ⟨b0, 0, none⟩), .int .i64 i, .func (.func FN) #[] #[.pointer (some ⟨pc, 0, none⟩)]] w fun e w' => e = .returned (.int .i64 c) ∧ DoRes w w' 96 base b0 c (doN (xs.map (·.1)) i q) (doM (ys.map (·.1)) ms) (sealE q es) := by
 have HX : Hid _ := x
 have HA : Hid _ := hact
 have HCM : Hid _ := hcm
 have HBW : Hid _ := hbw
 have HI : Hid _ := hi
 have HEX : Hid _ := ex
 have hik : (i : Int) < (N.2.1 : Int) := by omega
 have X0 := x.bx;have c0 := X0.cell;have f0 := X0.froz;have ob0 := X0.lt;have HN5 := x.sz.n;clear x hact hcm hbw ex
 have hmf : ∀ (fn : Fn) (first cap : Array Value) (w : World), (Instr.makeFunc fn first cap).run Tryz.prog w = .ok (.func fn first cap) w := fun _ _ _ _ => rfl
 obtain ⟨r', h2, p, o, ex2, eN, hbp, _, Xn, y, -⟩ := LAt.node HX.out.nodes hi
 have e9 : (r', h2) = (r, h) := by rw [HEX.out] at ex2;exact (Option.some.inj ex2).symm
 simp only [Prod.mk.injEq] at e9
 obtain ⟨rfl, rfl⟩ := e9
 obtain ⟨N1, Nn, Nc⟩ := N
 simp only at eN hi HI hik HN5 X0 c0
 subst eN;clear ex2;have cN := Xn.cell
 have hps : p < w.heap.size := Xn.lt
 have hsr : RSz h2 1048576 := HX.out.sz.nodes i _ HEX.out
 go_enter_defers Tryz.func60, Tryz.ntmps60
 go_wp2_with (first | ((have g := ob0);clear g;(with_reducible refine box_ptrX _ (some ⟨b0, 0, none⟩) rfl ?_);intro b1 W1 N1;have ob1 := N1.ge;have o0_b1 := N1.u X0;replace X0 := N1.r X0;replace c0 := X0.cell;replace f0 := X0.froz;replace Xn := Xn.below N1.below;replace cN := Xn.cell;replace y := RepAt.below y N1.below;have B := N1.below;obtain ⟨X1, c1, f1⟩ := N1.a;clear N1) | fail)
 refine (HA.out _ _ _ _ h2 B y hsr).mono ?_;rintro e w2 ⟨zA, uA, h', s, Km, rfl, GzA, hAA, AA, ZA, BB⟩;have ozA := Nat.le_trans B.size GzA;have o0_zA := ltl X0.lt GzA;have o1_zA := ltl X1.lt GzA;clear GzA;replace X0 := X0.below BB;replace c0 := X0.cell;replace f0 := X0.froz;replace X1 := X1.below BB;replace c1 := X1.cell;replace f1 := X1.froz;replace Xn := Xn.below BB;replace B := below_next B BB;clear BB
 have HZA : Hid _ := ZA
 clear ZA y Xn cN
 have HAP : Hid (∀ (j : Nat) (a : Mal), (mals Km ms)[j]? = some a → ∀ k, mailK.inn a k → zA ≤ k ∧ k < uA ∧ inE s.1 s.2.1 Km k) := fun j a e k hk => by
  obtain ⟨hj, rfl⟩ := mals_at e
  have hl := AA.send.len
  have hj2 : j < s.2.1 := by omega
  have := (AA.send.els.logs j hj2).inB hk
  exact ⟨this.1, this.2.1, Or.inr ⟨j, hj2, hk.1, hk.2⟩⟩
 have HSZ : Hid (∀ (j : Nat) (a : Mal), (mals Km ms)[j]? = some a → a.2.2.1 ≤ 1048576) := fun j a e => by
  obtain ⟨hj, rfl⟩ := mals_at e
  exact HZA.out.K j (by have := AA.send.len;omega)
 have HLO : Hid (∀ k, inL nodeK (some (⟨p, o, none⟩ : Addr)) Nn xs k ∨ inV M ys k ∨ hR Sd k ∨ k = b0 → k < w.heap.size) := fun k hk => by
  rcases hk with c1 | c1 | c1 | c1
  ·exact (HX.out.nodes.inB c1).2.2
  ·exact (HX.out.mails.inB c1).2.2
  ·exact (HX.out.slog.inB c1).2.2
  ·rw [c1];exact HX.out.bx.lt
 by_cases hc0 : c = 0
 rotate_left 1
 ·have hc1 : (c != 0) = true := by simp [hc0]
  go_wp2_with (first | ((with_reducible refine sm 65 X2 0 [.int .i64 c, .int .i64 q.id, .int .i64 q.size, .int .i64 q.view, .bool q.normal, .int .i64 q.last, .slice h'.L.1 h'.L.2.1 h'.L.2.2, .int .i64 q.commit, .slice h'.O.1 h'.O.2.1 h'.O.2.2, .slice h'.A.1 h'.A.2.1 h'.A.2.2, .slice h'.D.1 h'.D.2.1 h'.D.2.2, .slice s.1 s.2.1 s.2.2] ?_);intro V1 S;replace X0 := X0.kp S.kept;replace c0 := X0.cell;replace f0 := X0.froz;replace X1 := X1.kp S.kept;replace c1 := X1.cell;replace f1 := X1.froz;replace X2 : Bx V1 b2 [.int .i64 c, .int .i64 q.id, .int .i64 q.size, .int .i64 q.view, .bool q.normal, .int .i64 q.last, .slice h'.L.1 h'.L.2.1 h'.L.2.2, .int .i64 q.commit, .slice h'.O.1 h'.O.2.1 h'.O.2.2, .slice h'.A.1 h'.A.2.1 h'.A.2.2, .slice h'.D.1 h'.D.2.1 h'.D.2.2, .slice s.1 s.2.1 s.2.2] := S.bx;replace c2 := X2.cell;replace f2 := X2.froz;replace AA := AA.kept S.kept (by omega);replace hAA := Nat.le_trans hAA S.kept.size;replace B := bkp B S.kept;clear S) | ((have g := ob1);clear g;(with_reducible refine al 65 [.int .i64 0, .int .i64 0, .int .i64 0, .int .i64 0, .bool false, .int .i64 0, .slice none 0 0, .int .i64 0, .slice none 0 0, .slice none 0 0, .slice none 0 0, .slice none 0 0] ?_);intro b2 W2 N2;have ob2 := N2.o B;have o0_b2 := N2.u X0;have o1_b2 := N2.u X1;have oAA_b2 := Nat.le_trans hAA N2.ge;replace X0 := N2.r X0;replace c0 := X0.cell;replace f0 := X0.froz;replace X1 := N2.r X1;replace c1 := X1.cell;replace f1 := X1.froz;replace AA := AA.below N2.below;replace hAA := Nat.le_trans hAA N2.below.size;replace B := N2.n B;obtain ⟨X2, c2, f2⟩ := N2.a;clear N2))
  have hwA : uA ≤ V1.heap.size := hAA
  refine leaves_cons (f := 94) (args := #[.pointer (some ⟨b1, 0, none⟩), .pointer (some ⟨b2, 0, none⟩)]) (by simp) (by simp [go_sem]) ?_
  refine (do1_is (lo := zA) (hi := uA) _ (some ⟨p, o, none⟩, Nn, Nc) M Sd xs ys es c q h' s (mals Km ms) _ (HX.out.below B) X1 X2 (Nat.le_trans HBW.out B.size) h120 AA.send.lat (by have := HBW.out;omega) hwA (fun j a e k hk => by have h1 := HAP.out j a e k hk;have h2 := HLO.out k;exact ⟨fun z => by have := h2 (Or.inl z);omega, fun z => by have := h2 (Or.inr (Or.inl z));omega, fun z => by have := h2 (Or.inr (Or.inr (Or.inl z)));omega, fun z => by have := h2 (Or.inr (Or.inr (Or.inr z)));omega⟩) HSZ.out).mono ?_
  rintro e u' w'' ⟨rfl, rfl, G⟩
  obtain ⟨-, GK⟩ := G
  have hlb : ∀ k, k = b0 ∨ (hv M).ownBlock = some k → base ≤ k := fun k hk => by
   rcases hk with z | z
   ·rw [z];exact HX.out.bb
   ·exact (HX.out.mails.gr.own.lt k z).1
  have HB : Hid (Below base w w'') := (B.mono HBW.out).trans (GK.low _ hlb (Nat.le_trans HBW.out B.size))
  exact ⟨_, results_tmp rfl _ _ _, rfl, HB.out, fun z => absurd z hc0⟩
 subst hc0
 go_wp2_with (first | ((with_reducible refine sm 65 X2 0 [.int .i64 0, .int .i64 q.id, .int .i64 q.size, .int .i64 q.view, .bool q.normal, .int .i64 q.last, .slice h'.L.1 h'.L.2.1 h'.L.2.2, .int .i64 q.commit, .slice h'.O.1 h'.O.2.1 h'.O.2.2, .slice h'.A.1 h'.A.2.1 h'.A.2.2, .slice h'.D.1 h'.D.2.1 h'.D.2.2, .slice s.1 s.2.1 s.2.2] ?_);intro V1 S;replace X0 := X0.kp S.kept;replace c0 := X0.cell;replace f0 := X0.froz;replace X1 := X1.kp S.kept;replace c1 := X1.cell;replace f1 := X1.froz;replace X2 : Bx V1 b2 [.int .i64 0, .int .i64 q.id, .int .i64 q.size, .int .i64 q.view, .bool q.normal, .int .i64 q.last, .slice h'.L.1 h'.L.2.1 h'.L.2.2, .int .i64 q.commit, .slice h'.O.1 h'.O.2.1 h'.O.2.2, .slice h'.A.1 h'.A.2.1 h'.A.2.2, .slice h'.D.1 h'.D.2.1 h'.D.2.2, .slice s.1 s.2.1 s.2.2] := S.bx;replace c2 := X2.cell;replace f2 := X2.froz;replace AA := AA.kept S.kept (by omega);replace hAA := Nat.le_trans hAA S.kept.size;replace B := bkp B S.kept;clear S) | ((have g := ob1);clear g;(with_reducible refine al 65 [.int .i64 0, .int .i64 0, .int .i64 0, .int .i64 0, .bool false, .int .i64 0, .slice none 0 0, .int .i64 0, .slice none 0 0, .slice none 0 0, .slice none 0 0, .slice none 0 0] ?_);intro b2 W2 N2;have ob2 := N2.o B;have o0_b2 := N2.u X0;have o1_b2 := N2.u X1;have oAA_b2 := Nat.le_trans hAA N2.ge;replace X0 := N2.r X0;replace c0 := X0.cell;replace f0 := X0.froz;replace X1 := N2.r X1;replace c1 := X1.cell;replace f1 := X1.froz;replace AA := AA.below N2.below;replace hAA := Nat.le_trans hAA N2.below.size;replace B := N2.n B;obtain ⟨X2, c2, f2⟩ := N2.a;clear N2) | fail)
 have DQ : Below V1.heap.size V1 V1.drew := (Below.refl _ _).drew
 replace X0 := X0.below DQ;replace c0 := X0.cell;replace f0 := X0.froz;replace X1 := X1.below DQ;replace c1 := X1.cell;replace f1 := X1.froz;replace X2 := X2.below DQ;replace c2 := X2.cell;replace f2 := X2.froz;replace AA := AA.below DQ;replace hAA := Nat.le_trans hAA DQ.size;replace B := below_next B DQ;clear DQ;have Xn := (LAt.node (HX.out.below B).nodes HI.out)
 obtain ⟨_, _, _, _, _, en, _, _, Xn, _, fz⟩ := Xn
 simp only [Option.some.injEq, Addr.mk.injEq, and_true] at en
 obtain ⟨rfl, rfl⟩ := en
 have hol : p < w.heap.size := hps
 have x5 := (HX.out.below B).setN (N' := (some ⟨p, o, none⟩, Nn, Nc)) rfl HI.out (q := q) (h := h') (z := zA) (u := uA) AA.rep (by have := HBW.out;omega) hAA HZA.out.rep (fun k hk => Or.inl (by have := HLO.out k (Or.inl hk);omega)) (fun k hk => Or.inl (by have := HLO.out k (Or.inr (Or.inl hk));omega)) (fun k hk => Or.inl (by have := HLO.out k (Or.inr (Or.inr (Or.inl hk)));omega)) (Or.inl (by have := HLO.out b0 (Or.inr (Or.inr (Or.inr rfl)));omega))
 have TH : (V1.drew).there p (o + i * 10) 10 := there_of rfl Xn.cell.2 (fz rfl)
 have HX5 : Hid _ := x5
 have KP : Kept p (p + 1) V1.drew (V1.drew.setCells p (o + i * 10) [.int .i64 q.id, .int .i64 q.size, .int .i64 q.view, .bool q.normal, .int .i64 q.last, .slice h'.L.1 h'.L.2.1 h'.L.2.2, .int .i64 q.commit, .slice h'.O.1 h'.O.2.1 h'.O.2.2, .slice h'.A.1 h'.A.2.1 h'.A.2.2, .slice h'.D.1 h'.D.2.1 h'.D.2.2]) := kept_el _ _ _
 clear x5 Xn fz
 skip
 refine wp_region_noPanic ?_
 refine wp_region_held_drew (S := (fun w' => (∀ k_2 : Nat, w'.cell? ⟨b0, k_2, none⟩ = [.slice (some ⟨p, o, none⟩) Nn Nc, .slice M.1 M.2.1 M.2.2, .slice Sd.1 Sd.2.1 Sd.2.2][k_2]?) ∧ (∀ k_2 : Nat, w'.cell? ⟨b1, k_2, none⟩ = [.pointer (some ⟨b0, 0, none⟩)][k_2]?) ∧ (∀ k_2 : Nat, w'.cell? ⟨b2, k_2, none⟩ = [.int .i64 0, .int .i64 q.id, .int .i64 q.size, .int .i64 q.view, .bool q.normal, .int .i64 q.last, .slice h'.L.1 h'.L.2.1 h'.L.2.2, .int .i64 q.commit, .slice h'.O.1 h'.O.2.1 h'.O.2.2, .slice h'.A.1 h'.A.2.1 h'.A.2.2, .slice h'.D.1 h'.D.2.1 h'.D.2.2, .slice s.1 s.2.1 s.2.2][k_2]?))) (by kernel_rfl) ⟨c0, c1, c2⟩ (fun hZq => ?_)
 refine tk 0 hZq ?_;refine tk 1 hZq ?_;refine tk 2 hZq ?_;refine tk 3 hZq ?_;refine tk 4 hZq ?_;refine tk 5 hZq ?_;refine tk 6 hZq ?_;refine tk 7 hZq ?_;refine tk 8 hZq ?_
 refine rd1 9 (fun KK hKK => ?_)
 refine step_elP 63 TH [.int .i64 q.id, .int .i64 q.size, .int .i64 q.view, .bool q.normal, .int .i64 q.last, .slice h'.L.1 h'.L.2.1 h'.L.2.2, .int .i64 q.commit, .slice h'.O.1 h'.O.2.1 h'.O.2.2, .slice h'.A.1 h'.A.2.1 h'.A.2.2, .slice h'.D.1 h'.D.2.1 h'.D.2.2] (by simp) (by kernel_rfl) (by simp [Value.oneCell']) rfl rfl ?_
 intro W5 hW5
 have x5 : LiveAt W5 96 base b0 (some ⟨p, o, none⟩, Nn, Nc) M Sd (xs.set i (q, h')) ys es := by rw [hW5.eq];exact HX5.out
 have K5 : Kept p (p + 1) V1.drew W5 := by rw [hW5.eq];exact KP
 have hbp : base ≤ p := by assumption
 have B5 : Below base w W5 := (B.mono HBW.out).trans (K5.below _ hbp (Nat.le_trans HBW.out B.size))
 replace X0 := x5.bx;replace c0 := X0.cell
 replace X1 := X1.kept K5 (by omega)
 replace c1 := X1.cell
 replace X2 := X2.kept K5 (by omega)
 replace c2 := X2.cell
 replace AA := AA.kept K5 (by omega)
 replace hAA := Nat.le_trans hAA K5.size;have hs5 := Nat.le_trans B.size K5.size
 have HX6 : Hid _ := x5
 clear x5 K5 hW5;clear hZq
 refine hKK _ _ ⟨c0, c1, c2⟩ (fun hZq => ?_)
 clear hKK KK
 refine wpAnyH_done (by kernel_rfl) ?_ _
 refine NoPanic.normal ?_;clear HX5 KP TH
 have HAA2 : Hid _ := AA
 have HB5 : Hid _ := B5
 clear B5;go_wp2_with fail
 refine (seal_is (some ⟨p, o, none⟩, Nn, Nc) M Sd (xs.set i (q, h')) ys es q h' _ HX6.out (by have := HBW.out;omega) HAA2.out.rep HZA.out.rep (HCM.out (by first | trivial | rfl))).mono ?_
 rintro e w6 ⟨rfl, ⟨S', x6, hS6⟩, KS⟩
 replace X1 := X1.keptS KS (by omega)
 replace c1 := X1.cell
 replace X2 := X2.keptS KS (by omega)
 replace c2 := X2.cell
 have A6 := HAA2.out.keptS KS fun k hk e => by (have h9 := HAA2.out.inB hk;omega)
 have HX7 : Hid _ := x6
 have HA6 : Hid _ := A6
 have HS6 : Hid _ := hS6
 have HB6 : Hid (Below base w w6) := HB5.out.trans (KS.low _ (fun k hk => by rw [hk];exact HX.out.bb) (by have := HBW.out;omega))
 have hs6 := Nat.le_trans hs5 KS.size;have hA6 := Nat.le_trans hAA KS.size;clear x6 A6 hS6 KS X0 c0
 have HAP2 : Hid (∀ (j : Nat) (a : Mal), (mals Km ms)[j]? = some a → ∀ k, mailK.inn a k → ¬ inL nodeK (some (⟨p, o, none⟩ : Addr)) Nn (xs.set i (q, h')) k ∧ ¬ inV M ys k ∧ ¬ hR S' k ∧ k ≠ b0) := fun j a e k hk => by
  have h1 := HAP.out j a e k hk;have h2 := HLO.out k
  refine ⟨fun z => ?_, fun z => ?_, fun z => ?_, fun z => ?_⟩
  ·rcases z with z | ⟨j2, a2, e2, z⟩
   ·have := h2 (Or.inl (Or.inl z));omega
   ·by_cases e3 : j2 = i
    ·subst e3
     rw [List.getElem?_set_self (by rw [LAt.len HX.out.nodes];exact HI.out)] at e2
     rw [← Option.some.inj e2] at z;exact HA6.out.sep rfl k z h1.2.2
    ·rw [List.getElem?_set_ne (Ne.symm e3)] at e2
     have := h2 (Or.inl (Or.inr ⟨j2, a2, e2, z⟩));omega
  ·have := h2 (Or.inr (Or.inl z));omega
  ·rcases HS6.out k z with z | z
   ·have := h2 (Or.inr (Or.inr (Or.inl z)));omega
   ·omega
  ·have := h2 (Or.inr (Or.inr (Or.inr z)));omega
 go_wp2
 refine leaves_cons (f := 94) (args := #[.pointer (some ⟨b1, 0, none⟩), .pointer (some ⟨b2, 0, none⟩)]) (by simp) (by simp [go_sem]) ?_
 refine (do1_is (lo := zA) (hi := uA) _ (some ⟨p, o, none⟩, Nn, Nc) M S' (xs.set i (q, h')) ys (sealE q es) 0 q h' s (mals Km ms) _ HX7.out X1 X2 (by have := HBW.out;omega) h120 HA6.out.send.lat (by have := HBW.out;omega) hA6 HAP2.out HSZ.out).mono ?_
 rintro e u' w'' ⟨rfl, rfl, G⟩
 obtain ⟨⟨M', xL⟩, GK⟩ := G
 have hlb : ∀ k, k = b0 ∨ (hv M).ownBlock = some k → base ≤ k := fun k hk => by
  rcases hk with z | z
  ·rw [z];exact HX.out.bb
  ·exact (HX.out.mails.gr.own.lt k z).1
 have HB7 : Hid (Below base w w'') := HB6.out.trans (GK.low _ hlb (by have := HBW.out;omega))
 have eM : (ys ++ (mals Km ms).take (120 - ys.length)).map (·.1) = doM (ys.map (·.1)) ms := by rw [doM_map, mals_fst]
 exact ⟨_, results_tmp rfl _ _ _, rfl, HB7.out, fun _ => ⟨_, M', S', _, _, xL, map_set_fst _ _ _, eM⟩⟩
end Go.Proofs.YtclghfoinologaaGreat
