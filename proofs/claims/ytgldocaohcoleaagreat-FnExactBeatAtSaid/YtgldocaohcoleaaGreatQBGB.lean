/- Chapter 11: TimeoutAt, BeatAt, CrashAt of the model. -/
import Derived.Test.YtgldocaohcoleaaGreatCF4B
import Derived.Test.YtgldocaohcoleaaGreatQAZB
import Derived.Test.YtgldocaohcoleaaGreatG12B
set_option maxRecDepth 20000
set_option maxHeartbeats 16000000
namespace Go.Proofs.YtgldocaohcoleaaGreat
open Go.RowKit
theorem l11Node_is {own : Bool} {lo hi : Nat} (b0 : Nat) (N M Sl : Hd) (xs : List Nod) (ms : List Mal) (es : List En) (v : Int) (w : World) (X0 : Bx w b0 [.slice N.1 N.2.1 N.2.2, .slice M.1 M.2.1 M.2.2, .slice Sl.1 Sl.2.1 Sl.2.2]) (x : ClAt w own lo hi N M Sl xs ms es) (hs : ClSz N M Sl xs ms 1048576) (d : Int) (hd : nplC (cluF (xs.map (·.1)) (ms.map (·.1)) es) N.2.1 v = d) :
  Calls Tryz.prog 72 #[.pointer (some ⟨b0, 0, none⟩), .int .i64 v] w fun e w' => e = .returned (.int .i64 d) ∧ Below w.heap.size w w' := by
 obtain ⟨c, hc⟩ : ∃ c, cluF (xs.map (·.1)) (ms.map (·.1)) es = c := ⟨_, rfl⟩;rw [hc] at hd
 have HD : Hid _ := hd
 have HC : Hid _ := hc
 have HS : Hid _ := hs
 have c0 := X0.cell;clear hd hc hs
 go_enter Tryz.func72, Tryz.ntmps72
 go_wp2_with fail;refine (l11Fault_is b0 N M Sl xs ms es _ X0 x HS.out c HC.out).mono ?_;rintro e w1 ⟨rfl, B⟩;replace X0 := X0.below B;replace c0 := X0.cell
 by_cases q2 : c = 0
 rotate_left 1
 ·have q2' : (c != 0) = true := by simp [q2]
  have e : d = c := by rw [← HD.out];exact if_neg q2
  subst e;clear HD HC;go_wp2;go_ret;exact ⟨rfl, B⟩
 subst q2;have HD2 := HD.out;unfold nplC at HD2;rw [if_pos rfl] at HD2
 replace HD : Hid _ := HD2
 clear HD2;go_wp2_with fail
 obtain ⟨na, nn, nc⟩ := N
 by_cases q0 : 0 ≤ v ∧ v ≤ (nn : Int) - 1
 rotate_left 1
 ·have e : d = 3 := by rw [← HD.out];exact if_neg q0
  subst e;clear HD
  refine (l11Place_is b0 na nn nc _ _ v _ X0 HS.out.n false (by simp only [decide_eq_false_eq];exact q0)).mono ?_
  rintro e W9 ⟨rfl, rfl⟩;go_wp2;go_ret;exact ⟨rfl, B⟩
 have e : d = 0 := by rw [← HD.out];exact if_pos q0
 subst e;clear HD
 refine (l11Place_is b0 na nn nc _ _ v _ X0 HS.out.n true (by simp only [decide_eq_true_eq];exact q0)).mono ?_
 rintro e W9 ⟨rfl, rfl⟩;go_wp2;go_ret;exact ⟨rfl, B⟩
theorem doers_few {w : World} {own : Bool} {lo hi : Nat} {h : RH} {r : Rep} (y : RepAt w own lo hi h r) (hf : repF r = 0) : h.D.2.1 ≤ 1000 := by
 have h1 := rep_size hf;have h2 := (rep_ok hf).2.2.2.1.2.2;have h3 := y.doers.len;rw [h3] at h2
 split at h2 <;> omega
theorem specBeatAt_is {own : Bool} {lo hi : Nat} (N M Sl : Hd) (xs : List Nod) (ms : List Mal) (es : List En) (v : Int) (w : World) (x : ClAt w own lo hi N M Sl xs ms es) (hs : ClSz N M Sl xs ms 1048576) (rs : List Rep) (ns : List Ml) (hrs : xs.map (·.1) = rs) (hns : ms.map (·.1) = ns) (cd : Int) (R' : List Rep) (M' : List Ml) (E' : List En) (hc : atC rs ns es v repF = cd) (hR : atN rs ns es v repF beQ = R') (hM : atM rs ns es v repF beMs = M') (hE : atE rs ns es v repF beQ = E') :
  Calls Tryz.prog 23 #[.agg #[.slice N.1 N.2.1 N.2.2, .slice M.1 M.2.1 M.2.2, .slice Sl.1 Sl.2.1 Sl.2.2], .int .i64 v] w fun e w' => ClRes false w w' e cd R' M' E' := by
 obtain ⟨na, nn, nc⟩ := N
 have hlen : rs.length = nn := by rw [← hrs];simpa using x.nodes.len
 have HX : Hid _ := x
 have HRS : Hid _ := hrs
 have HNS : Hid _ := hns
 have HLEN : Hid _ := hlen
 have HCD : Hid _ := hc
 have HR : Hid _ := hR
 have HM : Hid _ := hM
 have HE : Hid _ := hE
 obtain ⟨d, hd⟩ : ∃ d, nplC (cluF rs ns es) nn v = d := ⟨_, rfl⟩
 have HD : Hid _ := hd
 have HS : Hid _ := hs
 clear hc hR hM hE hd hs hrs hns hlen x
 go_enter Tryz.func23, Tryz.ntmps23
 go_wp2_with (first | ((have g := ob0);clear g;(with_reducible refine alloc_newX 34 [.int .i64 0, .slice none 0 0, .slice none 0 0, .slice none 0 0] (fun _ => by kernel_rfl) ?_);intro b1 W1 N1;have ob1 := Nat.le_trans B.size N1.ge;have o0_b1 := ltl X0.lt N1.ge;replace X0 := X0.below N1.below;replace c0 := X0.cell;replace f0 := X0.froz;replace B := below_next B N1.below;have X1 := N1.bx;have c1 := X1.cell;have f1 := X1.froz;clear N1) | ((with_reducible refine box_newX 32 [.slice na nn nc, .slice M.1 M.2.1 M.2.2, .slice Sl.1 Sl.2.1 Sl.2.2] rfl ?_);intro b0 W0 N0;have ob0 := N0.ge;have B := N0.below;have X0 := N0.bx;have c0 := X0.cell;have f0 := X0.froz;clear N0) | fail)
 refine (l11Node_is b0 (na, nn, nc) M Sl xs ms es v _ X0 (HX.out.below B) HS.out d (by rw [HRS.out, HNS.out];exact HD.out)).mono ?_
 rintro e w1 ⟨rfl, BB⟩;replace X0 := X0.below BB;replace c0 := X0.cell;replace f0 := X0.froz;replace X1 := X1.below BB;replace c1 := X1.cell;replace f1 := X1.froz;replace B := below_next B BB;clear BB
 by_cases q2 : d = 0
 rotate_left 1
 ·have q2' : (d != 0) = true := by simp [q2]
  go_wp2_with fail;refine (l11Bad_is d _).mono ?_;rintro e w2 ⟨rfl, BB⟩;replace X0 := X0.below BB;replace c0 := X0.cell;replace f0 := X0.froz;replace X1 := X1.below BB;replace c1 := X1.cell;replace f1 := X1.froz;replace B := below_next B BB;clear BB
  go_wp2_with (first | ((with_reducible refine store_midX 34 X1 0 [.int .i64 d, .slice none 0 0, .slice none 0 0, .slice none 0 0] (by simp) (by kernel_rfl) (by simp [Value.oneCell']) rfl rfl ?_);intro V1 S;replace X0 := X0.kp S.kept;replace c0 := X0.cell;replace f0 := X0.froz;replace X1 : Bx V1 b1 [.int .i64 d, .slice none 0 0, .slice none 0 0, .slice none 0 0] := S.bx;replace c1 := X1.cell;replace f1 := X1.froz;replace B := bkp B S.kept;clear S))
  refine bodyPost_ret (v := .agg #[.int .i64 d, .slice none 0 0, .slice none 0 0, .slice none 0 0]) (by simp [results, Tryz.results23, go_sem, *]) rfl ?_
  obtain ⟨e1, e2, e3, e4⟩ := atC_bad (C := repF) (Q := beQ) (Ms := beMs) (rs := rs) (by rw [HLEN.out];exact HD.out) q2
  rw [← HCD.out, ← HR.out, ← HM.out, ← HE.out, e1, e2, e3, e4];exact DoM.nix _ d B
 subst q2
 obtain ⟨hF, hv0, hv1⟩ := npl_ok HD.out
 have HF : Hid _ := hF
 obtain ⟨i, hiv⟩ : ∃ i : Nat, v = (i : Int) := ⟨v.toNat, by omega⟩
 subst hiv
 have hin : i < nn := by omega
 have hik : (i : Int) < (nn : Int) := by omega
 clear hF hv0 hv1
 have HFW : Hid (∀ (j : Nat) (a : Nod), xs[j]? = some a → repF a.1 = 0) := fun j a e => by
  have hj : j < xs.length := (List.getElem?_eq_some_iff.1 e).1
  have h1 := (nodesF_all (clu_parts HF.out).2.2.1 j (by rw [← HRS.out, List.length_map];exact hj)).1
  rw [← HRS.out, mapD e] at h1;exact h1
 have H5 : Hid (nn ≤ 5) := by (show _;have := (clu_parts HF.out).1;rw [HLEN.out] at this;exact this)
 have H120 : Hid (M.2.1 ≤ 120) := by
  show _
  have := (clu_parts HF.out).2.1
  rw [← HNS.out, List.length_map, LAt.len HX.out.mails] at this;exact this
 have HDF : Hid (∀ (j : Nat) (a : Nod), xs[j]? = some a → a.2.D.2.1 ≤ 1000) := fun j a e => doers_few (HX.out.nodes.each j a e) (HFW.out j a e)
 have XN0 := LAt.node HX.out.nodes hin
 obtain ⟨r, h, b, off, ex, en, _, _, XN0, y0, _⟩ := XN0
 have hbw : b < w.heap.size := XN0.lt
 have hmk := HS.out.nodes i _ ex
 have HER : Hid (rs.getD i rep0 = r) := by (show _ = _;rw [← HRS.out];exact mapD ex)
 have HR0 : Hid (repF r = 0) := HFW.out i _ ex
 clear ex
 simp only at hmk en
 subst en;obtain ⟨c, hc⟩ : ∃ c, repF r = c := ⟨_, rfl⟩;obtain ⟨q, hq⟩ : ∃ q : Rep, beQ r = q := ⟨_, rfl⟩;obtain ⟨zq, hzq⟩ : ∃ zq : List Ml, beMs r = zq := ⟨_, rfl⟩
 have HAT := atC_code (C := repF) (Q := beQ) (Ms := beMs) (rs := rs) (ms := ns) (es := es) (v := (i : Int)) (c := c) (by rw [HLEN.out];exact HD.out) (by rw [Int.toNat_natCast, HER.out];exact hc)
 rw [Int.toNat_natCast, HER.out, hq, hzq] at HAT
 have HAT2 : Hid _ := HAT
 have HC1 : Hid _ := hc
 have HQ1 : Hid _ := hq
 have HZ1 : Hid _ := hzq
 have HCM : Hid (c = 0 → 0 ≤ q.commit ∧ q.commit ≤ q.log.length) := fun z => by (rw [← HQ1.out];exact be_com r HR0.out (by rw [HC1.out];exact z))
 clear HAT hc hq hzq;have XN := XN0.below B;have y := y0.below B;have cN := XN.cell;clear XN0 y0;go_wp2_with fail
 have DQ : Below w1.heap.size w1 w1.drew := (Below.refl _ _).drew
 replace X0 := X0.below DQ;replace c0 := X0.cell;replace f0 := X0.froz;replace X1 := X1.below DQ;replace c1 := X1.cell;replace f1 := X1.froz;replace B := below_next B DQ;clear DQ;replace XN := XN.below (Below.drew (Below.refl _ _));replace cN := XN.cell;replace y := RepAt.below y (Below.drew (Below.refl _ _))
 refine wp_region_held_drew (S := (fun w' => (∀ k_2 : Nat, w'.cell? ⟨b0, k_2, none⟩ = [.slice (some ⟨b, off, none⟩) nn nc, .slice M.1 M.2.1 M.2.2, .slice Sl.1 Sl.2.1 Sl.2.2][k_2]?) ∧ (w'.cell? ⟨b, off + i * 10, none⟩ = [.int .i64 r.id, .int .i64 r.size, .int .i64 r.view, .bool r.normal, .int .i64 r.last, .slice h.L.1 h.L.2.1 h.L.2.2, .int .i64 r.commit, .slice h.O.1 h.O.2.1 h.O.2.2, .slice h.A.1 h.A.2.1 h.A.2.2, .slice h.D.1 h.D.2.1 h.D.2.2][0]? ∧ ∀ k_1 : Nat, k_1 < 10 → w'.cell? ⟨b, off + i * 10 + k_1, none⟩ = [.int .i64 r.id, .int .i64 r.size, .int .i64 r.view, .bool r.normal, .int .i64 r.last, .slice h.L.1 h.L.2.1 h.L.2.2, .int .i64 r.commit, .slice h.O.1 h.O.2.1 h.O.2.2, .slice h.A.1 h.A.2.1 h.A.2.2, .slice h.D.1 h.D.2.1 h.D.2.2][k_1]?))) (by kernel_rfl) ⟨c0, cN⟩ (fun hZq => ?_)
 refine tk 0 hZq ?_;refine tk 1 hZq ?_;refine tk 2 hZq ?_;refine tk 3 hZq ?_;refine tk 4 hZq ?_;refine tk 5 hZq ?_;refine tk 6 hZq ?_
 refine rd1 7 (fun KK hKK => ?_)
 go_simp
 go_at_call 49
 refine (specBeat_is r h _ y hmk c q zq HC1.out HQ1.out HZ1.out).mono ?_;rintro e v1 ⟨z, u, hA, s, Km, rfl, Gz, hAA, AA, ZA, BB⟩;obtain ⟨l0, hl0⟩ : ∃ l, l = w1.drew.heap.size := ⟨_, rfl⟩
 have G0 : l0 ≤ z := by rw [hl0];exact Gz
 have lb1 : b1 < l0 := by rw [hl0];exact X1.lt
 have lw0 : w.heap.size ≤ l0 := by rw [hl0];exact B.size
 have hl1 : l0 ≤ v1.heap.size := by rw [hl0];exact BB.size
 clear hl0 Gz;replace X0 := X0.below BB;replace c0 := X0.cell;replace f0 := X0.froz;replace X1 := X1.below BB;replace c1 := X1.cell;replace f1 := X1.froz;replace B := below_next B BB;replace XN := XN.below BB;replace cN := XN.cell
 have HAA : Hid _ := AA
 have HZA : Hid _ := ZA
 clear BB AA ZA y;clear hZq
 refine hKK _ _ ⟨c0, cN⟩ (fun hZq => ?_)
 clear hKK KK
 refine rd1 8 (fun KK hKK => ?_)
 have HQR : Hid ((if c = 0 then doN (xs.map (·.1)) i q else []) = R') := by
  show _ = _
  rw [← HR.out]
  by_cases z : c = 0
  ·rw [if_pos z, HRS.out, (HAT2.out.2.2 z).1]
  ·rw [if_neg z, (HAT2.out.2.1 z).1]
 have HQM : Hid ((if c = 0 then doM (ms.map (·.1)) zq else []) = M') := by
  show _ = _
  rw [← HM.out]
  by_cases z : c = 0
  ·rw [if_pos z, HNS.out, (HAT2.out.2.2 z).2.1]
  ·rw [if_neg z, (HAT2.out.2.1 z).2.1]
 have HQE : Hid ((if c = 0 then sealE q es else []) = E') := by
  show _ = _
  rw [← HE.out]
  by_cases z : c = 0
  ·rw [if_pos z, (HAT2.out.2.2 z).2.2]
  ·rw [if_neg z, (HAT2.out.2.1 z).2.2]
 go_simp
 go_at_call 74
 refine (l11Do_is (some ⟨b, off, none⟩, nn, nc) M Sl xs ms es i hin _ (HX.out.below B) HS.out H5.out H120.out HDF.out c q hA s Km zq HAA.out HZA.out G0 hl1 hAA HCM.out R' M' E' HQR.out HQM.out HQE.out).mono ?_;rintro e v2 ⟨N3, M3, S3, x3, y3, rfl, A3, Z3, f1', f2', BB⟩;replace X0 := X0.below BB;replace c0 := X0.cell;replace f0 := X0.froz;replace X1 := X1.below BB;replace c1 := X1.cell;replace f1 := X1.froz;replace B := below_next B BB;replace XN := XN.below BB;replace cN := XN.cell
 have HA3 : Hid _ := A3
 have HZ3 : Hid _ := Z3
 have HF1 : Hid _ := f1'
 have HF2 : Hid _ := f2'
 clear BB A3 Z3 f1' f2' HAA HZA;clear hZq
 refine hKK _ _ ⟨c0, cN⟩ (fun hZq => ?_)
 clear hKK KK
 refine rd1 9 (fun KK hKK => ?_)
 refine step_midX 34 X1 0 [.int .i64 c, .slice N3.1 N3.2.1 N3.2.2, .slice M3.1 M3.2.1 M3.2.2, .slice S3.1 S3.2.1 S3.2.2] (by simp) (by kernel_rfl) (by simp [Value.oneCell']) rfl rfl ?_
 intro V9 S;have hk2 := S.kept
 have B7 := S.kept.below w.heap.size (by omega) B.size
 replace XN := XN.low B7 hbw;replace cN := XN.cell;clear B7;replace X0 := X0.kp S.kept;replace c0 := X0.cell;replace f0 := X0.froz
 replace X1 : Bx V9 b1 [.int .i64 c, .slice N3.1 N3.2.1 N3.2.2, .slice M3.1 M3.2.1 M3.2.2, .slice S3.1 S3.2.1 S3.2.2] := S.bx
 replace c1 := X1.cell;replace f1 := X1.froz;replace B := bkp B S.kept;clear S;clear hZq
 refine hKK _ _ ⟨c0, cN⟩ (fun hZq => ?_)
 clear hKK KK
 refine wpAnyH_done (by kernel_rfl) ?_ _
 go_wp2
 refine bodyPost_ret (v := .agg #[.int .i64 c, .slice N3.1 N3.2.1 N3.2.2, .slice M3.1 M3.2.1 M3.2.2, .slice S3.1 S3.2.1 S3.2.2]) (by simp [results, Tryz.results23, go_sem, *]) rfl ?_
 rw [← HCD.out, HAT2.out.1]
 exact ⟨N3, M3, S3, x3, y3, rfl, (HA3.out.kept hk2 (Or.inr (by omega))).widen lw0 hk2.size, HZ3.out, HF1.out, HF2.out, B⟩
structure PutC (w W : World) (b k : Nat) (v : Value) : Prop where
 eq : W = w.setCell ⟨b, k, none⟩ v
theorem markNods_any {lo hi : Nat} (ao : Option Addr) (n cap : Nat) (xs : List Nod) (k : Int) (w : World) (x : LAt nodeK w true lo hi ao n cap xs) (hk0 : 0 ≤ k) (hk1 : k + 6 * (nsum xs : Int) ≤ 12000000) :
  Calls Tryz.prog 83 #[.slice ao n cap, .int .i64 k] w fun e w' => e = .returned (.int .i64 (qAt k xs n)) ∧ LAt nodeK w' true lo hi ao n cap (mkTo k xs n) ∧ KeptS (inL nodeK ao n xs) w w' := by
 have hn : n ≤ 12000000 := by
  have : ∀ ys : List Nod, ys.length ≤ nsum ys := fun ys => by
   induction ys with
   | nil => simp [nsum]
   | cons a t ih => simp only [List.length_cons, nsum];omega
  have := this xs
  have := x.len
  omega
 have hxl := x.len
 have HXL : Hid _ := hxl
 have E0 : mkTo k xs 0 = xs := by cases xs <;> rfl
 clear hxl
 go_enter Tryz.func83, Tryz.ntmps83
 go_wp2
 go_loopw [1, 5] (fun v j wr => ∃ i : Nat, i ≤ n ∧ j = .int .i64 i ∧ v = .int .i64 (qAt k xs i) ∧ LAt nodeK wr true lo hi ao n cap (mkTo k xs i) ∧ KeptS (inL nodeK ao n xs) w wr) (fun _ j _ => n - (intOf j).toNat)
 case atStart => exact ⟨0, Nat.zero_le _, rfl, by cases xs <;> rfl, by (rw [E0];exact x), KeptS.refl _ _⟩
 case round =>
  clear E0
  obtain ⟨i, hi', rfl, rfl, E, hS⟩ := hrel
  by_cases hlt : i < n
  ·have hlk : (i : Int) < (n : Int) := by omega
   have hxi : i < xs.length := by rw [HXL.out];exact hlt
   obtain ⟨⟨r, h⟩, ex⟩ : ∃ a, xs[i]? = some a := ⟨_, List.getElem?_eq_getElem hxi⟩
   have ey : (mkTo k xs i)[i]? = some (r, h) := by rw [mkTo_at];exact ex
   obtain ⟨r0, h0, b, off, -, rfl, -, -, -, -, -⟩ := E.node hlt
   clear r0 h0;have q1 := qAt_le xs k i;have q2 := qAt_more xs k i _ ex;have q3 := rsum_sz h;have q3L := q3.L;have q3O := q3.O;have q3A := q3.A;have q3D := q3.D
   have q3K : Hid _ := q3.K
   simp only at q2
   clear q3
   have HNX : Hid (qAt k xs (i + 1) = qN h (qAt k xs i)) := qAt_next xs k i _ ex
   have HST : Hid (mkTo k xs (i + 1) = (mkTo k xs i).set i (mkRep h (qAt k xs i), h)) := mkTo_next xs k i _ ex
   have HIN : Hid (∀ z, inRep h z → inL nodeK (some ⟨b, off, none⟩) n (mkTo k xs i) z) := fun z hz => Or.inr ⟨i, _, ey, hz⟩
   have HSN : Hid ((mkTo k xs i).map (·.2) = xs.map (·.2)) := mkTo_snd xs k i
   have HM : Hid (NMk wr lo hi b off n cap (mkTo k xs i) i r h wr) := NMk.start E ey (KeptS.refl _ _)
   have HS : Hid _ := hS
   clear E ex ey hS;generalize hys : mkTo k xs i = ys at *;clear hys;generalize hq : qAt k xs i = q at *
   have HQ : Hid _ := hq
   clear hq
   have q0 : 0 ≤ q := by omega
   have q4 : q + 6 * ((1 + rsum h : Nat) : Int) ≤ 12000000 := by omega
   have HQN := qN_le h q
   have HQ2 : Hid _ := HQN
   clear HQN q1 q2
   have p1 : h.L.2.1 ≤ 4194304 := by omega
   have p2 : 0 ≤ q + 5 := by omega
   have p3 : q + 5 ≤ 1000000000000000 := by omega
   have HV : Hid (∀ j : Int, 0 ≤ j → j ≤ 20 → IntKind.i64.wrap (q + j) = q + j) := fun j _ _ => wrapI_same _ (by omega)
   have v1 : IntKind.i64.wrap (q + 1) = q + 1 := HV.out 1 (by decide) (by decide)
   have v2 : IntKind.i64.wrap (q + 2) = q + 2 := HV.out 2 (by decide) (by decide)
   have v3 : IntKind.i64.wrap (q + 3) = q + 3 := HV.out 3 (by decide) (by decide)
   have v4 : IntKind.i64.wrap (q + 4) = q + 4 := HV.out 4 (by decide) (by decide)
   have v5 : IntKind.i64.wrap (q + 5) = q + 5 := HV.out 5 (by decide) (by decide)
   have a2 : q + 1 + 1 = q + 2 := Int.add_assoc q 1 1
   have a3 : q + 2 + 1 = q + 3 := Int.add_assoc q 2 1
   have a4 : q + 3 + 1 = q + 4 := Int.add_assoc q 3 1
   have a5 : q + 4 + 1 = q + 5 := Int.add_assoc q 4 1
   have r3 : Int.tmod (q + 3) 3 = q % 3 := by (rw [Int.tmod_eq_emod_of_nonneg (by omega)];omega)
   have y3 : IntKind.i64.wrap (q % 3) = q % 3 := wrapI_same _ (by omega)
   have HW6 : Hid (IntKind.i64.wrap (q + 5 + 6 * (h.L.2.1 : Int) + 1) = qO h q) := by show _ = _;rw [wrapI_same _ (by omega)];unfold qO;omega
   obtain ⟨id, size, view, normal, last, log, commit, oks, asks, doers⟩ := r
   have X : Ro wr b (off + i * 10) [.int .i64 id, .int .i64 size, .int .i64 view, .bool normal, .int .i64 last, .slice h.L.1 h.L.2.1 h.L.2.2, .int .i64 commit, .slice h.O.1 h.O.2.1 h.O.2.2, .slice h.A.1 h.A.2.1 h.A.2.2, .slice h.D.1 h.D.2.1 h.D.2.2] := (HM.out.facts hlt).1
   have fX := (HM.out.facts hlt).2.1
   have c0 : wr.cell? ⟨b, off + i * 10, none⟩ = some (.int .i64 id) := X.cell.1
   have c1 : wr.cell? ⟨b, off + i * 10 + 1, none⟩ = some (.int .i64 size) := X.cell.2 1 (by decide)
   have c2 : wr.cell? ⟨b, off + i * 10 + 2, none⟩ = some (.int .i64 view) := X.cell.2 2 (by decide)
   have c3 : wr.cell? ⟨b, off + i * 10 + 3, none⟩ = some (.bool normal) := X.cell.2 3 (by decide)
   have c4 : wr.cell? ⟨b, off + i * 10 + 4, none⟩ = some (.int .i64 last) := X.cell.2 4 (by decide)
   have c5 : wr.cell? ⟨b, off + i * 10 + 5, none⟩ = some (.slice h.L.1 h.L.2.1 h.L.2.2) := X.cell.2 5 (by decide)
   have c6 : wr.cell? ⟨b, off + i * 10 + 6, none⟩ = some (.int .i64 commit) := X.cell.2 6 (by decide)
   have c7 : wr.cell? ⟨b, off + i * 10 + 7, none⟩ = some (.slice h.O.1 h.O.2.1 h.O.2.2) := X.cell.2 7 (by decide)
   have c8 : wr.cell? ⟨b, off + i * 10 + 8, none⟩ = some (.slice h.A.1 h.A.2.1 h.A.2.2) := X.cell.2 8 (by decide)
   have c9 : wr.cell? ⟨b, off + i * 10 + 9, none⟩ = some (.slice h.D.1 h.D.2.1 h.D.2.2) := X.cell.2 9 (by decide)
   have f0 : wr.frozen? ⟨b, off + i * 10, none⟩ = false := fX 0 (by decide)
   have f1 : wr.frozen? ⟨b, off + i * 10 + 1, none⟩ = false := fX 1 (by decide)
   have f2 : wr.frozen? ⟨b, off + i * 10 + 2, none⟩ = false := fX 2 (by decide)
   have f3 : wr.frozen? ⟨b, off + i * 10 + 3, none⟩ = false := fX 3 (by decide)
   have f4 : wr.frozen? ⟨b, off + i * 10 + 4, none⟩ = false := fX 4 (by decide)
   clear X fX
   replace HM : Hid (NMk wr lo hi b off n cap ys i ⟨q, size, view, normal, last, log, commit, oks, asks, doers⟩ h (wr.setCell ⟨b, off + i * 10, none⟩ (.int .i64 (q)))) := HM.out.cell hlt 0 (by decide) _ _ rfl ⟨rfl, rfl, rfl, rfl⟩
   replace HM : Hid (NMk wr lo hi b off n cap ys i ⟨q, (q + 1), view, normal, last, log, commit, oks, asks, doers⟩ h ((wr.setCell ⟨b, off + i * 10, none⟩ (.int .i64 (q))).setCell ⟨b, off + i * 10 + 1, none⟩ (.int .i64 (q + 1)))) := HM.out.cell hlt 1 (by decide) _ _ rfl ⟨rfl, rfl, rfl, rfl⟩
   replace HM : Hid (NMk wr lo hi b off n cap ys i ⟨q, (q + 1), (q + 2), normal, last, log, commit, oks, asks, doers⟩ h (((wr.setCell ⟨b, off + i * 10, none⟩ (.int .i64 (q))).setCell ⟨b, off + i * 10 + 1, none⟩ (.int .i64 (q + 1))).setCell ⟨b, off + i * 10 + 2, none⟩ (.int .i64 (q + 2)))) := HM.out.cell hlt 2 (by decide) _ _ rfl ⟨rfl, rfl, rfl, rfl⟩
   replace HM : Hid (NMk wr lo hi b off n cap ys i ⟨q, (q + 1), (q + 2), (q % 3 == 0), last, log, commit, oks, asks, doers⟩ h ((((wr.setCell ⟨b, off + i * 10, none⟩ (.int .i64 (q))).setCell ⟨b, off + i * 10 + 1, none⟩ (.int .i64 (q + 1))).setCell ⟨b, off + i * 10 + 2, none⟩ (.int .i64 (q + 2))).setCell ⟨b, off + i * 10 + 3, none⟩ (.bool (q % 3 == 0)))) := HM.out.cell hlt 3 (by decide) _ _ rfl ⟨rfl, rfl, rfl, rfl⟩
   replace HM : Hid (NMk wr lo hi b off n cap ys i ⟨q, (q + 1), (q + 2), (q % 3 == 0), (q + 4), log, commit, oks, asks, doers⟩ h (((((wr.setCell ⟨b, off + i * 10, none⟩ (.int .i64 (q))).setCell ⟨b, off + i * 10 + 1, none⟩ (.int .i64 (q + 1))).setCell ⟨b, off + i * 10 + 2, none⟩ (.int .i64 (q + 2))).setCell ⟨b, off + i * 10 + 3, none⟩ (.bool (q % 3 == 0))).setCell ⟨b, off + i * 10 + 4, none⟩ (.int .i64 (q + 4)))) := HM.out.cell hlt 4 (by decide) _ _ rfl ⟨rfl, rfl, rfl, rfl⟩
   go_wp2_with fail;refine (markEntries_any _ _ _ _ (q + 5) _ (HM.out.facts hlt).2.2.log.pinR p1 p2 p3).mono ?_;rintro e w1 ⟨rfl, R2, K2⟩
   have KS : KeptS (hR h.L) (((((wr.setCell ⟨b, off + i * 10, none⟩ (.int .i64 (q))).setCell ⟨b, off + i * 10 + 1, none⟩ (.int .i64 (q + 1))).setCell ⟨b, off + i * 10 + 2, none⟩ (.int .i64 (q + 2))).setCell ⟨b, off + i * 10 + 3, none⟩ (.bool (q % 3 == 0))).setCell ⟨b, off + i * 10 + 4, none⟩ (.int .i64 (q + 4))) w1 := Kept.pinR K2
   clear c0 c1 c2 c3 c4 c5 c6 c7 c8 c9 f0 f1 f2 f3 f4 v1 v2 v3 v4 v5 a2 a3 a4 a5 r3 y3
   replace HM : Hid (NMk wr lo hi b off n cap ys i ⟨q, (q + 1), (q + 2), (q % 3 == 0), (q + 4), (marks6 (q + 5) h.L.2.1), commit, oks, asks, doers⟩ h w1) := HM.out.mem hlt (hR h.L) KS (fun _ z => Or.inl z) HIN.out _ rfl ((HM.out.facts hlt).2.2.logSet KS R2)
   clear KS;clear R2 K2;have w6 := HW6.out
   have X : Ro w1 b (off + i * 10) [.int .i64 q, .int .i64 (q + 1), .int .i64 (q + 2), .bool (q % 3 == 0), .int .i64 (q + 4), .slice h.L.1 h.L.2.1 h.L.2.2, .int .i64 commit, .slice h.O.1 h.O.2.1 h.O.2.2, .slice h.A.1 h.A.2.1 h.A.2.2, .slice h.D.1 h.D.2.1 h.D.2.2] := (HM.out.facts hlt).1
   have fX := (HM.out.facts hlt).2.1
   have c6 : w1.cell? ⟨b, off + i * 10 + 6, none⟩ = some (.int .i64 commit) := X.cell.2 6 (by decide)
   have c7 : w1.cell? ⟨b, off + i * 10 + 7, none⟩ = some (.slice h.O.1 h.O.2.1 h.O.2.2) := X.cell.2 7 (by decide)
   have f6 : w1.frozen? ⟨b, off + i * 10 + 6, none⟩ = false := fX 6 (by decide)
   clear X fX
   replace HM : Hid (NMk wr lo hi b off n cap ys i ⟨q, (q + 1), (q + 2), (q % 3 == 0), (q + 4), (marks6 (q + 5) h.L.2.1), (q + 5 + 6 * (h.L.2.1 : Int)), oks, asks, doers⟩ h (w1.setCell ⟨b, off + i * 10 + 6, none⟩ (.int .i64 (q + 5 + 6 * (h.L.2.1 : Int))))) := HM.out.cell hlt 6 (by decide) _ _ rfl ⟨rfl, rfl, rfl, rfl⟩
   go_wp2_with fail;clear w6 c6 c7 f6
   refine (markInts_any _ _ _ _ (qO h q) _ (HM.out.facts hlt).2.2.oks.pinR (by omega) (by have := HQ2.out;omega) (by have := HQ2.out;omega)).mono ?_
   rintro e w2 ⟨rfl, R2, K2⟩
   have KS : KeptS (hR h.O) (w1.setCell ⟨b, off + i * 10 + 6, none⟩ (.int .i64 (q + 5 + 6 * (h.L.2.1 : Int)))) w2 := Kept.pinR K2
   rw [show qO h q + (h.O.2.1 : Int) = qA h q from rfl]
   replace HM : Hid (NMk wr lo hi b off n cap ys i ⟨q, (q + 1), (q + 2), (q % 3 == 0), (q + 4), (marks6 (q + 5) h.L.2.1), (q + 5 + 6 * (h.L.2.1 : Int)), (marks (qO h q) h.O.2.1), asks, doers⟩ h w2) := HM.out.mem hlt (hR h.O) KS (fun _ z => Or.inr (Or.inl z)) HIN.out _ rfl ((HM.out.facts hlt).2.2.oksSet KS R2)
   clear KS;clear R2 K2
   have X : Ro w2 b (off + i * 10) [.int .i64 q, .int .i64 (q + 1), .int .i64 (q + 2), .bool (q % 3 == 0), .int .i64 (q + 4), .slice h.L.1 h.L.2.1 h.L.2.2, .int .i64 (q + 5 + 6 * (h.L.2.1 : Int)), .slice h.O.1 h.O.2.1 h.O.2.2, .slice h.A.1 h.A.2.1 h.A.2.2, .slice h.D.1 h.D.2.1 h.D.2.2] := (HM.out.facts hlt).1
   have fX := (HM.out.facts hlt).2.1
   have c8 : w2.cell? ⟨b, off + i * 10 + 8, none⟩ = some (.slice h.A.1 h.A.2.1 h.A.2.2) := X.cell.2 8 (by decide)
   clear X fX;go_wp2_with fail;clear c8
   refine (markBools_m _ _ _ _ (qA h q) _ (HM.out.facts hlt).2.2.asks.pinR (by omega) (by have := HQ2.out;omega) (by have := HQ2.out;omega)).mono ?_
   rintro e w3 ⟨rfl, R2, K2⟩
   have KS : KeptS (hR h.A) w2 w3 := Kept.pinR K2
   rw [show qA h q + (h.A.2.1 : Int) = qD h q from rfl]
   replace HM : Hid (NMk wr lo hi b off n cap ys i ⟨q, (q + 1), (q + 2), (q % 3 == 0), (q + 4), (marks6 (q + 5) h.L.2.1), (q + 5 + 6 * (h.L.2.1 : Int)), (marks (qO h q) h.O.2.1), (marksB (qA h q) h.A.2.1), doers⟩ h w3) := HM.out.mem hlt (hR h.A) KS (fun _ z => Or.inr (Or.inr (Or.inl z))) HIN.out _ rfl ((HM.out.facts hlt).2.2.asksSet KS R2)
   clear KS;clear R2 K2
   have X : Ro w3 b (off + i * 10) [.int .i64 q, .int .i64 (q + 1), .int .i64 (q + 2), .bool (q % 3 == 0), .int .i64 (q + 4), .slice h.L.1 h.L.2.1 h.L.2.2, .int .i64 (q + 5 + 6 * (h.L.2.1 : Int)), .slice h.O.1 h.O.2.1 h.O.2.2, .slice h.A.1 h.A.2.1 h.A.2.2, .slice h.D.1 h.D.2.1 h.D.2.2] := (HM.out.facts hlt).1
   have fX := (HM.out.facts hlt).2.1
   have c9 : w3.cell? ⟨b, off + i * 10 + 9, none⟩ = some (.slice h.D.1 h.D.2.1 h.D.2.2) := X.cell.2 9 (by decide)
   clear X fX;go_wp2_with fail;clear c9
   refine (markDoerS_any _ _ _ h.K _ _ (qD h q) _ (HM.out.facts hlt).2.2.doers.els (fun _ _ => rfl) (by omega) (fun j hj => Nat.le_trans (q3K.out j hj) (by omega)) (by have := HQ2.out;omega) (by have := HQ2.out;omega)).mono ?_
   rintro e w4 ⟨rfl, R2, KS⟩
   rw [show kE 3 h.K (qD h q) h.D.2.1 = qN h q from rfl]
   replace HM : Hid (NMk wr lo hi b off n cap ys i ⟨q, (q + 1), (q + 2), (q % 3 == 0), (q + 4), (marks6 (q + 5) h.L.2.1), (q + 5 + 6 * (h.L.2.1 : Int)), (marks (qO h q) h.O.2.1), (marksB (qA h q) h.A.2.1), (mkDrs h.K (qD h q) h.D.2.1)⟩ h w4) := HM.out.mem hlt (inE h.D.1 h.D.2.1 h.K) KS (fun _ z => Or.inr (Or.inr (Or.inr z))) HIN.out _ rfl ((HM.out.facts hlt).2.2.doersSet KS R2)
   clear KS;clear R2
   have HE : Hid (LAt nodeK w4 true lo hi (some ⟨b, off, none⟩) n cap (mkTo k xs (i + 1))) := by
    show LAt _ _ _ _ _ _ _ _ _
    rw [HST.out];exact HM.out.1
   have HK : Hid (KeptS (inL nodeK (some ⟨b, off, none⟩) n xs) w w4) := HS.out.trans (HM.out.2.mono fun z hz => inL_snd HSN.out _ _ z hz)
   have HN : Hid (qN h q = qAt k xs (i + 1)) := by
    show _ = _
    rw [HNX.out]
   clear HM HIN HSN HS HNX HST HQ;go_wp2
   go_roundw
   case rel => exact ⟨i + 1, by omega, by go_num, by rw [HN.out], HE.out, HK.out⟩
   case measure => simp [intOf];omega
  ·obtain rfl : i = n := by omega
   go_wp2;go_ret;exact ⟨rfl, E, hS⟩
theorem heldNods_any {o : Bool} {lo hi : Nat} (ao : Option Addr) (n cap : Nat) (xs : List Nod) (k : Int) (w : World) (x : LAt nodeK w o lo hi ao n cap (mkTo k xs n)) (hk0 : 0 ≤ k) (hk1 : k + 6 * (nsum xs : Int) ≤ 12000000) :
  Calls Tryz.prog 169 #[.slice ao n cap, .int .i64 k] w fun e w' => e = .returned (.int .i64 (qAt k xs n)) ∧ w' = w := by
 have hxl : xs.length = n := by rw [← mkTo_len xs k n];exact x.len
 have hn : n ≤ 12000000 := by
  have : ∀ ys : List Nod, ys.length ≤ nsum ys := fun ys => by
   induction ys with
   | nil => simp [nsum]
   | cons a t ih => simp only [List.length_cons, nsum];omega
  have := this xs
  omega
 have HXL : Hid _ := hxl
 clear hxl
 go_enter Tryz.func169, Tryz.ntmps169
 go_wp2
 go_loopw [1, 5] (fun v j wr => ∃ i : Nat, i ≤ n ∧ j = .int .i64 i ∧ v = .int .i64 (qAt k xs i) ∧ wr = w) (fun _ j _ => n - (intOf j).toNat)
 case atStart => exact ⟨0, Nat.zero_le _, rfl, by cases xs <;> rfl, rfl⟩
 case round =>
  obtain ⟨i, hi', rfl, rfl, rfl⟩ := hrel
  by_cases hlt : i < n
  ·have hlk : (i : Int) < (n : Int) := by omega
   have hxi : i < xs.length := by rw [HXL.out];exact hlt
   obtain ⟨⟨r, h⟩, ex⟩ : ∃ a, xs[i]? = some a := ⟨_, List.getElem?_eq_getElem hxi⟩
   have ey : (mkTo k xs n)[i]? = some (mkRep h (qAt k xs i), h) := mkTo_done xs k n i _ hlt ex
   obtain ⟨r0, h0, b, off, ez, rfl, _, _, X0, y0, _⟩ := x.node hlt
   rw [ey] at ez;simp only [Option.some.injEq, Prod.mk.injEq] at ez
   obtain ⟨rfl, rfl⟩ := ez
   have q1 := qAt_le xs k i;have q2 := qAt_more xs k i _ ex;have q3 := rsum_sz h;have q3L := q3.L;have q3O := q3.O;have q3A := q3.A;have q3D := q3.D
   have q3K : Hid _ := q3.K
   simp only at q2
   clear q3
   have HNX : Hid (qAt k xs (i + 1) = qN h (qAt k xs i)) := qAt_next xs k i _ ex
   clear ex ey;generalize hq : qAt k xs i = q at *
   have HQ : Hid _ := hq
   clear hq
   have q0 : 0 ≤ q := by omega
   have q4 : q + 6 * ((1 + rsum h : Nat) : Int) ≤ 12000000 := by omega
   have HQN := qN_le h q
   have HQ2 : Hid _ := HQN
   have HO0 : Hid (qO h q = q + 6 + 6 * (h.L.2.1 : Int)) := rfl
   clear q1 q2
   have n1 : ¬ (q + 5 + 6 * (h.L.2.1 : Int)) < 0 := by omega
   have n2 : ¬ qA h q < 0 := by omega
   have n3 : ¬ qD h q < 0 := by omega
   have n4 : ¬ qN h q < 0 := by omega
   clear HQN
   have HV : Hid (∀ j : Int, 0 ≤ j → j ≤ 20 → IntKind.i64.wrap (q + j) = q + j) := fun j _ _ => wrapI_same _ (by omega)
   have v1 : IntKind.i64.wrap (q + 1) = q + 1 := HV.out 1 (by decide) (by decide)
   have v2 : IntKind.i64.wrap (q + 2) = q + 2 := HV.out 2 (by decide) (by decide)
   have v3 : IntKind.i64.wrap (q + 3) = q + 3 := HV.out 3 (by decide) (by decide)
   have v4 : IntKind.i64.wrap (q + 4) = q + 4 := HV.out 4 (by decide) (by decide)
   have v5 : IntKind.i64.wrap (q + 5) = q + 5 := HV.out 5 (by decide) (by decide)
   have a2 : q + 1 + 1 = q + 2 := Int.add_assoc q 1 1
   have a3 : q + 2 + 1 = q + 3 := Int.add_assoc q 2 1
   have a4 : q + 3 + 1 = q + 4 := Int.add_assoc q 3 1
   have a5 : q + 4 + 1 = q + 5 := Int.add_assoc q 4 1
   have r3 : Int.tmod (q + 3) 3 = q % 3 := by (rw [Int.tmod_eq_emod_of_nonneg (by omega)];omega)
   have y3 : IntKind.i64.wrap (q % 3) = q % 3 := wrapI_same _ (by omega)
   have HW6 : Hid (IntKind.i64.wrap (q + 5 + 6 * (h.L.2.1 : Int) + 1) = qO h q) := by show _ = _;rw [wrapI_same _ (by omega)];unfold qO;omega
   have e0 : (q != q) = false := by simp
   have e1 : (q + 1 != q + 1) = false := by simp
   have e2 : (q + 2 != q + 2) = false := by simp
   have e4 : (q + 4 != q + 4) = false := by simp
   have e3 : ((q % 3 == 0) != (q % 3 == 0)) = false := by simp
   have X : Ro wr b (off + i * 10) [.int .i64 q, .int .i64 (q + 1), .int .i64 (q + 2), .bool (q % 3 == 0), .int .i64 (q + 4), .slice h.L.1 h.L.2.1 h.L.2.2, .int .i64 (q + 5 + 6 * (h.L.2.1 : Int)), .slice h.O.1 h.O.2.1 h.O.2.2, .slice h.A.1 h.A.2.1 h.A.2.2, .slice h.D.1 h.D.2.1 h.D.2.2] := X0
   have cX := X.cell;clear X0
   have HY : Hid _ := y0
   clear y0;go_wp2_with fail
   refine (heldEntries_any _ _ _ (q + 5) _ HY.out.log (by omega) (by omega) (by omega)).mono ?_
   rintro e W9 ⟨rfl, rfl⟩;clear v1 v2 v3 v4 v5 a2 a3 a4 a5 r3 y3 e0 e1 e2 e3 e4;have w6 := HW6.out
   have e6 : (q + 5 + 6 * (h.L.2.1 : Int) != q + 5 + 6 * (h.L.2.1 : Int)) = false := by simp
   go_wp2_with fail;clear w6 e6
   refine (heldInts_any _ _ _ (qO h q) _ HY.out.oks (by omega) (by have := HQ2.out;omega) (by have := HQ2.out;omega)).mono ?_
   rintro e W9 ⟨rfl, rfl⟩
   rw [show qO h q + (h.O.2.1 : Int) = qA h q from rfl]
   go_wp2_with fail
   refine (heldBools_any _ _ _ (qA h q) _ HY.out.asks (by omega) (by have := HQ2.out;omega) (by have := HQ2.out;omega)).mono ?_
   rintro e W9 ⟨rfl, rfl⟩
   rw [show qA h q + (h.A.2.1 : Int) = qD h q from rfl]
   go_wp2_with fail
   refine (heldDoerS_any _ _ _ h.K (fun _ => []) (qD h q) _ (HY.out.doers.els.congr (fun i j hi hj => mkDrs_F _ _ _ _ _ hi hj) (fun i hi => mkDrs_L _ _ _ _ _ hi)) (by omega) (fun j hj => Nat.le_trans (q3K.out j hj) (by omega)) (by have := HQ2.out;omega) (by have := HQ2.out;omega)).mono ?_
   rintro e W9 ⟨rfl, rfl⟩
   rw [show kE 3 h.K (qD h q) h.D.2.1 = qN h q from rfl]
   have HN : Hid (qN h q = qAt k xs (i + 1)) := by
    show _ = _
    first | rw [HNX.out, HQ.out] | rw [HNX.out]
   clear HY HNX HQ;go_wp2
   go_roundw
   case rel => exact ⟨i + 1, by omega, by go_num, by rw [HN.out], trivial⟩
   case measure => simp [intOf];omega
  ·obtain rfl : i = n := by omega
   go_wp2;go_ret;exact ⟨rfl, rfl⟩
def malK (ms : List Mal) (i : Nat) : Hd := (ms.getD i mal0).2
theorem inE_inL {ms : List Mal} {ao : Option Addr} {n : Nat} (hl : ms.length = n) {q : Nat} (h : inE ao n (malK ms) q) : inL mailK ao n ms q := by
 rcases h with h | ⟨i, hi, h0, h1⟩
 ·exact Or.inl h
 ·have hi' : i < ms.length := by rw [hl];exact hi
  have e : ms[i]? = some (ms.getD i mal0) := by simp [List.getD, hi']
  exact Or.inr ⟨i, _, e, ⟨h0, h1⟩⟩
def c1Q (N : Hd) (xs : List Nod) (k : Int) : Int := qAt k xs N.2.1
def c2Q (N M : Hd) (xs : List Nod) (ms : List Mal) (k : Int) : Int := kE 14 (malK ms) (c1Q N xs k) M.2.1
def c3Q (N M Sl : Hd) (xs : List Nod) (ms : List Mal) (k : Int) : Int := c2Q N M xs ms k + 6 * (Sl.2.1 : Int)
structure MCl (w : World) (o : Bool) (lo hi : Nat) (N M Sl : Hd) (xs : List Nod) (ms : List Mal) (k : Int) : Prop where
 nodes : LAt nodeK w o lo hi N.1 N.2.1 N.2.2 (mkTo k xs N.2.1)
 mails : ElsAt 15 w o lo hi M.1 M.2.1 M.2.2 (mkMF (malK ms) (c1Q N xs k)) (malK ms) (paM 14 13 (malK ms) (c1Q N xs k) (fun _ => []) M.2.1)
 slog : RowAt w o lo hi 6 Sl.1 Sl.2.1 Sl.2.2 (sixs (marks6 (c2Q N M xs ms k) Sl.2.1))
def inCl (N M Sl : Hd) (xs : List Nod) (ms : List Mal) (q : Nat) : Prop := inL nodeK N.1 N.2.1 xs q ∨ inL mailK M.1 M.2.1 ms q ∨ hR Sl q
section
variable {w w' : World} {o : Bool} {lo hi : Nat} {N M Sl : Hd} {xs : List Nod} {ms : List Mal} {es : List En} {k : Int}
theorem MCl.below (x : MCl w o lo hi N M Sl xs ms k) (hb : Below w.heap.size w w') : MCl w' o lo hi N M Sl xs ms k := ⟨x.nodes.below nodeOk hb, x.mails.below hb, x.slog.below hb⟩
theorem MCl.kept (x : MCl w o lo hi N M Sl xs ms k) {l u : Nat} (hk : Kept l u w w') (hd : hi ≤ l ∨ u ≤ lo) : MCl w' o lo hi N M Sl xs ms k := ⟨x.nodes.kept nodeOk hk hd, x.mails.kept hk hd, x.slog.kept hk hd⟩
theorem ClAt.inB (x : ClAt w o lo hi N M Sl xs ms es) {q : Nat} (hq : inCl N M Sl xs ms q) : lo ≤ q ∧ q < hi ∧ q < w.heap.size := by
 rcases hq with h | h | h
 ·exact x.nodes.inB h
 ·exact x.mails.inB h
 ·exact x.slog.inB h
theorem cQ_in (hk : 0 ≤ k) (hN : k + 6 * (nsum xs : Int) ≤ 12000000) (hz : ClSz N M Sl xs ms 1048576) (hl : ms.length = M.2.1) : (0 ≤ c1Q N xs k ∧ c1Q N xs k ≤ 12000000) ∧ (0 ≤ c2Q N M xs ms k ∧ c2Q N M xs ms k ≤ 100000000000000) ∧ (0 ≤ c3Q N M Sl xs ms k) ∧ ∀ i, i < M.2.1 → (malK ms i).2.1 ≤ 2097152 := by
 have h1 := qAt_le xs k N.2.1
 have hK : ∀ i, i < M.2.1 → (malK ms i).2.1 ≤ 2097152 := fun i hi => by
  have hi' : i < ms.length := by rw [hl];exact hi
  have e : ms[i]? = some (ms.getD i mal0) := by simp [List.getD, hi']
  have := hz.mails i _ e
  unfold malK;omega
 have h2 := kE_ge (t := 14) (by omega) (malK ms) (c1Q N xs k) M.2.1
 have h3 := kE_le (t := 14) (by omega) (by omega) (malK ms) (c1Q N xs k) (n := M.2.1) hK M.2.1 (Nat.le_refl _)
 have h4 := hz.m
 have e1 : c1Q N xs k = qAt k xs N.2.1 := rfl
 refine ⟨by omega, ⟨?_, ?_⟩, ?_, hK⟩
 ·unfold c2Q;omega
 ·unfold c2Q;omega
 ·unfold c3Q c2Q;omega
end
theorem markCluster_any {lo hi : Nat} (N M Sl : Hd) (xs : List Nod) (ms : List Mal) (es : List En) (k : Int) (w : World) (x : ClAt w true lo hi N M Sl xs ms es) (hz : ClSz N M Sl xs ms 1048576) (hk : 0 ≤ k) (hN : k + 6 * (nsum xs : Int) ≤ 12000000) :
  Calls Tryz.prog 20 #[.agg #[.slice N.1 N.2.1 N.2.2, .slice M.1 M.2.1 M.2.2, .slice Sl.1 Sl.2.1 Sl.2.2], .int .i64 k] w fun e w' => e = .returned (.int .i64 (c3Q N M Sl xs ms k)) ∧ MCl w' true lo hi N M Sl xs ms k ∧ KeptS (inCl N M Sl xs ms) w w' := by
 have HB : Hid (∀ q, inCl N M Sl xs ms q → q < w.heap.size) := fun q hq => (x.inB hq).2.2
 have ⟨s1, s2, s3⟩ := x.sep rfl
 have H1 : Hid _ := s1
 have H2 : Hid _ := s2
 have H3 : Hid _ := s3
 have HL : Hid _ := x.mails.len
 have HI : Hid _ := cQ_in hk hN hz x.mails.len
 have hM := hz.m;have hS := hz.s;clear s1 s2 s3
 go_enter Tryz.func20, Tryz.ntmps20
 go_wp2_with (first | ((with_reducible refine box_newX 32 [.slice N.1 N.2.1 N.2.2, .slice M.1 M.2.1 M.2.2, .slice Sl.1 Sl.2.1 Sl.2.2] rfl ?_);intro b0 W0 N0;have ob0 := N0.ge;have B := N0.below;have X0 := N0.bx;have c0 := X0.cell;clear N0) | fail)
 have XN := x.nodes.below B;have XM := x.mails.below B;have XS := x.slog.below B
 have kk : KeptS (inCl N M Sl xs ms) w W0 := KeptS.below B
 clear x;refine (markNods_any N.1 N.2.1 N.2.2 xs k _ XN hk hN).mono ?_;rintro e w1 ⟨rfl, LN, KS⟩
 have YM : MailsAt w1 true lo hi M.1 M.2.1 M.2.2 (malK ms) (ms.map (·.1)) := LAt.mails (LAt.keptS mailOk XM KS (Sep.symm H1.out))
 have YS := XS.keptR KS (Sep.symm H2.out)
 replace X0 := X0.keptS KS (fun q => by have := HB.out _ (Or.inl q);omega)
 replace c0 := X0.cell
 replace kk := kk.trans (KS.mono fun q hq => Or.inl hq)
 clear XN XM XS KS
 rw [show qAt k xs N.2.1 = c1Q N xs k from rfl]
 go_wp2_with fail
 refine (markMailS_any M.1 M.2.1 M.2.2 (malK ms) _ _ (c1Q N xs k) _ YM.els (fun _ _ => rfl) (by omega) HI.out.2.2.2 HI.out.1.1 (by have := HI.out.1.2;omega)).mono ?_
 rintro e w2 ⟨rfl, EM, KS⟩
 have KS2 : KeptS (inL mailK M.1 M.2.1 ms) w1 w2 := KS.mono fun q hq => inE_inL HL.out hq
 clear KS YM
 replace LN := LAt.keptS nodeOk LN KS2 (fun q hq => H1.out q (inL_snd (mkTo_snd xs k N.2.1) _ _ q hq))
 replace YS := YS.keptR KS2 (Sep.symm H3.out)
 replace X0 := X0.keptS KS2 (fun q => by have := HB.out _ (Or.inr (Or.inl q));omega)
 replace c0 := X0.cell
 replace kk := kk.trans (KS2.mono fun q hq => Or.inr (Or.inl hq))
 clear KS2
 rw [show kE 14 (malK ms) (c1Q N xs k) M.2.1 = c2Q N M xs ms k from rfl]
 go_wp2_with fail
 refine (markEntries_any Sl.1 Sl.2.1 Sl.2.2 es (c2Q N M xs ms k) _ YS.pinR (by omega) HI.out.2.1.1 (by have := HI.out.2.1.2;omega)).mono ?_
 rintro e w3 ⟨rfl, RS, K3⟩
 have KS3 : KeptS (hR Sl) w2 w3 := Kept.pinR K3
 have MM : MCl w3 true lo hi N M Sl xs ms k := ⟨LAt.keptS nodeOk LN KS3 (fun q hq => H2.out q (inL_snd (mkTo_snd xs k N.2.1) _ _ q hq)), (EM.keptS KS3 (fun q hq => H3.out q (inE_inL HL.out hq))).congr (fun _ _ _ _ => rfl) (fun i hi => by unfold paM;rw [if_pos hi, if_pos hi]), YS.repin RS⟩
 replace kk := kk.trans (KS3.mono fun q hq => Or.inr (Or.inr hq))
 clear LN EM YS RS K3 KS3 X0 c0 H1 H2 H3 HB HL HI
 rw [show c2Q N M xs ms k + 6 * (Sl.2.1 : Int) = c3Q N M Sl xs ms k from rfl]
 go_wp2;go_ret;exact ⟨rfl, MM, kk⟩
theorem heldCluster_any {o : Bool} {lo hi : Nat} (N M Sl : Hd) (xs : List Nod) (ms : List Mal) (k : Int) (w : World) (m : MCl w o lo hi N M Sl xs ms k) (hz : ClSz N M Sl xs ms 1048576) (hl : ms.length = M.2.1) (hk : 0 ≤ k) (hN : k + 6 * (nsum xs : Int) ≤ 12000000) :
  Calls Tryz.prog 86 #[.agg #[.slice N.1 N.2.1 N.2.2, .slice M.1 M.2.1 M.2.2, .slice Sl.1 Sl.2.1 Sl.2.2], .int .i64 k] w fun e w' => e = .returned (.int .i64 (c3Q N M Sl xs ms k)) ∧ Below w.heap.size w w' := by
 have HI : Hid _ := cQ_in hk hN hz hl
 have n1 : ¬ (c1Q N xs k) < 0 := by have := HI.out.1.1;omega
 have n2 : ¬ (c2Q N M xs ms k) < 0 := by have := HI.out.2.1.1;omega
 have n3 : ¬ (c3Q N M Sl xs ms k) < 0 := by have := HI.out.2.2.1;omega
 have hM := hz.m;have hS := hz.s
 go_enter Tryz.func86, Tryz.ntmps86
 go_wp2_with (first | ((with_reducible refine box_newX 32 [.slice N.1 N.2.1 N.2.2, .slice M.1 M.2.1 M.2.2, .slice Sl.1 Sl.2.1 Sl.2.2] rfl ?_);intro b0 W0 N0;have ob0 := N0.ge;have B := N0.below;have X0 := N0.bx;have c0 := X0.cell;clear N0) | fail)
 replace m := m.below B;refine (heldNods_any N.1 N.2.1 N.2.2 xs k _ m.nodes hk hN).mono ?_;rintro e W9 ⟨rfl, rfl⟩
 rw [show qAt k xs N.2.1 = c1Q N xs k from rfl]
 go_wp2_with fail
 refine (heldMailS_any M.1 M.2.1 M.2.2 (malK ms) _ (c1Q N xs k) _ m.mails (by omega) HI.out.2.2.2 HI.out.1.1 (by have := HI.out.1.2;omega)).mono ?_
 rintro e W9 ⟨rfl, rfl⟩
 rw [show kE 14 (malK ms) (c1Q N xs k) M.2.1 = c2Q N M xs ms k from rfl]
 go_wp2_with fail
 refine (heldEntries_any Sl.1 Sl.2.1 Sl.2.2 (c2Q N M xs ms k) _ m.slog (by omega) HI.out.2.1.1 (by have := HI.out.2.1.2;omega)).mono ?_
 rintro e W9 ⟨rfl, rfl⟩
 rw [show c2Q N M xs ms k + 6 * (Sl.2.1 : Int) = c3Q N M Sl xs ms k from rfl]
 go_wp2;go_ret;exact ⟨rfl, B⟩
theorem markClR_any {lo hi : Nat} (c : Int) (N M Sl : Hd) (xs : List Nod) (ms : List Mal) (es : List En) (k : Int) (w : World) (x : ClAt w true lo hi N M Sl xs ms es) (hz : ClSz N M Sl xs ms 1048576) (hk : 0 ≤ k) (hN : k + 6 * (nsum xs : Int) ≤ 12000000) :
  Calls Tryz.prog 21 #[.agg #[.int .i64 c, .slice N.1 N.2.1 N.2.2, .slice M.1 M.2.1 M.2.2, .slice Sl.1 Sl.2.1 Sl.2.2], .int .i64 k] w fun e w' => e = .returned (.int .i64 (c3Q N M Sl xs ms k)) ∧ MCl w' true lo hi N M Sl xs ms k ∧ KeptS (inCl N M Sl xs ms) w w' := by
 go_enter Tryz.func21, Tryz.ntmps21
 go_wp2_with (first | ((with_reducible refine box_newX 34 [.int .i64 c, .slice N.1 N.2.1 N.2.2, .slice M.1 M.2.1 M.2.2, .slice Sl.1 Sl.2.1 Sl.2.2] rfl ?_);intro b0 W0 N0;have ob0 := N0.ge;have B := N0.below;have X0 := N0.bx;have c0 := X0.cell;clear N0) | fail)
 have kk : KeptS (inCl N M Sl xs ms) w W0 := KeptS.below B
 refine (markCluster_any N M Sl xs ms es k _ (x.below B) hz hk hN).mono ?_;rintro e w1 ⟨rfl, MM, KS⟩;replace kk := kk.trans KS;clear KS X0 c0 B x;go_wp2;go_ret;exact ⟨rfl, MM, kk⟩
theorem heldClR_any {o : Bool} {lo hi : Nat} (c : Int) (N M Sl : Hd) (xs : List Nod) (ms : List Mal) (k : Int) (w : World) (m : MCl w o lo hi N M Sl xs ms k) (hz : ClSz N M Sl xs ms 1048576) (hl : ms.length = M.2.1) (hk : 0 ≤ k) (hN : k + 6 * (nsum xs : Int) ≤ 12000000) :
  Calls Tryz.prog 22 #[.agg #[.int .i64 c, .slice N.1 N.2.1 N.2.2, .slice M.1 M.2.1 M.2.2, .slice Sl.1 Sl.2.1 Sl.2.2], .int .i64 k] w fun e w' => e = .returned (.int .i64 (c3Q N M Sl xs ms k)) ∧ Below w.heap.size w w' := by
 have n3 : ¬ (c3Q N M Sl xs ms k) < 0 := by have := (cQ_in hk hN hz hl).2.2.1;omega
 go_enter Tryz.func22, Tryz.ntmps22
 go_wp2_with (first | ((with_reducible refine box_newX 34 [.int .i64 c, .slice N.1 N.2.1 N.2.2, .slice M.1 M.2.1 M.2.2, .slice Sl.1 Sl.2.1 Sl.2.2] rfl ?_);intro b0 W0 N0;have ob0 := N0.ge;have B := N0.below;have X0 := N0.bx;have c0 := X0.cell;clear N0) | fail)
 refine (heldCluster_any N M Sl xs ms k _ (m.below B) hz hl hk hN).mono ?_;rintro e w1 ⟨rfl, BB⟩;replace X0 := X0.below BB;replace c0 := X0.cell;replace B := below_next B BB;clear BB;go_wp2;go_ret;exact ⟨rfl, B⟩
theorem eqClR_yes {o1 o2 : Bool} {l1 u1 l2 u2 : Nat} (c : Int) (N M Sl N' M' Sl' : Hd) (xs ys : List Nod) (ms ns : List Mal) (es : List En) (w : World) (x : ClAt w o1 l1 u1 N M Sl xs ms es) (y : ClAt w o2 l2 u2 N' M' Sl' ys ns es) (hxy : ys.map (·.1) = xs.map (·.1)) (hmn : ns.map (·.1) = ms.map (·.1)) (hs : ClSz N M Sl xs ms 1048576) :
  Calls Tryz.prog 18 #[.agg #[.int .i64 c, .slice N.1 N.2.1 N.2.2, .slice M.1 M.2.1 M.2.2, .slice Sl.1 Sl.2.1 Sl.2.2], .agg #[.int .i64 c, .slice N'.1 N'.2.1 N'.2.2, .slice M'.1 M'.2.1 M'.2.2, .slice Sl'.1 Sl'.2.1 Sl'.2.2]] w fun e w' => e = .returned (.bool true) ∧ Below w.heap.size w w' := by
 have e0 : (c != c) = false := by simp
 go_enter Tryz.func18, Tryz.ntmps18
 go_wp2_with (first | ((have g := ob0);clear g;(with_reducible refine box_newX 34 [.int .i64 c, .slice N'.1 N'.2.1 N'.2.2, .slice M'.1 M'.2.1 M'.2.2, .slice Sl'.1 Sl'.2.1 Sl'.2.2] rfl ?_);intro b1 W1 N1;have ob1 := Nat.le_trans B.size N1.ge;have o0_b1 := ltl X0.lt N1.ge;replace X0 := X0.below N1.below;replace c0 := X0.cell;replace B := below_next B N1.below;have X1 := N1.bx;have c1 := X1.cell;clear N1) | ((with_reducible refine box_newX 34 [.int .i64 c, .slice N.1 N.2.1 N.2.2, .slice M.1 M.2.1 M.2.2, .slice Sl.1 Sl.2.1 Sl.2.2] rfl ?_);intro b0 W0 N0;have ob0 := N0.ge;have B := N0.below;have X0 := N0.bx;have c0 := X0.cell;clear N0) | fail)
 refine (eqCluster_yes N M Sl N' M' Sl' xs ys ms ns es _ (x.below B) (y.below B) hxy hmn hs).mono ?_;rintro e w1 ⟨rfl, BB⟩;replace X0 := X0.below BB;replace c0 := X0.cell;replace X1 := X1.below BB;replace c1 := X1.cell;replace B := below_next B BB;clear BB;go_wp2;go_ret;exact ⟨rfl, B⟩
end Go.Proofs.YtgldocaohcoleaaGreat
namespace Go.Proofs.YtgldocaohcoleaaGreat
open Go.RowKit Go.ChangeShapes Go.WideShapes Go.Deep
section
variable {H : Type} {enc : TypeId × Value → H} {P : Program} {w : World}
def EnTy (P : Program) (e : TypeId) : Prop := ∃ f0 f1 f2 g0 g1 g2 g3 : Field, P.underlying e = some (.struct #[f0, f1, f2]) ∧ (f0.offset = 0 ∧ f1.offset = 1 ∧ f2.offset = 2) ∧ (P.cellsOf e = 6 ∧ P.cellsOf f0.type = 1 ∧ P.cellsOf f1.type = 1 ∧ P.cellsOf f2.type = 4) ∧
 (P.underlying f0.type = some (.int .i64) ∧ P.underlying f1.type = some (.int .i64) ∧ P.underlying f2.type = some (.struct #[g0, g1, g2, g3])) ∧ (g0.offset = 0 ∧ g1.offset = 1 ∧ g2.offset = 2 ∧ g3.offset = 3) ∧
 (P.cellsOf g0.type = 1 ∧ P.cellsOf g1.type = 1 ∧ P.cellsOf g2.type = 1 ∧ P.cellsOf g3.type = 1) ∧ (P.underlying g0.type = some (.int .i64) ∧ P.underlying g1.type = some (.int .i64) ∧ P.underlying g2.type = some (.int .i64) ∧ P.underlying g3.type = some (.int .i64))
theorem EnTy.cells {e : TypeId} (h : EnTy P e) : P.cellsOf e = 6 := by obtain ⟨_, _, _, _, _, _, _, _, _, h, _⟩ := h; exact h.1
theorem six_of {e : TypeId} (ht : EnTy P e) {fuel : Nat} {cs : List Value} {x : DataW H × List MemPlace} {base : Nat} {spare : Nat → Bool} {held : Bool} (hlen : cs.length = 6) (h : DataW.trod enc P w base spare held fuel e cs = some x) :
  ∃ q : En, cs = [.int .i64 q.1, .int .i64 q.2.1, .int .i64 q.2.2.1, .int .i64 q.2.2.2.1, .int .i64 q.2.2.2.2.1, .int .i64 q.2.2.2.2.2] := by
 obtain ⟨f0, f1, f2, k0, k1, k2, k3, he, ⟨o0, o1, o2⟩, ⟨_, c0, c1, c2⟩, ⟨i0, i1, hs⟩, ⟨p0, p1, p2, p3⟩, ⟨d0, d1, d2, d3⟩, ⟨j0, j1, j2, j3⟩⟩ := ht
 obtain ⟨ys, k, _, _, _, hyl, hf⟩ := DataW.trod_struct he h
 match ys, hyl, cs, hlen with
 | [y0, y1, y2], _, [v0, v1, v2, v3, v4, v5], _ =>
  have g0 := hf 0 f0 rfl;have g1 := hf 1 f1 rfl;have g2 := hf 2 f2 rfl
  simp [o0, o1, o2, c0, c1, c2] at g0 g1 g2
  obtain ⟨zs, m, _, _, _, hzl, hg⟩ := DataW.trod_struct hs g2
  match zs, hzl with
  | [z0, z1, z2, z3], _ =>
   have q0 := hg 0 k0 rfl;have q1 := hg 1 k1 rfl;have q2 := hg 2 k2 rfl;have q3 := hg 3 k3 rfl
   simp [p0, p1, p2, p3, d0, d1, d2, d3] at q0 q1 q2 q3
   obtain ⟨a0, e0, _, _⟩ := DataW.trod_int i0 g0
   obtain ⟨a1, e1, _, _⟩ := DataW.trod_int i1 g1
   obtain ⟨a2, e2, _, _⟩ := DataW.trod_int j0 q0
   obtain ⟨a3, e3, _, _⟩ := DataW.trod_int j1 q1
   obtain ⟨a4, e4, _, _⟩ := DataW.trod_int j2 q2
   obtain ⟨a5, e5, _, _⟩ := DataW.trod_int j3 q3
   simp only [List.cons.injEq, and_true] at e0 e1 e2 e3 e4 e5
   exact ⟨(a0, a1, a2, a3, a4, a5), by rw [e0, e1, e2, e3, e4, e5]⟩
theorem read_entries {t e : TypeId} {fuel : Nat} {v : Value} {x : DataW H × List MemPlace} (ht : P.underlying t = some (.slice e)) (he : EnTy P e) (h : DataW.trod enc P w 0 (fun _ => true) true fuel t [v] = some x) :
  ∃ ao n cap vs, v = .slice ao n cap ∧ n ≤ maxLen ∧ RowAt w false 0 w.heap.size 6 ao n cap (sixs vs) := by
 rcases open_slice ht h with ⟨hcs, _⟩ | ⟨a, len, cap, m, n, D, Pl, hcs, hb, hl, hm, hz, _, hx⟩
 ·simp only [List.cons.injEq, and_true] at hcs;exact ⟨none, 0, 0, [], hcs, Nat.zero_le _, RowAt.nil _ _ _ _ _⟩
 ·simp only [List.cons.injEq, and_true] at hcs;simp only [if_true] at hz;subst hz
  have each : ∀ i, i < m → ∃ q : En, ∀ j, j < 6 → w.cell? (a.add (i * 6 + j)) = some (.int .i64 (enF q j)) := fun i hi => by
   obtain ⟨cs, h1, h2⟩ := hx i hi
   rw [he.cells] at h1
   obtain ⟨_, hlen, hcell⟩ := World.cells?_some h1
   obtain ⟨q, hq⟩ := six_of he hlen h2
   refine ⟨q, fun j hj => ?_⟩
   have e0 := hcell j (by omega)
   rw [add_add, hq] at e0;rw [e0]
   match j, hj with
   | 0, _ => rfl
   | 1, _ => rfl
   | 2, _ => rfl
   | 3, _ => rfl
   | 4, _ => rfl
   | 5, _ => rfl
  obtain ⟨q, hq⟩ := choose_lt each
  have hlen : ((List.range len).map q).length = len := by simp
  have hget : ∀ i, i < len → ((List.range len).map q).getD i en0 = q i := fun i hi => by simp [List.getD, hi]
  refine ⟨some a, len, m, (List.range len).map q, hcs, Nat.le_trans hl hm, ?_, hl, fun hn => ?_⟩
  ·rw [sixs_len, hlen]
  ·have h0 := hq 0 (by omega) 0 (by omega)
   obtain ⟨b, off, spot⟩ := a
   have hspot : spot = none := by simpa [Addr.add] using World.cell?_spot h0
   subst hspot
   refine ⟨b, off, rfl, Nat.zero_le _, World.block_lt_of_cell? w _ h0, World.block_lt_of_cell? w _ h0, fun i hi => ?_, fun h => by cases h⟩
   have p0 := hq (i / 6) (by omega) (i % 6) (by omega)
   have t0 := sixs_get ((List.range len).map q) (i / 6) (i % 6) (by omega) (by omega)
   rw [show i / 6 * 6 + i % 6 = i by omega] at t0 p0
   rw [← addr_add, t0, p0, hget _ (by omega)]
end
theorem Tryz.enTy : EnTy Tryz.prog 45 := ⟨_, _, _, _, _, _, _, Tryz.underlying45, ⟨rfl, rfl, rfl⟩, ⟨by kernel_rfl, by kernel_rfl, by kernel_rfl, by kernel_rfl⟩, ⟨Tryz.underlying2, Tryz.underlying2, Tryz.underlying43⟩, ⟨rfl, rfl, rfl, rfl⟩, ⟨by kernel_rfl, by kernel_rfl, by kernel_rfl, by kernel_rfl⟩, ⟨Tryz.underlying2, Tryz.underlying2, Tryz.underlying2, Tryz.underlying2⟩⟩
end Go.Proofs.YtgldocaohcoleaaGreat
