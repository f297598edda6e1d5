/- Chapter 11: TimeoutAt, BeatAt, CrashAt of the model. -/
import Derived.Test.YtgldocaohcoleaaGreatQAG
import Derived.Test.YtgldocaohcoleaaGreatQAB
import Derived.Test.YtgldocaohcoleaaGreatCS3
import Derived.Test.YtgldocaohcoleaaGreatQBG
import Derived.Test.YtgldocaohcoleaaGreatCF4
import Derived.Test.YtgldocaohcoleaaGreatWS
import Derived.Test.YtgldocaohcoleaaGreatG12
import Derived.Test.YtgldocaohcoleaaGreatWR
import Derived.Test.YtgldocaohcoleaaGreatCM0
import Derived.Test.YtgldocaohcoleaaGreatWN
set_option maxRecDepth 20000
set_option maxHeartbeats 16000000
namespace Go.Proofs.YtgldocaohcoleaaGreat
open Go.RowKit
theorem l11Node_is {own : Bool} {lo hi : Nat} (b0 : Nat) (N M Sl : Hd) (xs : List Nod) (ms : List Mal) (es : List En) (v : Int) (w : World) (X0 : Bx w b0 [.slice N.1 N.2.1 N.2.2, .slice M.1 M.2.1 M.2.2, .slice Sl.1 Sl.2.1 Sl.2.2]) (x : ClAt w own lo hi N M Sl xs ms es) (hs : ClSz N M Sl xs ms 1048576) (d : Int) (hd : nplC (cluF (xs.map (·.1)) (ms.map (·.1)) es) N.2.1 v = d) :
  Calls Tryz.prog 72 #[.pointer (some ⟨b0, 0, none⟩), .int .i64 v] w fun e w' => e = .returned (.int .i64 d) ∧ Below w.heap.size w w' := by
 obtain ⟨c, hc⟩ : ∃ c, cluF (xs.map (·.1)) (ms.map (·.1)) es = c := ⟨_, rfl⟩
 rw [hc] at hd
 have HD : Hid _ := hd
 have HC : Hid _ := hc
 have HS : Hid _ := hs
 have c0 := X0.cell
 clear hd hc hs
 go_enter Tryz.func72, Tryz.ntmps72
 go_wp2_with fail
 refine (l11Fault_is b0 N M Sl xs ms es _ X0 x HS.out c HC.out).mono ?_
 rintro e w1 ⟨rfl, B⟩
 replace X0 := X0.below B
 replace c0 := X0.cell
 by_cases q2 : c = 0
 rotate_left 1
 ·have q2' : (c != 0) = true := by simp [q2]
  have e : d = c := by rw [← HD.out]; exact if_neg q2
  subst e
  clear HD HC
  go_wp2
  go_ret
  exact ⟨rfl, B⟩
 subst q2
 have HD2 := HD.out
 unfold nplC at HD2
 rw [if_pos rfl] at HD2
 replace HD : Hid _ := HD2
 clear HD2
 go_wp2_with fail
 obtain ⟨na, nn, nc⟩ := N
 by_cases q0 : 0 ≤ v ∧ v ≤ (nn : Int) - 1
 rotate_left 1
 ·have e : d = 3 := by rw [← HD.out]; exact if_neg q0
  subst e
  clear HD
  refine (l11Place_is b0 na nn nc _ _ v _ X0 HS.out.n false (by simp only [decide_eq_false_eq]; exact q0)).mono ?_
  rintro e W9 ⟨rfl, rfl⟩
  go_wp2
  go_ret
  exact ⟨rfl, B⟩
 have e : d = 0 := by rw [← HD.out]; exact if_pos q0
 subst e
 clear HD
 refine (l11Place_is b0 na nn nc _ _ v _ X0 HS.out.n true (by simp only [decide_eq_true_eq]; exact q0)).mono ?_
 rintro e W9 ⟨rfl, rfl⟩
 go_wp2
 go_ret
 exact ⟨rfl, B⟩
theorem doers_few {w : World} {own : Bool} {lo hi : Nat} {h : RH} {r : Rep} (y : RepAt w own lo hi h r) (hf : repF r = 0) : h.D.2.1 ≤ 1000 := by
 have h1 := rep_size hf
 have h2 := (rep_ok hf).2.2.2.1.2.2
 have h3 := y.doers.len
 rw [h3] at h2
 split at h2 <;> omega
theorem specBeatAt_is {own : Bool} {lo hi : Nat} (N M Sl : Hd) (xs : List Nod) (ms : List Mal) (es : List En) (v : Int) (w : World) (x : ClAt w own lo hi N M Sl xs ms es) (hs : ClSz N M Sl xs ms 1048576) (rs : List Rep) (ns : List Ml) (hrs : xs.map (·.1) = rs) (hns : ms.map (·.1) = ns) (cd : Int) (R' : List Rep) (M' : List Ml) (E' : List En) (hc : atC rs ns es v repF = cd) (hR : atN rs ns es v repF beQ = R') (hM : atM rs ns es v repF beMs = M') (hE : atE rs ns es v repF beQ = E') :
  Calls Tryz.prog 23 #[.agg #[.slice N.1 N.2.1 N.2.2, .slice M.1 M.2.1 M.2.2, .slice Sl.1 Sl.2.1 Sl.2.2], .int .i64 v] w fun e w' => ClRes false w w' e cd R' M' E' := by
 obtain ⟨na, nn, nc⟩ := N
 have hlen : rs.length = nn := by rw [← hrs]; simpa using x.nodes.len
 have HX : Hid _ := x
 have HRS : Hid _ := hrs
 have HNS : Hid _ := hns
 have HLEN : Hid _ := hlen
 have HCD : Hid _ := hc
 have HR : Hid _ := hR
 have HM : Hid _ := hM
 have HE : Hid _ := hE
 obtain ⟨d, hd⟩ : ∃ d, nplC (cluF rs ns es) nn v = d := ⟨_, rfl⟩
 have HD : Hid _ := hd
 have HS : Hid _ := hs
 clear hc hR hM hE hd hs hrs hns hlen x
 go_enter Tryz.func23, Tryz.ntmps23
 go_wp2_with (first | ((have g := ob0); clear g; (with_reducible refine alloc_newX 34 [.int .i64 0, .slice none 0 0, .slice none 0 0, .slice none 0 0] (fun _ => by kernel_rfl) ?_); intro b1 W1 N1; have ob1 := Nat.le_trans B.size N1.ge; have o0_b1 := ltl X0.lt N1.ge; replace X0 := X0.below N1.below; replace c0 := X0.cell; replace f0 := X0.froz; replace B := below_next B N1.below; have X1 := N1.bx; have c1 := X1.cell; have f1 := X1.froz; clear N1) | ((with_reducible refine box_newX 32 [.slice na nn nc, .slice M.1 M.2.1 M.2.2, .slice Sl.1 Sl.2.1 Sl.2.2] rfl ?_); intro b0 W0 N0; have ob0 := N0.ge; have B := N0.below; have X0 := N0.bx; have c0 := X0.cell; have f0 := X0.froz; clear N0) | fail)
 refine (l11Node_is b0 (na, nn, nc) M Sl xs ms es v _ X0 (HX.out.below B) HS.out d (by rw [HRS.out, HNS.out]; exact HD.out)).mono ?_
 rintro e w1 ⟨rfl, BB⟩
 replace X0 := X0.below BB
 replace c0 := X0.cell
 replace f0 := X0.froz
 replace X1 := X1.below BB
 replace c1 := X1.cell
 replace f1 := X1.froz
 replace B := below_next B BB
 clear BB
 by_cases q2 : d = 0
 rotate_left 1
 ·have q2' : (d != 0) = true := by simp [q2]
  go_wp2_with fail
  refine (l11Bad_is d _).mono ?_
  rintro e w2 ⟨rfl, BB⟩
  replace X0 := X0.below BB
  replace c0 := X0.cell
  replace f0 := X0.froz
  replace X1 := X1.below BB
  replace c1 := X1.cell
  replace f1 := X1.froz
  replace B := below_next B BB
  clear BB
  go_wp2_with (first | ((with_reducible refine store_midX 34 X1 0 [.int .i64 d, .slice none 0 0, .slice none 0 0, .slice none 0 0] (by simp) (by kernel_rfl) (by simp [Value.oneCell']) rfl rfl ?_); intro V1 S; replace X0 := X0.kp S.kept; replace c0 := X0.cell; replace f0 := X0.froz; replace X1 : Bx V1 b1 [.int .i64 d, .slice none 0 0, .slice none 0 0, .slice none 0 0] := S.bx; replace c1 := X1.cell; replace f1 := X1.froz; replace B := bkp B S.kept; clear S))
  refine bodyPost_ret (v := .agg #[.int .i64 d, .slice none 0 0, .slice none 0 0, .slice none 0 0]) (by simp [results, Tryz.results23, go_sem, *]) rfl ?_
  obtain ⟨e1, e2, e3, e4⟩ := atC_bad (C := repF) (Q := beQ) (Ms := beMs) (rs := rs) (by rw [HLEN.out]; exact HD.out) q2
  rw [← HCD.out, ← HR.out, ← HM.out, ← HE.out, e1, e2, e3, e4]
  exact DoM.nix _ d B
 subst q2
 obtain ⟨hF, hv0, hv1⟩ := npl_ok HD.out
 have HF : Hid _ := hF
 obtain ⟨i, hiv⟩ : ∃ i : Nat, v = (i : Int) := ⟨v.toNat, by omega⟩
 subst hiv
 have hin : i < nn := by omega
 have hik : (i : Int) < (nn : Int) := by omega
 clear hF hv0 hv1
 have HFW : Hid (∀ (j : Nat) (a : Nod), xs[j]? = some a → repF a.1 = 0) := fun j a e => by
  have hj : j < xs.length := (List.getElem?_eq_some_iff.1 e).1
  have h1 := (nodesF_all (clu_parts HF.out).2.2.1 j (by rw [← HRS.out, List.length_map]; exact hj)).1
  rw [← HRS.out, mapD e] at h1; exact h1
 have H5 : Hid (nn ≤ 5) := by (show _; have := (clu_parts HF.out).1; rw [HLEN.out] at this; exact this)
 have H120 : Hid (M.2.1 ≤ 120) := by
  show _
  have := (clu_parts HF.out).2.1
  rw [← HNS.out, List.length_map, LAt.len HX.out.mails] at this; exact this
 have HDF : Hid (∀ (j : Nat) (a : Nod), xs[j]? = some a → a.2.D.2.1 ≤ 1000) := fun j a e => doers_few (HX.out.nodes.each j a e) (HFW.out j a e)
 have XN0 := LAt.node HX.out.nodes hin
 obtain ⟨r, h, b, off, ex, en, _, _, XN0, y0, _⟩ := XN0
 have hbw : b < w.heap.size := XN0.lt
 have hmk := HS.out.nodes i _ ex
 have HER : Hid (rs.getD i rep0 = r) := by (show _ = _; rw [← HRS.out]; exact mapD ex)
 have HR0 : Hid (repF r = 0) := HFW.out i _ ex
 clear ex
 simp only at hmk en
 subst en
 obtain ⟨c, hc⟩ : ∃ c, repF r = c := ⟨_, rfl⟩
 obtain ⟨q, hq⟩ : ∃ q : Rep, beQ r = q := ⟨_, rfl⟩
 obtain ⟨zq, hzq⟩ : ∃ zq : List Ml, beMs r = zq := ⟨_, rfl⟩
 have HAT := atC_code (C := repF) (Q := beQ) (Ms := beMs) (rs := rs) (ms := ns) (es := es) (v := (i : Int)) (c := c) (by rw [HLEN.out]; exact HD.out) (by rw [Int.toNat_natCast, HER.out]; exact hc)
 rw [Int.toNat_natCast, HER.out, hq, hzq] at HAT
 have HAT2 : Hid _ := HAT
 have HC1 : Hid _ := hc
 have HQ1 : Hid _ := hq
 have HZ1 : Hid _ := hzq
 have HCM : Hid (c = 0 → 0 ≤ q.commit ∧ q.commit ≤ q.log.length) := fun z => by (rw [← HQ1.out]; exact be_com r HR0.out (by rw [HC1.out]; exact z))
 clear HAT hc hq hzq
 have XN := XN0.below B
 have y := y0.below B
 have cN := XN.cell
 clear XN0 y0
 go_wp2_with fail
 have DQ : Below w1.heap.size w1 w1.drew := (Below.refl _ _).drew
 replace X0 := X0.below DQ
 replace c0 := X0.cell
 replace f0 := X0.froz
 replace X1 := X1.below DQ
 replace c1 := X1.cell
 replace f1 := X1.froz
 replace B := below_next B DQ
 clear DQ
 replace XN := XN.below (Below.drew (Below.refl _ _))
 replace cN := XN.cell
 replace y := RepAt.below y (Below.drew (Below.refl _ _))
 refine wp_region_held_drew (S := (fun w' => (∀ k_2 : Nat, w'.cell? ⟨b0, k_2, none⟩ = [.slice (some ⟨b, off, none⟩) nn nc, .slice M.1 M.2.1 M.2.2, .slice Sl.1 Sl.2.1 Sl.2.2][k_2]?) ∧ (w'.cell? ⟨b, off + i * 10, none⟩ = [.int .i64 r.id, .int .i64 r.size, .int .i64 r.view, .bool r.normal, .int .i64 r.last, .slice h.L.1 h.L.2.1 h.L.2.2, .int .i64 r.commit, .slice h.O.1 h.O.2.1 h.O.2.2, .slice h.A.1 h.A.2.1 h.A.2.2, .slice h.D.1 h.D.2.1 h.D.2.2][0]? ∧ ∀ k_1 : Nat, k_1 < 10 → w'.cell? ⟨b, off + i * 10 + k_1, none⟩ = [.int .i64 r.id, .int .i64 r.size, .int .i64 r.view, .bool r.normal, .int .i64 r.last, .slice h.L.1 h.L.2.1 h.L.2.2, .int .i64 r.commit, .slice h.O.1 h.O.2.1 h.O.2.2, .slice h.A.1 h.A.2.1 h.A.2.2, .slice h.D.1 h.D.2.1 h.D.2.2][k_1]?))) (by kernel_rfl) ⟨c0, cN⟩ (fun HH => ?_)
 refine tk 0 HH ?_
 refine tk 1 HH ?_
 refine tk 2 HH ?_
 refine tk 3 HH ?_
 refine tk 4 HH ?_
 refine tk 5 HH ?_
 refine tk 6 HH ?_
 refine rd1 7 (fun KK hKK => ?_)
 go_simp
 go_at_call 49
 refine (specBeat_is r h _ y hmk c q zq HC1.out HQ1.out HZ1.out).mono ?_
 rintro e v1 ⟨z, u, hA, s, Km, rfl, Gz, hAA, AA, ZA, BB⟩
 obtain ⟨l0, hl0⟩ : ∃ l, l = w1.drew.heap.size := ⟨_, rfl⟩
 have G0 : l0 ≤ z := by rw [hl0]; exact Gz
 have lb1 : b1 < l0 := by rw [hl0]; exact X1.lt
 have lw0 : w.heap.size ≤ l0 := by rw [hl0]; exact B.size
 have hl1 : l0 ≤ v1.heap.size := by rw [hl0]; exact BB.size
 clear hl0 Gz
 replace X0 := X0.below BB
 replace c0 := X0.cell
 replace f0 := X0.froz
 replace X1 := X1.below BB
 replace c1 := X1.cell
 replace f1 := X1.froz
 replace B := below_next B BB
 replace XN := XN.below BB
 replace cN := XN.cell
 have HAA : Hid _ := AA
 have HZA : Hid _ := ZA
 clear BB AA ZA y
 clear HH
 refine hKK _ _ ⟨c0, cN⟩ (fun HH => ?_)
 clear hKK KK
 refine rd1 8 (fun KK hKK => ?_)
 have HQR : Hid ((if c = 0 then doN (xs.map (·.1)) i q else []) = R') := by
  show _ = _
  rw [← HR.out]
  by_cases z : c = 0
  ·rw [if_pos z, HRS.out, (HAT2.out.2.2 z).1]
  ·rw [if_neg z, (HAT2.out.2.1 z).1]
 have HQM : Hid ((if c = 0 then doM (ms.map (·.1)) zq else []) = M') := by
  show _ = _
  rw [← HM.out]
  by_cases z : c = 0
  ·rw [if_pos z, HNS.out, (HAT2.out.2.2 z).2.1]
  ·rw [if_neg z, (HAT2.out.2.1 z).2.1]
 have HQE : Hid ((if c = 0 then sealE q es else []) = E') := by
  show _ = _
  rw [← HE.out]
  by_cases z : c = 0
  ·rw [if_pos z, (HAT2.out.2.2 z).2.2]
  ·rw [if_neg z, (HAT2.out.2.1 z).2.2]
 go_simp
 go_at_call 74
 refine (l11Do_is (some ⟨b, off, none⟩, nn, nc) M Sl xs ms es i hin _ (HX.out.below B) HS.out H5.out H120.out HDF.out c q hA s Km zq HAA.out HZA.out G0 hl1 hAA HCM.out R' M' E' HQR.out HQM.out HQE.out).mono ?_
 rintro e v2 ⟨N3, M3, S3, x3, y3, rfl, A3, Z3, f1', f2', BB⟩
 replace X0 := X0.below BB
 replace c0 := X0.cell
 replace f0 := X0.froz
 replace X1 := X1.below BB
 replace c1 := X1.cell
 replace f1 := X1.froz
 replace B := below_next B BB
 replace XN := XN.below BB
 replace cN := XN.cell
 have HA3 : Hid _ := A3
 have HZ3 : Hid _ := Z3
 have HF1 : Hid _ := f1'
 have HF2 : Hid _ := f2'
 clear BB A3 Z3 f1' f2' HAA HZA
 clear HH
 refine hKK _ _ ⟨c0, cN⟩ (fun HH => ?_)
 clear hKK KK
 refine rd1 9 (fun KK hKK => ?_)
 refine step_midX 34 X1 0 [.int .i64 c, .slice N3.1 N3.2.1 N3.2.2, .slice M3.1 M3.2.1 M3.2.2, .slice S3.1 S3.2.1 S3.2.2] (by simp) (by kernel_rfl) (by simp [Value.oneCell']) rfl rfl ?_
 intro V9 S
 have hk2 := S.kept
 have B7 := S.kept.below w.heap.size (by omega) B.size
 replace XN := XN.low B7 hbw
 replace cN := XN.cell
 clear B7
 replace X0 := X0.kp S.kept
 replace c0 := X0.cell
 replace f0 := X0.froz
 replace X1 : Bx V9 b1 [.int .i64 c, .slice N3.1 N3.2.1 N3.2.2, .slice M3.1 M3.2.1 M3.2.2, .slice S3.1 S3.2.1 S3.2.2] := S.bx
 replace c1 := X1.cell
 replace f1 := X1.froz
 replace B := bkp B S.kept
 clear S
 clear HH
 refine hKK _ _ ⟨c0, cN⟩ (fun HH => ?_)
 clear hKK KK
 refine wpAnyH_done (by kernel_rfl) ?_ _
 go_wp2
 refine bodyPost_ret (v := .agg #[.int .i64 c, .slice N3.1 N3.2.1 N3.2.2, .slice M3.1 M3.2.1 M3.2.2, .slice S3.1 S3.2.1 S3.2.2]) (by simp [results, Tryz.results23, go_sem, *]) rfl ?_
 rw [← HCD.out, HAT2.out.1]
 exact ⟨N3, M3, S3, x3, y3, rfl, (HA3.out.kept hk2 (Or.inr (by omega))).widen lw0 hk2.size, HZ3.out, HF1.out, HF2.out, B⟩
structure PutC (w W : World) (b k : Nat) (v : Value) : Prop where
 eq : W = w.setCell ⟨b, k, none⟩ v
theorem markNods_any {lo hi : Nat} (ao : Option Addr) (n cap : Nat) (xs : List Nod) (k : Int) (w : World) (x : LAt nodeK w true lo hi ao n cap xs) (hk0 : 0 ≤ k) (hk1 : k + 6 * (nsum xs : Int) ≤ 12000000) :
  Calls Tryz.prog 83 #[.slice ao n cap, .int .i64 k] w fun e w' => e = .returned (.int .i64 (qAt k xs n)) ∧ LAt nodeK w' true lo hi ao n cap (mkTo k xs n) ∧ KeptS (inL nodeK ao n xs) w w' := by
 have hn : n ≤ 12000000 := by
  have : ∀ ys : List Nod, ys.length ≤ nsum ys := fun ys => by
   induction ys with
   | nil => simp [nsum]
   | cons a t ih => simp only [List.length_cons, nsum]; omega
  have := this xs
  have := x.len
  omega
 have hxl := x.len
 have HXL : Hid _ := hxl
 have E0 : mkTo k xs 0 = xs := by cases xs <;> rfl
 clear hxl
 go_enter Tryz.func83, Tryz.ntmps83
 go_wp2
 go_loopw [1, 5] (fun v j wr => ∃ i : Nat, i ≤ n ∧ j = .int .i64 i ∧ v = .int .i64 (qAt k xs i) ∧ LAt nodeK wr true lo hi ao n cap (mkTo k xs i) ∧ KeptS (inL nodeK ao n xs) w wr) (fun _ j _ => n - (intOf j).toNat)
 case atStart => exact ⟨0, Nat.zero_le _, rfl, by cases xs <;> rfl, by (rw [E0]; exact x), KeptS.refl _ _⟩
 case round =>
  clear E0
  obtain ⟨i, hi', rfl, rfl, E, hS⟩ := hrel
  by_cases hlt : i < n
  ·have hlk : (i : Int) < (n : Int) := by omega
   have hxi : i < xs.length := by rw [HXL.out]; exact hlt
   obtain ⟨⟨r, h⟩, ex⟩ : ∃ a, xs[i]? = some a := ⟨_, List.getElem?_eq_getElem hxi⟩
   have ey : (mkTo k xs i)[i]? = some (r, h) := by rw [mkTo_at]; exact ex
   obtain ⟨r0, h0, b, off, -, rfl, -, -, -, -, -⟩ := E.node hlt
   clear r0 h0
   have q1 := qAt_le xs k i
   have q2 := qAt_more xs k i _ ex
   have q3 := rsum_sz h
   have q3L := q3.L
   have q3O := q3.O
   have q3A := q3.A
   have q3D := q3.D
   have q3K : Hid _ := q3.K
   simp only at q2
   clear q3
   have HNX : Hid (qAt k xs (i + 1) = qN h (qAt k xs i)) := qAt_next xs k i _ ex
   have HST : Hid (mkTo k xs (i + 1) = (mkTo k xs i).set i (mkRep h (qAt k xs i), h)) := mkTo_next xs k i _ ex
   have HIN : Hid (∀ z, inRep h z → inL nodeK (some ⟨b, off, none⟩) n (mkTo k xs i) z) := fun z hz => Or.inr ⟨i, _, ey, hz⟩
   have HSN : Hid ((mkTo k xs i).map (·.2) = xs.map (·.2)) := mkTo_snd xs k i
   have HM : Hid (NMk wr lo hi b off n cap (mkTo k xs i) i r h wr) := NMk.start E ey (KeptS.refl _ _)
   have HS : Hid _ := hS
   clear E ex ey hS
   generalize hys : mkTo k xs i = ys at *
   clear hys
   generalize hq : qAt k xs i = q at *
   have HQ : Hid _ := hq
   clear hq
   have q0 : 0 ≤ q := by omega
   have q4 : q + 6 * ((1 + rsum h : Nat) : Int) ≤ 12000000 := by omega
   have HQN := qN_le h q
   have HQ2 : Hid _ := HQN
   clear HQN q1 q2
   have p1 : h.L.2.1 ≤ 4194304 := by omega
   have p2 : 0 ≤ q + 5 := by omega
   have p3 : q + 5 ≤ 1000000000000000 := by omega
   have HV : Hid (∀ j : Int, 0 ≤ j → j ≤ 20 → IntKind.i64.wrap (q + j) = q + j) := fun j _ _ => wrapI_same _ (by omega)
   have v1 : IntKind.i64.wrap (q + 1) = q + 1 := HV.out 1 (by decide) (by decide)
   have v2 : IntKind.i64.wrap (q + 2) = q + 2 := HV.out 2 (by decide) (by decide)
   have v3 : IntKind.i64.wrap (q + 3) = q + 3 := HV.out 3 (by decide) (by decide)
   have v4 : IntKind.i64.wrap (q + 4) = q + 4 := HV.out 4 (by decide) (by decide)
   have v5 : IntKind.i64.wrap (q + 5) = q + 5 := HV.out 5 (by decide) (by decide)
   have a2 : q + 1 + 1 = q + 2 := Int.add_assoc q 1 1
   have a3 : q + 2 + 1 = q + 3 := Int.add_assoc q 2 1
   have a4 : q + 3 + 1 = q + 4 := Int.add_assoc q 3 1
   have a5 : q + 4 + 1 = q + 5 := Int.add_assoc q 4 1
   have r3 : Int.tmod (q + 3) 3 = q % 3 := by (rw [Int.tmod_eq_emod_of_nonneg (by omega)]; omega)
   have y3 : IntKind.i64.wrap (q % 3) = q % 3 := wrapI_same _ (by omega)
   have HW6 : Hid (IntKind.i64.wrap (q + 5 + 6 * (h.L.2.1 : Int) + 1) = qO h q) := by show _ = _; rw [wrapI_same _ (by omega)]; unfold qO; omega
   obtain ⟨id, size, view, normal, last, log, commit, oks, asks, doers⟩ := r
   have X : Ro wr b (off + i * 10) [.int .i64 id, .int .i64 size, .int .i64 view, .bool normal, .int .i64 last, .slice h.L.1 h.L.2.1 h.L.2.2, .int .i64 commit, .slice h.O.1 h.O.2.1 h.O.2.2, .slice h.A.1 h.A.2.1 h.A.2.2, .slice h.D.1 h.D.2.1 h.D.2.2] := (HM.out.facts hlt).1
   have fX := (HM.out.facts hlt).2.1
   have c0 : wr.cell? ⟨b, off + i * 10, none⟩ = some (.int .i64 id) := X.cell.1
   have c1 : wr.cell? ⟨b, off + i * 10 + 1, none⟩ = some (.int .i64 size) := X.cell.2 1 (by decide)
   have c2 : wr.cell? ⟨b, off + i * 10 + 2, none⟩ = some (.int .i64 view) := X.cell.2 2 (by decide)
   have c3 : wr.cell? ⟨b, off + i * 10 + 3, none⟩ = some (.bool normal) := X.cell.2 3 (by decide)
   have c4 : wr.cell? ⟨b, off + i * 10 + 4, none⟩ = some (.int .i64 last) := X.cell.2 4 (by decide)
   have c5 : wr.cell? ⟨b, off + i * 10 + 5, none⟩ = some (.slice h.L.1 h.L.2.1 h.L.2.2) := X.cell.2 5 (by decide)
   have c6 : wr.cell? ⟨b, off + i * 10 + 6, none⟩ = some (.int .i64 commit) := X.cell.2 6 (by decide)
   have c7 : wr.cell? ⟨b, off + i * 10 + 7, none⟩ = some (.slice h.O.1 h.O.2.1 h.O.2.2) := X.cell.2 7 (by decide)
   have c8 : wr.cell? ⟨b, off + i * 10 + 8, none⟩ = some (.slice h.A.1 h.A.2.1 h.A.2.2) := X.cell.2 8 (by decide)
   have c9 : wr.cell? ⟨b, off + i * 10 + 9, none⟩ = some (.slice h.D.1 h.D.2.1 h.D.2.2) := X.cell.2 9 (by decide)
   have f0 : wr.frozen? ⟨b, off + i * 10, none⟩ = false := fX 0 (by decide)
   have f1 : wr.frozen? ⟨b, off + i * 10 + 1, none⟩ = false := fX 1 (by decide)
   have f2 : wr.frozen? ⟨b, off + i * 10 + 2, none⟩ = false := fX 2 (by decide)
   have f3 : wr.frozen? ⟨b, off + i * 10 + 3, none⟩ = false := fX 3 (by decide)
   have f4 : wr.frozen? ⟨b, off + i * 10 + 4, none⟩ = false := fX 4 (by decide)
   clear X fX
   replace HM : Hid (NMk wr lo hi b off n cap ys i ⟨q, size, view, normal, last, log, commit, oks, asks, doers⟩ h (wr.setCell ⟨b, off + i * 10, none⟩ (.int .i64 (q)))) := HM.out.cell hlt 0 (by decide) _ _ rfl ⟨rfl, rfl, rfl, rfl⟩
   replace HM : Hid (NMk wr lo hi b off n cap ys i ⟨q, (q + 1), view, normal, last, log, commit, oks, asks, doers⟩ h ((wr.setCell ⟨b, off + i * 10, none⟩ (.int .i64 (q))).setCell ⟨b, off + i * 10 + 1, none⟩ (.int .i64 (q + 1)))) := HM.out.cell hlt 1 (by decide) _ _ rfl ⟨rfl, rfl, rfl, rfl⟩
   replace HM : Hid (NMk wr lo hi b off n cap ys i ⟨q, (q + 1), (q + 2), normal, last, log, commit, oks, asks, doers⟩ h (((wr.setCell ⟨b, off + i * 10, none⟩ (.int .i64 (q))).setCell ⟨b, off + i * 10 + 1, none⟩ (.int .i64 (q + 1))).setCell ⟨b, off + i * 10 + 2, none⟩ (.int .i64 (q + 2)))) := HM.out.cell hlt 2 (by decide) _ _ rfl ⟨rfl, rfl, rfl, rfl⟩
   replace HM : Hid (NMk wr lo hi b off n cap ys i ⟨q, (q + 1), (q + 2), (q % 3 == 0), last, log, commit, oks, asks, doers⟩ h ((((wr.setCell ⟨b, off + i * 10, none⟩ (.int .i64 (q))).setCell ⟨b, off + i * 10 + 1, none⟩ (.int .i64 (q + 1))).setCell ⟨b, off + i * 10 + 2, none⟩ (.int .i64 (q + 2))).setCell ⟨b, off + i * 10 + 3, none⟩ (.bool (q % 3 == 0)))) := HM.out.cell hlt 3 (by decide) _ _ rfl ⟨rfl, rfl, rfl, rfl⟩
   replace HM : Hid (NMk wr lo hi b off n cap ys i ⟨q, (q + 1), (q + 2), (q % 3 == 0), (q + 4), log, commit, oks, asks, doers⟩ h (((((wr.setCell ⟨b, off + i * 10, none⟩ (.int .i64 (q))).setCell ⟨b, off + i * 10 + 1, none⟩ (.int .i64 (q + 1))).setCell ⟨b, off + i * 10 + 2, none⟩ (.int .i64 (q + 2))).setCell ⟨b, off + i * 10 + 3, none⟩ (.bool (q % 3 == 0))).setCell ⟨b, off + i * 10 + 4, none⟩ (.int .i64 (q + 4)))) := HM.out.cell hlt 4 (by decide) _ _ rfl ⟨rfl, rfl, rfl, rfl⟩
   go_wp2_with fail
   refine (markEntries_any _ _ _ _ (q + 5) _ (HM.out.facts hlt).2.2.log.pinR p1 p2 p3).mono ?_
   rintro e w1 ⟨rfl, R2, K2⟩
   have KS : KeptS (hR h.L) (((((wr.setCell ⟨b, off + i * 10, none⟩ (.int .i64 (q))).setCell ⟨b, off + i * 10 + 1, none⟩ (.int .i64 (q + 1))).setCell ⟨b, off + i * 10 + 2, none⟩ (.int .i64 (q + 2))).setCell ⟨b, off + i * 10 + 3, none⟩ (.bool (q % 3 == 0))).setCell ⟨b, off + i * 10 + 4, none⟩ (.int .i64 (q + 4))) w1 := Kept.pinR K2
   clear c0 c1 c2 c3 c4 c5 c6 c7 c8 c9 f0 f1 f2 f3 f4 v1 v2 v3 v4 v5 a2 a3 a4 a5 r3 y3
   replace HM : Hid (NMk wr lo hi b off n cap ys i ⟨q, (q + 1), (q + 2), (q % 3 == 0), (q + 4), (marks6 (q + 5) h.L.2.1), commit, oks, asks, doers⟩ h w1) := HM.out.mem hlt (hR h.L) KS (fun _ z => Or.inl z) HIN.out _ rfl ((HM.out.facts hlt).2.2.logSet KS R2)
   clear KS
   clear R2 K2
   have w6 := HW6.out
   have X : Ro w1 b (off + i * 10) [.int .i64 q, .int .i64 (q + 1), .int .i64 (q + 2), .bool (q % 3 == 0), .int .i64 (q + 4), .slice h.L.1 h.L.2.1 h.L.2.2, .int .i64 commit, .slice h.O.1 h.O.2.1 h.O.2.2, .slice h.A.1 h.A.2.1 h.A.2.2, .slice h.D.1 h.D.2.1 h.D.2.2] := (HM.out.facts hlt).1
   have fX := (HM.out.facts hlt).2.1
   have c6 : w1.cell? ⟨b, off + i * 10 + 6, none⟩ = some (.int .i64 commit) := X.cell.2 6 (by decide)
   have c7 : w1.cell? ⟨b, off + i * 10 + 7, none⟩ = some (.slice h.O.1 h.O.2.1 h.O.2.2) := X.cell.2 7 (by decide)
   have f6 : w1.frozen? ⟨b, off + i * 10 + 6, none⟩ = false := fX 6 (by decide)
   clear X fX
   replace HM : Hid (NMk wr lo hi b off n cap ys i ⟨q, (q + 1), (q + 2), (q % 3 == 0), (q + 4), (marks6 (q + 5) h.L.2.1), (q + 5 + 6 * (h.L.2.1 : Int)), oks, asks, doers⟩ h (w1.setCell ⟨b, off + i * 10 + 6, none⟩ (.int .i64 (q + 5 + 6 * (h.L.2.1 : Int))))) := HM.out.cell hlt 6 (by decide) _ _ rfl ⟨rfl, rfl, rfl, rfl⟩
   go_wp2_with fail
   clear w6 c6 c7 f6
   refine (markInts_any _ _ _ _ (qO h q) _ (HM.out.facts hlt).2.2.oks.pinR (by omega) (by have := HQ2.out; omega) (by have := HQ2.out; omega)).mono ?_
   rintro e w2 ⟨rfl, R2, K2⟩
   have KS : KeptS (hR h.O) (w1.setCell ⟨b, off + i * 10 + 6, none⟩ (.int .i64 (q + 5 + 6 * (h.L.2.1 : Int)))) w2 := Kept.pinR K2
   rw [show qO h q + (h.O.2.1 : Int) = qA h q from rfl]
   replace HM : Hid (NMk wr lo hi b off n cap ys i ⟨q, (q + 1), (q + 2), (q % 3 == 0), (q + 4), (marks6 (q + 5) h.L.2.1), (q + 5 + 6 * (h.L.2.1 : Int)), (marks (qO h q) h.O.2.1), asks, doers⟩ h w2) := HM.out.mem hlt (hR h.O) KS (fun _ z => Or.inr (Or.inl z)) HIN.out _ rfl ((HM.out.facts hlt).2.2.oksSet KS R2)
   clear KS
   clear R2 K2
   have X : Ro w2 b (off + i * 10) [.int .i64 q, .int .i64 (q + 1), .int .i64 (q + 2), .bool (q % 3 == 0), .int .i64 (q + 4), .slice h.L.1 h.L.2.1 h.L.2.2, .int .i64 (q + 5 + 6 * (h.L.2.1 : Int)), .slice h.O.1 h.O.2.1 h.O.2.2, .slice h.A.1 h.A.2.1 h.A.2.2, .slice h.D.1 h.D.2.1 h.D.2.2] := (HM.out.facts hlt).1
   have fX := (HM.out.facts hlt).2.1
   have c8 : w2.cell? ⟨b, off + i * 10 + 8, none⟩ = some (.slice h.A.1 h.A.2.1 h.A.2.2) := X.cell.2 8 (by decide)
   clear X fX
   go_wp2_with fail
   clear c8
   refine (markBools_m _ _ _ _ (qA h q) _ (HM.out.facts hlt).2.2.asks.pinR (by omega) (by have := HQ2.out; omega) (by have := HQ2.out; omega)).mono ?_
   rintro e w3 ⟨rfl, R2, K2⟩
   have KS : KeptS (hR h.A) w2 w3 := Kept.pinR K2
   rw [show qA h q + (h.A.2.1 : Int) = qD h q from rfl]
   replace HM : Hid (NMk wr lo hi b off n cap ys i ⟨q, (q + 1), (q + 2), (q % 3 == 0), (q + 4), (marks6 (q + 5) h.L.2.1), (q + 5 + 6 * (h.L.2.1 : Int)), (marks (qO h q) h.O.2.1), (marksB (qA h q) h.A.2.1), doers⟩ h w3) := HM.out.mem hlt (hR h.A) KS (fun _ z => Or.inr (Or.inr (Or.inl z))) HIN.out _ rfl ((HM.out.facts hlt).2.2.asksSet KS R2)
   clear KS
   clear R2 K2
   have X : Ro w3 b (off + i * 10) [.int .i64 q, .int .i64 (q + 1), .int .i64 (q + 2), .bool (q % 3 == 0), .int .i64 (q + 4), .slice h.L.1 h.L.2.1 h.L.2.2, .int .i64 (q + 5 + 6 * (h.L.2.1 : Int)), .slice h.O.1 h.O.2.1 h.O.2.2, .slice h.A.1 h.A.2.1 h.A.2.2, .slice h.D.1 h.D.2.1 h.D.2.2] := (HM.out.facts hlt).1
   have fX := (HM.out.facts hlt).2.1
   have c9 : w3.cell? ⟨b, off + i * 10 + 9, none⟩ = some (.slice h.D.1 h.D.2.1 h.D.2.2) := X.cell.2 9 (by decide)
   clear X fX
   go_wp2_with fail
   clear c9
   refine (markDoerS_any _ _ _ h.K _ _ (qD h q) _ (HM.out.facts hlt).2.2.doers.els (fun _ _ => rfl) (by omega) (fun j hj => Nat.le_trans (q3K.out j hj) (by omega)) (by have := HQ2.out; omega) (by have := HQ2.out; omega)).mono ?_
   rintro e w4 ⟨rfl, R2, KS⟩
   rw [show kE 3 h.K (qD h q) h.D.2.1 = qN h q from rfl]
   replace HM : Hid (NMk wr lo hi b off n cap ys i ⟨q, (q + 1), (q + 2), (q % 3 == 0), (q + 4), (marks6 (q + 5) h.L.2.1), (q + 5 + 6 * (h.L.2.1 : Int)), (marks (qO h q) h.O.2.1), (marksB (qA h q) h.A.2.1), (mkDrs h.K (qD h q) h.D.2.1)⟩ h w4) := HM.out.mem hlt (inE h.D.1 h.D.2.1 h.K) KS (fun _ z => Or.inr (Or.inr (Or.inr z))) HIN.out _ rfl ((HM.out.facts hlt).2.2.doersSet KS R2)
   clear KS
   clear R2
   have HE : Hid (LAt nodeK w4 true lo hi (some ⟨b, off, none⟩) n cap (mkTo k xs (i + 1))) := by
    show LAt _ _ _ _ _ _ _ _ _
    rw [HST.out]
    exact HM.out.1
   have HK : Hid (KeptS (inL nodeK (some ⟨b, off, none⟩) n xs) w w4) := HS.out.trans (HM.out.2.mono fun z hz => inL_snd HSN.out _ _ z hz)
   have HN : Hid (qN h q = qAt k xs (i + 1)) := by
    show _ = _
    rw [HNX.out]
   clear HM HIN HSN HS HNX HST HQ
   go_wp2
   go_roundw
   case rel => exact ⟨i + 1, by omega, by go_num, by rw [HN.out], HE.out, HK.out⟩
   case measure => simp [intOf]; omega
  ·obtain rfl : i = n := by omega
   go_wp2
   go_ret
   exact ⟨rfl, E, hS⟩
theorem heldNods_any {o : Bool} {lo hi : Nat} (ao : Option Addr) (n cap : Nat) (xs : List Nod) (k : Int) (w : World) (x : LAt nodeK w o lo hi ao n cap (mkTo k xs n)) (hk0 : 0 ≤ k) (hk1 : k + 6 * (nsum xs : Int) ≤ 12000000) :
  Calls Tryz.prog 169 #[.slice ao n cap, .int .i64 k] w fun e w' => e = .returned (.int .i64 (qAt k xs n)) ∧ w' = w := by
 have hxl : xs.length = n := by rw [← mkTo_len xs k n]; exact x.len
 have hn : n ≤ 12000000 := by
  have : ∀ ys : List Nod, ys.length ≤ nsum ys := fun ys => by
   induction ys with
   | nil => simp [nsum]
   | cons a t ih => simp only [List.length_cons, nsum]; omega
  have := this xs
  omega
 have HXL : Hid _ := hxl
 clear hxl
 go_enter Tryz.func169, Tryz.ntmps169
 go_wp2
 go_loopw [1, 5] (fun v j wr => ∃ i : Nat, i ≤ n ∧ j = .int .i64 i ∧ v = .int .i64 (qAt k xs i) ∧ wr = w) (fun _ j _ => n - (intOf j).toNat)
 case atStart => exact ⟨0, Nat.zero_le _, rfl, by cases xs <;> rfl, rfl⟩
 case round =>
  obtain ⟨i, hi', rfl, rfl, rfl⟩ := hrel
  by_cases hlt : i < n
  ·have hlk : (i : Int) < (n : Int) := by omega
   have hxi : i < xs.length := by rw [HXL.out]; exact hlt
   obtain ⟨⟨r, h⟩, ex⟩ : ∃ a, xs[i]? = some a := ⟨_, List.getElem?_eq_getElem hxi⟩
   have ey : (mkTo k xs n)[i]? = some (mkRep h (qAt k xs i), h) := mkTo_done xs k n i _ hlt ex
   obtain ⟨r0, h0, b, off, ez, rfl, _, _, X0, y0, _⟩ := x.node hlt
   rw [ey] at ez
   simp only [Option.some.injEq, Prod.mk.injEq] at ez
   obtain ⟨rfl, rfl⟩ := ez
   have q1 := qAt_le xs k i
   have q2 := qAt_more xs k i _ ex
   have q3 := rsum_sz h
   have q3L := q3.L
   have q3O := q3.O
   have q3A := q3.A
   have q3D := q3.D
   have q3K : Hid _ := q3.K
   simp only at q2
   clear q3
   have HNX : Hid (qAt k xs (i + 1) = qN h (qAt k xs i)) := qAt_next xs k i _ ex
   clear ex ey
   generalize hq : qAt k xs i = q at *
   have HQ : Hid _ := hq
   clear hq
   have q0 : 0 ≤ q := by omega
   have q4 : q + 6 * ((1 + rsum h : Nat) : Int) ≤ 12000000 := by omega
   have HQN := qN_le h q
   have HQ2 : Hid _ := HQN
   have HO0 : Hid (qO h q = q + 6 + 6 * (h.L.2.1 : Int)) := rfl
   clear q1 q2
   have n1 : ¬ (q + 5 + 6 * (h.L.2.1 : Int)) < 0 := by omega
   have n2 : ¬ qA h q < 0 := by omega
   have n3 : ¬ qD h q < 0 := by omega
   have n4 : ¬ qN h q < 0 := by omega
   clear HQN
   have HV : Hid (∀ j : Int, 0 ≤ j → j ≤ 20 → IntKind.i64.wrap (q + j) = q + j) := fun j _ _ => wrapI_same _ (by omega)
   have v1 : IntKind.i64.wrap (q + 1) = q + 1 := HV.out 1 (by decide) (by decide)
   have v2 : IntKind.i64.wrap (q + 2) = q + 2 := HV.out 2 (by decide) (by decide)
   have v3 : IntKind.i64.wrap (q + 3) = q + 3 := HV.out 3 (by decide) (by decide)
   have v4 : IntKind.i64.wrap (q + 4) = q + 4 := HV.out 4 (by decide) (by decide)
   have v5 : IntKind.i64.wrap (q + 5) = q + 5 := HV.out 5 (by decide) (by decide)
   have a2 : q + 1 + 1 = q + 2 := Int.add_assoc q 1 1
   have a3 : q + 2 + 1 = q + 3 := Int.add_assoc q 2 1
   have a4 : q + 3 + 1 = q + 4 := Int.add_assoc q 3 1
   have a5 : q + 4 + 1 = q + 5 := Int.add_assoc q 4 1
   have r3 : Int.tmod (q + 3) 3 = q % 3 := by (rw [Int.tmod_eq_emod_of_nonneg (by omega)]; omega)
   have y3 : IntKind.i64.wrap (q % 3) = q % 3 := wrapI_same _ (by omega)
   have HW6 : Hid (IntKind.i64.wrap (q + 5 + 6 * (h.L.2.1 : Int) + 1) = qO h q) := by show _ = _; rw [wrapI_same _ (by omega)]; unfold qO; omega
   have e0 : (q != q) = false := by simp
   have e1 : (q + 1 != q + 1) = false := by simp
   have e2 : (q + 2 != q + 2) = false := by simp
   have e4 : (q + 4 != q + 4) = false := by simp
   have e3 : ((q % 3 == 0) != (q % 3 == 0)) = false := by simp
   have X : Ro wr b (off + i * 10) [.int .i64 q, .int .i64 (q + 1), .int .i64 (q + 2), .bool (q % 3 == 0), .int .i64 (q + 4), .slice h.L.1 h.L.2.1 h.L.2.2, .int .i64 (q + 5 + 6 * (h.L.2.1 : Int)), .slice h.O.1 h.O.2.1 h.O.2.2, .slice h.A.1 h.A.2.1 h.A.2.2, .slice h.D.1 h.D.2.1 h.D.2.2] := X0
   have cX := X.cell
   clear X0
   have HY : Hid _ := y0
   clear y0
   go_wp2_with fail
   refine (heldEntries_any _ _ _ (q + 5) _ HY.out.log (by omega) (by omega) (by omega)).mono ?_
   rintro e W9 ⟨rfl, rfl⟩
   clear v1 v2 v3 v4 v5 a2 a3 a4 a5 r3 y3 e0 e1 e2 e3 e4
   have w6 := HW6.out
   have e6 : (q + 5 + 6 * (h.L.2.1 : Int) != q + 5 + 6 * (h.L.2.1 : Int)) = false := by simp
   go_wp2_with fail
   clear w6 e6
   refine (heldInts_any _ _ _ (qO h q) _ HY.out.oks (by omega) (by have := HQ2.out; omega) (by have := HQ2.out; omega)).mono ?_
   rintro e W9 ⟨rfl, rfl⟩
   rw [show qO h q + (h.O.2.1 : Int) = qA h q from rfl]
   go_wp2_with fail
   refine (heldBools_any _ _ _ (qA h q) _ HY.out.asks (by omega) (by have := HQ2.out; omega) (by have := HQ2.out; omega)).mono ?_
   rintro e W9 ⟨rfl, rfl⟩
   rw [show qA h q + (h.A.2.1 : Int) = qD h q from rfl]
   go_wp2_with fail
   refine (heldDoerS_any _ _ _ h.K (fun _ => []) (qD h q) _ (HY.out.doers.els.congr (fun i j hi hj => mkDrs_F _ _ _ _ _ hi hj) (fun i hi => mkDrs_L _ _ _ _ _ hi)) (by omega) (fun j hj => Nat.le_trans (q3K.out j hj) (by omega)) (by have := HQ2.out; omega) (by have := HQ2.out; omega)).mono ?_
   rintro e W9 ⟨rfl, rfl⟩
   rw [show kE 3 h.K (qD h q) h.D.2.1 = qN h q from rfl]
   have HN : Hid (qN h q = qAt k xs (i + 1)) := by
    show _ = _
    first | rw [HNX.out, HQ.out] | rw [HNX.out]
   clear HY HNX HQ
   go_wp2
   go_roundw
   case rel => exact ⟨i + 1, by omega, by go_num, by rw [HN.out], trivial⟩
   case measure => simp [intOf]; omega
  ·obtain rfl : i = n := by omega
   go_wp2
   go_ret
   exact ⟨rfl, rfl⟩
end Go.Proofs.YtgldocaohcoleaaGreat
