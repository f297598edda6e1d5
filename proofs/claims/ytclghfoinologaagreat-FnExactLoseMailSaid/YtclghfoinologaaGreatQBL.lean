/- Chapter 11: LoseMail of the model, whole. -/
import Derived.Test.YtclghfoinologaaGreatLX2
set_option maxRecDepth 20000
set_option maxHeartbeats 16000000
namespace Go.Proofs.YtclghfoinologaaGreat
open Go.RowKit
theorem l11In0 (v : Int) (n : Nat) (w : World) (_ : n ≤ 1048576) (b : Bool) (hb : decide (0 ≤ v ∧ v ≤ (n : Int) - 1) = b) : Calls Tryz.prog 75 #[.int .i64 v, .int .i64 0, .int .i64 ((n : Int) - 1)] w fun e w' => e = .returned (.bool b) ∧ w' = w := l1In_is' v 0 ((n : Int) - 1) w b hb
theorem l11At_is {own : Bool} {lo hi : Nat} (b0 : Nat) (N M Sl : Hd) (xs : List Nod) (ms : List Mal) (es : List En) (v : Int) (w : World) (X0 : Bx w b0 [.slice N.1 N.2.1 N.2.2, .slice M.1 M.2.1 M.2.2, .slice Sl.1 Sl.2.1 Sl.2.2]) (x : ClAt w own lo hi N M Sl xs ms es) (hs : ClSz N M Sl xs ms 1048576) (d : Int) (hd : nplC (cluF (xs.map (·.1)) (ms.map (·.1)) es) M.2.1 v = d) :
  Calls Tryz.prog 38 #[.pointer (some ⟨b0, 0, none⟩), .int .i64 v] w fun e w' => e = .returned (.int .i64 d) ∧ Below w.heap.size w w' := by
 obtain ⟨c, hc⟩ : ∃ c, cluF (xs.map (·.1)) (ms.map (·.1)) es = c := ⟨_, rfl⟩;rw [hc] at hd
 have HD : Hid _ := hd
 have HC : Hid _ := hc
 have HS : Hid _ := hs
 have c0 := X0.cell;clear hd hc hs
 go_enter Tryz.func38, Tryz.ntmps38
 go_wp2_with fail;refine (l11Fault_is b0 N M Sl xs ms es _ X0 x HS.out c HC.out).mono ?_;rintro e w1 ⟨rfl, B⟩;replace X0 := X0.below B;replace c0 := X0.cell
 by_cases q2 : c = 0
 rotate_left 1
 ·have q2' : (c != 0) = true := by simp [q2]
  have e : d = c := by rw [← HD.out];exact if_neg q2
  subst e;clear HD HC;go_wp2;go_ret;exact ⟨rfl, B⟩
 subst q2;have HD2 := HD.out;unfold nplC at HD2;rw [if_pos rfl] at HD2
 replace HD : Hid _ := HD2
 clear HD2
 have hmn : M.2.1 ≤ 1048576 := HS.out.m
 go_wp2_with fail
 by_cases q0 : 0 ≤ v ∧ v ≤ (M.2.1 : Int) - 1
 rotate_left 1
 ·have e : d = 3 := by rw [← HD.out];exact if_neg q0
  subst e;clear HD
  refine (l11In0 v M.2.1 _ hmn false (by simp only [decide_eq_false_eq];exact q0)).mono ?_
  rintro e W9 ⟨rfl, rfl⟩;go_wp2;go_ret;exact ⟨rfl, B⟩
 have e : d = 0 := by rw [← HD.out];exact if_pos q0
 subst e;clear HD
 refine (l11In0 v M.2.1 _ hmn true (by simp only [decide_eq_true_eq];exact q0)).mono ?_
 rintro e W9 ⟨rfl, rfl⟩;go_wp2;go_ret;exact ⟨rfl, B⟩
theorem specLoseMail_is {own : Bool} {lo hi : Nat} (N M Sl : Hd) (xs : List Nod) (ms : List Mal) (es : List En) (v : Int) (w : World) (x : ClAt w own lo hi N M Sl xs ms es) (hs : ClSz N M Sl xs ms 1048576) (rs : List Rep) (ns : List Ml) (hrs : xs.map (·.1) = rs) (hns : ms.map (·.1) = ns) (cd : Int) (R' : List Rep) (M' : List Ml) (E' : List En) (hc : loC rs ns es v = cd) (hR : loN rs ns es v = R') (hM : loM rs ns es v = M') (hE : loE rs ns es v = E') :
  Calls Tryz.prog 15 #[.agg #[.slice N.1 N.2.1 N.2.2, .slice M.1 M.2.1 M.2.2, .slice Sl.1 Sl.2.1 Sl.2.2], .int .i64 v] w fun e w' => ClRes false w w' e cd R' M' E' := by
 have hlen : ns.length = M.2.1 := by rw [← hns];simpa using x.mails.len
 have hln2 : rs.length = N.2.1 := by rw [← hrs];simpa using x.nodes.len
 have HX : Hid _ := x
 have HRS : Hid _ := hrs
 have HNS : Hid _ := hns
 have HLEN : Hid _ := hlen
 have HLN : Hid _ := hln2
 have HCD : Hid _ := hc
 have HR : Hid _ := hR
 have HM : Hid _ := hM
 have HE : Hid _ := hE
 have HD : Hid (nplC (cluF rs ns es) M.2.1 v = cd) := by show _ = _;rw [← hc, ← hlen];rfl
 have HS : Hid _ := hs
 clear hc hR hM hE hs hrs hns hlen hln2 x
 go_enter Tryz.func15, Tryz.ntmps15
 go_wp2_with (first | ((have g := ob0);clear g;(with_reducible refine al 38 [.int .i64 0, .slice none 0 0, .slice none 0 0, .slice none 0 0] ?_);intro b1 W1 N1;have ob1 := N1.o B;have o0_b1 := N1.u X0;replace X0 := N1.r X0;replace c0 := X0.cell;replace f0 := X0.froz;replace B := N1.n B;obtain ⟨X1, c1, f1⟩ := N1.a;clear N1) | ((with_reducible refine box_newX 36 [.slice N.1 N.2.1 N.2.2, .slice M.1 M.2.1 M.2.2, .slice Sl.1 Sl.2.1 Sl.2.2] rfl ?_);intro b0 W0 N0;have ob0 := N0.ge;have B := N0.below;obtain ⟨X0, c0, f0⟩ := N0.a;clear N0) | fail)
 refine (l11At_is b0 N M Sl xs ms es v _ X0 (HX.out.below B) HS.out cd (by rw [HRS.out, HNS.out];exact HD.out)).mono ?_
 rintro e w1 ⟨rfl, BB⟩;replace X0 := X0.below BB;replace c0 := X0.cell;replace f0 := X0.froz;replace X1 := X1.below BB;replace c1 := X1.cell;replace f1 := X1.froz;replace B := below_next B BB;clear BB
 by_cases q2 : cd = 0
 rotate_left 1
 ·have q2' : (cd != 0) = true := by simp [q2]
  go_wp2_with fail;refine (l11Bad_is cd _).mono ?_;rintro e w2 ⟨rfl, BB⟩;replace X0 := X0.below BB;replace c0 := X0.cell;replace f0 := X0.froz;replace X1 := X1.below BB;replace c1 := X1.cell;replace f1 := X1.froz;replace B := below_next B BB;clear BB
  go_wp2_with (first | ((with_reducible refine sm 38 X1 0 [.int .i64 cd, .slice none 0 0, .slice none 0 0, .slice none 0 0] ?_);intro V1 S;replace X0 := X0.kp S.kept;replace c0 := X0.cell;replace f0 := X0.froz;replace X1 : Bx V1 b1 [.int .i64 cd, .slice none 0 0, .slice none 0 0, .slice none 0 0] := S.bx;replace c1 := X1.cell;replace f1 := X1.froz;replace B := bkp B S.kept;clear S))
  refine bodyPost_ret (v := .agg #[.int .i64 cd, .slice none 0 0, .slice none 0 0, .slice none 0 0]) (by simp [results, Tryz.results15, go_sem, *]) rfl ?_
  obtain ⟨e1, e2, e3⟩ := lo_bad HCD.out q2
  rw [← HR.out, ← HM.out, ← HE.out, e1, e2, e3];exact ClRes.nix cd B
 subst q2
 obtain ⟨hF, hv0, hv1⟩ := npl_ok HD.out
 have HF : Hid _ := hF
 obtain ⟨i, hiv⟩ : ∃ i : Nat, v = (i : Int) := ⟨v.toNat, by omega⟩
 subst hiv
 have hin : i < M.2.1 := by omega
 clear hF hv0 hv1
 have HFW : Hid (∀ (j : Nat) (a : Nod), xs[j]? = some a → repF a.1 = 0) := fun j a e => by
  have hj : j < xs.length := (List.getElem?_eq_some_iff.1 e).1
  have h1 := (nodesF_all (clu_parts HF.out).2.2.1 j (by rw [← HRS.out, List.length_map];exact hj)).1
  rw [← HRS.out, mapD e] at h1;exact h1
 have H5 : Hid (N.2.1 ≤ 5) := by (show _;have := (clu_parts HF.out).1;rw [HLN.out] at this;exact this)
 have H120 : Hid (M.2.1 ≤ 120) := by
  show _
  have := (clu_parts HF.out).2.1
  rw [HLEN.out] at this;exact this
 have HDF : Hid (∀ (j : Nat) (a : Nod), xs[j]? = some a → a.2.D.2.1 ≤ 1000) := fun j a e => doers_few (HX.out.nodes.each j a e) (HFW.out j a e)
 go_wp2_with fail;refine (l11Without_is N M Sl xs ms es i _ (HX.out.below B) HS.out H5.out H120.out HDF.out hin).mono ?_;rintro e w2 ⟨N', M2, S', xa, ya, rfl, A, Z, e1, e2, BB⟩;obtain ⟨base, hbase⟩ : ∃ z, z = w1.heap.size := ⟨_, rfl⟩;rw [← hbase] at A
 have lb1 : b1 < base := by rw [hbase];exact X1.lt
 have lwb : w.heap.size ≤ base := by rw [hbase];exact B.size
 clear hbase;replace X0 := X0.below BB;replace c0 := X0.cell;replace f0 := X0.froz;replace X1 := X1.below BB;replace c1 := X1.cell;replace f1 := X1.froz;replace B := below_next B BB;clear BB
 have HA : Hid _ := A
 have HZ : Hid _ := Z
 have HE1 : Hid _ := e1
 have HE2 : Hid _ := e2
 clear A Z e1 e2
 go_wp2_with (first | ((with_reducible refine sm 38 X1 0 [.int .i64 0, .slice N'.1 N'.2.1 N'.2.2, .slice M2.1 M2.2.1 M2.2.2, .slice S'.1 S'.2.1 S'.2.2] ?_);intro V1 S;replace X0 := X0.kp S.kept;replace c0 := X0.cell;replace f0 := X0.froz;replace X1 : Bx V1 b1 [.int .i64 0, .slice N'.1 N'.2.1 N'.2.2, .slice M2.1 M2.2.1 M2.2.2, .slice S'.1 S'.2.1 S'.2.2] := S.bx;replace c1 := X1.cell;replace f1 := X1.froz;replace B := bkp B S.kept;have hk2 := S.kept;clear S))
 refine bodyPost_ret (v := .agg #[.int .i64 0, .slice N'.1 N'.2.1 N'.2.2, .slice M2.1 M2.2.1 M2.2.2, .slice S'.1 S'.2.1 S'.2.2]) (by simp [results, Tryz.results15, go_sem, *]) rfl ?_
 obtain ⟨e1, e2, e3⟩ := lo_ok HCD.out
 rw [← HR.out, ← HM.out, ← HE.out, e1, e2, e3, Int.toNat_natCast]
 refine ⟨N', M2, S', xa, ya, rfl, ((HA.out.kept hk2 (Or.inr (by omega))).widen lwb hk2.size), HZ.out, ?_, ?_, B⟩
 ·rw [HE1.out, HRS.out]
 ·rw [HE2.out, HNS.out]
structure PutC (w W : World) (b k : Nat) (v : Value) : Prop where
 eq : W = w.setCell ⟨b, k, none⟩ v
theorem markNods_any {lo hi : Nat} (ao : Option Addr) (n cap : Nat) (xs : List Nod) (k : Int) (w : World) (x : LAt nodeK w true lo hi ao n cap xs) (hk0 : 0 ≤ k) (hk1 : k + 6 * (nsum xs : Int) ≤ 12000000) :
  Calls Tryz.prog 34 #[.slice ao n cap, .int .i64 k] w fun e w' => e = .returned (.int .i64 (qAt k xs n)) ∧ LAt nodeK w' true lo hi ao n cap (mkTo k xs n) ∧ KeptS (inL nodeK ao n xs) w w' := by
 have hn : n ≤ 12000000 := by
  have : ∀ ys : List Nod, ys.length ≤ nsum ys := fun ys => by
   induction ys with
   | nil => simp [nsum]
   | cons a t ih => simp only [List.length_cons, nsum];omega
  have := this xs
  have := x.len
  omega
 have hxl := x.len
 have HXL : Hid _ := hxl
 have E0 : mkTo k xs 0 = xs := by cases xs <;> rfl
 clear hxl
 go_enter Tryz.func34, Tryz.ntmps34
 go_wp2
 go_loopw [1, 5] (fun v j wr => ∃ i : Nat, i ≤ n ∧ j = .int .i64 i ∧ v = .int .i64 (qAt k xs i) ∧ LAt nodeK wr true lo hi ao n cap (mkTo k xs i) ∧ KeptS (inL nodeK ao n xs) w wr) (fun _ j _ => n - (intOf j).toNat)
 case atStart => exact ⟨0, Nat.zero_le _, rfl, by cases xs <;> rfl, by (rw [E0];exact x), KeptS.refl _ _⟩
 case round =>
  clear E0
  obtain ⟨i, hi', rfl, rfl, E, hS⟩ := hrel
  by_cases hlt : i < n
  ·have hlk : (i : Int) < (n : Int) := by omega
   have hxi : i < xs.length := by rw [HXL.out];exact hlt
   obtain ⟨⟨r, h⟩, ex⟩ : ∃ a, xs[i]? = some a := ⟨_, List.getElem?_eq_getElem hxi⟩
   have ey : (mkTo k xs i)[i]? = some (r, h) := by rw [mkTo_at];exact ex
   obtain ⟨r0, h0, b, off, -, rfl, -, -, -, -, -⟩ := E.node hlt
   clear r0 h0;have q1 := qAt_le xs k i;have q2 := qAt_more xs k i _ ex;have q3 := rsum_sz h;have q3L := q3.L;have q3O := q3.O;have q3A := q3.A;have q3D := q3.D
   have q3K : Hid _ := q3.K
   simp only at q2
   clear q3
   have HNX : Hid (qAt k xs (i + 1) = qN h (qAt k xs i)) := qAt_next xs k i _ ex
   have HST : Hid (mkTo k xs (i + 1) = (mkTo k xs i).set i (mkRep h (qAt k xs i), h)) := mkTo_next xs k i _ ex
   have HIN : Hid (∀ z, inRep h z → inL nodeK (some ⟨b, off, none⟩) n (mkTo k xs i) z) := fun z hz => Or.inr ⟨i, _, ey, hz⟩
   have HSN : Hid ((mkTo k xs i).map (·.2) = xs.map (·.2)) := mkTo_snd xs k i
   have HM : Hid (NMk wr lo hi b off n cap (mkTo k xs i) i r h wr) := NMk.start E ey (KeptS.refl _ _)
   have HS : Hid _ := hS
   clear E ex ey hS;generalize hys : mkTo k xs i = ys at *;clear hys;generalize hq : qAt k xs i = q at *
   have HQ : Hid _ := hq
   clear hq
   have q0 : 0 ≤ q := by omega
   have q4 : q + 6 * ((1 + rsum h : Nat) : Int) ≤ 12000000 := by omega
   have HQN := qN_le h q
   have HQ2 : Hid _ := HQN
   clear HQN q1 q2
   have p1 : h.L.2.1 ≤ 4194304 := by omega
   have p2 : 0 ≤ q + 5 := by omega
   have p3 : q + 5 ≤ 1000000000000000 := by omega
   have HV : Hid (∀ j : Int, 0 ≤ j → j ≤ 20 → IntKind.i64.wrap (q + j) = q + j) := fun j _ _ => wrapI_same _ (by omega)
   have v1 : IntKind.i64.wrap (q + 1) = q + 1 := HV.out 1 (by decide) (by decide)
   have v2 : IntKind.i64.wrap (q + 2) = q + 2 := HV.out 2 (by decide) (by decide)
   have v3 : IntKind.i64.wrap (q + 3) = q + 3 := HV.out 3 (by decide) (by decide)
   have v4 : IntKind.i64.wrap (q + 4) = q + 4 := HV.out 4 (by decide) (by decide)
   have v5 : IntKind.i64.wrap (q + 5) = q + 5 := HV.out 5 (by decide) (by decide)
   have a2 : q + 1 + 1 = q + 2 := Int.add_assoc q 1 1
   have a3 : q + 2 + 1 = q + 3 := Int.add_assoc q 2 1
   have a4 : q + 3 + 1 = q + 4 := Int.add_assoc q 3 1
   have a5 : q + 4 + 1 = q + 5 := Int.add_assoc q 4 1
   have r3 : Int.tmod (q + 3) 3 = q % 3 := by (rw [Int.tmod_eq_emod_of_nonneg (by omega)];omega)
   have y3 : IntKind.i64.wrap (q % 3) = q % 3 := wrapI_same _ (by omega)
   have HW6 : Hid (IntKind.i64.wrap (q + 5 + 6 * (h.L.2.1 : Int) + 1) = qO h q) := by show _ = _;rw [wrapI_same _ (by omega)];unfold qO;omega
   obtain ⟨id, size, view, normal, last, log, commit, oks, asks, doers⟩ := r
   have X : Ro wr b (off + i * 10) [.int .i64 id, .int .i64 size, .int .i64 view, .bool normal, .int .i64 last, .slice h.L.1 h.L.2.1 h.L.2.2, .int .i64 commit, .slice h.O.1 h.O.2.1 h.O.2.2, .slice h.A.1 h.A.2.1 h.A.2.2, .slice h.D.1 h.D.2.1 h.D.2.2] := (HM.out.facts hlt).1
   have fX := (HM.out.facts hlt).2.1
   have c0 : wr.cell? ⟨b, off + i * 10, none⟩ = some (.int .i64 id) := X.cell.1
   have c1 : wr.cell? ⟨b, off + i * 10 + 1, none⟩ = some (.int .i64 size) := X.cell.2 1 (by decide)
   have c2 : wr.cell? ⟨b, off + i * 10 + 2, none⟩ = some (.int .i64 view) := X.cell.2 2 (by decide)
   have c3 : wr.cell? ⟨b, off + i * 10 + 3, none⟩ = some (.bool normal) := X.cell.2 3 (by decide)
   have c4 : wr.cell? ⟨b, off + i * 10 + 4, none⟩ = some (.int .i64 last) := X.cell.2 4 (by decide)
   have c5 : wr.cell? ⟨b, off + i * 10 + 5, none⟩ = some (.slice h.L.1 h.L.2.1 h.L.2.2) := X.cell.2 5 (by decide)
   have c6 : wr.cell? ⟨b, off + i * 10 + 6, none⟩ = some (.int .i64 commit) := X.cell.2 6 (by decide)
   have c7 : wr.cell? ⟨b, off + i * 10 + 7, none⟩ = some (.slice h.O.1 h.O.2.1 h.O.2.2) := X.cell.2 7 (by decide)
   have c8 : wr.cell? ⟨b, off + i * 10 + 8, none⟩ = some (.slice h.A.1 h.A.2.1 h.A.2.2) := X.cell.2 8 (by decide)
   have c9 : wr.cell? ⟨b, off + i * 10 + 9, none⟩ = some (.slice h.D.1 h.D.2.1 h.D.2.2) := X.cell.2 9 (by decide)
   have f0 : wr.frozen? ⟨b, off + i * 10, none⟩ = false := fX 0 (by decide)
   have f1 : wr.frozen? ⟨b, off + i * 10 + 1, none⟩ = false := fX 1 (by decide)
   have f2 : wr.frozen? ⟨b, off + i * 10 + 2, none⟩ = false := fX 2 (by decide)
   have f3 : wr.frozen? ⟨b, off + i * 10 + 3, none⟩ = false := fX 3 (by decide)
   have f4 : wr.frozen? ⟨b, off + i * 10 + 4, none⟩ = false := fX 4 (by decide)
   clear X fX
   replace HM : Hid (NMk wr lo hi b off n cap ys i ⟨q, size, view, normal, last, log, commit, oks, asks, doers⟩ h (wr.setCell ⟨b, off + i * 10, none⟩ (.int .i64 (q)))) := HM.out.cell hlt 0 (by decide) _ _ rfl ⟨rfl, rfl, rfl, rfl⟩
   replace HM : Hid (NMk wr lo hi b off n cap ys i ⟨q, (q + 1), view, normal, last, log, commit, oks, asks, doers⟩ h ((wr.setCell ⟨b, off + i * 10, none⟩ (.int .i64 (q))).setCell ⟨b, off + i * 10 + 1, none⟩ (.int .i64 (q + 1)))) := HM.out.cell hlt 1 (by decide) _ _ rfl ⟨rfl, rfl, rfl, rfl⟩
   replace HM : Hid (NMk wr lo hi b off n cap ys i ⟨q, (q + 1), (q + 2), normal, last, log, commit, oks, asks, doers⟩ h (((wr.setCell ⟨b, off + i * 10, none⟩ (.int .i64 (q))).setCell ⟨b, off + i * 10 + 1, none⟩ (.int .i64 (q + 1))).setCell ⟨b, off + i * 10 + 2, none⟩ (.int .i64 (q + 2)))) := HM.out.cell hlt 2 (by decide) _ _ rfl ⟨rfl, rfl, rfl, rfl⟩
   replace HM : Hid (NMk wr lo hi b off n cap ys i ⟨q, (q + 1), (q + 2), (q % 3 == 0), last, log, commit, oks, asks, doers⟩ h ((((wr.setCell ⟨b, off + i * 10, none⟩ (.int .i64 (q))).setCell ⟨b, off + i * 10 + 1, none⟩ (.int .i64 (q + 1))).setCell ⟨b, off + i * 10 + 2, none⟩ (.int .i64 (q + 2))).setCell ⟨b, off + i * 10 + 3, none⟩ (.bool (q % 3 == 0)))) := HM.out.cell hlt 3 (by decide) _ _ rfl ⟨rfl, rfl, rfl, rfl⟩
   replace HM : Hid (NMk wr lo hi b off n cap ys i ⟨q, (q + 1), (q + 2), (q % 3 == 0), (q + 4), log, commit, oks, asks, doers⟩ h (((((wr.setCell ⟨b, off + i * 10, none⟩ (.int .i64 (q))).setCell ⟨b, off + i * 10 + 1, none⟩ (.int .i64 (q + 1))).setCell ⟨b, off + i * 10 + 2, none⟩ (.int .i64 (q + 2))).setCell ⟨b, off + i * 10 + 3, none⟩ (.bool (q % 3 == 0))).setCell ⟨b, off + i * 10 + 4, none⟩ (.int .i64 (q + 4)))) := HM.out.cell hlt 4 (by decide) _ _ rfl ⟨rfl, rfl, rfl, rfl⟩
   go_wp2_with fail;refine (markEntries_any _ _ _ _ (q + 5) _ (HM.out.facts hlt).2.2.log.pinR p1 p2 p3).mono ?_;rintro e w1 ⟨rfl, R2, K2⟩
   have KS : KeptS (hR h.L) (((((wr.setCell ⟨b, off + i * 10, none⟩ (.int .i64 (q))).setCell ⟨b, off + i * 10 + 1, none⟩ (.int .i64 (q + 1))).setCell ⟨b, off + i * 10 + 2, none⟩ (.int .i64 (q + 2))).setCell ⟨b, off + i * 10 + 3, none⟩ (.bool (q % 3 == 0))).setCell ⟨b, off + i * 10 + 4, none⟩ (.int .i64 (q + 4))) w1 := Kept.pinR K2
   clear c0 c1 c2 c3 c4 c5 c6 c7 c8 c9 f0 f1 f2 f3 f4 v1 v2 v3 v4 v5 a2 a3 a4 a5 r3 y3
   replace HM : Hid (NMk wr lo hi b off n cap ys i ⟨q, (q + 1), (q + 2), (q % 3 == 0), (q + 4), (marks6 (q + 5) h.L.2.1), commit, oks, asks, doers⟩ h w1) := HM.out.mem hlt (hR h.L) KS (fun _ z => Or.inl z) HIN.out _ rfl ((HM.out.facts hlt).2.2.logSet KS R2)
   clear KS;clear R2 K2;have w6 := HW6.out
   have X : Ro w1 b (off + i * 10) [.int .i64 q, .int .i64 (q + 1), .int .i64 (q + 2), .bool (q % 3 == 0), .int .i64 (q + 4), .slice h.L.1 h.L.2.1 h.L.2.2, .int .i64 commit, .slice h.O.1 h.O.2.1 h.O.2.2, .slice h.A.1 h.A.2.1 h.A.2.2, .slice h.D.1 h.D.2.1 h.D.2.2] := (HM.out.facts hlt).1
   have fX := (HM.out.facts hlt).2.1
   have c6 : w1.cell? ⟨b, off + i * 10 + 6, none⟩ = some (.int .i64 commit) := X.cell.2 6 (by decide)
   have c7 : w1.cell? ⟨b, off + i * 10 + 7, none⟩ = some (.slice h.O.1 h.O.2.1 h.O.2.2) := X.cell.2 7 (by decide)
   have f6 : w1.frozen? ⟨b, off + i * 10 + 6, none⟩ = false := fX 6 (by decide)
   clear X fX
   replace HM : Hid (NMk wr lo hi b off n cap ys i ⟨q, (q + 1), (q + 2), (q % 3 == 0), (q + 4), (marks6 (q + 5) h.L.2.1), (q + 5 + 6 * (h.L.2.1 : Int)), oks, asks, doers⟩ h (w1.setCell ⟨b, off + i * 10 + 6, none⟩ (.int .i64 (q + 5 + 6 * (h.L.2.1 : Int))))) := HM.out.cell hlt 6 (by decide) _ _ rfl ⟨rfl, rfl, rfl, rfl⟩
   go_wp2_with fail;clear w6 c6 c7 f6
   refine (markInts_any _ _ _ _ (qO h q) _ (HM.out.facts hlt).2.2.oks.pinR (by omega) (by have := HQ2.out;omega) (by have := HQ2.out;omega)).mono ?_
   rintro e w2 ⟨rfl, R2, K2⟩
   have KS : KeptS (hR h.O) (w1.setCell ⟨b, off + i * 10 + 6, none⟩ (.int .i64 (q + 5 + 6 * (h.L.2.1 : Int)))) w2 := Kept.pinR K2
   rw [show qO h q + (h.O.2.1 : Int) = qA h q from rfl]
   replace HM : Hid (NMk wr lo hi b off n cap ys i ⟨q, (q + 1), (q + 2), (q % 3 == 0), (q + 4), (marks6 (q + 5) h.L.2.1), (q + 5 + 6 * (h.L.2.1 : Int)), (marks (qO h q) h.O.2.1), asks, doers⟩ h w2) := HM.out.mem hlt (hR h.O) KS (fun _ z => Or.inr (Or.inl z)) HIN.out _ rfl ((HM.out.facts hlt).2.2.oksSet KS R2)
   clear KS;clear R2 K2
   have X : Ro w2 b (off + i * 10) [.int .i64 q, .int .i64 (q + 1), .int .i64 (q + 2), .bool (q % 3 == 0), .int .i64 (q + 4), .slice h.L.1 h.L.2.1 h.L.2.2, .int .i64 (q + 5 + 6 * (h.L.2.1 : Int)), .slice h.O.1 h.O.2.1 h.O.2.2, .slice h.A.1 h.A.2.1 h.A.2.2, .slice h.D.1 h.D.2.1 h.D.2.2] := (HM.out.facts hlt).1
   have fX := (HM.out.facts hlt).2.1
   have c8 : w2.cell? ⟨b, off + i * 10 + 8, none⟩ = some (.slice h.A.1 h.A.2.1 h.A.2.2) := X.cell.2 8 (by decide)
   clear X fX;go_wp2_with fail;clear c8
   refine (markBools_m _ _ _ _ (qA h q) _ (HM.out.facts hlt).2.2.asks.pinR (by omega) (by have := HQ2.out;omega) (by have := HQ2.out;omega)).mono ?_
   rintro e w3 ⟨rfl, R2, K2⟩
   have KS : KeptS (hR h.A) w2 w3 := Kept.pinR K2
   rw [show qA h q + (h.A.2.1 : Int) = qD h q from rfl]
   replace HM : Hid (NMk wr lo hi b off n cap ys i ⟨q, (q + 1), (q + 2), (q % 3 == 0), (q + 4), (marks6 (q + 5) h.L.2.1), (q + 5 + 6 * (h.L.2.1 : Int)), (marks (qO h q) h.O.2.1), (marksB (qA h q) h.A.2.1), doers⟩ h w3) := HM.out.mem hlt (hR h.A) KS (fun _ z => Or.inr (Or.inr (Or.inl z))) HIN.out _ rfl ((HM.out.facts hlt).2.2.asksSet KS R2)
   clear KS;clear R2 K2
   have X : Ro w3 b (off + i * 10) [.int .i64 q, .int .i64 (q + 1), .int .i64 (q + 2), .bool (q % 3 == 0), .int .i64 (q + 4), .slice h.L.1 h.L.2.1 h.L.2.2, .int .i64 (q + 5 + 6 * (h.L.2.1 : Int)), .slice h.O.1 h.O.2.1 h.O.2.2, .slice h.A.1 h.A.2.1 h.A.2.2, .slice h.D.1 h.D.2.1 h.D.2.2] := (HM.out.facts hlt).1
   have fX := (HM.out.facts hlt).2.1
   have c9 : w3.cell? ⟨b, off + i * 10 + 9, none⟩ = some (.slice h.D.1 h.D.2.1 h.D.2.2) := X.cell.2 9 (by decide)
   clear X fX;go_wp2_with fail;clear c9
   refine (markDoerS_any _ _ _ h.K _ _ (qD h q) _ (HM.out.facts hlt).2.2.doers.els (fun _ _ => rfl) (by omega) (fun j hj => Nat.le_trans (q3K.out j hj) (by omega)) (by have := HQ2.out;omega) (by have := HQ2.out;omega)).mono ?_
   rintro e w4 ⟨rfl, R2, KS⟩
   rw [show kE 3 h.K (qD h q) h.D.2.1 = qN h q from rfl]
   replace HM : Hid (NMk wr lo hi b off n cap ys i ⟨q, (q + 1), (q + 2), (q % 3 == 0), (q + 4), (marks6 (q + 5) h.L.2.1), (q + 5 + 6 * (h.L.2.1 : Int)), (marks (qO h q) h.O.2.1), (marksB (qA h q) h.A.2.1), (mkDrs h.K (qD h q) h.D.2.1)⟩ h w4) := HM.out.mem hlt (inE h.D.1 h.D.2.1 h.K) KS (fun _ z => Or.inr (Or.inr (Or.inr z))) HIN.out _ rfl ((HM.out.facts hlt).2.2.doersSet KS R2)
   clear KS;clear R2
   have HE : Hid (LAt nodeK w4 true lo hi (some ⟨b, off, none⟩) n cap (mkTo k xs (i + 1))) := by
    show LAt _ _ _ _ _ _ _ _ _
    rw [HST.out];exact HM.out.1
   have HK : Hid (KeptS (inL nodeK (some ⟨b, off, none⟩) n xs) w w4) := HS.out.trans (HM.out.2.mono fun z hz => inL_snd HSN.out _ _ z hz)
   have HN : Hid (qN h q = qAt k xs (i + 1)) := by
    show _ = _
    rw [HNX.out]
   clear HM HIN HSN HS HNX HST HQ;go_wp2
   go_roundw
   case rel => exact ⟨i + 1, by omega, by go_num, by rw [HN.out], HE.out, HK.out⟩
   case measure => simp [intOf];omega
  ·obtain rfl : i = n := by omega
   go_wp2;go_ret;exact ⟨rfl, E, hS⟩
theorem heldNods_any {o : Bool} {lo hi : Nat} (ao : Option Addr) (n cap : Nat) (xs : List Nod) (k : Int) (w : World) (x : LAt nodeK w o lo hi ao n cap (mkTo k xs n)) (hk0 : 0 ≤ k) (hk1 : k + 6 * (nsum xs : Int) ≤ 12000000) :
  Calls Tryz.prog 72 #[.slice ao n cap, .int .i64 k] w fun e w' => e = .returned (.int .i64 (qAt k xs n)) ∧ w' = w := by
 have hxl : xs.length = n := by rw [← mkTo_len xs k n];exact x.len
 have hn : n ≤ 12000000 := by
  have : ∀ ys : List Nod, ys.length ≤ nsum ys := fun ys => by
   induction ys with
   | nil => simp [nsum]
   | cons a t ih => simp only [List.length_cons, nsum];omega
  have := this xs
  omega
 have HXL : Hid _ := hxl
 clear hxl
 go_enter Tryz.func72, Tryz.ntmps72
 go_wp2
 go_loopw [1, 5] (fun v j wr => ∃ i : Nat, i ≤ n ∧ j = .int .i64 i ∧ v = .int .i64 (qAt k xs i) ∧ wr = w) (fun _ j _ => n - (intOf j).toNat)
 case atStart => exact ⟨0, Nat.zero_le _, rfl, by cases xs <;> rfl, rfl⟩
 case round =>
  obtain ⟨i, hi', rfl, rfl, rfl⟩ := hrel
  by_cases hlt : i < n
  ·have hlk : (i : Int) < (n : Int) := by omega
   have hxi : i < xs.length := by rw [HXL.out];exact hlt
   obtain ⟨⟨r, h⟩, ex⟩ : ∃ a, xs[i]? = some a := ⟨_, List.getElem?_eq_getElem hxi⟩
   have ey : (mkTo k xs n)[i]? = some (mkRep h (qAt k xs i), h) := mkTo_done xs k n i _ hlt ex
   obtain ⟨r0, h0, b, off, ez, rfl, _, _, X0, y0, _⟩ := x.node hlt
   rw [ey] at ez;simp only [Option.some.injEq, Prod.mk.injEq] at ez
   obtain ⟨rfl, rfl⟩ := ez
   have q1 := qAt_le xs k i;have q2 := qAt_more xs k i _ ex;have q3 := rsum_sz h;have q3L := q3.L;have q3O := q3.O;have q3A := q3.A;have q3D := q3.D
   have q3K : Hid _ := q3.K
   simp only at q2
   clear q3
   have HNX : Hid (qAt k xs (i + 1) = qN h (qAt k xs i)) := qAt_next xs k i _ ex
   clear ex ey;generalize hq : qAt k xs i = q at *
   have HQ : Hid _ := hq
   clear hq
   have q0 : 0 ≤ q := by omega
   have q4 : q + 6 * ((1 + rsum h : Nat) : Int) ≤ 12000000 := by omega
   have HQN := qN_le h q
   have HQ2 : Hid _ := HQN
   have HO0 : Hid (qO h q = q + 6 + 6 * (h.L.2.1 : Int)) := rfl
   clear q1 q2
   have n1 : ¬ (q + 5 + 6 * (h.L.2.1 : Int)) < 0 := by omega
   have n2 : ¬ qA h q < 0 := by omega
   have n3 : ¬ qD h q < 0 := by omega
   have n4 : ¬ qN h q < 0 := by omega
   clear HQN
   have HV : Hid (∀ j : Int, 0 ≤ j → j ≤ 20 → IntKind.i64.wrap (q + j) = q + j) := fun j _ _ => wrapI_same _ (by omega)
   have v1 : IntKind.i64.wrap (q + 1) = q + 1 := HV.out 1 (by decide) (by decide)
   have v2 : IntKind.i64.wrap (q + 2) = q + 2 := HV.out 2 (by decide) (by decide)
   have v3 : IntKind.i64.wrap (q + 3) = q + 3 := HV.out 3 (by decide) (by decide)
   have v4 : IntKind.i64.wrap (q + 4) = q + 4 := HV.out 4 (by decide) (by decide)
   have v5 : IntKind.i64.wrap (q + 5) = q + 5 := HV.out 5 (by decide) (by decide)
   have a2 : q + 1 + 1 = q + 2 := Int.add_assoc q 1 1
   have a3 : q + 2 + 1 = q + 3 := Int.add_assoc q 2 1
   have a4 : q + 3 + 1 = q + 4 := Int.add_assoc q 3 1
   have a5 : q + 4 + 1 = q + 5 := Int.add_assoc q 4 1
   have r3 : Int.tmod (q + 3) 3 = q % 3 := by (rw [Int.tmod_eq_emod_of_nonneg (by omega)];omega)
   have y3 : IntKind.i64.wrap (q % 3) = q % 3 := wrapI_same _ (by omega)
   have HW6 : Hid (IntKind.i64.wrap (q + 5 + 6 * (h.L.2.1 : Int) + 1) = qO h q) := by show _ = _;rw [wrapI_same _ (by omega)];unfold qO;omega
   have e0 : (q != q) = false := by simp
   have e1 : (q + 1 != q + 1) = false := by simp
   have e2 : (q + 2 != q + 2) = false := by simp
   have e4 : (q + 4 != q + 4) = false := by simp
   have e3 : ((q % 3 == 0) != (q % 3 == 0)) = false := by simp
   have X : Ro wr b (off + i * 10) [.int .i64 q, .int .i64 (q + 1), .int .i64 (q + 2), .bool (q % 3 == 0), .int .i64 (q + 4), .slice h.L.1 h.L.2.1 h.L.2.2, .int .i64 (q + 5 + 6 * (h.L.2.1 : Int)), .slice h.O.1 h.O.2.1 h.O.2.2, .slice h.A.1 h.A.2.1 h.A.2.2, .slice h.D.1 h.D.2.1 h.D.2.2] := X0
   have cX := X.cell;clear X0
   have HY : Hid _ := y0
   clear y0;go_wp2_with fail
   refine (heldEntries_any _ _ _ (q + 5) _ HY.out.log (by omega) (by omega) (by omega)).mono ?_
   rintro e W9 ⟨rfl, rfl⟩;clear v1 v2 v3 v4 v5 a2 a3 a4 a5 r3 y3 e0 e1 e2 e3 e4;have w6 := HW6.out
   have e6 : (q + 5 + 6 * (h.L.2.1 : Int) != q + 5 + 6 * (h.L.2.1 : Int)) = false := by simp
   go_wp2_with fail;clear w6 e6
   refine (heldInts_any _ _ _ (qO h q) _ HY.out.oks (by omega) (by have := HQ2.out;omega) (by have := HQ2.out;omega)).mono ?_
   rintro e W9 ⟨rfl, rfl⟩
   rw [show qO h q + (h.O.2.1 : Int) = qA h q from rfl]
   go_wp2_with fail
   refine (heldBools_any _ _ _ (qA h q) _ HY.out.asks (by omega) (by have := HQ2.out;omega) (by have := HQ2.out;omega)).mono ?_
   rintro e W9 ⟨rfl, rfl⟩
   rw [show qA h q + (h.A.2.1 : Int) = qD h q from rfl]
   go_wp2_with fail
   refine (heldDoerS_any _ _ _ h.K (fun _ => []) (qD h q) _ (HY.out.doers.els.congr (fun i j hi hj => mkDrs_F _ _ _ _ _ hi hj) (fun i hi => mkDrs_L _ _ _ _ _ hi)) (by omega) (fun j hj => Nat.le_trans (q3K.out j hj) (by omega)) (by have := HQ2.out;omega) (by have := HQ2.out;omega)).mono ?_
   rintro e W9 ⟨rfl, rfl⟩
   rw [show kE 3 h.K (qD h q) h.D.2.1 = qN h q from rfl]
   have HN : Hid (qN h q = qAt k xs (i + 1)) := by
    show _ = _
    first | rw [HNX.out, HQ.out] | rw [HNX.out]
   clear HY HNX HQ;go_wp2
   go_roundw
   case rel => exact ⟨i + 1, by omega, by go_num, by rw [HN.out], trivial⟩
   case measure => simp [intOf];omega
  ·obtain rfl : i = n := by omega
   go_wp2;go_ret;exact ⟨rfl, rfl⟩
end Go.Proofs.YtclghfoinologaaGreat
