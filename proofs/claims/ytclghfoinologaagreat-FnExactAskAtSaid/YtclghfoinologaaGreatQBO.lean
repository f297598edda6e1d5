/- Chapter 11: lists of nodes marked by the laws. -/
import Derived.Test.YtclghfoinologaaGreatCM0
import Derived.Test.YtclghfoinologaaGreatWN
set_option maxRecDepth 20000
set_option maxHeartbeats 16000000
namespace Go.Proofs.YtclghfoinologaaGreat
open Go.RowKit
structure PutC (w W : World) (b k : Nat) (v : Value) : Prop where
 eq : W = w.setCell ⟨b, k, none⟩ v
theorem markNods_any {lo hi : Nat} (ao : Option Addr) (n cap : Nat) (xs : List Nod) (k : Int) (w : World) (x : LAt nodeK w true lo hi ao n cap xs) (hk0 : 0 ≤ k) (hk1 : k + 6 * (nsum xs : Int) ≤ 12000000) :
  Calls Tryz.prog 34 #[.slice ao n cap, .int .i64 k] w fun e w' => e = .returned (.int .i64 (qAt k xs n)) ∧ LAt nodeK w' true lo hi ao n cap (mkTo k xs n) ∧ KeptS (inL nodeK ao n xs) w w' := by
 have hn : n ≤ 12000000 := by
  have : ∀ ys : List Nod, ys.length ≤ nsum ys := fun ys => by
   induction ys with
   | nil => simp [nsum]
   | cons a t ih => simp only [List.length_cons, nsum];omega
  have := this xs
  have := x.len
  omega
 have hxl := x.len
 have HXL : Hid _ := hxl
 have E0 : mkTo k xs 0 = xs := by cases xs <;> rfl
 clear hxl
 go_enter Tryz.func34, Tryz.ntmps34
 go_wp2
 go_loopw [1, 5] (fun v j wr => ∃ i : Nat, i ≤ n ∧ j = .int .i64 i ∧ v = .int .i64 (qAt k xs i) ∧ LAt nodeK wr true lo hi ao n cap (mkTo k xs i) ∧ KeptS (inL nodeK ao n xs) w wr) (fun _ j _ => n - (intOf j).toNat)
 case atStart => exact ⟨0, Nat.zero_le _, rfl, by cases xs <;> rfl, by (rw [E0];exact x), KeptS.refl _ _⟩
 case round =>
  clear E0
  obtain ⟨i, hi', rfl, rfl, E, hS⟩ := hrel
  by_cases hlt : i < n
  ·have hlk : (i : Int) < (n : Int) := by omega
   have hxi : i < xs.length := by rw [HXL.out];exact hlt
   obtain ⟨⟨r, h⟩, ex⟩ : ∃ a, xs[i]? = some a := ⟨_, List.getElem?_eq_getElem hxi⟩
   have ey : (mkTo k xs i)[i]? = some (r, h) := by rw [mkTo_at];exact ex
   obtain ⟨r0, h0, b, off, -, rfl, -, -, -, -, -⟩ := E.node hlt
   clear r0 h0;have q1 := qAt_le xs k i;have q2 := qAt_more xs k i _ ex;have q3 := rsum_sz h;have q3L := q3.L;have q3O := q3.O;have q3A := q3.A;have q3D := q3.D
   have q3K : Hid _ := q3.K
   simp only at q2
   clear q3
   have HNX : Hid (qAt k xs (i + 1) = qN h (qAt k xs i)) := qAt_next xs k i _ ex
   have HST : Hid (mkTo k xs (i + 1) = (mkTo k xs i).set i (mkRep h (qAt k xs i), h)) := mkTo_next xs k i _ ex
   have HIN : Hid (∀ z, inRep h z → inL nodeK (some ⟨b, off, none⟩) n (mkTo k xs i) z) := fun z hz => Or.inr ⟨i, _, ey, hz⟩
   have HSN : Hid ((mkTo k xs i).map (·.2) = xs.map (·.2)) := mkTo_snd xs k i
   have HM : Hid (NMk wr lo hi b off n cap (mkTo k xs i) i r h wr) := NMk.start E ey (KeptS.refl _ _)
   have HS : Hid _ := hS
   clear E ex ey hS;generalize hys : mkTo k xs i = ys at *;clear hys;generalize hq : qAt k xs i = q at *
   have HQ : Hid _ := hq
   clear hq
   have q0 : 0 ≤ q := by omega
   have q4 : q + 6 * ((1 + rsum h : Nat) : Int) ≤ 12000000 := by omega
   have HQN := qN_le h q
   have HQ2 : Hid _ := HQN
   clear HQN q1 q2
   have p1 : h.L.2.1 ≤ 4194304 := by omega
   have p2 : 0 ≤ q + 5 := by omega
   have p3 : q + 5 ≤ 1000000000000000 := by omega
   have HV : Hid (∀ j : Int, 0 ≤ j → j ≤ 20 → IntKind.i64.wrap (q + j) = q + j) := fun j _ _ => wrapI_same _ (by omega)
   have v1 : IntKind.i64.wrap (q + 1) = q + 1 := HV.out 1 (by decide) (by decide)
   have v2 : IntKind.i64.wrap (q + 2) = q + 2 := HV.out 2 (by decide) (by decide)
   have v3 : IntKind.i64.wrap (q + 3) = q + 3 := HV.out 3 (by decide) (by decide)
   have v4 : IntKind.i64.wrap (q + 4) = q + 4 := HV.out 4 (by decide) (by decide)
   have v5 : IntKind.i64.wrap (q + 5) = q + 5 := HV.out 5 (by decide) (by decide)
   have a2 : q + 1 + 1 = q + 2 := Int.add_assoc q 1 1
   have a3 : q + 2 + 1 = q + 3 := Int.add_assoc q 2 1
   have a4 : q + 3 + 1 = q + 4 := Int.add_assoc q 3 1
   have a5 : q + 4 + 1 = q + 5 := Int.add_assoc q 4 1
   have r3 : Int.tmod (q + 3) 3 = q % 3 := by (rw [Int.tmod_eq_emod_of_nonneg (by omega)];omega)
   have y3 : IntKind.i64.wrap (q % 3) = q % 3 := wrapI_same _ (by omega)
   have HW6 : Hid (IntKind.i64.wrap (q + 5 + 6 * (h.L.2.1 : Int) + 1) = qO h q) := by show _ = _;rw [wrapI_same _ (by omega)];unfold qO;omega
   obtain ⟨id, size, view, normal, last, log, commit, oks, asks, doers⟩ := r
   have X : Ro wr b (off + i * 10) [.int .i64 id, .int .i64 size, .int .i64 view, .bool normal, .int .i64 last, .slice h.L.1 h.L.2.1 h.L.2.2, .int .i64 commit, .slice h.O.1 h.O.2.1 h.O.2.2, .slice h.A.1 h.A.2.1 h.A.2.2, .slice h.D.1 h.D.2.1 h.D.2.2] := (HM.out.facts hlt).1
   have fX := (HM.out.facts hlt).2.1
   have c0 : wr.cell? ⟨b, off + i * 10, none⟩ = some (.int .i64 id) := X.cell.1
   have c1 : wr.cell? ⟨b, off + i * 10 + 1, none⟩ = some (.int .i64 size) := X.cell.2 1 (by decide)
   have c2 : wr.cell? ⟨b, off + i * 10 + 2, none⟩ = some (.int .i64 view) := X.cell.2 2 (by decide)
   have c3 : wr.cell? ⟨b, off + i * 10 + 3, none⟩ = some (.bool normal) := X.cell.2 3 (by decide)
   have c4 : wr.cell? ⟨b, off + i * 10 + 4, none⟩ = some (.int .i64 last) := X.cell.2 4 (by decide)
   have c5 : wr.cell? ⟨b, off + i * 10 + 5, none⟩ = some (.slice h.L.1 h.L.2.1 h.L.2.2) := X.cell.2 5 (by decide)
   have c6 : wr.cell? ⟨b, off + i * 10 + 6, none⟩ = some (.int .i64 commit) := X.cell.2 6 (by decide)
   have c7 : wr.cell? ⟨b, off + i * 10 + 7, none⟩ = some (.slice h.O.1 h.O.2.1 h.O.2.2) := X.cell.2 7 (by decide)
   have c8 : wr.cell? ⟨b, off + i * 10 + 8, none⟩ = some (.slice h.A.1 h.A.2.1 h.A.2.2) := X.cell.2 8 (by decide)
   have c9 : wr.cell? ⟨b, off + i * 10 + 9, none⟩ = some (.slice h.D.1 h.D.2.1 h.D.2.2) := X.cell.2 9 (by decide)
   have f0 : wr.frozen? ⟨b, off + i * 10, none⟩ = false := fX 0 (by decide)
   have f1 : wr.frozen? ⟨b, off + i * 10 + 1, none⟩ = false := fX 1 (by decide)
   have f2 : wr.frozen? ⟨b, off + i * 10 + 2, none⟩ = false := fX 2 (by decide)
   have f3 : wr.frozen? ⟨b, off + i * 10 + 3, none⟩ = false := fX 3 (by decide)
   have f4 : wr.frozen? ⟨b, off + i * 10 + 4, none⟩ = false := fX 4 (by decide)
   clear X fX
   replace HM : Hid (NMk wr lo hi b off n cap ys i ⟨q, size, view, normal, last, log, commit, oks, asks, doers⟩ h (wr.setCell ⟨b, off + i * 10, none⟩ (.int .i64 (q)))) := HM.out.cell hlt 0 (by decide) _ _ rfl ⟨rfl, rfl, rfl, rfl⟩
   replace HM : Hid (NMk wr lo hi b off n cap ys i ⟨q, (q + 1), view, normal, last, log, commit, oks, asks, doers⟩ h ((wr.setCell ⟨b, off + i * 10, none⟩ (.int .i64 (q))).setCell ⟨b, off + i * 10 + 1, none⟩ (.int .i64 (q + 1)))) := HM.out.cell hlt 1 (by decide) _ _ rfl ⟨rfl, rfl, rfl, rfl⟩
   replace HM : Hid (NMk wr lo hi b off n cap ys i ⟨q, (q + 1), (q + 2), normal, last, log, commit, oks, asks, doers⟩ h (((wr.setCell ⟨b, off + i * 10, none⟩ (.int .i64 (q))).setCell ⟨b, off + i * 10 + 1, none⟩ (.int .i64 (q + 1))).setCell ⟨b, off + i * 10 + 2, none⟩ (.int .i64 (q + 2)))) := HM.out.cell hlt 2 (by decide) _ _ rfl ⟨rfl, rfl, rfl, rfl⟩
   replace HM : Hid (NMk wr lo hi b off n cap ys i ⟨q, (q + 1), (q + 2), (q % 3 == 0), last, log, commit, oks, asks, doers⟩ h ((((wr.setCell ⟨b, off + i * 10, none⟩ (.int .i64 (q))).setCell ⟨b, off + i * 10 + 1, none⟩ (.int .i64 (q + 1))).setCell ⟨b, off + i * 10 + 2, none⟩ (.int .i64 (q + 2))).setCell ⟨b, off + i * 10 + 3, none⟩ (.bool (q % 3 == 0)))) := HM.out.cell hlt 3 (by decide) _ _ rfl ⟨rfl, rfl, rfl, rfl⟩
   replace HM : Hid (NMk wr lo hi b off n cap ys i ⟨q, (q + 1), (q + 2), (q % 3 == 0), (q + 4), log, commit, oks, asks, doers⟩ h (((((wr.setCell ⟨b, off + i * 10, none⟩ (.int .i64 (q))).setCell ⟨b, off + i * 10 + 1, none⟩ (.int .i64 (q + 1))).setCell ⟨b, off + i * 10 + 2, none⟩ (.int .i64 (q + 2))).setCell ⟨b, off + i * 10 + 3, none⟩ (.bool (q % 3 == 0))).setCell ⟨b, off + i * 10 + 4, none⟩ (.int .i64 (q + 4)))) := HM.out.cell hlt 4 (by decide) _ _ rfl ⟨rfl, rfl, rfl, rfl⟩
   go_wp2_with fail;refine (markEntries_any _ _ _ _ (q + 5) _ (HM.out.facts hlt).2.2.log.pinR p1 p2 p3).mono ?_;rintro e w1 ⟨rfl, R2, K2⟩
   have KS : KeptS (hR h.L) (((((wr.setCell ⟨b, off + i * 10, none⟩ (.int .i64 (q))).setCell ⟨b, off + i * 10 + 1, none⟩ (.int .i64 (q + 1))).setCell ⟨b, off + i * 10 + 2, none⟩ (.int .i64 (q + 2))).setCell ⟨b, off + i * 10 + 3, none⟩ (.bool (q % 3 == 0))).setCell ⟨b, off + i * 10 + 4, none⟩ (.int .i64 (q + 4))) w1 := Kept.pinR K2
   clear c0 c1 c2 c3 c4 c5 c6 c7 c8 c9 f0 f1 f2 f3 f4 v1 v2 v3 v4 v5 a2 a3 a4 a5 r3 y3
   replace HM : Hid (NMk wr lo hi b off n cap ys i ⟨q, (q + 1), (q + 2), (q % 3 == 0), (q + 4), (marks6 (q + 5) h.L.2.1), commit, oks, asks, doers⟩ h w1) := HM.out.mem hlt (hR h.L) KS (fun _ z => Or.inl z) HIN.out _ rfl ((HM.out.facts hlt).2.2.logSet KS R2)
   clear KS;clear R2 K2;have w6 := HW6.out
   have X : Ro w1 b (off + i * 10) [.int .i64 q, .int .i64 (q + 1), .int .i64 (q + 2), .bool (q % 3 == 0), .int .i64 (q + 4), .slice h.L.1 h.L.2.1 h.L.2.2, .int .i64 commit, .slice h.O.1 h.O.2.1 h.O.2.2, .slice h.A.1 h.A.2.1 h.A.2.2, .slice h.D.1 h.D.2.1 h.D.2.2] := (HM.out.facts hlt).1
   have fX := (HM.out.facts hlt).2.1
   have c6 : w1.cell? ⟨b, off + i * 10 + 6, none⟩ = some (.int .i64 commit) := X.cell.2 6 (by decide)
   have c7 : w1.cell? ⟨b, off + i * 10 + 7, none⟩ = some (.slice h.O.1 h.O.2.1 h.O.2.2) := X.cell.2 7 (by decide)
   have f6 : w1.frozen? ⟨b, off + i * 10 + 6, none⟩ = false := fX 6 (by decide)
   clear X fX
   replace HM : Hid (NMk wr lo hi b off n cap ys i ⟨q, (q + 1), (q + 2), (q % 3 == 0), (q + 4), (marks6 (q + 5) h.L.2.1), (q + 5 + 6 * (h.L.2.1 : Int)), oks, asks, doers⟩ h (w1.setCell ⟨b, off + i * 10 + 6, none⟩ (.int .i64 (q + 5 + 6 * (h.L.2.1 : Int))))) := HM.out.cell hlt 6 (by decide) _ _ rfl ⟨rfl, rfl, rfl, rfl⟩
   go_wp2_with fail;clear w6 c6 c7 f6
   refine (markInts_any _ _ _ _ (qO h q) _ (HM.out.facts hlt).2.2.oks.pinR (by omega) (by have := HQ2.out;omega) (by have := HQ2.out;omega)).mono ?_
   rintro e w2 ⟨rfl, R2, K2⟩
   have KS : KeptS (hR h.O) (w1.setCell ⟨b, off + i * 10 + 6, none⟩ (.int .i64 (q + 5 + 6 * (h.L.2.1 : Int)))) w2 := Kept.pinR K2
   rw [show qO h q + (h.O.2.1 : Int) = qA h q from rfl]
   replace HM : Hid (NMk wr lo hi b off n cap ys i ⟨q, (q + 1), (q + 2), (q % 3 == 0), (q + 4), (marks6 (q + 5) h.L.2.1), (q + 5 + 6 * (h.L.2.1 : Int)), (marks (qO h q) h.O.2.1), asks, doers⟩ h w2) := HM.out.mem hlt (hR h.O) KS (fun _ z => Or.inr (Or.inl z)) HIN.out _ rfl ((HM.out.facts hlt).2.2.oksSet KS R2)
   clear KS;clear R2 K2
   have X : Ro w2 b (off + i * 10) [.int .i64 q, .int .i64 (q + 1), .int .i64 (q + 2), .bool (q % 3 == 0), .int .i64 (q + 4), .slice h.L.1 h.L.2.1 h.L.2.2, .int .i64 (q + 5 + 6 * (h.L.2.1 : Int)), .slice h.O.1 h.O.2.1 h.O.2.2, .slice h.A.1 h.A.2.1 h.A.2.2, .slice h.D.1 h.D.2.1 h.D.2.2] := (HM.out.facts hlt).1
   have fX := (HM.out.facts hlt).2.1
   have c8 : w2.cell? ⟨b, off + i * 10 + 8, none⟩ = some (.slice h.A.1 h.A.2.1 h.A.2.2) := X.cell.2 8 (by decide)
   clear X fX;go_wp2_with fail;clear c8
   refine (markBools_m _ _ _ _ (qA h q) _ (HM.out.facts hlt).2.2.asks.pinR (by omega) (by have := HQ2.out;omega) (by have := HQ2.out;omega)).mono ?_
   rintro e w3 ⟨rfl, R2, K2⟩
   have KS : KeptS (hR h.A) w2 w3 := Kept.pinR K2
   rw [show qA h q + (h.A.2.1 : Int) = qD h q from rfl]
   replace HM : Hid (NMk wr lo hi b off n cap ys i ⟨q, (q + 1), (q + 2), (q % 3 == 0), (q + 4), (marks6 (q + 5) h.L.2.1), (q + 5 + 6 * (h.L.2.1 : Int)), (marks (qO h q) h.O.2.1), (marksB (qA h q) h.A.2.1), doers⟩ h w3) := HM.out.mem hlt (hR h.A) KS (fun _ z => Or.inr (Or.inr (Or.inl z))) HIN.out _ rfl ((HM.out.facts hlt).2.2.asksSet KS R2)
   clear KS;clear R2 K2
   have X : Ro w3 b (off + i * 10) [.int .i64 q, .int .i64 (q + 1), .int .i64 (q + 2), .bool (q % 3 == 0), .int .i64 (q + 4), .slice h.L.1 h.L.2.1 h.L.2.2, .int .i64 (q + 5 + 6 * (h.L.2.1 : Int)), .slice h.O.1 h.O.2.1 h.O.2.2, .slice h.A.1 h.A.2.1 h.A.2.2, .slice h.D.1 h.D.2.1 h.D.2.2] := (HM.out.facts hlt).1
   have fX := (HM.out.facts hlt).2.1
   have c9 : w3.cell? ⟨b, off + i * 10 + 9, none⟩ = some (.slice h.D.1 h.D.2.1 h.D.2.2) := X.cell.2 9 (by decide)
   clear X fX;go_wp2_with fail;clear c9
   refine (markDoerS_any _ _ _ h.K _ _ (qD h q) _ (HM.out.facts hlt).2.2.doers.els (fun _ _ => rfl) (by omega) (fun j hj => Nat.le_trans (q3K.out j hj) (by omega)) (by have := HQ2.out;omega) (by have := HQ2.out;omega)).mono ?_
   rintro e w4 ⟨rfl, R2, KS⟩
   rw [show kE 3 h.K (qD h q) h.D.2.1 = qN h q from rfl]
   replace HM : Hid (NMk wr lo hi b off n cap ys i ⟨q, (q + 1), (q + 2), (q % 3 == 0), (q + 4), (marks6 (q + 5) h.L.2.1), (q + 5 + 6 * (h.L.2.1 : Int)), (marks (qO h q) h.O.2.1), (marksB (qA h q) h.A.2.1), (mkDrs h.K (qD h q) h.D.2.1)⟩ h w4) := HM.out.mem hlt (inE h.D.1 h.D.2.1 h.K) KS (fun _ z => Or.inr (Or.inr (Or.inr z))) HIN.out _ rfl ((HM.out.facts hlt).2.2.doersSet KS R2)
   clear KS;clear R2
   have HE : Hid (LAt nodeK w4 true lo hi (some ⟨b, off, none⟩) n cap (mkTo k xs (i + 1))) := by
    show LAt _ _ _ _ _ _ _ _ _
    rw [HST.out];exact HM.out.1
   have HK : Hid (KeptS (inL nodeK (some ⟨b, off, none⟩) n xs) w w4) := HS.out.trans (HM.out.2.mono fun z hz => inL_snd HSN.out _ _ z hz)
   have HN : Hid (qN h q = qAt k xs (i + 1)) := by
    show _ = _
    rw [HNX.out]
   clear HM HIN HSN HS HNX HST HQ;go_wp2
   go_roundw
   case rel => exact ⟨i + 1, by omega, by go_num, by rw [HN.out], HE.out, HK.out⟩
   case measure => simp [intOf];omega
  ·obtain rfl : i = n := by omega
   go_wp2;go_ret;exact ⟨rfl, E, hS⟩
theorem heldNods_any {o : Bool} {lo hi : Nat} (ao : Option Addr) (n cap : Nat) (xs : List Nod) (k : Int) (w : World) (x : LAt nodeK w o lo hi ao n cap (mkTo k xs n)) (hk0 : 0 ≤ k) (hk1 : k + 6 * (nsum xs : Int) ≤ 12000000) :
  Calls Tryz.prog 72 #[.slice ao n cap, .int .i64 k] w fun e w' => e = .returned (.int .i64 (qAt k xs n)) ∧ w' = w := by
 have hxl : xs.length = n := by rw [← mkTo_len xs k n];exact x.len
 have hn : n ≤ 12000000 := by
  have : ∀ ys : List Nod, ys.length ≤ nsum ys := fun ys => by
   induction ys with
   | nil => simp [nsum]
   | cons a t ih => simp only [List.length_cons, nsum];omega
  have := this xs
  omega
 have HXL : Hid _ := hxl
 clear hxl
 go_enter Tryz.func72, Tryz.ntmps72
 go_wp2
 go_loopw [1, 5] (fun v j wr => ∃ i : Nat, i ≤ n ∧ j = .int .i64 i ∧ v = .int .i64 (qAt k xs i) ∧ wr = w) (fun _ j _ => n - (intOf j).toNat)
 case atStart => exact ⟨0, Nat.zero_le _, rfl, by cases xs <;> rfl, rfl⟩
 case round =>
  obtain ⟨i, hi', rfl, rfl, rfl⟩ := hrel
  by_cases hlt : i < n
  ·have hlk : (i : Int) < (n : Int) := by omega
   have hxi : i < xs.length := by rw [HXL.out];exact hlt
   obtain ⟨⟨r, h⟩, ex⟩ : ∃ a, xs[i]? = some a := ⟨_, List.getElem?_eq_getElem hxi⟩
   have ey : (mkTo k xs n)[i]? = some (mkRep h (qAt k xs i), h) := mkTo_done xs k n i _ hlt ex
   obtain ⟨r0, h0, b, off, ez, rfl, _, _, X0, y0, _⟩ := x.node hlt
   rw [ey] at ez;simp only [Option.some.injEq, Prod.mk.injEq] at ez
   obtain ⟨rfl, rfl⟩ := ez
   have q1 := qAt_le xs k i;have q2 := qAt_more xs k i _ ex;have q3 := rsum_sz h;have q3L := q3.L;have q3O := q3.O;have q3A := q3.A;have q3D := q3.D
   have q3K : Hid _ := q3.K
   simp only at q2
   clear q3
   have HNX : Hid (qAt k xs (i + 1) = qN h (qAt k xs i)) := qAt_next xs k i _ ex
   clear ex ey;generalize hq : qAt k xs i = q at *
   have HQ : Hid _ := hq
   clear hq
   have q0 : 0 ≤ q := by omega
   have q4 : q + 6 * ((1 + rsum h : Nat) : Int) ≤ 12000000 := by omega
   have HQN := qN_le h q
   have HQ2 : Hid _ := HQN
   have HO0 : Hid (qO h q = q + 6 + 6 * (h.L.2.1 : Int)) := rfl
   clear q1 q2
   have n1 : ¬ (q + 5 + 6 * (h.L.2.1 : Int)) < 0 := by omega
   have n2 : ¬ qA h q < 0 := by omega
   have n3 : ¬ qD h q < 0 := by omega
   have n4 : ¬ qN h q < 0 := by omega
   clear HQN
   have HV : Hid (∀ j : Int, 0 ≤ j → j ≤ 20 → IntKind.i64.wrap (q + j) = q + j) := fun j _ _ => wrapI_same _ (by omega)
   have v1 : IntKind.i64.wrap (q + 1) = q + 1 := HV.out 1 (by decide) (by decide)
   have v2 : IntKind.i64.wrap (q + 2) = q + 2 := HV.out 2 (by decide) (by decide)
   have v3 : IntKind.i64.wrap (q + 3) = q + 3 := HV.out 3 (by decide) (by decide)
   have v4 : IntKind.i64.wrap (q + 4) = q + 4 := HV.out 4 (by decide) (by decide)
   have v5 : IntKind.i64.wrap (q + 5) = q + 5 := HV.out 5 (by decide) (by decide)
   have a2 : q + 1 + 1 = q + 2 := Int.add_assoc q 1 1
   have a3 : q + 2 + 1 = q + 3 := Int.add_assoc q 2 1
   have a4 : q + 3 + 1 = q + 4 := Int.add_assoc q 3 1
   have a5 : q + 4 + 1 = q + 5 := Int.add_assoc q 4 1
   have r3 : Int.tmod (q + 3) 3 = q % 3 := by (rw [Int.tmod_eq_emod_of_nonneg (by omega)];omega)
   have y3 : IntKind.i64.wrap (q % 3) = q % 3 := wrapI_same _ (by omega)
   have HW6 : Hid (IntKind.i64.wrap (q + 5 + 6 * (h.L.2.1 : Int) + 1) = qO h q) := by show _ = _;rw [wrapI_same _ (by omega)];unfold qO;omega
   have e0 : (q != q) = false := by simp
   have e1 : (q + 1 != q + 1) = false := by simp
   have e2 : (q + 2 != q + 2) = false := by simp
   have e4 : (q + 4 != q + 4) = false := by simp
   have e3 : ((q % 3 == 0) != (q % 3 == 0)) = false := by simp
   have X : Ro wr b (off + i * 10) [.int .i64 q, .int .i64 (q + 1), .int .i64 (q + 2), .bool (q % 3 == 0), .int .i64 (q + 4), .slice h.L.1 h.L.2.1 h.L.2.2, .int .i64 (q + 5 + 6 * (h.L.2.1 : Int)), .slice h.O.1 h.O.2.1 h.O.2.2, .slice h.A.1 h.A.2.1 h.A.2.2, .slice h.D.1 h.D.2.1 h.D.2.2] := X0
   have cX := X.cell;clear X0
   have HY : Hid _ := y0
   clear y0;go_wp2_with fail
   refine (heldEntries_any _ _ _ (q + 5) _ HY.out.log (by omega) (by omega) (by omega)).mono ?_
   rintro e W9 ⟨rfl, rfl⟩;clear v1 v2 v3 v4 v5 a2 a3 a4 a5 r3 y3 e0 e1 e2 e3 e4;have w6 := HW6.out
   have e6 : (q + 5 + 6 * (h.L.2.1 : Int) != q + 5 + 6 * (h.L.2.1 : Int)) = false := by simp
   go_wp2_with fail;clear w6 e6
   refine (heldInts_any _ _ _ (qO h q) _ HY.out.oks (by omega) (by have := HQ2.out;omega) (by have := HQ2.out;omega)).mono ?_
   rintro e W9 ⟨rfl, rfl⟩
   rw [show qO h q + (h.O.2.1 : Int) = qA h q from rfl]
   go_wp2_with fail
   refine (heldBools_any _ _ _ (qA h q) _ HY.out.asks (by omega) (by have := HQ2.out;omega) (by have := HQ2.out;omega)).mono ?_
   rintro e W9 ⟨rfl, rfl⟩
   rw [show qA h q + (h.A.2.1 : Int) = qD h q from rfl]
   go_wp2_with fail
   refine (heldDoerS_any _ _ _ h.K (fun _ => []) (qD h q) _ (HY.out.doers.els.congr (fun i j hi hj => mkDrs_F _ _ _ _ _ hi hj) (fun i hi => mkDrs_L _ _ _ _ _ hi)) (by omega) (fun j hj => Nat.le_trans (q3K.out j hj) (by omega)) (by have := HQ2.out;omega) (by have := HQ2.out;omega)).mono ?_
   rintro e W9 ⟨rfl, rfl⟩
   rw [show kE 3 h.K (qD h q) h.D.2.1 = qN h q from rfl]
   have HN : Hid (qN h q = qAt k xs (i + 1)) := by
    show _ = _
    first | rw [HNX.out, HQ.out] | rw [HNX.out]
   clear HY HNX HQ;go_wp2
   go_roundw
   case rel => exact ⟨i + 1, by omega, by go_num, by rw [HN.out], trivial⟩
   case measure => simp [intOf];omega
  ·obtain rfl : i = n := by omega
   go_wp2;go_ret;exact ⟨rfl, rfl⟩
def malK (ms : List Mal) (i : Nat) : Hd := (ms.getD i mal0).2
theorem inE_inL {ms : List Mal} {ao : Option Addr} {n : Nat} (hl : ms.length = n) {q : Nat} (h : inE ao n (malK ms) q) : inL mailK ao n ms q := by
 rcases h with h | ⟨i, hi, h0, h1⟩
 ·exact Or.inl h
 ·have hi' : i < ms.length := by rw [hl];exact hi
  have e : ms[i]? = some (ms.getD i mal0) := by simp [List.getD, hi']
  exact Or.inr ⟨i, _, e, ⟨h0, h1⟩⟩
def c1Q (N : Hd) (xs : List Nod) (k : Int) : Int := qAt k xs N.2.1
def c2Q (N M : Hd) (xs : List Nod) (ms : List Mal) (k : Int) : Int := kE 14 (malK ms) (c1Q N xs k) M.2.1
def c3Q (N M Sl : Hd) (xs : List Nod) (ms : List Mal) (k : Int) : Int := c2Q N M xs ms k + 6 * (Sl.2.1 : Int)
structure MCl (w : World) (o : Bool) (lo hi : Nat) (N M Sl : Hd) (xs : List Nod) (ms : List Mal) (k : Int) : Prop where
 nodes : LAt nodeK w o lo hi N.1 N.2.1 N.2.2 (mkTo k xs N.2.1)
 mails : ElsAt 15 w o lo hi M.1 M.2.1 M.2.2 (mkMF (malK ms) (c1Q N xs k)) (malK ms) (paM 14 13 (malK ms) (c1Q N xs k) (fun _ => []) M.2.1)
 slog : RowAt w o lo hi 6 Sl.1 Sl.2.1 Sl.2.2 (sixs (marks6 (c2Q N M xs ms k) Sl.2.1))
def inCl (N M Sl : Hd) (xs : List Nod) (ms : List Mal) (q : Nat) : Prop := inL nodeK N.1 N.2.1 xs q ∨ inL mailK M.1 M.2.1 ms q ∨ hR Sl q
section
variable {w w' : World} {o : Bool} {lo hi : Nat} {N M Sl : Hd} {xs : List Nod} {ms : List Mal} {es : List En} {k : Int}
theorem MCl.below (x : MCl w o lo hi N M Sl xs ms k) (hb : Below w.heap.size w w') : MCl w' o lo hi N M Sl xs ms k := ⟨x.nodes.below nodeOk hb, x.mails.below hb, x.slog.below hb⟩
theorem MCl.kept (x : MCl w o lo hi N M Sl xs ms k) {l u : Nat} (hk : Kept l u w w') (hd : hi ≤ l ∨ u ≤ lo) : MCl w' o lo hi N M Sl xs ms k := ⟨x.nodes.kept nodeOk hk hd, x.mails.kept hk hd, x.slog.kept hk hd⟩
theorem ClAt.inB (x : ClAt w o lo hi N M Sl xs ms es) {q : Nat} (hq : inCl N M Sl xs ms q) : lo ≤ q ∧ q < hi ∧ q < w.heap.size := by
 rcases hq with h | h | h
 ·exact x.nodes.inB h
 ·exact x.mails.inB h
 ·exact x.slog.inB h
theorem cQ_in (hk : 0 ≤ k) (hN : k + 6 * (nsum xs : Int) ≤ 12000000) (hz : ClSz N M Sl xs ms 1048576) (hl : ms.length = M.2.1) : (0 ≤ c1Q N xs k ∧ c1Q N xs k ≤ 12000000) ∧ (0 ≤ c2Q N M xs ms k ∧ c2Q N M xs ms k ≤ 100000000000000) ∧ (0 ≤ c3Q N M Sl xs ms k) ∧ ∀ i, i < M.2.1 → (malK ms i).2.1 ≤ 2097152 := by
 have h1 := qAt_le xs k N.2.1
 have hK : ∀ i, i < M.2.1 → (malK ms i).2.1 ≤ 2097152 := fun i hi => by
  have hi' : i < ms.length := by rw [hl];exact hi
  have e : ms[i]? = some (ms.getD i mal0) := by simp [List.getD, hi']
  have := hz.mails i _ e
  unfold malK;omega
 have h2 := kE_ge (t := 14) (by omega) (malK ms) (c1Q N xs k) M.2.1
 have h3 := kE_le (t := 14) (by omega) (by omega) (malK ms) (c1Q N xs k) (n := M.2.1) hK M.2.1 (Nat.le_refl _)
 have h4 := hz.m
 have e1 : c1Q N xs k = qAt k xs N.2.1 := rfl
 refine ⟨by omega, ⟨?_, ?_⟩, ?_, hK⟩
 ·unfold c2Q;omega
 ·unfold c2Q;omega
 ·unfold c3Q c2Q;omega
end
theorem markCluster_any {lo hi : Nat} (N M Sl : Hd) (xs : List Nod) (ms : List Mal) (es : List En) (k : Int) (w : World) (x : ClAt w true lo hi N M Sl xs ms es) (hz : ClSz N M Sl xs ms 1048576) (hk : 0 ≤ k) (hN : k + 6 * (nsum xs : Int) ≤ 12000000) :
  Calls Tryz.prog 12 #[.agg #[.slice N.1 N.2.1 N.2.2, .slice M.1 M.2.1 M.2.2, .slice Sl.1 Sl.2.1 Sl.2.2], .int .i64 k] w fun e w' => e = .returned (.int .i64 (c3Q N M Sl xs ms k)) ∧ MCl w' true lo hi N M Sl xs ms k ∧ KeptS (inCl N M Sl xs ms) w w' := by
 have HB : Hid (∀ q, inCl N M Sl xs ms q → q < w.heap.size) := fun q hq => (x.inB hq).2.2
 have ⟨s1, s2, s3⟩ := x.sep rfl
 have H1 : Hid _ := s1
 have H2 : Hid _ := s2
 have H3 : Hid _ := s3
 have HL : Hid _ := x.mails.len
 have HI : Hid _ := cQ_in hk hN hz x.mails.len
 have hM := hz.m;have hS := hz.s;clear s1 s2 s3
 go_enter Tryz.func12, Tryz.ntmps12
 go_wp2_with (first | ((with_reducible refine box_newX 36 [.slice N.1 N.2.1 N.2.2, .slice M.1 M.2.1 M.2.2, .slice Sl.1 Sl.2.1 Sl.2.2] rfl ?_);intro b0 W0 N0;have ob0 := N0.ge;have B := N0.below;obtain ⟨X0, c0⟩ := N0.c;clear N0) | fail)
 have XN := x.nodes.below B;have XM := x.mails.below B;have XS := x.slog.below B
 have kk : KeptS (inCl N M Sl xs ms) w W0 := KeptS.below B
 clear x;refine (markNods_any N.1 N.2.1 N.2.2 xs k _ XN hk hN).mono ?_;rintro e w1 ⟨rfl, LN, KS⟩
 have YM : MailsAt w1 true lo hi M.1 M.2.1 M.2.2 (malK ms) (ms.map (·.1)) := LAt.mails (LAt.keptS mailOk XM KS (Sep.symm H1.out))
 have YS := XS.keptR KS (Sep.symm H2.out)
 replace X0 := X0.keptS KS (fun q => by have := HB.out _ (Or.inl q);omega)
 replace c0 := X0.cell
 replace kk := kk.trans (KS.mono fun q hq => Or.inl hq)
 clear XN XM XS KS
 rw [show qAt k xs N.2.1 = c1Q N xs k from rfl]
 go_wp2_with fail
 refine (markMailS_any M.1 M.2.1 M.2.2 (malK ms) _ _ (c1Q N xs k) _ YM.els (fun _ _ => rfl) (by omega) HI.out.2.2.2 HI.out.1.1 (by have := HI.out.1.2;omega)).mono ?_
 rintro e w2 ⟨rfl, EM, KS⟩
 have KS2 : KeptS (inL mailK M.1 M.2.1 ms) w1 w2 := KS.mono fun q hq => inE_inL HL.out hq
 clear KS YM
 replace LN := LAt.keptS nodeOk LN KS2 (fun q hq => H1.out q (inL_snd (mkTo_snd xs k N.2.1) _ _ q hq))
 replace YS := YS.keptR KS2 (Sep.symm H3.out)
 replace X0 := X0.keptS KS2 (fun q => by have := HB.out _ (Or.inr (Or.inl q));omega)
 replace c0 := X0.cell
 replace kk := kk.trans (KS2.mono fun q hq => Or.inr (Or.inl hq))
 clear KS2
 rw [show kE 14 (malK ms) (c1Q N xs k) M.2.1 = c2Q N M xs ms k from rfl]
 go_wp2_with fail
 refine (markEntries_any Sl.1 Sl.2.1 Sl.2.2 es (c2Q N M xs ms k) _ YS.pinR (by omega) HI.out.2.1.1 (by have := HI.out.2.1.2;omega)).mono ?_
 rintro e w3 ⟨rfl, RS, K3⟩
 have KS3 : KeptS (hR Sl) w2 w3 := Kept.pinR K3
 have MM : MCl w3 true lo hi N M Sl xs ms k := ⟨LAt.keptS nodeOk LN KS3 (fun q hq => H2.out q (inL_snd (mkTo_snd xs k N.2.1) _ _ q hq)), (EM.keptS KS3 (fun q hq => H3.out q (inE_inL HL.out hq))).congr (fun _ _ _ _ => rfl) (fun i hi => by unfold paM;rw [if_pos hi, if_pos hi]), YS.repin RS⟩
 replace kk := kk.trans (KS3.mono fun q hq => Or.inr (Or.inr hq))
 clear LN EM YS RS K3 KS3 X0 c0 H1 H2 H3 HB HL HI
 rw [show c2Q N M xs ms k + 6 * (Sl.2.1 : Int) = c3Q N M Sl xs ms k from rfl]
 go_wp2;go_ret;exact ⟨rfl, MM, kk⟩
theorem heldCluster_any {o : Bool} {lo hi : Nat} (N M Sl : Hd) (xs : List Nod) (ms : List Mal) (k : Int) (w : World) (m : MCl w o lo hi N M Sl xs ms k) (hz : ClSz N M Sl xs ms 1048576) (hl : ms.length = M.2.1) (hk : 0 ≤ k) (hN : k + 6 * (nsum xs : Int) ≤ 12000000) :
  Calls Tryz.prog 37 #[.agg #[.slice N.1 N.2.1 N.2.2, .slice M.1 M.2.1 M.2.2, .slice Sl.1 Sl.2.1 Sl.2.2], .int .i64 k] w fun e w' => e = .returned (.int .i64 (c3Q N M Sl xs ms k)) ∧ Below w.heap.size w w' := by
 have HI : Hid _ := cQ_in hk hN hz hl
 have n1 : ¬ (c1Q N xs k) < 0 := by have := HI.out.1.1;omega
 have n2 : ¬ (c2Q N M xs ms k) < 0 := by have := HI.out.2.1.1;omega
 have n3 : ¬ (c3Q N M Sl xs ms k) < 0 := by have := HI.out.2.2.1;omega
 have hM := hz.m;have hS := hz.s
 go_enter Tryz.func37, Tryz.ntmps37
 go_wp2_with (first | ((with_reducible refine box_newX 36 [.slice N.1 N.2.1 N.2.2, .slice M.1 M.2.1 M.2.2, .slice Sl.1 Sl.2.1 Sl.2.2] rfl ?_);intro b0 W0 N0;have ob0 := N0.ge;have B := N0.below;obtain ⟨X0, c0⟩ := N0.c;clear N0) | fail)
 replace m := m.below B;refine (heldNods_any N.1 N.2.1 N.2.2 xs k _ m.nodes hk hN).mono ?_;rintro e W9 ⟨rfl, rfl⟩
 rw [show qAt k xs N.2.1 = c1Q N xs k from rfl]
 go_wp2_with fail
 refine (heldMailS_any M.1 M.2.1 M.2.2 (malK ms) _ (c1Q N xs k) _ m.mails (by omega) HI.out.2.2.2 HI.out.1.1 (by have := HI.out.1.2;omega)).mono ?_
 rintro e W9 ⟨rfl, rfl⟩
 rw [show kE 14 (malK ms) (c1Q N xs k) M.2.1 = c2Q N M xs ms k from rfl]
 go_wp2_with fail
 refine (heldEntries_any Sl.1 Sl.2.1 Sl.2.2 (c2Q N M xs ms k) _ m.slog (by omega) HI.out.2.1.1 (by have := HI.out.2.1.2;omega)).mono ?_
 rintro e W9 ⟨rfl, rfl⟩
 rw [show c2Q N M xs ms k + 6 * (Sl.2.1 : Int) = c3Q N M Sl xs ms k from rfl]
 go_wp2;go_ret;exact ⟨rfl, B⟩
theorem markClR_any {lo hi : Nat} (c : Int) (N M Sl : Hd) (xs : List Nod) (ms : List Mal) (es : List En) (k : Int) (w : World) (x : ClAt w true lo hi N M Sl xs ms es) (hz : ClSz N M Sl xs ms 1048576) (hk : 0 ≤ k) (hN : k + 6 * (nsum xs : Int) ≤ 12000000) :
  Calls Tryz.prog 13 #[.agg #[.int .i64 c, .slice N.1 N.2.1 N.2.2, .slice M.1 M.2.1 M.2.2, .slice Sl.1 Sl.2.1 Sl.2.2], .int .i64 k] w fun e w' => e = .returned (.int .i64 (c3Q N M Sl xs ms k)) ∧ MCl w' true lo hi N M Sl xs ms k ∧ KeptS (inCl N M Sl xs ms) w w' := by
 go_enter Tryz.func13, Tryz.ntmps13
 go_wp2_with (first | ((with_reducible refine box_newX 38 [.int .i64 c, .slice N.1 N.2.1 N.2.2, .slice M.1 M.2.1 M.2.2, .slice Sl.1 Sl.2.1 Sl.2.2] rfl ?_);intro b0 W0 N0;have ob0 := N0.ge;have B := N0.below;obtain ⟨X0, c0⟩ := N0.c;clear N0) | fail)
 have kk : KeptS (inCl N M Sl xs ms) w W0 := KeptS.below B
 refine (markCluster_any N M Sl xs ms es k _ (x.below B) hz hk hN).mono ?_;rintro e w1 ⟨rfl, MM, KS⟩;replace kk := kk.trans KS;clear KS X0 c0 B x;go_wp2;go_ret;exact ⟨rfl, MM, kk⟩
theorem heldClR_any {o : Bool} {lo hi : Nat} (c : Int) (N M Sl : Hd) (xs : List Nod) (ms : List Mal) (k : Int) (w : World) (m : MCl w o lo hi N M Sl xs ms k) (hz : ClSz N M Sl xs ms 1048576) (hl : ms.length = M.2.1) (hk : 0 ≤ k) (hN : k + 6 * (nsum xs : Int) ≤ 12000000) :
  Calls Tryz.prog 14 #[.agg #[.int .i64 c, .slice N.1 N.2.1 N.2.2, .slice M.1 M.2.1 M.2.2, .slice Sl.1 Sl.2.1 Sl.2.2], .int .i64 k] w fun e w' => e = .returned (.int .i64 (c3Q N M Sl xs ms k)) ∧ Below w.heap.size w w' := by
 have n3 : ¬ (c3Q N M Sl xs ms k) < 0 := by have := (cQ_in hk hN hz hl).2.2.1;omega
 go_enter Tryz.func14, Tryz.ntmps14
 go_wp2_with (first | ((with_reducible refine box_newX 38 [.int .i64 c, .slice N.1 N.2.1 N.2.2, .slice M.1 M.2.1 M.2.2, .slice Sl.1 Sl.2.1 Sl.2.2] rfl ?_);intro b0 W0 N0;have ob0 := N0.ge;have B := N0.below;obtain ⟨X0, c0⟩ := N0.c;clear N0) | fail)
 refine (heldCluster_any N M Sl xs ms k _ (m.below B) hz hl hk hN).mono ?_;rintro e w1 ⟨rfl, BB⟩;replace X0 := X0.below BB;replace c0 := X0.cell;replace B := below_next B BB;clear BB;go_wp2;go_ret;exact ⟨rfl, B⟩
theorem eqClR_yes {o1 o2 : Bool} {l1 u1 l2 u2 : Nat} (c : Int) (N M Sl N' M' Sl' : Hd) (xs ys : List Nod) (ms ns : List Mal) (es : List En) (w : World) (x : ClAt w o1 l1 u1 N M Sl xs ms es) (y : ClAt w o2 l2 u2 N' M' Sl' ys ns es) (hxy : ys.map (·.1) = xs.map (·.1)) (hmn : ns.map (·.1) = ms.map (·.1)) (hs : ClSz N M Sl xs ms 1048576) :
  Calls Tryz.prog 10 #[.agg #[.int .i64 c, .slice N.1 N.2.1 N.2.2, .slice M.1 M.2.1 M.2.2, .slice Sl.1 Sl.2.1 Sl.2.2], .agg #[.int .i64 c, .slice N'.1 N'.2.1 N'.2.2, .slice M'.1 M'.2.1 M'.2.2, .slice Sl'.1 Sl'.2.1 Sl'.2.2]] w fun e w' => e = .returned (.bool true) ∧ Below w.heap.size w w' := by
 have e0 : (c != c) = false := by simp
 go_enter Tryz.func10, Tryz.ntmps10
 go_wp2_with (first | ((have g := ob0);clear g;(with_reducible refine box_newX 38 [.int .i64 c, .slice N'.1 N'.2.1 N'.2.2, .slice M'.1 M'.2.1 M'.2.2, .slice Sl'.1 Sl'.2.1 Sl'.2.2] rfl ?_);intro b1 W1 N1;have ob1 := N1.o B;have o0_b1 := N1.u X0;replace X0 := N1.r X0;replace c0 := X0.cell;replace B := N1.n B;obtain ⟨X1, c1⟩ := N1.c;clear N1) | ((with_reducible refine box_newX 38 [.int .i64 c, .slice N.1 N.2.1 N.2.2, .slice M.1 M.2.1 M.2.2, .slice Sl.1 Sl.2.1 Sl.2.2] rfl ?_);intro b0 W0 N0;have ob0 := N0.ge;have B := N0.below;obtain ⟨X0, c0⟩ := N0.c;clear N0) | fail)
 refine (eqCluster_yes N M Sl N' M' Sl' xs ys ms ns es _ (x.below B) (y.below B) hxy hmn hs).mono ?_;rintro e w1 ⟨rfl, BB⟩;replace X0 := X0.below BB;replace c0 := X0.cell;replace X1 := X1.below BB;replace c1 := X1.cell;replace B := below_next B BB;clear BB;go_wp2;go_ret;exact ⟨rfl, B⟩
end Go.Proofs.YtclghfoinologaaGreat
namespace Go.Proofs.YtclghfoinologaaGreat
open Go.RowKit Go.ChangeShapes Go.WideShapes Go.Deep
section
variable {H : Type} {enc : TypeId × Value → H} {P : Program} {w : World}
def EnTy (P : Program) (e : TypeId) : Prop := ∃ f0 f1 f2 g0 g1 g2 g3 : Field, P.underlying e = some (.struct #[f0, f1, f2]) ∧ (f0.offset = 0 ∧ f1.offset = 1 ∧ f2.offset = 2) ∧ (P.cellsOf e = 6 ∧ P.cellsOf f0.type = 1 ∧ P.cellsOf f1.type = 1 ∧ P.cellsOf f2.type = 4) ∧
 (P.underlying f0.type = some (.int .i64) ∧ P.underlying f1.type = some (.int .i64) ∧ P.underlying f2.type = some (.struct #[g0, g1, g2, g3])) ∧ (g0.offset = 0 ∧ g1.offset = 1 ∧ g2.offset = 2 ∧ g3.offset = 3) ∧
 (P.cellsOf g0.type = 1 ∧ P.cellsOf g1.type = 1 ∧ P.cellsOf g2.type = 1 ∧ P.cellsOf g3.type = 1) ∧ (P.underlying g0.type = some (.int .i64) ∧ P.underlying g1.type = some (.int .i64) ∧ P.underlying g2.type = some (.int .i64) ∧ P.underlying g3.type = some (.int .i64))
theorem EnTy.cells {e : TypeId} (h : EnTy P e) : P.cellsOf e = 6 := by obtain ⟨_, _, _, _, _, _, _, _, _, h, _⟩ := h; exact h.1
theorem six_of {e : TypeId} (ht : EnTy P e) {fuel : Nat} {cs : List Value} {x : DataW H × List MemPlace} {base : Nat} {spare : Nat → Bool} {held : Bool} (hlen : cs.length = 6) (h : DataW.trod enc P w base spare held fuel e cs = some x) :
  ∃ q : En, cs = [.int .i64 q.1, .int .i64 q.2.1, .int .i64 q.2.2.1, .int .i64 q.2.2.2.1, .int .i64 q.2.2.2.2.1, .int .i64 q.2.2.2.2.2] := by
 obtain ⟨f0, f1, f2, k0, k1, k2, k3, he, ⟨o0, o1, o2⟩, ⟨_, c0, c1, c2⟩, ⟨i0, i1, hs⟩, ⟨p0, p1, p2, p3⟩, ⟨d0, d1, d2, d3⟩, ⟨j0, j1, j2, j3⟩⟩ := ht
 obtain ⟨ys, k, _, _, _, hyl, hf⟩ := DataW.trod_struct he h
 match ys, hyl, cs, hlen with
 | [y0, y1, y2], _, [v0, v1, v2, v3, v4, v5], _ =>
  have g0 := hf 0 f0 rfl;have g1 := hf 1 f1 rfl;have g2 := hf 2 f2 rfl
  simp [o0, o1, o2, c0, c1, c2] at g0 g1 g2
  obtain ⟨zs, m, _, _, _, hzl, hg⟩ := DataW.trod_struct hs g2
  match zs, hzl with
  | [z0, z1, z2, z3], _ =>
   have q0 := hg 0 k0 rfl;have q1 := hg 1 k1 rfl;have q2 := hg 2 k2 rfl;have q3 := hg 3 k3 rfl
   simp [p0, p1, p2, p3, d0, d1, d2, d3] at q0 q1 q2 q3
   obtain ⟨a0, e0, _, _⟩ := DataW.trod_int i0 g0
   obtain ⟨a1, e1, _, _⟩ := DataW.trod_int i1 g1
   obtain ⟨a2, e2, _, _⟩ := DataW.trod_int j0 q0
   obtain ⟨a3, e3, _, _⟩ := DataW.trod_int j1 q1
   obtain ⟨a4, e4, _, _⟩ := DataW.trod_int j2 q2
   obtain ⟨a5, e5, _, _⟩ := DataW.trod_int j3 q3
   simp only [List.cons.injEq, and_true] at e0 e1 e2 e3 e4 e5
   exact ⟨(a0, a1, a2, a3, a4, a5), by rw [e0, e1, e2, e3, e4, e5]⟩
theorem open_entry {r : Reach} {b0 : Nat} {t : TypeId} {v : Value} {d : DataW H} {p : List MemPlace} {base : Nat} {spare : Nat → Bool} {held : Bool} (ht : EnTy P t) (hv : Value.okWide P w r b0 t v) (h : DataW.Trod enc P w base spare held t v d p) :
  ∃ p q k u a x : Int, v = .agg #[.int .i64 p, .int .i64 q, .int .i64 k, .int .i64 u, .int .i64 a, .int .i64 x] := by
 have hC := ht.cells
 have ht' := ht
 obtain ⟨f0, f1, f2, _, _, _, _, he, _⟩ := ht'
 obtain ⟨cs, rfl, hsz⟩ := okWide_struct he hv
 obtain ⟨fuel, hf⟩ := h
 obtain ⟨l⟩ := cs
 have hf' : DataW.trod enc P w base spare held fuel t l = some (d, p) := by simpa [Value.cells] using hf
 obtain ⟨q, hq⟩ := six_of ht (by simpa using hsz.trans hC) hf'
 exact ⟨_, _, _, _, _, _, by rw [hq]⟩
theorem read_entries {t e : TypeId} {fuel : Nat} {v : Value} {x : DataW H × List MemPlace} (ht : P.underlying t = some (.slice e)) (he : EnTy P e) (h : DataW.trod enc P w 0 (fun _ => true) true fuel t [v] = some x) :
  ∃ ao n cap vs, v = .slice ao n cap ∧ n ≤ maxLen ∧ RowAt w false 0 w.heap.size 6 ao n cap (sixs vs) := by
 rcases open_slice ht h with ⟨hcs, _⟩ | ⟨a, len, cap, m, n, D, Pl, hcs, hb, hl, hm, hz, _, hx⟩
 ·simp only [List.cons.injEq, and_true] at hcs;exact ⟨none, 0, 0, [], hcs, Nat.zero_le _, RowAt.nil _ _ _ _ _⟩
 ·simp only [List.cons.injEq, and_true] at hcs;simp only [if_true] at hz;subst hz
  have each : ∀ i, i < m → ∃ q : En, ∀ j, j < 6 → w.cell? (a.add (i * 6 + j)) = some (.int .i64 (enF q j)) := fun i hi => by
   obtain ⟨cs, h1, h2⟩ := hx i hi
   rw [he.cells] at h1
   obtain ⟨_, hlen, hcell⟩ := World.cells?_some h1
   obtain ⟨q, hq⟩ := six_of he hlen h2
   refine ⟨q, fun j hj => ?_⟩
   have e0 := hcell j (by omega)
   rw [add_add, hq] at e0;rw [e0]
   match j, hj with
   | 0, _ => rfl
   | 1, _ => rfl
   | 2, _ => rfl
   | 3, _ => rfl
   | 4, _ => rfl
   | 5, _ => rfl
  obtain ⟨q, hq⟩ := choose_lt each
  have hlen : ((List.range len).map q).length = len := by simp
  have hget : ∀ i, i < len → ((List.range len).map q).getD i en0 = q i := fun i hi => by simp [List.getD, hi]
  refine ⟨some a, len, m, (List.range len).map q, hcs, Nat.le_trans hl hm, ?_, hl, fun hn => ?_⟩
  ·rw [sixs_len, hlen]
  ·have h0 := hq 0 (by omega) 0 (by omega)
   obtain ⟨b, off, spot⟩ := a
   have hspot : spot = none := by simpa [Addr.add] using World.cell?_spot h0
   subst hspot
   refine ⟨b, off, rfl, Nat.zero_le _, World.block_lt_of_cell? w _ h0, World.block_lt_of_cell? w _ h0, fun i hi => ?_, fun h => by cases h⟩
   have p0 := hq (i / 6) (by omega) (i % 6) (by omega)
   have t0 := sixs_get ((List.range len).map q) (i / 6) (i % 6) (by omega) (by omega)
   rw [show i / 6 * 6 + i % 6 = i by omega] at t0 p0
   rw [← addr_add, t0, p0, hget _ (by omega)]
end
theorem Tryz.enTy : EnTy Tryz.prog 30 := ⟨_, _, _, _, _, _, _, Tryz.underlying30, ⟨rfl, rfl, rfl⟩, ⟨by kernel_rfl, by kernel_rfl, by kernel_rfl, by kernel_rfl⟩, ⟨Tryz.underlying2, Tryz.underlying2, Tryz.underlying28⟩, ⟨rfl, rfl, rfl, rfl⟩, ⟨by kernel_rfl, by kernel_rfl, by kernel_rfl, by kernel_rfl⟩, ⟨Tryz.underlying2, Tryz.underlying2, Tryz.underlying2, Tryz.underlying2⟩⟩
end Go.Proofs.YtclghfoinologaaGreat
