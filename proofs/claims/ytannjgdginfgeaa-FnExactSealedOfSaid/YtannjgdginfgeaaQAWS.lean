/- Chapter 11: lists of nodes marked by the laws. -/
import Derived.Test.YtannjgdginfgeaaQANS
import Derived.Test.YtannjgdginfgeaaQAGS
import Derived.Test.YtannjgdginfgeaaQABS
import Derived.Test.YtannjgdginfgeaaWQS
import Derived.Test.YtannjgdginfgeaaQAFS
import Derived.Test.YtannjgdginfgeaaXAS
set_option maxRecDepth 20000
set_option maxHeartbeats 16000000
namespace Go.Proofs.Ytannjgdginfgeaa
open Go.RowKit
structure PutC (w W : World) (b k : Nat) (v : Value) : Prop where
 eq : W = w.setCell ⟨b, k, none⟩ v
theorem markNods_any {lo hi : Nat} (ao : Option Addr) (n cap : Nat) (xs : List Nod) (k : Int) (w : World) (x : LAt nodeK w true lo hi ao n cap xs) (hk0 : 0 ≤ k) (hk1 : k + 6 * (nsum xs : Int) ≤ 12000000) :
  Calls Try.prog 53 #[.slice ao n cap, .int .i64 k] w fun e w' => e = .returned (.int .i64 (qAt k xs n)) ∧ LAt nodeK w' true lo hi ao n cap (mkTo k xs n) ∧ KeptS (inL nodeK ao n xs) w w' := by
 have hn : n ≤ 12000000 := by
  have : ∀ ys : List Nod, ys.length ≤ nsum ys := fun ys => by
   induction ys with
   | nil => simp [nsum]
   | cons a t ih => simp only [List.length_cons, nsum]; omega
  have := this xs
  have := x.len
  omega
 have hxl := x.len
 have HXL : Hid _ := hxl
 have E0 : mkTo k xs 0 = xs := by cases xs <;> rfl
 clear hxl
 go_enter Try.func53, Try.ntmps53
 go_wp2
 go_loopw [1, 5] (fun v j wr => ∃ i : Nat, i ≤ n ∧ j = .int .i64 i ∧ v = .int .i64 (qAt k xs i) ∧ LAt nodeK wr true lo hi ao n cap (mkTo k xs i) ∧ KeptS (inL nodeK ao n xs) w wr) (fun _ j _ => n - (intOf j).toNat)
 case atStart => exact ⟨0, Nat.zero_le _, rfl, by cases xs <;> rfl, by (rw [E0]; exact x), KeptS.refl _ _⟩
 case round =>
  clear E0
  obtain ⟨i, hi', rfl, rfl, E, hS⟩ := hrel
  by_cases hlt : i < n
  ·have hlk : (i : Int) < (n : Int) := by omega
   have hxi : i < xs.length := by rw [HXL.out]; exact hlt
   obtain ⟨⟨r, h⟩, ex⟩ : ∃ a, xs[i]? = some a := ⟨_, List.getElem?_eq_getElem hxi⟩
   have ey : (mkTo k xs i)[i]? = some (r, h) := by rw [mkTo_at]; exact ex
   obtain ⟨r0, h0, b, off, -, rfl, -, -, -, -, -⟩ := E.node hlt
   clear r0 h0
   have q1 := qAt_le xs k i
   have q2 := qAt_more xs k i _ ex
   have q3 := rsum_sz h
   have q3L := q3.L
   have q3O := q3.O
   have q3A := q3.A
   have q3D := q3.D
   have q3K : Hid _ := q3.K
   simp only at q2
   clear q3
   have HNX : Hid (qAt k xs (i + 1) = qN h (qAt k xs i)) := qAt_next xs k i _ ex
   have HST : Hid (mkTo k xs (i + 1) = (mkTo k xs i).set i (mkRep h (qAt k xs i), h)) := mkTo_next xs k i _ ex
   have HIN : Hid (∀ z, inRep h z → inL nodeK (some ⟨b, off, none⟩) n (mkTo k xs i) z) := fun z hz => Or.inr ⟨i, _, ey, hz⟩
   have HSN : Hid ((mkTo k xs i).map (·.2) = xs.map (·.2)) := mkTo_snd xs k i
   have HM : Hid (NMk wr lo hi b off n cap (mkTo k xs i) i r h wr) := NMk.start E ey (KeptS.refl _ _)
   have HS : Hid _ := hS
   clear E ex ey hS
   generalize hys : mkTo k xs i = ys at *
   clear hys
   generalize hq : qAt k xs i = q at *
   have HQ : Hid _ := hq
   clear hq
   have q0 : 0 ≤ q := by omega
   have q4 : q + 6 * ((1 + rsum h : Nat) : Int) ≤ 12000000 := by omega
   have HQN := qN_le h q
   have HQ2 : Hid _ := HQN
   clear HQN q1 q2
   have p1 : h.L.2.1 ≤ 4194304 := by omega
   have p2 : 0 ≤ q + 5 := by omega
   have p3 : q + 5 ≤ 1000000000000000 := by omega
   have HV : Hid (∀ j : Int, 0 ≤ j → j ≤ 20 → IntKind.i64.wrap (q + j) = q + j) := fun j _ _ => wrapI_same _ (by omega)
   have v1 : IntKind.i64.wrap (q + 1) = q + 1 := HV.out 1 (by decide) (by decide)
   have v2 : IntKind.i64.wrap (q + 2) = q + 2 := HV.out 2 (by decide) (by decide)
   have v3 : IntKind.i64.wrap (q + 3) = q + 3 := HV.out 3 (by decide) (by decide)
   have v4 : IntKind.i64.wrap (q + 4) = q + 4 := HV.out 4 (by decide) (by decide)
   have v5 : IntKind.i64.wrap (q + 5) = q + 5 := HV.out 5 (by decide) (by decide)
   have a2 : q + 1 + 1 = q + 2 := Int.add_assoc q 1 1
   have a3 : q + 2 + 1 = q + 3 := Int.add_assoc q 2 1
   have a4 : q + 3 + 1 = q + 4 := Int.add_assoc q 3 1
   have a5 : q + 4 + 1 = q + 5 := Int.add_assoc q 4 1
   have r3 : Int.tmod (q + 3) 3 = q % 3 := by (rw [Int.tmod_eq_emod_of_nonneg (by omega)]; omega)
   have y3 : IntKind.i64.wrap (q % 3) = q % 3 := wrapI_same _ (by omega)
   have HW6 : Hid (IntKind.i64.wrap (q + 5 + 6 * (h.L.2.1 : Int) + 1) = qO h q) := by show _ = _; rw [wrapI_same _ (by omega)]; unfold qO; omega
   obtain ⟨id, size, view, normal, last, log, commit, oks, asks, doers⟩ := r
   have X : Ro wr b (off + i * 10) [.int .i64 id, .int .i64 size, .int .i64 view, .bool normal, .int .i64 last, .slice h.L.1 h.L.2.1 h.L.2.2, .int .i64 commit, .slice h.O.1 h.O.2.1 h.O.2.2, .slice h.A.1 h.A.2.1 h.A.2.2, .slice h.D.1 h.D.2.1 h.D.2.2] := (HM.out.facts hlt).1
   have fX := (HM.out.facts hlt).2.1
   have c0 : wr.cell? ⟨b, off + i * 10, none⟩ = some (.int .i64 id) := X.cell.1
   have c1 : wr.cell? ⟨b, off + i * 10 + 1, none⟩ = some (.int .i64 size) := X.cell.2 1 (by decide)
   have c2 : wr.cell? ⟨b, off + i * 10 + 2, none⟩ = some (.int .i64 view) := X.cell.2 2 (by decide)
   have c3 : wr.cell? ⟨b, off + i * 10 + 3, none⟩ = some (.bool normal) := X.cell.2 3 (by decide)
   have c4 : wr.cell? ⟨b, off + i * 10 + 4, none⟩ = some (.int .i64 last) := X.cell.2 4 (by decide)
   have c5 : wr.cell? ⟨b, off + i * 10 + 5, none⟩ = some (.slice h.L.1 h.L.2.1 h.L.2.2) := X.cell.2 5 (by decide)
   have c6 : wr.cell? ⟨b, off + i * 10 + 6, none⟩ = some (.int .i64 commit) := X.cell.2 6 (by decide)
   have c7 : wr.cell? ⟨b, off + i * 10 + 7, none⟩ = some (.slice h.O.1 h.O.2.1 h.O.2.2) := X.cell.2 7 (by decide)
   have c8 : wr.cell? ⟨b, off + i * 10 + 8, none⟩ = some (.slice h.A.1 h.A.2.1 h.A.2.2) := X.cell.2 8 (by decide)
   have c9 : wr.cell? ⟨b, off + i * 10 + 9, none⟩ = some (.slice h.D.1 h.D.2.1 h.D.2.2) := X.cell.2 9 (by decide)
   have f0 : wr.frozen? ⟨b, off + i * 10, none⟩ = false := fX 0 (by decide)
   have f1 : wr.frozen? ⟨b, off + i * 10 + 1, none⟩ = false := fX 1 (by decide)
   have f2 : wr.frozen? ⟨b, off + i * 10 + 2, none⟩ = false := fX 2 (by decide)
   have f3 : wr.frozen? ⟨b, off + i * 10 + 3, none⟩ = false := fX 3 (by decide)
   have f4 : wr.frozen? ⟨b, off + i * 10 + 4, none⟩ = false := fX 4 (by decide)
   clear X fX
   replace HM : Hid (NMk wr lo hi b off n cap ys i ⟨q, size, view, normal, last, log, commit, oks, asks, doers⟩ h (wr.setCell ⟨b, off + i * 10, none⟩ (.int .i64 (q)))) := HM.out.cell hlt 0 (by decide) _ _ rfl ⟨rfl, rfl, rfl, rfl⟩
   replace HM : Hid (NMk wr lo hi b off n cap ys i ⟨q, (q + 1), view, normal, last, log, commit, oks, asks, doers⟩ h ((wr.setCell ⟨b, off + i * 10, none⟩ (.int .i64 (q))).setCell ⟨b, off + i * 10 + 1, none⟩ (.int .i64 (q + 1)))) := HM.out.cell hlt 1 (by decide) _ _ rfl ⟨rfl, rfl, rfl, rfl⟩
   replace HM : Hid (NMk wr lo hi b off n cap ys i ⟨q, (q + 1), (q + 2), normal, last, log, commit, oks, asks, doers⟩ h (((wr.setCell ⟨b, off + i * 10, none⟩ (.int .i64 (q))).setCell ⟨b, off + i * 10 + 1, none⟩ (.int .i64 (q + 1))).setCell ⟨b, off + i * 10 + 2, none⟩ (.int .i64 (q + 2)))) := HM.out.cell hlt 2 (by decide) _ _ rfl ⟨rfl, rfl, rfl, rfl⟩
   replace HM : Hid (NMk wr lo hi b off n cap ys i ⟨q, (q + 1), (q + 2), (q % 3 == 0), last, log, commit, oks, asks, doers⟩ h ((((wr.setCell ⟨b, off + i * 10, none⟩ (.int .i64 (q))).setCell ⟨b, off + i * 10 + 1, none⟩ (.int .i64 (q + 1))).setCell ⟨b, off + i * 10 + 2, none⟩ (.int .i64 (q + 2))).setCell ⟨b, off + i * 10 + 3, none⟩ (.bool (q % 3 == 0)))) := HM.out.cell hlt 3 (by decide) _ _ rfl ⟨rfl, rfl, rfl, rfl⟩
   replace HM : Hid (NMk wr lo hi b off n cap ys i ⟨q, (q + 1), (q + 2), (q % 3 == 0), (q + 4), log, commit, oks, asks, doers⟩ h (((((wr.setCell ⟨b, off + i * 10, none⟩ (.int .i64 (q))).setCell ⟨b, off + i * 10 + 1, none⟩ (.int .i64 (q + 1))).setCell ⟨b, off + i * 10 + 2, none⟩ (.int .i64 (q + 2))).setCell ⟨b, off + i * 10 + 3, none⟩ (.bool (q % 3 == 0))).setCell ⟨b, off + i * 10 + 4, none⟩ (.int .i64 (q + 4)))) := HM.out.cell hlt 4 (by decide) _ _ rfl ⟨rfl, rfl, rfl, rfl⟩
   go_wp2_with fail
   refine (markEntries_any _ _ _ _ (q + 5) _ (HM.out.facts hlt).2.2.log.pinR p1 p2 p3).mono ?_
   rintro e w1 ⟨rfl, R2, K2⟩
   have KS : KeptS (hR h.L) (((((wr.setCell ⟨b, off + i * 10, none⟩ (.int .i64 (q))).setCell ⟨b, off + i * 10 + 1, none⟩ (.int .i64 (q + 1))).setCell ⟨b, off + i * 10 + 2, none⟩ (.int .i64 (q + 2))).setCell ⟨b, off + i * 10 + 3, none⟩ (.bool (q % 3 == 0))).setCell ⟨b, off + i * 10 + 4, none⟩ (.int .i64 (q + 4))) w1 := Kept.pinR K2
   clear c0 c1 c2 c3 c4 c5 c6 c7 c8 c9 f0 f1 f2 f3 f4 v1 v2 v3 v4 v5 a2 a3 a4 a5 r3 y3
   replace HM : Hid (NMk wr lo hi b off n cap ys i ⟨q, (q + 1), (q + 2), (q % 3 == 0), (q + 4), (marks6 (q + 5) h.L.2.1), commit, oks, asks, doers⟩ h w1) := HM.out.mem hlt (hR h.L) KS (fun _ z => Or.inl z) HIN.out _ rfl ((HM.out.facts hlt).2.2.logSet KS R2)
   clear KS
   clear R2 K2
   have w6 := HW6.out
   have X : Ro w1 b (off + i * 10) [.int .i64 q, .int .i64 (q + 1), .int .i64 (q + 2), .bool (q % 3 == 0), .int .i64 (q + 4), .slice h.L.1 h.L.2.1 h.L.2.2, .int .i64 commit, .slice h.O.1 h.O.2.1 h.O.2.2, .slice h.A.1 h.A.2.1 h.A.2.2, .slice h.D.1 h.D.2.1 h.D.2.2] := (HM.out.facts hlt).1
   have fX := (HM.out.facts hlt).2.1
   have c6 : w1.cell? ⟨b, off + i * 10 + 6, none⟩ = some (.int .i64 commit) := X.cell.2 6 (by decide)
   have c7 : w1.cell? ⟨b, off + i * 10 + 7, none⟩ = some (.slice h.O.1 h.O.2.1 h.O.2.2) := X.cell.2 7 (by decide)
   have f6 : w1.frozen? ⟨b, off + i * 10 + 6, none⟩ = false := fX 6 (by decide)
   clear X fX
   replace HM : Hid (NMk wr lo hi b off n cap ys i ⟨q, (q + 1), (q + 2), (q % 3 == 0), (q + 4), (marks6 (q + 5) h.L.2.1), (q + 5 + 6 * (h.L.2.1 : Int)), oks, asks, doers⟩ h (w1.setCell ⟨b, off + i * 10 + 6, none⟩ (.int .i64 (q + 5 + 6 * (h.L.2.1 : Int))))) := HM.out.cell hlt 6 (by decide) _ _ rfl ⟨rfl, rfl, rfl, rfl⟩
   go_wp2_with fail
   clear w6 c6 c7 f6
   refine (markInts_any _ _ _ _ (qO h q) _ (HM.out.facts hlt).2.2.oks.pinR (by omega) (by have := HQ2.out; omega) (by have := HQ2.out; omega)).mono ?_
   rintro e w2 ⟨rfl, R2, K2⟩
   have KS : KeptS (hR h.O) (w1.setCell ⟨b, off + i * 10 + 6, none⟩ (.int .i64 (q + 5 + 6 * (h.L.2.1 : Int)))) w2 := Kept.pinR K2
   rw [show qO h q + (h.O.2.1 : Int) = qA h q from rfl]
   replace HM : Hid (NMk wr lo hi b off n cap ys i ⟨q, (q + 1), (q + 2), (q % 3 == 0), (q + 4), (marks6 (q + 5) h.L.2.1), (q + 5 + 6 * (h.L.2.1 : Int)), (marks (qO h q) h.O.2.1), asks, doers⟩ h w2) := HM.out.mem hlt (hR h.O) KS (fun _ z => Or.inr (Or.inl z)) HIN.out _ rfl ((HM.out.facts hlt).2.2.oksSet KS R2)
   clear KS
   clear R2 K2
   have X : Ro w2 b (off + i * 10) [.int .i64 q, .int .i64 (q + 1), .int .i64 (q + 2), .bool (q % 3 == 0), .int .i64 (q + 4), .slice h.L.1 h.L.2.1 h.L.2.2, .int .i64 (q + 5 + 6 * (h.L.2.1 : Int)), .slice h.O.1 h.O.2.1 h.O.2.2, .slice h.A.1 h.A.2.1 h.A.2.2, .slice h.D.1 h.D.2.1 h.D.2.2] := (HM.out.facts hlt).1
   have fX := (HM.out.facts hlt).2.1
   have c8 : w2.cell? ⟨b, off + i * 10 + 8, none⟩ = some (.slice h.A.1 h.A.2.1 h.A.2.2) := X.cell.2 8 (by decide)
   clear X fX
   go_wp2_with fail
   clear c8
   refine (markBools_m _ _ _ _ (qA h q) _ (HM.out.facts hlt).2.2.asks.pinR (by omega) (by have := HQ2.out; omega) (by have := HQ2.out; omega)).mono ?_
   rintro e w3 ⟨rfl, R2, K2⟩
   have KS : KeptS (hR h.A) w2 w3 := Kept.pinR K2
   rw [show qA h q + (h.A.2.1 : Int) = qD h q from rfl]
   replace HM : Hid (NMk wr lo hi b off n cap ys i ⟨q, (q + 1), (q + 2), (q % 3 == 0), (q + 4), (marks6 (q + 5) h.L.2.1), (q + 5 + 6 * (h.L.2.1 : Int)), (marks (qO h q) h.O.2.1), (marksB (qA h q) h.A.2.1), doers⟩ h w3) := HM.out.mem hlt (hR h.A) KS (fun _ z => Or.inr (Or.inr (Or.inl z))) HIN.out _ rfl ((HM.out.facts hlt).2.2.asksSet KS R2)
   clear KS
   clear R2 K2
   have X : Ro w3 b (off + i * 10) [.int .i64 q, .int .i64 (q + 1), .int .i64 (q + 2), .bool (q % 3 == 0), .int .i64 (q + 4), .slice h.L.1 h.L.2.1 h.L.2.2, .int .i64 (q + 5 + 6 * (h.L.2.1 : Int)), .slice h.O.1 h.O.2.1 h.O.2.2, .slice h.A.1 h.A.2.1 h.A.2.2, .slice h.D.1 h.D.2.1 h.D.2.2] := (HM.out.facts hlt).1
   have fX := (HM.out.facts hlt).2.1
   have c9 : w3.cell? ⟨b, off + i * 10 + 9, none⟩ = some (.slice h.D.1 h.D.2.1 h.D.2.2) := X.cell.2 9 (by decide)
   clear X fX
   go_wp2_with fail
   clear c9
   refine (markDoerS_any _ _ _ h.K _ _ (qD h q) _ (HM.out.facts hlt).2.2.doers.els (fun _ _ => rfl) (by omega) (fun j hj => Nat.le_trans (q3K.out j hj) (by omega)) (by have := HQ2.out; omega) (by have := HQ2.out; omega)).mono ?_
   rintro e w4 ⟨rfl, R2, KS⟩
   rw [show kE 3 h.K (qD h q) h.D.2.1 = qN h q from rfl]
   replace HM : Hid (NMk wr lo hi b off n cap ys i ⟨q, (q + 1), (q + 2), (q % 3 == 0), (q + 4), (marks6 (q + 5) h.L.2.1), (q + 5 + 6 * (h.L.2.1 : Int)), (marks (qO h q) h.O.2.1), (marksB (qA h q) h.A.2.1), (mkDrs h.K (qD h q) h.D.2.1)⟩ h w4) := HM.out.mem hlt (inE h.D.1 h.D.2.1 h.K) KS (fun _ z => Or.inr (Or.inr (Or.inr z))) HIN.out _ rfl ((HM.out.facts hlt).2.2.doersSet KS R2)
   clear KS
   clear R2
   have HE : Hid (LAt nodeK w4 true lo hi (some ⟨b, off, none⟩) n cap (mkTo k xs (i + 1))) := by
    show LAt _ _ _ _ _ _ _ _ _
    rw [HST.out]
    exact HM.out.1
   have HK : Hid (KeptS (inL nodeK (some ⟨b, off, none⟩) n xs) w w4) := HS.out.trans (HM.out.2.mono fun z hz => inL_snd HSN.out _ _ z hz)
   have HN : Hid (qN h q = qAt k xs (i + 1)) := by
    show _ = _
    rw [HNX.out]
   clear HM HIN HSN HS HNX HST HQ
   go_wp2
   go_roundw
   case rel => exact ⟨i + 1, by omega, by go_num, by rw [HN.out], HE.out, HK.out⟩
   case measure => simp [intOf]; omega
  ·obtain rfl : i = n := by omega
   go_wp2
   go_ret
   exact ⟨rfl, E, hS⟩
def malK (ms : List Mal) (i : Nat) : Hd := (ms.getD i mal0).2
theorem inE_inL {ms : List Mal} {ao : Option Addr} {n : Nat} (hl : ms.length = n) {q : Nat} (h : inE ao n (malK ms) q) : inL mailK ao n ms q := by
 rcases h with h | ⟨i, hi, h0, h1⟩
 ·exact Or.inl h
 ·have hi' : i < ms.length := by rw [hl]; exact hi
  have e : ms[i]? = some (ms.getD i mal0) := by simp [List.getD, hi']
  exact Or.inr ⟨i, _, e, ⟨h0, h1⟩⟩
def c1Q (N : Hd) (xs : List Nod) (k : Int) : Int := qAt k xs N.2.1
def c2Q (N M : Hd) (xs : List Nod) (ms : List Mal) (k : Int) : Int := kE 14 (malK ms) (c1Q N xs k) M.2.1
def c3Q (N M Sl : Hd) (xs : List Nod) (ms : List Mal) (k : Int) : Int := c2Q N M xs ms k + 6 * (Sl.2.1 : Int)
structure MCl (w : World) (o : Bool) (lo hi : Nat) (N M Sl : Hd) (xs : List Nod) (ms : List Mal) (k : Int) : Prop where
 nodes : LAt nodeK w o lo hi N.1 N.2.1 N.2.2 (mkTo k xs N.2.1)
 mails : ElsAt 15 w o lo hi M.1 M.2.1 M.2.2 (mkMF (malK ms) (c1Q N xs k)) (malK ms) (paM 14 13 (malK ms) (c1Q N xs k) (fun _ => []) M.2.1)
 slog : RowAt w o lo hi 6 Sl.1 Sl.2.1 Sl.2.2 (sixs (marks6 (c2Q N M xs ms k) Sl.2.1))
def inCl (N M Sl : Hd) (xs : List Nod) (ms : List Mal) (q : Nat) : Prop := inL nodeK N.1 N.2.1 xs q ∨ inL mailK M.1 M.2.1 ms q ∨ hR Sl q
section
variable {w w' : World} {o : Bool} {lo hi : Nat} {N M Sl : Hd} {xs : List Nod} {ms : List Mal} {es : List En} {k : Int}
theorem ClAt.inB (x : ClAt w o lo hi N M Sl xs ms es) {q : Nat} (hq : inCl N M Sl xs ms q) : lo ≤ q ∧ q < hi ∧ q < w.heap.size := by
 rcases hq with h | h | h
 ·exact x.nodes.inB h
 ·exact x.mails.inB h
 ·exact x.slog.inB h
theorem cQ_in (hk : 0 ≤ k) (hN : k + 6 * (nsum xs : Int) ≤ 12000000) (hz : ClSz N M Sl xs ms 1048576) (hl : ms.length = M.2.1) : (0 ≤ c1Q N xs k ∧ c1Q N xs k ≤ 12000000) ∧ (0 ≤ c2Q N M xs ms k ∧ c2Q N M xs ms k ≤ 100000000000000) ∧ (0 ≤ c3Q N M Sl xs ms k) ∧ ∀ i, i < M.2.1 → (malK ms i).2.1 ≤ 2097152 := by
 have h1 := qAt_le xs k N.2.1
 have hK : ∀ i, i < M.2.1 → (malK ms i).2.1 ≤ 2097152 := fun i hi => by
  have hi' : i < ms.length := by rw [hl]; exact hi
  have e : ms[i]? = some (ms.getD i mal0) := by simp [List.getD, hi']
  have := hz.mails i _ e
  unfold malK; omega
 have h2 := kE_ge (t := 14) (by omega) (malK ms) (c1Q N xs k) M.2.1
 have h3 := kE_le (t := 14) (by omega) (by omega) (malK ms) (c1Q N xs k) (n := M.2.1) hK M.2.1 (Nat.le_refl _)
 have h4 := hz.m
 have e1 : c1Q N xs k = qAt k xs N.2.1 := rfl
 refine ⟨by omega, ⟨?_, ?_⟩, ?_, hK⟩
 ·unfold c2Q; omega
 ·unfold c2Q; omega
 ·unfold c3Q c2Q; omega
end
theorem markCluster_any {lo hi : Nat} (N M Sl : Hd) (xs : List Nod) (ms : List Mal) (es : List En) (k : Int) (w : World) (x : ClAt w true lo hi N M Sl xs ms es) (hz : ClSz N M Sl xs ms 1048576) (hk : 0 ≤ k) (hN : k + 6 * (nsum xs : Int) ≤ 12000000) :
  Calls Try.prog 26 #[.agg #[.slice N.1 N.2.1 N.2.2, .slice M.1 M.2.1 M.2.2, .slice Sl.1 Sl.2.1 Sl.2.2], .int .i64 k] w fun e w' => e = .returned (.int .i64 (c3Q N M Sl xs ms k)) ∧ MCl w' true lo hi N M Sl xs ms k ∧ KeptS (inCl N M Sl xs ms) w w' := by
 have HB : Hid (∀ q, inCl N M Sl xs ms q → q < w.heap.size) := fun q hq => (x.inB hq).2.2
 have ⟨s1, s2, s3⟩ := x.sep rfl
 have H1 : Hid _ := s1
 have H2 : Hid _ := s2
 have H3 : Hid _ := s3
 have HL : Hid _ := x.mails.len
 have HI : Hid _ := cQ_in hk hN hz x.mails.len
 have hM := hz.m
 have hS := hz.s
 clear s1 s2 s3
 go_enter Try.func26, Try.ntmps26
 go_wp2_with (first | ((with_reducible refine box_newX 33 [.slice N.1 N.2.1 N.2.2, .slice M.1 M.2.1 M.2.2, .slice Sl.1 Sl.2.1 Sl.2.2] rfl ?_); intro b0 W0 N0; have ob0 := N0.ge; have B := N0.below; have X0 := N0.bx; have c0 := X0.cell; clear N0) | fail)
 have XN := x.nodes.below B
 have XM := x.mails.below B
 have XS := x.slog.below B
 have kk : KeptS (inCl N M Sl xs ms) w W0 := KeptS.below B
 clear x
 refine (markNods_any N.1 N.2.1 N.2.2 xs k _ XN hk hN).mono ?_
 rintro e w1 ⟨rfl, LN, KS⟩
 have YM : MailsAt w1 true lo hi M.1 M.2.1 M.2.2 (malK ms) (ms.map (·.1)) := LAt.mails (LAt.keptS mailOk XM KS (Sep.symm H1.out))
 have YS := XS.keptR KS (Sep.symm H2.out)
 replace X0 := X0.keptS KS (fun q => by have := HB.out _ (Or.inl q); omega)
 replace c0 := X0.cell
 replace kk := kk.trans (KS.mono fun q hq => Or.inl hq)
 clear XN XM XS KS
 rw [show qAt k xs N.2.1 = c1Q N xs k from rfl]
 go_wp2_with fail
 refine (markMailS_any M.1 M.2.1 M.2.2 (malK ms) _ _ (c1Q N xs k) _ YM.els (fun _ _ => rfl) (by omega) HI.out.2.2.2 HI.out.1.1 (by have := HI.out.1.2; omega)).mono ?_
 rintro e w2 ⟨rfl, EM, KS⟩
 have KS2 : KeptS (inL mailK M.1 M.2.1 ms) w1 w2 := KS.mono fun q hq => inE_inL HL.out hq
 clear KS YM
 replace LN := LAt.keptS nodeOk LN KS2 (fun q hq => H1.out q (inL_snd (mkTo_snd xs k N.2.1) _ _ q hq))
 replace YS := YS.keptR KS2 (Sep.symm H3.out)
 replace X0 := X0.keptS KS2 (fun q => by have := HB.out _ (Or.inr (Or.inl q)); omega)
 replace c0 := X0.cell
 replace kk := kk.trans (KS2.mono fun q hq => Or.inr (Or.inl hq))
 clear KS2
 rw [show kE 14 (malK ms) (c1Q N xs k) M.2.1 = c2Q N M xs ms k from rfl]
 go_wp2_with fail
 refine (markEntries_any Sl.1 Sl.2.1 Sl.2.2 es (c2Q N M xs ms k) _ YS.pinR (by omega) HI.out.2.1.1 (by have := HI.out.2.1.2; omega)).mono ?_
 rintro e w3 ⟨rfl, RS, K3⟩
 have KS3 : KeptS (hR Sl) w2 w3 := Kept.pinR K3
 have MM : MCl w3 true lo hi N M Sl xs ms k := ⟨LAt.keptS nodeOk LN KS3 (fun q hq => H2.out q (inL_snd (mkTo_snd xs k N.2.1) _ _ q hq)), (EM.keptS KS3 (fun q hq => H3.out q (inE_inL HL.out hq))).congr (fun _ _ _ _ => rfl) (fun i hi => by unfold paM; rw [if_pos hi, if_pos hi]), YS.repin RS⟩
 replace kk := kk.trans (KS3.mono fun q hq => Or.inr (Or.inr hq))
 clear LN EM YS RS K3 KS3 X0 c0 H1 H2 H3 HB HL HI
 rw [show c2Q N M xs ms k + 6 * (Sl.2.1 : Int) = c3Q N M Sl xs ms k from rfl]
 go_wp2
 go_ret
 exact ⟨rfl, MM, kk⟩
end Go.Proofs.Ytannjgdginfgeaa
namespace Go.Proofs.Ytannjgdginfgeaa
open Go.RowKit Go.ChangeShapes Go.WideShapes Go.Deep
section
variable {H : Type} {enc : TypeId × Value → H} {P : Program} {w : World}
def EnTy (P : Program) (e : TypeId) : Prop := ∃ f0 f1 f2 g0 g1 g2 g3 : Field, P.underlying e = some (.struct #[f0, f1, f2]) ∧ (f0.offset = 0 ∧ f1.offset = 1 ∧ f2.offset = 2) ∧ (P.cellsOf e = 6 ∧ P.cellsOf f0.type = 1 ∧ P.cellsOf f1.type = 1 ∧ P.cellsOf f2.type = 4) ∧
 (P.underlying f0.type = some (.int .i64) ∧ P.underlying f1.type = some (.int .i64) ∧ P.underlying f2.type = some (.struct #[g0, g1, g2, g3])) ∧ (g0.offset = 0 ∧ g1.offset = 1 ∧ g2.offset = 2 ∧ g3.offset = 3) ∧
 (P.cellsOf g0.type = 1 ∧ P.cellsOf g1.type = 1 ∧ P.cellsOf g2.type = 1 ∧ P.cellsOf g3.type = 1) ∧ (P.underlying g0.type = some (.int .i64) ∧ P.underlying g1.type = some (.int .i64) ∧ P.underlying g2.type = some (.int .i64) ∧ P.underlying g3.type = some (.int .i64))
theorem EnTy.cells {e : TypeId} (h : EnTy P e) : P.cellsOf e = 6 := by obtain ⟨_, _, _, _, _, _, _, _, _, h, _⟩ := h; exact h.1
theorem six_of {e : TypeId} (ht : EnTy P e) {fuel : Nat} {cs : List Value} {x : DataW H × List MemPlace} {base : Nat} {spare : Nat → Bool} {held : Bool} (hlen : cs.length = 6) (h : DataW.trod enc P w base spare held fuel e cs = some x) :
  ∃ q : En, cs = [.int .i64 q.1, .int .i64 q.2.1, .int .i64 q.2.2.1, .int .i64 q.2.2.2.1, .int .i64 q.2.2.2.2.1, .int .i64 q.2.2.2.2.2] := by
 obtain ⟨f0, f1, f2, k0, k1, k2, k3, he, ⟨o0, o1, o2⟩, ⟨_, c0, c1, c2⟩, ⟨i0, i1, hs⟩, ⟨p0, p1, p2, p3⟩, ⟨d0, d1, d2, d3⟩, ⟨j0, j1, j2, j3⟩⟩ := ht
 obtain ⟨ys, k, _, _, _, hyl, hf⟩ := DataW.trod_struct he h
 match ys, hyl, cs, hlen with
 | [y0, y1, y2], _, [v0, v1, v2, v3, v4, v5], _ =>
  have g0 := hf 0 f0 rfl
  have g1 := hf 1 f1 rfl
  have g2 := hf 2 f2 rfl
  simp [o0, o1, o2, c0, c1, c2] at g0 g1 g2
  obtain ⟨zs, m, _, _, _, hzl, hg⟩ := DataW.trod_struct hs g2
  match zs, hzl with
  | [z0, z1, z2, z3], _ =>
   have q0 := hg 0 k0 rfl
   have q1 := hg 1 k1 rfl
   have q2 := hg 2 k2 rfl
   have q3 := hg 3 k3 rfl
   simp [p0, p1, p2, p3, d0, d1, d2, d3] at q0 q1 q2 q3
   obtain ⟨a0, e0, _, _⟩ := DataW.trod_int i0 g0
   obtain ⟨a1, e1, _, _⟩ := DataW.trod_int i1 g1
   obtain ⟨a2, e2, _, _⟩ := DataW.trod_int j0 q0
   obtain ⟨a3, e3, _, _⟩ := DataW.trod_int j1 q1
   obtain ⟨a4, e4, _, _⟩ := DataW.trod_int j2 q2
   obtain ⟨a5, e5, _, _⟩ := DataW.trod_int j3 q3
   simp only [List.cons.injEq, and_true] at e0 e1 e2 e3 e4 e5
   exact ⟨(a0, a1, a2, a3, a4, a5), by rw [e0, e1, e2, e3, e4, e5]⟩
theorem read_entries {t e : TypeId} {fuel : Nat} {v : Value} {x : DataW H × List MemPlace} (ht : P.underlying t = some (.slice e)) (he : EnTy P e) (h : DataW.trod enc P w 0 (fun _ => true) true fuel t [v] = some x) :
  ∃ ao n cap vs, v = .slice ao n cap ∧ n ≤ maxLen ∧ RowAt w false 0 w.heap.size 6 ao n cap (sixs vs) := by
 rcases open_slice ht h with ⟨hcs, _⟩ | ⟨a, len, cap, m, n, D, Pl, hcs, hb, hl, hm, hz, _, hx⟩
 ·simp only [List.cons.injEq, and_true] at hcs
  exact ⟨none, 0, 0, [], hcs, Nat.zero_le _, RowAt.nil _ _ _ _ _⟩
 ·simp only [List.cons.injEq, and_true] at hcs
  simp only [if_true] at hz
  subst hz
  have each : ∀ i, i < m → ∃ q : En, ∀ j, j < 6 → w.cell? (a.add (i * 6 + j)) = some (.int .i64 (enF q j)) := fun i hi => by
   obtain ⟨cs, h1, h2⟩ := hx i hi
   rw [he.cells] at h1
   obtain ⟨_, hlen, hcell⟩ := World.cells?_some h1
   obtain ⟨q, hq⟩ := six_of he hlen h2
   refine ⟨q, fun j hj => ?_⟩
   have e0 := hcell j (by omega)
   rw [add_add, hq] at e0
   rw [e0]
   match j, hj with
   | 0, _ => rfl
   | 1, _ => rfl
   | 2, _ => rfl
   | 3, _ => rfl
   | 4, _ => rfl
   | 5, _ => rfl
  obtain ⟨q, hq⟩ := choose_lt each
  have hlen : ((List.range len).map q).length = len := by simp
  have hget : ∀ i, i < len → ((List.range len).map q).getD i en0 = q i := fun i hi => by simp [List.getD, hi]
  refine ⟨some a, len, m, (List.range len).map q, hcs, Nat.le_trans hl hm, ?_, hl, fun hn => ?_⟩
  ·rw [sixs_len, hlen]
  ·have h0 := hq 0 (by omega) 0 (by omega)
   obtain ⟨b, off, spot⟩ := a
   have hspot : spot = none := by simpa [Addr.add] using World.cell?_spot h0
   subst hspot
   refine ⟨b, off, rfl, Nat.zero_le _, World.block_lt_of_cell? w _ h0, World.block_lt_of_cell? w _ h0, fun i hi => ?_, fun h => by cases h⟩
   have p0 := hq (i / 6) (by omega) (i % 6) (by omega)
   have t0 := sixs_get ((List.range len).map q) (i / 6) (i % 6) (by omega) (by omega)
   rw [show i / 6 * 6 + i % 6 = i by omega] at t0 p0
   rw [← addr_add, t0, p0, hget _ (by omega)]
end
end Go.Proofs.Ytannjgdginfgeaa
namespace Go.Proofs.Ytannjgdginfgeaa
open Go.RowKit
theorem Try.enTy : EnTy Try.prog 84 := ⟨_, _, _, _, _, _, _, Try.underlying84, ⟨rfl, rfl, rfl⟩, ⟨by kernel_rfl, by kernel_rfl, by kernel_rfl, by kernel_rfl⟩, ⟨Try.underlying2, Try.underlying2, Try.underlying82⟩, ⟨rfl, rfl, rfl, rfl⟩, ⟨by kernel_rfl, by kernel_rfl, by kernel_rfl, by kernel_rfl⟩, ⟨Try.underlying2, Try.underlying2, Try.underlying2, Try.underlying2⟩⟩
end Go.Proofs.Ytannjgdginfgeaa
namespace Go.Proofs.Ytannjgdginfgeaa
open Go.RowKit Go.ChangeShapes Go.WideShapes Go.Deep
section
variable {H : Type} {enc : TypeId × Value → H} {P : Program} {w : World}
def DrTy (P : Program) (t : TypeId) : Prop := ∃ f0 f1 f2 f3 : Field, ∃ t2 : TypeId, P.underlying t = some (.struct #[f0, f1, f2, f3]) ∧ (f0.offset = 0 ∧ f1.offset = 1 ∧ f2.offset = 2 ∧ f3.offset = 3) ∧ (P.cellsOf f0.type = 1 ∧ P.cellsOf f1.type = 1 ∧ P.cellsOf f2.type = 1 ∧ P.cellsOf f3.type = 1) ∧ P.cellsOf t = 4 ∧ P.underlying f0.type = some .bool ∧ P.underlying f1.type = some (.int .i64) ∧ P.underlying f2.type = some (.slice t2) ∧ EnTy P t2 ∧ P.underlying f3.type = some (.int .i64)
def RepTy (P : Program) (t : TypeId) : Prop := ∃ f0 f1 f2 f3 f4 f5 f6 f7 f8 f9 : Field, ∃ t5 t7 t8 t9 : TypeId, P.underlying t = some (.struct #[f0, f1, f2, f3, f4, f5, f6, f7, f8, f9]) ∧ (f0.offset = 0 ∧ f1.offset = 1 ∧ f2.offset = 2 ∧ f3.offset = 3 ∧ f4.offset = 4 ∧ f5.offset = 5 ∧ f6.offset = 6 ∧ f7.offset = 7 ∧ f8.offset = 8 ∧ f9.offset = 9) ∧ (P.cellsOf f0.type = 1 ∧ P.cellsOf f1.type = 1 ∧ P.cellsOf f2.type = 1 ∧ P.cellsOf f3.type = 1 ∧ P.cellsOf f4.type = 1 ∧ P.cellsOf f5.type = 1 ∧ P.cellsOf f6.type = 1 ∧ P.cellsOf f7.type = 1 ∧ P.cellsOf f8.type = 1 ∧ P.cellsOf f9.type = 1) ∧ P.cellsOf t = 10 ∧ P.underlying f0.type = some (.int .i64) ∧ P.underlying f1.type = some (.int .i64) ∧ P.underlying f2.type = some (.int .i64) ∧ P.underlying f3.type = some .bool ∧ P.underlying f4.type = some (.int .i64) ∧ P.underlying f5.type = some (.slice t5) ∧ EnTy P t5 ∧ P.underlying f6.type = some (.int .i64) ∧ P.underlying f7.type = some (.slice t7) ∧ (P.underlying t7 = some (.int .i64) ∧ P.cellsOf t7 = 1) ∧ P.underlying f8.type = some (.slice t8) ∧ (P.underlying t8 = some .bool ∧ P.cellsOf t8 = 1) ∧ P.underlying f9.type = some (.slice t9) ∧ DrTy P t9
def MailTy (P : Program) (t : TypeId) : Prop := ∃ f0 f1 f2 f3 f4 f5 f6 f7 f8 f9 : Field, ∃ t8 : TypeId, P.underlying t = some (.struct #[f0, f1, f2, f3, f4, f5, f6, f7, f8, f9]) ∧ (f0.offset = 0 ∧ f1.offset = 1 ∧ f2.offset = 2 ∧ f3.offset = 3 ∧ f4.offset = 4 ∧ f5.offset = 5 ∧ f6.offset = 6 ∧ f7.offset = 12 ∧ f8.offset = 13 ∧ f9.offset = 14) ∧ (P.cellsOf f0.type = 1 ∧ P.cellsOf f1.type = 1 ∧ P.cellsOf f2.type = 1 ∧ P.cellsOf f3.type = 1 ∧ P.cellsOf f4.type = 1 ∧ P.cellsOf f5.type = 1 ∧ P.cellsOf f6.type = 6 ∧ P.cellsOf f7.type = 1 ∧ P.cellsOf f8.type = 1 ∧ P.cellsOf f9.type = 1) ∧ P.cellsOf t = 15 ∧ P.underlying f0.type = some (.int .i64) ∧ P.underlying f1.type = some (.int .i64) ∧ P.underlying f2.type = some (.int .i64) ∧ P.underlying f3.type = some (.int .i64) ∧ P.underlying f4.type = some (.int .i64) ∧ P.underlying f5.type = some .bool ∧ EnTy P f6.type ∧ P.underlying f7.type = some (.int .i64) ∧ P.underlying f8.type = some (.slice t8) ∧ EnTy P t8 ∧ P.underlying f9.type = some (.int .i64)
theorem read_doers {t e : TypeId} {fuel : Nat} {v : Value} {x : DataW H × List MemPlace} (ht : P.underlying t = some (.slice e)) (hty : DrTy P e) (h : DataW.trod enc P w 0 (fun _ => true) true fuel t [v] = some x) :
  ∃ ao n cap K ds, v = .slice ao n cap ∧ n ≤ maxLen ∧ (∀ i, i < n → (K i).2.1 ≤ maxLen) ∧ DoersAt w false 0 w.heap.size ao n cap K ds := by
 obtain ⟨f0, f1, f2, f3, t2, he, ⟨o0, o1, o2, o3⟩, ⟨c0, c1, c2, c3⟩, hC, u0, u1, u2, x2, u3⟩ := hty
 rcases open_slice ht h with ⟨hcs, _⟩ | ⟨a, len, cap, m, n, D, Pl, hcs, hb, hl, hm, hz, _, hx⟩
 ·simp only [List.cons.injEq, and_true] at hcs
  exact ⟨none, 0, 0, fun _ => (none, 0, 0), [], hcs, Nat.zero_le _, fun i hi => absurd hi (by omega), rfl, ElsAt.nil _ _ _ _ _ _ _ _ _ _⟩
 ·simp only [List.cons.injEq, and_true] at hcs
  simp only [if_true] at hz
  subst hz
  have each : ∀ i, i < m → ∃ q : Dr × Hd, (∀ j, j < 4 → w.cell? (a.add (i * 4 + j)) = some (drF (fun _ => q.2) [q.1] 0 j)) ∧ q.2.2.1 ≤ maxLen ∧ RowAt w false 0 w.heap.size 6 q.2.1 q.2.2.1 q.2.2.2 (sixs q.1.2.2.1) := fun i hi => by
   obtain ⟨cs, h1, h2⟩ := hx i hi
   rw [hC] at h1
   obtain ⟨_, hlen, hcell⟩ := World.cells?_some h1
   obtain ⟨ys, k, _, _, _, hyl, hf⟩ := DataW.trod_struct he h2
   match ys, hyl, cs, hlen with
   | [y0, y1, y2, y3], _, [v0, v1, v2, v3], _ =>
    have g0 := hf 0 f0 rfl
    have g1 := hf 1 f1 rfl
    have g2 := hf 2 f2 rfl
    have g3 := hf 3 f3 rfl
    simp [o0, o1, o2, o3, c0, c1, c2, c3] at g0 g1 g2 g3
    obtain ⟨a0, d0, _⟩ := DataW.trod_bool u0 g0
    obtain ⟨a1, d1, _, _⟩ := DataW.trod_int u1 g1
    obtain ⟨k2, n2, m2, xs2, d2, hn2, hr2⟩ := read_entries u2 x2 g2
    obtain ⟨a3, d3, _, _⟩ := DataW.trod_int u3 g3
    simp only [List.cons.injEq, and_true] at d0 d1 d3
    refine ⟨((a0, a1, xs2, a3), (k2, n2, m2)), fun j hj => ?_, hn2, hr2⟩
    have e0 := hcell j (by omega)
    rw [add_add] at e0
    rw [e0, d0, d1, d2, d3]
    match j, hj with
    | 0, _ => rfl
    | 1, _ => rfl
    | 2, _ => rfl
    | 3, _ => rfl
  obtain ⟨q, hq⟩ := choose_lt each
  have hlen : ((List.range len).map fun i => (q i).1).length = len := by simp
  have hget : ∀ i, i < len → ((List.range len).map fun i => (q i).1).getD i dr0 = (q i).1 := fun i hi => by simp [List.getD, hi]
  have hdr : ∀ i j, i < len → drF (fun i => (q i).2) ((List.range len).map fun i => (q i).1) i j = drF (fun _ => (q i).2) [(q i).1] 0 j := fun i j hi => by unfold drF; rw [hget i hi]; rfl
  refine ⟨some a, len, m, fun i => (q i).2, (List.range len).map fun i => (q i).1, hcs, Nat.le_trans hl hm, fun i hi => (hq i (by omega)).2.1, hlen, ⟨by rw [flatF_len], hl, fun hn => ?_⟩, fun i hi => ?_, fun hx => by cases hx⟩
  ·have h0 := (hq 0 (by omega)).1 0 (by omega)
   obtain ⟨b, off, spot⟩ := a
   have hspot : spot = none := by simpa [Addr.add] using World.cell?_spot h0
   subst hspot
   refine ⟨b, off, rfl, Nat.zero_le _, World.block_lt_of_cell? w _ h0, World.block_lt_of_cell? w _ h0, fun i hi => ?_, fun h => by cases h⟩
   have p0 := (hq (i / 4) (by omega)).1 (i % 4) (by omega)
   have t0 := flatF_get (sz := 4) (n := len) (drF (fun i => (q i).2) ((List.range len).map fun i => (q i).1)) (i := i / 4) (j := i % 4) (by omega) (by omega)
   rw [show i / 4 * 4 + i % 4 = i by omega] at t0 p0
   rw [← addr_add, t0, p0, hdr _ _ (by omega)]
  ·unfold drL; rw [hget i hi]; exact (hq i (by omega)).2.2
end
end Go.Proofs.Ytannjgdginfgeaa
namespace Go.Proofs.Ytannjgdginfgeaa
open Go.RowKit
theorem Try.drTy : DrTy Try.prog 133 := ⟨_, _, _, _, _, Try.underlying133, ⟨rfl, rfl, rfl, rfl⟩, ⟨by kernel_rfl, by kernel_rfl, by kernel_rfl, by kernel_rfl⟩, by kernel_rfl, Try.underlying4, Try.underlying2, Try.underlying24, Try.enTy, Try.underlying2⟩
theorem Try.repTy : RepTy Try.prog 80 := ⟨_, _, _, _, _, _, _, _, _, _, _, _, _, _, Try.underlying80, ⟨rfl, rfl, rfl, rfl, rfl, rfl, rfl, rfl, rfl, rfl⟩, ⟨by kernel_rfl, by kernel_rfl, by kernel_rfl, by kernel_rfl, by kernel_rfl, by kernel_rfl, by kernel_rfl, by kernel_rfl, by kernel_rfl, by kernel_rfl⟩, by kernel_rfl, Try.underlying2, Try.underlying2, Try.underlying2, Try.underlying4, Try.underlying2, Try.underlying24, Try.enTy, Try.underlying2, Try.underlying60, ⟨Try.underlying2, Try.cellsInt⟩, Try.underlying61, ⟨Try.underlying4, Try.cellsBool⟩, Try.underlying78, Try.drTy⟩
theorem Try.mailTy : MailTy Try.prog 86 := ⟨_, _, _, _, _, _, _, _, _, _, _, Try.underlying86, ⟨rfl, rfl, rfl, rfl, rfl, rfl, rfl, rfl, rfl, rfl⟩, ⟨by kernel_rfl, by kernel_rfl, by kernel_rfl, by kernel_rfl, by kernel_rfl, by kernel_rfl, by kernel_rfl, by kernel_rfl, by kernel_rfl, by kernel_rfl⟩, by kernel_rfl, Try.underlying2, Try.underlying2, Try.underlying2, Try.underlying2, Try.underlying2, Try.underlying4, Try.enTy, Try.underlying2, Try.underlying24, Try.enTy, Try.underlying2⟩
end Go.Proofs.Ytannjgdginfgeaa
