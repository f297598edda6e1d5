/- Chapter 9: a primary beats; BeatReplica of the program. -/
import Derived.Test.YtonclmbihhdkpaaGreatQAF
import Derived.Test.YtonclmbihhdkpaaGreatQAB
import Derived.Test.YtonclmbihhdkpaaGreatQAU
import Derived.Test.YtonclmbihhdkpaaGreatWR
import Derived.Deep.DeepCutAuto
import Derived.Deep.AppendSrc
set_option maxRecDepth 20000
set_option maxHeartbeats 16000000
namespace Go.Proofs.YtonclmbihhdkpaaGreat
open Go.RowKit
def beatN (r : Rep) (t : Int) : Nat := (r.oks.getD t.toNat 0).toNat
def beatM (r : Rep) : List Ml := (othL r.id.toNat r.size.toNat).map fun t => putM (prepM (agrC r) (beatN r t)) r.id t r.view
theorem beatM_len (r : Rep) : (beatM r).length ≤ r.size.toNat := by unfold beatM; rw [List.length_map]; exact othL_len _ _
theorem othL_mem {i : Nat} : ∀ {k : Nat} {q : Int}, q ∈ othL i k → ∃ j : Nat, q = (j : Int) ∧ j < k ∧ j ≠ i
 | 0, q, h => by simp [othL] at h
 | k + 1, q, h => by
  rw [othL] at h
  by_cases e : k = i
  ·rw [if_pos e] at h
   obtain ⟨j, a, b, c⟩ := othL_mem h; exact ⟨j, a, by omega, c⟩
  ·rw [if_neg e] at h
   rcases List.mem_append.1 h with h | h
   ·obtain ⟨j, a, b, c⟩ := othL_mem h; exact ⟨j, a, by omega, c⟩
   ·exact ⟨k, by simpa using h, Nat.lt_succ_self _, e⟩
theorem KeptS.cellS {S : Nat → Prop} {w w' : World} (h : KeptS S w w') {b k : Nat} {v : Value} (hc : w.cell? ⟨b, k, none⟩ = some v) (hs : ¬ S b) : w'.cell? ⟨b, k, none⟩ = some v := by
 rw [World.cell?_of_block (w := w) (a := ⟨b, k, none⟩) (h.block b (World.block_lt_of_cell? w ⟨b, k, none⟩ hc) hs)]; exact hc
theorem sent_base {w : World} {base z : Nat} {v : Value} {Km : Nat → Hd} {ms : List Ml} (G : SentAt w base v Km ms) (h1 : z ≤ base) (h2 : z ≤ w.heap.size) : ∃ base', z ≤ base' ∧ base' ≤ w.heap.size ∧ SentAt w base' v Km ms := by
 by_cases hb : base ≤ w.heap.size
 ·exact ⟨base, h1, hb, G⟩
 ·refine ⟨w.heap.size, h2, Nat.le_refl _, ?_⟩
  rcases (GrowAt.own (G : GrowAt _ _ _ _ _ _ _ _ _)).2 with ⟨q1, q2⟩ | ⟨g, cap, cur, hv, rest⟩
  ·have e : ms = [] := List.eq_nil_of_length_eq_zero q2
   subst e; subst q1
   exact GrowAt.nil _ _ _ _ _ _ _
  ·have := (GrowAt.own (G : GrowAt _ _ _ _ _ _ _ _ _)).lt g (by rw [hv]; rfl)
   omega
theorem beat_is {lo hi : Nat} (r : Rep) (h : RH) (b0 : Nat) (w : World) (X0 : Bx w b0 [.int .i64 r.id, .int .i64 r.size, .int .i64 r.view, .bool r.normal, .int .i64 r.last, .slice h.L.1 h.L.2.1 h.L.2.2, .int .i64 r.commit, .slice h.O.1 h.O.2.1 h.O.2.2, .slice h.A.1 h.A.2.1 h.A.2.2, .slice h.D.1 h.D.2.1 h.D.2.2, .slice none 0 0]) (x : RepAt w true lo hi h r) (nb : ¬ inRep h b0) (hiw : hi ≤ w.heap.size) (hs : 1 ≤ r.size ∧ r.size ≤ 5) (hid : 0 ≤ r.id ∧ r.id ≤ r.size - 1) (hl : (r.oks.length : Int) = r.size) (ho : ∀ y ∈ r.oks, 0 ≤ y ∧ y ≤ (r.log.length : Int)) :
  Calls Tryz.prog 67 #[.agg #[.pointer (some ⟨b0, 0, none⟩)]] w fun e w' => ∃ (s : Hd) (Km : Nat → Hd) (base : Nat), e = .returned (.tuple #[]) ∧ Bx w' b0 [.int .i64 (agrC r).id, .int .i64 (agrC r).size, .int .i64 (agrC r).view, .bool (agrC r).normal, .int .i64 (agrC r).last, .slice h.L.1 h.L.2.1 h.L.2.2, .int .i64 (agrC r).commit, .slice h.O.1 h.O.2.1 h.O.2.2, .slice h.A.1 h.A.2.1 h.A.2.2, .slice h.D.1 h.D.2.1 h.D.2.2, .slice s.1 s.2.1 s.2.2] ∧ SentAt w' base (.slice s.1 s.2.1 s.2.2) Km (beatM r) ∧ s.2.1 = (beatM r).length ∧ NilK Km s.2.1 ∧ w.heap.size ≤ base ∧ KeptS (fun k => k = b0) w w' := by
 have hol := x.oks.nInts
 have HX : Hid _ := x
 have HNB : Hid _ := nb
 have HOK : Hid (∀ j : Nat, j < h.O.2.1 → ∃ y : Nat, r.oks.getD j 0 = (y : Int)) := fun j hj => by
  have hm : r.oks.getD j 0 ∈ r.oks := by simp [List.getD, show j < r.oks.length by omega]
  exact ⟨(r.oks.getD j 0).toNat, by have := ho _ hm; omega⟩
 clear x nb
 have c0 := X0.cell
 have f0 := X0.froz
 have ob0 := X0.lt
 go_enter Tryz.func67, Tryz.ntmps67
 go_wp2_with (first | ((have g := ob0); clear g; (with_reducible refine box_newX 106 [.pointer (some ⟨b0, 0, none⟩)] rfl ?_); intro b1 W1 N1; have ob1 := N1.ge; have o0_b1 := N1.u X0; replace X0 := N1.r X0; replace c0 := X0.cell; replace f0 := X0.froz; have B := N1.below; obtain ⟨X1, c1⟩ := N1.c; clear N1) | fail)
 refine (agree_is r h (none, 0, 0) b0 _ X0 (HX.out.below B) hs hid hl ho).mono ?_
 rintro e w3 ⟨rfl, X3, KS3⟩
 have Y3 := X1.keptS KS3 (by omega)
 have R3 : RepAt w3 true lo hi h r := (HX.out.below B).keptS KS3 (fun k hk e => HNB.out (e ▸ hk))
 have K3 : Hid (KeptS (fun k => k = b0) w w3) := (KeptS.below B).trans KS3
 have hs3 := K3.out.size
 clear X0 c0 f0 X1 c1 KS3 B
 obtain ⟨qt, hqt⟩ : ∃ qt, agrC r = qt := ⟨_, rfl⟩
 rw [hqt] at X3
 have q1 : Hid (qt.size = r.size) := by show _ = _; rw [← hqt]; rfl
 have q2 : Hid (qt.id = r.id) := by show _ = _; rw [← hqt]; rfl
 have q3 : Hid (qt.view = r.view) := by show _ = _; rw [← hqt]; rfl
 have q4 : Hid (qt.log = r.log) := by show _ = _; rw [← hqt]; rfl
 have HQT : Hid _ := hqt
 clear hqt
 obtain ⟨m, hm⟩ : ∃ m : Nat, r.size = m := ⟨r.size.toNat, by omega⟩
 obtain ⟨i, hi0⟩ : ∃ i : Nat, r.id = i := ⟨r.id.toNat, by omega⟩
 have hm5 : m ≤ 5 := by omega
 have hmO : m = h.O.2.1 := by omega
 have cc0 := X3.cell
 have cc1 := Y3.cell
 go_wp2_with fail
 refine (others_is qt h (none, 0, 0) b0 _ X3 m i (by rw [q1.out]; exact hm) (by rw [q2.out]; exact hi0) hm5).mono ?_
 rintro e w4 ⟨ra, rc, z, ue, rfl, Gz, zu, hR, R, BB⟩
 have lb : b0 < w4.heap.size := Nat.lt_of_lt_of_le X3.lt BB.size
 have lb1 : b1 < w4.heap.size := Nat.lt_of_lt_of_le Y3.lt BB.size
 have lbz : b0 < z := Nat.lt_of_lt_of_le X3.lt Gz
 have lh4 : hi ≤ w4.heap.size := Nat.le_trans hiw (Nat.le_trans hs3 BB.size)
 have HX4 : Hid _ := X3.below BB
 have HY4 : Hid _ := Y3.below BB
 have HR4 : Hid _ := R3.below BB
 have hRn := R.le
 have K4 : Hid (KeptS (fun k => k = b0) w w4) := K3.out.trans (KeptS.below BB)
 have HW : Hid (w.heap.size ≤ w4.heap.size) := K4.out.size
 have hlen := othL_len i m
 obtain ⟨fT, hfT⟩ : ∃ fT : Int → Ml, fT = fun t => putM (prepM qt (beatN r t)) r.id t r.view := ⟨_, rfl⟩
 have HC : Hid (beatM r = (othL i m).map fT) := by show _ = _; unfold beatM; rw [hm, hi0, HQT.out, hfT, hi0]; rfl
 have HFT : Hid (∀ (j y : Nat), r.oks.getD j 0 = (y : Int) → fT (j : Int) = putM (prepM qt y) qt.id (j : Int) qt.view) := fun j y e => by rw [hfT, q2.out, q3.out]; show putM (prepM qt (beatN r (j : Int))) _ _ _ = _; unfold beatN; rw [Int.toNat_natCast, e, Int.toNat_natCast]
 have HMEM : Hid (∀ k, k < (othL i m).length → ∃ j : Nat, (othL i m).getD k 0 = (j : Int) ∧ j < m) := fun k hk => by
  have hmm : (othL i m).getD k 0 ∈ othL i m := by simp [List.getD, hk]
  obtain ⟨j, e1, e2, _⟩ := othL_mem hmm
  exact ⟨j, e1, e2⟩
 clear X3 Y3 R3 BB Gz zu cc0 cc1 hm hi0 hfT hs hid hl ho
 generalize hxs : othL i m = xs at *
 have HXS : Hid _ := hxs
 clear hxs
 have HNR : Hid (∀ q, inR ra xs.length q → ¬ (q = b0 ∨ w4.heap.size ≤ q)) := fun q hq hs => by
  have hb := R.inB hq
  omega
 have HNL : Hid (∀ k, inRep h k → ¬ (k = b0 ∨ w4.heap.size ≤ k)) := fun k hk hs => by
  have hb := HR4.out.inB hk
  rcases hs with q | q
  ·exact HNB.out (q ▸ hk)
  ·omega
 go_wp2
 go_loopw [3, 10] (fun _ iv wr => ∃ (k : Nat) (s : Hd) (Km : Nat → Hd), k ≤ xs.length ∧ iv = .int .i64 k ∧ Bx wr b0 [.int .i64 qt.id, .int .i64 qt.size, .int .i64 qt.view, .bool qt.normal, .int .i64 qt.last, .slice h.L.1 h.L.2.1 h.L.2.2, .int .i64 qt.commit, .slice h.O.1 h.O.2.1 h.O.2.2, .slice h.A.1 h.A.2.1 h.A.2.2, .slice h.D.1 h.D.2.1 h.D.2.2, .slice s.1 s.2.1 s.2.2] ∧ SentAt wr w4.heap.size (.slice s.1 s.2.1 s.2.2) Km ((xs.take k).map fT) ∧ s.2.1 = k ∧ NilK Km k ∧ w4.heap.size ≤ wr.heap.size ∧ KeptS (fun q => q = b0 ∨ w4.heap.size ≤ q) w4 wr) (fun _ iv _ => xs.length - (intOf iv).toNat)
 case atStart => exact ⟨0, (none, 0, 0), kd0, Nat.zero_le _, rfl, HX4.out, GrowAt.nil _ _ _ _ _ _ _, rfl, fun j hj => absurd hj (Nat.not_lt_zero _), Nat.le_refl _, KeptS.refl _ _⟩
 case round =>
  obtain ⟨k, s, Km, hk, rfl, X0, G, hsk, NK, LZ, KS⟩ := hrel
  clear HX4
  by_cases hlt : k < xs.length
  ·have hlk : (k : Int) < (xs.length : Int) := by omega
   have R2 : RowAt wr true z ue 1 ra xs.length rc (ints xs) := R.keptR KS (fun q hq hs => HNR.out q hq hs)
   obtain ⟨b, off, rfl, _, _, _, e0, _⟩ := R2.int hlt
   clear R2
   have RR4 := HR4.out.keptS KS (fun q hq hs => HNL.out q hq hs)
   have X1 := HY4.out.keptS KS (by omega)
   obtain ⟨j, hj, hjm⟩ := HMEM.out k hlt
   obtain ⟨y, hy⟩ := HOK.out j (by omega)
   obtain ⟨bo, oo, eo, _, _, _, e7, _⟩ := RR4.oks.int (k := j) (by omega)
   rw [hy] at e7
   have HT : Hid _ := take_map_succ hlt fT
   rw [hj, HFT.out j y hy] at HT
   rw [hj] at e0
   have hjq : (j : Int) < (h.O.2.1 : Int) := by omega
   clear hj hy
   have HNO : Hid (¬ (bo = b0 ∨ w4.heap.size ≤ bo)) := HNL.out bo (Or.inr (Or.inl ⟨by omega, by rw [eo]; rfl⟩))
   have HX0 : Hid _ := X0
   have k7 := X0.cell 7
   simp only [List.getElem?_cons_succ, List.getElem?_cons_zero] at k7
   rw [eo] at k7
   have d1 := X1.cell
   have HL5 : Hid _ := RR4.log
   clear RR4
   have hml : ((xs.take k).map fT).length = k := by simp; omega
   have HML : Hid _ := hml
   have HG : Hid (GrowAt _ _ _ _ _ _ _ _ _) := G
   clear G hml X0
   go_wp2_with fail
   clear e0
   have DQ : Below wr.heap.size wr wr.drew := (Below.refl _ _).drew
   replace HX0 : Hid _ := HX0.out.below DQ
   replace X1 := X1.below DQ
   replace d1 := X1.cell
   replace k7 : wr.drew.cell? _ = _ := k7
   replace e7 : wr.drew.cell? _ = _ := e7
   replace HL5 : Hid _ := HL5.out.below DQ
   replace HG : Hid (GrowAt _ _ _ _ _ _ _ _ _) := HG.out.below DQ
   replace KS := KS.trans (KeptS.below DQ)
   replace LZ := Nat.le_trans LZ DQ.size
   clear DQ
   refine wp_region_held_drew (S := (fun w' => (∀ k : Nat, w'.cell? ⟨b1, k, none⟩ = [.pointer (some ⟨b0, 0, none⟩)][k]?) ∧ w'.cell? ⟨b0, 7, none⟩ = some (.slice (some ⟨bo, oo, none⟩) h.O.2.1 h.O.2.2) ∧ w'.cell? ⟨bo, oo + j, none⟩ = some (.int .i64 (y : Int)))) (by kernel_rfl) ⟨d1, k7, e7⟩ (fun hZq => ?_)
   refine tk 0 hZq ?_
   refine tk 1 hZq ?_
   refine tk 2 hZq ?_
   refine tk 3 hZq ?_
   refine tk 4 hZq ?_
   refine tk 5 hZq ?_
   refine tk 6 hZq ?_
   refine tk 7 hZq ?_
   refine tk 8 hZq ?_
   refine tk 9 hZq ?_
   refine tk 10 hZq ?_
   refine rd1 11 (fun KK hKK => ?_)
   go_simp
   go_at_call 136
   refine (sendPrepare_is qt h s j y w4.heap.size b0 _ Km _ HX0.out (by rw [q4.out]; exact HL5.out) HG.out lb LZ (by rw [HML.out]; omega)).mono ?_
   rintro e w5 ⟨s', rfl, X2, G2, hs2, KS2⟩
   rw [HML.out] at G2 hs2
   have k7 := X2.cell 7
   simp only [List.getElem?_cons_succ, List.getElem?_cons_zero] at k7
   rw [eo] at k7
   have X1' := X1.keptS KS2 (by omega)
   have d1 := X1'.cell
   have e7 := KS2.cellS e7 HNO.out
   have G3 : SentAt w5 w4.heap.size (.slice s'.1 s'.2.1 s'.2.2) (fun j => if j = k then (none, 0, 0) else Km j) ((xs.take (k + 1)).map fT) := by rw [HT.out]; exact G2
   have NK2 : NilK (fun j => if j = k then ((none : Option Addr), 0, 0) else Km j) (k + 1) := fun j hj => by
    by_cases e : j = k
    ·simp [e]
    ·simp only [if_neg e]; exact NK j (by omega)
   have J1 : Hid _ := X2
   have J2 : Hid _ := G3
   have J3 : Hid _ := hs2
   have J4 : Hid _ := NK2
   have J5 : Hid (w4.heap.size ≤ w5.heap.size) := Nat.le_trans LZ KS2.size
   have J6 : Hid _ := KS.trans KS2
   clear X2 G2 G3 hs2 NK2 KS KS2 X1 X1' HT
   clear hZq
   refine hKK _ _ ⟨d1, k7, e7⟩ (fun hZq => ?_)
   clear hKK KK
   refine wpAnyH_done (by kernel_rfl) ?_ _
   clear HG HX0 HL5 HML
   go_wp2
   go_roundw
   case rel => exact ⟨k + 1, s', (fun j => if j = k then (none, 0, 0) else Km j), by omega, by go_num, J1.out, J2.out, J3.out, J4.out, J5.out, J6.out⟩
   case measure => simp [intOf]; omega
  ·obtain rfl : k = xs.length := by omega
   rw [List.take_length] at G
   have K9 : KeptS (fun k => k = b0) w wr := K4.out.fresh KS rfl
   have J1 : Hid _ := X0
   have J2 : Hid _ := G
   have J3 : Hid _ := K9
   have J4 : Hid _ := NK
   clear X0 G KS K9 NK
   go_wp2
   have EQ := HQT.out
   subst EQ
   refine bodyPost_end (v := .tuple #[]) (by simp [results, Tryz.results67, go_sem]) rfl ⟨s, Km, w4.heap.size, rfl, J1.out, ?_, ?_, ?_, HW.out, J3.out⟩
   ·rw [HC.out]; exact J2.out
   ·rw [HC.out, hsk]; simp
   ·rw [hsk]; exact J4.out
def beQ (r : Rep) : Rep := if repF r = 0 then (if leadsB r = true then agrC r else r) else rep0
def beMs (r : Rep) : List Ml := if repF r = 0 then (if leadsB r = true then beatM r else if r.normal = true then [] else if 2 * cntB r.asks > r.size then chgL r ++ tellM r else chgL r) else []
theorem implBeat_is {own : Bool} {lo hi : Nat} (r : Rep) (h : RH) (w : World) (x : RepAt w own lo hi h r) (hz : RSz h 1048576) (c : Int) (q : Rep) (ms : List Ml) (hc : repF r = c) (hq : beQ r = q) (hms : beMs r = ms) : Calls Tryz.prog 15 #[.agg #[.int .i64 r.id, .int .i64 r.size, .int .i64 r.view, .bool r.normal, .int .i64 r.last, .slice h.L.1 h.L.2.1 h.L.2.2, .int .i64 r.commit, .slice h.O.1 h.O.2.1 h.O.2.2, .slice h.A.1 h.A.2.1 h.A.2.2, .slice h.D.1 h.D.2.1 h.D.2.2]] w fun e w' => NodeAns w w' e c q ms := by
 unfold beQ at hq
 unfold beMs at hms
 rw [hc] at hq hms
 have HC : Hid _ := hc
 clear hc
 go_enter Tryz.func15, Tryz.ntmps15
 go_wp2_with (first | ((have g := ob0); clear g; (with_reducible refine al 33 [.int .i64 0, .int .i64 0, .int .i64 0, .int .i64 0, .bool false, .int .i64 0, .slice none 0 0, .int .i64 0, .slice none 0 0, .slice none 0 0, .slice none 0 0, .slice none 0 0] ?_); intro b1 W1 N1; have ob1 := N1.o B; have o0_b1 := N1.u X0; replace X0 := N1.r X0; replace c0 := X0.cell; replace B := N1.n B; obtain ⟨X1, c1, f1⟩ := N1.a; clear N1) | ((with_reducible refine box_newX 29 [.int .i64 r.id, .int .i64 r.size, .int .i64 r.view, .bool r.normal, .int .i64 r.last, .slice h.L.1 h.L.2.1 h.L.2.2, .int .i64 r.commit, .slice h.O.1 h.O.2.1 h.O.2.2, .slice h.A.1 h.A.2.1 h.A.2.2, .slice h.D.1 h.D.2.1 h.D.2.2] rfl ?_); intro b0 W0 N0; have ob0 := N0.ge; have B := N0.below; obtain ⟨X0, c0⟩ := N0.c; clear N0) | fail)
 refine (implRF_is r h _ (x.below B) (hz.mono (by omega)) c HC.out).mono ?_
 rintro e w1 ⟨rfl, BB⟩
 replace X0 := X0.below BB
 replace c0 := X0.cell
 replace X1 := X1.below BB
 replace c1 := X1.cell
 replace f1 := X1.froz
 replace B := below_next B BB
 clear BB
 by_cases h0 : c = 0
 rotate_left 1
 ·rw [if_neg h0] at hq hms
  subst hq
  subst hms
  have h0' : (c != 0) = true := by simp [h0]
  go_wp2_with (first | ((with_reducible refine sm 33 X1 0 [.int .i64 c, .int .i64 0, .int .i64 0, .int .i64 0, .bool false, .int .i64 0, .slice none 0 0, .int .i64 0, .slice none 0 0, .slice none 0 0, .slice none 0 0, .slice none 0 0] ?_); intro V1 S; replace X0 := X0.kp S.kept; replace c0 := X0.cell; replace X1 : Bx V1 b1 [.int .i64 c, .int .i64 0, .int .i64 0, .int .i64 0, .bool false, .int .i64 0, .slice none 0 0, .int .i64 0, .slice none 0 0, .slice none 0 0, .slice none 0 0, .slice none 0 0] := S.bx; replace c1 := X1.cell; replace f1 := X1.froz; replace B := bkp B S.kept; clear S))
  refine bodyPost_ret (v := .agg #[.int .i64 c, .int .i64 0, .int .i64 0, .int .i64 0, .bool false, .int .i64 0, .slice none 0 0, .int .i64 0, .slice none 0 0, .slice none 0 0, .slice none 0 0, .slice none 0 0]) (by simp [results, Tryz.results15, go_sem, *]) rfl ⟨w.heap.size, _, ⟨(none, 0, 0), (none, 0, 0), (none, 0, 0), (none, 0, 0), fun _ => (none, 0, 0)⟩, (none, 0, 0), fun _ => (none, 0, 0), rfl, Nat.le_refl _, Nat.le_refl _, AnsAt.none _ _ _ _, ASz.none _, B⟩
 subst h0
 rw [if_pos rfl] at hq hms
 obtain ⟨N, LG, -, SP, OK9, -⟩ := rep_ok HC.out
 have N1 := N.1
 have N2 := N.2.1
 have N3 : 0 ≤ r.view ∧ r.view ≤ 300 := by have := N.2.2.1; omega
 have SO := SP.1
 have HOB : Hid _ := oksF_ok OK9
 have hcb := cntB_in r.asks
 have SA := SP.2.1
 have hcn : cntB r.asks ≤ 1000 := by split at SA <;> omega
 clear N LG SP OK9 SA
 obtain ⟨l, hl⟩ : ∃ l, leadsB r = l := ⟨_, rfl⟩
 rw [hl] at hq hms SO
 have HL : Hid _ := hl
 clear hl
 go_wp2_with fail
 refine (leads_is' r h N1 N3 _ l HL.out).mono ?_
 rintro e w2 ⟨rfl, BB⟩
 replace X0 := X0.below BB
 replace c0 := X0.cell
 replace X1 := X1.below BB
 replace c1 := X1.cell
 replace f1 := X1.froz
 replace B := below_next B BB
 clear BB
 have lb := X1.lt
 have B9 := B.size
 have HQ : Hid _ := hq
 have HMS : Hid _ := hms
 clear hq hms
 cases l
 rotate_left 1
 ·rw [if_pos rfl] at SO
  have HE1 : Hid (agrC r = q) := by show _ = _; rw [← HQ.out, if_pos rfl]
  have HE2 : Hid (beatM r = ms) := by show _ = _; rw [← HMS.out, if_pos rfl]
  clear HQ HMS
  go_wp2_with fail
  refine (primaryFor_z r h _ (x.below B) hz).mono ?_
  rintro e w3 ⟨bq, z, ue, h', rfl, Gz, uq, Gq, XQ, R, HZ, BB⟩
  have R1 := R.widen Gz (Nat.le_refl ue)
  obtain ⟨z0, hz0⟩ : ∃ z0, z0 = w2.heap.size := ⟨_, rfl⟩
  rw [← hz0] at R1 Gq lb B9
  have gw : z0 ≤ w3.heap.size := by rw [hz0]; exact BB.size
  clear hz0
  clear R Gz
  replace X0 := X0.below BB
  replace c0 := X0.cell
  replace X1 := X1.below BB
  replace c1 := X1.cell
  replace f1 := X1.froz
  replace B := below_next B BB
  clear BB
  go_wp2_with (first | ((with_reducible refine sm 106 X2 0 [.pointer (some ⟨bq, 0, none⟩)] ?_); intro V1 S; replace X0 := X0.kp S.kept; replace c0 := X0.cell; replace X1 := X1.kp S.kept; replace c1 := X1.cell; replace f1 := X1.froz; replace X2 : Bx V1 b2 [.pointer (some ⟨bq, 0, none⟩)] := S.bx; replace c2 := X2.cell; replace f2 := X2.froz; replace B := bkp B S.kept; replace XQ := XQ.kept S.kept (by omega); replace R1 := R1.kept S.kept (by omega); clear S) | ((have g := ob1); clear g; (with_reducible refine al 106 [.pointer none] ?_); intro b2 W2 N2; have ob2 := N2.o B; have o0_b2 := N2.u X0; have o1_b2 := N2.u X1; replace X0 := N2.r X0; replace c0 := X0.cell; replace X1 := N2.r X1; replace c1 := X1.cell; replace f1 := X1.froz; replace B := N2.n B; obtain ⟨X2, c2, f2⟩ := N2.a; have o2q := N2.u XQ; replace XQ := XQ.below N2.below; replace R1 := R1.below N2.below; clear N2) | fail)
  have HNB : Hid (¬ inRep h' bq) := fun hk => by have := R1.inB hk; omega
  have hqs : bq < V1.heap.size := XQ.lt
  refine (beat_is r h' bq _ XQ R1 HNB.out (by omega) N1 N2 SO HOB.out).mono ?_
  rintro e w4 ⟨s, Km, base, rfl, XQ, G, hsn, NK, hbase, KS⟩
  have hw4 := KS.size
  replace R1 := R1.keptS KS (fun k hk e => HNB.out (e ▸ hk))
  replace X0 := X0.keptS KS (by omega)
  replace c0 := X0.cell
  replace X1 := X1.keptS KS (by omega)
  replace c1 := X1.cell
  replace X2 := X2.keptS KS (by omega)
  replace c2 := X2.cell
  replace f1 := X1.froz
  replace f2 := X2.froz
  replace B := B.trans (KS.low _ (fun k hk => by omega) B.size)
  clear KS
  have R2 : RepAt w4 true z0 ue h' (agrC r) := ⟨R1.log, R1.oks, R1.asks, R1.doers, R1.sep⟩
  have AN : AnsAt w4 true z0 w4.heap.size h' s Km (agrC r) (beatM r) := ans_of R2 G (by omega) (by omega) (by omega) rfl
  have hAN : w4.heap.size ≤ w4.heap.size := Nat.le_refl _
  have htl := beatM_len r
  have AZ : ASz h' s Km 1048576 := ⟨HZ, by omega, fun j hj => by rw [NK j hj]; exact Nat.zero_le _⟩
  clear R1 R2 G NK hsn htl
  go_wp2_with fail
  refine (answer_is (agrC r).id (agrC r).size (agrC r).view (agrC r).normal (agrC r).last h'.L (agrC r).commit h'.O h'.A h'.D s bq _ XQ).mono ?_
  rintro e w9 ⟨rfl, BB⟩
  replace X0 := X0.below BB
  replace c0 := X0.cell
  replace X1 := X1.below BB
  replace c1 := X1.cell
  replace f1 := X1.froz
  replace X2 := X2.below BB
  replace c2 := X2.cell
  replace f2 := X2.froz
  replace AN := AN.below BB
  replace hAN := Nat.le_trans hAN BB.size
  replace B := below_next B BB
  clear BB
  go_wp2_with (first | ((with_reducible refine sm 33 X1 0 [.int .i64 0, .int .i64 (agrC r).id, .int .i64 (agrC r).size, .int .i64 (agrC r).view, .bool (agrC r).normal, .int .i64 (agrC r).last, .slice h'.L.1 h'.L.2.1 h'.L.2.2, .int .i64 (agrC r).commit, .slice h'.O.1 h'.O.2.1 h'.O.2.2, .slice h'.A.1 h'.A.2.1 h'.A.2.2, .slice h'.D.1 h'.D.2.1 h'.D.2.2, .slice s.1 s.2.1 s.2.2] ?_); intro V2 S; replace X0 := X0.kp S.kept; replace c0 := X0.cell; replace X1 : Bx V2 b1 [.int .i64 0, .int .i64 (agrC r).id, .int .i64 (agrC r).size, .int .i64 (agrC r).view, .bool (agrC r).normal, .int .i64 (agrC r).last, .slice h'.L.1 h'.L.2.1 h'.L.2.2, .int .i64 (agrC r).commit, .slice h'.O.1 h'.O.2.1 h'.O.2.2, .slice h'.A.1 h'.A.2.1 h'.A.2.2, .slice h'.D.1 h'.D.2.1 h'.D.2.2, .slice s.1 s.2.1 s.2.2] := S.bx; replace c1 := X1.cell; replace f1 := X1.froz; replace X2 := X2.kp S.kept; replace c2 := X2.cell; replace f2 := X2.froz; replace AN := AN.kept S.kept (by omega); replace hAN := Nat.le_trans hAN S.kept.size; replace B := bkp B S.kept; clear S))
  have EQ : (agrC r) = q := HE1.out
  have EM : beatM r = ms := HE2.out
  subst EM
  subst EQ
  exact bodyPost_ret (v := .agg #[.int .i64 0, .int .i64 (agrC r).id, .int .i64 (agrC r).size, .int .i64 (agrC r).view, .bool (agrC r).normal, .int .i64 (agrC r).last, .slice h'.L.1 h'.L.2.1 h'.L.2.2, .int .i64 (agrC r).commit, .slice h'.O.1 h'.O.2.1 h'.O.2.2, .slice h'.A.1 h'.A.2.1 h'.A.2.2, .slice h'.D.1 h'.D.2.1 h'.D.2.2, .slice s.1 s.2.1 s.2.2]) (by simp [results, Tryz.results15, go_sem, *]) rfl ⟨_, _, h', s, Km, rfl, B9, hAN, AN, AZ, B⟩
 ·have HEQ : Hid (q = r) := by show _ = _; rw [← HQ.out, if_neg (by decide)]
  have HE4 : Hid ((if r.normal = true then [] else if 2 * cntB r.asks > r.size then chgL r ++ tellM r else chgL r) = ms) := by show _ = _; rw [← HMS.out, if_neg (show ¬ (false = true) by decide)]
  clear HQ HMS
  go_wp2_with fail
  refine (nodeOf_z r h _ (x.below B) hz).mono ?_
  rintro e w3 ⟨bq, z, ue, h', rfl, Gz, uq, Gq, XQ, R, HZ, BB⟩
  have R1 := R.widen Gz (Nat.le_refl ue)
  obtain ⟨z0, hz0⟩ : ∃ z0, z0 = w2.heap.size := ⟨_, rfl⟩
  rw [← hz0] at R1 Gq lb B9
  have gw : z0 ≤ w3.heap.size := by rw [hz0]; exact BB.size
  clear hz0
  clear R Gz
  replace X0 := X0.below BB
  replace c0 := X0.cell
  replace X1 := X1.below BB
  replace c1 := X1.cell
  replace f1 := X1.froz
  replace B := below_next B BB
  clear BB
  have hqs := XQ.lt
  obtain ⟨nm, hnm⟩ : ∃ nm, r.normal = nm := ⟨_, rfl⟩
  have HN : Hid _ := hnm
  have cq := XQ.cell
  rw [hnm] at cq
  have EQ0 := HEQ.out
  subst EQ0
  clear hnm
  cases nm
  rotate_left 1
  ·have R9 := R1.widen (Nat.le_refl _) (show ue ≤ w3.heap.size by omega)
   have AN : AnsAt w3 true z0 w3.heap.size h' (none, 0, 0) kd0 q [] := AnsAt.bare R9 _ _
   have hAN : w3.heap.size ≤ w3.heap.size := Nat.le_refl _
   clear R1 R9
   go_wp2_with fail
   refine (answer_is q.id q.size q.view q.normal q.last h'.L q.commit h'.O h'.A h'.D (none, 0, 0) bq _ XQ).mono ?_
   rintro e w9 ⟨rfl, BB⟩
   replace X0 := X0.below BB
   replace c0 := X0.cell
   replace X1 := X1.below BB
   replace c1 := X1.cell
   replace f1 := X1.froz
   replace AN := AN.below BB
   replace hAN := Nat.le_trans hAN BB.size
   replace B := below_next B BB
   clear BB
   go_wp2_with (first | ((with_reducible refine sm 33 X1 0 [.int .i64 0, .int .i64 q.id, .int .i64 q.size, .int .i64 q.view, .bool q.normal, .int .i64 q.last, .slice h'.L.1 h'.L.2.1 h'.L.2.2, .int .i64 q.commit, .slice h'.O.1 h'.O.2.1 h'.O.2.2, .slice h'.A.1 h'.A.2.1 h'.A.2.2, .slice h'.D.1 h'.D.2.1 h'.D.2.2, .slice none 0 0] ?_); intro V1 S; replace X0 := X0.kp S.kept; replace c0 := X0.cell; replace X1 : Bx V1 b1 [.int .i64 0, .int .i64 q.id, .int .i64 q.size, .int .i64 q.view, .bool q.normal, .int .i64 q.last, .slice h'.L.1 h'.L.2.1 h'.L.2.2, .int .i64 q.commit, .slice h'.O.1 h'.O.2.1 h'.O.2.2, .slice h'.A.1 h'.A.2.1 h'.A.2.2, .slice h'.D.1 h'.D.2.1 h'.D.2.2, .slice none 0 0] := S.bx; replace c1 := X1.cell; replace f1 := X1.froz; replace AN := AN.kept S.kept (by omega); replace hAN := Nat.le_trans hAN S.kept.size; replace B := bkp B S.kept; clear S))
   have EM : [] = ms := by rw [← HE4.out, if_pos HN.out]
   subst EM
   exact bodyPost_ret (v := .agg #[.int .i64 0, .int .i64 q.id, .int .i64 q.size, .int .i64 q.view, .bool q.normal, .int .i64 q.last, .slice h'.L.1 h'.L.2.1 h'.L.2.2, .int .i64 q.commit, .slice h'.O.1 h'.O.2.1 h'.O.2.2, .slice h'.A.1 h'.A.2.1 h'.A.2.2, .slice h'.D.1 h'.D.2.1 h'.D.2.2, .slice none 0 0]) (by simp [results, Tryz.results15, go_sem, *]) rfl ⟨_, _, h', (none, 0, 0), kd0, rfl, B9, hAN, AN, ASz.bare HZ _ _, B⟩
  have HNB : Hid (¬ inRep h' bq) := fun hk => by have := R1.inB hk; omega
  go_wp2_with fail
  clear cq
  refine (sendChanges_is q h' bq _ XQ N1 N2).mono ?_
  rintro e w4 ⟨s, Km, base0, rfl, XQ, G0, hsn, NK, hb0, KS⟩
  have hw4 := KS.size
  obtain ⟨base, hbase, hbw, G⟩ := sent_base G0 hb0 hw4
  clear G0 hb0
  replace R1 := R1.keptS KS (fun k hk e => HNB.out (e ▸ hk))
  replace X0 := X0.keptS KS (by omega)
  replace c0 := X0.cell
  replace X1 := X1.keptS KS (by omega)
  replace c1 := X1.cell
  replace f1 := X1.froz
  replace B := B.trans (KS.low _ (fun k hk => by omega) B.size)
  clear KS
  have hcl := chgL_len q
  have hs5 : s.2.1 ≤ 5 := by omega
  go_wp2_with fail
  refine (askers_is q h' s bq _ XQ R1.asks HZ.A).mono ?_
  rintro e W9 ⟨rfl, rfl⟩
  go_wp2_with fail
  refine (isEnough_is q h' s (cntB q.asks) (by omega) bq _ XQ).mono ?_
  rintro e W9 ⟨rfl, rfl⟩
  by_cases hen : 2 * cntB q.asks > q.size
  ·have hd : decide (2 * cntB q.asks > q.size) = true := decide_eq_true hen
   rw [hd]
   have HEN : Hid _ := hen
   clear hen hd
   go_wp2_with fail
   refine (tellOfItself_is q h' s base bq _ Km (chgL q) XQ R1.log HZ.L G hsn (fun j hj => by rw [NK j hj]; exact Nat.zero_le _) (by omega) hbw (by omega) N1 N3).mono ?_
   rintro e w5 ⟨s', Km', rfl, XQ, G, hsn', hK', KS⟩
   have hw5 := KS.size
   replace R1 := R1.keptS KS (fun k hk e => e.elim (fun e => HNB.out (e ▸ hk)) (fun e => by have := R1.inB hk; omega))
   replace X0 := X0.keptS KS (by omega)
   replace c0 := X0.cell
   replace X1 := X1.keptS KS (by omega)
   replace c1 := X1.cell
   replace f1 := X1.froz
   replace B := B.trans (KS.low _ (fun k hk => by rcases hk with z | z <;> omega) B.size)
   clear KS
   have htl := tellM_len q
   rw [List.length_append] at hsn'
   have AN : AnsAt w5 true z0 w5.heap.size h' s' Km' q (chgL q ++ tellM q) := ans_of R1 G (by omega) (by omega) (by omega) rfl
   have hAN : w5.heap.size ≤ w5.heap.size := Nat.le_refl _
   have AZ : ASz h' s' Km' 1048576 := ⟨HZ, by omega, hK'⟩
   clear R1 G NK hsn hsn' htl hcl
   go_wp2_with fail
   refine (answer_is q.id q.size q.view q.normal q.last h'.L q.commit h'.O h'.A h'.D s' bq _ XQ).mono ?_
   rintro e w9 ⟨rfl, BB⟩
   replace X0 := X0.below BB
   replace c0 := X0.cell
   replace X1 := X1.below BB
   replace c1 := X1.cell
   replace f1 := X1.froz
   replace AN := AN.below BB
   replace hAN := Nat.le_trans hAN BB.size
   replace B := below_next B BB
   clear BB
   go_wp2_with (first | ((with_reducible refine sm 33 X1 0 [.int .i64 0, .int .i64 q.id, .int .i64 q.size, .int .i64 q.view, .bool q.normal, .int .i64 q.last, .slice h'.L.1 h'.L.2.1 h'.L.2.2, .int .i64 q.commit, .slice h'.O.1 h'.O.2.1 h'.O.2.2, .slice h'.A.1 h'.A.2.1 h'.A.2.2, .slice h'.D.1 h'.D.2.1 h'.D.2.2, .slice s'.1 s'.2.1 s'.2.2] ?_); intro V1 S; replace X0 := X0.kp S.kept; replace c0 := X0.cell; replace X1 : Bx V1 b1 [.int .i64 0, .int .i64 q.id, .int .i64 q.size, .int .i64 q.view, .bool q.normal, .int .i64 q.last, .slice h'.L.1 h'.L.2.1 h'.L.2.2, .int .i64 q.commit, .slice h'.O.1 h'.O.2.1 h'.O.2.2, .slice h'.A.1 h'.A.2.1 h'.A.2.2, .slice h'.D.1 h'.D.2.1 h'.D.2.2, .slice s'.1 s'.2.1 s'.2.2] := S.bx; replace c1 := X1.cell; replace f1 := X1.froz; replace AN := AN.kept S.kept (by omega); replace hAN := Nat.le_trans hAN S.kept.size; replace B := bkp B S.kept; clear S))
   have EM : chgL q ++ tellM q = ms := by rw [← HE4.out, if_neg (by rw [HN.out]; decide), if_pos HEN.out]
   subst EM
   exact bodyPost_ret (v := .agg #[.int .i64 0, .int .i64 q.id, .int .i64 q.size, .int .i64 q.view, .bool q.normal, .int .i64 q.last, .slice h'.L.1 h'.L.2.1 h'.L.2.2, .int .i64 q.commit, .slice h'.O.1 h'.O.2.1 h'.O.2.2, .slice h'.A.1 h'.A.2.1 h'.A.2.2, .slice h'.D.1 h'.D.2.1 h'.D.2.2, .slice s'.1 s'.2.1 s'.2.2]) (by simp [results, Tryz.results15, go_sem, *]) rfl ⟨_, _, h', s', Km', rfl, B9, hAN, AN, AZ, B⟩
  ·have hd : decide (2 * cntB q.asks > q.size) = false := decide_eq_false hen
   rw [hd]
   have HEN : Hid _ := hen
   clear hen hd
   have AN : AnsAt W9 true z0 W9.heap.size h' s Km q (chgL q) := ans_of R1 G (by omega) (by omega) (by omega) rfl
   have hAN : W9.heap.size ≤ W9.heap.size := Nat.le_refl _
   have AZ : ASz h' s Km 1048576 := ⟨HZ, by omega, fun j hj => by rw [NK j hj]; exact Nat.zero_le _⟩
   clear R1 G NK hsn hcl
   go_wp2_with fail
   refine (answer_is q.id q.size q.view q.normal q.last h'.L q.commit h'.O h'.A h'.D s bq _ XQ).mono ?_
   rintro e w9 ⟨rfl, BB⟩
   replace X0 := X0.below BB
   replace c0 := X0.cell
   replace X1 := X1.below BB
   replace c1 := X1.cell
   replace f1 := X1.froz
   replace AN := AN.below BB
   replace hAN := Nat.le_trans hAN BB.size
   replace B := below_next B BB
   clear BB
   go_wp2_with (first | ((with_reducible refine sm 33 X1 0 [.int .i64 0, .int .i64 q.id, .int .i64 q.size, .int .i64 q.view, .bool q.normal, .int .i64 q.last, .slice h'.L.1 h'.L.2.1 h'.L.2.2, .int .i64 q.commit, .slice h'.O.1 h'.O.2.1 h'.O.2.2, .slice h'.A.1 h'.A.2.1 h'.A.2.2, .slice h'.D.1 h'.D.2.1 h'.D.2.2, .slice s.1 s.2.1 s.2.2] ?_); intro V1 S; replace X0 := X0.kp S.kept; replace c0 := X0.cell; replace X1 : Bx V1 b1 [.int .i64 0, .int .i64 q.id, .int .i64 q.size, .int .i64 q.view, .bool q.normal, .int .i64 q.last, .slice h'.L.1 h'.L.2.1 h'.L.2.2, .int .i64 q.commit, .slice h'.O.1 h'.O.2.1 h'.O.2.2, .slice h'.A.1 h'.A.2.1 h'.A.2.2, .slice h'.D.1 h'.D.2.1 h'.D.2.2, .slice s.1 s.2.1 s.2.2] := S.bx; replace c1 := X1.cell; replace f1 := X1.froz; replace AN := AN.kept S.kept (by omega); replace hAN := Nat.le_trans hAN S.kept.size; replace B := bkp B S.kept; clear S))
   have EM : chgL q = ms := by rw [← HE4.out, if_neg (by rw [HN.out]; decide), if_neg HEN.out]
   subst EM
   exact bodyPost_ret (v := .agg #[.int .i64 0, .int .i64 q.id, .int .i64 q.size, .int .i64 q.view, .bool q.normal, .int .i64 q.last, .slice h'.L.1 h'.L.2.1 h'.L.2.2, .int .i64 q.commit, .slice h'.O.1 h'.O.2.1 h'.O.2.2, .slice h'.A.1 h'.A.2.1 h'.A.2.2, .slice h'.D.1 h'.D.2.1 h'.D.2.2, .slice s.1 s.2.1 s.2.2]) (by simp [results, Tryz.results15, go_sem, *]) rfl ⟨_, _, h', s, Km, rfl, B9, hAN, AN, AZ, B⟩
theorem l9Changes0_is (r : Rep) (h : RH) (b0 : Nat) (w : World) (X0 : Bx w b0 [.int .i64 r.id, .int .i64 r.size, .int .i64 r.view, .bool r.normal, .int .i64 r.last, .slice h.L.1 h.L.2.1 h.L.2.2, .int .i64 r.commit, .slice h.O.1 h.O.2.1 h.O.2.2, .slice h.A.1 h.A.2.1 h.A.2.2, .slice h.D.1 h.D.2.1 h.D.2.2]) (hs : 1 ≤ r.size ∧ r.size ≤ 5) (hid : 0 ≤ r.id ∧ r.id ≤ r.size - 1) :
  Calls Tryz.prog 71 #[.pointer (some ⟨b0, 0, none⟩)] w fun e w' => ∃ (s' : Hd) (Km : Nat → Hd) (base : Nat), e = .returned (.slice s'.1 s'.2.1 s'.2.2) ∧ SentAt w' base (.slice s'.1 s'.2.1 s'.2.2) Km (chgL r) ∧ s'.2.1 = (chgL r).length ∧ NilK Km s'.2.1 ∧ w.heap.size ≤ base ∧ Below w.heap.size w w' := by
 obtain ⟨m, hm⟩ : ∃ m : Nat, r.size = m := ⟨r.size.toNat, by omega⟩
 obtain ⟨i, hi0⟩ : ∃ i : Nat, r.id = i := ⟨r.id.toNat, by omega⟩
 have HC : Hid (chgL r = (othL i m).map (chgM r)) := by show _ = _; unfold chgL; rw [hm, hi0]; rfl
 have HI0 : Hid (∀ t, mlV (none, 0, 0) (chgM r t) = [.int .i64 3, .int .i64 i, .int .i64 t, .int .i64 r.view, .int .i64 0, .bool false, .int .i64 0, .int .i64 0, .int .i64 0, .int .i64 0, .int .i64 0, .int .i64 0, .int .i64 0, .slice none 0 0, .int .i64 0]) := fun t => by unfold chgM putM chg0 mlV; rw [hi0]; rfl
 rw [hm, hi0] at X0
 have hm5 : m ≤ 5 := by omega
 clear hm hi0 hs hid
 have c0 := X0.cell
 have ob0 := X0.lt
 have HX0 : Hid _ := X0
 go_enter Tryz.func71, Tryz.ntmps71
 go_wp2_with (first | ((with_reducible refine lit_newO 31 0 #[] [] 46 (fun _ => by kernel_rfl) ?_); intro bl W9 N4 HH; have BW := N4.below; have GG := N4.ge; clear N4; replace X0 := X0.below BW; replace c0 := X0.cell) | fail)
 have G0 : SentAt W9 w.heap.size (.slice (some ⟨bl, 0, none⟩) 0 0) kd0 [] := ⟨by rw [show ([] : List Ml).length = 0 from rfl, flatF_zero]; exact owns_litO GG HH, fun i hi => absurd hi (Nat.not_lt_zero _), fun i hi => absurd hi (Nat.not_lt_zero _)⟩
 have HX : Hid _ := X0
 have HBW : Hid _ := BW.size
 clear HH GG
 go_loopw [3, 4] (fun v iv wr => ∃ (k : Nat) (Km : Nat → Hd), k ≤ m ∧ iv = .int .i64 k ∧ SentAt wr w.heap.size v Km ((othL i k).map (chgM r)) ∧ NilK Km (othL i k).length ∧ w.heap.size ≤ wr.heap.size ∧ Below w.heap.size w wr) (fun _ iv _ => m - (intOf iv).toNat)
 case atStart => exact ⟨0, kd0, Nat.zero_le _, rfl, G0, fun j hj => rfl, BW.size, BW⟩
 case round =>
  obtain ⟨k, Km, hk, rfl, G, NK, LZ, BL⟩ := hrel
  clear c0 G0 X0 BW
  have X0 : Bx wr b0 [.int .i64 i, .int .i64 m, .int .i64 r.view, .bool r.normal, .int .i64 r.last, .slice h.L.1 h.L.2.1 h.L.2.2, .int .i64 r.commit, .slice h.O.1 h.O.2.1 h.O.2.2, .slice h.A.1 h.A.2.1 h.A.2.2, .slice h.D.1 h.D.2.1 h.D.2.2] := HX0.out.low BL ob0
  have c0 := X0.cell
  by_cases hlt : k < m
  ·have hlk : (k : Int) < (m : Int) := by omega
   have HO : Hid (othL i (k + 1) = if k = i then othL i k else othL i k ++ [(k : Int)]) := rfl
   have hll := othL_len i k
   have HG : Hid (GrowAt _ _ _ _ _ _ _ _ _) := G
   have HNK : Hid _ := NK
   have HLZ : Hid _ := LZ
   have HBL : Hid _ := BL
   clear G NK
   by_cases q : k = i
   ·have q1 : ((k : Int) != (i : Int)) = false := by simp [q]
    have HO2 : Hid (othL i (k + 1) = othL i k) := by show _ = _; rw [HO.out, if_pos q]
    clear q HO
    go_wp2
    go_roundw
    case rel => exact ⟨k + 1, Km, by omega, by go_num, by rw [HO2.out]; exact HG.out, by rw [HO2.out]; exact HNK.out, HLZ.out, HBL.out⟩
    case measure => simp [intOf]; omega
   ·have q1 : ((k : Int) != (i : Int)) = true := by simp; omega
    have HO2 : Hid (othL i (k + 1) = othL i k ++ [(k : Int)]) := by show _ = _; rw [HO.out, if_neg q]
    clear q HO
    go_wp2_with fail
    have D : Below wr.heap.size wr wr.drew := (Below.refl _ _).drew
    replace X0 := X0.below D
    replace c0 := X0.cell
    have B := D
    clear D
    refine wp_region_held_drew (S := (fun w' => ∀ k : Nat, w'.cell? ⟨b0, k, none⟩ = [.int .i64 i, .int .i64 m, .int .i64 r.view, .bool r.normal, .int .i64 r.last, .slice h.L.1 h.L.2.1 h.L.2.2, .int .i64 r.commit, .slice h.O.1 h.O.2.1 h.O.2.2, .slice h.A.1 h.A.2.1 h.A.2.2, .slice h.D.1 h.D.2.1 h.D.2.2][k]?)) (by kernel_rfl) c0 (fun hZq => ?_)
    refine tk 0 hZq ?_
    refine tk 1 hZq ?_
    refine tk 2 hZq ?_
    refine tk 3 hZq ?_
    refine tk 4 hZq ?_
    refine tk 5 hZq ?_
    refine tk 6 hZq ?_
    refine tk 7 hZq ?_
    refine tk 8 hZq ?_
    refine tk 9 hZq ?_
    refine tk 10 hZq ?_
    refine rd1 11 (fun KK hKK => ?_)
    refine step_litX 31 1 _ [.int .i64 3, .int .i64 i, .int .i64 k, .int .i64 r.view, .int .i64 0, .bool false, .int .i64 0, .int .i64 0, .int .i64 0, .int .i64 0, .int .i64 0, .int .i64 0, .int .i64 0, .slice none 0 0, .int .i64 0] 46 (fun _ => by kernel_rfl) ?_
    intro bl W1 N1
    replace B := N1.n B
    replace X0 := N1.r X0
    replace c0 := X0.cell
    have X1 : Bx W1 bl (mlV (none, 0, 0) (chgM r k)) := by rw [HI0.out]; exact N1.bx
    clear N1
    have SN := sent_snoc (hd := (none, 0, 0)) (m := chgM r k) (HG.out.below B) X1 (RowAt.nilR _ _ _ _ _ _ _) (fun h0 => absurd rfl h0) (Nat.le_trans HLZ.out B.size) (by simp; omega)
    obtain ⟨v', w', hr, G2, KS, BB⟩ := SN
    have XN := X0.keptS KS (fun z => by have := (HG.out.own.lt b0 z).1; omega)
    clear hZq
    refine hKK _ _ c0 (fun hZq => ?_)
    clear hKK KK
    refine rd1 12 (fun KK hKK => ?_)
    refine step_append_run rfl _ _ _ _ rfl _ _ rfl rfl _ _ (hr _) ?_
    replace c0 := XN.cell
    clear hZq
    refine hKK _ _ c0 (fun hZq => ?_)
    clear hKK KK
    refine tk 13 hZq ?_
    refine wpAnyH_done (by kernel_rfl) ?_ _
    have e5 : ((othL i k).map (chgM r)).length = (othL i k).length := by simp
    rw [e5] at G2
    have G3 : Hid (SentAt w' w.heap.size v' (fun j => if j = (othL i k).length then (none, 0, 0) else Km j) ((othL i (k + 1)).map (chgM r))) := by show SentAt _ _ _ _ _; rw [HO2.out, List.map_append]; exact G2
    have NK2 : Hid (NilK (fun j => if j = (othL i k).length then ((none : Option Addr), 0, 0) else Km j) (othL i (k + 1)).length) := fun j hj => by
     rw [HO2.out, List.length_append] at hj
     by_cases e : j = (othL i k).length
     ·simp [e]
     ·simp only [if_neg e]; exact HNK.out j (by simp at hj; omega)
    have BL2 : Hid (Below w.heap.size w w') := (HBL.out.trans (B.mono HLZ.out)).trans BB
    have LZ2 : Hid (w.heap.size ≤ w'.heap.size) := Nat.le_trans HLZ.out (Nat.le_trans B.size BB.size)
    clear X0 X1 XN c0 B BB hr KS G2 e5
    go_wp2
    go_roundw
    case rel => exact ⟨k + 1, (fun j => if j = (othL i k).length then (none, 0, 0) else Km j), by omega, by go_num, G3.out, NK2.out, LZ2.out, BL2.out⟩
    case measure => simp [intOf]; omega
  ·obtain rfl : k = m := by omega
   obtain ⟨ao, cap, e9, E⟩ := GrowAt.els G
   subst e9
   have H2 : Hid _ := G
   have H4 : Hid _ := NK
   clear G NK E
   go_wp2
   go_ret
   refine ⟨(ao, ((othL i k).map (chgM r)).length, cap), Km, w.heap.size, by simp, ?_, ?_, ?_, Nat.le_refl _, BL⟩
   ·rw [HC.out]; exact H2.out
   ·rw [HC.out]
   ·show NilK Km ((othL i k).map (chgM r)).length; rw [List.length_map]; exact H4.out
theorem l9Asked0_is {own : Bool} {lo hi : Nat} (r : Rep) (h : RH) (b0 : Nat) (w : World) (X0 : Bx w b0 [.int .i64 r.id, .int .i64 r.size, .int .i64 r.view, .bool r.normal, .int .i64 r.last, .slice h.L.1 h.L.2.1 h.L.2.2, .int .i64 r.commit, .slice h.O.1 h.O.2.1 h.O.2.2, .slice h.A.1 h.A.2.1 h.A.2.2, .slice h.D.1 h.D.2.1 h.D.2.2]) (x : RowAt w own lo hi 1 h.A.1 h.A.2.1 h.A.2.2 (bls r.asks)) (hz : h.A.2.1 ≤ 1000) (hs : 1 ≤ r.size ∧ r.size ≤ 5) (d : Bool) (hd : decide (2 * cntB r.asks > r.size) = d) :
  Calls Tryz.prog 72 #[.pointer (some ⟨b0, 0, none⟩)] w fun e w' => e = .returned (.bool d) ∧ w' = w := by
 have hal := x.nBls
 have c0 := X0.cell
 obtain ⟨res, hres⟩ : ∃ res, cntB r.asks = res := ⟨_, rfl⟩
 have HR : Hid _ := hres
 rw [hres] at hd
 have HD2 : Hid _ := hd
 clear hres hd
 go_enter Tryz.func72, Tryz.ntmps72
 go_wp2
 go_loopw [3, 4] (fun cv iv wr => ∃ (k : Nat) (t : Int), k ≤ h.A.2.1 ∧ iv = .int .i64 k ∧ cv = .int .i64 t ∧ 0 ≤ t ∧ t ≤ k ∧ Hid (t + cntB (r.asks.drop k) = res) ∧ w = wr) (fun _ iv _ => h.A.2.1 - (intOf iv).toNat)
 case atStart => exact ⟨0, 0, Nat.zero_le _, rfl, rfl, Int.le_refl _, Int.le_refl _, (by show _ = _; rw [← HR.out]; simp), rfl⟩
 case round =>
  obtain ⟨k, t, hk, rfl, rfl, t0, t1, HT, rfl⟩ := hrel
  by_cases hlt : k < h.A.2.1
  ·have hlk : (k : Int) < (h.A.2.1 : Int) := by omega
   have HD : Hid _ := cntB_drop (bs := r.asks) (k := k) (by omega)
   obtain ⟨b, off, eo, _, _, _, e0, _⟩ := x.bool hlt
   rw [eo] at c0
   have wt : IntKind.i64.wrap (t + 1) = t + 1 := wrapI_same _ (by omega)
   obtain ⟨y, hy⟩ : ∃ y, r.asks.getD k false = y := ⟨_, rfl⟩
   rw [hy] at e0 HD
   clear hy eo
   cases y
   ·have HT2 : Hid (t + cntB (r.asks.drop (k + 1)) = res) := by show _ = _; rw [← HT.out, HD.out]; simp
    clear HT HD
    go_wp2
    go_roundw
    case rel => exact ⟨k + 1, t, by omega, by go_num, rfl, t0, by omega, HT2, by first | rfl | trivial⟩
    case measure => simp [intOf]; omega
   ·have HT2 : Hid (t + 1 + cntB (r.asks.drop (k + 1)) = res) := by show _ = _; rw [← HT.out, HD.out]; simp; omega
    clear HT HD
    go_wp2
    go_roundw
    case rel => exact ⟨k + 1, t + 1, by omega, by go_num, rfl, by omega, by omega, HT2, by first | rfl | trivial⟩
    case measure => simp [intOf]; omega
  ·have e : t = res := by rw [← HT.out, List.drop_eq_nil_of_le (by omega)]; simp [cntB]
   subst e
   clear HT HR
   go_wp2_with fail
   refine (l9Enough_is r.size hs _).mono ?_
   rintro e W9 ⟨rfl, rfl⟩
   by_cases q : r.size / 2 + 1 ≤ t
   ·have e : d = true := by rw [← HD2.out]; exact decide_eq_true (by omega)
    subst e
    clear HD2
    go_wp2
    go_ret
    exact ⟨rfl, rfl⟩
   ·have e : d = false := by rw [← HD2.out]; exact decide_eq_false (by omega)
    subst e
    clear HD2
    go_wp2
    go_ret
    exact ⟨congrArg (fun z => Ending.returned (Value.bool z)) (decide_eq_false (by omega)), rfl⟩
theorem src_zero {P : Program} {size : Nat} {tx e' : TypeId} (w : World) (hk : P.underlying tx = some (.slice e')) (a : Option Addr) (c : Nat) : Src P size tx (.slice a 0 c) 0 [] w := by
 cases a with
 | none => exact Src.ofNil w hk c
 | some ad => exact Src.ofSlice w hk ad 0 c [] (by simp) (fun j u hj => by simp at hj) (fun _ h => by cases h)
theorem sent_zero {W : World} {base : Nat} {v : Value} {Km : Nat → Hd} {ms : List Ml} (G : SentAt W base v Km ms) (a : Option Addr) (c : Nat) (ty : TypeId) : (Builtin.append_ #[31, 31] ty #[v, .slice a 0 c]).run Tryz.prog W = .ok v W := by
 obtain ⟨i2, hi2, ha2, hb2, hc2⟩ := info_parts Tryz.infoMail
 have hs := src_zero (P := Tryz.prog) (size := i2.size) W Tryz.underlying31 a c
 rcases (GrowAt.own (G : GrowAt _ _ _ _ _ _ _ _ _)).2 with ⟨q1, q2⟩ | ⟨g, cap, cur, hv, h1, h2, h3, h4⟩
 ·subst q1
  simp [Builtin.append_, run_underlying Tryz.underlying31, sizeOf, typeInfo, hi2, hs.len, hs.cells]
 ·subst hv
  have := run_append_room_src (P := Tryz.prog) W 31 31 ty 46 i2 Tryz.underlying31 hi2 g 0 ms.length cap (.slice a 0 c) 0 [] hs (by omega) (fun j hj => by simp at hj) (fun j hj => by simp at hj)
  simpa [World.setCells] using this
theorem sent_snocR {W : World} {base : Nat} {v : Value} {Km : Nat → Hd} {ms : List Ml} {m : Ml} {hd : Hd} {ow : Bool} {l u : Nat} {ad : Addr} {c : Nat} (G : SentAt W base v Km ms) (LR : RowAt W ow l u 15 (some ad) 1 c (mlV hd m)) (R : RowAt W true base W.heap.size 6 hd.1 hd.2.1 hd.2.2 (sixs m.log)) (hsep : hd.2.1 ≠ 0 → v.ownBlock ≠ some (sb hd.1) ∧ ∀ j, j < ms.length → (Km j).2.1 ≠ 0 → sb (Km j).1 ≠ sb hd.1) (hbase : base ≤ W.heap.size) (hn : ms.length ≤ 1000) :
  ∃ v' w', (∀ ty, (Builtin.append_ #[31, 31] ty #[v, .slice (some ad) 1 c]).run Tryz.prog W = .ok v' w') ∧ SentAt w' base v' (fun j => if j = ms.length then hd else Km j) (ms ++ [m]) ∧ KeptS (fun k => v.ownBlock = some k) W w' ∧ Below base W w' := by
 obtain ⟨i2, hi2, ha2, hb2, hc2⟩ := info_parts Tryz.infoMail
 obtain ⟨K2, hK2⟩ : ∃ K2 : Nat → Hd, K2 = fun j => if j = ms.length then hd else Km j := ⟨_, rfl⟩
 have e1K : K2 ms.length = hd := by rw [hK2]; simp
 have e2K : ∀ j, j < ms.length → K2 j = Km j := fun j hj => by rw [hK2]; simp [Nat.ne_of_lt hj]
 obtain ⟨v', w', hr, G2, KS, BB⟩ := GrowAt.snoc (P := Tryz.prog) G 31 i2 (.agg #[.int .i64 0, .int .i64 0, .int .i64 0, .int .i64 0, .int .i64 0, .bool false, .int .i64 0, .int .i64 0, .int .i64 0, .int .i64 0, .int .i64 0, .int .i64 0, .int .i64 0, .slice none 0 0, .int .i64 0]) 136 Tryz.underlying31 hi2 ha2 hb2 hc2 rfl (by omega) (by omega) ad c (mlV hd m) LR (by simp [mlV, hv, Value.oneCell']) (mlF K2 (ms ++ [m])) K2 (mlL (ms ++ [m])) (fun i j hi _ => by rw [mlF_old _ _ _ hi]; unfold mlF; rw [e2K i hi]) (by rw [mlF_last, e1K]) e2K (fun i hi => mlL_old _ _ hi) (by rw [e1K, mlL_last]; exact R) (fun h0 => by rw [e1K] at h0 ⊢; exact hsep h0) (by omega) hbase
 refine ⟨v', w', hr, ?_, KS, BB⟩
 rw [← hK2]
 unfold SentAt
 rw [List.length_append]; exact G2
theorem sent_tell {W0 W : World} {base : Nat} {v : Value} {Km K' : Nat → Hd} {ms : List Ml} {r : Rep} {s' : Hd} (G : SentAt W0 base v Km ms) (BB : Below W0.heap.size W0 W) (MA : MailsAt W true W0.heap.size W.heap.size s'.1 s'.2.1 s'.2.2 K' (tellM r)) (hsn : s'.2.1 = (tellM r).length) (hK : ∀ j, j < ms.length → (Km j).2.1 ≤ 1048576) (hK' : ∀ j, j < s'.2.1 → (K' j).2.1 ≤ 1048576) (hbase : base ≤ W0.heap.size) (hn : ms.length ≤ 1000) :
  ∃ v' w' Kn, (∀ ty, (Builtin.append_ #[31, 31] ty #[v, .slice s'.1 s'.2.1 s'.2.2]).run Tryz.prog W = .ok v' w') ∧ SentAt w' base v' Kn (ms ++ tellM r) ∧ KeptS (fun k => v.ownBlock = some k) W w' ∧ Below base W w' ∧ ∀ j, j < (ms ++ tellM r).length → (Kn j).2.1 ≤ 1048576 := by
 have GW : SentAt W base v Km ms := GrowAt.below (G : GrowAt _ _ _ _ _ _ _ _ _) BB
 obtain ⟨a, n, c⟩ := s'
 simp only at MA hsn hK' ⊢
 by_cases hp : (r.view % r.size == r.id) = true
 ·have e : tellM r = [] := by unfold tellM; rw [if_pos hp]
  rw [e] at hsn MA ⊢
  obtain rfl : n = 0 := hsn
  exact ⟨v, W, Km, fun ty => sent_zero GW a c ty, by rw [List.append_nil]; exact GW, KeptS.refl _ _, Below.refl _ _, by rw [List.append_nil]; exact hK⟩
 ·have e : tellM r = [telM r] := by unfold tellM; rw [if_neg hp]
  rw [e] at hsn MA ⊢
  obtain rfl : n = 1 := hsn
  have R1 := MA.els.row
  have e2 : flatF 15 1 (mlF K' [telM r]) = mlV (K' 0) (telM r) := by rw [flatF_snoc, flatF_zero, List.nil_append]; exact mlF_last K' [] (telM r)
  rw [e2] at R1
  obtain ⟨b, off, rfl, _⟩ := R1.cells (by omega)
  have RL := MA.els.logs 0 (by omega)
  have eL : mlL [telM r] 0 = (telM r).log := rfl
  rw [eL] at RL
  obtain ⟨v', w', hr, G2, KS, B2⟩ := sent_snocR GW R1 (RL.widen hbase (Nat.le_refl _)) (fun h0 => by
   have i1 := RL.inB (k := sb (K' 0).1) ⟨h0, rfl⟩
   refine ⟨fun qq => ?_, fun j hj h2 => ?_⟩
   ·have := ((GrowAt.own (G : GrowAt _ _ _ _ _ _ _ _ _)).lt _ qq).2; omega
   ·have := ((GrowAt.logs (G : GrowAt _ _ _ _ _ _ _ _ _) j hj).inB (k := sb (Km j).1) ⟨h2, rfl⟩).2.2; omega) (Nat.le_trans hbase BB.size) hn
  refine ⟨v', w', _, hr, G2, KS, B2, fun j hj => ?_⟩
  by_cases q : j = ms.length
  ·simp only [if_pos q]; exact hK' 0 (by omega)
  ·simp only [if_neg q]; exact hK j (by rw [List.length_append] at hj; simp at hj; omega)
end Go.Proofs.YtonclmbihhdkpaaGreat
