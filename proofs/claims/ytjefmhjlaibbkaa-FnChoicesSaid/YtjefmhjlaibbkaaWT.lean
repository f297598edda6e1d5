/- Chapter 10: how many ask, by the program and by the model. -/
import Derived.Test.YtjefmhjlaibbkaaQAF
import Derived.Test.YtjefmhjlaibbkaaQAL
import Derived.Test.YtjefmhjlaibbkaaQAK
import Derived.Deep.DeepCutAuto
set_option maxRecDepth 20000
set_option maxHeartbeats 16000000
namespace Go.Proofs.Ytjefmhjlaibbkaa
open Go.RowKit
def telB (r : Rep) (k : Nat) : Prop := (k : Int) = r.id ∨ r.normal = false ∧ (r.doers.getD k dr0).1 = true
instance (r : Rep) (k : Nat) : Decidable (telB r k) := inferInstanceAs (Decidable (_ ∨ _))
def telL (r : Rep) : Nat → List Int
 | 0 => []
 | k + 1 => if telB r k then telL r k ++ [(k : Int)] else telL r k
theorem telL_len (r : Rep) : ∀ k, (telL r k).length ≤ k
 | 0 => by simp [telL]
 | k + 1 => by have := telL_len r k; rw [telL]; split <;> simp <;> omega
def cntD (r : Rep) : Nat → Int
 | 0 => 1
 | k + 1 => cntD r k + (if (k : Int) ≠ r.id ∧ (r.doers.getD k dr0).1 = true then 1 else 0)
theorem cntD_in (r : Rep) : ∀ k, 1 ≤ cntD r k ∧ cntD r k ≤ (k : Int) + 1
 | 0 => by simp [cntD]
 | k + 1 => by have := cntD_in r k; rw [cntD]; split <;> omega
theorem tel_cnt {r : Rep} (hn : r.normal = false) : ∀ k : Nat, ((telL r k).length : Int) + (if 0 ≤ r.id ∧ r.id < k then 0 else 1) = cntD r k ∨ r.id < 0
 | 0 => by
  by_cases h : r.id < 0
  ·exact Or.inr h
  ·left; rw [if_neg (by omega)]; simp [telL, cntD]
 | k + 1 => by
  rcases tel_cnt hn k with ih | ih
  ·by_cases h : r.id < 0
   ·exact Or.inr h
   left
   rw [cntD, ← ih, telL]
   by_cases e : (k : Int) = r.id
   ·rw [if_pos (show telB r k from Or.inl e), if_neg (show ¬ ((k : Int) ≠ r.id ∧ (r.doers.getD k dr0).1 = true) from fun z => z.1 e), List.length_append, if_pos (by omega), if_neg (by omega)]; simp
   ·by_cases q : (r.doers.getD k dr0).1 = true
    ·rw [if_pos (show telB r k from Or.inr ⟨hn, q⟩), if_pos (show (k : Int) ≠ r.id ∧ _ from ⟨e, q⟩), List.length_append]
     by_cases z : 0 ≤ r.id ∧ r.id < (k : Int)
     ·rw [if_pos z, if_pos (by omega)]; simp
     ·rw [if_neg z, if_neg (by omega)]; simp
    ·rw [if_neg (show ¬ telB r k from fun z => z.elim e fun z => q z.2), if_neg (show ¬ ((k : Int) ≠ r.id ∧ (r.doers.getD k dr0).1 = true) from fun z => q z.2)]
     by_cases z : 0 ≤ r.id ∧ r.id < (k : Int)
     ·rw [if_pos z, if_pos (by omega)]; simp
     ·rw [if_neg z, if_neg (by omega)]; simp
  ·exact Or.inr ih
theorem tel_norm {r : Rep} (hn : r.normal = true) : ∀ k : Nat, (telL r k).length = if 0 ≤ r.id ∧ r.id < k then 1 else 0
 | 0 => by rw [if_neg (by omega)]; rfl
 | k + 1 => by
  have ih := tel_norm hn k
  rw [telL]
  by_cases e : (k : Int) = r.id
  ·rw [if_pos (show telB r k from Or.inl e), List.length_append, ih, if_neg (by omega), if_pos (by omega)]; rfl
  ·rw [if_neg (show ¬ telB r k from fun z => z.elim e fun z => by rw [hn] at z; cases z.1), ih]
   by_cases z : 0 ≤ r.id ∧ r.id < (k : Int)
   ·rw [if_pos z, if_pos (by omega)]
   ·rw [if_neg z, if_neg (by omega)]
theorem tell_count {r : Rep} (hid : 0 ≤ r.id ∧ r.id ≤ r.size - 1) (hd : (r.doers.length : Int) = if r.normal = true then 0 else r.size) : ((telL r r.size.toNat).length : Int) = cntD r r.doers.length := by
 by_cases hn : r.normal = true
 ·rw [if_pos hn] at hd
  rw [tel_norm hn, if_pos (by omega), show r.doers.length = 0 by omega]; rfl
 ·rw [if_neg hn] at hd
  have hn' : r.normal = false := by simpa using hn
  rw [show r.doers.length = r.size.toNat by omega]
  rcases tel_cnt hn' r.size.toNat with q | q
  ·rw [if_pos (by omega)] at q; omega
  ·omega
theorem tellers_is {own : Bool} {lo hi : Nat} (r : Rep) (h : RH) (s : Hd) (b0 : Nat) (w : World) (X0 : Bx w b0 [.int .i64 r.id, .int .i64 r.size, .int .i64 r.view, .bool r.normal, .int .i64 r.last, .slice h.L.1 h.L.2.1 h.L.2.2, .int .i64 r.commit, .slice h.O.1 h.O.2.1 h.O.2.2, .slice h.A.1 h.A.2.1 h.A.2.2, .slice h.D.1 h.D.2.1 h.D.2.2, .slice s.1 s.2.1 s.2.2]) (D : DoersAt w own lo hi h.D.1 h.D.2.1 h.D.2.2 h.K r.doers) (m i : Nat) (hm : r.size = m) (hi : r.id = i) (hm5 : m ≤ 5) (hl : r.normal = false → h.D.2.1 = m) :
  Calls Try.prog 24 #[.pointer (some ⟨b0, 0, none⟩)] w fun e w' => CloR w w' e 1 (telL r m).length (ints (telL r m)) := by
 have HTB : Hid (∀ k, telB r k ↔ ((k : Int) = i ∨ r.normal = false ∧ (r.doers.getD k dr0).1 = true)) := fun k => by unfold telB; rw [hi]
 rw [hm, hi] at X0
 clear hm hi
 obtain ⟨nm, hnm⟩ : ∃ nm, r.normal = nm := ⟨_, rfl⟩
 rw [hnm] at X0 HTB hl
 have HL : Hid _ := hl
 clear hnm hl
 have c0 := X0.cell
 go_enter Try.func24, Try.ntmps24
 go_wp2
 go_loopw [3, 4, 10] (fun v _ iv wr => ∃ k : Nat, k ≤ m ∧ iv = .int .i64 k ∧ GrowAt 1 wr w.heap.size 2 v (telL r k).length (intF (telL r k)) kd0 (fun _ => []) ∧ w.heap.size ≤ wr.heap.size ∧ Below w.heap.size w wr) (fun _ _ iv _ => m - (intOf iv).toNat)
 case atStart => exact ⟨0, Nat.zero_le _, rfl, GrowAt.nil _ _ _ _ _ _ _, Nat.le_refl _, Below.refl _ _⟩
 case round =>
  rename_i v _
  obtain ⟨k, hk, rfl, G, LZ, BL⟩ := hrel
  clear c0
  have XX := X0.low BL X0.lt
  have c0 := XX.cell
  by_cases hlt : k < m
  ·have hlk : (k : Int) < (m : Int) := by omega
   have HO : Hid (telL r (k + 1) = if telB r k then telL r k ++ [(k : Int)] else telL r k) := rfl
   have HG : Hid _ := G
   have HLZ : Hid _ := LZ
   have HBL : Hid _ := BL
   clear G
   have hll := telL_len r k
   by_cases q : (k : Int) = (i : Int)
   ·have q1 : ((k : Int) == (i : Int)) = true := by simp [q]
    have HQ : Hid _ := q
    clear q
    have HO2 : Hid (telL r (k + 1) = telL r k ++ [(k : Int)]) := by show _ = _; rw [HO.out, if_pos ((HTB.out k).2 (Or.inl HQ.out))]
    clear HO
    go_wp2_with (first | (at_builtin; refine Lib.wpList_append_run _ rfl _ _ _ _ rfl _ _ rfl rfl _ _ (hr _) ?_) | ((with_reducible refine lit_newX 25 1 _ [.int .i64 k] 2 (fun _ => by kernel_rfl)  ?_); intro bl W0 N0; have obl := N0.ge; have B := N0.below; have Xl := N0.bx; have cl := Xl.cell; clear N0; obtain ⟨v', w', hr, G2, BB⟩ := int_snoc HG.out B Xl HLZ.out (by omega); have HG2 : Hid _ := G2; clear G2) | fail)
    have BL2 : Hid (Below w.heap.size w w') := (BL.trans (B.mono LZ)).trans BB
    have LZ2 : Hid (w.heap.size ≤ w'.heap.size) := Nat.le_trans LZ (Nat.le_trans B.size BB.size)
    clear Xl cl B BB hr
    go_wp2
    go_roundw
    case rel => exact ⟨k + 1, by omega, by go_num, by rw [HO2.out]; exact HG2.out, LZ2.out, BL2.out⟩
    case measure => simp [intOf]; omega
   have q1 : ((k : Int) == (i : Int)) = false := by simp; omega
   have HQ : Hid _ := q
   clear q
   cases nm
   rotate_left 1
   ·have HO2 : Hid (telL r (k + 1) = telL r k) := by show _ = _; rw [HO.out, if_neg (fun z => ((HTB.out k).1 z).elim HQ.out fun z => by cases z.1)]
    clear HO
    go_wp2
    go_roundw
    case rel => exact ⟨k + 1, by omega, by go_num, by rw [HO2.out]; exact HG.out, HLZ.out, HBL.out⟩
    case measure => simp [intOf]; omega
   have hdm := HL.out rfl
   have hlq : (k : Int) < (h.D.2.1 : Int) := by omega
   obtain ⟨b, off, ed, _, _, _, e0, _⟩ := (D.below BL).doer (i := k) (by omega)
   rw [ed] at c0
   clear ed hdm
   obtain ⟨kn, hkn⟩ : ∃ kn, (r.doers.getD k dr0).1 = kn := ⟨_, rfl⟩
   rw [hkn] at e0
   have HK : Hid _ := hkn
   clear hkn
   cases kn
   ·have HO2 : Hid (telL r (k + 1) = telL r k) := by show _ = _; rw [HO.out, if_neg (fun z => ((HTB.out k).1 z).elim HQ.out fun z => by rw [HK.out] at z; cases z.2)]
    clear HO
    go_wp2
    go_roundw
    case rel => exact ⟨k + 1, by omega, by go_num, by rw [HO2.out]; exact HG.out, HLZ.out, HBL.out⟩
    case measure => simp [intOf]; omega
   ·have HO2 : Hid (telL r (k + 1) = telL r k ++ [(k : Int)]) := by show _ = _; rw [HO.out, if_pos ((HTB.out k).2 (Or.inr ⟨rfl, HK.out⟩))]
    clear HO
    go_wp2_with (first | (at_builtin; refine Lib.wpList_append_run _ rfl _ _ _ _ rfl _ _ rfl rfl _ _ (hr _) ?_) | ((with_reducible refine lit_newX 25 1 _ [.int .i64 k] 2 (fun _ => by kernel_rfl)  ?_); intro bl W0 N0; have obl := N0.ge; have B := N0.below; have Xl := N0.bx; have cl := Xl.cell; clear N0; obtain ⟨v', w', hr, G2, BB⟩ := int_snoc HG.out B Xl HLZ.out (by omega); have HG2 : Hid _ := G2; clear G2) | fail)
    have BL2 : Hid (Below w.heap.size w w') := (BL.trans (B.mono LZ)).trans BB
    have LZ2 : Hid (w.heap.size ≤ w'.heap.size) := Nat.le_trans LZ (Nat.le_trans B.size BB.size)
    clear Xl cl B BB hr
    go_wp2
    go_roundw
    case rel => exact ⟨k + 1, by omega, by go_num, by rw [HO2.out]; exact HG2.out, LZ2.out, BL2.out⟩
    case measure => simp [intOf]; omega
  ·obtain rfl : k = m := by omega
   obtain ⟨ao, cap, rfl, E⟩ := G.els
   have R := E.row
   rw [flat_ints] at R
   clear G E
   go_wp2
   go_ret
   exact ⟨ao, cap, _, _, rfl, Nat.le_refl _, BL.size, Nat.le_refl _, R, BL⟩
theorem l10Doers0_is {own : Bool} {lo hi : Nat} (r : Rep) (h : RH) (b0 : Nat) (w : World) (X0 : Bx w b0 [.int .i64 r.id, .int .i64 r.size, .int .i64 r.view, .bool r.normal, .int .i64 r.last, .slice h.L.1 h.L.2.1 h.L.2.2, .int .i64 r.commit, .slice h.O.1 h.O.2.1 h.O.2.2, .slice h.A.1 h.A.2.1 h.A.2.2, .slice h.D.1 h.D.2.1 h.D.2.2]) (D : DoersAt w own lo hi h.D.1 h.D.2.1 h.D.2.2 h.K r.doers) (hn : h.D.2.1 ≤ 1000) :
  Calls Try.prog 29 #[.pointer (some ⟨b0, 0, none⟩)] w fun e w' => e = .returned (.int .i64 (cntD r h.D.2.1)) ∧ w' = w := by
 have c0 := X0.cell
 clear X0
 go_enter Try.func29, Try.ntmps29
 go_wp2
 go_loopw [3, 4] (fun kv iv wr => ∃ k : Nat, k ≤ h.D.2.1 ∧ iv = .int .i64 k ∧ kv = .int .i64 (cntD r k) ∧ w = wr) (fun _ iv _ => h.D.2.1 - (intOf iv).toNat)
 case atStart => exact ⟨0, Nat.zero_le _, rfl, rfl, rfl⟩
 case round =>
  obtain ⟨k, hk, rfl, rfl, rfl⟩ := hrel
  have hb := cntD_in r k
  by_cases hlt : k < h.D.2.1
  ·have hlk : (k : Int) < (h.D.2.1 : Int) := by omega
   have HS : Hid (cntD r (k + 1) = cntD r k + (if (k : Int) ≠ r.id ∧ (r.doers.getD k dr0).1 = true then 1 else 0)) := rfl
   obtain ⟨b, off, ed, _, _, _, e0, _⟩ := D.doer hlt
   rw [ed] at c0
   clear ed
   obtain ⟨kn, hkn⟩ : ∃ kn, (r.doers.getD k dr0).1 = kn := ⟨_, rfl⟩
   rw [hkn] at e0 HS
   clear hkn
   generalize cntD r k = cc at *
   have wc : IntKind.i64.wrap (cc + 1) = cc + 1 := wrapI_same _ (by omega)
   by_cases q1 : (k : Int) = r.id
   ·have q1' : ((k : Int) != r.id) = false := by simp [q1]
    have HT : Hid _ := HS.out
    rw [if_neg (fun z => z.1 q1), Int.add_zero] at HT
    clear q1 HS
    go_wp2
    go_roundw
    case rel => exact ⟨k + 1, by omega, by go_num, by rw [HT.out], by first | rfl | trivial⟩
    case measure => simp [intOf]; omega
   have q1' : ((k : Int) != r.id) = true := by simp [q1]
   cases kn
   ·have HT : Hid _ := HS.out
    rw [if_neg (fun z => by cases z.2), Int.add_zero] at HT
    clear q1 HS
    go_wp2
    go_roundw
    case rel => exact ⟨k + 1, by omega, by go_num, by rw [HT.out], by first | rfl | trivial⟩
    case measure => simp [intOf]; omega
   ·have HT : Hid _ := HS.out
    rw [if_pos ⟨q1, rfl⟩] at HT
    clear q1 HS
    go_wp2
    go_roundw
    case rel => exact ⟨k + 1, by omega, by go_num, by rw [HT.out], by first | rfl | trivial⟩
    case measure => simp [intOf]; omega
  ·obtain rfl : k = h.D.2.1 := by omega
   go_wp2
   go_ret
   exact ⟨rfl, rfl⟩
def cdsV (r : Rep) : Int := if repF r = 0 then cntD r r.doers.length else 0
theorem implCDs_is {own : Bool} {lo hi : Nat} (r : Rep) (h : RH) (w : World) (x : RepAt w own lo hi h r) (hz : RSz h 1048576) (c v : Int) (hc : repF r = c) (hv : cdsV r = v) : Calls Try.prog 8 #[.agg #[.int .i64 r.id, .int .i64 r.size, .int .i64 r.view, .bool r.normal, .int .i64 r.last, .slice h.L.1 h.L.2.1 h.L.2.2, .int .i64 r.commit, .slice h.O.1 h.O.2.1 h.O.2.2, .slice h.A.1 h.A.2.1 h.A.2.2, .slice h.D.1 h.D.2.1 h.D.2.2]] w fun e w' => e = .returned (.agg #[.int .i64 c, .int .i64 v]) ∧ Below w.heap.size w w' := by
 unfold cdsV at hv
 rw [hc] at hv
 have HC : Hid _ := hc
 clear hc
 go_enter Try.func8, Try.ntmps8
 go_wp2_with (first | ((have g := ob0); clear g; (with_reducible refine al 32 [.int .i64 0, .int .i64 0] ?_); intro b1 W1 N1; have ob1 := N1.o B; have o0_b1 := N1.u X0; replace X0 := N1.r X0; replace c0 := X0.cell; replace B := N1.n B; obtain ⟨X1, c1, f1⟩ := N1.a; clear N1) | ((with_reducible refine box_newX 29 [.int .i64 r.id, .int .i64 r.size, .int .i64 r.view, .bool r.normal, .int .i64 r.last, .slice h.L.1 h.L.2.1 h.L.2.2, .int .i64 r.commit, .slice h.O.1 h.O.2.1 h.O.2.2, .slice h.A.1 h.A.2.1 h.A.2.2, .slice h.D.1 h.D.2.1 h.D.2.2] rfl ?_); intro b0 W0 N0; have ob0 := N0.ge; have B := N0.below; obtain ⟨X0, c0⟩ := N0.c; clear N0) | fail)
 refine (implRF_is r h _ (x.below B) (hz.mono (by omega)) c HC.out).mono ?_
 rintro e w1 ⟨rfl, BB⟩
 replace X0 := X0.below BB
 replace c0 := X0.cell
 replace X1 := X1.below BB
 replace c1 := X1.cell
 replace f1 := X1.froz
 replace B := below_next B BB
 clear BB
 by_cases h0 : c = 0
 rotate_left 1
 ·rw [if_neg h0] at hv
  subst hv
  have h0' : (c != 0) = true := by simp [h0]
  go_wp2_with (first | ((with_reducible refine sm 32 X1 0 [.int .i64 c, .int .i64 0] ?_); intro V1 S; replace X0 := X0.kp S.kept; replace c0 := X0.cell; replace X1 : Bx V1 b1 [.int .i64 c, .int .i64 0] := S.bx; replace c1 := X1.cell; replace f1 := X1.froz; replace B := bkp B S.kept; clear S))
  refine bodyPost_ret (v := .agg #[.int .i64 c, .int .i64 0]) (by simp [results, Try.results8, go_sem, *]) rfl ⟨rfl, B⟩
 subst h0
 rw [if_pos rfl] at hv
 obtain ⟨N, -, -, SP, -⟩ := rep_ok HC.out
 have SD := SP.2.2
 have TC := tell_count N.2.1 SD
 have N1 := N.1
 have N2 := N.2.1
 have hdl := x.doers.len
 obtain ⟨m, hm⟩ : ∃ m : Nat, r.size = m := ⟨r.size.toNat, by omega⟩
 obtain ⟨i, hi0⟩ : ∃ i : Nat, r.id = i := ⟨r.id.toNat, by omega⟩
 have HE : Hid (((telL r m).length : Int) = v) := by show _ = _; rw [← hv, ← TC, hm]; rfl
 have HL : Hid (r.normal = false → r.doers.length = m) := fun q => by rw [q, if_neg (by decide)] at SD; omega
 have hm5 : m ≤ 5 := by omega
 have HM : Hid _ := hm
 have HI : Hid _ := hi0
 clear SP SD TC N N1 N2 hv hm hi0
 go_wp2_with fail
 have lb := X1.lt
 refine (nodeOf_z r h _ (x.below B) hz).mono ?_
 rintro e w2 ⟨bq, z, u, h', rfl, Gz, uq, Gq, XQ, R, HZ, BB⟩
 have o1_q := ltl lb Gq
 clear Gz Gq
 replace X0 := X0.below BB
 replace c0 := X0.cell
 replace X1 := X1.below BB
 replace c1 := X1.cell
 replace f1 := X1.froz
 replace B := below_next B BB
 clear BB
 go_wp2_with fail
 refine (tellers_is r h' (none, 0, 0) bq _ XQ R.doers m i HM.out HI.out hm5 (fun q => by rw [← R.doers.len]; exact HL.out q)).mono ?_
 rintro e w3 ⟨ra, rc, zz, ue, rfl, -, -, -, -, BB⟩
 replace X0 := X0.below BB
 replace c0 := X0.cell
 replace X1 := X1.below BB
 replace c1 := X1.cell
 replace f1 := X1.froz
 replace B := below_next B BB
 clear BB
 generalize (telL r m).length = tn at *
 have E := HE.out
 subst E
 clear HE
 go_wp2_with (first | ((with_reducible refine sm 32 X1 0 [.int .i64 0, .int .i64 tn] ?_); intro V1 S; replace X0 := X0.kp S.kept; replace c0 := X0.cell; replace X1 : Bx V1 b1 [.int .i64 0, .int .i64 tn] := S.bx; replace c1 := X1.cell; replace f1 := X1.froz; replace B := bkp B S.kept; clear S))
 refine bodyPost_ret (v := .agg #[.int .i64 0, .int .i64 tn]) (by simp [results, Try.results8, go_sem, *]) rfl ⟨rfl, B⟩
theorem specCDs_is {own : Bool} {lo hi : Nat} (r : Rep) (h : RH) (w : World) (x : RepAt w own lo hi h r) (hz : RSz h 1048576) (c v : Int) (hc : repF r = c) (hv : cdsV r = v) : Calls Try.prog 11 #[.agg #[.int .i64 r.id, .int .i64 r.size, .int .i64 r.view, .bool r.normal, .int .i64 r.last, .slice h.L.1 h.L.2.1 h.L.2.2, .int .i64 r.commit, .slice h.O.1 h.O.2.1 h.O.2.2, .slice h.A.1 h.A.2.1 h.A.2.2, .slice h.D.1 h.D.2.1 h.D.2.2]] w fun e w' => e = .returned (.agg #[.int .i64 c, .int .i64 v]) ∧ Below w.heap.size w w' := by
 unfold cdsV at hv
 rw [hc] at hv
 have HC : Hid _ := hc
 clear hc
 go_enter Try.func11, Try.ntmps11
 go_wp2_with (first | ((have g := ob0); clear g; (with_reducible refine al 32 [.int .i64 0, .int .i64 0] ?_); intro b1 W1 N1; have ob1 := N1.o B; have o0_b1 := N1.u X0; replace X0 := N1.r X0; replace c0 := X0.cell; replace B := N1.n B; obtain ⟨X1, c1, f1⟩ := N1.a; clear N1) | ((with_reducible refine box_newX 29 [.int .i64 r.id, .int .i64 r.size, .int .i64 r.view, .bool r.normal, .int .i64 r.last, .slice h.L.1 h.L.2.1 h.L.2.2, .int .i64 r.commit, .slice h.O.1 h.O.2.1 h.O.2.2, .slice h.A.1 h.A.2.1 h.A.2.2, .slice h.D.1 h.D.2.1 h.D.2.2] rfl ?_); intro b0 W0 N0; have ob0 := N0.ge; have B := N0.below; obtain ⟨X0, c0⟩ := N0.c; clear N0) | fail)
 refine (l9Fault_is b0 r h _ X0 (x.below B) (hz.mono (by omega)) c HC.out).mono ?_
 rintro e w1 ⟨rfl, BB⟩
 replace X0 := X0.below BB
 replace c0 := X0.cell
 replace X1 := X1.below BB
 replace c1 := X1.cell
 replace f1 := X1.froz
 replace B := below_next B BB
 clear BB
 by_cases h0 : c = 0
 rotate_left 1
 ·rw [if_neg h0] at hv
  subst hv
  have h0' : (c != 0) = true := by simp [h0]
  go_wp2_with (first | ((with_reducible refine sm 32 X1 0 [.int .i64 c, .int .i64 0] ?_); intro V1 S; replace X0 := X0.kp S.kept; replace c0 := X0.cell; replace X1 : Bx V1 b1 [.int .i64 c, .int .i64 0] := S.bx; replace c1 := X1.cell; replace f1 := X1.froz; replace B := bkp B S.kept; clear S))
  refine bodyPost_ret (v := .agg #[.int .i64 c, .int .i64 0]) (by simp [results, Try.results11, go_sem, *]) rfl ⟨rfl, B⟩
 subst h0
 rw [if_pos rfl] at hv
 obtain ⟨N, -, -, SP, -⟩ := rep_ok HC.out
 have SD := SP.2.2
 have N1 := N.1
 have hdl := x.doers.len
 have hD5 : h.D.2.1 ≤ 1000 := by rw [← hdl]; split at SD <;> omega
 rw [hdl] at hv
 clear SP SD N N1
 go_wp2_with fail
 refine (l10Doers0_is r h b0 _ X0 (x.below B).doers hD5).mono ?_
 rintro e W9 ⟨rfl, rfl⟩
 subst hv
 go_wp2_with (first | ((with_reducible refine sm 32 X1 0 [.int .i64 0, .int .i64 (cntD r h.D.2.1)] ?_); intro V1 S; replace X0 := X0.kp S.kept; replace c0 := X0.cell; replace X1 : Bx V1 b1 [.int .i64 0, .int .i64 (cntD r h.D.2.1)] := S.bx; replace c1 := X1.cell; replace f1 := X1.froz; replace B := bkp B S.kept; clear S))
 refine bodyPost_ret (v := .agg #[.int .i64 0, .int .i64 (cntD r h.D.2.1)]) (by simp [results, Try.results11, go_sem, *]) rfl ⟨rfl, B⟩
end Go.Proofs.Ytjefmhjlaibbkaa
