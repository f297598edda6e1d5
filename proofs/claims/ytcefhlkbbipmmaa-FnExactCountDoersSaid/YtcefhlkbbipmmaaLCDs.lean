/- At every replica the program's CountDoers answers as its model does and writes into no argument: the law FnExactCountDoers is true at every argument, with no condition. -/
import Derived.Test.YtcefhlkbbipmmaaBase
import Derived.Test.YtcefhlkbbipmmaaZT
import Derived.Test.YtcefhlkbbipmmaaCopy
import Derived.Test.YtcefhlkbbipmmaaMark
import Derived.Test.YtcefhlkbbipmmaaEq
import Derived.Test.YtcefhlkbbipmmaaMark2
import Derived.Test.YtcefhlkbbipmmaaBC
import Derived.Test.YtcefhlkbbipmmaaSm
import Derived.Test.YtcefhlkbbipmmaaFault
import Derived.Test.YtcefhlkbbipmmaaArr
import Derived.Test.YtcefhlkbbipmmaaFlush
import Derived.Test.YtcefhlkbbipmmaaSpec1
import Derived.Test.YtcefhlkbbipmmaaSFlush
import Derived.Test.YtcefhlkbbipmmaaAll
import Derived.Test.YtcefhlkbbipmmaaPutS
import Derived.Test.YtcefhlkbbipmmaaFacts
import Derived.Test.YtcefhlkbbipmmaaZM
import Derived.Test.YtcefhlkbbipmmaaYE
import Derived.Test.YtcefhlkbbipmmaaZY
import Derived.Test.YtcefhlkbbipmmaaP1
import Derived.Test.YtcefhlkbbipmmaaP2
import Derived.Test.YtcefhlkbbipmmaaP4
import Derived.Test.YtcefhlkbbipmmaaP3
import Derived.Test.YtcefhlkbbipmmaaQ0
import Derived.Test.YtcefhlkbbipmmaaZU
import Derived.Test.YtcefhlkbbipmmaaT8
import Derived.Test.YtcefhlkbbipmmaaZW
import Derived.Test.YtcefhlkbbipmmaaZX
import Derived.Test.YtcefhlkbbipmmaaZZ
import Derived.Test.YtcefhlkbbipmmaaZQ
import Derived.Test.YtcefhlkbbipmmaaZV
import Derived.Test.YtcefhlkbbipmmaaYP
import Derived.Test.YtcefhlkbbipmmaaO1b
import Derived.Test.YtcefhlkbbipmmaaO1
import Derived.Test.YtcefhlkbbipmmaaXA
import Derived.Test.YtcefhlkbbipmmaaZR
import Derived.Test.YtcefhlkbbipmmaaBools
import Derived.Test.YtcefhlkbbipmmaaWA
import Derived.Test.YtcefhlkbbipmmaaWB
import Derived.Test.YtcefhlkbbipmmaaWH
import Derived.Test.YtcefhlkbbipmmaaWL
import Derived.Test.YtcefhlkbbipmmaaWK
import Derived.Test.YtcefhlkbbipmmaaWQ
import Derived.Test.YtcefhlkbbipmmaaXH
import Derived.Test.YtcefhlkbbipmmaaWC
import Derived.Test.YtcefhlkbbipmmaaI5a
import Derived.Test.YtcefhlkbbipmmaaI5s
import Derived.Test.YtcefhlkbbipmmaaWN
import Derived.Test.YtcefhlkbbipmmaaWF
import Derived.Test.YtcefhlkbbipmmaaWR
import Derived.Test.YtcefhlkbbipmmaaWS
import Derived.Test.YtcefhlkbbipmmaaXB
import Derived.Test.YtcefhlkbbipmmaaWG
import Derived.Test.YtcefhlkbbipmmaaLTo
import Derived.WalkKit
import Derived.WalkSpells
import Derived.Deep.Draws
import Derived.Deep.MidRow
import Derived.Test.YtcefhlkbbipmmaaChecked
import Derived.WalkLawsBesides
import Derived.Deep.QuietTactic
import Derived.BigQuiet
import Derived.Deep.RegionHeld3
import Derived.Deep.WholeRow
import Derived.Deep.AppendSrc
import Derived.Maps.AppendAt
import Derived.Laws.CopyRow
import Derived.Lib.SliceRun
import Derived.Lib.Overlaps
import Derived.Lib.AppendZeros
import Derived.Laws.Externs
import Derived.Deep.AppendLies
import Derived.Deep.RegionLaw
import Derived.Laws.ComplexArith
import Derived.Laws.Tables
import Derived.ProofKit
import Derived.OpenShut
import Derived.Lib.SmallJoins
import Derived.Deep.SlicePairs
import Derived.Test.YtcefhlkbbipmmaaRows
import Derived.Deep.DeepCutAuto
/- Chapter 10: how many ask, by the program and by the model. -/
namespace Go.Proofs.Ytcefhlkbbipmmaa
open Go.RowKit

end Go.Proofs.Ytcefhlkbbipmmaa

/- Chapter 10: who told of itself, and how many, by the program and by the model. -/
namespace Go.Proofs.Ytcefhlkbbipmmaa
open Go.RowKit

/-- does the one of that Id tell: itself, or a Known one where it is not normal -/
def telB (r : Rep) (k : Nat) : Prop := (k : Int) = r.id ∨ r.normal = false ∧ (r.doers.getD k dr0).1 = true
instance (r : Rep) (k : Nat) : Decidable (telB r k) := inferInstanceAs (Decidable (_ ∨ _))
def telL (r : Rep) : Nat → List Int
  | 0 => []
  | k + 1 => if telB r k then telL r k ++ [(k : Int)] else telL r k
theorem telL_len (r : Rep) : ∀ k, (telL r k).length ≤ k
  | 0 => by simp [telL]
  | k + 1 => by have := telL_len r k; rw [telL]; split <;> simp <;> omega
def cntD (r : Rep) : Nat → Int
  | 0 => 1
  | k + 1 => cntD r k + (if (k : Int) ≠ r.id ∧ (r.doers.getD k dr0).1 = true then 1 else 0)
theorem cntD_in (r : Rep) : ∀ k, 1 ≤ cntD r k ∧ cntD r k ≤ (k : Int) + 1
  | 0 => by simp [cntD]
  | k + 1 => by have := cntD_in r k; rw [cntD]; split <;> omega
theorem tel_cnt {r : Rep} (hn : r.normal = false) : ∀ k : Nat, ((telL r k).length : Int) + (if 0 ≤ r.id ∧ r.id < k then 0 else 1) = cntD r k ∨ r.id < 0
  | 0 => by
    by_cases h : r.id < 0
    · exact Or.inr h
    · left; rw [if_neg (by omega)]; simp [telL, cntD]
  | k + 1 => by
    rcases tel_cnt hn k with ih | ih
    · by_cases h : r.id < 0
      · exact Or.inr h
      left
      rw [cntD, ← ih, telL]
      by_cases e : (k : Int) = r.id
      · rw [if_pos (show telB r k from Or.inl e), if_neg (show ¬ ((k : Int) ≠ r.id ∧ (r.doers.getD k dr0).1 = true) from fun z => z.1 e), List.length_append, if_pos (by omega), if_neg (by omega)]; simp
      · by_cases q : (r.doers.getD k dr0).1 = true
        · rw [if_pos (show telB r k from Or.inr ⟨hn, q⟩), if_pos (show (k : Int) ≠ r.id ∧ _ from ⟨e, q⟩), List.length_append]
          by_cases z : 0 ≤ r.id ∧ r.id < (k : Int)
          · rw [if_pos z, if_pos (by omega)]; simp
          · rw [if_neg z, if_neg (by omega)]; simp
        · rw [if_neg (show ¬ telB r k from fun z => z.elim e fun z => q z.2), if_neg (show ¬ ((k : Int) ≠ r.id ∧ (r.doers.getD k dr0).1 = true) from fun z => q z.2)]
          by_cases z : 0 ≤ r.id ∧ r.id < (k : Int)
          · rw [if_pos z, if_pos (by omega)]; simp
          · rw [if_neg z, if_neg (by omega)]; simp
    · exact Or.inr ih
theorem tel_norm {r : Rep} (hn : r.normal = true) : ∀ k : Nat, (telL r k).length = if 0 ≤ r.id ∧ r.id < k then 1 else 0
  | 0 => by rw [if_neg (by omega)]; rfl
  | k + 1 => by
    have ih := tel_norm hn k
    rw [telL]
    by_cases e : (k : Int) = r.id
    · rw [if_pos (show telB r k from Or.inl e), List.length_append, ih, if_neg (by omega), if_pos (by omega)]; rfl
    · rw [if_neg (show ¬ telB r k from fun z => z.elim e fun z => by rw [hn] at z; cases z.1), ih]
      by_cases z : 0 ≤ r.id ∧ r.id < (k : Int)
      · rw [if_pos z, if_pos (by omega)]
      · rw [if_neg z, if_neg (by omega)]
/-- how many tell, counted both ways -/
theorem tell_count {r : Rep} (hid : 0 ≤ r.id ∧ r.id ≤ r.size - 1) (hd : (r.doers.length : Int) = if r.normal = true then 0 else r.size) : ((telL r r.size.toNat).length : Int) = cntD r r.doers.length := by
  by_cases hn : r.normal = true
  · rw [if_pos hn] at hd
    rw [tel_norm hn, if_pos (by omega), show r.doers.length = 0 by omega]; rfl
  · rw [if_neg hn] at hd
    have hn' : r.normal = false := by simpa using hn
    rw [show r.doers.length = r.size.toNat by omega]
    rcases tel_cnt hn' r.size.toNat with q | q
    · rw [if_pos (by omega)] at q; omega
    · omega
set_option maxRecDepth 20000 in
set_option maxHeartbeats 2000000 in
theorem tellers_is {own : Bool} {lo hi : Nat} (r : Rep) (h : RH) (s : Hd) (b0 : Nat) (w : World) (X0 : Bx w b0 [.int .i64 r.id, .int .i64 r.size, .int .i64 r.view, .bool r.normal, .int .i64 r.last, .slice h.L.1 h.L.2.1 h.L.2.2, .int .i64 r.commit, .slice h.O.1 h.O.2.1 h.O.2.2, .slice h.A.1 h.A.2.1 h.A.2.2, .slice h.D.1 h.D.2.1 h.D.2.2, .slice s.1 s.2.1 s.2.2]) (D : DoersAt w own lo hi h.D.1 h.D.2.1 h.D.2.2 h.K r.doers) (m i : Nat) (hm : r.size = m) (hi : r.id = i) (hm5 : m ≤ 5) (hl : r.normal = false → h.D.2.1 = m) :
    Calls Try.prog 70 #[.pointer (some ⟨b0, 0, none⟩)] w fun e w' => CloR w w' e 1 (telL r m).length (ints (telL r m)) := by
  have HTB : Hid (∀ k, telB r k ↔ ((k : Int) = i ∨ r.normal = false ∧ (r.doers.getD k dr0).1 = true)) := fun k => by unfold telB; rw [hi]
  rw [hm, hi] at X0
  clear hm hi
  obtain ⟨nm, hnm⟩ : ∃ nm, r.normal = nm := ⟨_, rfl⟩
  rw [hnm] at X0 HTB hl
  have HL : Hid _ := hl
  clear hnm hl
  have c0 := X0.cell
  go_enter Try.func70, Try.ntmps70
  go_wp2
  go_loopw [3, 4, 10] (fun v _ iv wr => ∃ k : Nat, k ≤ m ∧ iv = .int .i64 k ∧ GrowAt 1 wr w.heap.size 2 v (telL r k).length (intF (telL r k)) kd0 (fun _ => []) ∧ w.heap.size ≤ wr.heap.size ∧ Below w.heap.size w wr) (fun _ _ iv _ => m - (intOf iv).toNat)
  case atStart => exact ⟨0, Nat.zero_le _, rfl, GrowAt.nil _ _ _ _ _ _ _, Nat.le_refl _, Below.refl _ _⟩
  case round =>
    rename_i v _
    obtain ⟨k, hk, rfl, G, LZ, BL⟩ := hrel
    clear c0
    have XX := X0.low BL X0.lt
    have c0 := XX.cell
    by_cases hlt : k < m
    · have hlk : (k : Int) < (m : Int) := by omega
      have HO : Hid (telL r (k + 1) = if telB r k then telL r k ++ [(k : Int)] else telL r k) := rfl
      have HG : Hid _ := G
      have HLZ : Hid _ := LZ
      have HBL : Hid _ := BL
      clear G
      have hll := telL_len r k
      by_cases q : (k : Int) = (i : Int)
      · have q1 : ((k : Int) == (i : Int)) = true := by simp [q]
        have HQ : Hid _ := q
        clear q
        have HO2 : Hid (telL r (k + 1) = telL r k ++ [(k : Int)]) := by show _ = _; rw [HO.out, if_pos ((HTB.out k).2 (Or.inl HQ.out))]
        clear HO
        go_wp2_with (first | (at_builtin; refine Lib.wpList_append_run _ rfl _ _ _ _ rfl _ _ rfl rfl _ _ (hr _) ?_) | ((with_reducible refine lit_newX 25 1 _ [.int .i64 k] 2 (fun _ => by kernel_rfl)  ?_); intro bl W0 N0; have obl : wr.heap.size ≤ bl := N0.ge; have B := N0.below; have Xl := N0.bx; have cl := Xl.cell; clear N0; obtain ⟨v', w', hr, G2, BB⟩ := int_snoc HG.out B Xl HLZ.out (by omega); have HG2 : Hid _ := G2; clear G2) | fail)
        have BL2 : Hid (Below w.heap.size w w') := (BL.trans (B.mono LZ)).trans BB
        have LZ2 : Hid (w.heap.size ≤ w'.heap.size) := Nat.le_trans LZ (Nat.le_trans B.size BB.size)
        clear Xl cl B BB hr
        go_wp2
        go_roundw
        case rel => exact ⟨k + 1, by omega, by go_num, by rw [HO2.out]; exact HG2.out, LZ2.out, BL2.out⟩
        case measure => simp [intOf]; omega
      have q1 : ((k : Int) == (i : Int)) = false := by simp; omega
      have HQ : Hid _ := q
      clear q
      cases nm
      rotate_left 1
      · have HO2 : Hid (telL r (k + 1) = telL r k) := by show _ = _; rw [HO.out, if_neg (fun z => ((HTB.out k).1 z).elim HQ.out fun z => by cases z.1)]
        clear HO
        go_wp2
        go_roundw
        case rel => exact ⟨k + 1, by omega, by go_num, by rw [HO2.out]; exact HG.out, HLZ.out, HBL.out⟩
        case measure => simp [intOf]; omega
      have hdm := HL.out rfl
      have hlq : (k : Int) < (h.D.2.1 : Int) := by omega
      obtain ⟨b, off, ed, _, _, _, e0, _⟩ := (D.below BL).doer (i := k) (by omega)
      rw [ed] at c0
      clear ed hdm
      obtain ⟨kn, hkn⟩ : ∃ kn, (r.doers.getD k dr0).1 = kn := ⟨_, rfl⟩
      rw [hkn] at e0
      have HK : Hid _ := hkn
      clear hkn
      cases kn
      · have HO2 : Hid (telL r (k + 1) = telL r k) := by show _ = _; rw [HO.out, if_neg (fun z => ((HTB.out k).1 z).elim HQ.out fun z => by rw [HK.out] at z; cases z.2)]
        clear HO
        go_wp2
        go_roundw
        case rel => exact ⟨k + 1, by omega, by go_num, by rw [HO2.out]; exact HG.out, HLZ.out, HBL.out⟩
        case measure => simp [intOf]; omega
      · have HO2 : Hid (telL r (k + 1) = telL r k ++ [(k : Int)]) := by show _ = _; rw [HO.out, if_pos ((HTB.out k).2 (Or.inr ⟨rfl, HK.out⟩))]
        clear HO
        go_wp2_with (first | (at_builtin; refine Lib.wpList_append_run _ rfl _ _ _ _ rfl _ _ rfl rfl _ _ (hr _) ?_) | ((with_reducible refine lit_newX 25 1 _ [.int .i64 k] 2 (fun _ => by kernel_rfl)  ?_); intro bl W0 N0; have obl : wr.heap.size ≤ bl := N0.ge; have B := N0.below; have Xl := N0.bx; have cl := Xl.cell; clear N0; obtain ⟨v', w', hr, G2, BB⟩ := int_snoc HG.out B Xl HLZ.out (by omega); have HG2 : Hid _ := G2; clear G2) | fail)
        have BL2 : Hid (Below w.heap.size w w') := (BL.trans (B.mono LZ)).trans BB
        have LZ2 : Hid (w.heap.size ≤ w'.heap.size) := Nat.le_trans LZ (Nat.le_trans B.size BB.size)
        clear Xl cl B BB hr
        go_wp2
        go_roundw
        case rel => exact ⟨k + 1, by omega, by go_num, by rw [HO2.out]; exact HG2.out, LZ2.out, BL2.out⟩
        case measure => simp [intOf]; omega
    · obtain rfl : k = m := by omega
      obtain ⟨ao, cap, rfl, E⟩ := G.els
      have R := E.row
      rw [flat_ints] at R
      clear G E
      go_wp2
      go_ret
      exact ⟨ao, cap, _, _, rfl, Nat.le_refl _, BL.size, Nat.le_refl _, R, BL⟩
set_option maxRecDepth 20000 in
set_option maxHeartbeats 2000000 in
theorem l10Doers0_is {own : Bool} {lo hi : Nat} (r : Rep) (h : RH) (b0 : Nat) (w : World) (X0 : Bx w b0 [.int .i64 r.id, .int .i64 r.size, .int .i64 r.view, .bool r.normal, .int .i64 r.last, .slice h.L.1 h.L.2.1 h.L.2.2, .int .i64 r.commit, .slice h.O.1 h.O.2.1 h.O.2.2, .slice h.A.1 h.A.2.1 h.A.2.2, .slice h.D.1 h.D.2.1 h.D.2.2]) (D : DoersAt w own lo hi h.D.1 h.D.2.1 h.D.2.2 h.K r.doers) (hn : h.D.2.1 ≤ 1000) :
    Calls Try.prog 75 #[.pointer (some ⟨b0, 0, none⟩)] w fun e w' => e = .returned (.int .i64 (cntD r h.D.2.1)) ∧ w' = w := by
  have c0 := X0.cell
  clear X0
  go_enter Try.func75, Try.ntmps75
  go_wp2
  go_loopw [3, 4] (fun kv iv wr => ∃ k : Nat, k ≤ h.D.2.1 ∧ iv = .int .i64 k ∧ kv = .int .i64 (cntD r k) ∧ w = wr) (fun _ iv _ => h.D.2.1 - (intOf iv).toNat)
  case atStart => exact ⟨0, Nat.zero_le _, rfl, rfl, rfl⟩
  case round =>
    obtain ⟨k, hk, rfl, rfl, rfl⟩ := hrel
    have hb := cntD_in r k
    by_cases hlt : k < h.D.2.1
    · have hlk : (k : Int) < (h.D.2.1 : Int) := by omega
      have HS : Hid (cntD r (k + 1) = cntD r k + (if (k : Int) ≠ r.id ∧ (r.doers.getD k dr0).1 = true then 1 else 0)) := rfl
      obtain ⟨b, off, ed, _, _, _, e0, _⟩ := D.doer hlt
      rw [ed] at c0
      clear ed
      obtain ⟨kn, hkn⟩ : ∃ kn, (r.doers.getD k dr0).1 = kn := ⟨_, rfl⟩
      rw [hkn] at e0 HS
      clear hkn
      generalize cntD r k = cc at *
      have wc : IntKind.i64.wrap (cc + 1) = cc + 1 := wrapI_same _ (by omega)
      by_cases q1 : (k : Int) = r.id
      · have q1' : ((k : Int) != r.id) = false := by simp [q1]
        have HT : Hid _ := HS.out
        rw [if_neg (fun z => z.1 q1), Int.add_zero] at HT
        clear q1 HS
        go_wp2
        go_roundw
        case rel => exact ⟨k + 1, by omega, by go_num, by rw [HT.out], by first | rfl | trivial⟩
        case measure => simp [intOf]; omega
      have q1' : ((k : Int) != r.id) = true := by simp [q1]
      cases kn
      · have HT : Hid _ := HS.out
        rw [if_neg (fun z => by cases z.2), Int.add_zero] at HT
        clear q1 HS
        go_wp2
        go_roundw
        case rel => exact ⟨k + 1, by omega, by go_num, by rw [HT.out], by first | rfl | trivial⟩
        case measure => simp [intOf]; omega
      · have HT : Hid _ := HS.out
        rw [if_pos ⟨q1, rfl⟩] at HT
        clear q1 HS
        go_wp2
        go_roundw
        case rel => exact ⟨k + 1, by omega, by go_num, by rw [HT.out], by first | rfl | trivial⟩
        case measure => simp [intOf]; omega
    · obtain rfl : k = h.D.2.1 := by omega
      go_wp2
      go_ret
      exact ⟨rfl, rfl⟩
def cdsV (r : Rep) : Int := if repF r = 0 then cntD r r.doers.length else 0
set_option maxRecDepth 20000 in
set_option maxHeartbeats 2000000 in
theorem implCDs_is {own : Bool} {lo hi : Nat} (r : Rep) (h : RH) (w : World) (x : RepAt w own lo hi h r) (hz : RSz h 1048576) (c v : Int) (hc : repF r = c) (hv : cdsV r = v) : Calls Try.prog 19 #[.agg #[.int .i64 r.id, .int .i64 r.size, .int .i64 r.view, .bool r.normal, .int .i64 r.last, .slice h.L.1 h.L.2.1 h.L.2.2, .int .i64 r.commit, .slice h.O.1 h.O.2.1 h.O.2.2, .slice h.A.1 h.A.2.1 h.A.2.2, .slice h.D.1 h.D.2.1 h.D.2.2]] w fun e w' => e = .returned (.agg #[.int .i64 c, .int .i64 v]) ∧ Below w.heap.size w w' := by
  unfold cdsV at hv
  rw [hc] at hv
  have HC : Hid _ := hc
  clear hc
  go_enter Try.func19, Try.ntmps19
  go_wp2_with (first | ((have g := ob0); clear g; (with_reducible refine alloc_newX 41 [.int .i64 0, .int .i64 0] (fun _ => by kernel_rfl) ?_); intro b1 W1 N1; have ob1 : w.heap.size ≤ b1 := Nat.le_trans B.size N1.ge; have o0_b1 : b0 < b1 := Nat.lt_of_lt_of_le X0.lt N1.ge; replace X0 := X0.below N1.below; replace c0 := X0.cell; replace B := below_next B N1.below; have X1 := N1.bx; have c1 := X1.cell; have f1 := X1.froz; clear N1) | ((with_reducible refine box_newX 29 [.int .i64 r.id, .int .i64 r.size, .int .i64 r.view, .bool r.normal, .int .i64 r.last, .slice h.L.1 h.L.2.1 h.L.2.2, .int .i64 r.commit, .slice h.O.1 h.O.2.1 h.O.2.2, .slice h.A.1 h.A.2.1 h.A.2.2, .slice h.D.1 h.D.2.1 h.D.2.2] rfl ?_); intro b0 W0 N0; have ob0 : w.heap.size ≤ b0 := N0.ge; have B := N0.below; have X0 := N0.bx; have c0 := X0.cell; clear N0) | fail)
  refine (implRF_is r h _ (x.below B) (hz.mono (by omega)) c HC.out).mono ?_
  rintro e w1 ⟨rfl, BB⟩
  replace X0 := X0.below BB
  replace c0 := X0.cell
  replace X1 := X1.below BB
  replace c1 := X1.cell
  replace f1 := X1.froz
  replace B := below_next B BB
  clear BB
  by_cases h0 : c = 0
  rotate_left 1
  · rw [if_neg h0] at hv
    subst hv
    have h0' : (c != 0) = true := by simp [h0]
    go_wp2_with (first | ((with_reducible refine store_midX 41 X1 0 [.int .i64 c, .int .i64 0] (by simp) (by kernel_rfl) (by simp [Value.oneCell']) rfl rfl ?_); intro V1 S; replace X0 := X0.kept S.kept (by omega); replace c0 := X0.cell; replace X1 : Bx V1 b1 [.int .i64 c, .int .i64 0] := S.bx; replace c1 := X1.cell; replace f1 := X1.froz; replace B := B.trans (S.kept.below _ (by omega) B.size); clear S))
    refine bodyPost_ret (v := .agg #[.int .i64 c, .int .i64 0]) (by simp [results, Try.results19, go_sem, *]) rfl ⟨rfl, B⟩
  subst h0
  rw [if_pos rfl] at hv
  obtain ⟨N, -, -, SP, -⟩ := rep_ok HC.out
  have SD := SP.2.2
  have TC := tell_count N.2.1 SD
  have N1 := N.1
  have N2 := N.2.1
  have hdl := x.doers.len
  obtain ⟨m, hm⟩ : ∃ m : Nat, r.size = m := ⟨r.size.toNat, by omega⟩
  obtain ⟨i, hi0⟩ : ∃ i : Nat, r.id = i := ⟨r.id.toNat, by omega⟩
  have HE : Hid (((telL r m).length : Int) = v) := by show _ = _; rw [← hv, ← TC, hm]; rfl
  have HL : Hid (r.normal = false → r.doers.length = m) := fun q => by rw [q, if_neg (by decide)] at SD; omega
  have hm5 : m ≤ 5 := by omega
  have HM : Hid _ := hm
  have HI : Hid _ := hi0
  clear SP SD TC N N1 N2 hv hm hi0
  go_wp2_with fail
  have lb := X1.lt
  refine (nodeOf_z r h _ (x.below B) hz).mono ?_
  rintro e w2 ⟨bq, z, u, h', rfl, Gz, uq, Gq, XQ, R, HZ, BB⟩
  have o1_q : b1 < bq := Nat.lt_of_lt_of_le lb Gq
  clear Gz Gq
  replace X0 := X0.below BB
  replace c0 := X0.cell
  replace X1 := X1.below BB
  replace c1 := X1.cell
  replace f1 := X1.froz
  replace B := below_next B BB
  clear BB
  go_wp2_with fail
  refine (tellers_is r h' (none, 0, 0) bq _ XQ R.doers m i HM.out HI.out hm5 (fun q => by rw [← R.doers.len]; exact HL.out q)).mono ?_
  rintro e w3 ⟨ra, rc, zz, ue, rfl, -, -, -, -, BB⟩
  replace X0 := X0.below BB
  replace c0 := X0.cell
  replace X1 := X1.below BB
  replace c1 := X1.cell
  replace f1 := X1.froz
  replace B := below_next B BB
  clear BB
  generalize (telL r m).length = tn at *
  have E := HE.out
  subst E
  clear HE
  go_wp2_with (first | ((with_reducible refine store_midX 41 X1 0 [.int .i64 0, .int .i64 tn] (by simp) (by kernel_rfl) (by simp [Value.oneCell']) rfl rfl ?_); intro V1 S; replace X0 := X0.kept S.kept (by omega); replace c0 := X0.cell; replace X1 : Bx V1 b1 [.int .i64 0, .int .i64 tn] := S.bx; replace c1 := X1.cell; replace f1 := X1.froz; replace B := B.trans (S.kept.below _ (by omega) B.size); clear S))
  refine bodyPost_ret (v := .agg #[.int .i64 0, .int .i64 tn]) (by simp [results, Try.results19, go_sem, *]) rfl ⟨rfl, B⟩
set_option maxRecDepth 20000 in
set_option maxHeartbeats 2000000 in
theorem specCDs_is {own : Bool} {lo hi : Nat} (r : Rep) (h : RH) (w : World) (x : RepAt w own lo hi h r) (hz : RSz h 1048576) (c v : Int) (hc : repF r = c) (hv : cdsV r = v) : Calls Try.prog 22 #[.agg #[.int .i64 r.id, .int .i64 r.size, .int .i64 r.view, .bool r.normal, .int .i64 r.last, .slice h.L.1 h.L.2.1 h.L.2.2, .int .i64 r.commit, .slice h.O.1 h.O.2.1 h.O.2.2, .slice h.A.1 h.A.2.1 h.A.2.2, .slice h.D.1 h.D.2.1 h.D.2.2]] w fun e w' => e = .returned (.agg #[.int .i64 c, .int .i64 v]) ∧ Below w.heap.size w w' := by
  unfold cdsV at hv
  rw [hc] at hv
  have HC : Hid _ := hc
  clear hc
  go_enter Try.func22, Try.ntmps22
  go_wp2_with (first | ((have g := ob0); clear g; (with_reducible refine alloc_newX 41 [.int .i64 0, .int .i64 0] (fun _ => by kernel_rfl) ?_); intro b1 W1 N1; have ob1 : w.heap.size ≤ b1 := Nat.le_trans B.size N1.ge; have o0_b1 : b0 < b1 := Nat.lt_of_lt_of_le X0.lt N1.ge; replace X0 := X0.below N1.below; replace c0 := X0.cell; replace B := below_next B N1.below; have X1 := N1.bx; have c1 := X1.cell; have f1 := X1.froz; clear N1) | ((with_reducible refine box_newX 29 [.int .i64 r.id, .int .i64 r.size, .int .i64 r.view, .bool r.normal, .int .i64 r.last, .slice h.L.1 h.L.2.1 h.L.2.2, .int .i64 r.commit, .slice h.O.1 h.O.2.1 h.O.2.2, .slice h.A.1 h.A.2.1 h.A.2.2, .slice h.D.1 h.D.2.1 h.D.2.2] rfl ?_); intro b0 W0 N0; have ob0 : w.heap.size ≤ b0 := N0.ge; have B := N0.below; have X0 := N0.bx; have c0 := X0.cell; clear N0) | fail)
  refine (l9Fault_is b0 r h _ X0 (x.below B) (hz.mono (by omega)) c HC.out).mono ?_
  rintro e w1 ⟨rfl, BB⟩
  replace X0 := X0.below BB
  replace c0 := X0.cell
  replace X1 := X1.below BB
  replace c1 := X1.cell
  replace f1 := X1.froz
  replace B := below_next B BB
  clear BB
  by_cases h0 : c = 0
  rotate_left 1
  · rw [if_neg h0] at hv
    subst hv
    have h0' : (c != 0) = true := by simp [h0]
    go_wp2_with (first | ((with_reducible refine store_midX 41 X1 0 [.int .i64 c, .int .i64 0] (by simp) (by kernel_rfl) (by simp [Value.oneCell']) rfl rfl ?_); intro V1 S; replace X0 := X0.kept S.kept (by omega); replace c0 := X0.cell; replace X1 : Bx V1 b1 [.int .i64 c, .int .i64 0] := S.bx; replace c1 := X1.cell; replace f1 := X1.froz; replace B := B.trans (S.kept.below _ (by omega) B.size); clear S))
    refine bodyPost_ret (v := .agg #[.int .i64 c, .int .i64 0]) (by simp [results, Try.results22, go_sem, *]) rfl ⟨rfl, B⟩
  subst h0
  rw [if_pos rfl] at hv
  obtain ⟨N, -, -, SP, -⟩ := rep_ok HC.out
  have SD := SP.2.2
  have N1 := N.1
  have hdl := x.doers.len
  have hD5 : h.D.2.1 ≤ 1000 := by rw [← hdl]; split at SD <;> omega
  rw [hdl] at hv
  clear SP SD N N1
  go_wp2_with fail
  refine (l10Doers0_is r h b0 _ X0 (x.below B).doers hD5).mono ?_
  rintro e W9 ⟨rfl, rfl⟩
  subst hv
  go_wp2_with (first | ((with_reducible refine store_midX 41 X1 0 [.int .i64 0, .int .i64 (cntD r h.D.2.1)] (by simp) (by kernel_rfl) (by simp [Value.oneCell']) rfl rfl ?_); intro V1 S; replace X0 := X0.kept S.kept (by omega); replace c0 := X0.cell; replace X1 : Bx V1 b1 [.int .i64 0, .int .i64 (cntD r h.D.2.1)] := S.bx; replace c1 := X1.cell; replace f1 := X1.froz; replace B := B.trans (S.kept.below _ (by omega) B.size); clear S))
  refine bodyPost_ret (v := .agg #[.int .i64 0, .int .i64 (cntD r h.D.2.1)]) (by simp [results, Try.results22, go_sem, *]) rfl ⟨rfl, B⟩

end Go.Proofs.Ytcefhlkbbipmmaa

/- What the program's and the model's WordAt answer, and that two alike answers are told to be equal. -/
namespace Go.Proofs.Ytcefhlkbbipmmaa
open Go.RowKit

set_option maxHeartbeats 400000 in
theorem eqNRes_yes (c v : Int) (w : World) :
    Calls Try.prog 33 #[.agg #[.int .i64 c, .int .i64 v], .agg #[.int .i64 c, .int .i64 v]] w fun e w' => e = .returned (.bool true) ∧ Below w.heap.size w w' := by
  have he : (c != c) = false := by simp
  have hv : (v != v) = false := by simp
  go_enter Try.func33, Try.ntmps33
  go_wp2
  go_ret
  exact ⟨rfl, ((Below.refl _ _).alloc (Nat.le_refl _) _).alloc (by simp) _⟩

end Go.Proofs.Ytcefhlkbbipmmaa

/- At every replica the program's CountDoers answers as its model does and writes into no argument: the law FnExactCountDoers is true at every argument, with no condition. -/
namespace Go.Proofs.Ytcefhlkbbipmmaa
open Go.RowKit

set_option maxRecDepth 20000 in
set_option maxHeartbeats 8000000 in
theorem lawCountDoers {own : Bool} (r : Rep) (h : RH) (w : World) (x : RepAt w own 0 w.heap.size h r) (hs : RSz h maxLen) : Calls Try.prog 9 #[.agg #[.int .i64 r.id, .int .i64 r.size, .int .i64 r.view, .bool r.normal, .int .i64 r.last, .slice h.L.1 h.L.2.1 h.L.2.2, .int .i64 r.commit, .slice h.O.1 h.O.2.1 h.O.2.2, .slice h.A.1 h.A.2.1 h.A.2.2, .slice h.D.1 h.D.2.1 h.D.2.2]] w fun e w' => e = .returned (.bool true) ∧ Below w.heap.size w w' := by
  obtain ⟨c, hc⟩ : ∃ c, repF r = c := ⟨_, rfl⟩
  obtain ⟨v, hv⟩ : ∃ v, cdsV r = v := ⟨_, rfl⟩
  have HC : Hid _ := hc
  have HV : Hid _ := hv
  clear hc hv
  go_enter Try.func9, Try.ntmps9
  go_wp2_with (first | ((with_reducible refine box_newX 56 [.int .i64 r.id, .int .i64 r.size, .int .i64 r.view, .bool r.normal, .int .i64 r.last, .slice h.L.1 h.L.2.1 h.L.2.2, .int .i64 r.commit, .slice h.O.1 h.O.2.1 h.O.2.2, .slice h.A.1 h.A.2.1 h.A.2.2, .slice h.D.1 h.D.2.1 h.D.2.2] rfl ?_); intro b0 W0 N0; have ob0 : w.heap.size ≤ b0 := N0.ge; have B := N0.below; have X0 := N0.bx; have c0 := X0.cell; clear N0) | fail)
  refine (szReplica_left r h _ (x.below B) hs).mono ?_
  rintro e w1 ⟨q, rfl, BB, hq⟩
  replace X0 := X0.below BB
  replace c0 := X0.cell
  replace B := below_next B BB
  clear BB
  rcases hq with hq | ⟨hq0, hq1, HZ⟩
  · go_wp2
    go_ret
    exact ⟨rfl, B⟩
  have hq' : ¬ q < 0 := by omega
  clear hq0 hq1
  go_wp2_with fail
  refine (toReplica_any r h _ (x.below B) HZ).mono ?_
  rintro e w2 ⟨k1, rfl, y1, z1, BB⟩
  replace X0 := X0.below BB
  replace c0 := X0.cell
  replace B := below_next B BB
  clear BB
  go_wp2_with fail
  refine (specCDs_is r k1 _ y1 z1 c v HC.out HV.out).mono ?_
  rintro e w3 ⟨rfl, BB⟩
  replace X0 := X0.below BB
  replace c0 := X0.cell
  replace B := below_next B BB
  clear BB
  clear y1 z1
  go_wp2_with (first | ((with_reducible refine store_midX 41 X1 0 [.int .i64 c, .int .i64 v] (by simp) (by kernel_rfl) (by simp [Value.oneCell']) rfl rfl ?_); intro V1 S; replace X0 := X0.kept S.kept (by omega); replace c0 := X0.cell; replace X1 : Bx V1 b1 [.int .i64 c, .int .i64 v] := S.bx; replace c1 := X1.cell; replace f1 := X1.froz; replace B := B.trans (S.kept.below _ (by omega) B.size); clear S) | ((have g := ob0); clear g; (with_reducible refine alloc_newX 41 [.int .i64 0, .int .i64 0] (fun _ => by kernel_rfl) ?_); intro b1 W1 N1; have ob1 : w.heap.size ≤ b1 := Nat.le_trans B.size N1.ge; have o0_b1 : b0 < b1 := Nat.lt_of_lt_of_le X0.lt N1.ge; replace X0 := X0.below N1.below; replace c0 := X0.cell; replace B := below_next B N1.below; have X1 := N1.bx; have c1 := X1.cell; have f1 := X1.froz; clear N1) | fail)
  refine (toReplica_z r h _ (x.below B) HZ).mono ?_
  rintro e w4 ⟨zY, uY, k2, rfl, GzY, hy2, y2, z2, BB⟩
  have ozY : w.heap.size ≤ zY := Nat.le_trans B.size GzY
  have o0_zY : b0 < zY := Nat.lt_of_lt_of_le X0.lt GzY
  have o1_zY : b1 < zY := Nat.lt_of_lt_of_le X1.lt GzY
  clear GzY
  replace X0 := X0.below BB
  replace c0 := X0.cell
  replace X1 := X1.below BB
  replace c1 := X1.cell
  replace f1 := X1.froz
  replace B := below_next B BB
  clear BB
  go_wp2_with (first | ((with_reducible refine store_midX 29 X2 0 [.int .i64 r.id, .int .i64 r.size, .int .i64 r.view, .bool r.normal, .int .i64 r.last, .slice k2.L.1 k2.L.2.1 k2.L.2.2, .int .i64 r.commit, .slice k2.O.1 k2.O.2.1 k2.O.2.2, .slice k2.A.1 k2.A.2.1 k2.A.2.2, .slice k2.D.1 k2.D.2.1 k2.D.2.2] (by simp) (by kernel_rfl) (by simp [Value.oneCell']) rfl rfl ?_); intro V2 S; replace X0 := X0.kept S.kept (by omega); replace c0 := X0.cell; replace X1 := X1.kept S.kept (by omega); replace c1 := X1.cell; replace f1 := X1.froz; replace X2 : Bx V2 b2 [.int .i64 r.id, .int .i64 r.size, .int .i64 r.view, .bool r.normal, .int .i64 r.last, .slice k2.L.1 k2.L.2.1 k2.L.2.2, .int .i64 r.commit, .slice k2.O.1 k2.O.2.1 k2.O.2.2, .slice k2.A.1 k2.A.2.1 k2.A.2.2, .slice k2.D.1 k2.D.2.1 k2.D.2.2] := S.bx; replace c2 := X2.cell; replace f2 := X2.froz; replace y2 := y2.kept S.kept (by omega); replace hy2 := Nat.le_trans hy2 S.kept.size; replace B := B.trans (S.kept.below _ (by omega) B.size); clear S) | ((have g := ob1); clear g; (with_reducible refine alloc_newX 29 [.int .i64 0, .int .i64 0, .int .i64 0, .bool false, .int .i64 0, .slice none 0 0, .int .i64 0, .slice none 0 0, .slice none 0 0, .slice none 0 0] (fun _ => by kernel_rfl) ?_); intro b2 W2 N2; have ob2 : w.heap.size ≤ b2 := Nat.le_trans B.size N2.ge; have o0_b2 : b0 < b2 := Nat.lt_of_lt_of_le X0.lt N2.ge; have o1_b2 : b1 < b2 := Nat.lt_of_lt_of_le X1.lt N2.ge; have oy2_b2 : uY ≤ b2 := Nat.le_trans hy2 N2.ge; replace X0 := X0.below N2.below; replace c0 := X0.cell; replace X1 := X1.below N2.below; replace c1 := X1.cell; replace f1 := X1.froz; replace y2 := y2.below N2.below; replace hy2 := Nat.le_trans hy2 N2.below.size; replace B := below_next B N2.below; have X2 := N2.bx; have c2 := X2.cell; have f2 := X2.froz; clear N2) | fail)
  refine (implCDs_is r k2 _ y2 z2 c v HC.out HV.out).mono ?_
  rintro e w5 ⟨rfl, BB⟩
  replace X0 := X0.below BB
  replace c0 := X0.cell
  replace X1 := X1.below BB
  replace c1 := X1.cell
  replace f1 := X1.froz
  replace X2 := X2.below BB
  replace c2 := X2.cell
  replace f2 := X2.froz
  replace y2 := y2.below BB
  replace hy2 := Nat.le_trans hy2 BB.size
  replace B := below_next B BB
  clear BB
  go_wp2_with (first | ((with_reducible refine store_midX 41 X3 0 [.int .i64 c, .int .i64 v] (by simp) (by kernel_rfl) (by simp [Value.oneCell']) rfl rfl ?_); intro V3 S; replace X0 := X0.kept S.kept (by omega); replace c0 := X0.cell; replace X1 := X1.kept S.kept (by omega); replace c1 := X1.cell; replace f1 := X1.froz; replace X2 := X2.kept S.kept (by omega); replace c2 := X2.cell; replace f2 := X2.froz; replace X3 : Bx V3 b3 [.int .i64 c, .int .i64 v] := S.bx; replace c3 := X3.cell; replace f3 := X3.froz; replace y2 := y2.kept S.kept (by omega); replace hy2 := Nat.le_trans hy2 S.kept.size; replace B := B.trans (S.kept.below _ (by omega) B.size); clear S) | ((have g := ob2); clear g; (with_reducible refine alloc_newX 41 [.int .i64 0, .int .i64 0] (fun _ => by kernel_rfl) ?_); intro b3 W3 N3; have ob3 : w.heap.size ≤ b3 := Nat.le_trans B.size N3.ge; have o0_b3 : b0 < b3 := Nat.lt_of_lt_of_le X0.lt N3.ge; have o1_b3 : b1 < b3 := Nat.lt_of_lt_of_le X1.lt N3.ge; have o2_b3 : b2 < b3 := Nat.lt_of_lt_of_le X2.lt N3.ge; have oy2_b3 : uY ≤ b3 := Nat.le_trans hy2 N3.ge; replace X0 := X0.below N3.below; replace c0 := X0.cell; replace X1 := X1.below N3.below; replace c1 := X1.cell; replace f1 := X1.froz; replace X2 := X2.below N3.below; replace c2 := X2.cell; replace f2 := X2.froz; replace y2 := y2.below N3.below; replace hy2 := Nat.le_trans hy2 N3.below.size; replace B := below_next B N3.below; have X3 := N3.bx; have c3 := X3.cell; have f3 := X3.froz; clear N3) | fail)
  refine (eqNRes_yes c v _).mono ?_
  rintro e w6 ⟨rfl, BB⟩
  replace X0 := X0.below BB
  replace c0 := X0.cell
  replace X1 := X1.below BB
  replace c1 := X1.cell
  replace f1 := X1.froz
  replace X2 := X2.below BB
  replace c2 := X2.cell
  replace f2 := X2.froz
  replace X3 := X3.below BB
  replace c3 := X3.cell
  replace f3 := X3.froz
  replace y2 := y2.below BB
  replace hy2 := Nat.le_trans hy2 BB.size
  replace B := below_next B BB
  clear BB
  go_wp2_with fail
  have DQ : Below w6.heap.size w6 w6.drew := (Below.refl _ _).drew
  replace X0 := X0.below DQ
  replace c0 := X0.cell
  replace X1 := X1.below DQ
  replace c1 := X1.cell
  replace f1 := X1.froz
  replace X2 := X2.below DQ
  replace c2 := X2.cell
  replace f2 := X2.froz
  replace X3 := X3.below DQ
  replace c3 := X3.cell
  replace f3 := X3.froz
  replace y2 := y2.below DQ
  replace hy2 := Nat.le_trans hy2 DQ.size
  replace B := below_next B DQ
  clear DQ
  refine wp_region_held_drew (S := (fun w' => (∀ k : Nat, w'.cell? ⟨b0, k, none⟩ = [.int .i64 r.id, .int .i64 r.size, .int .i64 r.view, .bool r.normal, .int .i64 r.last, .slice h.L.1 h.L.2.1 h.L.2.2, .int .i64 r.commit, .slice h.O.1 h.O.2.1 h.O.2.2, .slice h.A.1 h.A.2.1 h.A.2.2, .slice h.D.1 h.D.2.1 h.D.2.2][k]?) ∧ (∀ k : Nat, w'.cell? ⟨b2, k, none⟩ = [.int .i64 r.id, .int .i64 r.size, .int .i64 r.view, .bool r.normal, .int .i64 r.last, .slice k2.L.1 k2.L.2.1 k2.L.2.2, .int .i64 r.commit, .slice k2.O.1 k2.O.2.1 k2.O.2.2, .slice k2.A.1 k2.A.2.1 k2.A.2.2, .slice k2.D.1 k2.D.2.1 k2.D.2.2][k]?))) (by kernel_rfl) ⟨c0, c2⟩ (fun hHeld => ?_)
  refine wpAnyH_take (i := 0) (v := ?_) rfl (by kernel_rfl) (by kernel_rfl) (by kernel_rfl) (fun _ _ _ h => h) (Or.inl ⟨by rfl, ?_⟩) hHeld ?_
  rotate_left 1
  · intro w hSw
    try dsimp only at hSw
    first | (go_simp; done) | (go_simp; with_reducible rfl)
  simp only [Act.put, List.setIfInBounds_toArray, List.set_cons_zero, List.set_cons_succ, List.getElem_toArray, List.getElem_cons_zero]
  refine wpAnyH_take (i := 1) (v := ?_) rfl (by kernel_rfl) (by kernel_rfl) (by kernel_rfl) (fun _ _ _ h => h) (Or.inl ⟨by rfl, ?_⟩) hHeld ?_
  rotate_left 1
  · intro w hSw
    try dsimp only at hSw
    first | (go_simp; done) | (go_simp; with_reducible rfl)
  simp only [Act.put, List.setIfInBounds_toArray, List.set_cons_zero, List.set_cons_succ, List.getElem_toArray, List.getElem_cons_zero, List.getElem_cons_succ]
  refine wpAnyH_ready (rs := [2]) (by kernel_rfl) (by simp) ?_
  refine AllReadyH.cons rfl (fun KK hKK => ?_) AllReadyH.nil
  go_simp
  go_at_call 26
  refine (toReplica_any r h _ (x.below B) HZ).mono ?_
  rintro e v1 ⟨k9, rfl, y9, z9, BB⟩
  replace X0 := X0.below BB
  replace c0 := X0.cell
  replace X1 := X1.below BB
  replace c1 := X1.cell
  replace f1 := X1.froz
  replace X2 := X2.below BB
  replace c2 := X2.cell
  replace f2 := X2.froz
  replace X3 := X3.below BB
  replace c3 := X3.cell
  replace f3 := X3.froz
  replace y2 := y2.below BB
  replace hy2 := Nat.le_trans hy2 BB.size
  replace B := below_next B BB
  clear BB
  clear hHeld
  refine hKK _ _ ⟨c0, c2⟩ (fun hHeld => ?_)
  clear hKK KK
  refine wpAnyH_ready (rs := [3]) (by kernel_rfl) (by simp) ?_
  refine AllReadyH.cons rfl (fun KK hKK => ?_) AllReadyH.nil
  go_simp
  go_at_call 29
  refine (eqReplica_yes r k2 k9 _ y2 y9 (z2.mono (by omega))).mono ?_
  rintro e v2 ⟨rfl, BB⟩
  replace X0 := X0.below BB
  replace c0 := X0.cell
  replace X1 := X1.below BB
  replace c1 := X1.cell
  replace f1 := X1.froz
  replace X2 := X2.below BB
  replace c2 := X2.cell
  replace f2 := X2.froz
  replace X3 := X3.below BB
  replace c3 := X3.cell
  replace f3 := X3.froz
  replace y2 := y2.below BB
  replace hy2 := Nat.le_trans hy2 BB.size
  replace B := below_next B BB
  clear BB
  clear hHeld
  refine hKK _ _ ⟨c0, c2⟩ (fun hHeld => ?_)
  clear hKK KK
  refine wpAnyH_take (i := 4) (v := ?_) rfl (by kernel_rfl) (by kernel_rfl) (by kernel_rfl) (fun _ _ _ h => h) (Or.inl ⟨by rfl, ?_⟩) hHeld ?_
  rotate_left 1
  · intro w hSw
    try dsimp only at hSw
    first | (go_simp; done) | (go_simp; with_reducible rfl)
  simp only [Act.put, List.setIfInBounds_toArray, List.set_cons_zero, List.set_cons_succ, List.getElem_toArray, List.getElem_cons_zero, List.getElem_cons_succ]
  refine wpAnyH_done (by kernel_rfl) ?_ _
  go_wp2
  go_ret
  exact ⟨rfl, B⟩

open Go.ChangeShapes Go.WideShapes Go.ChangeAt Go.Joins

set_option maxRecDepth 100000 in
theorem liftedCountDoers (os : Os) (started : os.Started) (H : Type) (enc : TypeId × Value → H) :
    ReturnsInHanded {} Try.checked os 9 .any (Rows.fnExactCountDoersSpec.pre6 enc Try.prog Try.f9 Rows.fnExactCountDoersRow.domain false) (Rows.fnExactCountDoersSpec.post enc Try.prog Try.f9 false true false false) := by
  refine returnsInHanded_of_change (C := Try.checked) Try.own started (by kernel_rfl) Try.func9
    (ChangeSpec.witness6 (enc := enc) (C := Try.checked) false ⟨#[], #[.agg #[.int .i64 0, .int .i64 0, .int .i64 0, .bool false, .int .i64 0, .slice none 0 0, .int .i64 0, .slice none 0 0, .slice none 0 0, .slice none 0 0]], []⟩ 8 (by kernel_rfl) (by kernel_rfl) (by kernel_rfl) (by kernel_rfl)) ?_
  intro W base args ds gs before hval0 hW hcnd _
  have hval : ∀ (j : Nat) t v, Try.f9.params[j]? = some t → args[j]? = some v → Value.okWide Try.prog W .any base t v := hval0
  have hW' := hW
  obtain ⟨p, q, hA0, hV, rfl, hfz, hnd⟩ := hW
  have hA : DataW.TrodAll enc Try.prog W 0 (fun _ => true) true Try.f9.params.toList args.toList ds p := hA0
  rw [Try.params9] at hA hval
  obtain ⟨v0, vs0, d0, ds0, p0, q0, hargs, rfl, rfl, h0, r0⟩ := trodAll_cons hA
  obtain ⟨rfl, rfl, rfl⟩ := trodAll_nil r0
  obtain rfl : args = #[v0] := by cases args; simp_all
  obtain ⟨rfl, rfl⟩ := trodVars_none hV
  have lt0 : ∀ x ∈ p0, x.block < W.heap.size := by obtain ⟨m, hm⟩ := h0; exact DataW.trod_lt m _ _ _ hm
  have k0 := h0
  obtain ⟨rr0, rh0, rfl, rz0, rx0⟩ := open_replica Try.repTy (hval 0 56 v0 rfl rfl) h0
  clear hA0 hval0
  refine (lawCountDoers rr0 rh0 W rx0 rz0).mono fun e W' ⟨he, bel⟩ => ?_
  subst he
  exact ⟨_, rfl, _, _, _, [], _, [], hW', trodAll_mk1 (shut_bool Try.underlying4 _), (trodAll_cons_mk (Below.trod Try.laidOut (by kernel_rfl) (of_decide_eq_true (by kernel_rfl)) k0 bel lt0) trodAll_mk0), rfl, bel.frame _, fun h => by cases h⟩

set_option maxRecDepth 100000 in
set_option maxHeartbeats 0 in
theorem closedCountDoers : joinedFacts Try.prog 9 Try.f9 Rows.fnExactCountDoersSpec Rows.fnExactCountDoersRow = true := by
  have q1 : (Rows.fnExactCountDoersRow.inPlace == Try.prog.inPlace 9) = true := by rw [inPlace_at leads_is inp_is]; kernel_rfl
  have q2 : (Rows.fnExactCountDoersRow.unfollowed == Try.prog.unfollowed 9) = true := by rw [unfollowed_at leads_is unf_is]; kernel_rfl
  have q3 : (Rows.fnExactCountDoersRow.recurses == Try.prog.recurses 9) = true := (by rw [recurses_unf leads_is (by rw [unfollowed_at leads_is unf_is]; kernel_rfl)]; rfl)
  have q4 : (Rows.fnExactCountDoersRow.named == Try.prog.varsNamed 9) = true := by rw [varsNamed_at leads_is var_ok ent_is]; kernel_rfl
  have q5 : (Try.prog.make == some Rows.fnExactCountDoersRow.make) = true := by rw [made_cut]; rfl
  have q6 : (Rows.fnExactCountDoersRow.lifted == Try.prog.liftsFinal) = true := by rw [lifts_no]; rfl
  have q7 : Try.prog.mayEnter = true := may_enter
  have q8 : laidOutB Try.prog = true := Try.laidOut
  unfold joinedFacts
  repeat' (with_reducible refine Bool.and_eq_true_iff.2 ⟨?_, ?_⟩)
  all_goals (first | with_reducible exact q1 | with_reducible exact q2 | with_reducible exact q3 | with_reducible exact q4 | with_reducible exact q5 | with_reducible exact q6 | with_reducible exact q7 | with_reducible exact q8 | (as_aux_lemma => kernel_rfl))

theorem countDoers_holds : Rows.FnExactCountDoersSaid :=
  OpenClaim.holds_of_wide 9 Try.f9 rfl rfl rfl rfl rfl rfl rfl ⟨rfl, rfl, rfl, rfl, rfl⟩ rfl rfl rfl rfl rfl (by as_aux_lemma => kernel_rfl) Try.func9 closedCountDoers
    (of_decide_eq_true (by as_aux_lemma => kernel_rfl)) (by unfold Func.isWrapper; first | (rw [if_pos (by decide +kernel)]; kernel_rfl) | (rw [if_neg (by decide +kernel)]; exact ⟨rfl, rfl⟩))
    (fun os started H enc _ => liftedCountDoers os started H enc)

#print axioms countDoers_holds

end Go.Proofs.Ytcefhlkbbipmmaa

