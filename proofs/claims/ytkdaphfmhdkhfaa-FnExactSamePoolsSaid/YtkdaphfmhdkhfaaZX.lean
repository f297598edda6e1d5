/- Chapter 4: one more refers to each of some kids: what the model does. -/
import Derived.Test.YtkdaphfmhdkhfaaZW
import Derived.BigQuiet
import Derived.Test.YtkdaphfmhdkhfaaZY
namespace Go.Proofs.Ytkdaphfmhdkhfaa
open Go.RowKit

theorem moreTo_none {lf : Bool} {but : Nat} {ks : List Int} {f : Fo} {j : Nat} (h : moreTo lf but ks j f = none) : ∀ i, j ≤ i → moreTo lf but ks i f = none := by
  intro i hi
  induction i with
  | zero => rw [show j = 0 by omega] at h; exact h
  | succ i ih =>
    by_cases e : j = i + 1
    · rw [← e]; exact h
    · rw [moreTo, ih (by omega)]; rfl
theorem moreTo_next {lf : Bool} {but : Nat} {ks : List Int} {f g : Fo} {j : Nat} (h : moreTo lf but ks j f = some g) : moreTo lf but ks (j + 1) f = moreStep lf but g j (ks.getD j 0) := by rw [moreTo, h]; rfl
/-- no count is below 0 -/
def Pos (f : Fo) : Prop := (∀ m, 0 ≤ (blockOf f m).1) ∧ ∀ m, 0 ≤ (nodeOf f m).1
theorem Pos.moreB {f : Fo} (h : Pos f) {q : Nat} (hq : q < f.2.length) : Pos (f.1, Go.Proofs.Ytkdaphfmhdkhfaa.moreB f.2 q) :=
  ⟨fun m => by
    rw [Go.Proofs.Ytkdaphfmhdkhfaa.moreB, blockOf_set _ _ _ _ _ hq]
    have h1 := h.1 q; have h2 := h.1 m
    unfold blockOf at h1 h2
    split
    · simp only [more1]; omega
    · exact h2, h.2⟩
theorem Pos.moreAt {f : Fo} (h : Pos f) {q : Nat} (hq : q < f.1.length) : Pos (Go.Proofs.Ytkdaphfmhdkhfaa.moreAt f q) :=
  ⟨h.1, fun m => by
    have h1 := h.2 q; have h2 := h.2 m
    unfold nodeOf at h1 h2
    show 0 ≤ ((f.1.set q (moreNd (nodeOf f q))).getD m nd0).1
    rw [set_getN _ _ _ _ hq]
    split
    · simp only [moreNd, nodeOf]; omega
    · exact h2⟩
def MoreRes (w w' : World) (e : Ending) (lo P : Nat) (vn : Value) (ab : Option Addr) (nb cb : Nat) (K : Nat → KS) (f : Fo) (lf : Bool) (ks : List Int) (but : Nat) : Prop :=
  (moreKids f lf ks but = none ∧ e = .returned (.bool false) ∧ Below lo w w') ∨
  ∃ g, moreKids f lf ks but = some g ∧ e = .returned (.bool true) ∧ OutAt w' lo P vn ab nb cb K g ∧ KeptS (inO vn ab nb) w w'

set_option maxRecDepth 20000 in
set_option maxHeartbeats 8000000 in
theorem l4More_leaf {w : World} {lo P : Nat} {vn : Value} {ab : Option Addr} {nb cb : Nat} {K : Nat → KS} {f : Fo} (I : OutAt w lo P vn ab nb cb K f) (hpos : Pos f) (ka : Option Addr) (kc : Nat) (ks : List Int) (hk : RowAt w true lo w.heap.size 1 ka 4 kc (ints ks)) (hsV : vn.ownBlock ≠ some (sb ka)) (hsB : nb ≠ 0 → sb ka ≠ sb ab) (but : Nat) (hv : ∀ p, p < 4 → p ≠ but → ks.getD p 0 < 0 ∨ (ks.getD p 0).toNat < f.2.length) :
    Calls Try.prog 279 #[.pointer (some ⟨P, 0, none⟩), .bool true, .slice ka 4 kc, .int .i64 (but : Int)] w fun e w' => MoreRes w w' e lo P vn ab nb cb K f true ks but := by
  have hkl := hk.nInts
  obtain ⟨bk, ok, rfl, _, _, hbk, _⟩ := hk.cells (by decide)
  have hP := I.hP
  have hnbl := I.blk.nPairs
  have HV : Hid _ := hv
  have HB : Hid _ := fun w' => I.bel (w' := w')
  have HI : Hid _ := I
  have HK : Hid _ := hk
  clear hv I hk
  go_enter Try.func279, Try.ntmps279
  go_wp2
  go_loopw [9] (fun i wr => ∃ j : Nat, j ≤ 4 ∧ i = .int .i64 j ∧ (∃ gj, moreTo true but ks j f = some gj ∧ Pos gj ∧ gj.1.length = f.1.length ∧ gj.2.length = f.2.length ∧ OutAt wr lo P vn ab nb cb K gj) ∧ RowAt wr true lo w.heap.size 1 (some ⟨bk, ok, none⟩) 4 kc (ints ks) ∧ KeptS (inO vn ab nb) w wr) (fun i _ => 4 - (intOf i).toNat)
  case atStart => exact ⟨0, by omega, rfl, ⟨f, rfl, hpos, rfl, rfl, HI.out⟩, HK.out, KeptS.refl _ _⟩
  case round =>
    clear HI HK
    obtain ⟨j, hj, rfl, ⟨gj, hgj, hps, hl1, hl2, I⟩, KR, SS⟩ := hrel
    by_cases hlt : j < 4
    · obtain ⟨_, _, e', _, _, hbw, e1, _⟩ := KR.int hlt
      cases e'
      have hlj : (j : Int) < 4 := by omega
      have hnx := moreTo_next hgj
      unfold moreStep at hnx
      have HVj : Hid _ := HV.out j hlt
      by_cases hjb : j = but
      · rw [if_pos (Or.inl hjb)] at hnx
        have HNX : Hid _ := hnx
        have HI : Hid _ := I
        have hjb' : ((j : Int) == (but : Int)) = true := by simp; omega
        have HPS : Hid _ := hps
        have HG : Hid _ := hgj
        clear hnx hgj hps I HVj hjb
        go_wp2
        go_roundw
        case rel => exact ⟨j + 1, by omega, by go_num, ⟨gj, HNX.out, HPS.out, hl1, hl2, HI.out⟩, KR, SS⟩
        case measure => simp [intOf]; omega
      · have hjb' : ((j : Int) == (but : Int)) = false := by simp; omega
        obtain ⟨k, hk⟩ : ∃ k, ks.getD j 0 = k := ⟨_, rfl⟩
        have hvj := HVj.out hjb
        rw [hk] at e1 hnx hvj
        by_cases hk0 : k < 0
        · rw [if_pos (Or.inr hk0)] at hnx
          have HNX : Hid _ := hnx
          have HI : Hid _ := I
          have HPS : Hid _ := hps
          have HG : Hid _ := hgj
          clear hnx hgj hps I HVj hjb hk hvj
          go_wp2
          go_roundw
          case rel => exact ⟨j + 1, by omega, by go_num, ⟨gj, HNX.out, HPS.out, hl1, hl2, HI.out⟩, KR, SS⟩
          case measure => simp [intOf]; omega
        · rw [if_neg (fun hx => hx.elim hjb hk0), if_pos rfl] at hnx
          obtain ⟨q, rfl⟩ : ∃ q : Nat, k = q := ⟨k.toNat, by omega⟩
          rw [Int.toNat_natCast] at hnx hvj
          have hqf := hvj.resolve_left (by omega)
          have hqn : q < nb := by omega
          have hqi : (q : Int) < nb := by omega
          obtain ⟨gB, rfl⟩ := I.bf (by omega)
          obtain ⟨_, _, e', _, _, hgs, b1, _, bf1⟩ := I.blk.pair hqn
          cases e'
          replace bf1 := (bf1 rfl).1
          rw [Nat.zero_add] at b1 bf1
          have hsep : bk ≠ gB := by simpa [sb] using hsB (by omega)
          have hPB : P ≠ gB := fun e => (I.sB (by omega)).1 (by simp [sb, e])
          obtain ⟨rr, hrr⟩ : ∃ rr, (gj.2.getD q (0, 0)).1 = rr := ⟨_, rfl⟩
          have hbo : (blockOf gj q).1 = rr := hrr
          rw [hrr] at b1
          have c1 := I.c1
          have hr0 : 0 ≤ rr := by rw [← hbo]; exact hps.1 q
          rw [hbo] at hnx
          have HI : Hid _ := I
          have HKR : Hid _ := KR
          have HPS : Hid _ := hps
          have HG : Hid _ := hgj
          have HSS : Hid _ := SS
          clear hk hvj HVj hjb
          by_cases h200 : 200 ≤ rr
          · rw [if_pos h200] at hnx
            have HNX : Hid (moreKids f true ks but = none) := moreTo_none hnx 4 (by omega)
            clear hnx hgj hps I KR SS hrr hbo
            go_wp2_with fail
            go_quiet (fail)
            go_wp2
            go_ret
            exact Or.inl ⟨HNX.out, rfl, HB.out _ (HSS.out.trans (KeptS.below (below_drewN (Below.refl _ _) _)))⟩
          · rw [if_neg h200] at hnx
            have HNX : Hid _ := hnx
            have hh200 : ¬ 200 ≤ rr := h200
            have hne : nb ≠ 0 := by omega
            have I2 : ∀ n, OutAt ((wr.drewN n).setCell ⟨gB, q * 2, none⟩ (.int .i64 (rr + 1))) lo P vn (some ⟨gB, 0, none⟩) nb cb K (gj.1, moreB gj.2 q) := fun n => by
              have J := I.below (below_drewN (Below.refl _ _) n)
              refine J.blocks hne (Kept.setCell (Kept.refl _ _ _) (p := ⟨gB, q * 2, none⟩) (Nat.le_refl _) (Nat.lt_succ_self _) _) ?_
              have := J.blk.pin.stored (i := q * 2) (by omega) (.int .i64 (rr + 1))
              rw [Nat.zero_add, pairs_set1 gj.2 q (rr + 1)] at this
              rw [moreB, more1, hrr]; exact this
            have S2 : ∀ n, KeptS (inO vn (some ⟨gB, 0, none⟩) nb) w ((wr.drewN n).setCell ⟨gB, q * 2, none⟩ (.int .i64 (rr + 1))) := fun n => (SS.trans (KeptS.below (below_drewN (Below.refl _ _) n))).setCell (p := ⟨gB, q * 2, none⟩) (Or.inr ⟨hne, rfl⟩) _
            have KR2 : ∀ n, RowAt ((wr.drewN n).setCell ⟨gB, q * 2, none⟩ (.int .i64 (rr + 1))) true lo w.heap.size 1 (some ⟨bk, ok, none⟩) 4 kc (ints ks) := fun n => (KR.below (below_drewN (Below.refl _ _) n)).keptS (KeptS.setCell (KeptS.refl (fun x => x = gB) _) (p := ⟨gB, q * 2, none⟩) rfl _) fun a _ e => by cases e; exact hsep
            have P2 : Pos (gj.1, moreB gj.2 q) := hps.moreB (by omega)
            have HI2 : Hid _ := I2
            have HKR2 : Hid _ := KR2
            have HS2 : Hid _ := S2
            have HP2 : Hid _ := P2
            clear hnx hgj hps I KR SS hrr hbo I2 KR2 S2 P2
            go_wp2_with fail
            go_quiet (fail)
            go_wp2_with fail
            go_region
            go_wp2
            go_roundw
            case rel => exact ⟨j + 1, by omega, by go_num, ⟨_, HNX.out, HP2.out, by exact hl1, by rw [moreB, List.length_set]; exact hl2, HI2.out _⟩, HKR2.out _, HS2.out _⟩
            case measure => simp [intOf]; omega
    · obtain rfl : j = 4 := by omega
      have HI : Hid _ := I
      have HG : Hid _ := hgj
      clear I hgj hps HV
      go_wp2
      go_ret
      exact Or.inr ⟨gj, HG.out, rfl, HI.out, SS⟩

set_option maxRecDepth 20000 in
set_option maxHeartbeats 8000000 in
theorem l4More_root {w : World} {lo P : Nat} {vn : Value} {ab : Option Addr} {nb cb : Nat} {K : Nat → KS} {f : Fo} (I : OutAt w lo P vn ab nb cb K f) (hpos : Pos f) (ka : Option Addr) (kc : Nat) (ks : List Int) (hk : RowAt w true lo w.heap.size 1 ka 4 kc (ints ks)) (hsV : vn.ownBlock ≠ some (sb ka)) (hsB : nb ≠ 0 → sb ka ≠ sb ab) (but : Nat) (hv : ∀ p, p < 4 → p ≠ but → ks.getD p 0 < 0 ∨ (ks.getD p 0).toNat < f.1.length) :
    Calls Try.prog 279 #[.pointer (some ⟨P, 0, none⟩), .bool false, .slice ka 4 kc, .int .i64 (but : Int)] w fun e w' => MoreRes w w' e lo P vn ab nb cb K f false ks but := by
  have hkl := hk.nInts
  obtain ⟨bk, ok, rfl, _, _, hbk, _⟩ := hk.cells (by decide)
  have hP := I.hP
  have hnbl := I.blk.nPairs
  have HV : Hid _ := hv
  have HB : Hid _ := fun w' => I.bel (w' := w')
  have HI : Hid _ := I
  have HK : Hid _ := hk
  clear hv I hk
  go_enter Try.func279, Try.ntmps279
  go_wp2
  go_loopw [9] (fun i wr => ∃ j : Nat, j ≤ 4 ∧ i = .int .i64 j ∧ (∃ gj, moreTo false but ks j f = some gj ∧ Pos gj ∧ gj.1.length = f.1.length ∧ gj.2.length = f.2.length ∧ OutAt wr lo P vn ab nb cb K gj) ∧ RowAt wr true lo w.heap.size 1 (some ⟨bk, ok, none⟩) 4 kc (ints ks) ∧ KeptS (inO vn ab nb) w wr) (fun i _ => 4 - (intOf i).toNat)
  case atStart => exact ⟨0, by omega, rfl, ⟨f, rfl, hpos, rfl, rfl, HI.out⟩, HK.out, KeptS.refl _ _⟩
  case round =>
    clear HI HK
    obtain ⟨j, hj, rfl, ⟨gj, hgj, hps, hl1, hl2, I⟩, KR, SS⟩ := hrel
    by_cases hlt : j < 4
    · obtain ⟨_, _, e', _, _, hbw, e1, _⟩ := KR.int hlt
      cases e'
      have hlj : (j : Int) < 4 := by omega
      have hnx := moreTo_next hgj
      unfold moreStep at hnx
      have HVj : Hid _ := HV.out j hlt
      by_cases hjb : j = but
      · rw [if_pos (Or.inl hjb)] at hnx
        have HNX : Hid _ := hnx
        have HI : Hid _ := I
        have hjb' : ((j : Int) == (but : Int)) = true := by simp; omega
        have HPS : Hid _ := hps
        have HG : Hid _ := hgj
        clear hnx hgj hps I HVj hjb
        go_wp2
        go_roundw
        case rel => exact ⟨j + 1, by omega, by go_num, ⟨gj, HNX.out, HPS.out, hl1, hl2, HI.out⟩, KR, SS⟩
        case measure => simp [intOf]; omega
      · have hjb' : ((j : Int) == (but : Int)) = false := by simp; omega
        obtain ⟨k, hk⟩ : ∃ k, ks.getD j 0 = k := ⟨_, rfl⟩
        have hvj := HVj.out hjb
        rw [hk] at e1 hnx hvj
        by_cases hk0 : k < 0
        · rw [if_pos (Or.inr hk0)] at hnx
          have HNX : Hid _ := hnx
          have HI : Hid _ := I
          have HPS : Hid _ := hps
          have HG : Hid _ := hgj
          clear hnx hgj hps I HVj hjb hk hvj
          go_wp2
          go_roundw
          case rel => exact ⟨j + 1, by omega, by go_num, ⟨gj, HNX.out, HPS.out, hl1, hl2, HI.out⟩, KR, SS⟩
          case measure => simp [intOf]; omega
        · rw [if_neg (fun hx => hx.elim hjb hk0), if_neg (by decide)] at hnx
          obtain ⟨q, rfl⟩ : ∃ q : Nat, k = q := ⟨k.toNat, by omega⟩
          rw [Int.toNat_natCast] at hnx hvj
          have hqf := hvj.resolve_left (by omega)
          obtain ⟨m, hm⟩ : ∃ m, gj.1.length = m := ⟨_, rfl⟩
          obtain ⟨gB, cap, ev, hgs, b1, _, _, bf1, _, _⟩ := I.node (i := q) (by omega)
          rw [hm] at ev
          subst ev
          have hsep : bk ≠ gB := fun e => hsV (by rw [e]; rfl)
          have hPB : P ≠ gB := fun e => I.sV (by rw [e]; rfl)
          obtain ⟨rr, hrr⟩ : ∃ rr, (gj.1.getD q nd0).1 = rr := ⟨_, rfl⟩
          have hbo : (nodeOf gj q).1 = rr := hrr
          rw [hrr] at b1
          have c0 := I.c0
          have hqn : q < m := by omega
          have hqi : (q : Int) < m := by omega
          have hr0 : 0 ≤ rr := by rw [← hbo]; exact hps.2 q
          rw [hbo] at hnx
          have HI : Hid _ := I
          have HKR : Hid _ := KR
          have HPS : Hid _ := hps
          have HG : Hid _ := hgj
          have HSS : Hid _ := SS
          clear hk hvj HVj hjb
          by_cases h200 : 200 ≤ rr
          · rw [if_pos h200] at hnx
            have HNX : Hid (moreKids f false ks but = none) := moreTo_none hnx 4 (by omega)
            clear hnx hgj hps I KR SS hrr hbo
            go_wp2_with fail
            go_quiet (fail)
            go_wp2
            go_ret
            exact Or.inl ⟨HNX.out, rfl, HB.out _ (HSS.out.trans (KeptS.below (below_drewN (Below.refl _ _) _)))⟩
          · rw [if_neg h200] at hnx
            have HNX : Hid _ := hnx
            have hh200 : ¬ 200 ≤ rr := h200
            have e3 : moreAt gj q = (gj.1.set q (rr + 1, (gj.1.getD q nd0).2), gj.2) := by rw [moreAt, moreNd, hbo]; rfl
            have I2 : ∀ n, OutAt ((wr.drewN n).setCell ⟨gB, q * 3, none⟩ (.int .i64 (rr + 1))) lo P (.slice (some ⟨gB, 0, none⟩) m cap) ab nb cb K (moreAt gj q) := fun n => by
              rw [e3]
              exact (I.below (below_drewN (Below.refl _ _) n)).refs hm.symm (by omega) (rr + 1)
            have S2 : ∀ n, KeptS (inO (.slice (some ⟨gB, 0, none⟩) m cap) ab nb) w ((wr.drewN n).setCell ⟨gB, q * 3, none⟩ (.int .i64 (rr + 1))) := fun n => (SS.trans (KeptS.below (below_drewN (Below.refl _ _) n))).setCell (p := ⟨gB, q * 3, none⟩) (Or.inl rfl) _
            have KR2 : ∀ n, RowAt ((wr.drewN n).setCell ⟨gB, q * 3, none⟩ (.int .i64 (rr + 1))) true lo w.heap.size 1 (some ⟨bk, ok, none⟩) 4 kc (ints ks) := fun n => (KR.below (below_drewN (Below.refl _ _) n)).keptS (KeptS.setCell (KeptS.refl (fun x => x = gB) _) (p := ⟨gB, q * 3, none⟩) rfl _) fun a _ e => by cases e; exact hsep
            have P2 : Pos (moreAt gj q) := hps.moreAt (by omega)
            have HI2 : Hid _ := I2
            have HKR2 : Hid _ := KR2
            have HS2 : Hid _ := S2
            have HP2 : Hid _ := P2
            clear hnx hgj hps I KR SS hrr hbo I2 KR2 S2 P2
            go_wp2_with fail
            go_quiet (fail)
            go_wp2_with fail
            go_region
            go_wp2
            go_roundw
            case rel => exact ⟨j + 1, by omega, by go_num, ⟨_, HNX.out, HP2.out, by rw [moreAt, List.length_set]; exact hl1, by exact hl2, HI2.out _⟩, HKR2.out _, HS2.out _⟩
            case measure => simp [intOf]; omega
    · obtain rfl : j = 4 := by omega
      have HI : Hid _ := I
      have HG : Hid _ := hgj
      clear I hgj hps HV
      go_wp2
      go_ret
      exact Or.inr ⟨gj, HG.out, rfl, HI.out, SS⟩

end Go.Proofs.Ytkdaphfmhdkhfaa

/- Chapter 4: the leaf of a place with another block there: what the model does. -/
namespace Go.Proofs.Ytkdaphfmhdkhfaa
open Go.RowKit

def LeafRes (w w' : World) (e : Ending) (lo P : Nat) (ab : Option Addr) (nb cb : Nat) (r : Int × Int × Fo) : Prop :=
  (r.2.1 ≠ 0 ∧ e = .returned (.tuple #[.int .i64 (-1), .int .i64 r.2.1]) ∧ Below lo w w') ∨
  (r.2.1 = 0 ∧ e = .returned (.tuple #[.int .i64 r.1, .int .i64 0]) ∧ (∃ vn' K', OutAt w' lo P vn' ab nb cb K' r.2.2) ∧ Below lo w w')
theorem pos_of {f : Fo} (h : Inv f) : Pos f := ⟨fun m => (blkOne_zero (h.bk m)).1, fun m => (h.nd m).r0⟩
theorem LeafRes.ok {w w' : World} {e : Ending} {lo P : Nat} {ab : Option Addr} {nb cb : Nat} {x : Int} {g : Fo} {vn' : Value} {K' : Nat → KS} (he : e = .returned (.tuple #[.int .i64 x, .int .i64 0])) (I : OutAt w' lo P vn' ab nb cb K' g) (hb : Below lo w w') : LeafRes w w' e lo P ab nb cb (x, 0, g) := Or.inr ⟨rfl, he, ⟨_, _, I⟩, hb⟩
theorem LeafRes.bad {w w' : World} {e : Ending} {lo P : Nat} {ab : Option Addr} {nb cb : Nat} {g : Fo} (he : e = .returned (.tuple #[.int .i64 (-1), .int .i64 2])) (hb : Below lo w w') : LeafRes w w' e lo P ab nb cb (-1, 2, g) := Or.inl ⟨by simp, he, hb⟩

/-- what 'setLeaf' says, by its ways -/
theorem setLeaf_none {f : Fo} {root x b : Int} (h : noneOf (nextKids f root x b) = true) : setLeaf f root x b = (-1, 0, f) := by
  unfold setLeaf; unfold nextKids oldKids at h; simp only [h, if_true]
theorem setLeaf_new {f : Fo} {root x b : Int} (h : noneOf (nextKids f root x b) = false) (h2 : ¬ (0 ≤ leafAt f root x ∧ (nodeOf f (leafAt f root x).toNat).1 = 1 ∧ (nodeOf f root.toNat).1 = 1)) :
    setLeaf f root x b = match newNd f.1 (1, true, nextKids f root x b) with
      | none => (-1, 2, f)
      | some (i, ns) => match moreKids (ns, f.2) true (nextKids f root x b) (x.toNat % 4) with
        | none => (-1, 2, f)
        | some f2 => (i, 0, f2) := by
  unfold setLeaf; unfold nextKids oldKids at *; simp only [h, if_neg h2]; rfl
theorem setLeaf_same {f : Fo} {root x b : Int} (h : noneOf (nextKids f root x b) = false) (h2 : 0 ≤ leafAt f root x ∧ (nodeOf f (leafAt f root x).toNat).1 = 1 ∧ (nodeOf f root.toNat).1 = 1) :
    setLeaf f root x b = (leafAt f root x, 0, (f.1.set (leafAt f root x).toNat ((nodeOf f (leafAt f root x).toNat).1, (nodeOf f (leafAt f root x).toNat).2.1, nextKids f root x b), if 0 ≤ (oldKids f root x).getD (x.toNat % 4) 0 then lessB f.2 ((oldKids f root x).getD (x.toNat % 4) 0).toNat else f.2)) := by
  unfold setLeaf; unfold nextKids oldKids at *; simp only [h, if_pos h2]; rfl

def vnB (g s P : Nat) (ab : Option Addr) (nb : Nat) : Prop := g ≠ P ∧ g ≠ s ∧ (nb ≠ 0 → g ≠ sb ab)
theorem next_in {f : Fo} {root : Int} {a : Nat} {b : Int} (hA : Ask f root a b) : ∀ p, p < 4 → p ≠ a % 4 → (nextKids f root a b).getD p 0 < 0 ∨ ((nextKids f root a b).getD p 0).toNat < f.2.length := fun p hp hpe => by
  have hl := oldKids_len hA.inv hA.ro hA.at0 hA.at1
  have ha := hA.at1
  rw [nextKids, Int.toNat_natCast, with_getD hl (by omega) b hp, if_neg hpe]
  by_cases h0 : oldKids f root a = []
  · rw [if_pos h0]; exact Or.inl (by decide)
  · rw [if_neg h0]
    rcases oldKids_live hA.inv hA.ro hA.at0 hA.at1 (getD_four (hl.resolve_right h0) hp) with e | ⟨_, e⟩
    · exact Or.inl (by omega)
    · exact Or.inr (liveB_lt e)
theorem pos_new {f : Fo} (h : Inv f) {nd : Nd} (h1 : 0 ≤ nd.1) {i : Nat} {ns : List Nd} (hn : newNd f.1 nd = some (i, ns)) : Pos (ns, f.2) := ⟨(pos_of h).1, fun m => by
  rw [(new_at h hn).node]
  split
  · exact h1
  · exact (pos_of h).2 m⟩

set_option maxRecDepth 20000 in
set_option maxHeartbeats 8000000 in
theorem l4SetLeaf_any {w : World} {lo P : Nat} {vn : Value} {ab : Option Addr} {nb cb : Nat} {K : Nat → KS} {f : Fo} (I : OutAt w lo P vn ab nb cb K f) (root : Int) (a : Nat) (b : Int) (hA : Ask f root a b) (r : Int × Int × Fo) (hr : setLeaf f root a b = r) :
    Calls Try.prog 238 #[.pointer (some ⟨P, 0, none⟩), .int .i64 root, .int .i64 (a : Int), .int .i64 b] w fun e w' => LeafRes w w' e lo P ab nb cb r := by
  have ha : a ≤ 15 := by have := hA.at1; omega
  have H1 : Hid _ := rootAt_of hA.inv hA.ro
  obtain ⟨an, cn, hv, RF⟩ := I.read
  subst hv
  obtain ⟨nn, hnn⟩ : ∃ nn, f.1.length = nn := ⟨_, rfl⟩
  have hN := hA.inv.nn
  have c0 := I.c0
  have hnb : nb ≤ 24 := by have := I.blk.nPairs; have := hA.inv.nb; omega
  rw [hnn] at c0 RF I hN
  have hP := I.hP
  obtain ⟨q, hq⟩ : ∃ q, a % 4 = q := ⟨_, rfl⟩
  have hq4 : q < 4 := by omega
  have hq' : (a : Int) % 4 = (q : Int) := by omega
  have hlc := leaf_cases hA.inv hA.ro (at' := (a : Int)) (by omega) (by omega)
  obtain ⟨L, hL⟩ : ∃ L, leafAt f root a = L := ⟨_, rfl⟩
  have HL : Hid _ := hL
  have HI : Hid _ := I
  have HR : Hid _ := RF
  have HRR : Hid _ := hr
  have HA : Hid _ := hA
  by_cases hL0 : L < 0
  · obtain rfl : L = -1 := by omega
    have HK : Hid (nextKids f root a b = withKid [] q b) := by show _ = _; rw [nextKids, oldKids, hL, if_neg (by decide), ← hq]; rfl
    clear I RF hr hA hL hlc hL0
    go_enter Try.func238, Try.ntmps238
    go_wp2_with fail
    refine (l4Leaf_is P an nn cn ab nb cb K f _ (by exact HR.out) c0 (by omega) root a ha H1.out (-1) HL.out).mono ?_
    rintro e w' ⟨rfl, rfl⟩
    go_wp2_with fail
    have A : Below w'.heap.size w' (w'.alloc (.cells #[] 2)) := (Below.refl _ _).alloc (Nat.le_refl _) _
    refine (l4With_any (o := false) (l := 0) (u := 0) (some ⟨w'.heap.size, 0, none⟩) 0 0 [] _ ⟨rfl, Nat.le_refl _, fun h => absurd rfl h⟩ (Or.inr rfl) q hq4 b).mono ?_
    rintro e w1 ⟨rfl, N1, hb1⟩
    have hbw := below_next A hb1
    rw [← HK.out] at N1
    obtain ⟨s, hs⟩ : ∃ s, (w'.alloc (.cells #[] 2)).heap.size = s := ⟨_, rfl⟩
    have hsw : w'.heap.size ≤ s := by rw [← hs]; exact A.size
    rw [hs] at N1 ⊢
    clear hs hb1 A
    obtain ⟨nx, hnx⟩ : ∃ nx, nextKids f root a b = nx := ⟨_, rfl⟩
    have HNX : Hid _ := hnx
    rw [hnx] at N1
    clear hnx
    have hs1 : s < w1.heap.size := (N1.block_lt (by decide)).2.2
    have I1 := HI.out.below hbw
    have HN : Hid (RowAt w1 true lo w1.heap.size 1 (some ⟨s, 0, none⟩) 4 4 (ints nx)) := N1.widen (by omega) (by omega)
    have hsep : (4 : Nat) ≠ 0 → s ≠ P ∧ (Value.slice an nn cn).ownBlock ≠ some s ∧ (nb ≠ 0 → s ≠ sb ab) := fun _ => ⟨by omega, fun e => by have := (HI.out.own.lt s e).2; omega, fun hne => by have := (HI.out.blk.block_lt hne).2.2; omega⟩
    have HS : Hid _ := hsep
    have hbl : Below lo w' w1 := hbw.mono (by omega)
    clear N1 hsep
    by_cases hno : noneOf nx = true
    · have HNO : Hid _ := hno
      have HI1 : Hid _ := I1
      clear hno I1
      go_wp2_with fail
      refine (l4None_is _ 4 4 nx _ HN.out (by omega) true HNO.out).mono ?_
      rintro e w2 ⟨rfl, rfl⟩
      go_wp2
      refine bodyPost_ret (v := .tuple #[.int .i64 (-1), .int .i64 0]) (by simp [results, Try.results238, go_sem]) rfl ?_
      rw [← HRR.out, setLeaf_none (by rw [HNX.out]; exact HNO.out)]
      exact LeafRes.ok rfl HI1.out hbl
    · have HNO : Hid (noneOf nx = false) := by show _ = _; simpa using hno
      clear hno
      have HI1 : Hid _ := I1
      clear I1
      go_wp2_with fail
      refine (l4None_is _ 4 4 nx _ HN.out (by omega) false HNO.out).mono ?_
      rintro e w2 ⟨rfl, rfl⟩
      go_wp2_with fail
      refine (l4New_any (by exact HI1.out) (by omega) 1 true nx (some ⟨s, 0, none⟩) 4 4 HN.out HS.out).mono ?_
      rintro e w3 (⟨hnone, rfl, hb3⟩ | ⟨i', ns, va, vc, K', hnew, rfl, I3, hKi, hi', hnd, hb3⟩)
      · go_wp2
        refine bodyPost_ret (v := .tuple #[.int .i64 (-1), .int .i64 2]) (by simp [results, Try.results238, go_sem]) rfl ?_
        rw [← HRR.out, setLeaf_new (by rw [HNX.out]; exact HNO.out) (by rw [HL.out]; rintro ⟨h, -⟩; omega), HNX.out, hnone]
        exact LeafRes.bad rfl (hbl.trans hb3)
      · have HK4 := I3.kid i' hi'
        rw [hnd, hKi] at HK4
        have HS4 := I3.sK i' hi' (by rw [hKi]; exact (by decide : (4 : Nat) ≠ 0))
        rw [hKi] at HS4
        have HK4' : Hid _ := HK4
        have HS4' : Hid _ := HS4
        have HI3 : Hid _ := I3
        have HNEW : Hid _ := hnew
        clear HK4 HS4 I3 hnew hKi hnd
        go_wp2_with fail
        refine (l4More_leaf (by exact HI3.out) (pos_new HA.out.inv (by show (0 : Int) ≤ 1; decide) HNEW.out) (some ⟨s, 0, none⟩) 4 nx HK4'.out HS4'.out.2.1 HS4'.out.2.2 q (by rw [← HNX.out, ← hq]; exact next_in HA.out)).mono ?_
        rintro e w4 (⟨hmn, rfl, hb4⟩ | ⟨g, hmg, rfl, I4, S4⟩)
        · have HM : Hid _ := hmn
          clear hmn
          go_wp2
          refine bodyPost_ret (v := .tuple #[.int .i64 (-1), .int .i64 2]) (by simp [results, Try.results238, go_sem]) rfl ?_
          rw [← HRR.out, setLeaf_new (by rw [HNX.out]; exact HNO.out) (by rw [HL.out]; rintro ⟨h, -⟩; omega), HNX.out, HNEW.out]
          simp only [Int.toNat_natCast, hq, HM.out]
          exact LeafRes.bad rfl ((hbl.trans hb3).trans hb4)
        · have HM : Hid _ := hmg
          have HI4 : Hid _ := I4
          have HS4'' : Hid _ := S4
          clear hmg I4 S4
          go_wp2
          refine bodyPost_ret (v := .tuple #[.int .i64 (i' : Int), .int .i64 0]) (by simp [results, Try.results238, go_sem]) rfl ?_
          rw [← HRR.out, setLeaf_new (by rw [HNX.out]; exact HNO.out) (by rw [HL.out]; rintro ⟨h, -⟩; omega), HNX.out, HNEW.out]
          simp only [Int.toNat_natCast, hq, HM.out]
          exact LeafRes.ok rfl HI4.out ((hbl.trans hb3).trans (HI3.out.bel HS4''.out))
  · obtain ⟨_, n1, n2, r0, _, _⟩ := hlc.resolve_left (by omega)
    rw [hL] at n1 n2
    obtain ⟨i, rfl⟩ : ∃ i : Nat, L = i := ⟨L.toNat, by omega⟩
    obtain ⟨k, rfl⟩ : ∃ k : Nat, root = k := ⟨root.toNat, by omega⟩
    obtain ⟨_, m1, _⟩ := hA.ro.resolve_left (by omega)
    rw [Int.toNat_natCast] at n1 n2 m1
    have hi : i < nn := by have := live_lt n1; omega
    have hk : k < nn := by have := live_lt m1; omega
    have hil : (i : Int) < nn := by omega
    have hkl : (k : Int) < nn := by omega
    have n4 := (hA.inv.nd i).kl n1
    obtain ⟨g, cap, ev, hg, d0, d1, d2, x0, x1, x2⟩ := I.node (i := i) (by omega)
    injection ev with ea en ec
    subst ea
    clear en ec
    obtain ⟨g', cap', ev', _, e0, _⟩ := I.node (i := k) (by omega)
    injection ev' with ea en ec
    injection ea with ea
    injection ea with ea
    subst ea
    clear en ec
    have KR := I.kid i (by omega)
    have hnd1 : nodeOf f i = f.1.getD i nd0 := rfl
    have hnd2 : nodeOf f k = f.1.getD k nd0 := rfl
    rw [hnd1] at n1 n2 n4
    obtain ⟨⟨ri, lf, ks⟩, hnd⟩ : ∃ nd, f.1.getD i nd0 = nd := ⟨_, rfl⟩
    obtain ⟨⟨rk, lk, kk⟩, hnk⟩ : ∃ nd, f.1.getD k nd0 = nd := ⟨_, rfl⟩
    rw [hnd] at d0 d1 n1 n2 n4 KR hnd1
    rw [hnk] at e0 hnd2
    simp only at d0 d1 e0 n1 n2 n4 KR
    have hkn := KR.nInts
    have hsK := fun hne => (I.sK i (by omega) hne)
    obtain ⟨⟨ka, kn, kc⟩, hks⟩ : ∃ q, K i = q := ⟨_, rfl⟩
    rw [hks] at KR d2 hkn hsK
    simp only at KR d2 hkn hsK
    obtain rfl : kn = 4 := by omega
    have HO : Hid (oldKids f k a = ks) := by show _ = _; rw [oldKids, hL, if_pos (by omega), Int.toNat_natCast, hnd1]
    have HK : Hid (nextKids f k a b = withKid ks q b) := by show _ = _; rw [nextKids, HO.out, ← hq]; rfl
    have HR1 : Hid _ := hnd1
    have HR2 : Hid _ := hnd2
    have HKR : Hid _ := KR
    have c1 := I.c1
    have HSK : Hid _ := hsK
    clear I RF hr hA hL hlc hL0 hnd hnk hnd1 hnd2 KR hsK hks
    go_enter Try.func238, Try.ntmps238
    go_wp2_with fail
    refine (l4Leaf_is P (some ⟨g, 0, none⟩) nn cn ab nb cb K f _ (by exact HR.out) c0 (by omega) k a ha H1.out i HL.out).mono ?_
    rintro e w' ⟨rfl, rfl⟩
    have A : Below w'.heap.size w' (w'.alloc (.cells #[] 2)) := (Below.refl _ _).alloc (Nat.le_refl _) _
    have c0A := cell_later A c0
    have d2A := cell_later A d2
    go_wp2_with fail
    refine (l4With_any ka 4 kc ks _ (HKR.out.below A) (Or.inl n4) q hq4 b).mono ?_
    rintro e w1 ⟨rfl, N1, hb1⟩
    have hbw := below_next A hb1
    rw [← HK.out] at N1
    obtain ⟨s, hs⟩ : ∃ s, (w'.alloc (.cells #[] 2)).heap.size = s := ⟨_, rfl⟩
    have hsw : w'.heap.size ≤ s := by rw [← hs]; exact A.size
    rw [hs] at N1 ⊢
    clear hs hb1 A c0A d2A
    replace c0 := cell_later hbw c0
    replace c1 := cell_later hbw c1
    replace d0 := cell_later hbw d0
    replace d2 := cell_later hbw d2
    replace e0 := cell_later hbw e0
    replace x2 := frozen_later hbw hg x2
    obtain ⟨nx, hnx⟩ : ∃ nx, nextKids f k a b = nx := ⟨_, rfl⟩
    have HNX : Hid _ := hnx
    rw [hnx] at N1
    clear hnx
    have hs1 : s < w1.heap.size := (N1.block_lt (by decide)).2.2
    have I1 := HI.out.below hbw
    have HN : Hid (RowAt w1 true lo w1.heap.size 1 (some ⟨s, 0, none⟩) 4 4 (ints nx)) := N1.widen (by omega) (by omega)
    have hsep : (4 : Nat) ≠ 0 → s ≠ P ∧ (Value.slice (some ⟨g, 0, none⟩) nn cn).ownBlock ≠ some s ∧ (nb ≠ 0 → s ≠ sb ab) := fun _ => ⟨by omega, fun e => by have := (HI.out.own.lt s e).2; omega, fun hne => by have := (HI.out.blk.block_lt hne).2.2; omega⟩
    have HS : Hid _ := hsep
    have hbl : Below lo w' w1 := hbw.mono (by omega)
    clear N1 hsep
    by_cases hno : noneOf nx = true
    · have HNO : Hid _ := hno
      have HI1 : Hid _ := I1
      clear hno I1
      go_wp2_with fail
      refine (l4None_is _ 4 4 nx _ HN.out (by omega) true HNO.out).mono ?_
      rintro e w2 ⟨rfl, rfl⟩
      go_wp2
      refine bodyPost_ret (v := .tuple #[.int .i64 (-1), .int .i64 0]) (by simp [results, Try.results238, go_sem]) rfl ?_
      rw [← HRR.out, setLeaf_none (by rw [HNX.out]; exact HNO.out)]
      exact LeafRes.ok rfl HI1.out hbl
    · have HNO : Hid (noneOf nx = false) := by show _ = _; simpa using hno
      clear hno
      by_cases hri : ri = 1
      · by_cases hrk : rk = 1
        · subst hri
          subst hrk
          obtain ⟨bk, ok, rfl, _, _, _, e1, _⟩ := (HKR.out.below hbw).int hq4
          have hold := oldKids_live HA.out.inv HA.out.ro HA.out.at0 HA.out.at1 (k := ks.getD q 0) (by rw [HO.out]; exact getD_four n4 hq4)
          obtain ⟨y, hy⟩ : ∃ y, ks.getD q 0 = y := ⟨_, rfl⟩
          rw [hy] at e1 hold
          have HY : Hid _ := hy
          have hgl : vnB g s P ab nb := ⟨fun e => (I1.sV (by rw [e]; rfl)), fun e => (HS.out (by decide)).2.1 (by rw [e]; rfl), fun hne e => (I1.sB hne).2 (by rw [← e]; rfl)⟩
          have hPg := hgl.1
          have hsg := hgl.2.1
          have hsP := (HS.out (by decide)).1
          have hg1 : g < w1.heap.size := Nat.lt_of_lt_of_le hg hbw.size
          by_cases hy0 : y < 0
          · have IK := I1.kids hnn.symm (i := i) (by omega) (some ⟨s, 0, none⟩, 4, 4) nx HN.out (fun _ => ⟨hsP, hsg, (HS.out (by decide)).2.2⟩)
            have S5 : KeptS (inO (.slice (some ⟨g, 0, none⟩) nn cn) ab nb) w1 (w1.setCell ⟨g, i * 3 + 2, none⟩ (.slice (some ⟨s, 0, none⟩) 4 4)) := (KeptS.refl _ _).setCell (p := ⟨g, i * 3 + 2, none⟩) (Or.inl rfl) _
            have HB5 : Hid _ := hbl.trans (I1.bel S5)
            have HIK : Hid _ := IK
            clear IK S5 I1 hy hold
            go_wp2_with fail
            refine (l4None_is _ 4 4 nx _ HN.out (by omega) false HNO.out).mono ?_
            rintro e w2 ⟨rfl, rfl⟩
            go_wp2
            refine bodyPost_ret (v := .tuple #[.int .i64 (i : Int), .int .i64 0]) (by simp [results, Try.results238, go_sem]) rfl ?_
            rw [← HRR.out, setLeaf_same (by rw [HNX.out]; exact HNO.out) (by rw [HL.out, Int.toNat_natCast, Int.toNat_natCast, HR1.out, HR2.out]; exact ⟨by omega, rfl, rfl⟩), HL.out, HO.out, Int.toNat_natCast, Int.toNat_natCast, hq, HY.out, if_neg (by omega), HNX.out]
            exact LeafRes.ok rfl HIK.out HB5.out
          · obtain ⟨m, rfl⟩ : ∃ m : Nat, y = m := ⟨y.toNat, by omega⟩
            obtain ⟨_, hlive⟩ := hold.resolve_left (by omega)
            rw [Int.toNat_natCast] at hlive
            have hmb := liveB_lt hlive
            have hnbl := I1.blk.nPairs
            have hmn : m < nb := by omega
            have hmi : (m : Int) < nb := by omega
            have hne : nb ≠ 0 := by omega
            obtain ⟨gB, rfl⟩ := I1.bf hne
            have hone := blkOne_zero (HA.out.inv.bk m)
            have hgB : g ≠ gB := hgl.2.2 hne
            have hsB : s ≠ gB := (HS.out (by decide)).2.2 hne
            have hPB : P ≠ gB := fun e => (I1.sB hne).1 (by simp [sb, e])
            have HRB : Hid _ := I1.blk.pin
            have HI1 : Hid _ := I1
            clear I1 hy hold hlive hmb hnbl hgl
            go_wp2_with fail
            refine (l4None_is _ 4 4 nx _ HN.out (by omega) false HNO.out).mono ?_
            rintro e w2 ⟨rfl, rfl⟩
            go_wp2_with fail
            refine (l3Drop_any gB nb cb f.2 m _ HRB.out hmn hone.1 hone.2.1 (lessB f.2 m) rfl).mono ?_
            rintro e w3 ⟨⟨v, rfl⟩, R3, K3⟩
            have I3 := HI1.out.blocks hne K3 R3
            have HN3 := (HN.out.keptS (K3.toS (S := fun x => x = gB) fun x h1 h2 => by omega) fun a _ e => by cases e; exact hsB).widen (Nat.le_refl _) K3.size
            have IK := I3.kids hnn.symm (i := i) (by show i < f.1.length; omega) (some ⟨s, 0, none⟩, 4, 4) nx HN3 (fun _ => ⟨hsP, hsg, fun _ => hsB⟩)
            have S5 : KeptS (inO (.slice (some ⟨g, 0, none⟩) nn cn) (some ⟨gB, 0, none⟩) nb) w2 (w3.setCell ⟨g, i * 3 + 2, none⟩ (.slice (some ⟨s, 0, none⟩) 4 4)) := (K3.toS (S := inO (.slice (some ⟨g, 0, none⟩) nn cn) (some ⟨gB, 0, none⟩) nb) fun x h1 h2 => Or.inr ⟨hne, by simp [sb]; omega⟩).setCell (p := ⟨g, i * 3 + 2, none⟩) (Or.inl rfl) _
            have HB5 : Hid _ := hbl.trans (HI1.out.bel S5)
            have HIK : Hid _ := IK
            replace c0 := K3.cell c0 (by omega)
            replace d2 := K3.cell d2 (by omega)
            replace x2 := K3.frozen hg1 (by omega) x2
            clear IK S5 I3 HN3 K3 R3
            go_wp2
            refine bodyPost_ret (v := .tuple #[.int .i64 (i : Int), .int .i64 0]) (by simp [results, Try.results238, go_sem]) rfl ?_
            rw [← HRR.out, setLeaf_same (by rw [HNX.out]; exact HNO.out) (by rw [HL.out, Int.toNat_natCast, Int.toNat_natCast, HR1.out, HR2.out]; exact ⟨by omega, rfl, rfl⟩), HL.out, HO.out, Int.toNat_natCast, Int.toNat_natCast, hq, HY.out, if_pos (by omega), Int.toNat_natCast, HNX.out]
            exact LeafRes.ok rfl HIK.out HB5.out
        · subst hri
          have hrk' : (rk == 1) = false := by simp [hrk]
          have HI1 : Hid _ := I1
          clear I1
          go_wp2_with fail
          refine (l4None_is _ 4 4 nx _ HN.out (by omega) false HNO.out).mono ?_
          rintro e w2 ⟨rfl, rfl⟩
          go_wp2_with fail
          refine (l4New_any (by exact HI1.out) (by omega) 1 true nx (some ⟨s, 0, none⟩) 4 4 HN.out HS.out).mono ?_
          rintro e w3 (⟨hnone, rfl, hb3⟩ | ⟨i', ns, va, vc, K', hnew, rfl, I3, hKi, hi', hnd, hb3⟩)
          · go_wp2
            refine bodyPost_ret (v := .tuple #[.int .i64 (-1), .int .i64 2]) (by simp [results, Try.results238, go_sem]) rfl ?_
            rw [← HRR.out, setLeaf_new (by rw [HNX.out]; exact HNO.out) (by rw [HL.out, Int.toNat_natCast, Int.toNat_natCast, HR2.out]; rintro ⟨-, -, h⟩; exact hrk h), HNX.out, hnone]
            exact LeafRes.bad rfl (hbl.trans hb3)
          · have HK4 := I3.kid i' hi'
            rw [hnd, hKi] at HK4
            have HS4 := I3.sK i' hi' (by rw [hKi]; exact (by decide : (4 : Nat) ≠ 0))
            rw [hKi] at HS4
            have HK4' : Hid _ := HK4
            have HS4' : Hid _ := HS4
            have HI3 : Hid _ := I3
            have HNEW : Hid _ := hnew
            clear HK4 HS4 I3 hnew hKi hnd
            go_wp2_with fail
            refine (l4More_leaf (by exact HI3.out) (pos_new HA.out.inv (by show (0 : Int) ≤ 1; decide) HNEW.out) (some ⟨s, 0, none⟩) 4 nx HK4'.out HS4'.out.2.1 HS4'.out.2.2 q (by rw [← HNX.out, ← hq]; exact next_in HA.out)).mono ?_
            rintro e w4 (⟨hmn, rfl, hb4⟩ | ⟨g, hmg, rfl, I4, S4⟩)
            · have HM : Hid _ := hmn
              clear hmn
              go_wp2
              refine bodyPost_ret (v := .tuple #[.int .i64 (-1), .int .i64 2]) (by simp [results, Try.results238, go_sem]) rfl ?_
              rw [← HRR.out, setLeaf_new (by rw [HNX.out]; exact HNO.out) (by rw [HL.out, Int.toNat_natCast, Int.toNat_natCast, HR2.out]; rintro ⟨-, -, h⟩; exact hrk h), HNX.out, HNEW.out]
              simp only [Int.toNat_natCast, hq, HM.out]
              exact LeafRes.bad rfl ((hbl.trans hb3).trans hb4)
            · have HM : Hid _ := hmg
              have HI4 : Hid _ := I4
              have HS4'' : Hid _ := S4
              clear hmg I4 S4
              go_wp2
              refine bodyPost_ret (v := .tuple #[.int .i64 (i' : Int), .int .i64 0]) (by simp [results, Try.results238, go_sem]) rfl ?_
              rw [← HRR.out, setLeaf_new (by rw [HNX.out]; exact HNO.out) (by rw [HL.out, Int.toNat_natCast, Int.toNat_natCast, HR2.out]; rintro ⟨-, -, h⟩; exact hrk h), HNX.out, HNEW.out]
              simp only [Int.toNat_natCast, hq, HM.out]
              exact LeafRes.ok rfl HI4.out ((hbl.trans hb3).trans (HI3.out.bel HS4''.out))
      · have hri' : (ri == 1) = false := by simp [hri]
        have HI1 : Hid _ := I1
        clear I1
        go_wp2_with fail
        refine (l4None_is _ 4 4 nx _ HN.out (by omega) false HNO.out).mono ?_
        rintro e w2 ⟨rfl, rfl⟩
        go_wp2_with fail
        refine (l4New_any (by exact HI1.out) (by omega) 1 true nx (some ⟨s, 0, none⟩) 4 4 HN.out HS.out).mono ?_
        rintro e w3 (⟨hnone, rfl, hb3⟩ | ⟨i', ns, va, vc, K', hnew, rfl, I3, hKi, hi', hnd, hb3⟩)
        · go_wp2
          refine bodyPost_ret (v := .tuple #[.int .i64 (-1), .int .i64 2]) (by simp [results, Try.results238, go_sem]) rfl ?_
          rw [← HRR.out, setLeaf_new (by rw [HNX.out]; exact HNO.out) (by rw [HL.out, Int.toNat_natCast, Int.toNat_natCast, HR1.out]; rintro ⟨-, h, -⟩; exact hri h), HNX.out, hnone]
          exact LeafRes.bad rfl (hbl.trans hb3)
        · have HK4 := I3.kid i' hi'
          rw [hnd, hKi] at HK4
          have HS4 := I3.sK i' hi' (by rw [hKi]; exact (by decide : (4 : Nat) ≠ 0))
          rw [hKi] at HS4
          have HK4' : Hid _ := HK4
          have HS4' : Hid _ := HS4
          have HI3 : Hid _ := I3
          have HNEW : Hid _ := hnew
          clear HK4 HS4 I3 hnew hKi hnd
          go_wp2_with fail
          refine (l4More_leaf (by exact HI3.out) (pos_new HA.out.inv (by show (0 : Int) ≤ 1; decide) HNEW.out) (some ⟨s, 0, none⟩) 4 nx HK4'.out HS4'.out.2.1 HS4'.out.2.2 q (by rw [← HNX.out, ← hq]; exact next_in HA.out)).mono ?_
          rintro e w4 (⟨hmn, rfl, hb4⟩ | ⟨g, hmg, rfl, I4, S4⟩)
          · have HM : Hid _ := hmn
            clear hmn
            go_wp2
            refine bodyPost_ret (v := .tuple #[.int .i64 (-1), .int .i64 2]) (by simp [results, Try.results238, go_sem]) rfl ?_
            rw [← HRR.out, setLeaf_new (by rw [HNX.out]; exact HNO.out) (by rw [HL.out, Int.toNat_natCast, Int.toNat_natCast, HR1.out]; rintro ⟨-, h, -⟩; exact hri h), HNX.out, HNEW.out]
            simp only [Int.toNat_natCast, hq, HM.out]
            exact LeafRes.bad rfl ((hbl.trans hb3).trans hb4)
          · have HM : Hid _ := hmg
            have HI4 : Hid _ := I4
            have HS4'' : Hid _ := S4
            clear hmg I4 S4
            go_wp2
            refine bodyPost_ret (v := .tuple #[.int .i64 (i' : Int), .int .i64 0]) (by simp [results, Try.results238, go_sem]) rfl ?_
            rw [← HRR.out, setLeaf_new (by rw [HNX.out]; exact HNO.out) (by rw [HL.out, Int.toNat_natCast, Int.toNat_natCast, HR1.out]; rintro ⟨-, h, -⟩; exact hri h), HNX.out, HNEW.out]
            simp only [Int.toNat_natCast, hq, HM.out]
            exact LeafRes.ok rfl HI4.out ((hbl.trans hb3).trans (HI3.out.bel HS4''.out))

end Go.Proofs.Ytkdaphfmhdkhfaa

/- Chapter 4: the root with another leaf at a place: what the model does. -/
namespace Go.Proofs.Ytkdaphfmhdkhfaa
open Go.RowKit

/-- what 'setRoot' says, by its ways -/
theorem setRoot_none {f : Fo} {root x L : Int} (h : noneOf (nextLeaves f root x L) = true) : setRoot f root x L = (-1, 0, if 0 ≤ root then lessRoot f root.toNat else f) := by
  unfold setRoot; unfold nextLeaves rootKids at h; simp only [h, if_true]
theorem setRoot_new {f : Fo} {root x L : Int} (h : noneOf (nextLeaves f root x L) = false) (h2 : ¬ (0 ≤ root ∧ (nodeOf f root.toNat).1 = 1)) :
    setRoot f root x L = match newNd f.1 (1, false, nextLeaves f root x L) with
      | none => (-1, 2, f)
      | some (i, ns) => match moreKids (ns, f.2) false (nextLeaves f root x L) (x.toNat / 4) with
        | none => (-1, 2, f)
        | some f2 => (i, 0, if 0 ≤ root then lessRoot f2 root.toNat else f2) := by
  unfold setRoot; unfold nextLeaves rootKids at *; simp only [h, if_neg h2]; rfl
theorem setRoot_same {f : Fo} {root x L : Int} (h : noneOf (nextLeaves f root x L) = false) (h2 : 0 ≤ root ∧ (nodeOf f root.toNat).1 = 1) :
    setRoot f root x L = (root, 0, if 0 ≤ (rootKids f root).getD (x.toNat / 4) 0 ∧ (rootKids f root).getD (x.toNat / 4) 0 ≠ L then lessLeaf (f.1.set root.toNat ((nodeOf f root.toNat).1, (nodeOf f root.toNat).2.1, nextLeaves f root x L), f.2) ((rootKids f root).getD (x.toNat / 4) 0).toNat else (f.1.set root.toNat ((nodeOf f root.toNat).1, (nodeOf f root.toNat).2.1, nextLeaves f root x L), f.2)) := by
  unfold setRoot; unfold nextLeaves rootKids at *; simp only [h, if_pos h2]; rfl

set_option maxRecDepth 20000 in
set_option maxHeartbeats 8000000 in
theorem l4SetRoot_any {w : World} {lo P : Nat} {vn : Value} {ab : Option Addr} {nb cb : Nat} {K : Nat → KS} {f : Fo} (I : OutAt w lo P vn ab nb cb K f) (root : Int) (a : Nat) (L : Int) (hA : AskR f root a L) (r : Int × Int × Fo) (hr : setRoot f root a L = r) :
    Calls Try.prog 239 #[.pointer (some ⟨P, 0, none⟩), .int .i64 root, .int .i64 (a : Int), .int .i64 L] w fun e w' => LeafRes w w' e lo P ab nb cb r := by
  have ha : a ≤ 15 := by have := hA.at1; omega
  obtain ⟨an, cn, hv, -⟩ := I.read
  subst hv
  obtain ⟨nn, hnn⟩ : ∃ nn, f.1.length = nn := ⟨_, rfl⟩
  have hN := hA.inv.nn
  have c0 := I.c0
  have hnb : nb ≤ 24 := by have := I.blk.nPairs; have := hA.inv.nb; omega
  rw [hnn] at c0 I hN
  have hP := I.hP
  obtain ⟨q, hq⟩ : ∃ q, a / 4 = q := ⟨_, rfl⟩
  have hq4 : q < 4 := by omega
  have hq' : (a : Int) / 4 = (q : Int) := by omega
  have HI : Hid _ := I
  have HRR : Hid _ := hr
  have HA : Hid _ := hA
  have A : Below w.heap.size w (w.alloc (.cells #[] 2)) := (Below.refl _ _).alloc (Nat.le_refl _) _
  by_cases hL0 : root < 0
  · obtain rfl : root = -1 := by rcases hA.ro with e | e <;> omega
    have HK : Hid (nextLeaves f (-1) a L = withKid [] q L) := by show _ = _; rw [nextLeaves, rootKids, if_neg (by decide), ← hq]; rfl
    clear I hr hA hL0
    go_enter Try.func239, Try.ntmps239
    go_wp2_with fail
    refine (l4With_any (o := false) (l := 0) (u := 0) (some ⟨w.heap.size, 0, none⟩) 0 0 [] _ ⟨rfl, Nat.le_refl _, fun h => absurd rfl h⟩ (Or.inr rfl) q hq4 L).mono ?_
    rintro e w1 ⟨rfl, N1, hb1⟩
    have hbw := below_next A hb1
    rw [← HK.out] at N1
    obtain ⟨s, hs⟩ : ∃ s, (w.alloc (.cells #[] 2)).heap.size = s := ⟨_, rfl⟩
    have hsw : w.heap.size ≤ s := by rw [← hs]; exact A.size
    rw [hs] at N1 ⊢
    clear hs hb1 A
    obtain ⟨nx, hnx⟩ : ∃ nx, nextLeaves f (-1) a L = nx := ⟨_, rfl⟩
    have HNX : Hid _ := hnx
    rw [hnx] at N1
    clear hnx
    have hs1 : s < w1.heap.size := (N1.block_lt (by decide)).2.2
    have I1 := HI.out.below hbw
    have HN : Hid (RowAt w1 true lo w1.heap.size 1 (some ⟨s, 0, none⟩) 4 4 (ints nx)) := N1.widen (by omega) (by omega)
    have hsep : (4 : Nat) ≠ 0 → s ≠ P ∧ (Value.slice an nn cn).ownBlock ≠ some s ∧ (nb ≠ 0 → s ≠ sb ab) := fun _ => ⟨by omega, fun e => by have := (HI.out.own.lt s e).2; omega, fun hne => by have := (HI.out.blk.block_lt hne).2.2; omega⟩
    have HS : Hid _ := hsep
    have hbl : Below lo w w1 := hbw.mono (by omega)
    clear N1 hsep
    by_cases hno : noneOf nx = true
    · have HNO : Hid _ := hno
      have HI1 : Hid _ := I1
      clear hno I1
      go_wp2_with fail
      refine (l4None_is _ 4 4 nx _ HN.out (by omega) true HNO.out).mono ?_
      rintro e w2 ⟨rfl, rfl⟩
      go_wp2
      refine bodyPost_ret (v := .tuple #[.int .i64 (-1), .int .i64 0]) (by simp [results, Try.results239, go_sem]) rfl ?_
      rw [← HRR.out, setRoot_none (by rw [HNX.out]; exact HNO.out), if_neg (by decide)]
      exact LeafRes.ok rfl HI1.out hbl
    · have HNO : Hid (noneOf nx = false) := by show _ = _; simpa using hno
      clear hno
      have HI1 : Hid _ := I1
      clear I1
      go_wp2_with fail
      refine (l4None_is _ 4 4 nx _ HN.out (by omega) false HNO.out).mono ?_
      rintro e w2 ⟨rfl, rfl⟩
      go_wp2_with fail
      refine (l4New_any (by exact HI1.out) (by omega) 1 false nx (some ⟨s, 0, none⟩) 4 4 HN.out HS.out).mono ?_
      rintro e w3 (⟨hnone, rfl, hb3⟩ | ⟨i', ns, va, vc, K', hnew, rfl, I3, hKi, hi', hnd, hb3⟩)
      · go_wp2
        refine bodyPost_ret (v := .tuple #[.int .i64 (-1), .int .i64 2]) (by simp [results, Try.results239, go_sem]) rfl ?_
        rw [← HRR.out, setRoot_new (by rw [HNX.out]; exact HNO.out) (by rintro ⟨h, -⟩; omega), HNX.out, hnone]
        exact LeafRes.bad rfl (hbl.trans hb3)
      · have HK4 := I3.kid i' hi'
        rw [hnd, hKi] at HK4
        have HS4 := I3.sK i' hi' (by rw [hKi]; exact (by decide : (4 : Nat) ≠ 0))
        rw [hKi] at HS4
        have HK4' : Hid _ := HK4
        have HS4' : Hid _ := HS4
        have HI3 : Hid _ := I3
        have HNEW : Hid _ := hnew
        clear HK4 HS4 I3 hnew hKi hnd
        go_wp2_with fail
        refine (l4More_root (by exact HI3.out) (pos_new HA.out.inv (by show (0 : Int) ≤ 1; decide) HNEW.out) (some ⟨s, 0, none⟩) 4 nx HK4'.out HS4'.out.2.1 HS4'.out.2.2 q (by rw [← HNX.out, ← hq]; exact leaves_in HA.out HNEW.out)).mono ?_
        rintro e w4 (⟨hmn, rfl, hb4⟩ | ⟨g4, hmg, rfl, I4, S4⟩)
        · have HM : Hid _ := hmn
          clear hmn
          go_wp2
          refine bodyPost_ret (v := .tuple #[.int .i64 (-1), .int .i64 2]) (by simp [results, Try.results239, go_sem]) rfl ?_
          rw [← HRR.out, setRoot_new (by rw [HNX.out]; exact HNO.out) (by rintro ⟨h, -⟩; omega), HNX.out, HNEW.out]
          simp only [Int.toNat_natCast, hq, HM.out]
          exact LeafRes.bad rfl ((hbl.trans hb3).trans hb4)
        · have HM : Hid _ := hmg
          have HI4 : Hid _ := I4
          have HS4'' : Hid _ := S4
          clear hmg I4 S4
          go_wp2
          refine bodyPost_ret (v := .tuple #[.int .i64 (i' : Int), .int .i64 0]) (by simp [results, Try.results239, go_sem]) rfl ?_
          rw [← HRR.out, setRoot_new (by rw [HNX.out]; exact HNO.out) (by rintro ⟨h, -⟩; omega), HNX.out, HNEW.out]
          simp only [Int.toNat_natCast, hq, HM.out]
          rw [if_neg (by decide)]
          exact LeafRes.ok rfl HI4.out ((hbl.trans hb3).trans (HI3.out.bel HS4''.out))
  · obtain ⟨_, m1, m2⟩ := hA.ro.resolve_left (by omega)
    obtain ⟨k, rfl⟩ : ∃ k : Nat, root = k := ⟨root.toNat, by omega⟩
    rw [Int.toNat_natCast] at m1 m2
    have hk : k < nn := by have := live_lt m1; omega
    have hkl : (k : Int) < nn := by omega
    have n4 := (hA.inv.nd k).kl m1
    obtain ⟨g, cap, ev, hg, d0, d1, d2, x0, x1, x2⟩ := I.node (i := k) (by omega)
    injection ev with ea en ec
    subst ea
    clear en ec
    have KR := I.kid k (by omega)
    have hnd1 : nodeOf f k = f.1.getD k nd0 := rfl
    rw [hnd1] at m1 m2 n4
    obtain ⟨⟨rk, lf, ks⟩, hnd⟩ : ∃ nd, f.1.getD k nd0 = nd := ⟨_, rfl⟩
    rw [hnd] at d0 d1 m1 m2 n4 KR hnd1
    simp only at d0 d1 m1 m2 n4 KR
    subst m2
    have hkn := KR.nInts
    obtain ⟨⟨ka, kn, kc⟩, hks⟩ : ∃ q, K k = q := ⟨_, rfl⟩
    rw [hks] at KR d2 hkn
    simp only at KR d2 hkn
    obtain rfl : kn = 4 := by omega
    have HO : Hid (rootKids f k = ks) := by show _ = _; rw [rootKids, if_pos (by omega), Int.toNat_natCast, hnd1]
    have HK : Hid (nextLeaves f k a L = withKid ks q L) := by show _ = _; rw [nextLeaves, HO.out, ← hq]; rfl
    have HR1 : Hid _ := hnd1
    have HKR : Hid _ := KR
    have c1 := I.c1
    have hk0 : (0 : Int) ≤ (k : Int) := by omega
    clear I hr hA hL0 hnd hnd1 KR hks
    have c0A := cell_later A c0
    have d2A := cell_later A d2
    go_enter Try.func239, Try.ntmps239
    go_wp2_with fail
    refine (l4With_any ka 4 kc ks _ (HKR.out.below A) (Or.inl n4) q hq4 L).mono ?_
    rintro e w1 ⟨rfl, N1, hb1⟩
    have hbw := below_next A hb1
    rw [← HK.out] at N1
    obtain ⟨s, hs⟩ : ∃ s, (w.alloc (.cells #[] 2)).heap.size = s := ⟨_, rfl⟩
    have hsw : w.heap.size ≤ s := by rw [← hs]; exact A.size
    rw [hs] at N1 ⊢
    clear hs hb1 A c0A d2A
    replace c0 := cell_later hbw c0
    replace c1 := cell_later hbw c1
    replace d0 := cell_later hbw d0
    replace d2 := cell_later hbw d2
    replace x2 := frozen_later hbw hg x2
    obtain ⟨nx, hnx⟩ : ∃ nx, nextLeaves f k a L = nx := ⟨_, rfl⟩
    have HNX : Hid _ := hnx
    rw [hnx] at N1
    clear hnx
    have hs1 : s < w1.heap.size := (N1.block_lt (by decide)).2.2
    have I1 := HI.out.below hbw
    have HN : Hid (RowAt w1 true lo w1.heap.size 1 (some ⟨s, 0, none⟩) 4 4 (ints nx)) := N1.widen (by omega) (by omega)
    have hsep : (4 : Nat) ≠ 0 → s ≠ P ∧ (Value.slice (some ⟨g, 0, none⟩) nn cn).ownBlock ≠ some s ∧ (nb ≠ 0 → s ≠ sb ab) := fun _ => ⟨by omega, fun e => by have := (HI.out.own.lt s e).2; omega, fun hne => by have := (HI.out.blk.block_lt hne).2.2; omega⟩
    have HS : Hid _ := hsep
    have hbl : Below lo w w1 := hbw.mono (by omega)
    clear N1 hsep
    by_cases hno : noneOf nx = true
    · have HNO : Hid _ := hno
      have HI1 : Hid _ := I1
      clear hno I1
      go_wp2_with fail
      refine (l4None_is _ 4 4 nx _ HN.out (by omega) true HNO.out).mono ?_
      rintro e w2 ⟨rfl, rfl⟩
      go_wp2_with fail
      refine (l4Less_root (by exact HI1.out) hnb (root_less HA.out rfl) _ rfl).mono ?_
      rintro e w3 ⟨⟨v, rfl⟩, ⟨K3, I3⟩, S3⟩
      have HI3 : Hid _ := I3
      have HS3 : Hid _ := S3
      clear I3 S3
      go_wp2
      refine bodyPost_ret (v := .tuple #[.int .i64 (-1), .int .i64 0]) (by simp [results, Try.results239, go_sem]) rfl ?_
      rw [← HRR.out, setRoot_none (by rw [HNX.out]; exact HNO.out), if_pos hk0, Int.toNat_natCast]
      exact LeafRes.ok rfl HI3.out (hbl.trans (HI1.out.bel HS3.out))
    · have HNO : Hid (noneOf nx = false) := by show _ = _; simpa using hno
      clear hno
      by_cases hrk : rk = 1
      · subst hrk
        obtain ⟨bk, ok, rfl, _, _, _, e1, _⟩ := (HKR.out.below hbw).int hq4
        have hold := rootKids_live HA.out.inv HA.out.ro (k := ks.getD q 0) (by rw [HO.out]; exact getD_four n4 hq4)
        obtain ⟨y, hy⟩ : ∃ y, ks.getD q 0 = y := ⟨_, rfl⟩
        rw [hy] at e1 hold
        have HY : Hid _ := hy
        have hgl : vnB g s P ab nb := ⟨fun e => (I1.sV (by rw [e]; rfl)), fun e => (HS.out (by decide)).2.1 (by rw [e]; rfl), fun hne e => (I1.sB hne).2 (by rw [← e]; rfl)⟩
        have hPg := hgl.1
        have hsg := hgl.2.1
        have hsP := (HS.out (by decide)).1
        have hg1 : g < w1.heap.size := Nat.lt_of_lt_of_le hg hbw.size
        have IK := I1.kids hnn.symm (i := k) (by omega) (some ⟨s, 0, none⟩, 4, 4) nx HN.out (fun _ => ⟨hsP, hsg, (HS.out (by decide)).2.2⟩)
        rw [show f.1.getD k nd0 = (1, false, ks) from HR1.out] at IK
        simp only at IK
        have S5 : KeptS (inO (.slice (some ⟨g, 0, none⟩) nn cn) ab nb) w1 (w1.setCell ⟨g, k * 3 + 2, none⟩ (.slice (some ⟨s, 0, none⟩) 4 4)) := (KeptS.refl _ _).setCell (p := ⟨g, k * 3 + 2, none⟩) (Or.inl rfl) _
        have HB5 : Hid _ := hbl.trans (I1.bel S5)
        have HIK : Hid _ := IK
        clear IK S5 I1 hy hgl
        by_cases hy0 : 0 ≤ y ∧ y ≠ L
        · obtain ⟨hy1, hyL⟩ := hy0
          obtain ⟨m, rfl⟩ : ∃ m : Nat, y = m := ⟨y.toNat, by omega⟩
          have HLP : Hid _ := leaf_less HA.out (by rw [HNX.out]; exact HNO.out) (by rw [HR1.out]) (q := m) (by rw [HO.out, Int.toNat_natCast, hq]; exact HY.out) hyL
          rw [HNX.out] at HLP
          have hyL' : ((m : Int) == L) = false := by simp [hyL]
          clear hold
          go_wp2_with fail
          refine (l4None_is _ 4 4 nx _ HN.out (by omega) false HNO.out).mono ?_
          rintro e w2 ⟨rfl, rfl⟩
          go_wp2_with fail
          refine (l4Less_leaf (by exact HIK.out) hnb HLP.out _ rfl).mono ?_
          rintro e w3 ⟨⟨v, rfl⟩, ⟨K3, I3⟩, S3⟩
          have HI3 : Hid _ := I3
          have HS3 : Hid _ := S3
          clear I3 S3
          go_wp2
          refine bodyPost_ret (v := .tuple #[.int .i64 (k : Int), .int .i64 0]) (by simp [results, Try.results239, go_sem]) rfl ?_
          rw [← HRR.out, setRoot_same (by rw [HNX.out]; exact HNO.out) (by rw [Int.toNat_natCast, HR1.out]; exact ⟨hk0, rfl⟩), HO.out, Int.toNat_natCast, Int.toNat_natCast, hq, HY.out, if_pos ⟨hy1, hyL⟩, Int.toNat_natCast, HNX.out, HR1.out]
          exact LeafRes.ok rfl HI3.out (HB5.out.trans (HIK.out.bel HS3.out))
        · have hyy : y < 0 ∨ y = L := by omega
          go_wp2_with fail
          refine (l4None_is _ 4 4 nx _ HN.out (by omega) false HNO.out).mono ?_
          rintro e w2 ⟨rfl, rfl⟩
          by_cases hyn : y < 0
          · go_wp2
            refine bodyPost_ret (v := .tuple #[.int .i64 (k : Int), .int .i64 0]) (by simp [results, Try.results239, go_sem]) rfl ?_
            rw [← HRR.out, setRoot_same (by rw [HNX.out]; exact HNO.out) (by rw [Int.toNat_natCast, HR1.out]; exact ⟨hk0, rfl⟩), HO.out, Int.toNat_natCast, Int.toNat_natCast, hq, HY.out, if_neg (by omega), HNX.out, HR1.out]
            exact LeafRes.ok rfl HIK.out HB5.out
          · obtain rfl : y = L := by omega
            go_wp2
            refine bodyPost_ret (v := .tuple #[.int .i64 (k : Int), .int .i64 0]) (by simp [results, Try.results239, go_sem]) rfl ?_
            rw [← HRR.out, setRoot_same (by rw [HNX.out]; exact HNO.out) (by rw [Int.toNat_natCast, HR1.out]; exact ⟨hk0, rfl⟩), HO.out, Int.toNat_natCast, Int.toNat_natCast, hq, HY.out, if_neg (by omega), HNX.out, HR1.out]
            exact LeafRes.ok rfl HIK.out HB5.out
      · have hrk' : (rk == 1) = false := by simp [hrk]
        have HI1 : Hid _ := I1
        clear I1
        go_wp2_with fail
        refine (l4None_is _ 4 4 nx _ HN.out (by omega) false HNO.out).mono ?_
        rintro e w2 ⟨rfl, rfl⟩
        go_wp2_with fail
        refine (l4New_any (by exact HI1.out) (by omega) 1 false nx (some ⟨s, 0, none⟩) 4 4 HN.out HS.out).mono ?_
        rintro e w3 (⟨hnone, rfl, hb3⟩ | ⟨i', ns, va, vc, K', hnew, rfl, I3, hKi, hi', hnd, hb3⟩)
        · go_wp2
          refine bodyPost_ret (v := .tuple #[.int .i64 (-1), .int .i64 2]) (by simp [results, Try.results239, go_sem]) rfl ?_
          rw [← HRR.out, setRoot_new (by rw [HNX.out]; exact HNO.out) (by rw [Int.toNat_natCast, HR1.out]; rintro ⟨-, h⟩; exact hrk h), HNX.out, hnone]
          exact LeafRes.bad rfl (hbl.trans hb3)
        · have HK4 := I3.kid i' hi'
          rw [hnd, hKi] at HK4
          have HS4 := I3.sK i' hi' (by rw [hKi]; exact (by decide : (4 : Nat) ≠ 0))
          rw [hKi] at HS4
          have HK4' : Hid _ := HK4
          have HS4' : Hid _ := HS4
          have HI3 : Hid _ := I3
          have HNEW : Hid _ := hnew
          clear HK4 HS4 I3 hnew hKi hnd
          go_wp2_with fail
          refine (l4More_root (by exact HI3.out) (pos_new HA.out.inv (by show (0 : Int) ≤ 1; decide) HNEW.out) (some ⟨s, 0, none⟩) 4 nx HK4'.out HS4'.out.2.1 HS4'.out.2.2 q (by rw [← HNX.out, ← hq]; exact leaves_in HA.out HNEW.out)).mono ?_
          rintro e w4 (⟨hmn, rfl, hb4⟩ | ⟨g4, hmg, rfl, I4, S4⟩)
          · have HM : Hid _ := hmn
            clear hmn
            go_wp2
            refine bodyPost_ret (v := .tuple #[.int .i64 (-1), .int .i64 2]) (by simp [results, Try.results239, go_sem]) rfl ?_
            rw [← HRR.out, setRoot_new (by rw [HNX.out]; exact HNO.out) (by rw [Int.toNat_natCast, HR1.out]; rintro ⟨-, h⟩; exact hrk h), HNX.out, HNEW.out]
            simp only [Int.toNat_natCast, hq, HM.out]
            exact LeafRes.bad rfl ((hbl.trans hb3).trans hb4)
          · have HM : Hid _ := hmg
            have HI4 : Hid _ := I4
            have HS4'' : Hid _ := S4
            clear hmg I4 S4
            have HP4 : Hid (RootPre g4 k) := new_less HA.out (by rw [HNX.out]; exact HNO.out) (by rw [Int.toNat_natCast, HR1.out]; rintro ⟨-, h⟩; exact hrk h) (by rw [HNX.out]; exact HNEW.out) (by rw [HNX.out, Int.toNat_natCast, hq]; exact HM.out) rfl
            go_wp2_with fail
            refine (l4Less_root (by exact HI4.out) hnb HP4.out _ rfl).mono ?_
            rintro e w5 ⟨⟨v, rfl⟩, ⟨K5, I5⟩, S5⟩
            have HI5 : Hid _ := I5
            have HS5 : Hid _ := S5
            clear I5 S5
            go_wp2
            refine bodyPost_ret (v := .tuple #[.int .i64 (i' : Int), .int .i64 0]) (by simp [results, Try.results239, go_sem]) rfl ?_
            rw [← HRR.out, setRoot_new (by rw [HNX.out]; exact HNO.out) (by rw [Int.toNat_natCast, HR1.out]; rintro ⟨-, h⟩; exact hrk h), HNX.out, HNEW.out]
            simp only [Int.toNat_natCast, hq, HM.out]
            rw [if_pos hk0]
            exact LeafRes.ok rfl HI5.out (((hbl.trans hb3).trans (HI3.out.bel HS4''.out)).trans (HI4.out.bel HS5.out))

end Go.Proofs.Ytkdaphfmhdkhfaa

/- Chapter 4: a place with another block: what the model does. -/
namespace Go.Proofs.Ytkdaphfmhdkhfaa
open Go.RowKit

theorem askR_of {f : Fo} {root at' b L : Int} {g : Fo} (A : Ask f root at' b) (S : LeafSet f root at' b L g) : AskR g root at' L := by
  have h0 := A.at0; have h1 := A.at1
  -- the root is no leaf, so it stays as it was
  have hrg : 0 ≤ root → nodeOf g root.toNat = nodeOf f root.toNat ∧ (root ≠ L) := fun r0 => by
    obtain ⟨_, r1, r2⟩ := A.ro.resolve_left (by omega)
    rcases S.how with ⟨e1, _, e2, _⟩ | ⟨e1, e2, e3, e4⟩
    · rw [e2]; exact ⟨rfl, by omega⟩
    · have hne : root ≠ L := fun e => by
        rcases e4 with ⟨_, _, x, _⟩ | ⟨x, _⟩
        · rw [← e, r2] at x; cases x
        · rw [← e] at x; rw [x] at r1; exact r1 rfl
      exact ⟨e3 _ (by omega), hne⟩
  have hrk : rootKids g root = rootKids f root := by
    unfold rootKids
    by_cases r0 : 0 ≤ root
    · rw [if_pos r0, if_pos r0, (hrg r0).1]
    · rw [if_neg r0, if_neg r0]
  have hrl : ∀ k : Int, 0 ≤ root → leafAt f root k = (rootKids f root).getD (k.toNat / 4) 0 := fun k r0 => by
    unfold leafAt rootKids; rw [if_neg (by omega), if_pos r0]
  have hst : stays g root at' L ↔ (0 ≤ L ∧ L = leafAt f root at' ∧ (nodeOf f L.toNat).1 = 1 ∧ ∀ m, ext g m = ext f m) ∨ (stays g root at' L ∧ L = -1) := by
    constructor
    · intro hs
      rcases S.how with ⟨e1, _, _, _⟩ | ⟨e1, e2, e3, e4⟩
      · exact Or.inr ⟨hs, e1⟩
      · left
        rcases e4 with ⟨x1, x2, _, _, _, x3⟩ | ⟨x, _⟩
        · exact ⟨e1, x1, x2, x3⟩
        · have hs3 := hs.2.2
          rw [hrk, ← hrl at' hs.1] at hs3
          obtain ⟨_, y1, _⟩ := (leaf_cases A.inv A.ro h0 h1).resolve_left (by omega)
          rw [← hs3, x] at y1; exact absurd rfl y1
    · rintro (⟨e1, e2, e3, e4⟩ | ⟨hs, _⟩)
      · rcases S.how with ⟨e5, _⟩ | ⟨_, _, _, e7⟩
        · omega
        · rcases e7 with ⟨x1, _, _, x4, x5, _⟩ | ⟨x, _⟩
          · refine ⟨x4, by rw [(hrg x4).1]; exact x5, ?_⟩
            rw [hrk, ← hrl at' x4]; exact x1
          · rw [x] at e3; exact absurd e3 (by decide)
      · exact hs
  refine ⟨S.inv, fun m => ?_, S.eb, ?_, fun hL0 => ?_, ?_, h0, h1⟩
  · have := A.ex m
    rcases S.how with ⟨_, _, e2, _⟩ | ⟨_, _, _, ⟨_, _, _, _, _, x⟩ | ⟨_, x⟩⟩
    · rw [e2]; exact this
    · rw [x]; exact this
    · rw [x]; by_cases e : (m : Int) = L
      · rw [if_pos e]; omega
      · rw [if_neg e]; omega
  · rcases S.how with ⟨e1, _⟩ | ⟨e1, e2, _⟩
    · exact Or.inl e1
    · exact Or.inr ⟨e1, by rw [e2]; simp, by rw [e2]⟩
  · rcases S.how with ⟨e1, _⟩ | ⟨e1, _, _, ⟨x1, x2, _, x4, _, x3⟩ | ⟨_, x⟩⟩
    · omega
    · exact Or.inr (hst.2 (Or.inl ⟨e1, x1, x2, x3⟩))
    · left
      rw [x, if_pos (by omega)]
      have := A.ex L.toNat; omega
  · rcases A.ro with e | ⟨r0, r1, r2⟩
    · exact Or.inl e
    · rw [(hrg r0).1]; exact Or.inr ⟨r0, r1, r2⟩

set_option maxRecDepth 20000 in
set_option maxHeartbeats 4000000 in
theorem l4Set_any {w : World} {lo P : Nat} {vn : Value} {ab : Option Addr} {nb cb : Nat} {K : Nat → KS} {f : Fo} (I : OutAt w lo P vn ab nb cb K f) (root : Int) (a : Nat) (b : Int) (hA : Ask f root a b) (r : Int × Int × Fo) (hr : setPlace f root a b = r) :
    Calls Try.prog 172 #[.pointer (some ⟨P, 0, none⟩), .int .i64 root, .int .i64 (a : Int), .int .i64 b] w fun e w' => LeafRes w w' e lo P ab nb cb r := by
  have HI : Hid _ := I
  have HA : Hid _ := hA
  unfold setPlace at hr
  have hS : (setLeaf f root a b).2.1 = 0 → AskR (setLeaf f root a b).2.2 root a (setLeaf f root a b).1 := fun hc => askR_of hA (setLeaf_ok hA hc)
  obtain ⟨⟨L, c, g⟩, hs⟩ : ∃ s, setLeaf f root a b = s := ⟨_, rfl⟩
  rw [hs] at hr hS
  simp only at hr hS
  have HR : Hid _ := hr
  have HS : Hid _ := hS
  have HL : Hid _ := hs
  clear I hA hr hS hs
  go_enter Try.func172, Try.ntmps172
  go_wp2_with fail
  refine (l4SetLeaf_any (by exact HI.out) root a b HA.out _ HL.out).mono ?_
  rintro e w1 (⟨hc, rfl, hb⟩ | ⟨hc, rfl, ⟨vn', K', I'⟩, hb⟩)
  · simp only at hc
    have hne : (c != 0) = true := by simp [hc]
    go_wp2
    refine bodyPost_ret (v := .tuple #[.int .i64 (-1), .int .i64 c]) (by simp [results, Try.results172, go_sem]) rfl ?_
    rw [← HR.out, if_neg hc]
    exact Or.inl ⟨hc, rfl, hb⟩
  · simp only at hc
    subst hc
    have HI' : Hid _ := I'
    clear I'
    go_wp2_with fail
    refine (l4SetRoot_any (by exact HI'.out) root a L (HS.out trivial) _ rfl).mono ?_
    obtain ⟨⟨x, c, g2⟩, hs2⟩ : ∃ s, setRoot g root a L = s := ⟨_, rfl⟩
    rw [hs2]
    rintro e w2 (⟨hc, rfl, hb2⟩ | ⟨hc, rfl, ⟨vn2, K2, I2⟩, hb2⟩)
    · simp only at hc
      have HC : Hid _ := hc
      clear hc
      go_wp2
      refine bodyPost_ret (v := .tuple #[.int .i64 (-1), .int .i64 c]) (by simp [results, Try.results172, go_sem]) rfl ?_
      rw [← HR.out, if_pos trivial, hs2]
      exact Or.inl ⟨HC.out, rfl, hb.trans hb2⟩
    · simp only at hc
      subst hc
      have HI2 : Hid _ := I2
      clear I2
      go_wp2
      refine bodyPost_ret (v := .tuple #[.int .i64 (x), .int .i64 0]) (by simp [results, Try.results172, go_sem]) rfl ?_
      rw [← HR.out, if_pos trivial, hs2]
      exact Or.inr ⟨rfl, rfl, ⟨vn2, K2, HI2.out⟩, hb.trans hb2⟩

end Go.Proofs.Ytkdaphfmhdkhfaa

/- Chapter 4: the model's ClearTree. -/
namespace Go.Proofs.Ytkdaphfmhdkhfaa
open Go.RowKit

set_option maxRecDepth 20000 in
set_option maxHeartbeats 4000000 in
theorem specClearT_is {o : Bool} {l u : Nat} (an : Option Addr) (nn cn : Nat) (ab : Option Addr) (nb cb : Nat) (K : Nat → KS) (f : Fo) (w : World) (h : FoAt w o l u an nn cn ab nb cb K f) (hn : nn ≤ 2097152) (hb : nb ≤ 2097152) (hK : ∀ i, i < nn → (K i).2.1 ≤ 2097152) (root : Int) (at' : Int) (cd rt : Int) (g : Fo) (hc : clearTCode f root at' = cd) (hr : clearRootT f root at' = rt) (hf : clearFo f root at' = g) : Calls Try.prog 67 #[.agg #[.slice an nn cn, .slice ab nb cb], .int .i64 root, .int .i64 at'] w fun e w' => FoRes false w w' e cd rt g := by
  have B : Below w.heap.size w ((w.alloc (.cells #[.slice an nn cn, .slice ab nb cb] 60)).alloc (.cells #[.int .i64 0, .int .i64 0, .slice none 0 0, .slice none 0 0] 64)) := ((Below.refl _ _).alloc (Nat.le_refl _) _).alloc (by simp) _
  have g0 : ((w.alloc (.cells #[.slice an nn cn, .slice ab nb cb] 60)).alloc (.cells #[.int .i64 0, .int .i64 0, .slice none 0 0, .slice none 0 0] 64)).cell? ⟨w.heap.size, 0, none⟩ = some (.slice an nn cn) := by simp
  have g1 : ((w.alloc (.cells #[.slice an nn cn, .slice ab nb cb] 60)).alloc (.cells #[.int .i64 0, .int .i64 0, .slice none 0 0, .slice none 0 0] 64)).cell? ⟨w.heap.size, 1, none⟩ = some (.slice ab nb cb) := by simp
  have z0 : ((w.alloc (.cells #[.slice an nn cn, .slice ab nb cb] 60)).alloc (.cells #[.int .i64 0, .int .i64 0, .slice none 0 0, .slice none 0 0] 64)).cell? ⟨w.heap.size + 1, 0, none⟩ = some (.int .i64 0) := by simp
  have z1 : ((w.alloc (.cells #[.slice an nn cn, .slice ab nb cb] 60)).alloc (.cells #[.int .i64 0, .int .i64 0, .slice none 0 0, .slice none 0 0] 64)).cell? ⟨w.heap.size + 1, 1, none⟩ = some (.int .i64 0) := by simp
  have z2 : ((w.alloc (.cells #[.slice an nn cn, .slice ab nb cb] 60)).alloc (.cells #[.int .i64 0, .int .i64 0, .slice none 0 0, .slice none 0 0] 64)).cell? ⟨w.heap.size + 1, 2, none⟩ = some (.slice none 0 0) := by simp
  have z3 : ((w.alloc (.cells #[.slice an nn cn, .slice ab nb cb] 60)).alloc (.cells #[.int .i64 0, .int .i64 0, .slice none 0 0, .slice none 0 0] 64)).cell? ⟨w.heap.size + 1, 3, none⟩ = some (.slice none 0 0) := by simp
  have y0 : ((w.alloc (.cells #[.slice an nn cn, .slice ab nb cb] 60)).alloc (.cells #[.int .i64 0, .int .i64 0, .slice none 0 0, .slice none 0 0] 64)).frozen? ⟨w.heap.size + 1, 0, none⟩ = false := by simp
  have y1 : ((w.alloc (.cells #[.slice an nn cn, .slice ab nb cb] 60)).alloc (.cells #[.int .i64 0, .int .i64 0, .slice none 0 0, .slice none 0 0] 64)).frozen? ⟨w.heap.size + 1, 1, none⟩ = false := by simp
  have y2 : ((w.alloc (.cells #[.slice an nn cn, .slice ab nb cb] 60)).alloc (.cells #[.int .i64 0, .int .i64 0, .slice none 0 0, .slice none 0 0] 64)).frozen? ⟨w.heap.size + 1, 2, none⟩ = false := by simp
  have y3 : ((w.alloc (.cells #[.slice an nn cn, .slice ab nb cb] 60)).alloc (.cells #[.int .i64 0, .int .i64 0, .slice none 0 0, .slice none 0 0] 64)).frozen? ⟨w.heap.size + 1, 3, none⟩ = false := by simp
  have hz : w.heap.size + 1 < ((w.alloc (.cells #[.slice an nn cn, .slice ab nb cb] 60)).alloc (.cells #[.int .i64 0, .int .i64 0, .slice none 0 0, .slice none 0 0] 64)).heap.size := by simp
  have r := h.below B
  have hl := h.nodes.len
  by_cases h0 : treeCode f root at' = 0
  · have H0 : Hid _ := h0
    have T := tree_of h0
    have HN : Hid _ := fo_small h T.right.inv
    have HT : Hid _ := T
    have ha0 := T.at0
    have ha1 := T.at1
    obtain ⟨a, rfl⟩ : ∃ a : Nat, at' = a := ⟨at'.toNat, by omega⟩
    have ha : a ≤ 15 := by omega
    have H1 : Hid _ := rootAt_of T.right.inv T.ro
    have H2 : Hid (RootAt f (leafAt f root (a : Int))) := leafRoot_of T.right.inv T.ro ha0 ha1
    rw [clearTCode, if_pos h0] at hc
    rw [clearRootT, clearTCode, if_pos h0] at hr
    rw [clearFo, clearTCode, if_pos h0] at hf
    obtain ⟨y, hy⟩ : ∃ y, blockAt f root (a : Int) = y := ⟨_, rfl⟩
    rw [hy] at hc hr hf
    have HY : Hid _ := hy
    by_cases hy0 : y < 0
    · rw [if_pos hy0] at hc hr hf
      obtain rfl : rt = 0 := hr.symm
      obtain rfl : g = ([], []) := hf.symm
      subst hc
      clear h0 T hr hf hy
      go_enter Try.func67, Try.ntmps67
      go_wp2_with fail
      refine (l4Asked_is w.heap.size an nn cn ab nb cb K f _ (by exact r) g0 g1 hn hb hK root (a : Int) 0 H0.out).mono ?_
      rintro e w1 ⟨rfl, hb1⟩
      replace z0 := cell_later hb1 z0
      replace z1 := cell_later hb1 z1
      replace z2 := cell_later hb1 z2
      replace z3 := cell_later hb1 z3
      replace y0 := frozen_later hb1 hz y0
      replace y1 := frozen_later hb1 hz y1
      replace y2 := frozen_later hb1 hz y2
      replace y3 := frozen_later hb1 hz y3
      replace g0 := cell_later hb1 g0
      replace g1 := cell_later hb1 g1
      replace r := r.below hb1
      replace hz := Nat.lt_of_lt_of_le hz hb1.size
      replace B := below_next B hb1
      clear hb1
      go_wp2_with fail
      refine (l4Block_is w.heap.size an nn cn ab nb cb K f _ (by exact r) g0 hn root a ha H1.out H2.out y HY.out).mono ?_
      rintro e w9 ⟨rfl, rfl⟩
      go_wp2_with fail
      refine (l4Bad_any 4 _).mono ?_
      rintro e wb ⟨rfl, hb1⟩
      replace z0 := cell_later hb1 z0
      replace z1 := cell_later hb1 z1
      replace z2 := cell_later hb1 z2
      replace z3 := cell_later hb1 z3
      replace y0 := frozen_later hb1 hz y0
      replace y1 := frozen_later hb1 hz y1
      replace y2 := frozen_later hb1 hz y2
      replace y3 := frozen_later hb1 hz y3
      replace g0 := cell_later hb1 g0
      replace g1 := cell_later hb1 g1
      replace r := r.below hb1
      replace hz := Nat.lt_of_lt_of_le hz hb1.size
      replace B := below_next B hb1
      clear hb1
      go_wp2
      refine bodyPost_ret (v := .agg #[.int .i64 4, .int .i64 0, .slice none 0 0, .slice none 0 0]) (by simp [results, Try.results67, go_sem, z0, z1, z2, z3]) rfl ⟨_, _, _, _, _, _, _, rfl, FoAt.nil _ _ _ _, ?_⟩
      refine Below.setCell (Below.setCell (Below.setCell (Below.setCell B ?_ _) ?_ _) ?_ _) ?_ _ <;> simp
    · rw [if_neg hy0] at hc hr hf
      obtain ⟨⟨x, c, g2⟩, hs⟩ : ∃ s, setPlace f root (a : Int) (-1) = s := ⟨_, rfl⟩
      rw [hs] at hc hr hf
      simp only at hc hr hf
      subst hc
      have HP : Hid _ := hs
      have HR : Hid _ := hr
      have HFF : Hid _ := hf
      clear h0 T hy hs hr hf
      go_enter Try.func67, Try.ntmps67
      go_wp2_with fail
      refine (l4Asked_is w.heap.size an nn cn ab nb cb K f _ (by exact r) g0 g1 hn hb hK root (a : Int) 0 H0.out).mono ?_
      rintro e w1 ⟨rfl, hb1⟩
      replace z0 := cell_later hb1 z0
      replace z1 := cell_later hb1 z1
      replace z2 := cell_later hb1 z2
      replace z3 := cell_later hb1 z3
      replace y0 := frozen_later hb1 hz y0
      replace y1 := frozen_later hb1 hz y1
      replace y2 := frozen_later hb1 hz y2
      replace y3 := frozen_later hb1 hz y3
      replace g0 := cell_later hb1 g0
      replace g1 := cell_later hb1 g1
      replace r := r.below hb1
      replace hz := Nat.lt_of_lt_of_le hz hb1.size
      replace B := below_next B hb1
      clear hb1
      go_wp2_with fail
      refine (l4Block_is w.heap.size an nn cn ab nb cb K f _ (by exact r) g0 hn root a ha H1.out H2.out y HY.out).mono ?_
      rintro e w9 ⟨rfl, rfl⟩
      have hz0 := hz
      go_wp2_with fail
      refine (l4Copy_any an nn cn ab nb cb K f _ (by exact r) HN.out.1 HN.out.2.1 HN.out.2.2).mono ?_
      rintro e w2 ⟨va, vc, bb, bc, K', rfl, I, hb1⟩
      replace z0 := cell_later hb1 z0
      replace z1 := cell_later hb1 z1
      replace z2 := cell_later hb1 z2
      replace z3 := cell_later hb1 z3
      replace y0 := frozen_later hb1 hz y0
      replace y1 := frozen_later hb1 hz y1
      replace y2 := frozen_later hb1 hz y2
      replace y3 := frozen_later hb1 hz y3
      replace g0 := cell_later hb1 g0
      replace g1 := cell_later hb1 g1
      replace r := r.below hb1
      replace hz := Nat.lt_of_lt_of_le hz hb1.size
      replace B := below_next B hb1
      clear hb1
      have A : Below w2.heap.size w2 (w2.alloc (.cells #[.slice va nn vc, .slice bb nb bc] 60)) := (Below.refl _ _).alloc (Nat.le_refl _) _
      replace z0 := cell_later A z0
      replace z1 := cell_later A z1
      replace z2 := cell_later A z2
      replace z3 := cell_later A z3
      replace y0 := frozen_later A hz y0
      replace y1 := frozen_later A hz y1
      replace y2 := frozen_later A hz y2
      replace y3 := frozen_later A hz y3
      replace g0 := cell_later A g0
      replace g1 := cell_later A g1
      replace r := r.below A
      replace hz := Nat.lt_of_lt_of_le hz A.size
      replace B := below_next B A
      clear A
      have hlo := hz0
      have c0 := I.c0
      have c1 := I.c1
      have hP := I.hP
      go_wp2_with fail
      refine (l4Set_any (by exact I) root a (-1) (ask_clear HT.out) _ HP.out).mono ?_
      have hr := HR.out
      have hf := HFF.out
      clear HR HFF c0 c1
      rintro e w3 (⟨hc3, rfl, hb3⟩ | ⟨hc3, rfl, ⟨vn3, K3, I3⟩, hb3⟩)
      · simp only at hc3
        replace z0 := (hb3.cell (p := ⟨w.heap.size + 1, 0, none⟩) (by show w.heap.size + 1 < _; omega)).trans z0
        replace z1 := (hb3.cell (p := ⟨w.heap.size + 1, 1, none⟩) (by show w.heap.size + 1 < _; omega)).trans z1
        replace z2 := (hb3.cell (p := ⟨w.heap.size + 1, 2, none⟩) (by show w.heap.size + 1 < _; omega)).trans z2
        replace z3 := (hb3.cell (p := ⟨w.heap.size + 1, 3, none⟩) (by show w.heap.size + 1 < _; omega)).trans z3
        replace y0 := (hb3.frozen (p := ⟨w.heap.size + 1, 0, none⟩) (by show w.heap.size + 1 < _; omega)).trans y0
        replace y1 := (hb3.frozen (p := ⟨w.heap.size + 1, 1, none⟩) (by show w.heap.size + 1 < _; omega)).trans y1
        replace y2 := (hb3.frozen (p := ⟨w.heap.size + 1, 2, none⟩) (by show w.heap.size + 1 < _; omega)).trans y2
        replace y3 := (hb3.frozen (p := ⟨w.heap.size + 1, 3, none⟩) (by show w.heap.size + 1 < _; omega)).trans y3
        have hsz3 := hb3.size
        replace hz : w.heap.size + 1 < w3.heap.size := by omega
        replace B := B.trans (hb3.mono (by omega))
        rw [atIf, if_neg hc3] at hr
        rw [foIf, if_neg hc3] at hf
        subst hr
        subst hf
        have hne : (c != 0) = true := by simp [hc3]
        clear hb3 hc3 I r g0 g1
        go_wp2_with fail
        refine (l4Bad_any c _).mono ?_
        rintro e wb ⟨rfl, hb1⟩
        replace z0 := cell_later hb1 z0
        replace z1 := cell_later hb1 z1
        replace z2 := cell_later hb1 z2
        replace z3 := cell_later hb1 z3
        replace y0 := frozen_later hb1 hz y0
        replace y1 := frozen_later hb1 hz y1
        replace y2 := frozen_later hb1 hz y2
        replace y3 := frozen_later hb1 hz y3
        replace hz := Nat.lt_of_lt_of_le hz hb1.size
        replace B := below_next B hb1
        clear hb1
        go_wp2
        refine bodyPost_ret (v := .agg #[.int .i64 c, .int .i64 0, .slice none 0 0, .slice none 0 0]) (by simp [results, Try.results67, go_sem, z0, z1, z2, z3]) rfl ⟨_, _, _, _, _, _, _, rfl, FoAt.nil _ _ _ _, ?_⟩
        refine Below.setCell (Below.setCell (Below.setCell (Below.setCell B ?_ _) ?_ _) ?_ _) ?_ _ <;> simp
      · simp only at hc3
        subst hc3
        replace z0 := (hb3.cell (p := ⟨w.heap.size + 1, 0, none⟩) (by show w.heap.size + 1 < _; omega)).trans z0
        replace z1 := (hb3.cell (p := ⟨w.heap.size + 1, 1, none⟩) (by show w.heap.size + 1 < _; omega)).trans z1
        replace z2 := (hb3.cell (p := ⟨w.heap.size + 1, 2, none⟩) (by show w.heap.size + 1 < _; omega)).trans z2
        replace z3 := (hb3.cell (p := ⟨w.heap.size + 1, 3, none⟩) (by show w.heap.size + 1 < _; omega)).trans z3
        replace y0 := (hb3.frozen (p := ⟨w.heap.size + 1, 0, none⟩) (by show w.heap.size + 1 < _; omega)).trans y0
        replace y1 := (hb3.frozen (p := ⟨w.heap.size + 1, 1, none⟩) (by show w.heap.size + 1 < _; omega)).trans y1
        replace y2 := (hb3.frozen (p := ⟨w.heap.size + 1, 2, none⟩) (by show w.heap.size + 1 < _; omega)).trans y2
        replace y3 := (hb3.frozen (p := ⟨w.heap.size + 1, 3, none⟩) (by show w.heap.size + 1 < _; omega)).trans y3
        have hsz3 := hb3.size
        replace B := B.trans (hb3.mono (by omega))
        rw [atIf, if_pos rfl] at hr
        rw [foIf, if_pos rfl] at hf
        subst hr
        subst hf
        obtain ⟨an2, cn2, ev2, RF⟩ := I3.read
        subst ev2
        have c0 := I3.c0
        have c1 := I3.c1
        obtain ⟨n2, hn2⟩ : ∃ n2, g2.1.length = n2 := ⟨_, rfl⟩
        rw [hn2] at RF c0
        have HF : Hid _ := RF
        clear RF I I3 r hb3 hn2 g0 g1
        go_wp2
        refine bodyPost_ret (v := .agg #[.int .i64 0, .int .i64 x, .slice an2 n2 cn2, .slice bb nb bc]) (by simp [results, Try.results67, go_sem, z0, z1, z2, z3]) rfl ⟨_, _, _, _, _, _, K3, rfl, ?_, ?_⟩
        · refine FoAt.widen (FoAt.kept HF.out (l := w.heap.size + 1) (u := w.heap.size + 2) ?_ (by omega)) (by omega) (by simp)
          refine Kept.setCell (Kept.setCell (Kept.setCell (Kept.setCell (Kept.refl _ _ _) ?_ ?_ _) ?_ ?_ _) ?_ ?_ _) ?_ ?_ _ <;> simp
        · refine Below.setCell (Below.setCell (Below.setCell (Below.setCell B ?_ _) ?_ _) ?_ _) ?_ _ <;> simp
  · obtain ⟨c, hcc⟩ : ∃ c, treeCode f root at' = c := ⟨_, rfl⟩
    have t0 : clearTCode f root at' = c := by rw [clearTCode, if_neg h0, hcc]
    rw [hcc] at h0
    rw [t0] at hc
    rw [clearRootT, t0, atIf, if_neg h0] at hr
    rw [clearFo, t0, foIf, if_neg h0] at hf
    subst hc
    subst hr
    subst hf
    have HC : Hid _ := hcc
    have hne : (c != 0) = true := by simp [h0]
    clear h0 hcc t0
    go_enter Try.func67, Try.ntmps67
    go_wp2_with fail
    refine (l4Asked_is w.heap.size an nn cn ab nb cb K f _ (by exact r) g0 g1 hn hb hK root at' c HC.out).mono ?_
    rintro e w1 ⟨rfl, hb1⟩
    replace z0 := cell_later hb1 z0
    replace z1 := cell_later hb1 z1
    replace z2 := cell_later hb1 z2
    replace z3 := cell_later hb1 z3
    replace y0 := frozen_later hb1 hz y0
    replace y1 := frozen_later hb1 hz y1
    replace y2 := frozen_later hb1 hz y2
    replace y3 := frozen_later hb1 hz y3
    replace g0 := cell_later hb1 g0
    replace g1 := cell_later hb1 g1
    replace r := r.below hb1
    replace hz := Nat.lt_of_lt_of_le hz hb1.size
    replace B := below_next B hb1
    clear hb1
    go_wp2_with fail
    refine (l4Bad_any c _).mono ?_
    rintro e wb ⟨rfl, hb1⟩
    replace z0 := cell_later hb1 z0
    replace z1 := cell_later hb1 z1
    replace z2 := cell_later hb1 z2
    replace z3 := cell_later hb1 z3
    replace y0 := frozen_later hb1 hz y0
    replace y1 := frozen_later hb1 hz y1
    replace y2 := frozen_later hb1 hz y2
    replace y3 := frozen_later hb1 hz y3
    replace g0 := cell_later hb1 g0
    replace g1 := cell_later hb1 g1
    replace r := r.below hb1
    replace hz := Nat.lt_of_lt_of_le hz hb1.size
    replace B := below_next B hb1
    clear hb1
    go_wp2
    refine bodyPost_ret (v := .agg #[.int .i64 c, .int .i64 0, .slice none 0 0, .slice none 0 0]) (by simp [results, Try.results67, go_sem, z0, z1, z2, z3]) rfl ⟨_, _, _, _, _, _, _, rfl, FoAt.nil _ _ _ _, ?_⟩
    refine Below.setCell (Below.setCell (Below.setCell (Below.setCell B ?_ _) ?_ _) ?_ _) ?_ _ <;> simp

end Go.Proofs.Ytkdaphfmhdkhfaa

/- Chapter 4: the model's SetTree. -/
namespace Go.Proofs.Ytkdaphfmhdkhfaa
open Go.RowKit

set_option maxRecDepth 20000 in
set_option maxHeartbeats 4000000 in
theorem specSetT_is {o : Bool} {l u : Nat} (an : Option Addr) (nn cn : Nat) (ab : Option Addr) (nb cb : Nat) (K : Nat → KS) (f : Fo) (w : World) (h : FoAt w o l u an nn cn ab nb cb K f) (hn : nn ≤ 2097152) (hb : nb ≤ 2097152) (hK : ∀ i, i < nn → (K i).2.1 ≤ 2097152) (root : Int) (at' : Int) (dv : Int) (cd rt : Int) (g : Fo) (hc : setTCode f root at' dv = cd) (hr : setRootT f root at' dv = rt) (hf : setFo f root at' dv = g) : Calls Try.prog 59 #[.agg #[.slice an nn cn, .slice ab nb cb], .int .i64 root, .int .i64 at', .int .i64 dv] w fun e w' => FoRes false w w' e cd rt g := by
  have B : Below w.heap.size w ((w.alloc (.cells #[.slice an nn cn, .slice ab nb cb] 60)).alloc (.cells #[.int .i64 0, .int .i64 0, .slice none 0 0, .slice none 0 0] 64)) := ((Below.refl _ _).alloc (Nat.le_refl _) _).alloc (by simp) _
  have g0 : ((w.alloc (.cells #[.slice an nn cn, .slice ab nb cb] 60)).alloc (.cells #[.int .i64 0, .int .i64 0, .slice none 0 0, .slice none 0 0] 64)).cell? ⟨w.heap.size, 0, none⟩ = some (.slice an nn cn) := by simp
  have g1 : ((w.alloc (.cells #[.slice an nn cn, .slice ab nb cb] 60)).alloc (.cells #[.int .i64 0, .int .i64 0, .slice none 0 0, .slice none 0 0] 64)).cell? ⟨w.heap.size, 1, none⟩ = some (.slice ab nb cb) := by simp
  have z0 : ((w.alloc (.cells #[.slice an nn cn, .slice ab nb cb] 60)).alloc (.cells #[.int .i64 0, .int .i64 0, .slice none 0 0, .slice none 0 0] 64)).cell? ⟨w.heap.size + 1, 0, none⟩ = some (.int .i64 0) := by simp
  have z1 : ((w.alloc (.cells #[.slice an nn cn, .slice ab nb cb] 60)).alloc (.cells #[.int .i64 0, .int .i64 0, .slice none 0 0, .slice none 0 0] 64)).cell? ⟨w.heap.size + 1, 1, none⟩ = some (.int .i64 0) := by simp
  have z2 : ((w.alloc (.cells #[.slice an nn cn, .slice ab nb cb] 60)).alloc (.cells #[.int .i64 0, .int .i64 0, .slice none 0 0, .slice none 0 0] 64)).cell? ⟨w.heap.size + 1, 2, none⟩ = some (.slice none 0 0) := by simp
  have z3 : ((w.alloc (.cells #[.slice an nn cn, .slice ab nb cb] 60)).alloc (.cells #[.int .i64 0, .int .i64 0, .slice none 0 0, .slice none 0 0] 64)).cell? ⟨w.heap.size + 1, 3, none⟩ = some (.slice none 0 0) := by simp
  have y0 : ((w.alloc (.cells #[.slice an nn cn, .slice ab nb cb] 60)).alloc (.cells #[.int .i64 0, .int .i64 0, .slice none 0 0, .slice none 0 0] 64)).frozen? ⟨w.heap.size + 1, 0, none⟩ = false := by simp
  have y1 : ((w.alloc (.cells #[.slice an nn cn, .slice ab nb cb] 60)).alloc (.cells #[.int .i64 0, .int .i64 0, .slice none 0 0, .slice none 0 0] 64)).frozen? ⟨w.heap.size + 1, 1, none⟩ = false := by simp
  have y2 : ((w.alloc (.cells #[.slice an nn cn, .slice ab nb cb] 60)).alloc (.cells #[.int .i64 0, .int .i64 0, .slice none 0 0, .slice none 0 0] 64)).frozen? ⟨w.heap.size + 1, 2, none⟩ = false := by simp
  have y3 : ((w.alloc (.cells #[.slice an nn cn, .slice ab nb cb] 60)).alloc (.cells #[.int .i64 0, .int .i64 0, .slice none 0 0, .slice none 0 0] 64)).frozen? ⟨w.heap.size + 1, 3, none⟩ = false := by simp
  have hz : w.heap.size + 1 < ((w.alloc (.cells #[.slice an nn cn, .slice ab nb cb] 60)).alloc (.cells #[.int .i64 0, .int .i64 0, .slice none 0 0, .slice none 0 0] 64)).heap.size := by simp
  have r := h.below B
  have hl := h.nodes.len
  by_cases h0 : treeCode f root at' = 0
  · have H0 : Hid _ := h0
    have T := tree_of h0
    have HN : Hid _ := fo_small h T.right.inv
    have HT : Hid _ := T
    have ha0 := T.at0
    have ha1 := T.at1
    obtain ⟨a, rfl⟩ : ∃ a : Nat, at' = a := ⟨at'.toNat, by omega⟩
    have ha : a ≤ 15 := by omega
    rw [setTCode, if_pos h0] at hc
    rw [setRootT, setTCode, if_pos h0] at hr
    rw [setFo, setTCode, if_pos h0] at hf
    by_cases hd : dataB dv = true
    · rw [if_pos hd] at hc hr hf
      have HD : Hid _ := hd
      have hd' : 0 ≤ dv ∧ dv ≤ 255 := of_decide_eq_true hd
      cases hfa : freeAt f.2 with
      | none =>
        rw [hfa] at hc hr hf
        simp only at hc hr hf
        obtain rfl : rt = 0 := hr.symm
        obtain rfl : g = ([], []) := hf.symm
        subst hc
        have HFA : Hid _ := hfa
        clear h0 T hr hf hfa hd
        go_enter Try.func59, Try.ntmps59
        go_wp2_with fail
        refine (l4Asked_is w.heap.size an nn cn ab nb cb K f _ (by exact r) g0 g1 hn hb hK root (a : Int) 0 H0.out).mono ?_
        rintro e w1 ⟨rfl, hb1⟩
        replace z0 := cell_later hb1 z0
        replace z1 := cell_later hb1 z1
        replace z2 := cell_later hb1 z2
        replace z3 := cell_later hb1 z3
        replace y0 := frozen_later hb1 hz y0
        replace y1 := frozen_later hb1 hz y1
        replace y2 := frozen_later hb1 hz y2
        replace y3 := frozen_later hb1 hz y3
        replace g0 := cell_later hb1 g0
        replace g1 := cell_later hb1 g1
        replace r := r.below hb1
        replace hz := Nat.lt_of_lt_of_le hz hb1.size
        replace B := below_next B hb1
        clear hb1
        go_wp2_with fail
        refine (l3Data_is dv _ true HD.out).mono ?_
        rintro e w9 ⟨rfl, rfl⟩
        have hz0 := hz
        go_wp2_with fail
        refine (l4Copy_any an nn cn ab nb cb K f _ (by exact r) HN.out.1 HN.out.2.1 HN.out.2.2).mono ?_
        rintro e w2 ⟨va, vc, bb, bc, K', rfl, I, hb1⟩
        replace z0 := cell_later hb1 z0
        replace z1 := cell_later hb1 z1
        replace z2 := cell_later hb1 z2
        replace z3 := cell_later hb1 z3
        replace y0 := frozen_later hb1 hz y0
        replace y1 := frozen_later hb1 hz y1
        replace y2 := frozen_later hb1 hz y2
        replace y3 := frozen_later hb1 hz y3
        replace g0 := cell_later hb1 g0
        replace g1 := cell_later hb1 g1
        replace r := r.below hb1
        replace hz := Nat.lt_of_lt_of_le hz hb1.size
        replace B := below_next B hb1
        clear hb1
        have A : Below w2.heap.size w2 (w2.alloc (.cells #[.slice va nn vc, .slice bb nb bc] 60)) := (Below.refl _ _).alloc (Nat.le_refl _) _
        replace z0 := cell_later A z0
        replace z1 := cell_later A z1
        replace z2 := cell_later A z2
        replace z3 := cell_later A z3
        replace y0 := frozen_later A hz y0
        replace y1 := frozen_later A hz y1
        replace y2 := frozen_later A hz y2
        replace y3 := frozen_later A hz y3
        replace g0 := cell_later A g0
        replace g1 := cell_later A g1
        replace r := r.below A
        replace hz := Nat.lt_of_lt_of_le hz A.size
        replace B := below_next B A
        clear A
        have hlo := hz0
        have c0 := I.c0
        have c1 := I.c1
        have hP := I.hP
        have hnb24 := HN.out.2.1
        go_wp2_with fail
        refine (l3Free_any bb nb bc f.2 _ I.blk (by omega)).mono ?_
        rintro e w9 ⟨hfr, rfl⟩
        obtain ⟨_, rfl⟩ := hfr.resolve_left (fun ⟨k, hk, _⟩ => by rw [HFA.out] at hk; cases hk)
        clear r g0 g1 I
        go_wp2_with fail
        refine (l4Bad_any 8 _).mono ?_
        rintro e wb ⟨rfl, hb1⟩
        replace z0 := cell_later hb1 z0
        replace z1 := cell_later hb1 z1
        replace z2 := cell_later hb1 z2
        replace z3 := cell_later hb1 z3
        replace y0 := frozen_later hb1 hz y0
        replace y1 := frozen_later hb1 hz y1
        replace y2 := frozen_later hb1 hz y2
        replace y3 := frozen_later hb1 hz y3
        replace hz := Nat.lt_of_lt_of_le hz hb1.size
        replace B := below_next B hb1
        clear hb1
        go_wp2
        refine bodyPost_ret (v := .agg #[.int .i64 8, .int .i64 0, .slice none 0 0, .slice none 0 0]) (by simp [results, Try.results59, go_sem, z0, z1, z2, z3]) rfl ⟨_, _, _, _, _, _, _, rfl, FoAt.nil _ _ _ _, ?_⟩
        refine Below.setCell (Below.setCell (Below.setCell (Below.setCell B ?_ _) ?_ _) ?_ _) ?_ _ <;> simp
      | some b =>
        rw [setTF, hfa] at hr hf
        rw [hfa] at hc
        simp only at hc hr hf
        obtain ⟨⟨x, c, g2⟩, hs⟩ : ∃ s, setPlace (f.1, f.2.set b (1, dv)) root (a : Int) b = s := ⟨_, rfl⟩
        rw [hs] at hc hr hf
        simp only at hc hr hf
        subst hc
        have HP : Hid _ := hs
        have HR : Hid _ := hr
        have HFF : Hid _ := hf
        have HASK : Hid _ := ask_take T hfa hd'.1 hd'.2
        have hbl := (freeAt_is hfa).1
        have HFA : Hid _ := hfa
        clear h0 T hs hr hf hfa hd
        go_enter Try.func59, Try.ntmps59
        go_wp2_with fail
        refine (l4Asked_is w.heap.size an nn cn ab nb cb K f _ (by exact r) g0 g1 hn hb hK root (a : Int) 0 H0.out).mono ?_
        rintro e w1 ⟨rfl, hb1⟩
        replace z0 := cell_later hb1 z0
        replace z1 := cell_later hb1 z1
        replace z2 := cell_later hb1 z2
        replace z3 := cell_later hb1 z3
        replace y0 := frozen_later hb1 hz y0
        replace y1 := frozen_later hb1 hz y1
        replace y2 := frozen_later hb1 hz y2
        replace y3 := frozen_later hb1 hz y3
        replace g0 := cell_later hb1 g0
        replace g1 := cell_later hb1 g1
        replace r := r.below hb1
        replace hz := Nat.lt_of_lt_of_le hz hb1.size
        replace B := below_next B hb1
        clear hb1
        go_wp2_with fail
        refine (l3Data_is dv _ true HD.out).mono ?_
        rintro e w9 ⟨rfl, rfl⟩
        have hz0 := hz
        go_wp2_with fail
        refine (l4Copy_any an nn cn ab nb cb K f _ (by exact r) HN.out.1 HN.out.2.1 HN.out.2.2).mono ?_
        rintro e w2 ⟨va, vc, bb, bc, K', rfl, I, hb1⟩
        replace z0 := cell_later hb1 z0
        replace z1 := cell_later hb1 z1
        replace z2 := cell_later hb1 z2
        replace z3 := cell_later hb1 z3
        replace y0 := frozen_later hb1 hz y0
        replace y1 := frozen_later hb1 hz y1
        replace y2 := frozen_later hb1 hz y2
        replace y3 := frozen_later hb1 hz y3
        replace g0 := cell_later hb1 g0
        replace g1 := cell_later hb1 g1
        replace r := r.below hb1
        replace hz := Nat.lt_of_lt_of_le hz hb1.size
        replace B := below_next B hb1
        clear hb1
        have A : Below w2.heap.size w2 (w2.alloc (.cells #[.slice va nn vc, .slice bb nb bc] 60)) := (Below.refl _ _).alloc (Nat.le_refl _) _
        replace z0 := cell_later A z0
        replace z1 := cell_later A z1
        replace z2 := cell_later A z2
        replace z3 := cell_later A z3
        replace y0 := frozen_later A hz y0
        replace y1 := frozen_later A hz y1
        replace y2 := frozen_later A hz y2
        replace y3 := frozen_later A hz y3
        replace g0 := cell_later A g0
        replace g1 := cell_later A g1
        replace r := r.below A
        replace hz := Nat.lt_of_lt_of_le hz A.size
        replace B := below_next B A
        clear A
        have hlo := hz0
        have c0 := I.c0
        have c1 := I.c1
        have hP := I.hP
        have hnb24 := HN.out.2.1
        go_wp2_with fail
        refine (l3Free_any bb nb bc f.2 _ I.blk (by omega)).mono ?_
        rintro e w9 ⟨hfr, rfl⟩
        obtain ⟨_, hk, _, rfl⟩ := hfr.resolve_right (fun hx => by rw [HFA.out] at hx; cases hx.1)
        rw [HFA.out] at hk
        cases hk
        have hbn : b < nb := by have := I.blk.nPairs; omega
        have hbi : (b : Int) < nb := by omega
        have hne : nb ≠ 0 := by omega
        obtain ⟨gB, rfl⟩ := I.bf hne
        obtain ⟨_, _, e', _, _, hgs, b1, b2, bf⟩ := I.blk.pair hbn
        cases e'
        obtain ⟨bf1, bf2⟩ := bf rfl
        rw [Nat.zero_add] at b1 b2 bf1 bf2
        have hgB := (I.blk.block_lt hne).1
        simp only [sb] at hgB
        have K3 : Kept gB (gB + 1) (w2.alloc (.cells #[.slice va nn vc, .slice (some ⟨gB, 0, none⟩) nb bc] 60)) (((w2.alloc (.cells #[.slice va nn vc, .slice (some ⟨gB, 0, none⟩) nb bc] 60)).setCell ⟨gB, b * 2, none⟩ (.int .i64 1)).setCell ⟨gB, b * 2 + 1, none⟩ (.int .i64 dv)) := by refine Kept.setCell (Kept.setCell (Kept.refl _ _ _) ?_ ?_ _) ?_ ?_ _ <;> simp
        have RS : RowAt (((w2.alloc (.cells #[.slice va nn vc, .slice (some ⟨gB, 0, none⟩) nb bc] 60)).setCell ⟨gB, b * 2, none⟩ (.int .i64 1)).setCell ⟨gB, b * 2 + 1, none⟩ (.int .i64 dv)) true gB (gB + 1) 2 (some ⟨gB, 0, none⟩) nb bc (pairs (f.2.set b (1, dv))) := by
          have := (I.blk.pin.stored (i := b * 2) (by omega) (.int .i64 1)).stored (i := b * 2 + 1) (by omega) (.int .i64 dv)
          rw [Nat.zero_add, Nat.zero_add, pairs_set f.2 b (1, dv)] at this
          exact this
        have I2 := I.blocks hne K3 RS
        replace hgB : w.heap.size + 1 < gB := by omega
        replace z0 := K3.cell z0 (by omega)
        replace z1 := K3.cell z1 (by omega)
        replace z2 := K3.cell z2 (by omega)
        replace z3 := K3.cell z3 (by omega)
        replace y0 := K3.frozen hz (by omega) y0
        replace y1 := K3.frozen hz (by omega) y1
        replace y2 := K3.frozen hz (by omega) y2
        replace y3 := K3.frozen hz (by omega) y3
        replace B := (B.setCell (p := ⟨gB, b * 2, none⟩) (by show w.heap.size ≤ gB; omega) (.int .i64 1)).setCell (p := ⟨gB, b * 2 + 1, none⟩) (by show w.heap.size ≤ gB; omega) (.int .i64 dv)
        replace hz : w.heap.size + 1 < (((w2.alloc (.cells #[.slice va nn vc, .slice (some ⟨gB, 0, none⟩) nb bc] 60)).setCell ⟨gB, b * 2, none⟩ (.int .i64 1)).setCell ⟨gB, b * 2 + 1, none⟩ (.int .i64 dv)).heap.size := Nat.lt_of_lt_of_le hz K3.size
        have HI2 : Hid _ := I2
        clear K3 RS I2
        go_wp2_with fail
        refine (l4Set_any (by exact HI2.out) root a b HASK.out _ HP.out).mono ?_
        have hr := HR.out
        have hf := HFF.out
        clear HR HFF c0 c1 b1 b2 bf1 bf2
        rintro e w3 (⟨hc3, rfl, hb3⟩ | ⟨hc3, rfl, ⟨vn3, K3, I3⟩, hb3⟩)
        · simp only at hc3
          replace z0 := (hb3.cell (p := ⟨w.heap.size + 1, 0, none⟩) (by show w.heap.size + 1 < _; omega)).trans z0
          replace z1 := (hb3.cell (p := ⟨w.heap.size + 1, 1, none⟩) (by show w.heap.size + 1 < _; omega)).trans z1
          replace z2 := (hb3.cell (p := ⟨w.heap.size + 1, 2, none⟩) (by show w.heap.size + 1 < _; omega)).trans z2
          replace z3 := (hb3.cell (p := ⟨w.heap.size + 1, 3, none⟩) (by show w.heap.size + 1 < _; omega)).trans z3
          replace y0 := (hb3.frozen (p := ⟨w.heap.size + 1, 0, none⟩) (by show w.heap.size + 1 < _; omega)).trans y0
          replace y1 := (hb3.frozen (p := ⟨w.heap.size + 1, 1, none⟩) (by show w.heap.size + 1 < _; omega)).trans y1
          replace y2 := (hb3.frozen (p := ⟨w.heap.size + 1, 2, none⟩) (by show w.heap.size + 1 < _; omega)).trans y2
          replace y3 := (hb3.frozen (p := ⟨w.heap.size + 1, 3, none⟩) (by show w.heap.size + 1 < _; omega)).trans y3
          have hsz3 := hb3.size
          replace hz : w.heap.size + 1 < w3.heap.size := by omega
          replace B := B.trans (hb3.mono (by omega))
          rw [atIf, if_neg hc3] at hr
          rw [foIf, if_neg hc3] at hf
          subst hr
          subst hf
          have hne : (c != 0) = true := by simp [hc3]
          clear hb3 hc3 I r g0 g1
          go_wp2_with fail
          refine (l4Bad_any c _).mono ?_
          rintro e wb ⟨rfl, hb1⟩
          replace z0 := cell_later hb1 z0
          replace z1 := cell_later hb1 z1
          replace z2 := cell_later hb1 z2
          replace z3 := cell_later hb1 z3
          replace y0 := frozen_later hb1 hz y0
          replace y1 := frozen_later hb1 hz y1
          replace y2 := frozen_later hb1 hz y2
          replace y3 := frozen_later hb1 hz y3
          replace hz := Nat.lt_of_lt_of_le hz hb1.size
          replace B := below_next B hb1
          clear hb1
          go_wp2
          refine bodyPost_ret (v := .agg #[.int .i64 c, .int .i64 0, .slice none 0 0, .slice none 0 0]) (by simp [results, Try.results59, go_sem, z0, z1, z2, z3]) rfl ⟨_, _, _, _, _, _, _, rfl, FoAt.nil _ _ _ _, ?_⟩
          refine Below.setCell (Below.setCell (Below.setCell (Below.setCell B ?_ _) ?_ _) ?_ _) ?_ _ <;> simp
        · simp only at hc3
          subst hc3
          replace z0 := (hb3.cell (p := ⟨w.heap.size + 1, 0, none⟩) (by show w.heap.size + 1 < _; omega)).trans z0
          replace z1 := (hb3.cell (p := ⟨w.heap.size + 1, 1, none⟩) (by show w.heap.size + 1 < _; omega)).trans z1
          replace z2 := (hb3.cell (p := ⟨w.heap.size + 1, 2, none⟩) (by show w.heap.size + 1 < _; omega)).trans z2
          replace z3 := (hb3.cell (p := ⟨w.heap.size + 1, 3, none⟩) (by show w.heap.size + 1 < _; omega)).trans z3
          replace y0 := (hb3.frozen (p := ⟨w.heap.size + 1, 0, none⟩) (by show w.heap.size + 1 < _; omega)).trans y0
          replace y1 := (hb3.frozen (p := ⟨w.heap.size + 1, 1, none⟩) (by show w.heap.size + 1 < _; omega)).trans y1
          replace y2 := (hb3.frozen (p := ⟨w.heap.size + 1, 2, none⟩) (by show w.heap.size + 1 < _; omega)).trans y2
          replace y3 := (hb3.frozen (p := ⟨w.heap.size + 1, 3, none⟩) (by show w.heap.size + 1 < _; omega)).trans y3
          have hsz3 := hb3.size
          replace B := B.trans (hb3.mono (by omega))
          rw [atIf, if_pos rfl] at hr
          rw [foIf, if_pos rfl] at hf
          subst hr
          subst hf
          obtain ⟨an2, cn2, ev2, RF⟩ := I3.read
          subst ev2
          have c0 := I3.c0
          have c1 := I3.c1
          obtain ⟨n2, hn2⟩ : ∃ n2, g2.1.length = n2 := ⟨_, rfl⟩
          rw [hn2] at RF c0
          have HF : Hid _ := RF
          clear RF I I3 r hb3 hn2 g0 g1
          go_wp2
          refine bodyPost_ret (v := .agg #[.int .i64 0, .int .i64 x, .slice an2 n2 cn2, .slice (some ⟨gB, 0, none⟩) nb bc]) (by simp [results, Try.results59, go_sem, z0, z1, z2, z3]) rfl ⟨_, _, _, _, _, _, K3, rfl, ?_, ?_⟩
          · refine FoAt.widen (FoAt.kept HF.out (l := w.heap.size + 1) (u := w.heap.size + 2) ?_ (by omega)) (by omega) (by simp)
            refine Kept.setCell (Kept.setCell (Kept.setCell (Kept.setCell (Kept.refl _ _ _) ?_ ?_ _) ?_ ?_ _) ?_ ?_ _) ?_ ?_ _ <;> simp
          · refine Below.setCell (Below.setCell (Below.setCell (Below.setCell B ?_ _) ?_ _) ?_ _) ?_ _ <;> simp
    · rw [if_neg hd] at hc hr hf
      have HD : Hid (dataB dv = false) := by show _ = _; simpa using hd
      obtain rfl : rt = 0 := hr.symm
      obtain rfl : g = ([], []) := hf.symm
      subst hc
      clear h0 T hr hf hd
      go_enter Try.func59, Try.ntmps59
      go_wp2_with fail
      refine (l4Asked_is w.heap.size an nn cn ab nb cb K f _ (by exact r) g0 g1 hn hb hK root (a : Int) 0 H0.out).mono ?_
      rintro e w1 ⟨rfl, hb1⟩
      replace z0 := cell_later hb1 z0
      replace z1 := cell_later hb1 z1
      replace z2 := cell_later hb1 z2
      replace z3 := cell_later hb1 z3
      replace y0 := frozen_later hb1 hz y0
      replace y1 := frozen_later hb1 hz y1
      replace y2 := frozen_later hb1 hz y2
      replace y3 := frozen_later hb1 hz y3
      replace g0 := cell_later hb1 g0
      replace g1 := cell_later hb1 g1
      replace r := r.below hb1
      replace hz := Nat.lt_of_lt_of_le hz hb1.size
      replace B := below_next B hb1
      clear hb1
      go_wp2_with fail
      refine (l3Data_is dv _ false HD.out).mono ?_
      rintro e w9 ⟨rfl, rfl⟩
      go_wp2_with fail
      refine (l4Bad_any 3 _).mono ?_
      rintro e wb ⟨rfl, hb1⟩
      replace z0 := cell_later hb1 z0
      replace z1 := cell_later hb1 z1
      replace z2 := cell_later hb1 z2
      replace z3 := cell_later hb1 z3
      replace y0 := frozen_later hb1 hz y0
      replace y1 := frozen_later hb1 hz y1
      replace y2 := frozen_later hb1 hz y2
      replace y3 := frozen_later hb1 hz y3
      replace g0 := cell_later hb1 g0
      replace g1 := cell_later hb1 g1
      replace r := r.below hb1
      replace hz := Nat.lt_of_lt_of_le hz hb1.size
      replace B := below_next B hb1
      clear hb1
      go_wp2
      refine bodyPost_ret (v := .agg #[.int .i64 3, .int .i64 0, .slice none 0 0, .slice none 0 0]) (by simp [results, Try.results59, go_sem, z0, z1, z2, z3]) rfl ⟨_, _, _, _, _, _, _, rfl, FoAt.nil _ _ _ _, ?_⟩
      refine Below.setCell (Below.setCell (Below.setCell (Below.setCell B ?_ _) ?_ _) ?_ _) ?_ _ <;> simp
  · obtain ⟨c, hcc⟩ : ∃ c, treeCode f root at' = c := ⟨_, rfl⟩
    have t0 : setTCode f root at' dv = c := by rw [setTCode, if_neg h0, hcc]
    rw [hcc] at h0
    rw [t0] at hc
    rw [setRootT, t0, atIf, if_neg h0] at hr
    rw [setFo, t0, foIf, if_neg h0] at hf
    subst hc
    subst hr
    subst hf
    have HC : Hid _ := hcc
    have hne : (c != 0) = true := by simp [h0]
    clear h0 hcc t0
    go_enter Try.func59, Try.ntmps59
    go_wp2_with fail
    refine (l4Asked_is w.heap.size an nn cn ab nb cb K f _ (by exact r) g0 g1 hn hb hK root at' c HC.out).mono ?_
    rintro e w1 ⟨rfl, hb1⟩
    replace z0 := cell_later hb1 z0
    replace z1 := cell_later hb1 z1
    replace z2 := cell_later hb1 z2
    replace z3 := cell_later hb1 z3
    replace y0 := frozen_later hb1 hz y0
    replace y1 := frozen_later hb1 hz y1
    replace y2 := frozen_later hb1 hz y2
    replace y3 := frozen_later hb1 hz y3
    replace g0 := cell_later hb1 g0
    replace g1 := cell_later hb1 g1
    replace r := r.below hb1
    replace hz := Nat.lt_of_lt_of_le hz hb1.size
    replace B := below_next B hb1
    clear hb1
    go_wp2_with fail
    refine (l4Bad_any c _).mono ?_
    rintro e wb ⟨rfl, hb1⟩
    replace z0 := cell_later hb1 z0
    replace z1 := cell_later hb1 z1
    replace z2 := cell_later hb1 z2
    replace z3 := cell_later hb1 z3
    replace y0 := frozen_later hb1 hz y0
    replace y1 := frozen_later hb1 hz y1
    replace y2 := frozen_later hb1 hz y2
    replace y3 := frozen_later hb1 hz y3
    replace g0 := cell_later hb1 g0
    replace g1 := cell_later hb1 g1
    replace r := r.below hb1
    replace hz := Nat.lt_of_lt_of_le hz hb1.size
    replace B := below_next B hb1
    clear hb1
    go_wp2
    refine bodyPost_ret (v := .agg #[.int .i64 c, .int .i64 0, .slice none 0 0, .slice none 0 0]) (by simp [results, Try.results59, go_sem, z0, z1, z2, z3]) rfl ⟨_, _, _, _, _, _, _, rfl, FoAt.nil _ _ _ _, ?_⟩
    refine Below.setCell (Below.setCell (Below.setCell (Below.setCell B ?_ _) ?_ _) ?_ _) ?_ _ <;> simp

end Go.Proofs.Ytkdaphfmhdkhfaa
