/- Chapter 8: lists of logs in memory; copied, compared and counted by the laws. -/
import Derived.Test.YtpbhiednmnolgaaEX
import Derived.Test.YtpbhiednmnolgaaXA
import Derived.Test.YtpbhiednmnolgaaFacts
namespace Go.Proofs.Ytpbhiednmnolgaa
open Go.RowKit

abbrev Hd := Option Addr × Nat × Nat
def hv (h : Hd) : Value := .slice h.1 h.2.1 h.2.2
def hcs (n : Nat) (hs : Nat → Hd) (k : Nat) : List Value := (List.range n).map fun j => if j < k then hv (hs j) else .slice none 0 0
theorem hcs_len (n : Nat) (hs : Nat → Hd) (k : Nat) : (hcs n hs k).length = n := by simp [hcs]
theorem hcs_get {n : Nat} {hs : Nat → Hd} {j : Nat} (h : j < n) : (hcs n hs n).getD j default = hv (hs j) := by simp [hcs, List.getD, h]
theorem hcs_none {n : Nat} {hs : Nat → Hd} {k : Nat} (h : k < n) : (hcs n hs k)[k]? = some (.slice none 0 0) := by simp [hcs, h]
theorem hcs_zero (n : Nat) (hs : Nat → Hd) : hcs n hs 0 = List.replicate n (.slice none 0 0) := by simp [hcs, List.map_const']
theorem hcs_set {n : Nat} {hs : Nat → Hd} {k : Nat} (_ : k < n) (d : Hd) : (hcs n hs k).set k (hv d) = hcs n (fun j => if j = k then d else hs j) (k + 1) := by
  apply List.ext_getElem (by simp [hcs])
  intro j h1 h2
  simp only [List.getElem_set, hcs, List.getElem_map, List.getElem_range]
  by_cases e : k = j
  · subst e; rw [if_pos rfl, if_pos (by omega), if_pos rfl]
  · rw [if_neg e]
    by_cases q : j < k
    · rw [if_pos q, if_pos (by omega), if_neg (fun x => e x.symm)]
    · rw [if_neg q, if_neg (by omega)]
/-- a list of logs: the rows that it names hold the entries -/
structure LogsAt (w : World) (o : Bool) (lo hi : Nat) (ao : Option Addr) (n cap : Nat) (hs : Nat → Hd) (xss : List (List En)) : Prop where
  len : xss.length = n
  row : RowAt w o lo hi 1 ao n cap (hcs n hs n)
  each : ∀ i, i < n → ∃ h, RowAt w false 0 h 6 (hs i).1 (hs i).2.1 (hs i).2.2 (sixs (xss.getD i []))
theorem LogsAt.below {w w' : World} {o : Bool} {lo hi : Nat} {ao : Option Addr} {n cap : Nat} {hs : Nat → Hd} {xss : List (List En)} (h : LogsAt w o lo hi ao n cap hs xss) (B : Below w.heap.size w w') : LogsAt w' o lo hi ao n cap hs xss :=
  ⟨h.len, h.row.below B, fun i hi => let ⟨u, r⟩ := h.each i hi; ⟨u, r.below B⟩⟩
theorem LogsAt.cell {w : World} {o : Bool} {lo hi : Nat} {ao : Option Addr} {n cap : Nat} {hs : Nat → Hd} {xss : List (List En)} (h : LogsAt w o lo hi ao n cap hs xss) {i : Nat} (hi' : i < n) : ∃ b off, ao = some ⟨b, off, none⟩ ∧ b < w.heap.size ∧ w.cell? ⟨b, off + i, none⟩ = some (.slice (hs i).1 (hs i).2.1 (hs i).2.2) := by
  obtain ⟨b, off, e, _, _, g3, g4, _⟩ := h.row.cells (by omega)
  refine ⟨b, off, e, g3, ?_⟩
  rw [g4 i (by omega), hcs_get hi']; rfl
theorem Try.infoLog : (Try.prog.info? 40).map (fun i => (i.zero, i.size, i.bytes)) = some (some (.slice none 0 0), 1, 24) := by kernel_rfl
theorem made_logs (n : Nat) : (madeCells #[Value.slice none 0 0] n).toList = List.replicate n (.slice none 0 0) := by
  apply List.ext_getElem?
  intro j
  by_cases hj : j < n
  · simp [madeCells, hj, Nat.mod_one]
  · simp [madeCells, hj]
set_option maxRecDepth 20000 in
set_option maxHeartbeats 2000000 in
theorem toLogs_ex {own : Bool} {lo hi : Nat} (ao : Option Addr) (n cap : Nat) (hs : Nat → Hd) (xss : List (List En)) (w : World) (h : LogsAt w own lo hi ao n cap hs xss) (hn : n ≤ 1048576) (hm : ∀ i, i < n → (hs i).2.1 ≤ 1048576) :
    Calls Try.prog 44 #[.slice ao n cap] w fun e w' => ∃ g hs', e = .returned (.slice (some ⟨g, 0, none⟩) n n) ∧ LogsAt w' true w.heap.size w'.heap.size (some ⟨g, 0, none⟩) n n hs' xss ∧ (∀ i, i < n → (hs' i).2.1 = (hs i).2.1) ∧ Below w.heap.size w w' := by
  obtain ⟨i0, hi0, hz0, hz1, hz2⟩ := info_parts Try.infoLog
  have HM : Hid _ := hm
  clear hm
  go_enter Try.func44, Try.ntmps44
  go_wp2_with (first | (at_make; refine wpList_make_full _ rfl _ _ 45 rfl w.heap.size 40 i0 (.slice none 0 0) 1 Try.underlying45 hi0 hz0 hz1 _ _ _ _ n rfl rfl rfl rfl ?b1 ?b2 ?b3 ?_))
  case b1 => rw [hz2]; omega
  case b2 => unfold maxLen; omega
  case b3 => exact Nat.le_refl _
  intro w1 hown hgrow
  have hb1 : Below w.heap.size w w1 := (Below.refl _ _).grown hgrow (Nat.le_refl _) (fun k hk => by cases hk)
  have hown0 : w1.ownsRow w.heap.size 40 1 (.slice (some ⟨w.heap.size, 0, none⟩) n n) n (hcs n hs 0) := by
    rw [hcs_zero]; simpa [Value.cells, made_logs] using hown
  clear hown hgrow
  go_wp2
  go_loopw [4] (fun i wr => ∃ k : Nat, k ≤ n ∧ i = .int .i64 k ∧ (∃ hs', wr.ownsRow w.heap.size 40 1 (.slice (some ⟨w.heap.size, 0, none⟩) n n) n (hcs n hs' k) ∧ (∀ i, i < k → RowAt wr false (w.heap.size + 1) wr.heap.size 6 (hs' i).1 (hs' i).2.1 (hs' i).2.2 (sixs (xss.getD i [])) ∧ (hs' i).2.1 = (hs i).2.1)) ∧ Below w.heap.size w wr) (fun i _ => n - (intOf i).toNat)
  case atStart => exact ⟨0, Nat.zero_le _, rfl, ⟨hs, hown0, fun i hi => absurd hi (Nat.not_lt_zero _)⟩, hb1⟩
  case round =>
    obtain ⟨k, hk, rfl, ⟨hs', hown, HE⟩, hb⟩ := hrel
    clear hown0 hb1
    by_cases hlt : k < n
    · have hlk : (k : Int) < (n : Int) := by omega
      obtain ⟨b, off, rfl, hbs, e0⟩ := h.cell hlt
      replace e0 := cell_later hb e0
      obtain ⟨u, R⟩ := h.each k hlt
      replace R := R.below hb
      have hmk := HM.out k hlt
      have F1 : ∀ w1, Below wr.heap.size wr w1 → ∀ g, wr.heap.size ≤ g → RowAt w1 true wr.heap.size w1.heap.size 6 (some ⟨g, 0, none⟩) (hs k).2.1 (hs k).2.1 (sixs (xss.getD k [])) → w1.cell? ⟨w.heap.size, k, none⟩ = some (.slice none 0 0) ∧ w1.frozen? ⟨w.heap.size, k, none⟩ = false ∧
          (∃ hs', (w1.setCell ⟨w.heap.size, k, none⟩ (.slice (some ⟨g, 0, none⟩) (hs k).2.1 (hs k).2.1)).ownsRow w.heap.size 40 1 (.slice (some ⟨w.heap.size, 0, none⟩) n n) n (hcs n hs' (k + 1)) ∧ (∀ i, i < k + 1 → RowAt (w1.setCell ⟨w.heap.size, k, none⟩ (.slice (some ⟨g, 0, none⟩) (hs k).2.1 (hs k).2.1)) false (w.heap.size + 1) (w1.setCell ⟨w.heap.size, k, none⟩ (.slice (some ⟨g, 0, none⟩) (hs k).2.1 (hs k).2.1)).heap.size 6 (hs' i).1 (hs' i).2.1 (hs' i).2.2 (sixs (xss.getD i [])) ∧ (hs' i).2.1 = (hs i).2.1)) ∧
          Below w.heap.size w (w1.setCell ⟨w.heap.size, k, none⟩ (.slice (some ⟨g, 0, none⟩) (hs k).2.1 (hs k).2.1)) := by
        intro w1 hb1 g hg hr
        have ho := owns_below hown hb1
        have hlw : w.heap.size + 1 ≤ wr.heap.size := (owns_lt hown).2
        refine ⟨by rw [ho.cellAt _ (by omega), hcs_none hlt], ho.frozenAt _, ⟨fun j => if j = k then (some ⟨g, 0, none⟩, (hs k).2.1, (hs k).2.1) else hs' j, ?_, fun i hi => ?_⟩, (below_step hb hb.size hb1).setCell (p := ⟨w.heap.size, k, none⟩) (Nat.le_refl _) _⟩
        · have r := (ho.stored k (.slice (some ⟨g, 0, none⟩) (hs k).2.1 (hs k).2.1)).1
          rw [← hcs_set hlt]
          exact r
        · have K : Kept w.heap.size (w.heap.size + 1) w1 (w1.setCell ⟨w.heap.size, k, none⟩ (.slice (some ⟨g, 0, none⟩) (hs k).2.1 (hs k).2.1)) := Kept.setCell (Kept.refl _ _ _) (p := ⟨w.heap.size, k, none⟩) (Nat.le_refl _) (Nat.lt_succ_self _) _
          by_cases e : i = k
          · subst e
            simp only [if_true]
            refine ⟨?_, trivial⟩
            have r2 := (hr.kept K (Or.inr (by omega))).widen (lo' := w.heap.size + 1) (hi' := (w1.setCell ⟨w.heap.size, i, none⟩ (.slice (some ⟨g, 0, none⟩) (hs i).2.1 (hs i).2.1)).heap.size) (by omega) K.size
            refine ⟨r2.len, r2.le, fun q => ?_⟩
            obtain ⟨b, off, e, g1, g2, g3, g4, _⟩ := r2.cells q
            exact ⟨b, off, e, g1, g2, g3, g4, fun q => by cases q⟩
          · simp only [if_neg e]
            obtain ⟨q1, q2⟩ := HE i (by omega)
            exact ⟨((q1.below hb1).kept K (Or.inr (Nat.le_refl _))).widen (Nat.le_refl _) (Nat.le_trans hb1.size K.size), q2⟩
      have HF : Hid _ := F1
      have HG : Hid (wr.heap.size ≤ wr.heap.size) := Nat.le_refl _
      clear F1 hown HE hb
      generalize xss.getD k [] = xk at *
      generalize hs k = hk at *
      obtain ⟨ha, hm, hc⟩ := hk
      simp only at e0 R hmk HF
      go_wp2_with fail
      refine (toEntries_any _ _ _ xk _ R hmk).mono ?_
      rintro e w1 ⟨rfl, R1, hb1⟩
      obtain ⟨a0, z0, a6, a7⟩ := HF.out w1 hb1 _ HG.out R1
      clear HF hb1 e0 R R1
      go_wp2
      go_roundw
      case rel => exact ⟨k + 1, by omega, by go_num, a6, a7⟩
      case measure => simp [intOf]; omega
    · obtain rfl : k = n := by omega
      go_wp2
      go_ret
      exact ⟨_, hs', rfl, ⟨h.len, RowAt.of_owns hown (Nat.le_refl _), fun i hi => ⟨_, (HE i hi).1.widen (Nat.zero_le _) (Nat.le_refl _)⟩⟩, fun i hi => (HE i hi).2, hb⟩

set_option maxRecDepth 20000 in
set_option maxHeartbeats 2000000 in
theorem eqLogs_yes {o1 o2 : Bool} {l1 u1 l2 u2 : Nat} (a1 a2 : Option Addr) (n c1 m c2 : Nat) (hs1 hs2 : Nat → Hd) (xss : List (List En)) (w : World) (h1 : LogsAt w o1 l1 u1 a1 n c1 hs1 xss) (h2 : LogsAt w o2 l2 u2 a2 m c2 hs2 xss) (hn : n ≤ 2097152) (hm : ∀ i, i < n → (hs1 i).2.1 ≤ 2097152) :
    Calls Try.prog 46 #[.slice a1 n c1, .slice a2 m c2] w fun e w' => e = .returned (.bool true) ∧ Below w.heap.size w w' := by
  obtain rfl : n = m := by rw [← h1.len, ← h2.len]
  have hb0 : ((n : Int) != (n : Int)) = false := by simp
  have HM : Hid _ := hm
  clear hm
  go_enter Try.func46, Try.ntmps46
  go_wp2
  go_loopw [5] (fun i wr => ∃ k : Nat, k ≤ n ∧ i = .int .i64 k ∧ Below w.heap.size w wr) (fun i _ => n - (intOf i).toNat)
  case atStart => exact ⟨0, Nat.zero_le _, rfl, Below.refl _ _⟩
  case round =>
    obtain ⟨k, hk, rfl, hb⟩ := hrel
    by_cases hlt : k < n
    · have hlk : (k : Int) < (n : Int) := by omega
      have D : Below wr.heap.size wr wr.drew := (Below.refl _ _).drew
      replace hb := below_next hb D
      clear D
      obtain ⟨b1, f1, rfl, _, k1⟩ := h1.cell hlt
      obtain ⟨b2, f2, rfl, _, k2⟩ := h2.cell hlt
      obtain ⟨x1, g1⟩ := h1.each k hlt
      obtain ⟨x2, g2⟩ := h2.each k hlt
      have hmk := HM.out k hlt
      replace k1 := cell_later hb k1
      replace k2 := cell_later hb k2
      replace g1 := g1.below hb
      replace g2 := g2.below hb
      generalize xss.getD k [] = xk at *
      generalize hs1 k = q1 at *
      generalize hs2 k = q2 at *
      obtain ⟨p1, m1, d1⟩ := q1
      obtain ⟨p2, m2, d2⟩ := q2
      simp only at k1 k2 g1 g2 hmk
      go_wp2_with fail
      go_region_held3 (fun w' => w'.cell? ⟨b1, f1 + k, none⟩ = some (.slice p1 m1 d1) ∧ w'.cell? ⟨b2, f2 + k, none⟩ = some (.slice p2 m2 d2)) (exact ⟨k1, k2⟩) (first | (go_at_call 34; refine (eqEntries_yes _ _ _ _ _ _ xk _ g1 g2 hmk).mono ?_; rintro e w3 ⟨rfl, hb3⟩; replace k1 := cell_later hb3 k1; replace k2 := cell_later hb3 k2; replace hb := below_next hb hb3; clear hb3))
      clear k1 k2 g1 g2
      go_wp2
      go_roundw
      case rel => exact ⟨k + 1, by omega, by go_num, hb⟩
      case measure => simp [intOf]; omega
    · obtain rfl : k = n := by omega
      go_wp2
      go_ret
      exact ⟨rfl, hb⟩
set_option maxRecDepth 20000 in
set_option maxHeartbeats 2000000 in
theorem szLogs_left {own : Bool} {lo hi : Nat} (ao : Option Addr) (n cap : Nat) (hs : Nat → Hd) (xss : List (List En)) (w : World) (h : LogsAt w own lo hi ao n cap hs xss) (hn : n ≤ maxLen) (hl : ∀ i, i < n → (hs i).2.1 ≤ maxLen) :
    Calls Try.prog 43 #[.slice ao n cap, .int .i64 1048576] w fun e w' => ∃ r : Int, e = .returned (.int .i64 r) ∧ w' = w ∧ (r < 0 ∨ (0 ≤ r ∧ n ≤ 1048576 ∧ ∀ i, i < n → (hs i).2.1 ≤ 1048576)) := by
  have HL : Hid _ := hl
  clear hl
  have hn' : n ≤ 9223372036854775807 := by unfold maxLen at hn; omega
  by_cases hbig : 1048576 < n
  · have hbi : (1048576 : Int) < (n : Int) := by omega
    unfold maxLen at hn
    go_enter Try.func43, Try.ntmps43
    go_wp2
    go_ret
    exact ⟨-1, rfl, rfl, Or.inl (by omega)⟩
  have hbi : ¬ (1048576 : Int) - (n : Int) < 0 := by omega
  unfold maxLen at hn
  go_enter Try.func43, Try.ntmps43
  go_wp2
  go_loopw [1, 5] (fun l i wr => ∃ k : Nat, k ≤ n ∧ i = .int .i64 k ∧ (∃ r : Int, l = .int .i64 r ∧ 0 ≤ r ∧ r ≤ 1048576) ∧ Hid (∀ i, i < k → (hs i).2.1 ≤ 1048576) ∧ wr = w) (fun _ i _ => n - (intOf i).toNat)
  case atStart => exact ⟨0, Nat.zero_le _, rfl, ⟨_, rfl, by omega, by omega⟩, fun i hi => absurd hi (Nat.not_lt_zero _), rfl⟩
  case round =>
    obtain ⟨k, hk, rfl, ⟨r, rfl, hr0, hr1⟩, HK, rfl⟩ := hrel
    by_cases hlt : k < n
    · have hlk : (k : Int) < (n : Int) := by omega
      obtain ⟨b, off, rfl, hbs, e0⟩ := h.cell hlt
      have hmk := HL.out k hlt
      have HN : Hid (∀ i, i < k + 1 → (hs i).2.1 ≤ 1048576 ∨ i = k) := fun i hi => by
        rcases Nat.lt_succ_iff_lt_or_eq.1 hi with q | q
        · exact Or.inl (HK.out i q)
        · exact Or.inr q
      have HQ : Hid (∀ m, (hs k).2.1 = m → m ≤ 1048576 → ∀ i, i < k + 1 → (hs i).2.1 ≤ 1048576) := fun m hm hm2 i hi => by
        rcases HN.out i hi with q | q
        · exact q
        · rw [q, hm]; exact hm2
      clear HN HK
      generalize hs k = hk' at *
      obtain ⟨ha, m, hc⟩ := hk'
      simp only at e0 hmk HQ
      go_wp2_with fail
      refine (szEntries_left ha m hc r _ hmk hr0 hr1).mono ?_
      rintro e W ⟨rfl, rfl⟩
      by_cases hb : r < m
      · rw [if_pos hb]
        go_wp2
        go_ret
        exact ⟨-1, rfl, rfl, Or.inl (by omega)⟩
      · rw [if_neg hb]
        have hb2 : ¬ r - (m : Int) < 0 := by omega
        have HQ' := HQ.out m rfl (by omega)
        clear HQ
        go_wp2
        go_roundw
        case rel => exact ⟨k + 1, by omega, by go_num, ⟨_, rfl, by omega, by omega⟩, HQ', by first | rfl | trivial⟩
        case measure => simp [intOf]; omega
    · obtain rfl : k = n := by omega
      go_wp2
      go_ret
      exact ⟨r, rfl, rfl, Or.inr ⟨hr0, by omega, HK.out⟩⟩

end Go.Proofs.Ytpbhiednmnolgaa
