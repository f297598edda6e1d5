/- What the model's NewDisk answers. -/
import Derived.Test.YtkpbmffklcgecaaNewD
namespace Go.Proofs.Ytkpbmffklcgecaa
open Go.RowKit

/-- A block of another element type is no block of the row: a store into it keeps the row. -/
theorem owns_setCell {w : World} {base : Nat} {e : TypeId} {size : Nat} {v : Value} {n : Nat} {cs : List Value} (h : w.ownsRow base e size v n cs) {D : Nat} {c : Array Value} {t : TypeId} {fr : Nat × Nat} (hD : w.heap[D]? = some (.cells c t fr)) (hne : e ≠ t) (i : Nat) (u : Value) : (w.setCell ⟨D, i, none⟩ u).ownsRow base e size v n cs := by
  refine ⟨h.1, ?_⟩
  rcases h.2 with h2 | ⟨g, cap, cur, hv, hg, hh, r⟩
  · exact Or.inl h2
  · refine Or.inr ⟨g, cap, cur, hv, hg, ?_, r⟩
    rw [heap_setCell_other _ _ _ _ (by intro e'; subst e'; rw [hh] at hD; simp at hD; exact hne hD.2.1)]
    exact hh
theorem owns_not {w : World} {base : Nat} {e : TypeId} {size : Nat} {v : Value} {n : Nat} {cs : List Value} (h : w.ownsRow base e size v n cs) {D : Nat} {c : Array Value} {t : TypeId} {fr : Nat × Nat} (hD : w.heap[D]? = some (.cells c t fr)) (hne : e ≠ t) : some D ≠ v.ownBlock := by
  rcases h.2 with ⟨rfl, _⟩ | ⟨g, cap, cur, rfl, hg, hh, r⟩
  · simp [Value.ownBlock]
  · intro e'
    simp [Value.ownBlock] at e'
    subst e'
    rw [hh] at hD; simp at hD; exact hne hD.2.1

/-- how long the slice in a box's first cell is -/
def lenAt (D : Nat) (w : World) : Nat := match w.cell? ⟨D, 0, none⟩ with | some (.slice _ k _) => k | _ => 0
theorem lenAt_eq {D : Nat} {w : World} {ao : Option Addr} {k cap : Nat} (h : w.cell? ⟨D, 0, none⟩ = some (.slice ao k cap)) : lenAt D w = k := by simp [lenAt, h]

def padTo (xs : List Int) (k : Nat) : List Int := xs ++ List.replicate (k - xs.length) 0
theorem padTo_self (xs : List Int) : padTo xs xs.length = xs := by simp [padTo]
theorem padTo_snoc (xs : List Int) (k : Nat) (h : xs.length ≤ k) : padTo xs (k + 1) = padTo xs k ++ [0] := by
  unfold padTo
  rw [show k + 1 - xs.length = (k - xs.length) + 1 by omega, List.replicate_succ', List.append_assoc]
theorem padTo_end (xs : List Int) (k : Nat) (h : xs.length ≤ k) (h2 : 64 ≤ k) (h3 : k = xs.length ∨ k ≤ 64) : padTo xs k = pad xs := by
  unfold padTo pad
  rcases h3 with rfl | h3
  · simp [show 64 - xs.length = 0 by omega]
  · rw [show k = 64 by omega]

set_option maxRecDepth 20000 in
set_option maxHeartbeats 2000000 in
theorem specNew_any {o0 : Bool} {l0 u0 : Nat} (ad : Addr) (n0 c0 : Nat) (xs : List Int) (w : World) (h0 : RowAt w o0 l0 u0 1 (some ad) n0 c0 (ints xs)) (hn : n0 ≤ 2097152) :
    Calls Try.prog 32 #[.slice (some ad) n0 c0] w fun e w' => DiskRes w w' e (newCode xs) (newList xs) [] := by
  have hx := h0.nInts
  obtain ⟨i0, hi0, hz0, hz1, hz2⟩ := info_parts Try.info2'
  have B1 : Below w.heap.size w ((w.alloc (.cells #[.int .i64 0, .slice none 0 0, .slice none 0 0] 32)).alloc (.cells #[] 2)) := ((Below.refl _ _).alloc (Nat.le_refl _) _).alloc (by simp) _
  have O1 : ((w.alloc (.cells #[.int .i64 0, .slice none 0 0, .slice none 0 0] 32)).alloc (.cells #[] 2)).ownsRow (w.heap.size + 1) 2 1 (.slice (some ⟨w.heap.size + 1, 0, none⟩) 0 0) 0 [] := by
    have := World.ownsRow_lit (base := w.heap.size + 1) (e := 2) (size := 1) (w.alloc (.cells #[.int .i64 0, .slice none 0 0, .slice none 0 0] 32)) #[] 0 (by simp) (Nat.zero_le _) rfl
    simpa using this
  have h0' := h0.below B1
  go_enter Try.func32, Try.ntmps32
  go_wp2_with (first | (at_builtin; refine wpList_append_own _ rfl _ _ 24 rfl (w.heap.size + 1) 2 i0 (.int .i64 0) 1 8 Try.underlying24 hi0 hz0 hz1 hz2 rfl (by decide) _ _ _ rfl O1 ad n0 c0 (ints xs) rfl ?c0 ?c1 ?c2 ?c3 ?c4 ?c5 ?_))
  case c0 => rw [ints_length]; omega
  case c1 =>
    intro j u hj
    have hj' : j < xs.length := by have := (List.getElem?_eq_some_iff.1 hj).1; simpa [ints_length] using this
    obtain ⟨b, off, e, _, _, _, hc, _⟩ := h0'.int (show j < n0 by omega)
    cases e
    rw [show (⟨b, off, none⟩ : Addr).add j = ⟨b, off + j, none⟩ by simp [Addr.add]]
    rw [hc, ← hj]
    simp [ints, List.getD, hj']
  case c2 => exact ints_oneCell _ _
  case c3 => unfold maxLen; omega
  case c4 => omega
  case c5 => simp
  intro v1 w1 hown1 hgrow1 _
  have B2 : Below w.heap.size w w1 := B1.grown hgrow1 (by simp; omega) (fun g hg => by have := (O1.lt g hg).1; omega)
  have S1 : w.heap.size + 2 ≤ w1.heap.size := by have := hgrow1.size; simp at this; omega
  obtain ⟨ao1, cap1, rfl, _⟩ := RowAt.of_owned hown1
  have P0 : w1.heap[w.heap.size]? = some (.cells #[.int .i64 0, .slice none 0 0, .slice none 0 0] 32 (0, 0)) := by
    rw [hgrow1.block _ (by simp; omega) (by simp [Value.ownBlock])]; exact heap_alloc2_old _ _ _
  have HP0 : Hid _ := P0
  have HO1 : Hid _ := hown1
  clear P0 hown1
  clear O1 h0' hgrow1
  go_wp2
  go_loopw [12] (fun _ wr => ∃ k ao cap, n0 ≤ k ∧ (k = n0 ∨ k ≤ 64) ∧ wr.heap[w1.heap.size]? = some (.cells #[.slice ao k cap, .slice none 0 0] 27 (0, 0)) ∧ wr.heap[w.heap.size]? = some (.cells #[.int .i64 0, .slice none 0 0, .slice none 0 0] 32 (0, 0)) ∧ wr.ownsRow (w.heap.size + 1) 2 1 (.slice ao k cap) k (ints (padTo xs k)) ∧ Below w.heap.size w wr) (fun _ wr => 64 - lenAt w1.heap.size wr)
  case atStart =>
    refine ⟨n0, ao1, cap1, Nat.le_refl _, Or.inl rfl, heap_alloc_new _ _, ?_, ?_, B2.alloc (by omega) _⟩
    · rw [heap_alloc_old _ _ (by omega)]; exact HP0.out
    · rw [← hx, padTo_self, hx]; exact World.ownsRow.alloc HO1.out _
  case round =>
    obtain ⟨k, ao, cap, hk1, hk2, G1, G0, hown, hb⟩ := hrel
    have hwr : w1.heap.size < wr.heap.size := (Array.getElem?_eq_some_iff.1 G1).1
    have d0 : wr.cell? ⟨w1.heap.size, 0, none⟩ = some (.slice ao k cap) := by rw [cell_of_row wr _ 0 _ _ _ G1]; rfl
    have d1 : wr.cell? ⟨w1.heap.size, 1, none⟩ = some (.slice none 0 0) := by rw [cell_of_row wr _ 1 _ _ _ G1]; rfl
    have hlenA : lenAt w1.heap.size wr = k := lenAt_eq d0
    have HLA : Hid _ := hlenA
    have H1 : Hid _ := G1
    have H0 : Hid _ := G0
    clear G1 G0 hlenA
    by_cases hlt : k < 64
    · have hownA := hown.alloc (.cells #[.int .i64 0] 2)
      have hl : (k : Int) < 64 := by omega
      go_wp2_with (first | (at_builtin; refine wpList_append_own _ rfl _ _ 24 rfl (w.heap.size + 1) 2 i0 (.int .i64 0) 1 8 Try.underlying24 hi0 hz0 hz1 hz2 rfl (by decide) _ _ _ rfl hownA ⟨wr.heap.size, 0, none⟩ 1 1 [.int .i64 0] rfl rfl ?e1 ?e2 ?e3 ?e4 ?e5 ?_))
      case e1 =>
        intro j u hj
        match j, hj with
        | 0, hj => simp at hj; subst hj; simp [Addr.add]
      case e2 => intro u hu; simp at hu; subst hu; rfl
      case e3 => unfold maxLen; omega
      case e4 => omega
      case e5 => simp; omega
      intro v' w2 hown' hgrow _
      obtain ⟨ao', cap', rfl, _⟩ := RowAt.of_owned hown'
      have HD : (wr.alloc (.cells #[.int .i64 0] 2)).heap[w1.heap.size]? = some (.cells #[.slice ao k cap, .slice none 0 0] 27 (0, 0)) := by rw [heap_alloc_old _ _ hwr]; exact H1.out
      have HE : (wr.alloc (.cells #[.int .i64 0] 2)).heap[w.heap.size]? = some (.cells #[.int .i64 0, .slice none 0 0, .slice none 0 0] 32 (0, 0)) := by rw [heap_alloc_old _ _ (by omega)]; exact H0.out
      have F1 : w2.heap[w1.heap.size]? = some (.cells #[.slice ao k cap, .slice none 0 0] 27 (0, 0)) := by
        rw [hgrow.block _ (by simp; omega) (owns_not hownA HD (by decide))]; exact HD
      have F0 : w2.heap[w.heap.size]? = some (.cells #[.int .i64 0, .slice none 0 0, .slice none 0 0] 32 (0, 0)) := by
        rw [hgrow.block _ (by simp; omega) (owns_not hownA HE (by decide))]; exact HE
      have hb2 : Below w.heap.size w w2 := (hb.alloc (by omega) _).grown hgrow (by simp; omega) (fun g hg => by have := (hownA.lt g hg).1; omega)
      have c0 : w2.cell? ⟨w1.heap.size, 0, none⟩ = some (.slice ao k cap) := by rw [cell_of_row w2 _ 0 _ _ _ F1]; rfl
      have f0 : w2.frozen? ⟨w1.heap.size, 0, none⟩ = false := frozen_of_row w2 _ 0 _ _ F1
      have G1 := heap_setCell_same w2 w1.heap.size 0 _ _ (.slice ao' (k + 1) cap') F1
      have G0 : (w2.setCell ⟨w1.heap.size, 0, none⟩ (.slice ao' (k + 1) cap')).heap[w.heap.size]? = some (.cells #[.int .i64 0, .slice none 0 0, .slice none 0 0] 32 (0, 0)) := by
        rw [heap_setCell_other _ _ _ _ (by simp; omega)]; exact F0
      have hown2 := owns_setCell hown' F1 (by decide) 0 (.slice ao' (k + 1) cap')
      have hown3 : (w2.setCell ⟨w1.heap.size, 0, none⟩ (.slice ao' (k + 1) cap')).ownsRow (w.heap.size + 1) 2 1 (.slice ao' (k + 1) cap') (k + 1) (ints (padTo xs (k + 1))) := by
        rw [padTo_snoc xs k (by omega)]
        simpa [ints] using hown2
      have hb3 := hb2.setCell (p := ⟨w1.heap.size, 0, none⟩) (show w.heap.size ≤ w1.heap.size by omega) (.slice ao' (k + 1) cap')
      have HG1 : Hid _ := G1
      have HG0 : Hid _ := G0
      have HL2 : Hid (lenAt w1.heap.size (w2.setCell ⟨w1.heap.size, 0, none⟩ (.slice ao' (k + 1) cap')) = k + 1) := lenAt_eq (by rw [World.cell?_setCell_same _ _ _ c0])
      clear hown' hgrow hown hb hownA HD HE F1 F0 hb2 G1 G0 hown2
      go_wp2
      go_roundw
      case rel => exact ⟨k + 1, ao', cap', by omega, Or.inr (by omega), by simpa using HG1.out, HG0.out, hown3, hb3⟩
      case measure => rw [HLA.out, HL2.out]; omega
    · have hge : ¬ ((k : Int) < 64) := by omega
      have hpe := padTo_end xs k (by omega) (by omega) (by omega)
      rw [hpe] at hown
      obtain ⟨ao2, cap2, e2, R⟩ := RowAt.of_owned hown
      obtain ⟨rfl, -, rfl⟩ := Value.slice.inj e2
      have z0 : wr.cell? ⟨w.heap.size, 0, none⟩ = some (.int .i64 0) := by rw [cell_of_row wr _ 0 _ _ _ H0.out]; rfl
      have z1 : wr.cell? ⟨w.heap.size, 1, none⟩ = some (.slice none 0 0) := by rw [cell_of_row wr _ 1 _ _ _ H0.out]; rfl
      have z2 : wr.cell? ⟨w.heap.size, 2, none⟩ = some (.slice none 0 0) := by rw [cell_of_row wr _ 2 _ _ _ H0.out]; rfl
      have y0 : wr.frozen? ⟨w.heap.size, 0, none⟩ = false := frozen_of_row wr _ 0 _ _ H0.out
      have y1 : wr.frozen? ⟨w.heap.size, 1, none⟩ = false := frozen_of_row wr _ 1 _ _ H0.out
      have y2 : wr.frozen? ⟨w.heap.size, 2, none⟩ = false := frozen_of_row wr _ 2 _ _ H0.out
      obtain ⟨f, hf⟩ : ∃ f, newCode xs = f := ⟨_, rfl⟩
      have HF : Hid (faultOf (pad xs) [] = f) := hf
      have HN : Hid (newCode xs = f) := hf
      clear hf hpe hown e2 H1 H0
      by_cases hf0 : f = 0
      · subst hf0
        go_wp2_with fail
        refine (l1Fault_is _ _ _ _ _ _ _ (pad xs) [] _ R (RowAt.nil _ true 0 0 2) (by omega) (by omega) d0 d1 _ HF.out).mono ?_
        rintro e w' ⟨rfl, rfl⟩
        go_wp2
        refine bodyPost_ret (v := .agg #[.int .i64 0, .slice ao k cap, .slice none 0 0]) (by simp [results, Try.results32, go_sem, z0, z1, z2]) rfl ?_
        rw [HN.out, newList, if_pos HN.out]
        refine ⟨_, _, _, _, _, _, rfl, ⟨_, ?_, Nat.le_refl _, RowAt.widen (RowAt.kept R (l := w.heap.size) (u := w.heap.size + 1) ?_ (by omega)) (by omega) ?_, RowAt.nil _ _ _ _ _⟩, ?_⟩
        · simp; omega
        · refine Kept.setCell (Kept.setCell (Kept.setCell (Kept.refl _ _ _) ?_ ?_ _) ?_ ?_ _) ?_ ?_ _ <;> simp
        · simp
        · refine Below.setCell (Below.setCell (Below.setCell hb ?_ _) ?_ _) ?_ _ <;> simp
      · have hne : (f != 0) = true := by simp [hf0]
        have HF0 : Hid _ := hf0
        clear hf0
        go_wp2_with fail
        refine (l1Fault_is _ _ _ _ _ _ _ (pad xs) [] _ R (RowAt.nil _ true 0 0 2) (by omega) (by omega) d0 d1 _ HF.out).mono ?_
        rintro e w' ⟨rfl, rfl⟩
        go_wp2
        refine bodyPost_ret (v := .agg #[.int .i64 f, .slice none 0 0, .slice none 0 0]) (by simp [results, Try.results32, go_sem, z0, z1, z2]) rfl ?_
        rw [HN.out, newList, if_neg (by rw [HN.out]; exact HF0.out)]
        refine ⟨_, _, _, _, _, _, rfl, ⟨w.heap.size, Nat.le_refl _, ?_, RowAt.nil _ _ _ _ _, RowAt.nil _ _ _ _ _⟩, ?_⟩
        · simp; omega
        · refine Below.setCell (Below.setCell (Below.setCell hb ?_ _) ?_ _) ?_ _ <;> simp

end Go.Proofs.Ytkpbmffklcgecaa
