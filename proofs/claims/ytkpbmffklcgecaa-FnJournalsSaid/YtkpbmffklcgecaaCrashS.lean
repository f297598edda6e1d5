/- What the model's CrashDisk answers. -/
import Derived.Test.YtkpbmffklcgecaaCrashD
import Derived.Test.YtkpbmffklcgecaaNewS
namespace Go.Proofs.Ytkpbmffklcgecaa
open Go.RowKit

theorem owned_some {w : World} {base : Nat} {e : TypeId} {size : Nat} {v : Value} {n : Nat} {cs : List Value} (h : w.ownsRow base e size v n cs) (hn : n ≠ 0) : ∃ g cap, v = .slice (some ⟨g, 0, none⟩) n cap ∧ base ≤ g ∧ g < w.heap.size ∧ ∃ cur, w.heap[g]? = some (.cells cur e (0, 0)) := by
  rcases h.2 with ⟨rfl, h0⟩ | ⟨g, cap, cur, rfl, hg, hh, r⟩
  · exact absurd h0 hn
  · exact ⟨g, cap, rfl, hg, (Array.getElem?_eq_some_iff.1 hh).1, cur, hh⟩

set_option maxRecDepth 20000 in
set_option maxHeartbeats 2000000 in
theorem specCrash_any {o0 o1 o2 : Bool} {l0 u0 l1 u1 l2 u2 : Nat} (a0 a1 : Option Addr) (n0 c0 n1 c1 : Nat) (xs : List Int) (ys : List (Int × Int)) (a2 : Option Addr) (n2 c2 : Nat) (bs : List Bool) (w : World) (h0 : RowAt w o0 l0 u0 1 a0 n0 c0 (ints xs)) (h1 : RowAt w o1 l1 u1 2 a1 n1 c1 (pairs ys)) (h2 : RowAt w o2 l2 u2 1 a2 n2 c2 (bls bs)) (hn : n0 ≤ 2097152) (hm : n1 ≤ 2097152) (_hq : n2 ≤ 2097152) :
    Calls Try.prog 44 #[.agg #[.slice a0 n0 c0, .slice a1 n1 c1], .slice a2 n2 c2] w fun e w' => DiskRes w w' e (faultOf xs ys) (crashRes xs ys bs) [] := by
  have B1 : Below w.heap.size w ((w.alloc (.cells #[.slice a0 n0 c0, .slice a1 n1 c1] 27)).alloc (.cells #[.int .i64 0, .slice none 0 0, .slice none 0 0] 32)) := ((Below.refl _ _).alloc (Nat.le_refl _) _).alloc (by simp) _
  by_cases h0f : faultOf xs ys = 0
  · obtain ⟨hx, hy, hpl⟩ := fault_zero h0f
    have hr : crashRes xs ys bs = putAll xs (picked ys bs) := if_pos h0f
    have HF : Hid _ := h0f
    rw [hr, h0f]
    clear hr h0f
    have hn0 := h0.nInts
    have hn1 := h1.nPairs
    have hn2 := h2.nBools
    obtain ⟨i0, hi0, hz0, hz1, hz2⟩ := info_parts Try.info2'
    have h64 : n0 = 64 := by omega
    subst h64
    obtain ⟨ab, aoff, rfl, _⟩ := h0.cells (by omega)
    go_enter Try.func44, Try.ntmps44
    go_wp2_with fail
    refine (l1Fault_is _ _ a1 64 c0 n1 c1 xs ys _ (by exact h0.below B1) (by exact h1.below B1) hn hm (by simp) (by simp) _ HF.out).mono ?_
    rintro e W ⟨rfl, hW⟩
    have k0 : W.cell? ⟨w.heap.size, 0, none⟩ = some (.slice (some ⟨ab, aoff, none⟩) 64 c0) := by rw [hW]; simp
    have k1 : W.cell? ⟨w.heap.size, 1, none⟩ = some (.slice a1 n1 c1) := by rw [hW]; simp
    have G0 : W.heap[w.heap.size]? = some (.cells #[.slice (some ⟨ab, aoff, none⟩) 64 c0, .slice a1 n1 c1] 27 (0, 0)) := by rw [hW]; exact heap_alloc2_old _ _ _
    have G1 : W.heap[w.heap.size + 1]? = some (.cells #[.int .i64 0, .slice none 0 0, .slice none 0 0] 32 (0, 0)) := by rw [hW]; exact heap_alloc2_new _ _ _
    have SW : w.heap.size + 2 ≤ W.heap.size := by rw [hW]; simp
    rw [← hW] at B1
    clear hW
    have O1 := World.ownsRow_lit (base := W.heap.size) (e := 2) (size := 1) W #[] 0 (Nat.le_refl _) (Nat.zero_le _) rfl
    have A1 : Below W.heap.size W (W.alloc (.cells #[] 2)) := (Below.refl _ _).alloc (Nat.le_refl _) _
    have B2 := below_next B1 A1
    have h0' := h0.below B2
    have lw : w.heap.size < W.heap.size := by omega
    go_wp2_with (first | (at_builtin; refine wpList_append_own _ rfl _ _ 24 rfl W.heap.size 2 i0 (.int .i64 0) 1 8 Try.underlying24 hi0 hz0 hz1 hz2 rfl (by decide) _ _ _ rfl O1 ⟨ab, aoff, none⟩ 64 c0 (ints xs) rfl ?c0 ?c1 ?c2 ?c3 ?c4 ?c5 ?_))
    case c0 => rw [ints_length]; omega
    case c1 =>
      intro j u hj
      have hj' : j < xs.length := by have := (List.getElem?_eq_some_iff.1 hj).1; simpa [ints_length] using this
      obtain ⟨b, off, e, _, _, _, hc, _⟩ := h0'.int (show j < 64 by omega)
      cases e
      rw [show (⟨ab, aoff, none⟩ : Addr).add j = ⟨ab, aoff + j, none⟩ by simp [Addr.add]]
      rw [hc, ← hj]
      simp [ints, List.getD, hj']
    case c2 => exact ints_oneCell _ _
    case c3 => unfold maxLen; omega
    case c4 => omega
    case c5 => simp
    intro v1 w1 hown1 hgrow1 _
    obtain ⟨g, cap1, rfl, hg1, hg2, _⟩ := owned_some hown1 (by omega)
    have HO : Hid (w1.ownsRow W.heap.size 2 1 (.slice (some ⟨g, 0, none⟩) 64 cap1) 64 (ints xs)) := by show w1.ownsRow _ _ _ _ _ _; simpa using hown1
    have F0 : w1.heap[w.heap.size]? = some (.cells #[.slice (some ⟨ab, aoff, none⟩) 64 c0, .slice a1 n1 c1] 27 (0, 0)) := by
      rw [hgrow1.block _ (by simp; omega) (by simp [Value.ownBlock]; omega), heap_alloc_old _ _ lw]; exact G0
    have F1 : w1.heap[w.heap.size + 1]? = some (.cells #[.int .i64 0, .slice none 0 0, .slice none 0 0] 32 (0, 0)) := by
      rw [hgrow1.block _ (by simp; omega) (by simp [Value.ownBlock]; omega), heap_alloc_old _ _ (by omega)]; exact G1
    have B3 : Below w.heap.size w w1 := B2.grown hgrow1 (by simp; omega) (fun q hq => by have := (O1.lt q hq).1; omega)
    have HF0 : Hid _ := F0
    have HF1 : Hid _ := F1
    have lw1 : w.heap.size < w1.heap.size := by omega
    clear O1 hown1 hgrow1 F0 F1 G0 G1 h0' A1 B2 B1 k0 k1
    go_wp2
    go_loopw [7] (fun i wr => ∃ k : Nat, k ≤ min n1 n2 ∧ i = .int .i64 k ∧ wr.ownsRow W.heap.size 2 1 (.slice (some ⟨g, 0, none⟩) 64 cap1) 64 (ints (putAll xs (picked (ys.take k) (bs.take k)))) ∧ wr.heap[w1.heap.size]? = some (.cells #[.slice (some ⟨g, 0, none⟩) 64 cap1, .slice none 0 0] 27 (0, 0)) ∧ wr.heap[w.heap.size]? = some (.cells #[.slice (some ⟨ab, aoff, none⟩) 64 c0, .slice a1 n1 c1] 27 (0, 0)) ∧ wr.heap[w.heap.size + 1]? = some (.cells #[.int .i64 0, .slice none 0 0, .slice none 0 0] 32 (0, 0)) ∧ Below w.heap.size w wr) (fun i _ => min n1 n2 - (intOf i).toNat)
    case atStart =>
      refine ⟨0, Nat.zero_le _, rfl, World.ownsRow.alloc HO.out _, heap_alloc_new _ _, ?_, ?_, B3.alloc (by omega) _⟩
      · rw [heap_alloc_old _ _ (by omega)]; exact HF0.out
      · rw [heap_alloc_old _ _ (by omega)]; exact HF1.out
    case round =>
      obtain ⟨k, hk, rfl, hown, E1, E0, E2, hb⟩ := hrel
      have hcl : (putAll xs (picked (ys.take k) (bs.take k))).length = 64 := by rw [putAll_len, hx]
      have d0 : wr.cell? ⟨w1.heap.size, 0, none⟩ = some (.slice (some ⟨g, 0, none⟩) 64 cap1) := by rw [cell_of_row wr _ 0 _ _ _ E1]; rfl
      have d1 : wr.cell? ⟨w1.heap.size, 1, none⟩ = some (.slice none 0 0) := by rw [cell_of_row wr _ 1 _ _ _ E1]; rfl
      have k1 : wr.cell? ⟨w.heap.size, 1, none⟩ = some (.slice a1 n1 c1) := by rw [cell_of_row wr _ 1 _ _ _ E0]; rfl
      have H1 : Hid _ := E1
      have H0 : Hid _ := E0
      have H2 : Hid _ := E2
      clear E1 E0 E2
      by_cases hlt : k < min n1 n2
      · have hk1 : k < n1 := by omega
        have hk2 : k < n2 := by omega
        have hl1 : (k : Int) < n1 := by omega
        have hl2 : (k : Int) < n2 := by omega
        obtain ⟨b1, f1, rfl, _, _, hs1, e1, e1', _⟩ := h1.pair hk1
        obtain ⟨b2, f2, rfl, _, _, hs2, e2, _⟩ := h2.bool hk2
        have g1 : wr.cell? ⟨b1, f1 + k * 2, none⟩ = some (.int .i64 (ys.getD k (0, 0)).1) := (hb.cell (p := ⟨b1, f1 + k * 2, none⟩) hs1).trans e1
        have g1' : wr.cell? ⟨b1, f1 + k * 2 + 1, none⟩ = some (.int .i64 (ys.getD k (0, 0)).2) := (hb.cell (p := ⟨b1, f1 + k * 2 + 1, none⟩) hs1).trans e1'
        have g2 : wr.cell? ⟨b2, f2 + k, none⟩ = some (.bool (bs.getD k false)) := (hb.cell (p := ⟨b2, f2 + k, none⟩) hs2).trans e2
        obtain ⟨m, hm', hm64⟩ := places_at hpl (show k < ys.length by omega)
        have hsn := picked_snoc ys bs k (by omega) (by omega)
        have HS : Hid _ := hsn
        clear e1 e1' e2 hsn
        cases hd : bs.getD k false with
        | false =>
          have HE : Hid (picked (ys.take (k + 1)) (bs.take (k + 1)) = picked (ys.take k) (bs.take k)) := by show _ = _; have := HS.out; rw [hd] at this; simpa using this
          rw [hd] at g2
          clear hd hm' g1 g1'
          go_wp2
          go_roundw
          case rel => exact ⟨k + 1, by omega, by go_num, by rw [HE.out]; exact hown, H1.out, H0.out, H2.out, hb⟩
          case measure => simp [intOf]; omega
        | true =>
          have HE : Hid (picked (ys.take (k + 1)) (bs.take (k + 1)) = picked (ys.take k) (bs.take k) ++ [ys.getD k (0, 0)]) := by show _ = _; have := HS.out; rw [hd] at this; simpa using this
          rw [hd] at g2
          rw [hm'] at g1
          have hcw : wr.cell? ⟨g, m, none⟩ = some (.int .i64 ((putAll xs (picked (ys.take k) (bs.take k))).getD m 0)) := by
            rw [hown.cellAt m (by omega)]
            simp [ints, List.getD, hcl, hm64]
          have hfw : wr.frozen? ⟨g, m, none⟩ = false := hown.frozenAt m
          have R := (hown.stored m (.int .i64 (ys.getD k (0, 0)).2)).1
          have hset : (ints (putAll xs (picked (ys.take k) (bs.take k)))).set m (.int .i64 (ys.getD k (0, 0)).2) = ints (putAll xs (picked (ys.take (k + 1)) (bs.take (k + 1)))) := by
            rw [HE.out, putAll_snoc, hm', Int.toNat_natCast, ints, ints, List.map_set]
          rw [hset] at R
          have hb2 : Below w.heap.size w (wr.setCell ⟨g, m, none⟩ (.int .i64 (ys.getD k (0, 0)).2)) := hb.setCell (p := ⟨g, m, none⟩) (show w.heap.size ≤ g by omega) _
          have N1 : (wr.setCell ⟨g, m, none⟩ (.int .i64 (ys.getD k (0, 0)).2)).heap[w1.heap.size]? = some (.cells #[.slice (some ⟨g, 0, none⟩) 64 cap1, .slice none 0 0] 27 (0, 0)) := by rw [heap_setCell_other _ _ _ _ (by simp; omega)]; exact H1.out
          have N0 : (wr.setCell ⟨g, m, none⟩ (.int .i64 (ys.getD k (0, 0)).2)).heap[w.heap.size]? = some (.cells #[.slice (some ⟨ab, aoff, none⟩) 64 c0, .slice (some ⟨b1, f1, none⟩) n1 c1] 27 (0, 0)) := by rw [heap_setCell_other _ _ _ _ (by simp; omega)]; exact H0.out
          have N2 : (wr.setCell ⟨g, m, none⟩ (.int .i64 (ys.getD k (0, 0)).2)).heap[w.heap.size + 1]? = some (.cells #[.int .i64 0, .slice none 0 0, .slice none 0 0] 32 (0, 0)) := by rw [heap_setCell_other _ _ _ _ (by simp; omega)]; exact H2.out
          have hl64 : (m : Int) < 64 := by omega
          have M1 : Hid _ := N1
          have M0 : Hid _ := N0
          have M2 : Hid _ := N2
          clear hd hm' hset N1 N0 N2 H1 H0 H2 hown hcl
          generalize (ys.getD k (0, 0)).2 = x at *
          generalize (putAll xs (picked (ys.take k) (bs.take k))).getD m 0 = old at *
          have s0 : (wr.setCell ⟨g, m, none⟩ (.int .i64 x)).cell? ⟨w1.heap.size, 0, none⟩ = some (.slice (some ⟨g, 0, none⟩) 64 cap1) := by
            rw [World.cell?_setCell_other _ _ _ _ (by intro e; simp at e <;> omega)]; exact d0
          have s1 : (wr.setCell ⟨g, m, none⟩ (.int .i64 x)).cell? ⟨w.heap.size, 1, none⟩ = some (.slice (some ⟨b1, f1, none⟩) n1 c1) := by
            rw [World.cell?_setCell_other _ _ _ _ (by intro e; simp at e <;> omega)]; exact k1
          have s2 : (wr.setCell ⟨g, m, none⟩ (.int .i64 x)).cell? ⟨b1, f1 + k * 2, none⟩ = some (.int .i64 m) := by
            rw [World.cell?_setCell_other _ _ _ _ (by intro e; simp at e <;> omega)]; exact g1
          have s3 : (wr.setCell ⟨g, m, none⟩ (.int .i64 x)).cell? ⟨b1, f1 + k * 2 + 1, none⟩ = some (.int .i64 x) := by
            rw [World.cell?_setCell_other _ _ _ _ (by intro e; simp at e <;> omega)]; exact g1'
          go_wp2_with fail
          go_region_held3 (fun w' => w'.cell? ⟨w1.heap.size, 0, none⟩ = some (.slice (some ⟨g, 0, none⟩) 64 cap1) ∧ w'.cell? ⟨w.heap.size, 1, none⟩ = some (.slice (some ⟨b1, f1, none⟩) n1 c1) ∧ w'.cell? ⟨b1, f1 + k * 2, none⟩ = some (.int .i64 m) ∧ w'.cell? ⟨b1, f1 + k * 2 + 1, none⟩ = some (.int .i64 x)) (first | exact ⟨d0, k1, g1, g1'⟩ | exact ⟨s0, s1, s2, s3⟩) (fail)
          go_wp2
          go_roundw
          case rel => exact ⟨k + 1, by omega, by go_num, R, M1.out, M0.out, M2.out, hb2.drew⟩
          case measure => simp [intOf]; omega
      · have hkm : k = min ys.length bs.length := by omega
        have hpe := picked_end ys bs k hkm
        rw [hpe] at hown
        have R := RowAt.of_owns hown (by rcases hown.2 with ⟨h', _⟩ | ⟨_, _, _, h', _, _, hc, _⟩; (simp at h'); (simp at h'; omega))
        have z0 : wr.cell? ⟨w.heap.size + 1, 0, none⟩ = some (.int .i64 0) := by rw [cell_of_row wr _ 0 _ _ _ H2.out]; rfl
        have z1 : wr.cell? ⟨w.heap.size + 1, 1, none⟩ = some (.slice none 0 0) := by rw [cell_of_row wr _ 1 _ _ _ H2.out]; rfl
        have z2 : wr.cell? ⟨w.heap.size + 1, 2, none⟩ = some (.slice none 0 0) := by rw [cell_of_row wr _ 2 _ _ _ H2.out]; rfl
        have y0 : wr.frozen? ⟨w.heap.size + 1, 0, none⟩ = false := frozen_of_row wr _ 0 _ _ H2.out
        have y1 : wr.frozen? ⟨w.heap.size + 1, 1, none⟩ = false := frozen_of_row wr _ 1 _ _ H2.out
        have y2 : wr.frozen? ⟨w.heap.size + 1, 2, none⟩ = false := frozen_of_row wr _ 2 _ _ H2.out
        have hsz := hb.size
        have hg3 : g < wr.heap.size := (owns_lt hown).2
        clear hkm hpe hown H1 H0 H2 hcl
        by_cases hk1 : k < n1
        all_goals
          go_wp2
          refine bodyPost_ret (v := .agg #[.int .i64 0, .slice (some ⟨g, 0, none⟩) 64 cap1, .slice none 0 0]) (by simp [results, Try.results44, go_sem, z0, z1, z2]) rfl ⟨_, _, _, _, _, _, rfl, ⟨_, ?_, Nat.le_refl _, RowAt.widen (RowAt.kept R (l := w.heap.size + 1) (u := w.heap.size + 2) ?_ (by omega)) (by omega) ?_, RowAt.nil _ _ _ _ _⟩, ?_⟩
          · simp; omega
          · refine Kept.setCell (Kept.setCell (Kept.setCell (Kept.refl _ _ _) ?_ ?_ _) ?_ ?_ _) ?_ ?_ _ <;> simp
          · simp
          · refine Below.setCell (Below.setCell (Below.setCell hb ?_ _) ?_ _) ?_ _ <;> simp
  · have hr : crashRes xs ys bs = [] := if_neg h0f
    rw [hr]
    obtain ⟨f, hf⟩ : ∃ f, faultOf xs ys = f := ⟨_, rfl⟩
    rw [hf] at h0f ⊢
    have hne : (f != 0) = true := by simp [h0f]
    have HF : Hid _ := hf
    clear hr h0f hf
    go_enter Try.func44, Try.ntmps44
    go_wp2_with fail
    refine (l1Fault_is _ a0 a1 n0 c0 n1 c1 xs ys _ (by exact h0.below B1) (by exact h1.below B1) hn hm (by simp) (by simp) _ HF.out).mono ?_
    rintro e w1 ⟨rfl, rfl⟩
    go_wp2
    refine bodyPost_ret (v := .agg #[.int .i64 f, .slice none 0 0, .slice none 0 0]) (by simp [results, Try.results44, go_sem]) rfl ⟨_, _, _, _, _, _, rfl, ⟨w.heap.size, Nat.le_refl _, ?_, RowAt.nil _ _ _ _ _, RowAt.nil _ _ _ _ _⟩, ?_⟩
    · simp; omega
    · exact ((Below.refl _ _).alloc (Nat.le_refl _) _).alloc (by simp) _

end Go.Proofs.Ytkpbmffklcgecaa
