/- Chapter 3: blocks taken, shared and dropped: what the model answers. -/
import Derived.Test.YtkdaphfmhdkhfaaP2
namespace Go.Proofs.Ytkdaphfmhdkhfaa
open Go.RowKit

theorem ask_zero {bs : List (Int × Int)} {x : Int} (h : askCode bs x = 0) : ∃ k : Nat, x = k ∧ k < bs.length ∧ blkFault bs = 0 ∧ (bs.getD k (0, 0)).1 ≠ 0 := by
  unfold askCode at h
  by_cases h0 : blkFault bs = 0
  · rw [if_pos h0] at h
    by_cases hx : 0 ≤ x ∧ x ≤ (bs.length : Int) - 1
    · rw [if_pos hx] at h
      by_cases hz : (bs.getD x.toNat (0, 0)).1 = 0
      · rw [if_pos hz] at h; exact absurd h (by decide)
      · exact ⟨x.toNat, by omega, by omega, h0, hz⟩
    · rw [if_neg hx] at h; exact absurd h (by decide)
  · rw [if_neg h0] at h; exact absurd h h0

set_option maxRecDepth 20000 in
set_option maxHeartbeats 2000000 in
theorem l3Drop_any {lo hi : Nat} (g n cap : Nat) (bs : List (Int × Int)) (k : Nat) (w : World) (h : RowAt w true lo hi 2 (some ⟨g, 0, none⟩) n cap (pairs bs)) (hlt : k < n) (h0 : 0 ≤ (bs.getD k (0, 0)).1) (h2 : (bs.getD k (0, 0)).1 ≤ 200) (L : List (Int × Int)) (hL : bs.set k (less1 (bs.getD k (0, 0))) = L) :
    Calls Try.prog 201 #[.slice (some ⟨g, 0, none⟩) n cap, .int .i64 (k : Int)] w fun e w' => (∃ v, e = .returned v) ∧ RowAt w' true lo hi 2 (some ⟨g, 0, none⟩) n cap (pairs L) ∧ Kept g (g + 1) w w' := by
  have hlk : (k : Int) < n := by omega
  obtain ⟨_, _, e', _, _, _, c0, c1, _⟩ := h.pair hlt
  cases e'
  obtain ⟨_, _, e', _, _, _, _, gf⟩ := h.cells (by omega)
  cases e'
  have p0 := gf rfl (k * 2) (by omega)
  have p1 := gf rfl (k * 2 + 1) (by omega)
  rw [Nat.zero_add] at c0 c1 p0 p1
  clear gf
  obtain ⟨y, hy⟩ : ∃ y, (bs.getD k (0, 0)).1 = y := ⟨_, rfl⟩
  obtain ⟨v, hv⟩ : ∃ v, (bs.getD k (0, 0)).2 = v := ⟨_, rfl⟩
  rw [hy] at c0 h0 h2
  rw [hv] at c1
  by_cases hz : y - 1 = 0
  · have K : Kept g (g + 1) w ((w.setCell ⟨g, k * 2, none⟩ (.int .i64 0)).setCell ⟨g, k * 2 + 1, none⟩ (.int .i64 0)) := by refine Kept.setCell (Kept.setCell (Kept.refl _ _ _) ?_ ?_ _) ?_ ?_ _ <;> simp
    have RS : RowAt ((w.setCell ⟨g, k * 2, none⟩ (.int .i64 0)).setCell ⟨g, k * 2 + 1, none⟩ (.int .i64 0)) true lo hi 2 (some ⟨g, 0, none⟩) n cap (pairs L) := by
      have := (h.stored (i := k * 2) (by omega) (.int .i64 0)).stored (i := k * 2 + 1) (by omega) (.int .i64 0)
      rw [Nat.zero_add, Nat.zero_add, pairs_set bs k (0, 0)] at this
      rw [← hL, less1, hy, if_pos hz, hz]; exact this
    obtain rfl : y = 1 := by omega
    clear hy hv hz hL
    go_enter Try.func201, Try.ntmps201
    go_wp2
    exact bodyPost_end (v := .tuple #[]) (by simp [results, Try.results201, go_sem]) rfl ⟨⟨_, rfl⟩, RS, K⟩
  · have K : Kept g (g + 1) w (w.setCell ⟨g, k * 2, none⟩ (.int .i64 (y - 1))) := by refine Kept.setCell (Kept.refl _ _ _) ?_ ?_ _ <;> simp
    have RS : RowAt (w.setCell ⟨g, k * 2, none⟩ (.int .i64 (y - 1))) true lo hi 2 (some ⟨g, 0, none⟩) n cap (pairs L) := by
      have := h.stored (i := k * 2) (by omega) (.int .i64 (y - 1))
      rw [Nat.zero_add, pairs_set1 bs k (y - 1)] at this
      rw [← hL, less1, hy, if_neg hz]; exact this
    clear hy hv hL
    go_enter Try.func201, Try.ntmps201
    go_wp2
    exact bodyPost_end (v := .tuple #[]) (by simp [results, Try.results201, go_sem]) rfl ⟨⟨_, rfl⟩, RS, K⟩

end Go.Proofs.Ytkdaphfmhdkhfaa
