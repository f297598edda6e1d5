/- Chapter 3: blocks taken, shared and dropped: what the model answers. -/
import Derived.Test.YtikjndmgljkhhaaP2
namespace Go.Proofs.Ytikjndmgljkhhaa
open Go.RowKit

theorem ask_zero {bs : List (Int × Int)} {x : Int} (h : askCode bs x = 0) : ∃ k : Nat, x = k ∧ k < bs.length ∧ blkFault bs = 0 ∧ (bs.getD k (0, 0)).1 ≠ 0 := by
  unfold askCode at h
  by_cases h0 : blkFault bs = 0
  · rw [if_pos h0] at h
    by_cases hx : 0 ≤ x ∧ x ≤ (bs.length : Int) - 1
    · rw [if_pos hx] at h
      by_cases hz : (bs.getD x.toNat (0, 0)).1 = 0
      · rw [if_pos hz] at h; exact absurd h (by decide)
      · exact ⟨x.toNat, by omega, by omega, h0, hz⟩
    · rw [if_neg hx] at h; exact absurd h (by decide)
  · rw [if_neg h0] at h; exact absurd h h0

end Go.Proofs.Ytikjndmgljkhhaa
