/- What the laws' marks and their reading answer: numbers that rise from k on. -/
import Derived.Test.YtedgppggaceopaaCopy
namespace Go.Proofs.Ytedgppggaceopaa
open Go.RowKit

/-- A store into a row that is the call's own. -/
theorem RowAt.stored {w : World} {lo hi size : Nat} {b off n cap : Nat} {cs : List Value} (h : RowAt w true lo hi size (some ⟨b, off, none⟩) n cap cs) {i : Nat} (hi' : i < n * size) (v : Value) :
    RowAt (w.setCell ⟨b, off + i, none⟩ v) true lo hi size (some ⟨b, off, none⟩) n cap (cs.set i v) := by
  refine ⟨by rw [List.length_set]; exact h.len, h.le, fun hn => ?_⟩
  obtain ⟨b', off', e, g1, g2, g3, g4, g5⟩ := h.cells hn
  simp only [Option.some.injEq, Addr.mk.injEq, and_true] at e
  obtain ⟨rfl, rfl⟩ := e
  refine ⟨b, off, rfl, g1, g2, by simpa [World.setCell] using g3, fun j hj => ?_, fun ho j hj => ?_⟩
  · have hl := h.len
    by_cases e : j = i
    · subst e
      rw [World.cell?_setCell_same _ _ _ (g4 j hj)]
      simp [List.getD, show j < cs.length by omega]
    · rw [World.cell?_setCell_other _ _ _ _ (by intro h; simp at h <;> omega), g4 j hj]
      simp [List.getD, show ¬ i = j by omega]
  · rw [World.frozen?_setCell]; exact g5 ho j hj

end Go.Proofs.Ytedgppggaceopaa
