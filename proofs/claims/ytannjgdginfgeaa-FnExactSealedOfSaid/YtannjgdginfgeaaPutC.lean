/- What the model's copy of a disk answers. -/
import Derived.Test.YtannjgdginfgeaaPutS
namespace Go.Proofs.Ytannjgdginfgeaa
open Go.RowKit

/-- What the copy's own memory keeps while its parts are made: the box of the result is there, nothing old has turned. -/
def CS (w w' : World) : Prop := w'.there (w.heap.size + 1) 0 2 ∧ Below w.heap.size w w' ∧ w.heap.size + 1 < w'.heap.size
def CpS (w : World) (v0 v1 : Value) (w' : World) : Prop := w'.cell? ⟨w.heap.size, 0, none⟩ = some v0 ∧ w'.cell? ⟨w.heap.size, 1, none⟩ = some v1 ∧ CS w w'
theorem CpS.drew {w W : World} {v0 v1 : Value} (h : CpS w v0 v1 W) : CpS w v0 v1 W.drew := ⟨h.1, h.2.1, (World.there_drew _ _ _ _).2 h.2.2.1, h.2.2.2.1.drew, h.2.2.2.2⟩
theorem there_below {W w1 : World} {b o n : Nat} (hb : Below W.heap.size W w1) (h : W.there b o n) : w1.there b o n := fun j hj => by
  obtain ⟨h1, h2⟩ := h j hj
  obtain ⟨u, hu⟩ := Option.isSome_iff_exists.1 h1
  have hlt := World.block_lt_of_cell? W _ hu
  exact ⟨by rw [hb.cell (p := ⟨b, o + j, none⟩) hlt]; exact h1, by rw [hb.frozen (p := ⟨b, o + j, none⟩) hlt]; exact h2⟩
theorem CpS.below {w W w1 : World} {v0 v1 : Value} (h : CpS w v0 v1 W) (hb : Below W.heap.size W w1) : CpS w v0 v1 w1 :=
  ⟨cell_later hb h.1, cell_later hb h.2.1, there_below hb h.2.2.1, below_next h.2.2.2.1 hb, Nat.lt_of_lt_of_le h.2.2.2.2 hb.size⟩
theorem CpS.alloc {w W : World} {v0 v1 : Value} (h : CpS w v0 v1 W) (o : Obj) : CpS w v0 v1 (W.alloc o) := h.below ((Below.refl _ _).alloc (Nat.le_refl _) o)
theorem CpS.set {w W : World} {v0 v1 : Value} (h : CpS w v0 v1 W) (j : Nat) (u : Value) : CpS w v0 v1 (W.setCell ⟨w.heap.size + 1, j, none⟩ u) := by
  refine ⟨?_, ?_, ?_, h.2.2.2.1.setCell (p := ⟨w.heap.size + 1, j, none⟩) (Nat.le_succ _) _, by simpa [World.setCell] using h.2.2.2.2⟩
  · rw [World.cell?_setCell_other _ _ _ _ (by intro e; simp at e)]; exact h.1
  · rw [World.cell?_setCell_other _ _ _ _ (by intro e; simp at e)]; exact h.2.1
  · exact World.there_setCells h.2.2.1 (w.heap.size + 1) j [u]
theorem CpS.bel {w W : World} {v0 v1 : Value} (h : CpS w v0 v1 W) : Below w.heap.size w W := h.2.2.2.1
theorem CpS.at {w W : World} {v0 v1 : Value} (h : CpS w v0 v1 W) (j : Nat) (hj : j < 2) : ∃ v, W.cell? ⟨w.heap.size + 1, j, none⟩ = some v ∧ W.frozen? ⟨w.heap.size + 1, j, none⟩ = false := by
  obtain ⟨h1, h2⟩ := h.2.2.1 j hj
  rw [Nat.zero_add] at h1 h2
  obtain ⟨v, hv⟩ := Option.isSome_iff_exists.1 h1
  exact ⟨v, hv, h2⟩

end Go.Proofs.Ytannjgdginfgeaa
