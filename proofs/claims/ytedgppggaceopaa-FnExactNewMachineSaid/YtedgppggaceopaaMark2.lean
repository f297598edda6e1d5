/- What the laws' marks of a disk and of an answer with one, and their reading, answer; and that two alike answers are told to be equal. -/
import Derived.Test.YtedgppggaceopaaMark
import Derived.Test.YtedgppggaceopaaEq
namespace Go.Proofs.Ytedgppggaceopaa
open Go.RowKit

theorem Kept.cell {lo hi : Nat} {w w' : World} (h : Kept lo hi w w') {b o : Nat} {v : Value} (hc : w.cell? ⟨b, o, none⟩ = some v) (hb : b < lo ∨ hi ≤ b) : w'.cell? ⟨b, o, none⟩ = some v := by
  rw [World.cell?_of_block (w := w) (a := ⟨b, o, none⟩) (h.block b (World.block_lt_of_cell? w _ hc) hb)]; exact hc

end Go.Proofs.Ytedgppggaceopaa
