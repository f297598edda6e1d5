/- Words told one behind another: appends of numbers onto a row of one's own. -/
import Derived.Test.YtannjgdginfgeaaYP
import Derived.Test.YtannjgdginfgeaaXI
import Derived.Test.YtannjgdginfgeaaZQ
import Derived.Test.YtannjgdginfgeaaYE
import Derived.Test.YtannjgdginfgeaaFacts
import Derived.Test.YtannjgdginfgeaaP1
import Derived.Test.YtannjgdginfgeaaXE
namespace Go.Proofs.Ytannjgdginfgeaa
open Go.RowKit

end Go.Proofs.Ytannjgdginfgeaa

/- Chapter 7: words told one behind another, the sign of a plain pool, by the program. -/
namespace Go.Proofs.Ytannjgdginfgeaa
open Go.RowKit

/-- what a teller has told -/
structure Told (w : World) (pb : Nat) (n : Nat) (xs : List Int) : Prop where
  lt : pb < w.heap.size
  ok : ∃ v, w.cell? ⟨pb, 0, none⟩ = some v ∧ w.ownsRow (pb + 1) 2 1 v n (ints xs)
  fr : w.frozen? ⟨pb, 0, none⟩ = false
theorem Told.below {w w' : World} {pb n : Nat} {xs : List Int} (h : Told w pb n xs) (B : Below w.heap.size w w') : Told w' pb n xs := by
  obtain ⟨v, h1, h2⟩ := h.ok
  exact ⟨Nat.lt_of_lt_of_le h.lt B.size, ⟨v, cell_later B h1, owns_below h2 B⟩, frozen_later B h.lt h.fr⟩
end Go.Proofs.Ytannjgdginfgeaa
