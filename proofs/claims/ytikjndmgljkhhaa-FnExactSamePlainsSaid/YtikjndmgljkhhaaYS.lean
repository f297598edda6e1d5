/- Chapter 5: rows, nodes and forests compared. -/
import Derived.Test.YtikjndmgljkhhaaYP
import Derived.Test.YtikjndmgljkhhaaZV
import Derived.Laws.StructEq
import Derived.BigQuiet
namespace Go.Proofs.Ytikjndmgljkhhaa
open Go.RowKit

theorem list_eq_of {α : Type} (d : α) {xs ys : List α} {n : Nat} (hx : xs.length = n) (hy : ys.length = n) (h : ∀ j, j < n → xs.getD j d = ys.getD j d) : xs = ys := by
  apply List.ext_getElem (by omega)
  intro j h1 h2
  have := h j (by omega)
  simpa [List.getD, h1, h2] using this

end Go.Proofs.Ytikjndmgljkhhaa

