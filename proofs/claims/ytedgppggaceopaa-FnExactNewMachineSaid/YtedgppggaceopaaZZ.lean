/- Chapter 4: what FnTrees asks: what a tree has that is set, and what all others have. -/
import Derived.Test.YtedgppggaceopaaZT
import Derived.Test.YtedgppggaceopaaZX
namespace Go.Proofs.Ytedgppggaceopaa
open Go.RowKit

/-- a tree that stays: its root, its places, its data -/
structure Stays (f D : Fo) (root : Int) : Prop where
  right : Right D
  ro : RootIs D root
  pl : ∀ k : Int, 0 ≤ k → k ≤ 15 → blockAt D root k = blockAt f root k
  dt : ∀ k : Int, 0 ≤ k → k ≤ 15 → 0 ≤ blockAt f root k → (blockOf D (blockAt f root k).toNat).2 = (blockOf f (blockAt f root k).toNat).2
end Go.Proofs.Ytedgppggaceopaa

/- Chapter 4: what FnClears asks: what a tree has of which a place is cleared, and what is free then. -/
namespace Go.Proofs.Ytedgppggaceopaa
open Go.RowKit

end Go.Proofs.Ytedgppggaceopaa
