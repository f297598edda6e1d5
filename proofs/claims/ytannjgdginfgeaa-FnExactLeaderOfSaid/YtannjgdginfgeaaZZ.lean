/- Chapter 4: what FnTrees asks: what a tree has that is set, and what all others have. -/
import Derived.Test.YtannjgdginfgeaaZT
import Derived.Test.YtannjgdginfgeaaZU
import Derived.Test.YtannjgdginfgeaaZM
import Derived.Deep.AppendLies
import Derived.Lib.AppendZeros
import Derived.BigQuiet
import Derived.Deep.RegionLaw
namespace Go.Proofs.Ytannjgdginfgeaa
open Go.RowKit

/-- a tree that stays: its root, its places, its data -/
structure Stays (f D : Fo) (root : Int) : Prop where
  right : Right D
  ro : RootIs D root
  pl : ∀ k : Int, 0 ≤ k → k ≤ 15 → blockAt D root k = blockAt f root k
  dt : ∀ k : Int, 0 ≤ k → k ≤ 15 → 0 ≤ blockAt f root k → (blockOf D (blockAt f root k).toNat).2 = (blockOf f (blockAt f root k).toNat).2
end Go.Proofs.Ytannjgdginfgeaa

/- Chapter 4: what FnClears asks: what a tree has of which a place is cleared, and what is free then. -/
namespace Go.Proofs.Ytannjgdginfgeaa
open Go.RowKit

end Go.Proofs.Ytannjgdginfgeaa
