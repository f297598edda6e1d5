/- Chapter 9, plain: what enough have, counted (the model) and read off a sorted list (the program). No program is named here. -/
import Derived.Test.YtikplcpgocgogaaWA
import Derived.Test.YtikplcpgocgogaaWC
import Derived.Test.YtikplcpgocgogaaMark
import Derived.Test.YtikplcpgocgogaaWB
import Derived.Test.YtikplcpgocgogaaPutS
import Derived.Lib.AppendZeros
namespace Go.Proofs.Ytikplcpgocgogaa
open Go.RowKit

/-- sorting by putting in: what holds inside the inner loop -/
structure InsIn (xs ys : List Int) (i j : Nat) : Prop where
  perm : ys.Perm xs
  low : ∀ p q, p < q → q < j → ys.getD p 0 ≤ ys.getD q 0
  up : ∀ p q, j ≤ p → p < q → q ≤ i → ys.getD p 0 ≤ ys.getD q 0
  over : ∀ p q, p < j → j < q → q ≤ i → ys.getD p 0 ≤ ys.getD q 0
end Go.Proofs.Ytikplcpgocgogaa

/- Chapter 9: numbers sorted by the program: slices.Sort of at most twelve. -/
namespace Go.Proofs.Ytikplcpgocgogaa
open Go.RowKit

end Go.Proofs.Ytikplcpgocgogaa

/- Chapter 9: what enough have, by the program. -/
namespace Go.Proofs.Ytikplcpgocgogaa
open Go.RowKit

end Go.Proofs.Ytikplcpgocgogaa

/- Chapter 9: what enough have: AgreedBy of the program. -/
namespace Go.Proofs.Ytikplcpgocgogaa
open Go.RowKit

/-- what a normal primary without fault is -/
structure Led (r : Rep) : Prop where
  size : 1 ≤ r.size ∧ r.size ≤ 5
  id : 0 ≤ r.id ∧ r.id ≤ r.size - 1
  view : 0 ≤ r.view ∧ r.view ≤ 200
  log : r.log.length ≤ 40
  commit : 0 ≤ r.commit ∧ r.commit ≤ r.log.length
  oks : (r.oks.length : Int) = r.size
  okb : ∀ y ∈ r.oks, 0 ≤ y ∧ y ≤ (r.log.length : Int)
end Go.Proofs.Ytikplcpgocgogaa

/- Chapter 9: what enough have: AgreedBy of the model. -/
namespace Go.Proofs.Ytikplcpgocgogaa
open Go.RowKit

end Go.Proofs.Ytikplcpgocgogaa
