/- Chapter 9, plain: what enough have, counted (the model) and read off a sorted list (the program). No program is named here. -/
import Derived.Test.YtannjgdginfgeaaWA
import Derived.Test.YtannjgdginfgeaaWC
import Derived.Test.YtannjgdginfgeaaZA
import Derived.Test.YtannjgdginfgeaaWL
import Derived.Test.YtannjgdginfgeaaI5a
namespace Go.Proofs.Ytannjgdginfgeaa
open Go.RowKit

/-- how many have k entries, the first one among them, of the first n -/
def cntA (oks : List Int) (id k : Int) : Nat → Int
  | 0 => 1
  | n + 1 => cntA oks id k n + (if (n : Int) ≠ id ∧ k ≤ oks.getD n 0 then 1 else 0)
/-- the most, up to a number, that enough have -/
def agrTo (oks : List Int) (id size : Int) : Nat → Int
  | 0 => 0
  | k + 1 => if size / 2 + 1 ≤ cntA oks id ((k : Int) + 1) size.toNat then (k : Int) + 1 else agrTo oks id size k
def agrR (r : Rep) : Int := agrTo r.oks r.id r.size r.log.length
/-- sorting by putting in: what holds inside the inner loop -/
structure InsIn (xs ys : List Int) (i j : Nat) : Prop where
  perm : ys.Perm xs
  low : ∀ p q, p < q → q < j → ys.getD p 0 ≤ ys.getD q 0
  up : ∀ p q, j ≤ p → p < q → q ≤ i → ys.getD p 0 ≤ ys.getD q 0
  over : ∀ p q, p < j → j < q → q ≤ i → ys.getD p 0 ≤ ys.getD q 0
end Go.Proofs.Ytannjgdginfgeaa

/- Chapter 9: numbers sorted by the program: slices.Sort of at most twelve. -/
namespace Go.Proofs.Ytannjgdginfgeaa
open Go.RowKit

end Go.Proofs.Ytannjgdginfgeaa

/- Chapter 9: what enough have, by the program. -/
namespace Go.Proofs.Ytannjgdginfgeaa
open Go.RowKit

end Go.Proofs.Ytannjgdginfgeaa

/- Chapter 9: what enough have: AgreedBy of the program. -/
namespace Go.Proofs.Ytannjgdginfgeaa
open Go.RowKit

def ledF (r : Rep) : Int := if repF r = 0 then (if leadsB r = true then 0 else 10) else repF r
/-- what a normal primary without fault is -/
structure Led (r : Rep) : Prop where
  size : 1 ≤ r.size ∧ r.size ≤ 5
  id : 0 ≤ r.id ∧ r.id ≤ r.size - 1
  view : 0 ≤ r.view ∧ r.view ≤ 200
  log : r.log.length ≤ 40
  commit : 0 ≤ r.commit ∧ r.commit ≤ r.log.length
  oks : (r.oks.length : Int) = r.size
  okb : ∀ y ∈ r.oks, 0 ≤ y ∧ y ≤ (r.log.length : Int)
end Go.Proofs.Ytannjgdginfgeaa

/- Chapter 9: what enough have: AgreedBy of the model. -/
namespace Go.Proofs.Ytannjgdginfgeaa
open Go.RowKit

end Go.Proofs.Ytannjgdginfgeaa
