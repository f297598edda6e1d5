/- Chapter 9, plain: what enough have, counted (the model) and read off a sorted list (the program). No program is named here. -/
import Derived.Test.YtpfocemiipmkiaaEX
import Derived.Test.YtpfocemiipmkiaaWA
import Derived.Test.YtpfocemiipmkiaaWC
import Derived.Test.YtpfocemiipmkiaaMark
namespace Go.Proofs.Ytpfocemiipmkiaa
open Go.RowKit

/-- sorting by putting in: what holds inside the inner loop -/
structure InsIn (xs ys : List Int) (i j : Nat) : Prop where
  perm : ys.Perm xs
  low : ∀ p q, p < q → q < j → ys.getD p 0 ≤ ys.getD q 0
  up : ∀ p q, j ≤ p → p < q → q ≤ i → ys.getD p 0 ≤ ys.getD q 0
  over : ∀ p q, p < j → j < q → q ≤ i → ys.getD p 0 ≤ ys.getD q 0
end Go.Proofs.Ytpfocemiipmkiaa

/- Chapter 9: numbers sorted by the program: slices.Sort of at most twelve. -/
namespace Go.Proofs.Ytpfocemiipmkiaa
open Go.RowKit

end Go.Proofs.Ytpfocemiipmkiaa
