/- Words told one behind another: appends of numbers onto a row of one's own. -/
import Derived.Test.YtcbfmjanjciodaaEX
import Derived.Test.YtcbfmjanjciodaaYL
import Derived.Test.YtcbfmjanjciodaaYE
import Derived.Test.YtcbfmjanjciodaaFacts
import Derived.Test.YtcbfmjanjciodaaP4
import Derived.Test.YtcbfmjanjciodaaJ0
namespace Go.Proofs.Ytcbfmjanjciodaa
open Go.RowKit

theorem ints_oneM (xs : List Int) : ∀ u ∈ ints xs, u.oneCell' = true := fun u hu => by
  obtain ⟨x, _, rfl⟩ := List.mem_map.1 hu
  rfl
end Go.Proofs.Ytcbfmjanjciodaa

