/- Chapter 9: empty lists marked and held by the laws; answers that have no list but Oks. -/
import Derived.Test.YtannjgdginfgeaaWB
import Derived.Test.YtannjgdginfgeaaFacts
import Derived.Test.YtannjgdginfgeaaI5a
import Derived.Test.YtannjgdginfgeaaWC
import Derived.Test.YtannjgdginfgeaaWA
namespace Go.Proofs.Ytannjgdginfgeaa
open Go.RowKit

end Go.Proofs.Ytannjgdginfgeaa

/- Chapter 9: a new replica, of the model and of the program. -/
namespace Go.Proofs.Ytannjgdginfgeaa
open Go.RowKit

def newRep (id size : Int) : Rep := if (1 ≤ size ∧ size ≤ 5) ∧ (0 ≤ id ∧ id ≤ size - 1) then ⟨id, size, 0, true, 0, [], 0, if id = 0 then List.replicate size.toNat 0 else [], [], []⟩ else rep0
end Go.Proofs.Ytannjgdginfgeaa

/- Chapter 9: a new replica, of the model and of the program. -/
namespace Go.Proofs.Ytannjgdginfgeaa
open Go.RowKit

end Go.Proofs.Ytannjgdginfgeaa

/- Chapter 9: a new replica, of the model and of the program. -/
namespace Go.Proofs.Ytannjgdginfgeaa
open Go.RowKit

end Go.Proofs.Ytannjgdginfgeaa
