/- Chapter 9: AskReplica of the program. -/
import Derived.Test.YtannjgdginfgeaaWW
import Derived.Test.YtannjgdginfgeaaWR
import Derived.Test.YtannjgdginfgeaaXA
import Derived.Deep.DeepCutAuto
namespace Go.Proofs.Ytannjgdginfgeaa
open Go.RowKit

def askC (r : Rep) (en : En) : Int := if ledF r = 0 then (if enFault en = 0 then (if r.log.length = 40 then 2 else 0) else enFault en) else ledF r
def askQ (r : Rep) (en : En) : Rep := if askC r en = 0 then takeQ r en else rep0
def askM (r : Rep) (en : En) : List Ml := if askC r en = 0 then takeM r en else []
end Go.Proofs.Ytannjgdginfgeaa

