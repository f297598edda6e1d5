/- Chapter 11: what a node of a cluster is told to do, by the program. -/
import Derived.Test.YtannjgdginfgeaaCU4
import Derived.Test.YtannjgdginfgeaaCU1
import Derived.Test.YtannjgdginfgeaaZF
import Derived.BigQuiet
import Derived.Test.YtannjgdginfgeaaXH
import Derived.Test.YtannjgdginfgeaaWA
import Derived.WalkLawsBesides
import Derived.Defers
import Derived.Laws.Pointers
import Derived.Deep.RegionHeld3
import Derived.Test.YtannjgdginfgeaaCU2
namespace Go.Proofs.Ytannjgdginfgeaa
open Go.RowKit

/-- a cluster that is answered: its lists are new -/
def ClRes (own : Bool) (w w' : World) (e : Ending) (cd : Int) (rs : List Rep) (ms : List Ml) (es : List En) : Prop := ∃ (N M S : Hd) (xs : List Nod) (ys : List Mal), e = .returned (.agg #[.int .i64 cd, .slice N.1 N.2.1 N.2.2, .slice M.1 M.2.1 M.2.2, .slice S.1 S.2.1 S.2.2]) ∧ ClAt w' own w.heap.size w'.heap.size N M S xs ys es ∧ ClSz N M S xs ys 1048576 ∧ xs.map (·.1) = rs ∧ ys.map (·.1) = ms ∧ Below w.heap.size w w'
end Go.Proofs.Ytannjgdginfgeaa
