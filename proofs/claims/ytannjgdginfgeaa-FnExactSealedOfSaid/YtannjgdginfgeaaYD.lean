/- Where the draws stand; and what they answer. -/
import Derived.Test.YtannjgdginfgeaaBools
import Derived.Test.YtannjgdginfgeaaPutC
import Derived.Lib.AppendZeros
import Derived.Test.YtannjgdginfgeaaFacts
namespace Go.Proofs.Ytannjgdginfgeaa
open Go.RowKit

section
variable {W : World} {g p : Nat} {ac : Option Addr} {nc cc : Nat} {bs : List Nat}
theorem Kept.low {lo hi : Nat} {a w w' : World} (h : Kept lo hi a w) (hb : Below a.heap.size w w') : Kept lo hi a w' := ⟨hb.os.trans h.os, hb.tape.trans h.tape, hb.output.trans h.output, Nat.le_trans h.size hb.size, fun k hk hd => (hb.block k hk).trans (h.block k hk hd)⟩
end


end Go.Proofs.Ytannjgdginfgeaa

/- What the draws answer of great numbers; what they pick. -/
namespace Go.Proofs.Ytannjgdginfgeaa
open Go.RowKit

section
variable {W : World} {g p : Nat} {ac : Option Addr} {nc cc : Nat} {bs : List Nat}
end

end Go.Proofs.Ytannjgdginfgeaa
