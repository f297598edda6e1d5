/- Numbers cloned by the program. -/
import Derived.Test.YtpbhiednmnolgaaEX
import Derived.Test.YtpbhiednmnolgaaYN
import Derived.Test.YtpbhiednmnolgaaZW
import Derived.Test.YtpbhiednmnolgaaXE
import Derived.Test.YtpbhiednmnolgaaP1
import Derived.Test.YtpbhiednmnolgaaYE
import Derived.Test.YtpbhiednmnolgaaXI
namespace Go.Proofs.Ytpbhiednmnolgaa
open Go.RowKit

end Go.Proofs.Ytpbhiednmnolgaa

/- Chapter 7: chunks of words, by both. -/
namespace Go.Proofs.Ytpbhiednmnolgaa
open Go.RowKit

/-- a code and a list of one's own -/
def IntsR (w w' : World) (e : Ending) (cd : Int) (xs : List Int) : Prop := ∃ a n c, e = .returned (.agg #[.int .i64 cd, .slice a n c]) ∧ RowAt w' true w.heap.size w'.heap.size 1 a n c (ints xs) ∧ Below w.heap.size w w'
end Go.Proofs.Ytpbhiednmnolgaa
