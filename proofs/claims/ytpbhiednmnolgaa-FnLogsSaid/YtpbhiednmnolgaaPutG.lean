/- What the library's slices.Grow (of a nil slice) and slices.Concat (of two slices of puts) answer. -/
import Derived.Test.YtpbhiednmnolgaaEX
import Derived.Test.YtpbhiednmnolgaaPutC
import Derived.Lib.AppendZeros
namespace Go.Proofs.Ytpbhiednmnolgaa
open Go.RowKit

end Go.Proofs.Ytpbhiednmnolgaa
