/- What the library's slices.Grow (of a nil slice) and slices.Concat (of two slices of puts) answer. -/
import Derived.Test.YtkdaphfmhdkhfaaPutC
import Derived.Lib.AppendZeros
namespace Go.Proofs.Ytkdaphfmhdkhfaa
open Go.RowKit

end Go.Proofs.Ytkdaphfmhdkhfaa
