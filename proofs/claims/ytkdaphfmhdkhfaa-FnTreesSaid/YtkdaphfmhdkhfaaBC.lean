/- Chapter 3: blocks copied, compared, marked and held by the laws. -/
import Derived.Test.YtkdaphfmhdkhfaaMark2
import Derived.Test.YtkdaphfmhdkhfaaEq
import Derived.Test.YtkdaphfmhdkhfaaZT
namespace Go.Proofs.Ytkdaphfmhdkhfaa
open Go.RowKit

theorem Try.infoBlk : (Try.prog.info? 55).map (fun i => (i.zero, i.size, i.bytes)) = some (some (.agg #[.int .i64 0, .int .i64 0]), 2, 16) := by kernel_rfl

section
variable (cd u : Int)
end

end Go.Proofs.Ytkdaphfmhdkhfaa
