/- Chapter 3: blocks copied, compared, marked and held by the laws. -/
import Derived.Test.YtikjndmgljkhhaaMark2
import Derived.Test.YtikjndmgljkhhaaEq
import Derived.Test.YtikjndmgljkhhaaZT
namespace Go.Proofs.Ytikjndmgljkhhaa
open Go.RowKit

theorem Try.infoBlk : (Try.prog.info? 152).map (fun i => (i.zero, i.size, i.bytes)) = some (some (.agg #[.int .i64 0, .int .i64 0]), 2, 16) := by kernel_rfl

section
variable (cd u : Int)
end

end Go.Proofs.Ytikjndmgljkhhaa
