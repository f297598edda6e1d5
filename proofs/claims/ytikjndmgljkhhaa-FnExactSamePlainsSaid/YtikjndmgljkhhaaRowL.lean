/- Closed facts of the program's tables that the rows over plain pools ask. -/
import Derived.Test.YtikjndmgljkhhaaZR
import Derived.Test.YtikjndmgljkhhaaOpenP
import Derived.Test.YtikjndmgljkhhaaPPl
namespace Go.Proofs.Ytikjndmgljkhhaa
theorem Try.cellsPlain : Try.prog.cellsOf 65 = 4 := by kernel_rfl
theorem Try.cellsVol : Try.prog.cellsOf 168 = 3 := by kernel_rfl
theorem Try.cellsCell : Try.prog.cellsOf 177 = 3 := by kernel_rfl

end Go.Proofs.Ytikjndmgljkhhaa
