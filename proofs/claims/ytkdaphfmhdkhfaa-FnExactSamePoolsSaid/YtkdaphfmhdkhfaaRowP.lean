/- Closed facts of the program's tables that the rows over pools ask. -/
import Derived.Test.YtkdaphfmhdkhfaaZR
import Derived.Test.YtkdaphfmhdkhfaaOpenP
namespace Go.Proofs.Ytkdaphfmhdkhfaa
theorem Try.cellsPool : Try.prog.cellsOf 137 = 3 := by kernel_rfl
theorem Try.cellsVol : Try.prog.cellsOf 270 = 3 := by kernel_rfl
theorem Try.cellsVols : Try.prog.cellsOf 135 = 1 := by kernel_rfl
theorem Try.cellsNodes : Try.prog.cellsOf 118 = 1 := by kernel_rfl
theorem Try.cellsBlocks : Try.prog.cellsOf 108 = 1 := by kernel_rfl
end Go.Proofs.Ytkdaphfmhdkhfaa
