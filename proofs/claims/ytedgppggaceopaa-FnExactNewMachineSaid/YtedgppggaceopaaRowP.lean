/- Closed facts of the program's tables that the rows over pools ask. -/
import Derived.Test.YtedgppggaceopaaZR
import Derived.Test.YtedgppggaceopaaOpenP
namespace Go.Proofs.Ytedgppggaceopaa
theorem Try.cellsPool : Try.prog.cellsOf 28 = 3 := by kernel_rfl
theorem Try.cellsVol : Try.prog.cellsOf 121 = 3 := by kernel_rfl
theorem Try.cellsVols : Try.prog.cellsOf 26 = 1 := by kernel_rfl
theorem Try.cellsNodes : Try.prog.cellsOf 22 = 1 := by kernel_rfl
theorem Try.cellsBlocks : Try.prog.cellsOf 23 = 1 := by kernel_rfl
end Go.Proofs.Ytedgppggaceopaa
