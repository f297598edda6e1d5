/- Closed facts of the program's tables that every row of this seat asks. -/
import Derived.Test.YtnhkfoedbhfjgaaRows
import Derived.Test.YtnhkfoedbhfjgaaOpen
namespace Go.Proofs.Ytnhkfoedbhfjgaa
theorem Try.own : ownKnob Try.prog.godebug = none := by kernel_rfl
theorem Try.laidOut : laidOutB Try.prog = true := by kernel_rfl
theorem Try.cellsDisk : Try.prog.cellsOf 49 = 2 := by kernel_rfl
theorem Try.cellsInt : Try.prog.cellsOf 2 = 1 := by kernel_rfl
theorem Try.cellsPut : Try.prog.cellsOf 99 = 2 := by kernel_rfl
theorem Try.cellsBool : Try.prog.cellsOf 4 = 1 := by kernel_rfl
end Go.Proofs.Ytnhkfoedbhfjgaa
