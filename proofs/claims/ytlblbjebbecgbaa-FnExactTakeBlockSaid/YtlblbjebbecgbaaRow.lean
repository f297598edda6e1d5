/- Closed facts of the program's tables that every row of this seat asks. -/
import Derived.Test.YtlblbjebbecgbaaRows
import Derived.Test.YtlblbjebbecgbaaOpen
namespace Go.Proofs.Ytlblbjebbecgbaa
theorem Try.own : ownKnob Try.prog.godebug = none := by kernel_rfl
theorem Try.laidOut : laidOutB Try.prog = true := by kernel_rfl
theorem Try.cellsDisk : Try.prog.cellsOf 60 = 2 := by kernel_rfl
theorem Try.cellsInt : Try.prog.cellsOf 2 = 1 := by kernel_rfl
theorem Try.cellsPut : Try.prog.cellsOf 137 = 2 := by kernel_rfl
theorem Try.cellsBool : Try.prog.cellsOf 4 = 1 := by kernel_rfl
end Go.Proofs.Ytlblbjebbecgbaa
