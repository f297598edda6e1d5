/- Closed facts of the program's tables that every row of this seat asks. -/
import Derived.Test.YtkpbmffklcgecaaRows
import Derived.Test.YtkpbmffklcgecaaOpen
namespace Go.Proofs.Ytkpbmffklcgecaa
theorem Try.own : ownKnob Try.prog.godebug = none := by kernel_rfl
theorem Try.laidOut : laidOutB Try.prog = true := by kernel_rfl
theorem Try.cellsDisk : Try.prog.cellsOf 49 = 2 := by kernel_rfl
theorem Try.cellsInt : Try.prog.cellsOf 2 = 1 := by kernel_rfl
theorem Try.cellsPut : Try.prog.cellsOf 125 = 2 := by kernel_rfl
theorem Try.cellsBool : Try.prog.cellsOf 4 = 1 := by kernel_rfl
end Go.Proofs.Ytkpbmffklcgecaa
