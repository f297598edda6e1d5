/- Closed facts of the program's tables that the rows over plain pools ask. -/
import Derived.Test.YtcbfmjanjciodaaZR
import Derived.Test.YtcbfmjanjciodaaOpenP
import Derived.Test.YtcbfmjanjciodaaPPl
namespace Go.Proofs.Ytcbfmjanjciodaa
theorem Try.cellsPlain : Try.prog.cellsOf 52 = 4 := by kernel_rfl
theorem Try.cellsVol : Try.prog.cellsOf 181 = 3 := by kernel_rfl
theorem Try.cellsCell : Try.prog.cellsOf 200 = 3 := by kernel_rfl

end Go.Proofs.Ytcbfmjanjciodaa
