/- Closed facts of the program's tables that the rows over machines ask. -/
import Derived.Test.YtedgppggaceopaaRowP
import Derived.Test.YtedgppggaceopaaOpenM
namespace Go.Proofs.Ytedgppggaceopaa
theorem Try.cellsMachine : Try.prog.cellsOf 31 = 4 := by kernel_rfl
theorem Try.cellsSessions : Try.prog.cellsOf 29 = 1 := by kernel_rfl
theorem Try.sesTy : SesTy Try.prog 87 := ⟨_, _, _, _, Try.underlying87, by kernel_rfl, ⟨rfl, rfl, rfl, rfl⟩, ⟨Try.underlying2, Try.underlying2, Try.underlying2, Try.underlying2⟩, ⟨Try.cellsInt, Try.cellsInt, Try.cellsInt, Try.cellsInt⟩⟩
end Go.Proofs.Ytedgppggaceopaa
