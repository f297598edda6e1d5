/- Closed facts of the program's tables that the rows over clusters ask. -/
import Derived.Test.YtikplcpgocgogaaWG
import Derived.Test.YtikplcpgocgogaaOpenC
namespace Go.Proofs.Ytikplcpgocgogaa
theorem Try.clTy : ClTy Try.prog 73 := ⟨_, _, _, _, _, _, Try.underlying73, ⟨rfl, rfl, rfl⟩, ⟨by kernel_rfl, by kernel_rfl, by kernel_rfl⟩, by kernel_rfl, Try.underlying70, Try.repTy, by kernel_rfl, Try.underlying71, Try.mailTy, by kernel_rfl, Try.underlying53, Try.enTy⟩
end Go.Proofs.Ytikplcpgocgogaa
