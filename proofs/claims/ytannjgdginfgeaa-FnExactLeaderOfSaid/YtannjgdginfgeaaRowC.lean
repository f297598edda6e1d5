/- Closed facts of the program's tables that the rows over clusters ask. -/
import Derived.Test.YtannjgdginfgeaaWG
import Derived.Test.YtannjgdginfgeaaOpenC
namespace Go.Proofs.Ytannjgdginfgeaa
theorem Try.clTy : ClTy Try.prog 26 := ⟨_, _, _, _, _, _, Try.underlying26, ⟨rfl, rfl, rfl⟩, ⟨by kernel_rfl, by kernel_rfl, by kernel_rfl⟩, by kernel_rfl, Try.underlying22, Try.repTy, by kernel_rfl, Try.underlying23, Try.mailTy, by kernel_rfl, Try.underlying24, Try.enTy⟩
end Go.Proofs.Ytannjgdginfgeaa
