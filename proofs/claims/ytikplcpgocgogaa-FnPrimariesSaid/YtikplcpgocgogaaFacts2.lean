/- Facts of disks behind a crash; the laws' own lwBig and lwNums. -/
import Derived.Test.YtikplcpgocgogaaFacts
import Derived.Test.YtikplcpgocgogaaSm
import Derived.Test.YtikplcpgocgogaaCopy
import Derived.Deep.MidRow
import Derived.Deep.RegionHeld3
import Derived.Test.YtikplcpgocgogaaMark2
import Derived.Deep.WholeRow
import Derived.Test.YtikplcpgocgogaaBools
namespace Go.Proofs.Ytikplcpgocgogaa
open Go.RowKit

theorem lwBig_is (ac : Option Addr) (nc cc : Nat) (w : World) (d : Bool) (h : decide (1048576 < nc) = d) : Calls Try.prog 8 #[.slice ac nc cc] w fun e w' => e = .returned (.bool d) ∧ w' = w := by
  rw [← h]
  go_enter Try.func8, Try.ntmps8
  go_wp2
  go_ret
  exact ⟨ret_bool (by simp; omega), rfl⟩

end Go.Proofs.Ytikplcpgocgogaa
