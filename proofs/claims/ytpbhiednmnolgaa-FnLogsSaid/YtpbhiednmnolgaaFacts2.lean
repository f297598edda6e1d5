/- Facts of disks behind a crash; the laws' own lwBig and lwNums. -/
import Derived.Test.YtpbhiednmnolgaaEX
import Derived.Test.YtpbhiednmnolgaaFacts
import Derived.Test.YtpbhiednmnolgaaCrashD
namespace Go.Proofs.Ytpbhiednmnolgaa
open Go.RowKit

theorem lwBig_is (ac : Option Addr) (nc cc : Nat) (w : World) (d : Bool) (h : decide (1048576 < nc) = d) : Calls Try.prog 12 #[.slice ac nc cc] w fun e w' => e = .returned (.bool d) ∧ w' = w := by
  rw [← h]
  go_enter Try.func12, Try.ntmps12
  go_wp2
  go_ret
  exact ⟨ret_bool (by simp; omega), rfl⟩

end Go.Proofs.Ytpbhiednmnolgaa
