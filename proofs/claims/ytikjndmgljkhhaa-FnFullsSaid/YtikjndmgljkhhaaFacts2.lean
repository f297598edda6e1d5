/- Facts of disks behind a crash; the laws' own lwBig and lwNums. -/
import Derived.Test.YtikjndmgljkhhaaFacts
import Derived.Test.YtikjndmgljkhhaaCrashD
namespace Go.Proofs.Ytikjndmgljkhhaa
open Go.RowKit

theorem lwBig_is (ac : Option Addr) (nc cc : Nat) (w : World) (d : Bool) (h : decide (1048576 < nc) = d) : Calls Try.prog 10 #[.slice ac nc cc] w fun e w' => e = .returned (.bool d) ∧ w' = w := by
  rw [← h]
  go_enter Try.func10, Try.ntmps10
  go_wp2
  go_ret
  exact ⟨ret_bool (by simp; omega), rfl⟩

end Go.Proofs.Ytikjndmgljkhhaa
