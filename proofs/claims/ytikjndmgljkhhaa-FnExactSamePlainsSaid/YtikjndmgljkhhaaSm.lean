/- The small functions of the disk's laws: what each answers. -/
import Derived.Test.YtikjndmgljkhhaaChecked
import Derived.Test.YtikjndmgljkhhaaBase
import Derived.WalkLawsBesides
namespace Go.Proofs.Ytikjndmgljkhhaa
open Go.RowKit

theorem szInts_any (ao : Option Addr) (n cap : Nat) (l : Int) (w : World) (hn : n ≤ maxLen) (h0 : 0 ≤ l) (h1 : l ≤ 1048576) :
    Calls Try.prog 65 #[.slice ao n cap, .int .i64 l] w fun e w' => e = .returned (.int .i64 (if l < n then -1 else l - n)) ∧ w' = w := by
  unfold maxLen at hn
  by_cases h : l < n
  all_goals
    go_enter Try.func65, Try.ntmps65
    go_wp2
    go_ret
    exact ⟨by simp, rfl⟩

end Go.Proofs.Ytikjndmgljkhhaa
