/- Numbers cloned by the program. -/
import Derived.Test.YtcbfmjanjciodaaEX
import Derived.Test.YtcbfmjanjciodaaYN
import Derived.Test.YtcbfmjanjciodaaZW
import Derived.Test.YtcbfmjanjciodaaJ2
import Derived.Test.YtcbfmjanjciodaaP1
import Derived.Test.YtcbfmjanjciodaaYE
import Derived.Test.YtcbfmjanjciodaaPPl
namespace Go.Proofs.Ytcbfmjanjciodaa
open Go.RowKit

end Go.Proofs.Ytcbfmjanjciodaa

/- Chapter 7: chunks of words, by both. -/
namespace Go.Proofs.Ytcbfmjanjciodaa
open Go.RowKit

/-- a code and a list of one's own -/
def IntsR (w w' : World) (e : Ending) (cd : Int) (xs : List Int) : Prop := ∃ a n c, e = .returned (.agg #[.int .i64 cd, .slice a n c]) ∧ RowAt w' true w.heap.size w'.heap.size 1 a n c (ints xs) ∧ Below w.heap.size w w'
theorem l1Min_is (a b : Int) (w : World) (d : Int) (hd : min a b = d) : Calls Try.prog 124 #[.int .i64 a, .int .i64 b] w fun e w' => e = .returned (.int .i64 d) ∧ w' = w := by
  have HD : Hid _ := hd
  clear hd
  go_enter Try.func124, Try.ntmps124
  by_cases h : a < b
  · have HE : Hid (a = d) := by show _ = _; have := HD.out; omega
    go_wp2
    go_ret
    exact ⟨ret_int HE.out, rfl⟩
  · have HE : Hid (b = d) := by show _ = _; have := HD.out; omega
    go_wp2
    go_ret
    exact ⟨ret_int HE.out, rfl⟩
end Go.Proofs.Ytcbfmjanjciodaa
