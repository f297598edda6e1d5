/- The first of n codes that is none, in plain words. No program is named here. -/
import Derived.Test.YtedgppggaceopaaFacts
import Derived.Test.YtedgppggaceopaaSm
import Derived.Test.YtedgppggaceopaaCopy
import Derived.Deep.MidRow
import Derived.Deep.RegionHeld3
import Derived.Test.YtedgppggaceopaaMark2
import Derived.Deep.WholeRow
import Derived.Test.YtedgppggaceopaaBools
namespace Go.Proofs.Ytedgppggaceopaa

/-- the first of n codes that is none -/
def fstF (f : Nat → Int) : Nat → Int
  | 0 => 0
  | k + 1 => if fstF f k = 0 then f k else fstF f k
theorem fstF_le (f : Nat → Int) {k c : Nat} (hc : fstF f k ≠ 0) (n : Nat) (hn : n = k + c) : fstF f n = fstF f k := by
  induction c generalizing n with
  | zero => rw [hn]; rfl
  | succ c ih =>
    have e := ih (k + c) rfl
    rw [hn]
    show (if fstF f (k + c) = 0 then f (k + c) else fstF f (k + c)) = _
    rw [e, if_neg hc]
/-- the k-th is the first fault -/
theorem fstF_stop {f : Nat → Int} {k n : Nat} {d c : Int} (hd : fstF f n = d) (h0 : fstF f k = 0) (hk : k < n) (hc : f k = c) (h1 : c ≠ 0) : d = c := by
  have e : fstF f (k + 1) = c := by show (if fstF f k = 0 then f k else fstF f k) = c; rw [if_pos h0, hc]
  rw [← hd, fstF_le f (k := k + 1) (c := n - (k + 1)) (by rw [e]; exact h1) n (by omega), e]
theorem fstF_next {f : Nat → Int} {k : Nat} (h0 : fstF f k = 0) (hc : f k = 0) : fstF f (k + 1) = 0 := by show (if fstF f k = 0 then f k else fstF f k) = 0; rw [if_pos h0, hc]
end Go.Proofs.Ytedgppggaceopaa
