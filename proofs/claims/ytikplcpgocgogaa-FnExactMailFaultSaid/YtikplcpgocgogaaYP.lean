/- Chapter 5, plain: volumes, how many blocks a tree has, the fault of a pool. -/
import Derived.Test.YtikplcpgocgogaaZZ
import Derived.Test.YtikplcpgocgogaaZM
import Derived.Test.YtikplcpgocgogaaZV
import Derived.Test.YtikplcpgocgogaaZU
namespace Go.Proofs.Ytikplcpgocgogaa
open Go.RowKit

def volIdB (x : Int) : Bool := decide (1 ≤ x ∧ x ≤ 99)
def quotaB (x : Int) : Bool := decide (1 ≤ x ∧ x ≤ 16)
end Go.Proofs.Ytikplcpgocgogaa

/- Chapter 5: the fault of an operation, plain, and the ids of volumes. -/
namespace Go.Proofs.Ytikplcpgocgogaa
open Go.RowKit

def opAt (k : Int) : Bool := k == 2 || k == 3 || k == 4
def opVal (k : Int) : Bool := k == 1 || k == 2 || k == 5
def opValB (k x : Int) : Bool := if k = 1 then quotaB x else if k = 2 then dataB x else if k = 5 then volIdB x else true
def opF (k v a x : Int) : Int :=
  if 1 ≤ k ∧ k ≤ 6 then
    (if volIdB v && (!opAt k || spotB a) && opValB k x then
      (if (!opAt k && a != 0) || (!opVal k && x != 0) then 1 else 0)
    else 3)
  else 1

theorem l5Id_is (x : Int) (w : World) (d : Bool) (h : volIdB x = d) : Calls Try.prog 162 #[.int .i64 x] w fun e w' => e = .returned (.bool d) ∧ w' = w := by
  go_enter Try.func162, Try.ntmps162
  go_wp2_with fail
  refine (l1In_any x 1 99 _).mono ?_
  rintro e w1 ⟨rfl, rfl⟩
  go_wp2
  go_ret
  exact ⟨by rw [← h, volIdB, Bool.decide_and]; rfl, rfl⟩
theorem isVolId_is (x : Int) (w : World) (d : Bool) (h : volIdB x = d) : Calls Try.prog 160 #[.int .i64 x] w fun e w' => e = .returned (.bool d) ∧ w' = w := by
  unfold volIdB at h
  by_cases h1 : 1 ≤ x
  · by_cases h2 : x ≤ 99
    · have e : d = true := by rw [← h]; exact decide_eq_true ⟨h1, h2⟩
      subst e
      clear h
      go_enter Try.func160, Try.ntmps160
      go_wp2
      go_ret
      exact ⟨rfl, rfl⟩
    · have e : d = false := by rw [← h]; exact decide_eq_false (by omega)
      subst e
      clear h
      go_enter Try.func160, Try.ntmps160
      go_wp2
      go_ret
      exact ⟨rfl, rfl⟩
  · have e : d = false := by rw [← h]; exact decide_eq_false (by omega)
    subst e
    clear h
    go_enter Try.func160, Try.ntmps160
    go_wp2
    go_ret
    exact ⟨rfl, rfl⟩

end Go.Proofs.Ytikplcpgocgogaa
