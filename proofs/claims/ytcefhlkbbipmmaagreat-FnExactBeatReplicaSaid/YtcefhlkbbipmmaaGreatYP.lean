/- Chapter 5, plain: volumes, how many blocks a tree has, the fault of a pool. -/
import Derived.Test.YtcefhlkbbipmmaaGreatZZ
import Derived.Test.YtcefhlkbbipmmaaGreatZM
import Derived.Test.YtcefhlkbbipmmaaGreatZV
import Derived.Test.YtcefhlkbbipmmaaGreatZU
namespace Go.Proofs.YtcefhlkbbipmmaaGreat
open Go.RowKit

def volIdB (x : Int) : Bool := decide (1 ≤ x ∧ x ≤ 99)
def quotaB (x : Int) : Bool := decide (1 ≤ x ∧ x ≤ 16)
end Go.Proofs.YtcefhlkbbipmmaaGreat

/- Chapter 5: the fault of an operation, plain, and the ids of volumes. -/
namespace Go.Proofs.YtcefhlkbbipmmaaGreat
open Go.RowKit

def opAt (k : Int) : Bool := k == 2 || k == 3 || k == 4
def opVal (k : Int) : Bool := k == 1 || k == 2 || k == 5
def opValB (k x : Int) : Bool := if k = 1 then quotaB x else if k = 2 then dataB x else if k = 5 then volIdB x else true
def opF (k v a x : Int) : Int :=
  if 1 ≤ k ∧ k ≤ 6 then
    (if volIdB v && (!opAt k || spotB a) && opValB k x then
      (if (!opAt k && a != 0) || (!opVal k && x != 0) then 1 else 0)
    else 3)
  else 1

theorem l5Id_is (x : Int) (w : World) (d : Bool) (h : volIdB x = d) : Calls Tryz.prog 182 #[.int .i64 x] w fun e w' => e = .returned (.bool d) ∧ w' = w := by
  go_enter Tryz.func182, Tryz.ntmps182
  go_wp2_with fail
  refine (l1In_any x 1 99 _).mono ?_
  rintro e w1 ⟨rfl, rfl⟩
  go_wp2
  go_ret
  exact ⟨by rw [← h, volIdB, Bool.decide_and]; rfl, rfl⟩
theorem isVolId_is (x : Int) (w : World) (d : Bool) (h : volIdB x = d) : Calls Tryz.prog 178 #[.int .i64 x] w fun e w' => e = .returned (.bool d) ∧ w' = w := by
  unfold volIdB at h
  by_cases h1 : 1 ≤ x
  · by_cases h2 : x ≤ 99
    · have e : d = true := by rw [← h]; exact decide_eq_true ⟨h1, h2⟩
      subst e
      clear h
      go_enter Tryz.func178, Tryz.ntmps178
      go_wp2
      go_ret
      exact ⟨rfl, rfl⟩
    · have e : d = false := by rw [← h]; exact decide_eq_false (by omega)
      subst e
      clear h
      go_enter Tryz.func178, Tryz.ntmps178
      go_wp2
      go_ret
      exact ⟨rfl, rfl⟩
  · have e : d = false := by rw [← h]; exact decide_eq_false (by omega)
    subst e
    clear h
    go_enter Tryz.func178, Tryz.ntmps178
    go_wp2
    go_ret
    exact ⟨rfl, rfl⟩

end Go.Proofs.YtcefhlkbbipmmaaGreat
