/- Chapter 12: the fault of a machine in plain words. No program is named here. -/
import Derived.Test.YtedgppggaceopaaMS2
import Derived.Test.YtedgppggaceopaaFS0
import Derived.Test.YtedgppggaceopaaYP
namespace Go.Proofs.Ytedgppggaceopaa
open Go.RowKit

def sesB (s : Se) : Bool := decide ((1 ≤ s.1 ∧ s.1 ≤ 99) ∧ (1 ≤ s.2.1 ∧ s.2.1 ≤ 999) ∧ (0 ≤ s.2.2.1 ∧ s.2.2.1 ≤ 10) ∧ dataB s.2.2.2 = true)
def sesAhead (ss : List Se) : Nat → Int
  | 0 => 0
  | k + 1 => (ss.getD k se0).1
def sesOne (a : Int) (s : Se) : Int := if sesB s = true then (if s.1 ≤ a then 1 else 0) else 3
def sesAt (ss : List Se) (k : Nat) : Int := sesOne (sesAhead ss k) (ss.getD k se0)
def sesFlt (ss : List Se) : Int := fstF (sesAt ss) ss.length
def mcF (m : Mac) : Int := if poFault m.1 m.2.1 = 0 then (if 40 < m.2.2.length then 2 else sesFlt m.2.2) else poFault m.1 m.2.1
theorem sesOne_b {a : Int} {s : Se} (h : sesB s = false) : sesOne a s = 3 := by unfold sesOne; rw [h]; exact if_neg (by decide)
theorem sesOne_le {a : Int} {s : Se} (h : sesB s = true) (h2 : s.1 ≤ a) : sesOne a s = 1 := by unfold sesOne; rw [if_pos h, if_pos h2]
theorem sesOne_ok {a : Int} {s : Se} (h : sesB s = true) (h2 : ¬ s.1 ≤ a) : sesOne a s = 0 := by unfold sesOne; rw [if_pos h, if_neg h2]
theorem sesB_parts {s : Se} (h : sesB s = true) : (1 ≤ s.1 ∧ s.1 ≤ 99) ∧ (1 ≤ s.2.1 ∧ s.2.1 ≤ 999) ∧ (0 ≤ s.2.2.1 ∧ s.2.2.1 ≤ 10) ∧ dataB s.2.2.2 = true := of_decide_eq_true h
end Go.Proofs.Ytedgppggaceopaa
