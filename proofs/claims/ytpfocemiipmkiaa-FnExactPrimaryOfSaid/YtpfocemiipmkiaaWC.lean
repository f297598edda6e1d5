/- Chapter 9: the fault of a replica, in plain words and of the program. -/
import Derived.Test.YtpfocemiipmkiaaWB
import Derived.Test.YtpfocemiipmkiaaXH
import Derived.Test.YtpfocemiipmkiaaFacts
namespace Go.Proofs.Ytpfocemiipmkiaa
open Go.RowKit

def leadsB (r : Rep) : Bool := r.normal && (r.view % r.size == r.id)
def sizesP (r : Rep) : Prop := (r.oks.length : Int) = (if leadsB r = true then r.size else 0) ∧ (r.asks.length : Int) = (if r.normal = true then 0 else r.size) ∧ (r.doers.length : Int) = (if r.normal = true then 0 else r.size)
instance (r : Rep) : Decidable (sizesP r) := by unfold sizesP; infer_instance
def numsP (r : Rep) : Prop := (1 ≤ r.size ∧ r.size ≤ 5) ∧ (0 ≤ r.id ∧ r.id ≤ r.size - 1) ∧ (0 ≤ r.view ∧ r.view ≤ 200) ∧ (0 ≤ r.last ∧ r.last ≤ r.view)
instance (r : Rep) : Decidable (numsP r) := by unfold numsP; infer_instance
set_option maxRecDepth 20000 in
set_option maxHeartbeats 2000000 in
theorem isUpTo_is (n m : Int) (w : World) (d : Bool) (h : decide (0 ≤ n ∧ n ≤ m) = d) : Calls Try.prog 61 #[.int .i64 n, .int .i64 m] w fun e w' => e = .returned (.bool d) ∧ w' = w := by
  by_cases h1 : 0 ≤ n
  · by_cases h2 : n ≤ m
    · have e : d = true := by rw [← h]; exact decide_eq_true ⟨h1, h2⟩
      subst e
      clear h
      go_enter Try.func61, Try.ntmps61
      go_wp2
      go_ret
      exact ⟨rfl, rfl⟩
    · have e : d = false := by rw [← h]; exact decide_eq_false (fun x => h2 x.2)
      subst e
      clear h
      go_enter Try.func61, Try.ntmps61
      go_wp2
      go_ret
      exact ⟨rfl, rfl⟩
  · have e : d = false := by rw [← h]; exact decide_eq_false (fun x => h1 x.1)
    subst e
    clear h
    go_enter Try.func61, Try.ntmps61
    go_wp2
    go_ret
    exact ⟨rfl, rfl⟩
set_option maxRecDepth 20000 in
set_option maxHeartbeats 2000000 in
theorem isSize_is (n : Int) (w : World) (d : Bool) (h : decide (1 ≤ n ∧ n ≤ 5) = d) : Calls Try.prog 57 #[.int .i64 n] w fun e w' => e = .returned (.bool d) ∧ w' = w := by
  by_cases h1 : 1 ≤ n
  · by_cases h2 : n ≤ 5
    · have e : d = true := by rw [← h]; exact decide_eq_true ⟨h1, h2⟩
      subst e
      clear h
      go_enter Try.func57, Try.ntmps57
      go_wp2
      go_ret
      exact ⟨rfl, rfl⟩
    · have e : d = false := by rw [← h]; exact decide_eq_false (fun x => h2 x.2)
      subst e
      clear h
      go_enter Try.func57, Try.ntmps57
      go_wp2
      go_ret
      exact ⟨rfl, rfl⟩
  · have e : d = false := by rw [← h]; exact decide_eq_false (fun x => h1 x.1)
    subst e
    clear h
    go_enter Try.func57, Try.ntmps57
    go_wp2
    go_ret
    exact ⟨rfl, rfl⟩
set_option maxRecDepth 20000 in
set_option maxHeartbeats 2000000 in
theorem isView_is (n : Int) (w : World) (d : Bool) (h : decide (0 ≤ n ∧ n ≤ 200) = d) : Calls Try.prog 56 #[.int .i64 n] w fun e w' => e = .returned (.bool d) ∧ w' = w := by
  go_enter Try.func56, Try.ntmps56
  go_wp2_with fail
  refine (isUpTo_is n 200 _ d h).mono ?_
  rintro e W9 ⟨rfl, rfl⟩
  go_wp2
  go_ret
  exact ⟨rfl, rfl⟩
theorem firstOf_is (v s : Int) (hs : 1 ≤ s ∧ s ≤ 5) (hv : 0 ≤ v ∧ v ≤ 300) (w : World) : Calls Try.prog 58 #[.int .i64 v, .int .i64 s] w fun e w' => e = .returned (.int .i64 (v % s)) ∧ w' = w := by
  have h0 : ¬ s = 0 := by omega
  have hr : v.tmod s = v % s := Int.tmod_eq_emod_of_nonneg hv.1
  have h2 := Int.emod_nonneg v h0
  have h3 : v % s < s := Int.emod_lt_of_pos v (by omega)
  have hw : IntKind.i64.wrap (v % s) = v % s := wrapI_same _ (by omega)
  clear h2 h3
  go_enter Try.func58, Try.ntmps58
  go_wp2
  go_ret
  exact ⟨rfl, rfl⟩
end Go.Proofs.Ytpfocemiipmkiaa

