/- Facts of disks behind a crash; the laws' own lwBig and lwNums. -/
import Derived.Test.YtpbhiednmnolgaaEX
import Derived.Test.YtpbhiednmnolgaaFacts
import Derived.Test.YtpbhiednmnolgaaCrashD
namespace Go.Proofs.Ytpbhiednmnolgaa
open Go.RowKit

theorem lwBig_is (ac : Option Addr) (nc cc : Nat) (w : World) (d : Bool) (h : decide (1048576 < nc) = d) : Calls Try.prog 12 #[.slice ac nc cc] w fun e w' => e = .returned (.bool d) ∧ w' = w := by
  rw [← h]
  go_enter Try.func12, Try.ntmps12
  go_wp2
  go_ret
  exact ⟨ret_bool (by simp; omega), rfl⟩

set_option maxHeartbeats 400000 in
theorem lwNums_yes {o1 o2 : Bool} {l1 u1 l2 u2 : Nat} (a1 a2 : Option Addr) (n c1 c2 : Nat) (xs : List Int) (w : World) (h1 : RowAt w o1 l1 u1 1 a1 n c1 (ints xs)) (h2 : RowAt w o2 l2 u2 1 a2 n c2 (ints xs)) (hn : n ≤ 2097152) :
    Calls Try.prog 15 #[.slice a1 n c1, .slice a2 n c2] w fun e w' => e = .returned (.bool true) ∧ Below w.heap.size w w' := by
  go_enter Try.func15, Try.ntmps15
  go_wp2
  go_loopw [5] (fun i wr => ∃ k : Nat, k ≤ n ∧ i = .int .i64 k ∧ Below w.heap.size w wr) (fun i _ => n - (intOf i).toNat)
  case atStart => exact ⟨0, Nat.zero_le _, rfl, Below.refl _ _⟩
  case round =>
    obtain ⟨k, hk, rfl, hb⟩ := hrel
    by_cases hlt : k < n
    · obtain ⟨b1, f1, rfl, _, _, hs1, e1, _⟩ := h1.int hlt
      obtain ⟨b2, f2, rfl, _, _, hs2, e2, _⟩ := h2.int hlt
      have g1 : wr.cell? ⟨b1, f1 + k, none⟩ = some (.int .i64 (xs.getD k 0)) := (hb.cell (p := ⟨b1, f1 + k, none⟩) hs1).trans e1
      have g2 : wr.cell? ⟨b2, f2 + k, none⟩ = some (.int .i64 (xs.getD k 0)) := (hb.cell (p := ⟨b2, f2 + k, none⟩) hs2).trans e2
      clear e1 e2
      have hl : (k : Int) < (n : Int) := by omega
      generalize xs.getD k 0 = x at *
      have hxx : (x != x) = false := by simp
      go_wp2_with fail
      go_region_held3 (fun w' => w'.cell? ⟨b1, f1 + k, none⟩ = some (.int .i64 x) ∧ w'.cell? ⟨b2, f2 + k, none⟩ = some (.int .i64 x)) (exact ⟨g1, g2⟩) (fail)
      go_wp2
      go_roundw
      case rel => exact ⟨k + 1, by omega, by go_num, hb.drew⟩
      case measure => simp [intOf]; omega
    · go_wp2
      go_ret
      exact ⟨rfl, hb⟩

end Go.Proofs.Ytpbhiednmnolgaa
