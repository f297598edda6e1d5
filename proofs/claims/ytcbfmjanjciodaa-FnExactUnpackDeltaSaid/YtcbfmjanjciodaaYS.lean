/- Chapter 5: rows, nodes and forests compared. -/
import Derived.Test.YtcbfmjanjciodaaEX
import Derived.Test.YtcbfmjanjciodaaYP
import Derived.Test.YtcbfmjanjciodaaZV
import Derived.Laws.StructEq
import Derived.BigQuiet
namespace Go.Proofs.Ytcbfmjanjciodaa
open Go.RowKit

theorem list_eq_of {α : Type} (d : α) {xs ys : List α} {n : Nat} (hx : xs.length = n) (hy : ys.length = n) (h : ∀ j, j < n → xs.getD j d = ys.getD j d) : xs = ys := by
  apply List.ext_getElem (by omega)
  intro j h1 h2
  have := h j (by omega)
  simpa [List.getD, h1, h2] using this

set_option maxRecDepth 20000 in
set_option maxHeartbeats 1000000 in
theorem numsEq_s {o1 o2 : Bool} {l1 u1 l2 u2 : Nat} (a1 : Option Addr) (n1 c1 : Nat) (a2 : Option Addr) (n2 c2 : Nat) (xs ys : List Int) (w : World) (h1 : RowAt w o1 l1 u1 1 a1 n1 c1 (ints xs)) (h2 : RowAt w o2 l2 u2 1 a2 n2 c2 (ints ys)) (hn : n1 ≤ 2097152) (hm : n2 ≤ 2097152) (d : Bool) (hd : decide (xs = ys) = d) :
    Calls Try.prog 125 #[.slice a1 n1 c1, .slice a2 n2 c2] w fun e w' => e = .returned (.bool d) ∧ Below w.heap.size w w' := by
  have hx := h1.nInts
  have hy := h2.nInts
  subst hd
  by_cases hne : n1 = n2
  · subst hne
    have hb0 : ((n1 : Int) != (n1 : Int)) = false := by simp
    go_enter Try.func125, Try.ntmps125
    go_wp2
    go_loopw [5] (fun i wr => ∃ k : Nat, k ≤ n1 ∧ i = .int .i64 k ∧ (∀ j, j < k → xs.getD j 0 = ys.getD j 0) ∧ Below w.heap.size w wr) (fun i _ => n1 - (intOf i).toNat)
    case atStart => exact ⟨0, Nat.zero_le _, rfl, fun j hj => absurd hj (Nat.not_lt_zero _), Below.refl _ _⟩
    case round =>
      obtain ⟨k, hk, rfl, hall, B⟩ := hrel
      have HA : Hid _ := hall
      clear hall
      by_cases hlt : k < n1
      · have hl : (k : Int) < (n1 : Int) := by omega
        have HN : Hid (xs.getD k 0 = ys.getD k 0 → ∀ j, j < k + 1 → xs.getD j 0 = ys.getD j 0) := fun h0 j hj => by
          by_cases e : j = k
          · rw [e]; exact h0
          · exact HA.out j (by omega)
        have HB : Hid (xs.getD k 0 ≠ ys.getD k 0 → decide (xs = ys) = false) := fun h0 => decide_eq_false fun e => h0 (by rw [e])
        obtain ⟨b1, o1, rfl, _, _, hs1, e1, _⟩ := h1.int hlt
        obtain ⟨b2, o2, rfl, _, _, hs2, e2, _⟩ := h2.int hlt
        replace e1 := (B.cell (p := ⟨b1, o1 + k, none⟩) hs1).trans e1
        replace e2 := (B.cell (p := ⟨b2, o2 + k, none⟩) hs2).trans e2
        obtain ⟨x, hx1⟩ : ∃ x, xs.getD k 0 = x := ⟨_, rfl⟩
        obtain ⟨y, hy1⟩ : ∃ y, ys.getD k 0 = y := ⟨_, rfl⟩
        rw [hx1] at e1 HN HB
        rw [hy1] at e2 HN HB
        clear hx1 hy1
        by_cases hxy : x = y
        · have hd0 : (x != y) = false := by simp [hxy]
          have HN2 : Hid _ := HN.out hxy
          clear HN HB hxy
          go_wp2_with fail
          go_quiet (fail)
          go_wp2
          go_roundw
          case rel => exact ⟨k + 1, by omega, by go_num, HN2.out, below_drewN B _⟩
          case measure => simp [intOf]; omega
        · have hd0 : (x != y) = true := by simp [hxy]
          have HF : Hid _ := HB.out hxy
          clear HN HB
          go_wp2_with fail
          go_quiet (fail)
          go_wp2
          go_ret
          exact ⟨by rw [HF.out]; rfl, below_drewN B _⟩
      · obtain rfl : k = n1 := by omega
        have HF : Hid (decide (xs = ys) = true) := decide_eq_true (list_eq_of 0 hx hy HA.out)
        go_wp2
        go_ret
        exact ⟨by rw [HF.out]; rfl, B⟩
  · have hb0 : ((n1 : Int) != (n2 : Int)) = true := by simp; omega
    have HF : Hid (decide (xs = ys) = false) := decide_eq_false fun e => hne (by rw [← hx, ← hy, e])
    go_enter Try.func125, Try.ntmps125
    go_wp2
    go_ret
    exact ⟨by rw [HF.out]; rfl, Below.refl _ _⟩

set_option maxRecDepth 20000 in
set_option maxHeartbeats 1000000 in
theorem numsEq_i {o1 o2 : Bool} {l1 u1 l2 u2 : Nat} (a1 : Option Addr) (n1 c1 : Nat) (a2 : Option Addr) (n2 c2 : Nat) (xs ys : List Int) (w : World) (h1 : RowAt w o1 l1 u1 1 a1 n1 c1 (ints xs)) (h2 : RowAt w o2 l2 u2 1 a2 n2 c2 (ints ys)) (hn : n1 ≤ 2097152) (hm : n2 ≤ 2097152) (d : Bool) (hd : decide (xs = ys) = d) :
    Calls Try.prog 128 #[.slice a1 n1 c1, .slice a2 n2 c2] w fun e w' => e = .returned (.bool d) ∧ Below w.heap.size w w' := by
  have hx := h1.nInts
  have hy := h2.nInts
  subst hd
  by_cases hne : n1 = n2
  · subst hne
    have hb0 : ((n1 : Int) != (n1 : Int)) = false := by simp
    go_enter Try.func128, Try.ntmps128
    go_wp2
    go_loopw [13] (fun i wr => ∃ k : Nat, k ≤ n1 ∧ i = .int .i64 k ∧ (∀ j, j < k → xs.getD j 0 = ys.getD j 0) ∧ Below w.heap.size w wr) (fun i _ => n1 - (intOf i).toNat)
    case atStart => exact ⟨0, Nat.zero_le _, rfl, fun j hj => absurd hj (Nat.not_lt_zero _), Below.refl _ _⟩
    case round =>
      obtain ⟨k, hk, rfl, hall, B⟩ := hrel
      have HA : Hid _ := hall
      clear hall
      by_cases hlt : k < n1
      · have hl : (k : Int) < (n1 : Int) := by omega
        have HN : Hid (xs.getD k 0 = ys.getD k 0 → ∀ j, j < k + 1 → xs.getD j 0 = ys.getD j 0) := fun h0 j hj => by
          by_cases e : j = k
          · rw [e]; exact h0
          · exact HA.out j (by omega)
        have HB : Hid (xs.getD k 0 ≠ ys.getD k 0 → decide (xs = ys) = false) := fun h0 => decide_eq_false fun e => h0 (by rw [e])
        obtain ⟨b1, o1, rfl, _, _, hs1, e1, _⟩ := h1.int hlt
        obtain ⟨b2, o2, rfl, _, _, hs2, e2, _⟩ := h2.int hlt
        replace e1 := (B.cell (p := ⟨b1, o1 + k, none⟩) hs1).trans e1
        replace e2 := (B.cell (p := ⟨b2, o2 + k, none⟩) hs2).trans e2
        obtain ⟨x, hx1⟩ : ∃ x, xs.getD k 0 = x := ⟨_, rfl⟩
        obtain ⟨y, hy1⟩ : ∃ y, ys.getD k 0 = y := ⟨_, rfl⟩
        rw [hx1] at e1 HN HB
        rw [hy1] at e2 HN HB
        clear hx1 hy1
        by_cases hxy : x = y
        · have hd0 : (x != y) = false := by simp [hxy]
          have HN2 : Hid _ := HN.out hxy
          clear HN HB hxy
          go_wp2_with fail
          go_quiet (fail)
          go_wp2
          go_roundw
          case rel => exact ⟨k + 1, by omega, by go_num, HN2.out, below_drewN B _⟩
          case measure => simp [intOf]; omega
        · have hd0 : (x != y) = true := by simp [hxy]
          have HF : Hid _ := HB.out hxy
          clear HN HB
          go_wp2_with fail
          go_quiet (fail)
          go_wp2
          go_ret
          exact ⟨by rw [HF.out]; rfl, below_drewN B _⟩
      · obtain rfl : k = n1 := by omega
        have HF : Hid (decide (xs = ys) = true) := decide_eq_true (list_eq_of 0 hx hy HA.out)
        go_wp2
        go_ret
        exact ⟨by rw [HF.out]; rfl, B⟩
  · have hb0 : ((n1 : Int) != (n2 : Int)) = true := by simp; omega
    have HF : Hid (decide (xs = ys) = false) := decide_eq_false fun e => hne (by rw [← hx, ← hy, e])
    go_enter Try.func128, Try.ntmps128
    go_wp2
    go_ret
    exact ⟨by rw [HF.out]; rfl, Below.refl _ _⟩

end Go.Proofs.Ytcbfmjanjciodaa

