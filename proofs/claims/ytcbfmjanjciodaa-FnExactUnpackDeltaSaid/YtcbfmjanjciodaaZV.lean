/- Chapter 4: the program's small questions on forests. -/
import Derived.Test.YtcbfmjanjciodaaZU
import Derived.Test.YtcbfmjanjciodaaZQ
import Derived.BigQuiet
import Derived.Laws.StructEq
import Derived.Laws.Cover3
import Derived.Test.YtcbfmjanjciodaaZT
namespace Go.Proofs.Ytcbfmjanjciodaa
open Go.RowKit

theorem isPlaceOf_is (n x : Int) (w : World) (d : Bool) (h : decide (0 ≤ x ∧ x ≤ n - 1) = d) : Calls Try.prog 222 #[.int .i64 n, .int .i64 x] w fun e w' => e = .returned (.bool d) ∧ w' = w := by
  subst h
  by_cases h0 : 0 ≤ x
  · by_cases h1 : x < n
    · go_enter Try.func222, Try.ntmps222
      go_wp2
      go_ret
      exact ⟨ret_bool (by simp; omega), rfl⟩
    · go_enter Try.func222, Try.ntmps222
      go_wp2
      go_ret
      exact ⟨ret_bool (by simp; omega), rfl⟩
  · go_enter Try.func222, Try.ntmps222
    go_wp2
    go_ret
    exact ⟨ret_bool (by simp; omega), rfl⟩
theorem isTreePlace_is (x : Int) (w : World) (d : Bool) (h : spotB x = d) : Calls Try.prog 158 #[.int .i64 x] w fun e w' => e = .returned (.bool d) ∧ w' = w := by
  subst h
  unfold spotB
  by_cases h0 : 0 ≤ x
  · by_cases h1 : x < 16
    · go_enter Try.func158, Try.ntmps158
      go_wp2
      go_ret
      exact ⟨ret_bool (by simp; omega), rfl⟩
    · go_enter Try.func158, Try.ntmps158
      go_wp2
      go_ret
      exact ⟨ret_bool (by simp; omega), rfl⟩
  · go_enter Try.func158, Try.ntmps158
    go_wp2
    go_ret
    exact ⟨ret_bool (by simp; omega), rfl⟩

section
variable {o : Bool} {l u : Nat} (an : Option Addr) (nn cn : Nat) (ab : Option Addr) (nb cb : Nat) (K : Nat → KS) (f : Fo) (w : World) (h : FoAt w o l u an nn cn ab nb cb K f) (hn : nn ≤ 2097152) (hb : nb ≤ 2097152)
include h hn hb

set_option maxRecDepth 20000 in
set_option maxHeartbeats 1000000 in
theorem isRoot_is (root : Int) (d : Bool) (hd : rootOk f root = d) : Calls Try.prog 198 #[.agg #[.slice an nn cn, .slice ab nb cb], .int .i64 root] w fun e w' => e = .returned (.bool d) ∧ Below w.heap.size w w' := by
  have _ := hn; have _ := hb
  have A : Below w.heap.size w (w.alloc (.cells #[.slice an nn cn, .slice ab nb cb] 41)) := (Below.refl _ _).alloc (Nat.le_refl _) _
  have hl := h.nodes.len
  unfold rootOk at hd
  by_cases h1 : root = -1
  · rw [if_pos h1] at hd
    subst hd
    subst h1
    go_enter Try.func198, Try.ntmps198
    go_wp2
    go_ret
    exact ⟨rfl, A⟩
  · rw [if_neg h1, hl] at hd
    have hne : (root == -1) = false := by simp [h1]
    by_cases hx : 0 ≤ root ∧ root ≤ (nn : Int) - 1
    · rw [decide_eq_true hx, Bool.true_and] at hd
      obtain ⟨k, rfl⟩ : ∃ k : Nat, root = k := ⟨root.toNat, by omega⟩
      rw [Int.toNat_natCast] at hd
      have hlt : k < nn := by omega
      have hlk : (k : Int) < nn := by omega
      have HD : Hid _ := decide_eq_true hx
      obtain ⟨b, off, rfl, _, _, _, e1, e2, e3, _⟩ := h.nodes.node hlt
      replace e1 := cell_later A e1
      replace e2 := cell_later A e2
      unfold nodeOf at hd
      obtain ⟨⟨r, lf, ks⟩, hnd⟩ : ∃ nd, f.1.getD k nd0 = nd := ⟨_, rfl⟩
      rw [hnd] at e1 e2 hd
      simp only at e1 e2 hd
      clear hnd hx h1 e3
      cases lf with
      | true =>
        obtain rfl : d = false := by rw [← hd]; simp
        clear hd
        go_enter Try.func198, Try.ntmps198
        go_wp2_with fail
        refine (isPlaceOf_is _ _ _ true HD.out).mono ?_
        rintro e w1 ⟨rfl, rfl⟩
        go_wp2
        go_ret
        exact ⟨rfl, A⟩
      | false =>
        by_cases hr : 0 < r
        · rw [decide_eq_true hr] at hd
          subst hd
          go_enter Try.func198, Try.ntmps198
          go_wp2_with fail
          refine (isPlaceOf_is _ _ _ true HD.out).mono ?_
          rintro e w1 ⟨rfl, rfl⟩
          go_wp2
          go_ret
          exact ⟨rfl, A⟩
        · rw [decide_eq_false hr] at hd
          subst hd
          go_enter Try.func198, Try.ntmps198
          go_wp2_with fail
          refine (isPlaceOf_is _ _ _ true HD.out).mono ?_
          rintro e w1 ⟨rfl, rfl⟩
          go_wp2
          go_ret
          exact ⟨ret_bool (by simp; omega), A⟩
    · rw [decide_eq_false hx, Bool.false_and, Bool.false_and] at hd
      subst hd
      have HD : Hid _ := decide_eq_false hx
      clear hx
      go_enter Try.func198, Try.ntmps198
      go_wp2_with fail
      refine (isPlaceOf_is _ _ _ false HD.out).mono ?_
      rintro e w1 ⟨rfl, rfl⟩
      go_wp2
      go_ret
      exact ⟨rfl, A⟩

end

end Go.Proofs.Ytcbfmjanjciodaa

/- Chapter 4: the program's fault of a node. -/
namespace Go.Proofs.Ytcbfmjanjciodaa
open Go.RowKit

section
variable {o : Bool} {l u : Nat} (an : Option Addr) (nn cn : Nat) (ab : Option Addr) (nb cb : Nat) (K : Nat → KS) (f : Fo) (w : World) (h : FoAt w o l u an nn cn ab nb cb K f) (hn : nn ≤ 2097152) (hb : nb ≤ 2097152)
include h hn hb

end

end Go.Proofs.Ytcbfmjanjciodaa

/- Chapter 4: the program counts how often each place is named; its fault of a forest. -/
namespace Go.Proofs.Ytcbfmjanjciodaa
open Go.RowKit

def fn (n : Nat) (g : Nat → Int) : List Int := (List.range n).map g
section
variable {o : Bool} {l u : Nat} (an : Option Addr) (nn cn : Nat) (ab : Option Addr) (nb cb : Nat) (K : Nat → KS) (f : Fo) (w : World) (h : FoAt w o l u an nn cn ab nb cb K f)
include h

end

end Go.Proofs.Ytcbfmjanjciodaa

/- Chapter 4: the program's ForestFault, and what it asks of a tree. -/
namespace Go.Proofs.Ytcbfmjanjciodaa
open Go.RowKit

section
variable {o : Bool} {l u : Nat} (an : Option Addr) (nn cn : Nat) (ab : Option Addr) (nb cb : Nat) (K : Nat → KS) (f : Fo) (w : World) (h : FoAt w o l u an nn cn ab nb cb K f) (hn : nn ≤ 2097152) (hb : nb ≤ 2097152) (hK : ∀ i, i < nn → (K i).2.1 ≤ 2097152)
include h hn hb hK

end

end Go.Proofs.Ytcbfmjanjciodaa

/- Chapter 4: what the program looks up in a tree; its walk; its new forests. -/
namespace Go.Proofs.Ytcbfmjanjciodaa
open Go.RowKit

section
variable {o : Bool} {l u : Nat} (an : Option Addr) (nn cn : Nat) (ab : Option Addr) (nb cb : Nat) (K : Nat → KS) (f : Fo) (w : World) (h : FoAt w o l u an nn cn ab nb cb K f)
include h

end

section
variable {o : Bool} {l u : Nat} (an : Option Addr) (nn cn : Nat) (ab : Option Addr) (nb cb : Nat) (K : Nat → KS) (f : Fo) (w : World) (h : FoAt w o l u an nn cn ab nb cb K f) (hn : nn ≤ 2097152) (hb : nb ≤ 2097152) (hK : ∀ i, i < nn → (K i).2.1 ≤ 2097152)
include h hn hb hK

end

end Go.Proofs.Ytcbfmjanjciodaa
