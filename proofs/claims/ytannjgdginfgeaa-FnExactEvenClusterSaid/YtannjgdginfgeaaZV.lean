/- Chapter 4: the program's small questions on forests. -/
import Derived.Test.YtannjgdginfgeaaZU
import Derived.Test.YtannjgdginfgeaaZQ
import Derived.BigQuiet
import Derived.Laws.StructEq
import Derived.Laws.Cover3
import Derived.Test.YtannjgdginfgeaaZT
namespace Go.Proofs.Ytannjgdginfgeaa
open Go.RowKit

theorem isPlaceOf_is (n x : Int) (w : World) (d : Bool) (h : decide (0 ≤ x ∧ x ≤ n - 1) = d) : Calls Try.prog 107 #[.int .i64 n, .int .i64 x] w fun e w' => e = .returned (.bool d) ∧ w' = w := by
  subst h
  by_cases h0 : 0 ≤ x
  · by_cases h1 : x < n
    · go_enter Try.func107, Try.ntmps107
      go_wp2
      go_ret
      exact ⟨ret_bool (by simp; omega), rfl⟩
    · go_enter Try.func107, Try.ntmps107
      go_wp2
      go_ret
      exact ⟨ret_bool (by simp; omega), rfl⟩
  · go_enter Try.func107, Try.ntmps107
    go_wp2
    go_ret
    exact ⟨ret_bool (by simp; omega), rfl⟩
theorem isTreePlace_is (x : Int) (w : World) (d : Bool) (h : spotB x = d) : Calls Try.prog 136 #[.int .i64 x] w fun e w' => e = .returned (.bool d) ∧ w' = w := by
  subst h
  unfold spotB
  by_cases h0 : 0 ≤ x
  · by_cases h1 : x < 16
    · go_enter Try.func136, Try.ntmps136
      go_wp2
      go_ret
      exact ⟨ret_bool (by simp; omega), rfl⟩
    · go_enter Try.func136, Try.ntmps136
      go_wp2
      go_ret
      exact ⟨ret_bool (by simp; omega), rfl⟩
  · go_enter Try.func136, Try.ntmps136
    go_wp2
    go_ret
    exact ⟨ret_bool (by simp; omega), rfl⟩

section
variable {o : Bool} {l u : Nat} (an : Option Addr) (nn cn : Nat) (ab : Option Addr) (nb cb : Nat) (K : Nat → KS) (f : Fo) (w : World) (h : FoAt w o l u an nn cn ab nb cb K f) (hn : nn ≤ 2097152) (hb : nb ≤ 2097152)
include h hn hb

end

end Go.Proofs.Ytannjgdginfgeaa

/- Chapter 4: the program's fault of a node. -/
namespace Go.Proofs.Ytannjgdginfgeaa
open Go.RowKit

section
variable {o : Bool} {l u : Nat} (an : Option Addr) (nn cn : Nat) (ab : Option Addr) (nb cb : Nat) (K : Nat → KS) (f : Fo) (w : World) (h : FoAt w o l u an nn cn ab nb cb K f) (hn : nn ≤ 2097152) (hb : nb ≤ 2097152)
include h hn hb

end

end Go.Proofs.Ytannjgdginfgeaa

/- Chapter 4: the program counts how often each place is named; its fault of a forest. -/
namespace Go.Proofs.Ytannjgdginfgeaa
open Go.RowKit

def fn (n : Nat) (g : Nat → Int) : List Int := (List.range n).map g
section
variable {o : Bool} {l u : Nat} (an : Option Addr) (nn cn : Nat) (ab : Option Addr) (nb cb : Nat) (K : Nat → KS) (f : Fo) (w : World) (h : FoAt w o l u an nn cn ab nb cb K f)
include h

end

end Go.Proofs.Ytannjgdginfgeaa

/- Chapter 4: the program's ForestFault, and what it asks of a tree. -/
namespace Go.Proofs.Ytannjgdginfgeaa
open Go.RowKit

section
variable {o : Bool} {l u : Nat} (an : Option Addr) (nn cn : Nat) (ab : Option Addr) (nb cb : Nat) (K : Nat → KS) (f : Fo) (w : World) (h : FoAt w o l u an nn cn ab nb cb K f) (hn : nn ≤ 2097152) (hb : nb ≤ 2097152) (hK : ∀ i, i < nn → (K i).2.1 ≤ 2097152)
include h hn hb hK

end

end Go.Proofs.Ytannjgdginfgeaa

/- Chapter 4: what the program looks up in a tree; its walk; its new forests. -/
namespace Go.Proofs.Ytannjgdginfgeaa
open Go.RowKit

section
variable {o : Bool} {l u : Nat} (an : Option Addr) (nn cn : Nat) (ab : Option Addr) (nb cb : Nat) (K : Nat → KS) (f : Fo) (w : World) (h : FoAt w o l u an nn cn ab nb cb K f)
include h

end

section
variable {o : Bool} {l u : Nat} (an : Option Addr) (nn cn : Nat) (ab : Option Addr) (nb cb : Nat) (K : Nat → KS) (f : Fo) (w : World) (h : FoAt w o l u an nn cn ab nb cb K f) (hn : nn ≤ 2097152) (hb : nb ≤ 2097152) (hK : ∀ i, i < nn → (K i).2.1 ≤ 2097152)
include h hn hb hK

end

end Go.Proofs.Ytannjgdginfgeaa
