/- Chapter 4: the program's small questions on forests. -/
import Derived.Test.YtikplcpgocgogaaZU
import Derived.Test.YtikplcpgocgogaaZQ
import Derived.BigQuiet
import Derived.Laws.StructEq
import Derived.Laws.Cover3
import Derived.Test.YtikplcpgocgogaaZT
namespace Go.Proofs.Ytikplcpgocgogaa
open Go.RowKit

theorem isTreePlace_is (x : Int) (w : World) (d : Bool) (h : spotB x = d) : Calls Try.prog 161 #[.int .i64 x] w fun e w' => e = .returned (.bool d) ∧ w' = w := by
  subst h
  unfold spotB
  by_cases h0 : 0 ≤ x
  · by_cases h1 : x < 16
    · go_enter Try.func161, Try.ntmps161
      go_wp2
      go_ret
      exact ⟨ret_bool (by simp; omega), rfl⟩
    · go_enter Try.func161, Try.ntmps161
      go_wp2
      go_ret
      exact ⟨ret_bool (by simp; omega), rfl⟩
  · go_enter Try.func161, Try.ntmps161
    go_wp2
    go_ret
    exact ⟨ret_bool (by simp; omega), rfl⟩

section
variable {o : Bool} {l u : Nat} (an : Option Addr) (nn cn : Nat) (ab : Option Addr) (nb cb : Nat) (K : Nat → KS) (f : Fo) (w : World) (h : FoAt w o l u an nn cn ab nb cb K f) (hn : nn ≤ 2097152) (hb : nb ≤ 2097152)
include h hn hb

end

end Go.Proofs.Ytikplcpgocgogaa

/- Chapter 4: the program's fault of a node. -/
namespace Go.Proofs.Ytikplcpgocgogaa
open Go.RowKit

section
variable {o : Bool} {l u : Nat} (an : Option Addr) (nn cn : Nat) (ab : Option Addr) (nb cb : Nat) (K : Nat → KS) (f : Fo) (w : World) (h : FoAt w o l u an nn cn ab nb cb K f) (hn : nn ≤ 2097152) (hb : nb ≤ 2097152)
include h hn hb

end

end Go.Proofs.Ytikplcpgocgogaa

/- Chapter 4: the program counts how often each place is named; its fault of a forest. -/
namespace Go.Proofs.Ytikplcpgocgogaa
open Go.RowKit

def fn (n : Nat) (g : Nat → Int) : List Int := (List.range n).map g
section
variable {o : Bool} {l u : Nat} (an : Option Addr) (nn cn : Nat) (ab : Option Addr) (nb cb : Nat) (K : Nat → KS) (f : Fo) (w : World) (h : FoAt w o l u an nn cn ab nb cb K f)
include h

end

end Go.Proofs.Ytikplcpgocgogaa

/- Chapter 4: the program's ForestFault, and what it asks of a tree. -/
namespace Go.Proofs.Ytikplcpgocgogaa
open Go.RowKit

section
variable {o : Bool} {l u : Nat} (an : Option Addr) (nn cn : Nat) (ab : Option Addr) (nb cb : Nat) (K : Nat → KS) (f : Fo) (w : World) (h : FoAt w o l u an nn cn ab nb cb K f) (hn : nn ≤ 2097152) (hb : nb ≤ 2097152) (hK : ∀ i, i < nn → (K i).2.1 ≤ 2097152)
include h hn hb hK

end

end Go.Proofs.Ytikplcpgocgogaa

/- Chapter 4: what the program looks up in a tree; its walk; its new forests. -/
namespace Go.Proofs.Ytikplcpgocgogaa
open Go.RowKit

section
variable {o : Bool} {l u : Nat} (an : Option Addr) (nn cn : Nat) (ab : Option Addr) (nb cb : Nat) (K : Nat → KS) (f : Fo) (w : World) (h : FoAt w o l u an nn cn ab nb cb K f)
include h

end

section
variable {o : Bool} {l u : Nat} (an : Option Addr) (nn cn : Nat) (ab : Option Addr) (nb cb : Nat) (K : Nat → KS) (f : Fo) (w : World) (h : FoAt w o l u an nn cn ab nb cb K f) (hn : nn ≤ 2097152) (hb : nb ≤ 2097152) (hK : ∀ i, i < nn → (K i).2.1 ≤ 2097152)
include h hn hb hK

end

end Go.Proofs.Ytikplcpgocgogaa
