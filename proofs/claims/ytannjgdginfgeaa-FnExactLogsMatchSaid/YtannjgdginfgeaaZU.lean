/- Chapter 4: what the model's small functions on forests answer. -/
import Derived.Test.YtannjgdginfgeaaZM
import Derived.Test.YtannjgdginfgeaaZT
import Derived.Test.YtannjgdginfgeaaP1
import Derived.Test.YtannjgdginfgeaaFacts
import Derived.BigQuiet
namespace Go.Proofs.Ytannjgdginfgeaa
open Go.RowKit

section
variable {o : Bool} {l u : Nat} (p : Nat) (an : Option Addr) (nn cn : Nat) (ab : Option Addr) (nb cb : Nat) (K : Nat → KS) (f : Fo) (w : World) (h : FoAt w o l u an nn cn ab nb cb K f) (hp0 : w.cell? ⟨p, 0, none⟩ = some (.slice an nn cn)) (hp1 : w.cell? ⟨p, 1, none⟩ = some (.slice ab nb cb)) (hn : nn ≤ 2097152) (hb : nb ≤ 2097152)
include h hp0 hp1 hn hb

end

end Go.Proofs.Ytannjgdginfgeaa

/- Chapter 4: what the model asks of a node, and how often a place is named. -/
namespace Go.Proofs.Ytannjgdginfgeaa
open Go.RowKit

section
variable {o : Bool} {l u : Nat} (p : Nat) (an : Option Addr) (nn cn : Nat) (ab : Option Addr) (nb cb : Nat) (K : Nat → KS) (f : Fo) (w : World) (h : FoAt w o l u an nn cn ab nb cb K f) (hp0 : w.cell? ⟨p, 0, none⟩ = some (.slice an nn cn)) (hp1 : w.cell? ⟨p, 1, none⟩ = some (.slice ab nb cb)) (hn : nn ≤ 2097152) (hb : nb ≤ 2097152)
include h hp0 hp1 hn hb

end

end Go.Proofs.Ytannjgdginfgeaa

/- Chapter 4: how often nodes name a place: what the model counts. -/
namespace Go.Proofs.Ytannjgdginfgeaa
open Go.RowKit

section
variable {o : Bool} {l u : Nat} (p : Nat) (an : Option Addr) (nn cn : Nat) (ab : Option Addr) (nb cb : Nat) (K : Nat → KS) (f : Fo) (w : World) (h : FoAt w o l u an nn cn ab nb cb K f) (hp0 : w.cell? ⟨p, 0, none⟩ = some (.slice an nn cn)) (hn : nn ≤ 60)
include h hp0 hn

end

end Go.Proofs.Ytannjgdginfgeaa

/- Chapter 4: the model's fault of a forest. -/
namespace Go.Proofs.Ytannjgdginfgeaa
open Go.RowKit

section
variable {o : Bool} {l u : Nat} (p : Nat) (an : Option Addr) (nn cn : Nat) (ab : Option Addr) (nb cb : Nat) (K : Nat → KS) (f : Fo) (w : World) (h : FoAt w o l u an nn cn ab nb cb K f) (hp0 : w.cell? ⟨p, 0, none⟩ = some (.slice an nn cn)) (hp1 : w.cell? ⟨p, 1, none⟩ = some (.slice ab nb cb)) (hn : nn ≤ 2097152) (hb : nb ≤ 2097152) (hK : ∀ i, i < nn → (K i).2.1 ≤ 2097152)
include h hp0 hp1 hn hb hK

end

end Go.Proofs.Ytannjgdginfgeaa

/- Chapter 4: what the model looks up in a tree. -/
namespace Go.Proofs.Ytannjgdginfgeaa
open Go.RowKit

theorem l4Place_is (x : Int) (w : World) (d : Bool) (h : spotB x = d) : Calls Try.prog 131 #[.int .i64 x] w fun e w' => e = .returned (.bool d) ∧ w' = w := by
  have H : Hid (decide (0 ≤ x ∧ x ≤ 15) = d) := h
  clear h
  go_enter Try.func131, Try.ntmps131
  go_wp2_with fail
  refine (l1In_bool x 0 15 _ d H.out).mono ?_
  rintro e w1 ⟨rfl, rfl⟩
  go_wp2
  go_ret
  exact ⟨rfl, rfl⟩

section
variable {o : Bool} {l u : Nat} (p : Nat) (an : Option Addr) (nn cn : Nat) (ab : Option Addr) (nb cb : Nat) (K : Nat → KS) (f : Fo) (w : World) (h : FoAt w o l u an nn cn ab nb cb K f) (hp0 : w.cell? ⟨p, 0, none⟩ = some (.slice an nn cn)) (hn : nn ≤ 2097152)
include h hp0 hn

end

section
variable {o : Bool} {l u : Nat} (p : Nat) (an : Option Addr) (nn cn : Nat) (ab : Option Addr) (nb cb : Nat) (K : Nat → KS) (f : Fo) (w : World) (h : FoAt w o l u an nn cn ab nb cb K f) (hp0 : w.cell? ⟨p, 0, none⟩ = some (.slice an nn cn)) (hp1 : w.cell? ⟨p, 1, none⟩ = some (.slice ab nb cb)) (hn : nn ≤ 2097152) (hb : nb ≤ 2097152) (hK : ∀ i, i < nn → (K i).2.1 ≤ 2097152)
include h hp0 hp1 hn hb hK

end

end Go.Proofs.Ytannjgdginfgeaa

/- Chapter 4: what the model answers of a tree: its fault, what is looked up, what it has. -/
namespace Go.Proofs.Ytannjgdginfgeaa
open Go.RowKit

section
variable {o : Bool} {l u : Nat} (an : Option Addr) (nn cn : Nat) (ab : Option Addr) (nb cb : Nat) (K : Nat → KS) (f : Fo) (w : World) (h : FoAt w o l u an nn cn ab nb cb K f) (hn : nn ≤ 2097152) (hb : nb ≤ 2097152) (hK : ∀ i, i < nn → (K i).2.1 ≤ 2097152)
include h hn hb hK

end

end Go.Proofs.Ytannjgdginfgeaa

/- Chapter 4: what the model tells of a tree's places; new forests. -/
namespace Go.Proofs.Ytannjgdginfgeaa
open Go.RowKit

section
variable {o : Bool} {l u : Nat} (p : Nat) (an : Option Addr) (nn cn : Nat) (ab : Option Addr) (nb cb : Nat) (K : Nat → KS) (f : Fo) (w : World) (h : FoAt w o l u an nn cn ab nb cb K f) (hp0 : w.cell? ⟨p, 0, none⟩ = some (.slice an nn cn)) (hp1 : w.cell? ⟨p, 1, none⟩ = some (.slice ab nb cb)) (hn : nn ≤ 2097152)
include h hp0 hp1 hn

end

end Go.Proofs.Ytannjgdginfgeaa

/- Chapter 4: what the model answers: walks, new forests. -/
namespace Go.Proofs.Ytannjgdginfgeaa
open Go.RowKit

theorem FoAt.nil (w : World) (own : Bool) (lo hi : Nat) : FoAt w own lo hi none 0 0 none 0 0 (fun _ => (none, 0, 0)) ([], []) :=
  ⟨⟨rfl, RowAt.nil _ _ _ _ _, fun i hi => absurd hi (by omega), fun _ i hi => absurd hi (by omega)⟩, RowAt.nil _ _ _ _ _, fun _ h => absurd rfl h⟩
section
variable {o : Bool} {l u : Nat} (an : Option Addr) (nn cn : Nat) (ab : Option Addr) (nb cb : Nat) (K : Nat → KS) (f : Fo) (w : World) (h : FoAt w o l u an nn cn ab nb cb K f) (hn : nn ≤ 2097152) (hb : nb ≤ 2097152) (hK : ∀ i, i < nn → (K i).2.1 ≤ 2097152)
include h hn hb hK

end

end Go.Proofs.Ytannjgdginfgeaa
