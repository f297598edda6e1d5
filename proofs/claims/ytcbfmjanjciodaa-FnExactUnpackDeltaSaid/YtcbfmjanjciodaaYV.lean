/- Maps by volume and place: what is in them, by a function. -/
import Derived.Test.YtcbfmjanjciodaaEX
import Derived.Test.YtcbfmjanjciodaaZR
import Derived.Test.YtcbfmjanjciodaaYE
import Derived.Test.YtcbfmjanjciodaaPPl
import Derived.Maps.Own
import Derived.Maps.OwnOps
import Derived.Maps.OwnSet
import Derived.Maps.Views
import Derived.DeepKeys4
import Derived.Test.YtcbfmjanjciodaaYL
import Derived.Test.YtcbfmjanjciodaaZW
namespace Go.Proofs.Ytcbfmjanjciodaa
open Go.RowKit Go.Maps

abbrev Tab := Int → Int → Option Int
def I64 (x : Int) : Prop := (Lit.int .i64 x).wf = true
def spotLit (x y : Int) : Lit := .string (keyBytes [.int .i64 x, .int .i64 y])
/-- a map's block and what is in it -/
structure TabAt (w : World) (b n : Nat) (T : Tab) : Prop where
  ok : ∃ D : DataW Unit, w.ownsMap Try.prog 134 (plainElem Try.prog 2) b n D ∧ ∀ x y, I64 x → I64 y → Maps.has D (spotLit x y) = (T x y).isSome ∧ D.atKey (spotLit x y) (.lit (.int .i64 0)) = .lit (.int .i64 ((T x y).getD 0))
theorem TabAt.lt {w : World} {b n : Nat} {T : Tab} (h : TabAt w b n T) : b < w.heap.size := by
  obtain ⟨D, ⟨es, clock, hb, _⟩, _⟩ := h.ok
  rcases Nat.lt_or_ge b w.heap.size with x | x
  · exact x
  · rw [Array.getElem?_eq_none x] at hb; cases hb
theorem TabAt.block {w w' : World} {b n : Nat} {T : Tab} (h : TabAt w b n T) (hb : w'.heap[b]? = w.heap[b]?) : TabAt w' b n T := by
  obtain ⟨D, ⟨es, clock, h1, h2⟩, h3⟩ := h.ok
  exact ⟨⟨D, ⟨es, clock, by rw [hb]; exact h1, h2⟩, h3⟩⟩
theorem TabAt.below {w w' : World} {b n : Nat} {T : Tab} (h : TabAt w b n T) (B : Below w.heap.size w w') : TabAt w' b n T := h.block (B.block b h.lt)
theorem TabAt.kept {w w' : World} {b n : Nat} {T : Tab} (h : TabAt w b n T) {l u : Nat} (K : Kept l u w w') (hd : b < l ∨ u ≤ b) : TabAt w' b n T := h.block (K.block b h.lt hd)
end Go.Proofs.Ytcbfmjanjciodaa

/- Chapter 6: the cells of a plain pool as a map, by the program. -/
namespace Go.Proofs.Ytcbfmjanjciodaa
open Go.RowKit Go.Maps

theorem RowAt.belowIn {w w' : World} {own : Bool} {lo hi size : Nat} {ao : Option Addr} {n cap : Nat} {cs : List Value} (h : RowAt w own lo hi size ao n cap cs) {B : Nat} (hb : Below B w w') (hB : hi ≤ B) : RowAt w' own lo hi size ao n cap cs := by
  refine ⟨h.len, h.le, fun hn => ?_⟩
  obtain ⟨b, off, rfl, h1, h2, h3, h4, h5⟩ := h.cells hn
  exact ⟨b, off, rfl, h1, h2, Nat.lt_of_lt_of_le h3 hb.size, fun i hi' => (hb.cell (p := ⟨b, off + i, none⟩) (Nat.lt_of_lt_of_le h2 hB)).trans (h4 i hi'), fun ho i hi' => (hb.frozen (p := ⟨b, off + i, none⟩) (Nat.lt_of_lt_of_le h2 hB)).trans (h5 ho i hi')⟩
end Go.Proofs.Ytcbfmjanjciodaa
