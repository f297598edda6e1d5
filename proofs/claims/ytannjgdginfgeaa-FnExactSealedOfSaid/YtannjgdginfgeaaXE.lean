/- Chapter 2, plain facts: sums, records, the scan of a journal, what an append puts, what a crash leaves. No program is named here. -/
import Derived.Test.YtannjgdginfgeaaZA
import Derived.Deep.MidRow
import Derived.Deep.RegionHeld3
import Derived.Deep.WholeRow
import Derived.Test.YtannjgdginfgeaaBools
import Derived.Test.YtannjgdginfgeaaFacts
import Derived.Test.YtannjgdginfgeaaPutS
import Derived.Maps.AppendAt
namespace Go.Proofs.Ytannjgdginfgeaa

def sumStep (h x : Int) : Int := (h * 263 + x % 65521 + 1) % 65521
def sumOf (xs : List Int) : Int := xs.foldl sumStep 9
/-- the words of records that are numbered from k on -/
def lay : Nat → List (List Int) → List Int
  | _, [] => []
  | k, r :: rs => (r.length : Int) :: sumOf ((k : Int) :: r) :: (r ++ lay (k + 1) rs)
def okRec (r : List Int) : Prop := 1 ≤ r.length ∧ r.length ≤ 8

/-- how far a scan has come -/
def Scanned (ws : List Int) (a : Nat) (out : List (List Int)) : Prop := ws.take a = lay 0 out ∧ a ≤ ws.length ∧ ∀ r ∈ out, okRec r
theorem Scanned.zero (ws : List Int) : Scanned ws 0 [] := ⟨rfl, Nat.zero_le _, fun _ h => by cases h⟩
theorem Scanned.len {ws : List Int} {a : Nat} {out : List (List Int)} (h : Scanned ws a out) : (lay 0 out).length = a := by rw [← h.1, List.length_take]; have := h.2.1; omega
end Go.Proofs.Ytannjgdginfgeaa

/- Chapter 2, plain facts: what an append puts, that a scan then tells it, and that a crash leaves what was committed. No program is named here. -/
namespace Go.Proofs.Ytannjgdginfgeaa

end Go.Proofs.Ytannjgdginfgeaa

/- Chapter 2: sums and records: what the model's functions answer. -/
namespace Go.Proofs.Ytannjgdginfgeaa
open Go.RowKit

end Go.Proofs.Ytannjgdginfgeaa

/- Chapter 2: what the model's scan of a journal answers. -/
namespace Go.Proofs.Ytannjgdginfgeaa
open Go.RowKit

/-- records that lie in memory: their slices are the cells vs -/
structure RecsAt (w : World) (lo : Nat) (vs : List Value) (rs : List (List Int)) : Prop where
  len : vs.length = rs.length
  each : ∀ i, i < rs.length → ∃ (a : Option Addr) (n c l u : Nat), vs.getD i default = .slice a n c ∧ lo ≤ l ∧ u ≤ w.heap.size ∧ RowAt w true l u 1 a n c (ints (rs.getD i []))
theorem RecsAt.kept {w w' : World} {lo : Nat} {vs : List Value} {rs : List (List Int)} (h : RecsAt w lo vs rs) {x y : Nat} (hk : Kept x y w w') (hd : y ≤ lo ∨ w.heap.size ≤ x) : RecsAt w' lo vs rs := by
  refine ⟨h.len, fun i hi => ?_⟩
  obtain ⟨a, n, c, l, u, h1, h0, h2, h3⟩ := h.each i hi
  exact ⟨a, n, c, l, u, h1, h0, Nat.le_trans h2 hk.size, h3.kept hk (by omega)⟩
theorem RecsAt.below {w w' : World} {lo : Nat} {vs : List Value} {rs : List (List Int)} (h : RecsAt w lo vs rs) (hb : Below w.heap.size w w') : RecsAt w' lo vs rs :=
  h.kept (x := w.heap.size) (y := w.heap.size) (Kept.of_below hb) (Or.inr (Nat.le_refl _))
theorem RecsAt.widen {w : World} {lo lo' : Nat} {vs : List Value} {rs : List (List Int)} (h : RecsAt w lo vs rs) (hl : lo' ≤ lo) : RecsAt w lo' vs rs := by
  refine ⟨h.len, fun i hi => ?_⟩
  obtain ⟨a, n, c, l, u, h1, h0, h2, h3⟩ := h.each i hi
  exact ⟨a, n, c, l, u, h1, Nat.le_trans hl h0, h2, h3⟩
theorem RecsAt.nil (w : World) (lo : Nat) : RecsAt w lo [] [] := ⟨rfl, fun _ h => absurd h (by simp)⟩
/-- .. while they are gathered: none of them lies in the block b -/
structure RecsBut (w : World) (lo : Nat) (b : Option Nat) (vs : List Value) (rs : List (List Int)) : Prop where
  len : vs.length = rs.length
  each : ∀ i, i < rs.length → ∃ (g n c : Nat), vs.getD i default = .slice (some ⟨g, 0, none⟩) n c ∧ b ≠ some g ∧ lo ≤ g ∧ g < w.heap.size ∧ RowAt w true g (g + 1) 1 (some ⟨g, 0, none⟩) n c (ints (rs.getD i []))
theorem RecsBut.at {w : World} {lo : Nat} {b : Option Nat} {vs : List Value} {rs : List (List Int)} (h : RecsBut w lo b vs rs) : RecsAt w lo vs rs := by
  refine ⟨h.len, fun i hi => ?_⟩
  obtain ⟨g, n, c, h1, h2, h0, h3, h4⟩ := h.each i hi
  exact ⟨_, n, c, _, _, h1, h0, h3, h4⟩
theorem RecsBut.below {w w' : World} {lo : Nat} {b : Option Nat} {vs : List Value} {rs : List (List Int)} (h : RecsBut w lo b vs rs) (hb : Below w.heap.size w w') : RecsBut w' lo b vs rs := by
  refine ⟨h.len, fun i hi => ?_⟩
  obtain ⟨g, n, c, h1, h2, h0, h3, h4⟩ := h.each i hi
  exact ⟨g, n, c, h1, h2, h0, Nat.lt_of_lt_of_le h3 hb.size, h4.below hb⟩
theorem RecsBut.snoc {w : World} {lo : Nat} {b : Option Nat} {vs : List Value} {rs : List (List Int)} (h : RecsBut w lo b vs rs) {g n c : Nat} {r : List Int} (hb : b ≠ some g) (h0 : lo ≤ g) (hg : g < w.heap.size) (hr : RowAt w true g (g + 1) 1 (some ⟨g, 0, none⟩) n c (ints r)) : RecsBut w lo b (vs ++ [.slice (some ⟨g, 0, none⟩) n c]) (rs ++ [r]) := by
  refine ⟨by simp [h.len], fun i hi => ?_⟩
  by_cases hlt : i < rs.length
  · obtain ⟨g', n', c', h1, h2, h0, h3, h4⟩ := h.each i hlt
    refine ⟨g', n', c', ?_, h2, h0, h3, ?_⟩
    · rw [← h1]; simp [List.getD, List.getElem?_append_left, h.len, hlt]
    · rw [show (rs ++ [r]).getD i [] = rs.getD i [] by simp [List.getD, List.getElem?_append_left, hlt]]; exact h4
  · have e : i = rs.length := by simp at hi; omega
    subst e
    refine ⟨g, n, c, ?_, hb, h0, hg, ?_⟩
    · simp [List.getD, ← h.len]
    · simpa [List.getD] using hr
/-- the gathering slice has grown, in its own block b or into a new one -/
theorem RecsBut.grown {w w' : World} {lo : Nat} {b b' : Option Nat} {vs : List Value} {rs : List (List Int)} (h : RecsBut w lo b vs rs) (hg : w.grownBy w' b) (hb : b' = b ∨ b' = some w.heap.size) : RecsBut w' lo b' vs rs := by
  refine ⟨h.len, fun i hi => ?_⟩
  obtain ⟨g, n, c, h1, h2, h0, h3, h4⟩ := h.each i hi
  refine ⟨g, n, c, h1, ?_, h0, Nat.lt_of_lt_of_le h3 hg.size, ?_⟩
  · rcases hb with rfl | rfl
    · exact h2
    · intro e; injection e with e; omega
  · refine ⟨h4.len, h4.le, fun hn => ?_⟩
    obtain ⟨b1, off, e, g1, g2, g3, g4, g5⟩ := h4.cells hn
    have hbl : w'.heap[b1]? = w.heap[b1]? := hg.block b1 g3 (fun e' => h2 (by rw [← e']; congr 1; omega))
    refine ⟨b1, off, e, g1, g2, Nat.lt_of_lt_of_le g3 hg.size, fun i hi => ?_, fun ho i hi => ?_⟩
    · rw [World.cell?_of_block (w := w) (a := ⟨b1, off + i, none⟩) hbl]; exact g4 i hi
    · rw [World.frozen?_of_block (w := w) (a := ⟨b1, off + i, none⟩) hbl]; exact g5 ho i hi

end Go.Proofs.Ytannjgdginfgeaa

/- Chapter 2: sums and records: what the program's functions answer. -/
namespace Go.Proofs.Ytannjgdginfgeaa
open Go.RowKit

end Go.Proofs.Ytannjgdginfgeaa
