/- What 'append' onto a slice that has no room leaves, whatever the source; and what the model's copy of a disk answers. -/
import Derived.Test.YtannjgdginfgeaaZA
import Derived.Deep.MidRow
import Derived.Deep.RegionHeld3
import Derived.Deep.WholeRow
import Derived.Deep.AppendSrc
import Derived.Maps.AppendAt
namespace Go.Proofs.Ytannjgdginfgeaa
open Go.RowKit

theorem Kept.frozen {lo hi : Nat} {w w' : World} (h : Kept lo hi w w') {b o : Nat} (hl : b < w.heap.size) (hb : b < lo ∨ hi ≤ b) (hf : w.frozen? ⟨b, o, none⟩ = false) : w'.frozen? ⟨b, o, none⟩ = false := by
  simp only [World.frozen?, h.block b hl hb] at hf ⊢
  exact hf
/-- A slice that may be appended to: it has no room and nothing in it, or its row is the call's own, in a block below hi. -/
def Fresh (w : World) (lo hi : Nat) (e : TypeId) (size : Nat) (v : Value) (n : Nat) (cs : List Value) : Prop :=
  (n = 0 ∧ cs = [] ∧ ∃ g, v = .slice (some ⟨g, 0, none⟩) 0 0) ∨ (w.ownsRow lo e size v n cs ∧ ∀ k, v.ownBlock = some k → k < hi)
theorem owns_kept {w w' : World} {base : Nat} {e : TypeId} {size : Nat} {v : Value} {n : Nat} {xs : List Value} (h : w.ownsRow base e size v n xs) {l u : Nat} (hk : Kept l u w w') (hd : ∀ k, v.ownBlock = some k → k < l ∨ u ≤ k) : w'.ownsRow base e size v n xs := by
  refine ⟨h.1, ?_⟩
  rcases h.2 with h2 | ⟨g, cap, cur, rfl, hg, hh, r⟩
  · exact Or.inl h2
  · exact Or.inr ⟨g, cap, cur, rfl, hg, by rw [hk.block g (Array.getElem?_eq_some_iff.1 hh).1 (hd g rfl)]; exact hh, r⟩
theorem Fresh.kept {w w' : World} {lo hi : Nat} {e : TypeId} {size : Nat} {v : Value} {n : Nat} {cs : List Value} (h : Fresh w lo hi e size v n cs) {l u : Nat} (hk : Kept l u w w') (hd : hi ≤ l ∨ u ≤ lo) : Fresh w' lo hi e size v n cs := by
  rcases h with h | ⟨h, h2⟩
  · exact Or.inl h
  · refine Or.inr ⟨owns_kept h hk fun k hv => ?_, h2⟩
    have := h2 k hv
    have := (h.lt k hv).1
    omega
theorem Fresh.widen {w : World} {lo lo' hi hi' : Nat} {e : TypeId} {size : Nat} {v : Value} {n : Nat} {cs : List Value} (h : Fresh w lo hi e size v n cs) (hl : lo' ≤ lo) (hh : hi ≤ hi') : Fresh w lo' hi' e size v n cs := by
  rcases h with h | ⟨⟨h1, h2⟩, h3⟩
  · exact Or.inl h
  · refine Or.inr ⟨⟨h1, ?_⟩, fun k hk => Nat.lt_of_lt_of_le (h3 k hk) hh⟩
    rcases h2 with h2 | ⟨g, cap, cur, a, b, c⟩
    · exact Or.inl h2
    · exact Or.inr ⟨g, cap, cur, a, Nat.le_trans hl b, c⟩
theorem Fresh.below {w w' : World} {lo hi : Nat} {e : TypeId} {size : Nat} {v : Value} {n : Nat} {cs : List Value} (h : Fresh w lo hi e size v n cs) (hb : Below w.heap.size w w') : Fresh w' lo hi e size v n cs :=
  h.kept (l := hi) (u := hi) (Kept.of_below hb) (Or.inl (Nat.le_refl _))

end Go.Proofs.Ytannjgdginfgeaa
