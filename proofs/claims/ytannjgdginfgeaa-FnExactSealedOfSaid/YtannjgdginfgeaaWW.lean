/- Chapter 9: a MailPrepare is sent, by the program. -/
import Derived.Test.YtannjgdginfgeaaWS
import Derived.Deep.DeepCutAuto
import Derived.Deep.RegionLaw
import Derived.OwnWalk
import Derived.Test.YtannjgdginfgeaaWK
namespace Go.Proofs.Ytannjgdginfgeaa
open Go.RowKit

def prepM (r : Rep) (k : Nat) : Ml := if k < r.log.length then ⟨1, 0, 0, 0, k, true, r.log.getD k en0, 0, [], r.commit⟩ else ⟨1, 0, 0, 0, k, false, en0, 0, [], r.commit⟩
end Go.Proofs.Ytannjgdginfgeaa

/- Chapter 9: what is agreed is noted, by the program. -/
namespace Go.Proofs.Ytannjgdginfgeaa
open Go.RowKit

def agrM (r : Rep) : Int := if agrR r ≤ r.commit then r.commit else agrR r
def agrC (r : Rep) : Rep := ⟨r.id, r.size, r.view, r.normal, r.last, r.log, agrM r, r.oks, r.asks, r.doers⟩
end Go.Proofs.Ytannjgdginfgeaa

/- Chapter 9: a replica copied by the program: its log may grow. -/
namespace Go.Proofs.Ytannjgdginfgeaa
open Go.RowKit

/-- a log that may grow: its row is the call's own, in the blocks z .. ue -/
structure OwnE (w : World) (z ue : Nat) (v : Value) (n : Nat) (xs : List En) : Prop where
  own : w.ownsRow z 73 6 v n (sixs xs)
  lt : ∀ g, v.ownBlock = some g → g < ue
theorem OwnE.below {w w' : World} {z ue : Nat} {v : Value} {n : Nat} {xs : List En} (h : OwnE w z ue v n xs) (hb : Below w.heap.size w w') : OwnE w' z ue v n xs := ⟨owns_below h.own hb, h.lt⟩
theorem OwnE.kept {w w' : World} {z ue : Nat} {v : Value} {n : Nat} {xs : List En} (h : OwnE w z ue v n xs) {l u : Nat} (hk : Kept l u w w') (hd : ue ≤ l ∨ u ≤ z) : OwnE w' z ue v n xs := by
  refine ⟨⟨h.own.1, ?_⟩, h.lt⟩
  rcases h.own.2 with q | ⟨g, cap, cur, hv, hg, hh, rest⟩
  · exact .inl q
  · have hlt : g < w.heap.size := by
      rcases Nat.lt_or_ge g w.heap.size with q | q
      · exact q
      · rw [Array.getElem?_eq_none q] at hh; cases hh
    have h2 := h.lt g (by rw [hv]; rfl)
    exact .inr ⟨g, cap, cur, hv, hg, by rw [hk.block g hlt (by omega)]; exact hh, rest⟩
theorem OwnE.row {w : World} {z ue : Nat} {ra : Option Addr} {n rc : Nat} {xs : List En} (h : OwnE w z ue (.slice ra n rc) n xs) : RowAt w true z ue 6 ra n rc (sixs xs) := by
  obtain ⟨ao, cap, e, R, hb⟩ := owns_slice h.own
  simp only [Value.slice.injEq] at e
  obtain ⟨rfl, -, rfl⟩ := e
  refine ⟨R.len, R.le, fun hn => ?_⟩
  obtain ⟨b, off, e, h1, _, h3, h4⟩ := R.cells hn
  have := h.lt b (by rw [hb hn, e]; rfl)
  exact ⟨b, off, e, h1, this, h3, h4⟩
end Go.Proofs.Ytannjgdginfgeaa

/- Chapter 9: an entry is taken: the log grows. -/
namespace Go.Proofs.Ytannjgdginfgeaa
open Go.RowKit

def tookR (r : Rep) (en : En) : Rep := ⟨r.id, r.size, r.view, r.normal, r.last, r.log ++ [en], r.commit, r.oks, r.asks, r.doers⟩
end Go.Proofs.Ytannjgdginfgeaa

/- Chapter 9: an entry is taken and told to all others. -/
namespace Go.Proofs.Ytannjgdginfgeaa
open Go.RowKit

def takeQ (r : Rep) (en : En) : Rep := agrC (tookR r en)
def takeM (r : Rep) (en : En) : List Ml := (othL r.id.toNat r.size.toNat).map fun t => putM (prepM (takeQ r en) r.log.length) r.id t r.view
end Go.Proofs.Ytannjgdginfgeaa
