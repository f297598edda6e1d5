/- Chapter 11: a cluster that is about to change, in memory. No program is named here. -/
import Derived.Test.YtannjgdginfgeaaCU0
import Derived.Test.YtannjgdginfgeaaZC
namespace Go.Proofs.Ytannjgdginfgeaa
open Go.RowKit

theorem GrowL.keptS {α : Type} {k : Kd α} {w w' : World} {base : Nat} {T : TypeId} {v : Value} {n : Nat} {xs : List α} (K : KdOk k) (h : GrowL k w base T v n xs) {S : Nat → Prop} (hk : KeptS S w w') (h1 : ∀ q, v.ownBlock = some q → ¬ S q) (h2 : ∀ (i : Nat) (a : α), xs[i]? = some a → Sep (k.inn a) S) : GrowL k w' base T v n xs := by
  refine ⟨h.len, ⟨h.own.1, ?_⟩, fun i a e => K.widen (K.keptS (h.each i a e) hk (h2 i a e)) (Nat.le_refl _) hk.size, h.far, h.sep⟩
  rcases h.own.2 with q | ⟨g, cap, cur, hv, hg, hh, rest⟩
  · exact .inl q
  · have hlt : g < w.heap.size := by
      rcases Nat.lt_or_ge g w.heap.size with q | q
      · exact q
      · rw [Array.getElem?_eq_none q] at hh; cases hh
    exact .inr ⟨g, cap, cur, hv, hg, by rw [hk.block g hlt (h1 g (by rw [hv]; rfl))]; exact hh, rest⟩
/-- the blocks of mails that may grow -/
def inV (M : Hd) (ys : List Mal) (q : Nat) : Prop := (hv M).ownBlock = some q ∨ ∃ (i : Nat) (a : Mal), ys[i]? = some a ∧ mailK.inn a q
/-- mails that may grow, in the blocks z .. u -/
structure MGr (W : World) (T : TypeId) (z u : Nat) (M : Hd) (ys : List Mal) : Prop where
  gr : GrowL mailK W z T (hv M) M.2.1 ys
  lt : ∀ q, inV M ys q → q < u
section
variable {w w' : World} {T : TypeId} {z u : Nat} {M : Hd} {ys : List Mal}
theorem MGr.inB (x : MGr w T z u M ys) {q : Nat} (hq : inV M ys q) : z ≤ q ∧ q < u ∧ q < w.heap.size := by
  have h1 := x.lt q hq
  rcases hq with h | ⟨i, a, e, h⟩
  · have := x.gr.own.lt q h; exact ⟨this.1, h1, this.2⟩
  · have := mailOk.inB (x.gr.each i a e) h; exact ⟨this.1, h1, this.2.2⟩
theorem MGr.below (x : MGr w T z u M ys) (hb : Below w.heap.size w w') : MGr w' T z u M ys := ⟨x.gr.below mailOk hb, x.lt⟩
theorem MGr.keptS (x : MGr w T z u M ys) {S : Nat → Prop} (hk : KeptS S w w') (hd : Sep (inV M ys) S) : MGr w' T z u M ys :=
  ⟨x.gr.keptS mailOk hk (fun q hq => hd q (Or.inl hq)) (fun i a e q hq => hd q (Or.inr ⟨i, a, e, hq⟩)), x.lt⟩
theorem MGr.kept (x : MGr w T z u M ys) {l r : Nat} (hk : Kept l r w w') (hd : u ≤ l ∨ r ≤ z) : MGr w' T z u M ys :=
  x.keptS (S := fun q => l ≤ q ∧ q < r) (hk.toS fun k h1 h2 => ⟨h1, h2⟩) fun q hq hs => by have := x.inB hq; omega
theorem MGr.mono (x : MGr w T z u M ys) {u' : Nat} (h : u ≤ u') : MGr w T z u' M ys := ⟨x.gr, fun q hq => Nat.lt_of_lt_of_le (x.lt q hq) h⟩
end
/-- a cluster that is about to change: its lists are its own, pairwise apart -/
structure LiveAt (W : World) (T : TypeId) (base b : Nat) (N M S : Hd) (xs : List Nod) (ys : List Mal) (es : List En) : Prop where
  bx : Bx W b [.slice N.1 N.2.1 N.2.2, .slice M.1 M.2.1 M.2.2, .slice S.1 S.2.1 S.2.2]
  bb : base ≤ b
  nodes : NAt W true base W.heap.size N xs
  mails : MGr W T base W.heap.size M ys
  slog : RowAt W true base W.heap.size 6 S.1 S.2.1 S.2.2 (sixs es)
  sNM : Sep (inL nodeK N.1 N.2.1 xs) (inV M ys)
  sNS : Sep (inL nodeK N.1 N.2.1 xs) (hR S)
  sMS : Sep (inV M ys) (hR S)
  bN : ¬ inL nodeK N.1 N.2.1 xs b
  bM : ¬ inV M ys b
  bS : ¬ hR S b
  sz : ClSz N M S xs ys 1048576
theorem LiveAt.below {W W' : World} {T : TypeId} {base b : Nat} {N M S : Hd} {xs : List Nod} {ys : List Mal} {es : List En} (x : LiveAt W T base b N M S xs ys es) (hb : Below W.heap.size W W') : LiveAt W' T base b N M S xs ys es :=
  ⟨x.bx.below hb, x.bb, (x.nodes.below hb).widen (Nat.le_refl _) hb.size, (x.mails.below hb).mono hb.size, (x.slog.below hb).widen (Nat.le_refl _) hb.size, x.sNM, x.sNS, x.sMS, x.bN, x.bM, x.bS, x.sz⟩
/-- the lists of a live cluster are a cluster -/
theorem MGr.at {w : World} {T : TypeId} {z u : Nat} {M : Hd} {ys : List Mal} (x : MGr w T z u M ys) : MAt w true z w.heap.size M ys := by
  obtain ⟨ao, cap, e, L⟩ := x.gr.els
  have e' : Value.slice M.1 M.2.1 M.2.2 = .slice ao M.2.1 cap := e
  simp only [Value.slice.injEq, true_and] at e'
  obtain ⟨e1, e2⟩ := e'
  show LAt mailK w true z w.heap.size M.1 M.2.1 M.2.2 ys
  rw [e1, e2]; exact L
end Go.Proofs.Ytannjgdginfgeaa
