/- Chapter 11: a cluster that is about to change, in memory. No program is named here. -/
import Derived.Test.YtkpiigoakjicdaaGreatQAN
import Derived.Test.YtkpiigoakjicdaaGreatQAK
set_option maxRecDepth 20000
set_option maxHeartbeats 16000000
namespace Go.Proofs.YtkpiigoakjicdaaGreat
open Go.RowKit
theorem GrowL.keptS {α : Type} {k : Kd α} {w w' : World} {base : Nat} {T : TypeId} {v : Value} {n : Nat} {xs : List α} (K : KdOk k) (h : GrowL k w base T v n xs) {S : Nat → Prop} (hk : KeptS S w w') (h1 : ∀ q, v.ownBlock = some q → ¬ S q) (h2 : ∀ (i : Nat) (a : α), xs[i]? = some a → Sep (k.inn a) S) : GrowL k w' base T v n xs := by
  refine ⟨h.len, ⟨h.own.1, ?_⟩, fun i a e => K.widen (K.keptS (h.each i a e) hk (h2 i a e)) (Nat.le_refl _) hk.size, h.far, h.sep⟩
  rcases h.own.2 with q | ⟨g, cap, cur, hv, hg, hh, rest⟩
  · exact .inl q
  · have hlt : g < w.heap.size := by
      rcases Nat.lt_or_ge g w.heap.size with q | q
      · exact q
      · rw [Array.getElem?_eq_none q] at hh; cases hh
    exact .inr ⟨g, cap, cur, hv, hg, by rw [hk.block g hlt (h1 g (by rw [hv]; rfl))]; exact hh, rest⟩
def inV (M : Hd) (ys : List Mal) (q : Nat) : Prop := (hv M).ownBlock = some q ∨ ∃ (i : Nat) (a : Mal), ys[i]? = some a ∧ mailK.inn a q
structure MGr (W : World) (T : TypeId) (z u : Nat) (M : Hd) (ys : List Mal) : Prop where
  gr : GrowL mailK W z T (hv M) M.2.1 ys
  lt : ∀ q, inV M ys q → q < u
section
variable {w w' : World} {T : TypeId} {z u : Nat} {M : Hd} {ys : List Mal}
theorem MGr.inB (x : MGr w T z u M ys) {q : Nat} (hq : inV M ys q) : z ≤ q ∧ q < u ∧ q < w.heap.size := by
  have h1 := x.lt q hq
  rcases hq with h | ⟨i, a, e, h⟩
  · have := x.gr.own.lt q h; exact ⟨this.1, h1, this.2⟩
  · have := mailOk.inB (x.gr.each i a e) h; exact ⟨this.1, h1, this.2.2⟩
theorem MGr.below (x : MGr w T z u M ys) (hb : Below w.heap.size w w') : MGr w' T z u M ys := ⟨x.gr.below mailOk hb, x.lt⟩
theorem MGr.keptS (x : MGr w T z u M ys) {S : Nat → Prop} (hk : KeptS S w w') (hd : Sep (inV M ys) S) : MGr w' T z u M ys :=
  ⟨x.gr.keptS mailOk hk (fun q hq => hd q (Or.inl hq)) (fun i a e q hq => hd q (Or.inr ⟨i, a, e, hq⟩)), x.lt⟩
theorem MGr.kept (x : MGr w T z u M ys) {l r : Nat} (hk : Kept l r w w') (hd : u ≤ l ∨ r ≤ z) : MGr w' T z u M ys :=
  x.keptS (S := fun q => l ≤ q ∧ q < r) (hk.toS fun k h1 h2 => ⟨h1, h2⟩) fun q hq hs => by have := x.inB hq; omega
theorem MGr.mono (x : MGr w T z u M ys) {u' : Nat} (h : u ≤ u') : MGr w T z u' M ys := ⟨x.gr, fun q hq => Nat.lt_of_lt_of_le (x.lt q hq) h⟩
end
theorem mono_own {w : World} {base base' : Nat} {e : TypeId} {size : Nat} {v : Value} {n : Nat} {xs : List Value} (h : w.ownsRow base e size v n xs) (hb : base' ≤ base) : w.ownsRow base' e size v n xs := by
  refine ⟨h.1, ?_⟩
  rcases h.2 with q | ⟨g, cap, cur, hv, hg, rest⟩
  · exact .inl q
  · exact .inr ⟨g, cap, cur, hv, Nat.le_trans hb hg, rest⟩
theorem GrowL.lower {α : Type} {k : Kd α} (K : KdOk k) {w : World} {base base' : Nat} {T : TypeId} {v : Value} {n : Nat} {xs : List α} (h : GrowL k w base T v n xs) (hb : base' ≤ base) : GrowL k w base' T v n xs :=
  ⟨h.len, mono_own h.own hb, fun i a e => K.widen (h.each i a e) hb (Nat.le_refl _), h.far, h.sep⟩
structure LiveAt (W : World) (T : TypeId) (base b : Nat) (N M S : Hd) (xs : List Nod) (ys : List Mal) (es : List En) : Prop where
  bx : Bx W b [.slice N.1 N.2.1 N.2.2, .slice M.1 M.2.1 M.2.2, .slice S.1 S.2.1 S.2.2]
  bb : base ≤ b
  nodes : NAt W true base W.heap.size N xs
  mails : MGr W T base W.heap.size M ys
  slog : RowAt W true base W.heap.size 6 S.1 S.2.1 S.2.2 (sixs es)
  sNM : Sep (inL nodeK N.1 N.2.1 xs) (inV M ys)
  sNS : Sep (inL nodeK N.1 N.2.1 xs) (hR S)
  sMS : Sep (inV M ys) (hR S)
  bN : ¬ inL nodeK N.1 N.2.1 xs b
  bM : ¬ inV M ys b
  bS : ¬ hR S b
  sz : ClSz N M S xs ys 1048576
theorem LiveAt.below {W W' : World} {T : TypeId} {base b : Nat} {N M S : Hd} {xs : List Nod} {ys : List Mal} {es : List En} (x : LiveAt W T base b N M S xs ys es) (hb : Below W.heap.size W W') : LiveAt W' T base b N M S xs ys es :=
  ⟨x.bx.below hb, x.bb, (x.nodes.below hb).widen (Nat.le_refl _) hb.size, (x.mails.below hb).mono hb.size, (x.slog.below hb).widen (Nat.le_refl _) hb.size, x.sNM, x.sNS, x.sMS, x.bN, x.bM, x.bS, x.sz⟩
theorem liveAt_of {W : World} {T : TypeId} {base b z1 u1 z2 u2 z3 u3 : Nat} {N M S : Hd} {xs : List Nod} {ys : List Mal} {es : List En} (X : Bx W b [.slice N.1 N.2.1 N.2.2, .slice M.1 M.2.1 M.2.2, .slice S.1 S.2.1 S.2.2]) (hb : base ≤ b) (n : NAt W true z1 u1 N xs) (m : MGr W T z2 u2 M ys) (s : RowAt W true z3 u3 6 S.1 S.2.1 S.2.2 (sixs es)) (h1 : base ≤ z1) (h2 : base ≤ z2) (h3 : base ≤ z3) (g1 : u1 ≤ W.heap.size) (g3 : u3 ≤ W.heap.size) (a1 : u1 ≤ z2) (a2 : u1 ≤ z3) (a3 : u2 ≤ z3) (k1 : u1 ≤ b) (k2 : u2 ≤ b) (k3 : u3 ≤ b) (sz : ClSz N M S xs ys 1048576) : LiveAt W T base b N M S xs ys es := by
  refine ⟨X, hb, n.widen h1 g1, ⟨m.gr.lower mailOk h2, fun q hq => (m.inB hq).2.2⟩, s.widen h3 g3, fun q a b' => ?_, fun q a b' => ?_, fun q a b' => ?_, fun a => ?_, fun a => ?_, fun a => ?_, sz⟩
  · have := n.inB a; have := m.inB b'; omega
  · have := n.inB a; have := s.inB b'; omega
  · have := m.inB a; have := s.inB b'; omega
  · have := n.inB a; omega
  · have := m.inB a; omega
  · have := s.inB a; omega
theorem MGr.at {w : World} {T : TypeId} {z u : Nat} {M : Hd} {ys : List Mal} (x : MGr w T z u M ys) : MAt w true z w.heap.size M ys := by
  obtain ⟨ao, cap, e, L⟩ := x.gr.els
  have e' : Value.slice M.1 M.2.1 M.2.2 = .slice ao M.2.1 cap := e
  simp only [Value.slice.injEq, true_and] at e'
  obtain ⟨e1, e2⟩ := e'
  show LAt mailK w true z w.heap.size M.1 M.2.1 M.2.2 ys
  rw [e1, e2]; exact L
theorem inL_inV {M : Hd} {ys : List Mal} {w : World} {T : TypeId} {z u : Nat} (x : MGr w T z u M ys) {q : Nat} (h : inL mailK M.1 M.2.1 ys q) : inV M ys q := by
  rcases h with ⟨h0, rfl⟩ | h
  · obtain ⟨ao, cap, e, _, hb⟩ := owns_slice x.gr.own
    have e' : Value.slice M.1 M.2.1 M.2.2 = .slice ao M.2.1 cap := e
    simp only [Value.slice.injEq, true_and] at e'
    refine Or.inl ?_
    rw [hb h0, e'.1]
  · exact Or.inr h
theorem LiveAt.clu {W : World} {T : TypeId} {base b : Nat} {N M S : Hd} {xs : List Nod} {ys : List Mal} {es : List En} (x : LiveAt W T base b N M S xs ys es) : ClAt W true base W.heap.size N M S xs ys es :=
  ⟨x.nodes, x.mails.at, x.slog, fun _ => ⟨fun q a c => x.sNM q a (inL_inV x.mails c), x.sNS, fun q a c => x.sMS q (inL_inV x.mails a) c⟩⟩
end Go.Proofs.YtkpiigoakjicdaaGreat
