/- Chapter 11: lists that grow by append, whose elements have memory of their own; a new cluster. No program is named here. -/
import Derived.Test.YtannjgdginfgeaaCM0
import Derived.Test.YtannjgdginfgeaaWR
import Derived.Test.YtannjgdginfgeaaWF
namespace Go.Proofs.Ytannjgdginfgeaa
open Go.RowKit

/-- a list that grows: its row is the call's own, each element's memory lies in blocks of its own -/
structure GrowL {α : Type} (k : Kd α) (w : World) (base : Nat) (T : TypeId) (v : Value) (n : Nat) (xs : List α) : Prop where
  len : xs.length = n
  own : w.ownsRow base T k.sz v n (xs.flatMap k.cells)
  each : ∀ (i : Nat) (a : α), xs[i]? = some a → k.mem w true base w.heap.size a
  far : ∀ (i : Nat) (a : α), xs[i]? = some a → ∀ q, k.inn a q → v.ownBlock ≠ some q
  sep : ∀ (i j : Nat) (a b : α), xs[i]? = some a → xs[j]? = some b → i ≠ j → Sep (k.inn a) (k.inn b)
section
variable {α : Type} {k : Kd α} {w w' : World} {base : Nat} {T : TypeId} {v : Value} {n : Nat} {xs : List α}
theorem GrowL.nil (k : Kd α) (w : World) (base : Nat) (T : TypeId) : GrowL k w base T (.slice none 0 0) 0 [] :=
  ⟨rfl, World.ownsRow_nil _ _ _ _, fun i a e => by simp at e, fun i a e => by simp at e, fun i j a b e => by simp at e⟩
theorem GrowL.below (K : KdOk k) (h : GrowL k w base T v n xs) (hb : Below w.heap.size w w') : GrowL k w' base T v n xs :=
  ⟨h.len, owns_below h.own hb, fun i a e => K.widen (K.below (h.each i a e) hb) (Nat.le_refl _) hb.size, h.far, h.sep⟩
theorem GrowL.kept (K : KdOk k) (h : GrowL k w base T v n xs) {l u : Nat} (hk : Kept l u w w') (hd : u ≤ base) : GrowL k w' base T v n xs := by
  refine ⟨h.len, ?_, fun i a e => K.widen (K.kept (h.each i a e) hk (Or.inr hd)) (Nat.le_refl _) hk.size, h.far, h.sep⟩
  refine ⟨h.own.1, ?_⟩
  rcases h.own.2 with q | ⟨g, cap, cur, hv, hg, hh, rest⟩
  · exact .inl q
  · have hlt : g < w.heap.size := by
      rcases Nat.lt_or_ge g w.heap.size with q | q
      · exact q
      · rw [Array.getElem?_eq_none q] at hh; cases hh
    exact .inr ⟨g, cap, cur, hv, hg, by rw [hk.block g hlt (Or.inr (by omega))]; exact hh, rest⟩
theorem GrowL.els (h : GrowL k w base T v n xs) : ∃ ao cap, v = .slice ao n cap ∧ LAt k w true base w.heap.size ao n cap xs := by
  obtain ⟨ao, cap, e, R, hb⟩ := owns_slice h.own
  refine ⟨ao, cap, e, h.len, R, h.each, fun _ i a ea q hq e2 => ?_, fun _ => h.sep⟩
  have hn : n ≠ 0 := by
    have := (List.getElem?_eq_some_iff.1 ea).1
    have := h.len
    omega
  exact h.far i a ea q hq (by rw [hb hn, e2])
/-- one more element -/
theorem GrowL.snoc {P : Program} (K : KdOk k) (h : GrowL k w base T v n xs) (t : TypeId) (i0 : TypeInfo) (z : Value) (bytes : Nat) (ht : P.underlying t = some (.slice T)) (hi0 : P.info? T = some i0) (hz0 : i0.zero = some z) (hz1 : i0.size = k.sz) (hz2 : i0.bytes = bytes) (hzs : z.cells.size = k.sz) (hby : bytes ≤ 1000)
    {ow : Bool} {l u : Nat} (ad : Addr) (c : Nat) (a : α) (hrow : RowAt w ow l u k.sz (some ad) 1 c (k.cells a)) (h1 : ∀ u ∈ k.cells a, u.oneCell' = true) (hm : k.mem w true base w.heap.size a) (hfar : ∀ q, k.inn a q → v.ownBlock ≠ some q) (hsep : ∀ (i : Nat) (b : α), xs[i]? = some b → Sep (k.inn a) (k.inn b)) (hn : n + 1 ≤ 1000000) (hbase : base ≤ w.heap.size) :
    ∃ v' w', (∀ ty, (Builtin.append_ #[t, t] ty #[v, .slice (some ad) 1 c]).run P w = .ok v' w') ∧ GrowL k w' base T v' (n + 1) (xs ++ [a]) ∧ KeptS (fun q => v.ownBlock = some q) w w' ∧ Below base w w' := by
  have hsrc : ∀ j u, (k.cells a)[j]? = some u → w.cell? (ad.add j) = some u := fun j u hj => by
    have hjl : j < (k.cells a).length := (List.getElem?_eq_some_iff.1 hj).1
    have hl := hrow.len
    obtain ⟨b, off, e, _, _, _, hc, _⟩ := hrow.cells (by omega)
    have e2 : ad = ⟨b, off, none⟩ := Option.some.inj e
    rw [e2]
    have := hc j (by omega)
    rw [List.getD_eq_getElem?_getD, hj, Option.getD_some] at this
    rw [Addr.add_lit]; exact this
  have hby2 : (n + 1) * bytes ≤ 140737488355328 := Nat.le_trans (Nat.mul_le_mul hn hby) (by decide)
  have A := fun ty => run_append_own_at (P := P) w base t ty T i0 z k.sz bytes ht hi0 hz0 hz1 hz2 hzs K.pos v n _ h.own ad 1 c (k.cells a) hrow.len hsrc h1 (by unfold maxLen; omega) hby2 hbase
  obtain ⟨v', w', hr, ho, hg, _, hat⟩ := A T
  have hrun : ∀ ty, (Builtin.append_ #[t, t] ty #[v, .slice (some ad) 1 c]).run P w = .ok v' w' := fun ty => by
    have : ∀ ty, Builtin.append_ #[t, t] ty #[v, .slice (some ad) 1 c] = Builtin.append_ #[t, t] T #[v, .slice (some ad) 1 c] := fun _ => rfl
    rw [this]; exact hr
  have KS : KeptS (fun q => v.ownBlock = some q) w w' := ⟨hg.os, hg.tape, hg.output, hg.size, fun q hq hs => hg.block q hq (fun e => hs e.symm)⟩
  have get : ∀ (i : Nat) (c : α), (xs ++ [a])[i]? = some c → (i < n ∧ xs[i]? = some c) ∨ (i = n ∧ c = a) := fun i c e => by
    rcases Nat.lt_or_ge i xs.length with q | q
    · rw [List.getElem?_append_left q] at e
      exact Or.inl ⟨by rw [← h.len]; exact q, e⟩
    · rw [List.getElem?_append_right q] at e
      have hl : i - xs.length < 1 := by simpa using (List.getElem?_eq_some_iff.1 e).1
      have e0 : i - xs.length = 0 := by omega
      rw [e0] at e
      exact Or.inr ⟨by have := h.len; omega, by simpa using e.symm⟩
  have mem : ∀ (i : Nat) (c : α), (xs ++ [a])[i]? = some c → k.mem w true base w.heap.size c ∧ ∀ q, k.inn c q → v.ownBlock ≠ some q := fun i c e => by
    rcases get i c e with ⟨_, e2⟩ | ⟨_, e2⟩
    · exact ⟨h.each i c e2, h.far i c e2⟩
    · rw [e2]; exact ⟨hm, hfar⟩
  refine ⟨v', w', hrun, ⟨by simp [h.len], ?_, fun i c e => ?_, fun i c e q hq => ?_, fun i j c d e1 e2 hne => ?_⟩, KS, (Below.refl base w).grown hg hbase (fun g hg' => (h.own.lt g hg').1)⟩
  · rw [List.flatMap_append, List.flatMap_singleton]; exact ho
  · exact K.widen (K.keptS (mem i c e).1 KS fun q hq => (mem i c e).2 q hq) (Nat.le_refl _) hg.size
  · rcases hat with e3 | e3
    · exact fun z => (mem i c e).2 q hq (e3 ▸ z)
    · rw [e3]
      intro z
      have := (K.inB (mem i c e).1 hq).2.2
      have e4 : w.heap.size = q := Option.some.inj z
      omega
  · rcases get i c e1 with ⟨p1, q1⟩ | ⟨p1, q1⟩
    · rcases get j d e2 with ⟨p2, q2⟩ | ⟨p2, q2⟩
      · exact h.sep i j c d q1 q2 hne
      · rw [q2]; exact (hsep i c q1).symm
    · rcases get j d e2 with ⟨p2, q2⟩ | ⟨p2, q2⟩
      · rw [q1]; exact hsep j d q2
      · omega
end
def newK (m : Int) (k : Nat) : List Rep := (List.range k).map fun i : Nat => newRep (i : Int) m
def NewSt (m : Int) (w : World) (zz : Nat) (T : TypeId) (v : Value) (k : Nat) : Prop := ∃ ys : List Nod, GrowL nodeK w zz T v k ys ∧ ys.map (·.1) = newK m k ∧ ∀ (i : Nat) (a : Nod), ys[i]? = some a → rsum a.2 ≤ 5
theorem NewSt.below {m : Int} {w w' : World} {zz : Nat} {T : TypeId} {v : Value} {k : Nat} (h : NewSt m w zz T v k) (hb : Below w.heap.size w w') : NewSt m w' zz T v k := by
  obtain ⟨ys, G, e, s⟩ := h
  exact ⟨ys, G.below nodeOk hb, e, s⟩
theorem NewSt.kept {m : Int} {w w' : World} {zz : Nat} {T : TypeId} {v : Value} {k : Nat} (h : NewSt m w zz T v k) {l u : Nat} (hk : Kept l u w w') (hd : u ≤ zz) : NewSt m w' zz T v k := by
  obtain ⟨ys, G, e, s⟩ := h
  exact ⟨ys, G.kept nodeOk hk hd, e, s⟩
end Go.Proofs.Ytannjgdginfgeaa
