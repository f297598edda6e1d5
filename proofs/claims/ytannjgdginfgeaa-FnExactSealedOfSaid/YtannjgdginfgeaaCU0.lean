/- Chapter 11: lists that are copied element by element in place; lists put behind others. No program is named here. -/
import Derived.Test.YtannjgdginfgeaaCN0
import Derived.Test.YtannjgdginfgeaaPutC
import Derived.Lib.AppendZeros
namespace Go.Proofs.Ytannjgdginfgeaa
open Go.RowKit

theorem owns_setCells {base : Nat} {T : TypeId} {sz g n cap : Nat} : ∀ (us : List Value) (o : Nat) (xs : List Value) (w : World), w.ownsRow base T sz (.slice (some ⟨g, 0, none⟩) n cap) n xs → ∀ ys : List Value, ys.length = xs.length → (∀ j, ys[j]? = if o ≤ j ∧ j < o + us.length then us[j - o]? else xs[j]?) → (w.setCells g o us).ownsRow base T sz (.slice (some ⟨g, 0, none⟩) n cap) n ys
  | [], o, xs, w, h, ys, hl, hy => by
    have e : ys = xs := List.ext_getElem? fun j => by rw [hy j, if_neg (by rw [List.length_nil]; omega)]
    rw [e]; exact h
  | v :: r, o, xs, w, h, ys, hl, hy => by
    refine owns_setCells r (o + 1) (xs.set o v) (w.setCell ⟨g, o, none⟩ v) (h.stored o v).1 ys (by simpa using hl) fun j => ?_
    rw [hy j]
    by_cases c1 : o + 1 ≤ j ∧ j < o + 1 + r.length
    · rw [if_pos c1, if_pos ⟨by omega, by simp; omega⟩, show j - o = (j - (o + 1)) + 1 by omega, List.getElem?_cons_succ]
    · rw [if_neg c1]
      by_cases c2 : j = o
      · subst c2
        rw [if_pos ⟨Nat.le_refl _, by simp⟩, Nat.sub_self, List.getElem?_cons_zero]
        by_cases c3 : j < xs.length
        · rw [List.getElem?_set_self c3]
        · have : ys[j]? = none := List.getElem?_eq_none (by omega)
          rw [hy j, if_pos ⟨Nat.le_refl _, by simp⟩, Nat.sub_self, List.getElem?_cons_zero] at this
          cases this
      · rw [if_neg (by simp; omega), List.getElem?_set_ne (Ne.symm c2)]
/-- a list whose first kk elements have memory of their own -/
structure GLk {α : Type} (k : Kd α) (w : World) (base : Nat) (T : TypeId) (v : Value) (n : Nat) (xs : List α) (kk : Nat) : Prop where
  len : xs.length = n
  own : w.ownsRow base T k.sz v n (xs.flatMap k.cells)
  each : ∀ (i : Nat) (a : α), i < kk → xs[i]? = some a → k.mem w true base w.heap.size a
  far : ∀ (i : Nat) (a : α), i < kk → xs[i]? = some a → ∀ q, k.inn a q → v.ownBlock ≠ some q
  sep : ∀ (i j : Nat) (a b : α), i < kk → j < kk → xs[i]? = some a → xs[j]? = some b → i ≠ j → Sep (k.inn a) (k.inn b)
section
variable {α : Type} {k : Kd α} {w w' : World} {base : Nat} {T : TypeId} {v : Value} {n : Nat} {xs : List α} {kk : Nat}
theorem GLk.below (K : KdOk k) (h : GLk k w base T v n xs kk) (hb : Below w.heap.size w w') : GLk k w' base T v n xs kk :=
  ⟨h.len, owns_below h.own hb, fun i a c e => K.widen (K.below (h.each i a c e) hb) (Nat.le_refl _) hb.size, h.far, h.sep⟩
theorem GLk.start (hl : xs.length = n) (h : w.ownsRow base T k.sz v n (xs.flatMap k.cells)) : GLk k w base T v n xs 0 := ⟨hl, h, fun _ _ c => absurd c (Nat.not_lt_zero _), fun _ _ c => absurd c (Nat.not_lt_zero _), fun _ _ _ _ c => absurd c (Nat.not_lt_zero _)⟩
theorem GLk.form (h : GLk k w base T v n xs kk) : ∃ ao cap, v = .slice ao n cap ∧ RowAt w true base w.heap.size k.sz ao n cap (xs.flatMap k.cells) ∧ (n ≠ 0 → ∃ g, ao = some ⟨g, 0, none⟩ ∧ v.ownBlock = some g ∧ base ≤ g ∧ g < w.heap.size) := by
  obtain ⟨ao, cap, e, R, hb⟩ := owns_slice h.own
  refine ⟨ao, cap, e, R, fun hn => ?_⟩
  rcases h.own.2 with ⟨q1, q2⟩ | ⟨g, cap', cur, hv, hg, hh, _⟩
  · exact absurd q2 hn
  · rw [e] at hv
    simp only [Value.slice.injEq, true_and] at hv
    obtain ⟨rfl, rfl⟩ := hv
    exact ⟨g, rfl, by rw [e]; rfl, hg, by rcases Nat.lt_or_ge g w.heap.size with q | q; exact q; rw [Array.getElem?_eq_none q] at hh; cases hh⟩
/-- cells of the kk-th element are written: it has memory of its own from there on -/
theorem GLk.put (K : KdOk k) {g cap : Nat} (h : GLk k w base T (.slice (some ⟨g, 0, none⟩) n cap) n xs kk) (hk : kk < n) (c a : α) (ec : xs[kk]? = some c) (p : Nat) (us : List Value) (hp : p + us.length ≤ k.sz) (hc : ∀ j, j < k.sz → (k.cells a)[j]? = if p ≤ j ∧ j < p + us.length then us[j - p]? else (k.cells c)[j]?)
    (hm : k.mem w true base w.heap.size a) (hf : ∀ q, k.inn a q → q ≠ g) (hs : ∀ (j : Nat) (d : α), j < kk → xs[j]? = some d → Sep (k.inn a) (k.inn d)) : GLk k (w.setCells g (kk * k.sz + p) us) base T (.slice (some ⟨g, 0, none⟩) n cap) n (xs.set kk a) (kk + 1) := by
  have hx : kk < xs.length := by rw [h.len]; exact hk
  have hl0 := flatMap_len K xs
  have hl1 := flatMap_len K (xs.set kk a)
  have hin := at_lt (sz := k.sz) hk (show k.sz - 1 < k.sz by have := K.pos; omega)
  have KS1 : KeptS (fun x => x = g) w (w.setCells g (kk * k.sz + p) us) := (((Kept.refl g (g + 1) w).setCells (Nat.le_refl _) (Nat.lt_succ_self _) _ _)).toS fun q h1 h2 => by omega
  have get : ∀ (j : Nat) (d : α), j < kk → (xs.set kk a)[j]? = some d → xs[j]? = some d := fun j d hj e => by rwa [List.getElem?_set_ne (by omega)] at e
  have at_ : ∀ d : α, (xs.set kk a)[kk]? = some d → d = a := fun d e => by rw [List.getElem?_set_self hx] at e; exact (Option.some.inj e).symm
  have hsz : (w.setCells g (kk * k.sz + p) us).heap.size = w.heap.size := size_setCells' _ _ _ _
  refine ⟨by simpa using h.len, ?_, fun i d hi e => ?_, fun i d hi e q hq => ?_, fun i j d1 d2 hi hj e1 e2 hne => ?_⟩
  · refine owns_setCells us _ _ w h.own _ (by rw [hl1, hl0, List.length_set]) fun j => ?_
    by_cases hj : kk * k.sz ≤ j ∧ j < kk * k.sz + k.sz
    · have t := flatMap_set_in K xs kk hx a (j - kk * k.sz) (by omega)
      rw [show kk * k.sz + (j - kk * k.sz) = j by omega] at t
      have t0 := flatMap_at K xs kk c ec (j - kk * k.sz) (by omega)
      rw [show kk * k.sz + (j - kk * k.sz) = j by omega] at t0
      rw [t, hc _ (by omega), t0]
      by_cases q : kk * k.sz + p ≤ j ∧ j < kk * k.sz + p + us.length
      · rw [if_pos (by omega), if_pos q]; congr 1; omega
      · rw [if_neg (by omega), if_neg q]
    · rw [flatMap_set_out K xs kk a j (by omega), if_neg (by omega)]
  · rw [hsz]
    rcases (by omega : i < kk ∨ i = kk) with c1 | c1
    · exact K.keptS (h.each i d c1 (get i d c1 e)) KS1 fun q hq e2 => h.far i d c1 (get i d c1 e) q hq (by rw [e2]; rfl)
    · subst c1; rw [at_ d e]; exact K.keptS hm KS1 fun q hq => hf q hq
  · rcases (by omega : i < kk ∨ i = kk) with c1 | c1
    · exact h.far i d c1 (get i d c1 e) q hq
    · subst c1
      rw [at_ d e] at hq
      intro z
      exact hf q hq (Option.some.inj z).symm
  · rcases (by omega : i < kk ∨ i = kk) with c1 | c1
    · rcases (by omega : j < kk ∨ j = kk) with c2 | c2
      · exact h.sep i j d1 d2 c1 c2 (get i d1 c1 e1) (get j d2 c2 e2) hne
      · subst c2; rw [at_ d2 e2]; exact (hs i d1 c1 (get i d1 c1 e1)).symm
    · subst c1
      rcases (by omega : j < i ∨ j = i) with c2 | c2
      · rw [at_ d1 e1]; exact hs j d2 c2 (get j d2 c2 e2)
      · exact absurd c2.symm hne
end

end Go.Proofs.Ytannjgdginfgeaa
