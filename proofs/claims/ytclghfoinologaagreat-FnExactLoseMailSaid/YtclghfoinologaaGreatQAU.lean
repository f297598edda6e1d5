/- Chapter 11: lists that grow by append, whose elements have memory of their own; a new cluster. No program is named here. -/
import Derived.Test.YtclghfoinologaaGreatCM0
import Derived.Test.YtclghfoinologaaGreatWR
set_option maxRecDepth 20000
set_option maxHeartbeats 16000000
namespace Go.Proofs.YtclghfoinologaaGreat
open Go.RowKit
structure GrowL {α : Type} (k : Kd α) (w : World) (base : Nat) (T : TypeId) (v : Value) (n : Nat) (xs : List α) : Prop where
 len : xs.length = n
 own : w.ownsRow base T k.sz v n (xs.flatMap k.cells)
 each : ∀ (i : Nat) (a : α), xs[i]? = some a → k.mem w true base w.heap.size a
 far : ∀ (i : Nat) (a : α), xs[i]? = some a → ∀ q, k.inn a q → v.ownBlock ≠ some q
 sep : ∀ (i j : Nat) (a b : α), xs[i]? = some a → xs[j]? = some b → i ≠ j → Sep (k.inn a) (k.inn b)
section
variable {α : Type} {k : Kd α} {w w' : World} {base : Nat} {T : TypeId} {v : Value} {n : Nat} {xs : List α}
theorem GrowL.nil (k : Kd α) (w : World) (base : Nat) (T : TypeId) : GrowL k w base T (.slice none 0 0) 0 [] :=
 ⟨rfl, World.ownsRow_nil _ _ _ _, fun i a e => by simp at e, fun i a e => by simp at e, fun i j a b e => by simp at e⟩
theorem GrowL.below (K : KdOk k) (h : GrowL k w base T v n xs) (hb : Below w.heap.size w w') : GrowL k w' base T v n xs :=
 ⟨h.len, owns_below h.own hb, fun i a e => K.widen (K.below (h.each i a e) hb) (Nat.le_refl _) hb.size, h.far, h.sep⟩
theorem GrowL.kept (K : KdOk k) (h : GrowL k w base T v n xs) {l u : Nat} (hk : Kept l u w w') (hd : u ≤ base) : GrowL k w' base T v n xs := by
 refine ⟨h.len, ?_, fun i a e => K.widen (K.kept (h.each i a e) hk (Or.inr hd)) (Nat.le_refl _) hk.size, h.far, h.sep⟩
 refine ⟨h.own.1, ?_⟩
 rcases h.own.2 with q | ⟨g, cap, cur, hv, hg, hh, rest⟩
 ·exact .inl q
 ·have hlt : g < w.heap.size := by
   rcases Nat.lt_or_ge g w.heap.size with q | q
   ·exact q
   ·rw [Array.getElem?_eq_none q] at hh;cases hh
  exact .inr ⟨g, cap, cur, hv, hg, by rw [hk.block g hlt (Or.inr (by omega))];exact hh, rest⟩
theorem GrowL.els (h : GrowL k w base T v n xs) : ∃ ao cap, v = .slice ao n cap ∧ LAt k w true base w.heap.size ao n cap xs := by
 obtain ⟨ao, cap, e, R, hb⟩ := owns_slice h.own
 refine ⟨ao, cap, e, h.len, R, h.each, fun _ i a ea q hq e2 => ?_, fun _ => h.sep⟩
 have hn : n ≠ 0 := by
  have := (List.getElem?_eq_some_iff.1 ea).1
  have := h.len
  omega
 exact h.far i a ea q hq (by rw [hb hn, e2])
theorem GrowL.snoc {P : Program} (K : KdOk k) (h : GrowL k w base T v n xs) (t : TypeId) (i0 : TypeInfo) (z : Value) (bytes : Nat) (ht : P.underlying t = some (.slice T)) (hi0 : P.info? T = some i0) (hz0 : i0.zero = some z) (hz1 : i0.size = k.sz) (hz2 : i0.bytes = bytes) (hzs : z.cells.size = k.sz) (hby : bytes ≤ 1000)
  {ow : Bool} {l u : Nat} (ad : Addr) (c : Nat) (a : α) (hrow : RowAt w ow l u k.sz (some ad) 1 c (k.cells a)) (h1 : ∀ u ∈ k.cells a, u.oneCell' = true) (hm : k.mem w true base w.heap.size a) (hfar : ∀ q, k.inn a q → v.ownBlock ≠ some q) (hsep : ∀ (i : Nat) (b : α), xs[i]? = some b → Sep (k.inn a) (k.inn b)) (hn : n + 1 ≤ 1000000) (hbase : base ≤ w.heap.size) :
  ∃ v' w', (∀ ty, (Builtin.append_ #[t, t] ty #[v, .slice (some ad) 1 c]).run P w = .ok v' w') ∧ GrowL k w' base T v' (n + 1) (xs ++ [a]) ∧ KeptS (fun q => v.ownBlock = some q) w w' ∧ Below base w w' := by
 have hsrc : ∀ j u, (k.cells a)[j]? = some u → w.cell? (ad.add j) = some u := fun j u hj => by
  have hjl : j < (k.cells a).length := (List.getElem?_eq_some_iff.1 hj).1
  have hl := hrow.len
  obtain ⟨b, off, e, _, _, _, hc, _⟩ := hrow.cells (by omega)
  have e2 : ad = ⟨b, off, none⟩ := Option.some.inj e
  rw [e2]
  have := hc j (by omega)
  rw [List.getD_eq_getElem?_getD, hj, Option.getD_some] at this;rw [Addr.add_lit];exact this
 have hby2 : (n + 1) * bytes ≤ 140737488355328 := Nat.le_trans (Nat.mul_le_mul hn hby) (by decide)
 have A := fun ty => run_append_own_at (P := P) w base t ty T i0 z k.sz bytes ht hi0 hz0 hz1 hz2 hzs K.pos v n _ h.own ad 1 c (k.cells a) hrow.len hsrc h1 (by unfold maxLen;omega) hby2 hbase
 obtain ⟨v', w', hr, ho, hg, _, hat⟩ := A T
 have hrun : ∀ ty, (Builtin.append_ #[t, t] ty #[v, .slice (some ad) 1 c]).run P w = .ok v' w' := fun ty => by
  have : ∀ ty, Builtin.append_ #[t, t] ty #[v, .slice (some ad) 1 c] = Builtin.append_ #[t, t] T #[v, .slice (some ad) 1 c] := fun _ => rfl
  rw [this];exact hr
 have KS : KeptS (fun q => v.ownBlock = some q) w w' := ⟨hg.os, hg.tape, hg.output, hg.size, fun q hq hs => hg.block q hq (fun e => hs e.symm)⟩
 have get : ∀ (i : Nat) (c : α), (xs ++ [a])[i]? = some c → (i < n ∧ xs[i]? = some c) ∨ (i = n ∧ c = a) := fun i c e => by
  rcases Nat.lt_or_ge i xs.length with q | q
  ·rw [List.getElem?_append_left q] at e
   exact Or.inl ⟨by rw [← h.len];exact q, e⟩
  ·rw [List.getElem?_append_right q] at e
   have hl : i - xs.length < 1 := by simpa using (List.getElem?_eq_some_iff.1 e).1
   have e0 : i - xs.length = 0 := by omega
   rw [e0] at e
   exact Or.inr ⟨by have := h.len;omega, by simpa using e.symm⟩
 have mem : ∀ (i : Nat) (c : α), (xs ++ [a])[i]? = some c → k.mem w true base w.heap.size c ∧ ∀ q, k.inn c q → v.ownBlock ≠ some q := fun i c e => by
  rcases get i c e with ⟨_, e2⟩ | ⟨_, e2⟩
  ·exact ⟨h.each i c e2, h.far i c e2⟩
  ·rw [e2];exact ⟨hm, hfar⟩
 refine ⟨v', w', hrun, ⟨by simp [h.len], ?_, fun i c e => ?_, fun i c e q hq => ?_, fun i j c d e1 e2 hne => ?_⟩, KS, (Below.refl base w).grown hg hbase (fun g hg' => (h.own.lt g hg').1)⟩
 ·rw [List.flatMap_append, List.flatMap_singleton];exact ho
 ·exact K.widen (K.keptS (mem i c e).1 KS fun q hq => (mem i c e).2 q hq) (Nat.le_refl _) hg.size
 ·rcases hat with e3 | e3
  ·exact fun z => (mem i c e).2 q hq (e3 ▸ z)
  ·rw [e3];intro z
   have := (K.inB (mem i c e).1 hq).2.2
   have e4 : w.heap.size = q := Option.some.inj z
   omega
 ·rcases get i c e1 with ⟨p1, q1⟩ | ⟨p1, q1⟩
  ·rcases get j d e2 with ⟨p2, q2⟩ | ⟨p2, q2⟩
   ·exact h.sep i j c d q1 q2 hne
   ·rw [q2];exact (hsep i c q1).symm
  ·rcases get j d e2 with ⟨p2, q2⟩ | ⟨p2, q2⟩
   ·rw [q1];exact hsep j d q2
   ·omega
end
def newK (m : Int) (k : Nat) : List Rep := (List.range k).map fun i : Nat => newRep (i : Int) m
def NewSt (m : Int) (w : World) (zz : Nat) (T : TypeId) (v : Value) (k : Nat) : Prop := ∃ ys : List Nod, GrowL nodeK w zz T v k ys ∧ ys.map (·.1) = newK m k ∧ ∀ (i : Nat) (a : Nod), ys[i]? = some a → rsum a.2 ≤ 5
def CS (w w' : World) : Prop := w'.there (w.heap.size + 1) 0 2 ∧ Below w.heap.size w w' ∧ w.heap.size + 1 < w'.heap.size
def CpS (w : World) (v0 v1 : Value) (w' : World) : Prop := w'.cell? ⟨w.heap.size, 0, none⟩ = some v0 ∧ w'.cell? ⟨w.heap.size, 1, none⟩ = some v1 ∧ CS w w'
theorem run_append_none {P : Program} {w : World} {base : Nat} {e : TypeId} {size : Nat} {v : Value} {n : Nat} {xs : List Value} (t ty : TypeId) (i : TypeInfo) (ht : P.underlying t = some (.slice e)) (hi : P.info? e = some i) (hown : w.ownsRow base e size v n xs) (c : Nat) :
  (Builtin.append_ #[t, t] ty #[v, .slice none 0 c]).run P w = .ok v w := by
 rcases hown.2 with ⟨rfl, rfl⟩ | ⟨g, cap, cur, rfl, _, _, hnc, _⟩
 ·simp [Builtin.append_, run_underlying ht, sizeOf, typeInfo, hi, Builtin.lenOf, Builtin.firstCells]
 ·simp [Builtin.append_, run_underlying ht, sizeOf, typeInfo, hi, Builtin.lenOf, Builtin.firstCells, hnc, storeCells]
theorem owns_setCells {base : Nat} {T : TypeId} {sz g n cap : Nat} : ∀ (us : List Value) (o : Nat) (xs : List Value) (w : World), w.ownsRow base T sz (.slice (some ⟨g, 0, none⟩) n cap) n xs → ∀ ys : List Value, ys.length = xs.length → (∀ j, ys[j]? = if o ≤ j ∧ j < o + us.length then us[j - o]? else xs[j]?) → (w.setCells g o us).ownsRow base T sz (.slice (some ⟨g, 0, none⟩) n cap) n ys
 | [], o, xs, w, h, ys, hl, hy => by
  have e : ys = xs := List.ext_getElem? fun j => by rw [hy j, if_neg (by rw [List.length_nil];omega)]
  rw [e];exact h
 | v :: r, o, xs, w, h, ys, hl, hy => by
  refine owns_setCells r (o + 1) (xs.set o v) (w.setCell ⟨g, o, none⟩ v) (h.stored o v).1 ys (by simpa using hl) fun j => ?_
  rw [hy j]
  by_cases c1 : o + 1 ≤ j ∧ j < o + 1 + r.length
  ·rw [if_pos c1, if_pos ⟨by omega, by simp;omega⟩, show j - o = (j - (o + 1)) + 1 by omega, List.getElem?_cons_succ]
  ·rw [if_neg c1]
   by_cases c2 : j = o
   ·subst c2
    rw [if_pos ⟨Nat.le_refl _, by simp⟩, Nat.sub_self, List.getElem?_cons_zero]
    by_cases c3 : j < xs.length
    ·rw [List.getElem?_set_self c3]
    ·have : ys[j]? = none := List.getElem?_eq_none (by omega)
     rw [hy j, if_pos ⟨Nat.le_refl _, by simp⟩, Nat.sub_self, List.getElem?_cons_zero] at this
     cases this
   ·rw [if_neg (by simp;omega), List.getElem?_set_ne (Ne.symm c2)]
structure GLk {α : Type} (k : Kd α) (w : World) (base : Nat) (T : TypeId) (v : Value) (n : Nat) (xs : List α) (kk : Nat) : Prop where
 len : xs.length = n
 own : w.ownsRow base T k.sz v n (xs.flatMap k.cells)
 each : ∀ (i : Nat) (a : α), i < kk → xs[i]? = some a → k.mem w true base w.heap.size a
 far : ∀ (i : Nat) (a : α), i < kk → xs[i]? = some a → ∀ q, k.inn a q → v.ownBlock ≠ some q
 sep : ∀ (i j : Nat) (a b : α), i < kk → j < kk → xs[i]? = some a → xs[j]? = some b → i ≠ j → Sep (k.inn a) (k.inn b)
section
variable {α : Type} {k : Kd α} {w w' : World} {base : Nat} {T : TypeId} {v : Value} {n : Nat} {xs : List α} {kk : Nat}
theorem GLk.below (K : KdOk k) (h : GLk k w base T v n xs kk) (hb : Below w.heap.size w w') : GLk k w' base T v n xs kk :=
 ⟨h.len, owns_below h.own hb, fun i a c e => K.widen (K.below (h.each i a c e) hb) (Nat.le_refl _) hb.size, h.far, h.sep⟩
theorem GLk.full (h : GLk k w base T v n xs n) : GrowL k w base T v n xs :=
 ⟨h.len, h.own, fun i a e => h.each i a (by rw [← h.len];exact (List.getElem?_eq_some_iff.1 e).1) e, fun i a e => h.far i a (by rw [← h.len];exact (List.getElem?_eq_some_iff.1 e).1) e, fun i j a b e1 e2 => h.sep i j a b (by rw [← h.len];exact (List.getElem?_eq_some_iff.1 e1).1) (by rw [← h.len];exact (List.getElem?_eq_some_iff.1 e2).1) e1 e2⟩
theorem GLk.start (hl : xs.length = n) (h : w.ownsRow base T k.sz v n (xs.flatMap k.cells)) : GLk k w base T v n xs 0 := ⟨hl, h, fun _ _ c => absurd c (Nat.not_lt_zero _), fun _ _ c => absurd c (Nat.not_lt_zero _), fun _ _ _ _ c => absurd c (Nat.not_lt_zero _)⟩
theorem GLk.form (h : GLk k w base T v n xs kk) : ∃ ao cap, v = .slice ao n cap ∧ RowAt w true base w.heap.size k.sz ao n cap (xs.flatMap k.cells) ∧ (n ≠ 0 → ∃ g, ao = some ⟨g, 0, none⟩ ∧ v.ownBlock = some g ∧ base ≤ g ∧ g < w.heap.size) := by
 obtain ⟨ao, cap, e, R, hb⟩ := owns_slice h.own
 refine ⟨ao, cap, e, R, fun hn => ?_⟩
 rcases h.own.2 with ⟨q1, q2⟩ | ⟨g, cap', cur, hv, hg, hh, _⟩
 ·exact absurd q2 hn
 ·rw [e] at hv;simp only [Value.slice.injEq, true_and] at hv
  obtain ⟨rfl, rfl⟩ := hv
  exact ⟨g, rfl, by rw [e];rfl, hg, by rcases Nat.lt_or_ge g w.heap.size with q | q;exact q;rw [Array.getElem?_eq_none q] at hh;cases hh⟩
theorem GLk.put (K : KdOk k) {g cap : Nat} (h : GLk k w base T (.slice (some ⟨g, 0, none⟩) n cap) n xs kk) (hk : kk < n) (c a : α) (ec : xs[kk]? = some c) (p : Nat) (us : List Value) (hp : p + us.length ≤ k.sz) (hc : ∀ j, j < k.sz → (k.cells a)[j]? = if p ≤ j ∧ j < p + us.length then us[j - p]? else (k.cells c)[j]?)
  (hm : k.mem w true base w.heap.size a) (hf : ∀ q, k.inn a q → q ≠ g) (hs : ∀ (j : Nat) (d : α), j < kk → xs[j]? = some d → Sep (k.inn a) (k.inn d)) : GLk k (w.setCells g (kk * k.sz + p) us) base T (.slice (some ⟨g, 0, none⟩) n cap) n (xs.set kk a) (kk + 1) := by
 have hx : kk < xs.length := by rw [h.len];exact hk
 have hl0 := flatMap_len K xs;have hl1 := flatMap_len K (xs.set kk a)
 have hin := at_lt (sz := k.sz) hk (show k.sz - 1 < k.sz by have := K.pos;omega)
 have KS1 : KeptS (fun x => x = g) w (w.setCells g (kk * k.sz + p) us) := (((Kept.refl g (g + 1) w).setCells (Nat.le_refl _) (Nat.lt_succ_self _) _ _)).toS fun q h1 h2 => by omega
 have get : ∀ (j : Nat) (d : α), j < kk → (xs.set kk a)[j]? = some d → xs[j]? = some d := fun j d hj e => by rwa [List.getElem?_set_ne (by omega)] at e
 have at_ : ∀ d : α, (xs.set kk a)[kk]? = some d → d = a := fun d e => by rw [List.getElem?_set_self hx] at e;exact (Option.some.inj e).symm
 have hsz : (w.setCells g (kk * k.sz + p) us).heap.size = w.heap.size := size_setCells' _ _ _ _
 refine ⟨by simpa using h.len, ?_, fun i d hi e => ?_, fun i d hi e q hq => ?_, fun i j d1 d2 hi hj e1 e2 hne => ?_⟩
 ·refine owns_setCells us _ _ w h.own _ (by rw [hl1, hl0, List.length_set]) fun j => ?_
  by_cases hj : kk * k.sz ≤ j ∧ j < kk * k.sz + k.sz
  ·have t := flatMap_set_in K xs kk hx a (j - kk * k.sz) (by omega)
   rw [show kk * k.sz + (j - kk * k.sz) = j by omega] at t
   have t0 := flatMap_at K xs kk c ec (j - kk * k.sz) (by omega)
   rw [show kk * k.sz + (j - kk * k.sz) = j by omega] at t0
   rw [t, hc _ (by omega), t0]
   by_cases q : kk * k.sz + p ≤ j ∧ j < kk * k.sz + p + us.length
   ·rw [if_pos (by omega), if_pos q];congr 1;omega
   ·rw [if_neg (by omega), if_neg q]
  ·rw [flatMap_set_out K xs kk a j (by omega), if_neg (by omega)]
 ·rw [hsz]
  rcases (by omega : i < kk ∨ i = kk) with c1 | c1
  ·exact K.keptS (h.each i d c1 (get i d c1 e)) KS1 fun q hq e2 => h.far i d c1 (get i d c1 e) q hq (by rw [e2];rfl)
  ·subst c1;rw [at_ d e];exact K.keptS hm KS1 fun q hq => hf q hq
 ·rcases (by omega : i < kk ∨ i = kk) with c1 | c1
  ·exact h.far i d c1 (get i d c1 e) q hq
  ·subst c1;rw [at_ d e] at hq;intro z;exact hf q hq (Option.some.inj z).symm
 ·rcases (by omega : i < kk ∨ i = kk) with c1 | c1
  ·rcases (by omega : j < kk ∨ j = kk) with c2 | c2
   ·exact h.sep i j d1 d2 c1 c2 (get i d1 c1 e1) (get j d2 c2 e2) hne
   ·subst c2;rw [at_ d2 e2];exact (hs i d1 c1 (get i d1 c1 e1)).symm
  ·subst c1
   rcases (by omega : j < i ∨ j = i) with c2 | c2
   ·rw [at_ d1 e1];exact hs j d2 c2 (get j d2 c2 e2)
   ·exact absurd c2.symm hne
theorem GrowL.app {P : Program} (K : KdOk k) (h : GrowL k w base T v n xs) (t : TypeId) (i0 : TypeInfo) (z : Value) (bytes : Nat) (ht : P.underlying t = some (.slice T)) (hi0 : P.info? T = some i0) (hz0 : i0.zero = some z) (hz1 : i0.size = k.sz) (hz2 : i0.bytes = bytes) (hzs : z.cells.size = k.sz) (hby : bytes ≤ 1000)
  {ow : Bool} {l u : Nat} (ao : Option Addr) (m c : Nat) (zs : List α) (hrow : RowAt w ow l u k.sz ao m c (zs.flatMap k.cells)) (hzl : zs.length = m) (h1 : ∀ a ∈ zs, ∀ u ∈ k.cells a, u.oneCell' = true) (hm : ∀ (i : Nat) (a : α), zs[i]? = some a → k.mem w true base w.heap.size a) (hfar : ∀ (i : Nat) (a : α), zs[i]? = some a → ∀ q, k.inn a q → v.ownBlock ≠ some q) (hsep : ∀ (i j : Nat) (a b : α), xs[i]? = some a → zs[j]? = some b → Sep (k.inn a) (k.inn b)) (hsep2 : ∀ (i j : Nat) (a b : α), zs[i]? = some a → zs[j]? = some b → i ≠ j → Sep (k.inn a) (k.inn b)) (hn : n + m ≤ 1000000) (hbase : base ≤ w.heap.size) :
  ∃ v' w', (∀ ty, (Builtin.append_ #[t, t] ty #[v, .slice ao m c]).run P w = .ok v' w') ∧ GrowL k w' base T v' (n + m) (xs ++ zs) ∧ KeptS (fun q => v.ownBlock = some q) w w' ∧ Below base w w' ∧ (v'.ownBlock = v.ownBlock ∨ v'.ownBlock = some w.heap.size) := by
 cases ao with
 | none =>
  have hm0 : m = 0 := Decidable.byContradiction fun hne => by obtain ⟨_, _, e, _⟩ := hrow.cells hne;cases e
  subst hm0
  have hz : zs = [] := List.eq_nil_of_length_eq_zero hzl
  subst hz;rw [List.append_nil, Nat.add_zero]
  exact ⟨v, w, fun ty => run_append_none t ty i0 ht hi0 h.own c, h, KeptS.refl _ _, Below.refl _ _, Or.inl rfl⟩
 | some ad =>
  have hlen : (zs.flatMap k.cells).length = m * k.sz := by rw [flatMap_len K, hzl]
  have hone : ∀ u ∈ zs.flatMap k.cells, u.oneCell' = true := fun u hu => by
   obtain ⟨a, ha, hua⟩ := List.mem_flatMap.1 hu
   exact h1 a ha u hua
  have hsrc : ∀ j u, (zs.flatMap k.cells)[j]? = some u → w.cell? (ad.add j) = some u := fun j u hj => by
   have hjl : j < (zs.flatMap k.cells).length := (List.getElem?_eq_some_iff.1 hj).1
   obtain ⟨b, off, e, _, _, _, hcc, _⟩ := hrow.cells (by intro q;subst q;omega)
   have e2 : ad = ⟨b, off, none⟩ := Option.some.inj e
   rw [e2]
   have := hcc j (by omega)
   rw [List.getD_eq_getElem?_getD, hj, Option.getD_some] at this;rw [Addr.add_lit];exact this
  have hby2 : (n + m) * bytes ≤ 140737488355328 := Nat.le_trans (Nat.mul_le_mul hn hby) (by decide)
  have A := fun ty => run_append_own_at (P := P) w base t ty T i0 z k.sz bytes ht hi0 hz0 hz1 hz2 hzs K.pos v n _ h.own ad m c _ hlen hsrc hone (by unfold maxLen;omega) hby2 hbase
  obtain ⟨v', w', hr, ho, hg, _, hat⟩ := A T
  have hrun : ∀ ty, (Builtin.append_ #[t, t] ty #[v, .slice (some ad) m c]).run P w = .ok v' w' := fun ty => by
   have : ∀ ty, Builtin.append_ #[t, t] ty #[v, .slice (some ad) m c] = Builtin.append_ #[t, t] T #[v, .slice (some ad) m c] := fun _ => rfl
   rw [this];exact hr
  have KS : KeptS (fun q => v.ownBlock = some q) w w' := ⟨hg.os, hg.tape, hg.output, hg.size, fun q hq hs => hg.block q hq (fun e => hs e.symm)⟩
  have get : ∀ (i : Nat) (c : α), (xs ++ zs)[i]? = some c → (xs[i]? = some c ∧ i < n) ∨ (n ≤ i ∧ zs[i - n]? = some c) := fun i c e => by
   rcases Nat.lt_or_ge i xs.length with q | q
   ·rw [List.getElem?_append_left q] at e
    exact Or.inl ⟨e, by rw [← h.len];exact q⟩
   ·rw [List.getElem?_append_right q, h.len] at e
    exact Or.inr ⟨by rw [← h.len];exact q, e⟩
  have mem : ∀ (i : Nat) (c : α), (xs ++ zs)[i]? = some c → k.mem w true base w.heap.size c ∧ ∀ q, k.inn c q → v.ownBlock ≠ some q := fun i c e => by
   rcases get i c e with ⟨e2, _⟩ | ⟨_, e2⟩
   ·exact ⟨h.each i c e2, h.far i c e2⟩
   ·exact ⟨hm _ c e2, hfar _ c e2⟩
  refine ⟨v', w', hrun, ⟨by simp [h.len, hzl], ?_, fun i c e => ?_, fun i c e q hq => ?_, fun i j c d e1 e2 hne => ?_⟩, KS, (Below.refl base w).grown hg hbase (fun g hg' => (h.own.lt g hg').1), hat⟩
  ·rw [List.flatMap_append];exact ho
  ·exact K.widen (K.keptS (mem i c e).1 KS fun q hq => (mem i c e).2 q hq) (Nat.le_refl _) hg.size
  ·rcases hat with e3 | e3
   ·exact fun z => (mem i c e).2 q hq (e3 ▸ z)
   ·rw [e3];intro z
    have := (K.inB (mem i c e).1 hq).2.2
    have e4 : w.heap.size = q := Option.some.inj z
    omega
  ·rcases get i c e1 with ⟨p1, p2⟩ | ⟨p2, p1⟩
   ·rcases get j d e2 with ⟨q1, q2⟩ | ⟨q2, q1⟩
    ·exact h.sep i j c d p1 q1 hne
    ·exact hsep i _ c d p1 q1
   ·rcases get j d e2 with ⟨q1, q2⟩ | ⟨q2, q1⟩
    ·exact (hsep j _ d c q1 p1).symm
    ·exact hsep2 _ _ c d p1 q1 (by omega)
end
theorem GrowL.keptS {α : Type} {k : Kd α} {w w' : World} {base : Nat} {T : TypeId} {v : Value} {n : Nat} {xs : List α} (K : KdOk k) (h : GrowL k w base T v n xs) {S : Nat → Prop} (hk : KeptS S w w') (h1 : ∀ q, v.ownBlock = some q → ¬ S q) (h2 : ∀ (i : Nat) (a : α), xs[i]? = some a → Sep (k.inn a) S) : GrowL k w' base T v n xs := by
 refine ⟨h.len, ⟨h.own.1, ?_⟩, fun i a e => K.widen (K.keptS (h.each i a e) hk (h2 i a e)) (Nat.le_refl _) hk.size, h.far, h.sep⟩
 rcases h.own.2 with q | ⟨g, cap, cur, hv, hg, hh, rest⟩
 ·exact .inl q
 ·have hlt : g < w.heap.size := by
   rcases Nat.lt_or_ge g w.heap.size with q | q
   ·exact q
   ·rw [Array.getElem?_eq_none q] at hh;cases hh
  exact .inr ⟨g, cap, cur, hv, hg, by rw [hk.block g hlt (h1 g (by rw [hv];rfl))];exact hh, rest⟩
def inV (M : Hd) (ys : List Mal) (q : Nat) : Prop := (hv M).ownBlock = some q ∨ ∃ (i : Nat) (a : Mal), ys[i]? = some a ∧ mailK.inn a q
structure MGr (W : World) (T : TypeId) (z u : Nat) (M : Hd) (ys : List Mal) : Prop where
 gr : GrowL mailK W z T (hv M) M.2.1 ys
 lt : ∀ q, inV M ys q → q < u
section
variable {w w' : World} {T : TypeId} {z u : Nat} {M : Hd} {ys : List Mal}
theorem MGr.inB (x : MGr w T z u M ys) {q : Nat} (hq : inV M ys q) : z ≤ q ∧ q < u ∧ q < w.heap.size := by
 have h1 := x.lt q hq
 rcases hq with h | ⟨i, a, e, h⟩
 ·have := x.gr.own.lt q h;exact ⟨this.1, h1, this.2⟩
 ·have := mailOk.inB (x.gr.each i a e) h;exact ⟨this.1, h1, this.2.2⟩
theorem MGr.below (x : MGr w T z u M ys) (hb : Below w.heap.size w w') : MGr w' T z u M ys := ⟨x.gr.below mailOk hb, x.lt⟩
theorem MGr.keptS (x : MGr w T z u M ys) {S : Nat → Prop} (hk : KeptS S w w') (hd : Sep (inV M ys) S) : MGr w' T z u M ys :=
 ⟨x.gr.keptS mailOk hk (fun q hq => hd q (Or.inl hq)) (fun i a e q hq => hd q (Or.inr ⟨i, a, e, hq⟩)), x.lt⟩
theorem MGr.kept (x : MGr w T z u M ys) {l r : Nat} (hk : Kept l r w w') (hd : u ≤ l ∨ r ≤ z) : MGr w' T z u M ys :=
 x.keptS (S := fun q => l ≤ q ∧ q < r) (hk.toS fun k h1 h2 => ⟨h1, h2⟩) fun q hq hs => by have := x.inB hq;omega
theorem MGr.mono (x : MGr w T z u M ys) {u' : Nat} (h : u ≤ u') : MGr w T z u' M ys := ⟨x.gr, fun q hq => Nat.lt_of_lt_of_le (x.lt q hq) h⟩
end
theorem mono_own {w : World} {base base' : Nat} {e : TypeId} {size : Nat} {v : Value} {n : Nat} {xs : List Value} (h : w.ownsRow base e size v n xs) (hb : base' ≤ base) : w.ownsRow base' e size v n xs := by
 refine ⟨h.1, ?_⟩
 rcases h.2 with q | ⟨g, cap, cur, hv, hg, rest⟩
 ·exact .inl q
 ·exact .inr ⟨g, cap, cur, hv, Nat.le_trans hb hg, rest⟩
theorem GrowL.lower {α : Type} {k : Kd α} (K : KdOk k) {w : World} {base base' : Nat} {T : TypeId} {v : Value} {n : Nat} {xs : List α} (h : GrowL k w base T v n xs) (hb : base' ≤ base) : GrowL k w base' T v n xs :=
 ⟨h.len, mono_own h.own hb, fun i a e => K.widen (h.each i a e) hb (Nat.le_refl _), h.far, h.sep⟩
structure LiveAt (W : World) (T : TypeId) (base b : Nat) (N M S : Hd) (xs : List Nod) (ys : List Mal) (es : List En) : Prop where
 bx : Bx W b [.slice N.1 N.2.1 N.2.2, .slice M.1 M.2.1 M.2.2, .slice S.1 S.2.1 S.2.2]
 bb : base ≤ b
 nodes : NAt W true base W.heap.size N xs
 mails : MGr W T base W.heap.size M ys
 slog : RowAt W true base W.heap.size 6 S.1 S.2.1 S.2.2 (sixs es)
 sNM : Sep (inL nodeK N.1 N.2.1 xs) (inV M ys)
 sNS : Sep (inL nodeK N.1 N.2.1 xs) (hR S)
 sMS : Sep (inV M ys) (hR S)
 bN : ¬ inL nodeK N.1 N.2.1 xs b
 bM : ¬ inV M ys b
 bS : ¬ hR S b
 sz : ClSz N M S xs ys 1048576
theorem LiveAt.below {W W' : World} {T : TypeId} {base b : Nat} {N M S : Hd} {xs : List Nod} {ys : List Mal} {es : List En} (x : LiveAt W T base b N M S xs ys es) (hb : Below W.heap.size W W') : LiveAt W' T base b N M S xs ys es :=
 ⟨x.bx.below hb, x.bb, (x.nodes.below hb).widen (Nat.le_refl _) hb.size, (x.mails.below hb).mono hb.size, (x.slog.below hb).widen (Nat.le_refl _) hb.size, x.sNM, x.sNS, x.sMS, x.bN, x.bM, x.bS, x.sz⟩
theorem liveAt_of {W : World} {T : TypeId} {base b z1 u1 z2 u2 z3 u3 : Nat} {N M S : Hd} {xs : List Nod} {ys : List Mal} {es : List En} (X : Bx W b [.slice N.1 N.2.1 N.2.2, .slice M.1 M.2.1 M.2.2, .slice S.1 S.2.1 S.2.2]) (hb : base ≤ b) (n : NAt W true z1 u1 N xs) (m : MGr W T z2 u2 M ys) (s : RowAt W true z3 u3 6 S.1 S.2.1 S.2.2 (sixs es)) (h1 : base ≤ z1) (h2 : base ≤ z2) (h3 : base ≤ z3) (g1 : u1 ≤ W.heap.size) (g3 : u3 ≤ W.heap.size) (a1 : u1 ≤ z2) (a2 : u1 ≤ z3) (a3 : u2 ≤ z3) (k1 : u1 ≤ b) (k2 : u2 ≤ b) (k3 : u3 ≤ b) (sz : ClSz N M S xs ys 1048576) : LiveAt W T base b N M S xs ys es := by
 refine ⟨X, hb, n.widen h1 g1, ⟨m.gr.lower mailOk h2, fun q hq => (m.inB hq).2.2⟩, s.widen h3 g3, fun q a b' => ?_, fun q a b' => ?_, fun q a b' => ?_, fun a => ?_, fun a => ?_, fun a => ?_, sz⟩
 ·have := n.inB a;have := m.inB b';omega
 ·have := n.inB a;have := s.inB b';omega
 ·have := m.inB a;have := s.inB b';omega
 ·have := n.inB a;omega
 ·have := m.inB a;omega
 ·have := s.inB a;omega
theorem MGr.at {w : World} {T : TypeId} {z u : Nat} {M : Hd} {ys : List Mal} (x : MGr w T z u M ys) : MAt w true z w.heap.size M ys := by
 obtain ⟨ao, cap, e, L⟩ := x.gr.els
 have e' : Value.slice M.1 M.2.1 M.2.2 = .slice ao M.2.1 cap := e
 simp only [Value.slice.injEq, true_and] at e'
 obtain ⟨e1, e2⟩ := e'
 show LAt mailK w true z w.heap.size M.1 M.2.1 M.2.2 ys
 rw [e1, e2];exact L
theorem inL_inV {M : Hd} {ys : List Mal} {w : World} {T : TypeId} {z u : Nat} (x : MGr w T z u M ys) {q : Nat} (h : inL mailK M.1 M.2.1 ys q) : inV M ys q := by
 rcases h with ⟨h0, rfl⟩ | h
 ·obtain ⟨ao, cap, e, _, hb⟩ := owns_slice x.gr.own
  have e' : Value.slice M.1 M.2.1 M.2.2 = .slice ao M.2.1 cap := e
  simp only [Value.slice.injEq, true_and] at e';refine Or.inl ?_;rw [hb h0, e'.1]
 ·exact Or.inr h
theorem LiveAt.clu {W : World} {T : TypeId} {base b : Nat} {N M S : Hd} {xs : List Nod} {ys : List Mal} {es : List En} (x : LiveAt W T base b N M S xs ys es) : ClAt W true base W.heap.size N M S xs ys es :=
 ⟨x.nodes, x.mails.at, x.slog, fun _ => ⟨fun q a c => x.sNM q a (inL_inV x.mails c), x.sNS, fun q a c => x.sMS q (inL_inV x.mails a) c⟩⟩
end Go.Proofs.YtclghfoinologaaGreat
