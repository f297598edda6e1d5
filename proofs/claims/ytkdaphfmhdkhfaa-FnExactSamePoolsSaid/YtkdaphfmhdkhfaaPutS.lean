/- What 'append' onto a slice that has no room leaves, whatever the source; and what the model's copy of a disk answers. -/
import Derived.Test.YtkdaphfmhdkhfaaAll
import Derived.Deep.AppendSrc
import Derived.Deep.RegionHeld3
import Derived.Maps.AppendAt
namespace Go.Proofs.Ytkdaphfmhdkhfaa
open Go.RowKit

theorem row_src {P : Program} {w : World} {o : Bool} {l u size : Nat} {ao : Option Addr} {m c : Nat} {news : List Value} {t e : TypeId} (hk : P.underlying t = some (.slice e)) (h : RowAt w o l u size ao m c news) (h1 : ∀ x ∈ news, x.oneCell' = true) : Src P size t (.slice ao m c) m news w := by
  by_cases hm : m = 0
  · subst hm
    have hn : news = [] := List.eq_nil_of_length_eq_zero (by have := h.len; omega)
    subst hn
    cases ao with
    | none => exact Src.ofNil w hk c
    | some a => exact Src.ofSlice w hk a 0 c [] (by simp) (fun j u hj => by simp at hj) (fun _ h => by cases h)
  · obtain ⟨b, off, rfl, _, _, _, hc, _⟩ := h.cells hm
    refine Src.ofSlice w hk ⟨b, off, none⟩ m c news h.len (fun j u hj => ?_) h1
    have hj' := (List.getElem?_eq_some_iff.1 hj).1
    rw [show (⟨b, off, none⟩ : Addr).add j = ⟨b, off + j, none⟩ by simp [Addr.add], hc j (by have := h.len; omega)]
    simp [List.getD, hj]

theorem RowAt.of_front {w : World} {g n cap size : Nat} {cs : List Value} {rest : Array Value} {t : TypeId} (h : w.heap[g]? = some (.cells (cs.toArray ++ rest) t (0, 0))) (hn : cs.length = n * size) (hc : n ≤ cap) : RowAt w true g (g + 1) size (some ⟨g, 0, none⟩) n cap cs := by
  have hlt : g < w.heap.size := (Array.getElem?_eq_some_iff.1 h).1
  refine ⟨hn, hc, fun _ => ⟨g, 0, rfl, Nat.le_refl _, by omega, hlt, fun i hi => ?_, fun _ i _ => frozen_of_row w g _ _ t h⟩⟩
  rw [cell_of_row w g _ _ t (0, 0) h]
  have : i < cs.length := by omega
  simp [List.getD, Array.getElem?_append, this]

theorem Kept.frozen {lo hi : Nat} {w w' : World} (h : Kept lo hi w w') {b o : Nat} (hl : b < w.heap.size) (hb : b < lo ∨ hi ≤ b) (hf : w.frozen? ⟨b, o, none⟩ = false) : w'.frozen? ⟨b, o, none⟩ = false := by
  simp only [World.frozen?, h.block b hl hb] at hf ⊢
  exact hf
theorem RowAt.pin {w : World} {o : Bool} {lo hi size g n cap : Nat} {cs : List Value} (h : RowAt w o lo hi size (some ⟨g, 0, none⟩) n cap cs) : RowAt w o g (g + 1) size (some ⟨g, 0, none⟩) n cap cs := by
  refine ⟨h.len, h.le, fun hn => ?_⟩
  obtain ⟨b, off, e, _, _, r⟩ := h.cells hn
  cases e
  exact ⟨_, _, rfl, Nat.le_refl _, Nat.lt_succ_self _, r⟩

/-- A slice that may be appended to: it has no room and nothing in it, or its row is the call's own, in a block below hi. -/
def Fresh (w : World) (lo hi : Nat) (e : TypeId) (size : Nat) (v : Value) (n : Nat) (cs : List Value) : Prop :=
  (n = 0 ∧ cs = [] ∧ ∃ g, v = .slice (some ⟨g, 0, none⟩) 0 0) ∨ (w.ownsRow lo e size v n cs ∧ ∀ k, v.ownBlock = some k → k < hi)
theorem owns_kept {w w' : World} {base : Nat} {e : TypeId} {size : Nat} {v : Value} {n : Nat} {xs : List Value} (h : w.ownsRow base e size v n xs) {l u : Nat} (hk : Kept l u w w') (hd : ∀ k, v.ownBlock = some k → k < l ∨ u ≤ k) : w'.ownsRow base e size v n xs := by
  refine ⟨h.1, ?_⟩
  rcases h.2 with h2 | ⟨g, cap, cur, rfl, hg, hh, r⟩
  · exact Or.inl h2
  · exact Or.inr ⟨g, cap, cur, rfl, hg, by rw [hk.block g (Array.getElem?_eq_some_iff.1 hh).1 (hd g rfl)]; exact hh, r⟩
theorem Fresh.kept {w w' : World} {lo hi : Nat} {e : TypeId} {size : Nat} {v : Value} {n : Nat} {cs : List Value} (h : Fresh w lo hi e size v n cs) {l u : Nat} (hk : Kept l u w w') (hd : hi ≤ l ∨ u ≤ lo) : Fresh w' lo hi e size v n cs := by
  rcases h with h | ⟨h, h2⟩
  · exact Or.inl h
  · refine Or.inr ⟨owns_kept h hk fun k hv => ?_, h2⟩
    have := h2 k hv
    have := (h.lt k hv).1
    omega
theorem Fresh.widen {w : World} {lo lo' hi hi' : Nat} {e : TypeId} {size : Nat} {v : Value} {n : Nat} {cs : List Value} (h : Fresh w lo hi e size v n cs) (hl : lo' ≤ lo) (hh : hi ≤ hi') : Fresh w lo' hi' e size v n cs := by
  rcases h with h | ⟨⟨h1, h2⟩, h3⟩
  · exact Or.inl h
  · refine Or.inr ⟨⟨h1, ?_⟩, fun k hk => Nat.lt_of_lt_of_le (h3 k hk) hh⟩
    rcases h2 with h2 | ⟨g, cap, cur, a, b, c⟩
    · exact Or.inl h2
    · exact Or.inr ⟨g, cap, cur, a, Nat.le_trans hl b, c⟩
theorem Fresh.below {w w' : World} {lo hi : Nat} {e : TypeId} {size : Nat} {v : Value} {n : Nat} {cs : List Value} (h : Fresh w lo hi e size v n cs) (hb : Below w.heap.size w w') : Fresh w' lo hi e size v n cs :=
  h.kept (l := hi) (u := hi) (Kept.of_below hb) (Or.inl (Nat.le_refl _))

/-- 'append(s, src...)' where s, a slice that is nil or owns no room, is of length 0. -/
theorem run_append_fresh {P : Program} (w : World) (t ty e : TypeId) (i : TypeInfo) (z : Value) (size bytes : Nat) (ht : P.underlying t = some (.slice e)) (hi : P.info? e = some i) (hz : i.zero = some z) (hsize : i.size = size) (hby : i.bytes = bytes) (hzs0 : z.cells.size = i.size)
    (g : Nat) {o : Bool} {l u : Nat} (ao : Option Addr) (m c : Nat) (news : List Value) (hsrc : RowAt w o l u size ao m c news) (h1 : ∀ x ∈ news, x.oneCell' = true) (h63 : m ≤ 1048576) (hb : bytes ≤ 1048576) :
    ∃ ad' cap' w', (Builtin.append_ #[t, t] ty #[.slice (some ⟨g, 0, none⟩) 0 0, .slice ao m c]).run P w = .ok (.slice (some ad') m cap') w' ∧ RowAt w' true w.heap.size w'.heap.size size (some ad') m cap' news ∧ Below w.heap.size w w' ∧ Fresh w' w.heap.size w'.heap.size e size (.slice (some ad') m cap') m news := by
  subst hsize
  subst hby
  have hs := row_src ht hsrc h1
  by_cases hm : m = 0
  · subst hm
    have hn : news = [] := List.eq_nil_of_length_eq_zero (by have := hsrc.len; omega)
    subst hn
    refine ⟨⟨g, 0, none⟩, 0, w, ?_, ⟨by simp, Nat.le_refl _, fun h => absurd rfl h⟩, Below.refl _ _, Or.inl ⟨rfl, rfl, _, rfl⟩⟩
    have := run_append_room_src (P := P) w t t ty e i ht hi g 0 0 0 (.slice ao 0 c) 0 [] hs (by omega) (fun j hj => by simp at hj) (fun j hj => by simp at hj)
    simpa [World.setCells] using this
  · have hold : (Builtin.firstCells i.size 0 (.slice (some ⟨g, 0, none⟩) 0 0)).run P w.drew = .ok ([] : List Value).toArray w.drew := run_firstCells_some w.drew i.size 0 ⟨g, 0, none⟩ 0 0 [] (by simp) (fun j v hj => by simp at hj)
    have hmb : m * i.bytes ≤ 140737488355328 := Nat.le_trans (Nat.mul_le_mul h63 hb) (by decide)
    have := run_append_grow_src (P := P) w t t ty e i z ht hi hz (some ⟨g, 0, none⟩) 0 0 [] hold (.slice ao m c) m news hs (by omega) (by omega) (by rw [Nat.zero_add]; exact growslice_fits (by omega) hmb)
    rw [Nat.zero_add] at this
    have hzs : z.cells.size = i.size := hzs0
    refine ⟨_, _, _, this, ?_, (Below.refl _ _).drew.alloc (Nat.le_refl _) _, Or.inr ⟨⟨hsrc.len, Or.inr ⟨w.heap.size, _, _, rfl, Nat.le_refl _, heap_alloc_new w.drew _, grownCap_ge w m 0 e, grownCap_le_maxLen w m 0 e (by unfold maxLen; omega), ?_, ?_⟩⟩, fun k hk => by simp [Value.ownBlock] at hk; subst hk; simp⟩⟩
    rotate_left 1
    · rw [Array.size_append, size_zeroCells, hzs]
      have := grownCap_ge w m 0 e
      have hl := hsrc.len
      simp only [List.nil_append, List.size_toArray, hl]
      rw [← Nat.add_mul]
      congr 1
      omega
    · simp [hsrc.len]
    have hh : (w.drew.alloc (.cells (([] ++ news).toArray ++ Builtin.zeroCells z.cells (grownCap w m 0 e - m)) e)).heap[w.heap.size]? = some (.cells (news.toArray ++ Builtin.zeroCells z.cells (grownCap w m 0 e - m)) e (0, 0)) := heap_alloc_new w.drew _
    exact (RowAt.of_front hh hsrc.len (grownCap_ge w m 0 e)).widen (Nat.le_refl _) (by simp)

/-- .. as one step of a region that draws its order. -/
theorem step_append_fresh {P : Program} {ops : Array Oper} {dst : Option Tmp} {type : TypeId} {pos : String} {after : Array Edge} {a : Act} {w : World} {K : Act → World → Prop} {Q : Exit → Act → World → Prop} {E : Prop} {s x : Operand} (t e : TypeId) (i : TypeInfo) (z : Value) (size bytes : Nat) (ht : P.underlying t = some (.slice e)) (hi : P.info? e = some i) (hz : i.zero = some z) (hsize : i.size = size) (hby : i.bytes = bytes) (hzs0 : z.cells.size = i.size)
    {o : Bool} {l u : Nat} (ao : Option Addr) (m c : Nat) (news : List Value) (hsrc : RowAt w o l u size ao m c news) (h1 : ∀ x ∈ news, x.oneCell' = true) (h63 : m ≤ 1048576) (hb : bytes ≤ 1048576)
    (hs0 : ∃ g, a.eval s = .slice (some ⟨g, 0, none⟩) 0 0) (hx : a.eval x = .slice ao m c)
    (h : ∀ ad' cap' w', RowAt w' true w.heap.size w'.heap.size size (some ad') m cap' news → Below w.heap.size w w' → Fresh w' w.heap.size w'.heap.size e size (.slice (some ad') m cap') m news → K (a.put dst (.slice (some ad') m cap')) w') :
    if Region.wanted ⟨dst, .call { callee := .builtin .append, args := #[s, x], argTypes := #[t, t] }, type, pos, after, none⟩ (yielded ops a.tmps) = true then Oper.wp P ⟨dst, .call { callee := .builtin .append, args := #[s, x], argTypes := #[t, t] }, type, pos, after, none⟩ a w K Q else E := by
  have hw : Region.wanted ⟨dst, .call { callee := .builtin .append, args := #[s, x], argTypes := #[t, t] }, type, pos, after, none⟩ (yielded ops a.tmps) = true := by simp [Region.wanted]
  rw [if_pos hw]
  obtain ⟨g, hs⟩ := hs0
  obtain ⟨ad', cap', w', hr, h2, h3, h4⟩ := run_append_fresh (P := P) w t type e i z size bytes ht hi hz hsize hby hzs0 g ao m c news hsrc h1 h63 hb
  unfold Oper.wp execOp
  simp only [resolve, invoke, builtin, Sem.run_bind, Sem.run_pure, Result.andThen_ok, List.map_toArray, List.map_cons, List.map_nil, hs, hx, hr]
  exact h ad' cap' w' h2 h3 h4

theorem pairs_one (ys : List (Int × Int)) : ∀ x ∈ pairs ys, x.oneCell' = true := by
  intro x hx
  simp only [pairs, List.mem_flatMap] at hx
  obtain ⟨p, _, hp⟩ := hx
  simp at hp
  rcases hp with rfl | rfl <;> rfl

/-- One element (or more) behind a slice that may be appended to. -/
theorem run_append_more {P : Program} (w : World) (t ty e : TypeId) (i : TypeInfo) (z : Value) (size bytes : Nat) (ht : P.underlying t = some (.slice e)) (hi : P.info? e = some i) (hz : i.zero = some z) (hsize : i.size = size) (hby : i.bytes = bytes) (hzs0 : z.cells.size = i.size) (hsz : 0 < size)
    (lo up : Nat) (v : Value) (n : Nat) (cs : List Value) (hF : Fresh w lo up e size v n cs) (hlo : lo ≤ w.heap.size)
    {o : Bool} {l u : Nat} (ad : Addr) (m c : Nat) (news : List Value) (hsrc : RowAt w o l u size (some ad) m c news) (hm : m ≠ 0) (h1 : ∀ x ∈ news, x.oneCell' = true) (h63 : n + m ≤ 1048576) (hb : bytes ≤ 1048576) :
    ∃ ao' cap' w' l' u', (Builtin.append_ #[t, t] ty #[v, .slice (some ad) m c]).run P w = .ok (.slice ao' (n + m) cap') w' ∧ RowAt w' true l' u' size ao' (n + m) cap' (cs ++ news) ∧ Kept lo up w w' ∧ lo ≤ l' ∧ u' ≤ w'.heap.size ∧ (u' ≤ up ∨ w.heap.size ≤ l') := by
  rcases hF with ⟨rfl, rfl, g, rfl⟩ | ⟨hown, hlt⟩
  · obtain ⟨ad', cap', w', hr, h2, h3, _⟩ := run_append_fresh (P := P) w t ty e i z size bytes ht hi hz hsize hby hzs0 g (some ad) m c news hsrc h1 (by omega) hb
    refine ⟨some ad', cap', w', w.heap.size, w'.heap.size, ?_, ?_, Kept.of_below h3, hlo, Nat.le_refl _, Or.inr (Nat.le_refl _)⟩
    · rw [Nat.zero_add]; exact hr
    · rw [Nat.zero_add, List.nil_append]; exact h2
  · have hmb : (n + m) * bytes ≤ 140737488355328 := Nat.le_trans (Nat.mul_le_mul h63 hb) (by decide)
    obtain ⟨v', w', hr, h2, h3, _, hat⟩ := run_append_own_at (P := P) w lo t ty e i z size bytes ht hi hz hsize hby (by rw [hzs0, hsize]) hsz v n cs hown ad m c news hsrc.len (fun j u hj => by
      have hj' := (List.getElem?_eq_some_iff.1 hj).1
      obtain ⟨b, off, e', _, _, _, hc, _⟩ := hsrc.cells hm
      cases e'
      rw [show (⟨b, off, none⟩ : Addr).add j = ⟨b, off + j, none⟩ by simp [Addr.add], hc j (by have := hsrc.len; omega)]
      simp [List.getD, hj]) h1 (by unfold maxLen; omega) hmb hlo
    have hk : Kept lo up w w' := ⟨h3.os, h3.tape, h3.output, h3.size, fun k hk hd => h3.block k hk fun e' => by
      have a1 := hlt k e'.symm
      have a2 := (hown.lt k e'.symm).1
      omega⟩
    rcases h2.2 with ⟨rfl, e0⟩ | ⟨g, cap, cur, rfl, hg, hh, hc, hr2⟩
    · exact absurd e0 (by omega)
    · have hgb : (Value.slice (some ⟨g, 0, none⟩) (n + m) cap).ownBlock = some g := rfl
      have hl := (h2.lt g hgb).2
      refine ⟨_, cap, w', g, g + 1, hr, (RowAt.of_owns h2 hc).pin, hk, hg, hl, ?_⟩
      rcases hat with hat | hat
      · exact Or.inl (hlt g (hat.symm.trans hgb))
      · rw [hgb] at hat; cases hat; exact Or.inr (Nat.le_refl _)

end Go.Proofs.Ytkdaphfmhdkhfaa
