/- What 'append' onto a slice that has no room leaves, whatever the source; and what the model's copy of a disk answers. -/
import Derived.Test.YtannjgdginfgeaaZA
import Derived.Deep.MidRow
import Derived.Deep.RegionHeld3
import Derived.Deep.WholeRow
import Derived.Deep.AppendSrc
import Derived.Maps.AppendAt
namespace Go.Proofs.Ytannjgdginfgeaa
open Go.RowKit

theorem row_src {P : Program} {w : World} {o : Bool} {l u size : Nat} {ao : Option Addr} {m c : Nat} {news : List Value} {t e : TypeId} (hk : P.underlying t = some (.slice e)) (h : RowAt w o l u size ao m c news) (h1 : ∀ x ∈ news, x.oneCell' = true) : Src P size t (.slice ao m c) m news w := by
  by_cases hm : m = 0
  · subst hm
    have hn : news = [] := List.eq_nil_of_length_eq_zero (by have := h.len; omega)
    subst hn
    cases ao with
    | none => exact Src.ofNil w hk c
    | some a => exact Src.ofSlice w hk a 0 c [] (by simp) (fun j u hj => by simp at hj) (fun _ h => by cases h)
  · obtain ⟨b, off, rfl, _, _, _, hc, _⟩ := h.cells hm
    refine Src.ofSlice w hk ⟨b, off, none⟩ m c news h.len (fun j u hj => ?_) h1
    have hj' := (List.getElem?_eq_some_iff.1 hj).1
    rw [show (⟨b, off, none⟩ : Addr).add j = ⟨b, off + j, none⟩ by simp [Addr.add], hc j (by have := h.len; omega)]
    simp [List.getD, hj]

theorem RowAt.of_front {w : World} {g n cap size : Nat} {cs : List Value} {rest : Array Value} {t : TypeId} (h : w.heap[g]? = some (.cells (cs.toArray ++ rest) t (0, 0))) (hn : cs.length = n * size) (hc : n ≤ cap) : RowAt w true g (g + 1) size (some ⟨g, 0, none⟩) n cap cs := by
  have hlt : g < w.heap.size := (Array.getElem?_eq_some_iff.1 h).1
  refine ⟨hn, hc, fun _ => ⟨g, 0, rfl, Nat.le_refl _, by omega, hlt, fun i hi => ?_, fun _ i _ => frozen_of_row w g _ _ t h⟩⟩
  rw [cell_of_row w g _ _ t (0, 0) h]
  have : i < cs.length := by omega
  simp [List.getD, Array.getElem?_append, this]

theorem Kept.frozen {lo hi : Nat} {w w' : World} (h : Kept lo hi w w') {b o : Nat} (hl : b < w.heap.size) (hb : b < lo ∨ hi ≤ b) (hf : w.frozen? ⟨b, o, none⟩ = false) : w'.frozen? ⟨b, o, none⟩ = false := by
  simp only [World.frozen?, h.block b hl hb] at hf ⊢
  exact hf
/-- A slice that may be appended to: it has no room and nothing in it, or its row is the call's own, in a block below hi. -/
def Fresh (w : World) (lo hi : Nat) (e : TypeId) (size : Nat) (v : Value) (n : Nat) (cs : List Value) : Prop :=
  (n = 0 ∧ cs = [] ∧ ∃ g, v = .slice (some ⟨g, 0, none⟩) 0 0) ∨ (w.ownsRow lo e size v n cs ∧ ∀ k, v.ownBlock = some k → k < hi)
theorem owns_kept {w w' : World} {base : Nat} {e : TypeId} {size : Nat} {v : Value} {n : Nat} {xs : List Value} (h : w.ownsRow base e size v n xs) {l u : Nat} (hk : Kept l u w w') (hd : ∀ k, v.ownBlock = some k → k < l ∨ u ≤ k) : w'.ownsRow base e size v n xs := by
  refine ⟨h.1, ?_⟩
  rcases h.2 with h2 | ⟨g, cap, cur, rfl, hg, hh, r⟩
  · exact Or.inl h2
  · exact Or.inr ⟨g, cap, cur, rfl, hg, by rw [hk.block g (Array.getElem?_eq_some_iff.1 hh).1 (hd g rfl)]; exact hh, r⟩
theorem Fresh.kept {w w' : World} {lo hi : Nat} {e : TypeId} {size : Nat} {v : Value} {n : Nat} {cs : List Value} (h : Fresh w lo hi e size v n cs) {l u : Nat} (hk : Kept l u w w') (hd : hi ≤ l ∨ u ≤ lo) : Fresh w' lo hi e size v n cs := by
  rcases h with h | ⟨h, h2⟩
  · exact Or.inl h
  · refine Or.inr ⟨owns_kept h hk fun k hv => ?_, h2⟩
    have := h2 k hv
    have := (h.lt k hv).1
    omega
theorem Fresh.widen {w : World} {lo lo' hi hi' : Nat} {e : TypeId} {size : Nat} {v : Value} {n : Nat} {cs : List Value} (h : Fresh w lo hi e size v n cs) (hl : lo' ≤ lo) (hh : hi ≤ hi') : Fresh w lo' hi' e size v n cs := by
  rcases h with h | ⟨⟨h1, h2⟩, h3⟩
  · exact Or.inl h
  · refine Or.inr ⟨⟨h1, ?_⟩, fun k hk => Nat.lt_of_lt_of_le (h3 k hk) hh⟩
    rcases h2 with h2 | ⟨g, cap, cur, a, b, c⟩
    · exact Or.inl h2
    · exact Or.inr ⟨g, cap, cur, a, Nat.le_trans hl b, c⟩
theorem Fresh.below {w w' : World} {lo hi : Nat} {e : TypeId} {size : Nat} {v : Value} {n : Nat} {cs : List Value} (h : Fresh w lo hi e size v n cs) (hb : Below w.heap.size w w') : Fresh w' lo hi e size v n cs :=
  h.kept (l := hi) (u := hi) (Kept.of_below hb) (Or.inl (Nat.le_refl _))

/-- 'append(s, src...)' where s, a slice that is nil or owns no room, is of length 0. -/
theorem run_append_fresh {P : Program} (w : World) (t ty e : TypeId) (i : TypeInfo) (z : Value) (size bytes : Nat) (ht : P.underlying t = some (.slice e)) (hi : P.info? e = some i) (hz : i.zero = some z) (hsize : i.size = size) (hby : i.bytes = bytes) (hzs0 : z.cells.size = i.size)
    (g : Nat) {o : Bool} {l u : Nat} (ao : Option Addr) (m c : Nat) (news : List Value) (hsrc : RowAt w o l u size ao m c news) (h1 : ∀ x ∈ news, x.oneCell' = true) (h63 : m ≤ 1048576) (hb : bytes ≤ 1048576) :
    ∃ ad' cap' w', (Builtin.append_ #[t, t] ty #[.slice (some ⟨g, 0, none⟩) 0 0, .slice ao m c]).run P w = .ok (.slice (some ad') m cap') w' ∧ RowAt w' true w.heap.size w'.heap.size size (some ad') m cap' news ∧ Below w.heap.size w w' ∧ Fresh w' w.heap.size w'.heap.size e size (.slice (some ad') m cap') m news := by
  subst hsize
  subst hby
  have hs := row_src ht hsrc h1
  by_cases hm : m = 0
  · subst hm
    have hn : news = [] := List.eq_nil_of_length_eq_zero (by have := hsrc.len; omega)
    subst hn
    refine ⟨⟨g, 0, none⟩, 0, w, ?_, ⟨by simp, Nat.le_refl _, fun h => absurd rfl h⟩, Below.refl _ _, Or.inl ⟨rfl, rfl, _, rfl⟩⟩
    have := run_append_room_src (P := P) w t t ty e i ht hi g 0 0 0 (.slice ao 0 c) 0 [] hs (by omega) (fun j hj => by simp at hj) (fun j hj => by simp at hj)
    simpa [World.setCells] using this
  · have hold : (Builtin.firstCells i.size 0 (.slice (some ⟨g, 0, none⟩) 0 0)).run P w.drew = .ok ([] : List Value).toArray w.drew := run_firstCells_some w.drew i.size 0 ⟨g, 0, none⟩ 0 0 [] (by simp) (fun j v hj => by simp at hj)
    have hmb : m * i.bytes ≤ 140737488355328 := Nat.le_trans (Nat.mul_le_mul h63 hb) (by decide)
    have := run_append_grow_src (P := P) w t t ty e i z ht hi hz (some ⟨g, 0, none⟩) 0 0 [] hold (.slice ao m c) m news hs (by omega) (by omega) (by rw [Nat.zero_add]; exact growslice_fits (by omega) hmb)
    rw [Nat.zero_add] at this
    have hzs : z.cells.size = i.size := hzs0
    refine ⟨_, _, _, this, ?_, (Below.refl _ _).drew.alloc (Nat.le_refl _) _, Or.inr ⟨⟨hsrc.len, Or.inr ⟨w.heap.size, _, _, rfl, Nat.le_refl _, heap_alloc_new w.drew _, grownCap_ge w m 0 e, grownCap_le_maxLen w m 0 e (by unfold maxLen; omega), ?_, ?_⟩⟩, fun k hk => by simp [Value.ownBlock] at hk; subst hk; simp⟩⟩
    rotate_left 1
    · rw [Array.size_append, size_zeroCells, hzs]
      have := grownCap_ge w m 0 e
      have hl := hsrc.len
      simp only [List.nil_append, List.size_toArray, hl]
      rw [← Nat.add_mul]
      congr 1
      omega
    · simp [hsrc.len]
    have hh : (w.drew.alloc (.cells (([] ++ news).toArray ++ Builtin.zeroCells z.cells (grownCap w m 0 e - m)) e)).heap[w.heap.size]? = some (.cells (news.toArray ++ Builtin.zeroCells z.cells (grownCap w m 0 e - m)) e (0, 0)) := heap_alloc_new w.drew _
    exact (RowAt.of_front hh hsrc.len (grownCap_ge w m 0 e)).widen (Nat.le_refl _) (by simp)

end Go.Proofs.Ytannjgdginfgeaa
