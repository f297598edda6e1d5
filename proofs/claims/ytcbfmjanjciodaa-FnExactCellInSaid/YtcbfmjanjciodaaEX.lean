/- What this law needs of the texts before it beyond what stands in them. -/
import Derived.Test.YtcbfmjanjciodaaBase
import Derived.Test.YtcbfmjanjciodaaZT
import Derived.Test.YtcbfmjanjciodaaCopy
import Derived.Test.YtcbfmjanjciodaaMark
import Derived.Test.YtcbfmjanjciodaaEq
import Derived.Test.YtcbfmjanjciodaaMark2
import Derived.Test.YtcbfmjanjciodaaBC
import Derived.Test.YtcbfmjanjciodaaSm
import Derived.Test.YtcbfmjanjciodaaFault
import Derived.Test.YtcbfmjanjciodaaArr
import Derived.Test.YtcbfmjanjciodaaFlush
import Derived.Test.YtcbfmjanjciodaaSpec1
import Derived.Test.YtcbfmjanjciodaaSFlush
import Derived.Test.YtcbfmjanjciodaaAll
import Derived.Test.YtcbfmjanjciodaaPutS
import Derived.Test.YtcbfmjanjciodaaFacts
import Derived.Test.YtcbfmjanjciodaaZM
import Derived.Test.YtcbfmjanjciodaaZR
import Derived.Test.YtcbfmjanjciodaaYE
import Derived.Test.YtcbfmjanjciodaaZY
import Derived.Test.YtcbfmjanjciodaaP1
import Derived.Test.YtcbfmjanjciodaaP2
import Derived.Test.YtcbfmjanjciodaaP4
import Derived.Test.YtcbfmjanjciodaaP3
import Derived.Test.YtcbfmjanjciodaaQ0
import Derived.Test.YtcbfmjanjciodaaZU
import Derived.Test.YtcbfmjanjciodaaT8
import Derived.Test.YtcbfmjanjciodaaZW
import Derived.Test.YtcbfmjanjciodaaZX
import Derived.Test.YtcbfmjanjciodaaZZ
import Derived.Test.YtcbfmjanjciodaaZQ
import Derived.Test.YtcbfmjanjciodaaZV
import Derived.Test.YtcbfmjanjciodaaYP
import Derived.Test.YtcbfmjanjciodaaPC
import Derived.Test.YtcbfmjanjciodaaPPl
import Derived.Test.YtcbfmjanjciodaaYL
import Derived.Test.YtcbfmjanjciodaaOpenP
import Derived.Test.YtcbfmjanjciodaaRowL
import Derived.Test.YtcbfmjanjciodaaLKP
namespace Go.Proofs.Ytcbfmjanjciodaa
open Go.RowKit

theorem row_src {P : Program} {w : World} {o : Bool} {l u size : Nat} {ao : Option Addr} {m c : Nat} {news : List Value} {t e : TypeId} (hk : P.underlying t = some (.slice e)) (h : RowAt w o l u size ao m c news) (h1 : ∀ x ∈ news, x.oneCell' = true) : Src P size t (.slice ao m c) m news w := by
  by_cases hm : m = 0
  · subst hm
    have hn : news = [] := List.eq_nil_of_length_eq_zero (by have := h.len; omega)
    subst hn
    cases ao with
    | none => exact Src.ofNil w hk c
    | some a => exact Src.ofSlice w hk a 0 c [] (by simp) (fun j u hj => by simp at hj) (fun _ h => by cases h)
  · obtain ⟨b, off, rfl, _, _, _, hc, _⟩ := h.cells hm
    refine Src.ofSlice w hk ⟨b, off, none⟩ m c news h.len (fun j u hj => ?_) h1
    have hj' := (List.getElem?_eq_some_iff.1 hj).1
    rw [show (⟨b, off, none⟩ : Addr).add j = ⟨b, off + j, none⟩ by simp [Addr.add], hc j (by have := h.len; omega)]
    simp [List.getD, hj]

theorem RowAt.of_front {w : World} {g n cap size : Nat} {cs : List Value} {rest : Array Value} {t : TypeId} (h : w.heap[g]? = some (.cells (cs.toArray ++ rest) t (0, 0))) (hn : cs.length = n * size) (hc : n ≤ cap) : RowAt w true g (g + 1) size (some ⟨g, 0, none⟩) n cap cs := by
  have hlt : g < w.heap.size := (Array.getElem?_eq_some_iff.1 h).1
  refine ⟨hn, hc, fun _ => ⟨g, 0, rfl, Nat.le_refl _, by omega, hlt, fun i hi => ?_, fun _ i _ => frozen_of_row w g _ _ t h⟩⟩
  rw [cell_of_row w g _ _ t (0, 0) h]
  have : i < cs.length := by omega
  simp [List.getD, Array.getElem?_append, this]

/-- 'append(s, src...)' where s, a slice that is nil or owns no room, is of length 0. -/
theorem run_append_fresh {P : Program} (w : World) (t ty e : TypeId) (i : TypeInfo) (z : Value) (size bytes : Nat) (ht : P.underlying t = some (.slice e)) (hi : P.info? e = some i) (hz : i.zero = some z) (hsize : i.size = size) (hby : i.bytes = bytes) (hzs0 : z.cells.size = i.size)
    (g : Nat) {o : Bool} {l u : Nat} (ao : Option Addr) (m c : Nat) (news : List Value) (hsrc : RowAt w o l u size ao m c news) (h1 : ∀ x ∈ news, x.oneCell' = true) (h63 : m ≤ 1048576) (hb : bytes ≤ 1048576) :
    ∃ ad' cap' w', (Builtin.append_ #[t, t] ty #[.slice (some ⟨g, 0, none⟩) 0 0, .slice ao m c]).run P w = .ok (.slice (some ad') m cap') w' ∧ RowAt w' true w.heap.size w'.heap.size size (some ad') m cap' news ∧ Below w.heap.size w w' ∧ Fresh w' w.heap.size w'.heap.size e size (.slice (some ad') m cap') m news := by
  subst hsize
  subst hby
  have hs := row_src ht hsrc h1
  by_cases hm : m = 0
  · subst hm
    have hn : news = [] := List.eq_nil_of_length_eq_zero (by have := hsrc.len; omega)
    subst hn
    refine ⟨⟨g, 0, none⟩, 0, w, ?_, ⟨by simp, Nat.le_refl _, fun h => absurd rfl h⟩, Below.refl _ _, Or.inl ⟨rfl, rfl, _, rfl⟩⟩
    have := run_append_room_src (P := P) w t t ty e i ht hi g 0 0 0 (.slice ao 0 c) 0 [] hs (by omega) (fun j hj => by simp at hj) (fun j hj => by simp at hj)
    simpa [World.setCells] using this
  · have hold : (Builtin.firstCells i.size 0 (.slice (some ⟨g, 0, none⟩) 0 0)).run P w.drew = .ok ([] : List Value).toArray w.drew := run_firstCells_some w.drew i.size 0 ⟨g, 0, none⟩ 0 0 [] (by simp) (fun j v hj => by simp at hj)
    have hmb : m * i.bytes ≤ 140737488355328 := Nat.le_trans (Nat.mul_le_mul h63 hb) (by decide)
    have := run_append_grow_src (P := P) w t t ty e i z ht hi hz (some ⟨g, 0, none⟩) 0 0 [] hold (.slice ao m c) m news hs (by omega) (by omega) (by rw [Nat.zero_add]; exact growslice_fits (by omega) hmb)
    rw [Nat.zero_add] at this
    have hzs : z.cells.size = i.size := hzs0
    refine ⟨_, _, _, this, ?_, (Below.refl _ _).drew.alloc (Nat.le_refl _) _, Or.inr ⟨⟨hsrc.len, Or.inr ⟨w.heap.size, _, _, rfl, Nat.le_refl _, heap_alloc_new w.drew _, grownCap_ge w m 0 e, grownCap_le_maxLen w m 0 e (by unfold maxLen; omega), ?_, ?_⟩⟩, fun k hk => by simp [Value.ownBlock] at hk; subst hk; simp⟩⟩
    rotate_left 1
    · rw [Array.size_append, size_zeroCells, hzs]
      have := grownCap_ge w m 0 e
      have hl := hsrc.len
      simp only [List.nil_append, List.size_toArray, hl]
      rw [← Nat.add_mul]
      congr 1
      omega
    · simp [hsrc.len]
    have hh : (w.drew.alloc (.cells (([] ++ news).toArray ++ Builtin.zeroCells z.cells (grownCap w m 0 e - m)) e)).heap[w.heap.size]? = some (.cells (news.toArray ++ Builtin.zeroCells z.cells (grownCap w m 0 e - m)) e (0, 0)) := heap_alloc_new w.drew _
    exact (RowAt.of_front hh hsrc.len (grownCap_ge w m 0 e)).widen (Nat.le_refl _) (by simp)

end Go.Proofs.Ytcbfmjanjciodaa

namespace Go.Proofs.Ytcbfmjanjciodaa
open Go.RowKit

theorem RowAt.news {w : World} {o : Bool} {l u size : Nat} {ad : Addr} {m c : Nat} {news : List Value} (h : RowAt w o l u size (some ad) m c news) (hm : m ≠ 0) : ∀ j x, news[j]? = some x → w.cell? (ad.add j) = some x := by
  intro j x hj
  have hj' := (List.getElem?_eq_some_iff.1 hj).1
  obtain ⟨b, off, e', _, _, _, hc, _⟩ := h.cells hm
  cases e'
  rw [show (⟨b, off, none⟩ : Addr).add j = ⟨b, off + j, none⟩ by simp [Addr.add], hc j (by have := h.len; omega)]
  simp [List.getD, hj]
end Go.Proofs.Ytcbfmjanjciodaa

namespace Go.Proofs.Ytcbfmjanjciodaa
open Go.RowKit

theorem there2 {w : World} {b : Nat} {v0 v1 : Value} (c0 : w.cell? ⟨b, 0, none⟩ = some v0) (c1 : w.cell? ⟨b, 1, none⟩ = some v1) (y0 : w.frozen? ⟨b, 0, none⟩ = false) (y1 : w.frozen? ⟨b, 1, none⟩ = false) : w.there b 0 2 := fun j hj => by
  rcases (by omega : j = 0 ∨ j = 1) with rfl | rfl
  · exact ⟨by rw [c0]; rfl, y0⟩
  · exact ⟨by rw [c1]; rfl, y1⟩
end Go.Proofs.Ytcbfmjanjciodaa

namespace Go.Proofs.Ytcbfmjanjciodaa
open Go.RowKit

/-- a whole block -/
def Blk (w : World) (b : Nat) (e : TypeId) (L : List Value) : Prop := w.heap[b]? = some (.cells L.toArray e (0, 0))
theorem Blk.lt {w : World} {b : Nat} {e : TypeId} {L : List Value} (h : Blk w b e L) : b < w.heap.size := by
  rcases Nat.lt_or_ge b w.heap.size with h' | h'
  · exact h'
  · unfold Blk at h; rw [Array.getElem?_eq_none h'] at h; cases h
theorem Blk.cell {w : World} {b : Nat} {e : TypeId} {L : List Value} (h : Blk w b e L) {k : Nat} {v : Value} (hk : L[k]? = some v) : w.cell? ⟨b, k, none⟩ = some v := by
  unfold Blk at h
  simp [World.cell?, h, hk]
theorem Blk.froz {w : World} {b : Nat} {e : TypeId} {L : List Value} (h : Blk w b e L) (k : Nat) : w.frozen? ⟨b, k, none⟩ = false := by
  unfold Blk at h
  simp [World.frozen?, h]
theorem Blk.set {w : World} {b : Nat} {e : TypeId} {L M : List Value} (h : Blk w b e L) : Blk (w.setRow b M.toArray) b e M := setRow_heap w b _ _ e _ h
theorem Blk.drew {w : World} {b : Nat} {e : TypeId} {L : List Value} (h : Blk w b e L) : Blk w.drew b e L := h
end Go.Proofs.Ytcbfmjanjciodaa

namespace Go.Proofs.Ytcbfmjanjciodaa
open Go.RowKit

/-- what a plain pool without a fault has -/
theorem pvOne_ok {a : Int} {v : Vo} (h : pvOne a v = 0) : (1 ≤ v.1 ∧ v.1 ≤ 99) ∧ (1 ≤ v.2.1 ∧ v.2.1 ≤ 16) ∧ v.2.2 = -1 ∧ a < v.1 := by
  unfold pvOne at h
  split at h
  case isTrue hc =>
    simp [volIdB, quotaB] at hc
    split at h
    · exact absurd h (by decide)
    · exact ⟨hc.1.1, hc.1.2, hc.2, by omega⟩
  case isFalse => exact absurd h (by decide)
theorem pvFrom_ok {vs : List Vo} {n k : Nat} (h : pvFrom vs n k = 0) : ∀ i, k ≤ i → i < k + n → pvOne (idAhead vs i) (vs.getD i vo0) = 0 := by
  induction n generalizing k with
  | zero => intro i h1 h2; omega
  | succ n ih =>
    unfold pvFrom at h
    split at h
    case isTrue hc =>
      intro i h1 h2
      by_cases e : i = k
      · subst e; exact hc
      · exact ih h i (by omega) (by omega)
    case isFalse hc => exact absurd h hc
theorem pv_ok {vs : List Vo} (h : pvFault vs = 0) : ∀ i, i < vs.length → pvOne (idAhead vs i) (vs.getD i vo0) = 0 := fun i hi => pvFrom_ok h i (Nat.zero_le _) (by omega)
theorem ceOne_ok {vs : List Vo} {k : Nat} {a c : Vo} (h : ceOne vs k a c = 0) : (0 ≤ c.2.1 ∧ c.2.1 ≤ 15) ∧ (0 ≤ c.2.2 ∧ c.2.2 ≤ 255) ∧ 0 ≤ volPl vs c.1 ∧ (k = 0 ∨ aheadB a c = true) := by
  unfold ceOne at h
  split at h
  case isTrue hc =>
    simp [spotB, dataB] at hc
    split at h
    · exact absurd h (by decide)
    · split at h
      · exact ⟨hc.1, hc.2, by omega, Or.inl (by assumption)⟩
      · split at h
        · exact ⟨hc.1, hc.2, by omega, Or.inr (by assumption)⟩
        · exact absurd h (by decide)
  case isFalse => exact absurd h (by decide)
theorem ceFrom_ok {vs ce : List Vo} {n k : Nat} (h : ceFrom vs ce n k = 0) : ∀ i, k ≤ i → i < k + n → ceOne vs i (ce.getD (i - 1) vo0) (ce.getD i vo0) = 0 := by
  induction n generalizing k with
  | zero => intro i h1 h2; omega
  | succ n ih =>
    unfold ceFrom at h
    split at h
    case isTrue hc =>
      intro i h1 h2
      by_cases e : i = k
      · subst e; exact hc
      · exact ih h i (by omega) (by omega)
    case isFalse hc => exact absurd h hc
theorem ce_ok {vs ce : List Vo} (h : ceFault vs ce = 0) : ∀ i, i < ce.length → ceOne vs i (ce.getD (i - 1) vo0) (ce.getD i vo0) = 0 := fun i hi => ceFrom_ok h i (Nat.zero_le _) (by omega)
theorem pl_ok {bl : Int} {vs ce : List Vo} {sh : List Int} (h : plFault bl vs ce sh = 0) : (0 ≤ bl ∧ bl ≤ 24) ∧ vs.length ≤ 6 ∧ pvFault vs = 0 ∧ ce.length ≤ 96 ∧ ceFault vs ce = 0 ∧ quFault vs ce = 0 ∧ shFault bl sh = 0 := by
  unfold plFault at h
  split at h
  case isFalse => exact absurd h (by decide)
  case isTrue h0 =>
    split at h
    · exact absurd h (by decide)
    · split at h
      case isFalse hx => exact absurd h hx
      case isTrue h2 =>
        split at h
        · exact absurd h (by decide)
        · split at h
          case isFalse hx => exact absurd h hx
          case isTrue h3 =>
            split at h
            case isFalse hx => exact absurd h hx
            case isTrue h4 => exact ⟨h0, by omega, h2, by omega, h3, h4, h⟩

end Go.Proofs.Ytcbfmjanjciodaa

