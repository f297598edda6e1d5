/- New blocks by letters: what a box or a new variable leaves, said of a letter for the block and a letter for the world. No program is named here. -/
import Derived.Test.YtannjgdginfgeaaZA
import Derived.Laws.CopyRow
import Derived.Lib.SliceRun
import Derived.Lib.Overlaps
import Derived.Lib.AppendZeros
import Derived.Laws.Externs
import Derived.Deep.AppendSrc
namespace Go.Proofs.Ytannjgdginfgeaa
open Go.RowKit

/-- block b is new in W: its cells are cs, none is frozen -/
structure NewB (w W : World) (b : Nat) (cs : Array Value) : Prop where
  bl : b = w.heap.size
  sz : W.heap.size = w.heap.size + 1
  below : Below w.heap.size w W
  cell : ∀ (k : Nat) (v : Value), cs[k]? = some v → W.cell? ⟨b, k, none⟩ = some v
  froz : ∀ k : Nat, W.frozen? ⟨b, k, none⟩ = false
theorem NewB.lt {w W : World} {b : Nat} {cs : Array Value} (h : NewB w W b cs) : b < W.heap.size := by rw [h.sz, h.bl]; exact Nat.lt_succ_self _
theorem NewB.ge {w W : World} {b : Nat} {cs : Array Value} (h : NewB w W b cs) : w.heap.size ≤ b := Nat.le_of_eq h.bl.symm
theorem newB_mk (w : World) (cs : Array Value) (t : TypeId) : NewB w (w.alloc (.cells cs t)) w.heap.size cs :=
  ⟨rfl, by simp, (Below.refl _ _).alloc (Nat.le_refl _) _, fun k v h => by simpa using h, fun k => by simp⟩
/-- a new variable of a type: its zero cells -/
theorem alloc_new {P : Program} {ops : Array Oper} {rest : List Oper} {dst : Option Tmp} {type : TypeId} {pos : String} {after : Array Edge} {a : Act} {w : World} {Q : Exit → Act → World → Prop} (ty : TypeId) (cs : Array Value) (hz : ∀ w, (zeroValue ty).run P w = .ok (.agg cs) w)
    (h : ∀ (b : Nat) (W : World), NewB w W b cs → wpList P ops Q rest (a.put dst (.pointer (some ⟨b, 0, none⟩))) W) : wpList P ops Q (⟨dst, .alloc ty, type, pos, after, none⟩ :: rest) a w := by
  refine wpList_plain rfl fun K hK => ?_
  unfold Oper.wp execOp
  go_simp
  exact hK _ _ (h _ _ (newB_mk _ _ _))

theorem size_setCells' (b : Nat) : ∀ (vs : List Value) (o : Nat) (w : World), (w.setCells b o vs).heap.size = w.heap.size
  | [], _, _ => rfl
  | v :: r, o, w => by rw [World.setCells, size_setCells' b r (o + 1)]; simp
/-- block b has been written whole -/
structure SetB (w W : World) (b : Nat) (cs : List Value) : Prop where
  kept : Kept b (b + 1) w W
  cell : ∀ (k : Nat) (v : Value), cs[k]? = some v → W.cell? ⟨b, k, none⟩ = some v
  froz : ∀ q k : Nat, W.frozen? ⟨q, k, none⟩ = w.frozen? ⟨q, k, none⟩
  size : W.heap.size = w.heap.size
theorem SetB.at {w W : World} {b : Nat} {cs : List Value} (h : SetB w W b cs) {q i : Nat} {v : Value} (hc : w.cell? ⟨q, i, none⟩ = some v) (hne : q ≠ b) : W.cell? ⟨q, i, none⟩ = some v := by
  have hq := World.block_lt_of_cell? w ⟨q, i, none⟩ hc
  rw [World.cell?_of_block (w := w) (w' := W) (a := ⟨q, i, none⟩) (h.kept.block q hq (by omega))]; exact hc
theorem SetB.fr {w W : World} {b : Nat} {cs : List Value} (h : SetB w W b cs) {q i : Nat} (hf : w.frozen? ⟨q, i, none⟩ = false) : W.frozen? ⟨q, i, none⟩ = false := (h.froz q i).trans hf
theorem there6 {w : World} {b : Nat} {v0 v1 v2 v3 v4 v5 : Value} (c0 : w.cell? ⟨b, 0, none⟩ = some v0) (c1 : w.cell? ⟨b, 1, none⟩ = some v1) (c2 : w.cell? ⟨b, 2, none⟩ = some v2) (c3 : w.cell? ⟨b, 3, none⟩ = some v3) (c4 : w.cell? ⟨b, 4, none⟩ = some v4) (c5 : w.cell? ⟨b, 5, none⟩ = some v5) (y0 : w.frozen? ⟨b, 0, none⟩ = false) (y1 : w.frozen? ⟨b, 1, none⟩ = false) (y2 : w.frozen? ⟨b, 2, none⟩ = false) (y3 : w.frozen? ⟨b, 3, none⟩ = false) (y4 : w.frozen? ⟨b, 4, none⟩ = false) (y5 : w.frozen? ⟨b, 5, none⟩ = false) : w.there b 0 6 := fun j hj => by
  rcases (by omega : j = 0 ∨ j = 1 ∨ j = 2 ∨ j = 3 ∨ j = 4 ∨ j = 5) with rfl | rfl | rfl | rfl | rfl | rfl
  · exact ⟨by rw [c0]; rfl, y0⟩
  · exact ⟨by rw [c1]; rfl, y1⟩
  · exact ⟨by rw [c2]; rfl, y2⟩
  · exact ⟨by rw [c3]; rfl, y3⟩
  · exact ⟨by rw [c4]; rfl, y4⟩
  · exact ⟨by rw [c5]; rfl, y5⟩
theorem setB_cells {w : World} {b : Nat} {cs : List Value} {n : Nat} (hn : cs.length = n) (ht : w.there b 0 n) : SetB w (w.setCells b 0 cs) b cs := by
  refine ⟨?_, ?_, ?_, ?_⟩
  · exact (Kept.refl _ _ _).setCells (Nat.le_refl _) (Nat.lt_succ_self _) _ _
  · intro k v hv
    have hk : k < cs.length := by
      rcases Nat.lt_or_ge k cs.length with h' | h'
      · exact h'
      · rw [List.getElem?_eq_none h'] at hv; cases hv
    have := World.cell?_setCells_in b cs 0 w (fun j hj => (ht j (by omega)).1) k hk
    rw [Nat.zero_add] at this
    simpa [List.getElem?_eq_getElem hk] using this.trans (by rw [← hv, List.getElem?_eq_getElem hk])
  · intro q k; simp [World.frozen?_setCells]
  · exact size_setCells' b cs 0 w
theorem store_box {P : Program} {ops : Array Oper} {rest : List Oper} {dst : Option Tmp} {type : TypeId} {pos : String} {after : Array Edge} {a : Act} {w : World} {Q : Exit → Act → World → Prop} (ty : TypeId) {x y : Operand} (b : Nat) (cs : List Value) {n : Nat} (hn : cs.length = n) (ht : w.there b 0 n) (hi : (P.info? ty).map (·.size) = some n) (h1 : ∀ v ∈ cs, v.oneCell' = true) (hx : a.eval x = .pointer (some ⟨b, 0, none⟩)) (hy : a.eval y = .agg cs.toArray)
    (h : ∀ W : World, SetB w W b cs → wpList P ops Q rest (a.put dst undef) W) : wpList P ops Q (⟨dst, .store ty x y, type, pos, after, none⟩ :: rest) a w := by
  refine wpList_plain rfl fun K hK => ?_
  refine wp_store_mid ty x y rfl b 0 cs.toArray hx hy (by rw [List.size_toArray, hn]; exact ht) (by rw [List.size_toArray, hn]; exact hi) (all_oneCell_toArray h1) (hK _ _ (h _ (setB_cells hn ht)))
theorem Kept.fr {lo hi : Nat} {w w' : World} (h : Kept lo hi w w') {b o : Nat} (hf : w.frozen? ⟨b, o, none⟩ = false) (hb : b < lo ∨ hi ≤ b) (hs : b < w.heap.size) : w'.frozen? ⟨b, o, none⟩ = false := by
  rw [World.frozen?_of_block (w := w) (w' := w') (a := ⟨b, o, none⟩) (h.block b hs (by omega))]; exact hf
end Go.Proofs.Ytannjgdginfgeaa

/- 'copy' and 'clear' where an element has several cells. No program is named here. -/
namespace Go.Proofs.Ytannjgdginfgeaa
open Go.RowKit

/-- a whole block -/
def Blk (w : World) (b : Nat) (e : TypeId) (L : List Value) : Prop := w.heap[b]? = some (.cells L.toArray e (0, 0))
theorem Blk.lt {w : World} {b : Nat} {e : TypeId} {L : List Value} (h : Blk w b e L) : b < w.heap.size := by
  rcases Nat.lt_or_ge b w.heap.size with h' | h'
  · exact h'
  · unfold Blk at h; rw [Array.getElem?_eq_none h'] at h; cases h
theorem Blk.cell {w : World} {b : Nat} {e : TypeId} {L : List Value} (h : Blk w b e L) {k : Nat} {v : Value} (hk : L[k]? = some v) : w.cell? ⟨b, k, none⟩ = some v := by
  unfold Blk at h
  simp [World.cell?, h, hk]
theorem Blk.froz {w : World} {b : Nat} {e : TypeId} {L : List Value} (h : Blk w b e L) (k : Nat) : w.frozen? ⟨b, k, none⟩ = false := by
  unfold Blk at h
  simp [World.frozen?, h]
theorem Blk.set {w : World} {b : Nat} {e : TypeId} {L M : List Value} (h : Blk w b e L) : Blk (w.setRow b M.toArray) b e M := setRow_heap w b _ _ e _ h
theorem Blk.drew {w : World} {b : Nat} {e : TypeId} {L : List Value} (h : Blk w b e L) : Blk w.drew b e L := h
end Go.Proofs.Ytannjgdginfgeaa
