/- New blocks by letters: what a box or a new variable leaves, said of a letter for the block and a letter for the world. No program is named here. -/
import Derived.Test.YtedgppggaceopaaBase
namespace Go.Proofs.Ytedgppggaceopaa
open Go.RowKit

/-- block b is new in W: its cells are cs, none is frozen -/
structure NewB (w W : World) (b : Nat) (cs : Array Value) : Prop where
  bl : b = w.heap.size
  sz : W.heap.size = w.heap.size + 1
  below : Below w.heap.size w W
  cell : ∀ (k : Nat) (v : Value), cs[k]? = some v → W.cell? ⟨b, k, none⟩ = some v
  froz : ∀ k : Nat, W.frozen? ⟨b, k, none⟩ = false
theorem NewB.lt {w W : World} {b : Nat} {cs : Array Value} (h : NewB w W b cs) : b < W.heap.size := by rw [h.sz, h.bl]; exact Nat.lt_succ_self _
theorem NewB.ge {w W : World} {b : Nat} {cs : Array Value} (h : NewB w W b cs) : w.heap.size ≤ b := Nat.le_of_eq h.bl.symm
theorem size_setCells' (b : Nat) : ∀ (vs : List Value) (o : Nat) (w : World), (w.setCells b o vs).heap.size = w.heap.size
  | [], _, _ => rfl
  | v :: r, o, w => by rw [World.setCells, size_setCells' b r (o + 1)]; simp
/-- block b has been written whole -/
structure SetB (w W : World) (b : Nat) (cs : List Value) : Prop where
  kept : Kept b (b + 1) w W
  cell : ∀ (k : Nat) (v : Value), cs[k]? = some v → W.cell? ⟨b, k, none⟩ = some v
  froz : ∀ q k : Nat, W.frozen? ⟨q, k, none⟩ = w.frozen? ⟨q, k, none⟩
  size : W.heap.size = w.heap.size
theorem SetB.at {w W : World} {b : Nat} {cs : List Value} (h : SetB w W b cs) {q i : Nat} {v : Value} (hc : w.cell? ⟨q, i, none⟩ = some v) (hne : q ≠ b) : W.cell? ⟨q, i, none⟩ = some v := by
  have hq := World.block_lt_of_cell? w ⟨q, i, none⟩ hc
  rw [World.cell?_of_block (w := w) (w' := W) (a := ⟨q, i, none⟩) (h.kept.block q hq (by omega))]; exact hc
theorem SetB.fr {w W : World} {b : Nat} {cs : List Value} (h : SetB w W b cs) {q i : Nat} (hf : w.frozen? ⟨q, i, none⟩ = false) : W.frozen? ⟨q, i, none⟩ = false := (h.froz q i).trans hf
theorem Kept.fr {lo hi : Nat} {w w' : World} (h : Kept lo hi w w') {b o : Nat} (hf : w.frozen? ⟨b, o, none⟩ = false) (hb : b < lo ∨ hi ≤ b) (hs : b < w.heap.size) : w'.frozen? ⟨b, o, none⟩ = false := by
  rw [World.frozen?_of_block (w := w) (w' := w') (a := ⟨b, o, none⟩) (h.block b hs (by omega))]; exact hf
end Go.Proofs.Ytedgppggaceopaa

