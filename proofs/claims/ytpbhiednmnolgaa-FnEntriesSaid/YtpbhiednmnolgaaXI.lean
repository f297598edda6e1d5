/- Chapter 6: cells copied, compared and counted by the laws. -/
import Derived.Test.YtpbhiednmnolgaaEX
import Derived.Test.YtpbhiednmnolgaaYP
import Derived.Test.YtpbhiednmnolgaaYE
namespace Go.Proofs.Ytpbhiednmnolgaa
open Go.RowKit

end Go.Proofs.Ytpbhiednmnolgaa

/- Chapter 6: plain pools counted, copied and compared by the laws. -/
namespace Go.Proofs.Ytpbhiednmnolgaa
open Go.RowKit

/-- a plain pool's rows -/
structure PlAt (w : World) (o : Bool) (lo hi : Nat) (av : Option Addr) (nv cv : Nat) (ac : Option Addr) (nc cc : Nat) (ah : Option Addr) (nh ch : Nat) (vs ce : List Vo) (sh : List Int) : Prop where
  vol : RowAt w o lo hi 3 av nv cv (trips vs)
  cel : RowAt w o lo hi 3 ac nc cc (trips ce)
  sha : RowAt w o lo hi 1 ah nh ch (ints sh)
theorem PlAt.below {w w' : World} {o : Bool} {lo hi : Nat} {av : Option Addr} {nv cv : Nat} {ac : Option Addr} {nc cc : Nat} {ah : Option Addr} {nh ch : Nat} {vs ce : List Vo} {sh : List Int} (h : PlAt w o lo hi av nv cv ac nc cc ah nh ch vs ce sh) (B : Below w.heap.size w w') : PlAt w' o lo hi av nv cv ac nc cc ah nh ch vs ce sh :=
  ⟨h.vol.below B, h.cel.below B, h.sha.below B⟩
/-- one cell has been written -/
structure SetC (w W : World) (b k : Nat) (v : Value) : Prop where
  kept : Kept b (b + 1) w W
  cell : W.cell? ⟨b, k, none⟩ = some v
  fr : ∀ {q i : Nat}, w.frozen? ⟨q, i, none⟩ = false → W.frozen? ⟨q, i, none⟩ = false
  oth : ∀ {q i : Nat} {u : Value}, w.cell? ⟨q, i, none⟩ = some u → (q ≠ b ∨ i ≠ k) → W.cell? ⟨q, i, none⟩ = some u
theorem setC_mk {w : World} {b k : Nat} {v u : Value} (hc : w.cell? ⟨b, k, none⟩ = some u) (_ : w.frozen? ⟨b, k, none⟩ = false) : SetC w (w.setCell ⟨b, k, none⟩ v) b k v := by
  refine ⟨Kept.setCell (p := ⟨b, k, none⟩) (Kept.refl _ _ _) (Nat.le_refl _) (Nat.lt_succ_self _) _, ?_, fun h => by rw [World.frozen?_setCell]; exact h, fun {q i u} h hne => ?_⟩
  · have := World.cell?_setCells_in b [v] k w (fun j hj => by
      have hj0 : j = 0 := by simpa using hj
      rw [hj0, Nat.add_zero, hc]; rfl) 0 (by simp)
    simpa [World.setCells] using this
  · rw [World.cell?_setCell_other _ _ _ _ (fun e => by injection e with e1 e2; omega)]; exact h

end Go.Proofs.Ytpbhiednmnolgaa
