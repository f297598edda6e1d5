/- Chapter 6: cells copied, compared and counted by the laws. -/
import Derived.Test.YtannjgdginfgeaaYP
import Derived.Test.YtannjgdginfgeaaYE
namespace Go.Proofs.Ytannjgdginfgeaa
open Go.RowKit

end Go.Proofs.Ytannjgdginfgeaa

/- Chapter 6: plain pools counted, copied and compared by the laws. -/
namespace Go.Proofs.Ytannjgdginfgeaa
open Go.RowKit

/-- a plain pool's rows -/
structure PlAt (w : World) (o : Bool) (lo hi : Nat) (av : Option Addr) (nv cv : Nat) (ac : Option Addr) (nc cc : Nat) (ah : Option Addr) (nh ch : Nat) (vs ce : List Vo) (sh : List Int) : Prop where
  vol : RowAt w o lo hi 3 av nv cv (trips vs)
  cel : RowAt w o lo hi 3 ac nc cc (trips ce)
  sha : RowAt w o lo hi 1 ah nh ch (ints sh)
theorem PlAt.below {w w' : World} {o : Bool} {lo hi : Nat} {av : Option Addr} {nv cv : Nat} {ac : Option Addr} {nc cc : Nat} {ah : Option Addr} {nh ch : Nat} {vs ce : List Vo} {sh : List Int} (h : PlAt w o lo hi av nv cv ac nc cc ah nh ch vs ce sh) (B : Below w.heap.size w w') : PlAt w' o lo hi av nv cv ac nc cc ah nh ch vs ce sh :=
  ⟨h.vol.below B, h.cel.below B, h.sha.below B⟩
/-- one cell has been written -/
structure SetC (w W : World) (b k : Nat) (v : Value) : Prop where
  kept : Kept b (b + 1) w W
  cell : W.cell? ⟨b, k, none⟩ = some v
  fr : ∀ {q i : Nat}, w.frozen? ⟨q, i, none⟩ = false → W.frozen? ⟨q, i, none⟩ = false
  oth : ∀ {q i : Nat} {u : Value}, w.cell? ⟨q, i, none⟩ = some u → (q ≠ b ∨ i ≠ k) → W.cell? ⟨q, i, none⟩ = some u
end Go.Proofs.Ytannjgdginfgeaa
