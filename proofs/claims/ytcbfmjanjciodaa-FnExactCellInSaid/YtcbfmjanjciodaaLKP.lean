/- Plain pools kept. -/
import Derived.Test.YtcbfmjanjciodaaPPl
namespace Go.Proofs.Ytcbfmjanjciodaa
open Go.RowKit

theorem PlAt.keptP {w w' : World} {o : Bool} {lo hi : Nat} {av : Option Addr} {nv cv : Nat} {ac : Option Addr} {nc cc : Nat} {ah : Option Addr} {nh ch : Nat} {vs ce : List Vo} {sh : List Int} (h : PlAt w o lo hi av nv cv ac nc cc ah nh ch vs ce sh) {l u : Nat} (K : Kept l u w w') (hd : hi ≤ l ∨ u ≤ lo) : PlAt w' o lo hi av nv cv ac nc cc ah nh ch vs ce sh :=
  ⟨h.vol.kept K hd, h.cel.kept K hd, h.sha.kept K hd⟩

end Go.Proofs.Ytcbfmjanjciodaa
