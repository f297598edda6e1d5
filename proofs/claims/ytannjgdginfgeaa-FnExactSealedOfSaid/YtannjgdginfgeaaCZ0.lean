/- Chapter 11: how much the nodes of a cluster hold. No function is named here. -/
import Derived.Test.YtannjgdginfgeaaCM0
import Derived.Test.YtannjgdginfgeaaCU8
import Derived.Test.YtannjgdginfgeaaVZ
import Derived.Test.YtannjgdginfgeaaWR
import Derived.Test.YtannjgdginfgeaaWS
import Derived.Deep.DeepCutAuto
import Derived.Test.YtannjgdginfgeaaWW
import Derived.Test.YtannjgdginfgeaaWH
import Derived.Test.YtannjgdginfgeaaCF0
namespace Go.Proofs.Ytannjgdginfgeaa
open Go.RowKit

/-- how much the doers' logs hold together -/
def dsum (ds : List Dr) : Nat → Nat
  | 0 => 0
  | i + 1 => dsum ds i + (drL ds i).length
def rlen (r : Rep) : Nat := r.log.length + r.oks.length + r.asks.length + r.doers.length + dsum r.doers r.doers.length
def nlen : List Rep → Nat
  | [] => 0
  | r :: t => 1 + rlen r + nlen t
theorem dsum_eq {w : World} {own : Bool} {lo hi n cap : Nat} {ao : Option Addr} {K : Nat → Hd} {ds : List Dr} (x : DoersAt w own lo hi ao n cap K ds) : ∀ k, k ≤ n → ksum K k = dsum ds k
  | 0, _ => rfl
  | k + 1, h => by
    have h1 := dsum_eq x k (by omega)
    have h2 := (x.els.logs k (by omega)).nSixs
    show ksum K k + (K k).2.1 = dsum ds k + (drL ds k).length
    omega
theorem rsum_eq {w : World} {own : Bool} {lo hi : Nat} {h : RH} {r : Rep} (y : RepAt w own lo hi h r) : rsum h = rlen r := by
  have h1 := y.log.nSixs
  have h2 := y.oks.nInts
  have h3 := y.asks.nBls
  have h4 := y.doers.len
  have h5 := dsum_eq y.doers h.D.2.1 (Nat.le_refl _)
  unfold rsum rlen
  rw [h5, h4]
  omega
theorem nsum_eq {w : World} {own : Bool} {lo hi : Nat} : ∀ xs : List Nod, (∀ (i : Nat) (a : Nod), xs[i]? = some a → RepAt w own lo hi a.2 a.1) → nsum xs = nlen (xs.map (·.1))
  | [], _ => rfl
  | a :: t, h => by
    have h1 := rsum_eq (h 0 a (by simp))
    have h2 := nsum_eq t fun i b e => h (i + 1) b (by simpa using e)
    simp only [nsum, List.map_cons, nlen]
    omega
theorem nsum_take : ∀ (xs : List Nod) (k : Nat) (a : Nod), xs[k]? = some a → nsum (xs.take (k + 1)) = nsum (xs.take k) + 1 + rsum a.2
  | [], k, a, e => by simp at e
  | x :: t, 0, a, e => by
    have : x = a := by simpa using e
    subst this; simp [nsum]
  | x :: t, k + 1, a, e => by
    have := nsum_take t k a (by simpa using e)
    simp only [List.take_succ_cons, nsum]
    omega
/-- a node of which no list is long -/
structure FewR (r : Rep) : Prop where
  log : r.log.length ≤ 40
  oks : r.oks.length ≤ 5
  asks : r.asks.length ≤ 5
  doers : r.doers.length ≤ 5
  logs : ∀ i, (drL r.doers i).length ≤ 40
theorem FewR.len {r : Rep} (h : FewR r) : rlen r ≤ 255 := by
  have h1 : ∀ k, dsum r.doers k ≤ 40 * k := fun k => by
    induction k with
    | zero => exact Nat.le_refl _
    | succ k ih => have := h.logs k; show dsum r.doers k + _ ≤ _; omega
  have h2 := h1 r.doers.length
  have := h.log; have := h.oks; have := h.asks; have := h.doers
  unfold rlen
  omega
end Go.Proofs.Ytannjgdginfgeaa
