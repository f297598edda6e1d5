/- Chapter 11: what changes in a cluster that is about to change. No program is named here. -/
import Derived.Test.YtannjgdginfgeaaCU2
import Derived.Test.YtannjgdginfgeaaWS
namespace Go.Proofs.Ytannjgdginfgeaa
open Go.RowKit

theorem RowAt.pre {w : World} {own : Bool} {lo hi size : Nat} {ao : Option Addr} {n cap : Nat} {cs : List Value} (h : RowAt w own lo hi size ao n cap cs) {k : Nat} (hk : k ≤ n) : RowAt w own lo hi size ao k cap (cs.take (k * size)) := by
  have hl := h.len
  have hks : k * size ≤ n * size := Nat.mul_le_mul_right _ hk
  refine ⟨by rw [List.length_take]; omega, Nat.le_trans hk h.le, fun h0 => ?_⟩
  obtain ⟨b, off, rfl, h1, h2, h3, h4, h5⟩ := h.cells (by omega)
  refine ⟨b, off, rfl, h1, h2, h3, fun i hi => ?_, fun ho i hi => h5 ho i (by omega)⟩
  rw [h4 i (by omega), List.getD_eq_getElem?_getD, List.getD_eq_getElem?_getD, List.getElem?_take_of_lt hi]
section
variable {W W2 W3 : World} {T : TypeId} {base b : Nat} {N M S : Hd} {xs : List Nod} {ys : List Mal} {es : List En}
theorem KeptS.one {W W' : World} {b : Nat} (h : Kept b (b + 1) W W') : KeptS (fun q => q = b) W W' := h.toS fun k h1 h2 => by omega
end
theorem LAt.pre {α : Type} {k : Kd α} (K : KdOk k) {w : World} {own : Bool} {lo hi : Nat} {ao : Option Addr} {n cap : Nat} {xs : List α} (h : LAt k w own lo hi ao n cap xs) {j : Nat} (hj : j ≤ n) : LAt k w own lo hi ao j cap (xs.take j) := by
  have hl : (xs.take j).length = j := by rw [List.length_take, h.len]; omega
  have get : ∀ (i : Nat) (a : α), (xs.take j)[i]? = some a → xs[i]? = some a := fun i a e => by
    have hi : i < j := by have := (List.getElem?_eq_some_iff.1 e).1; omega
    rwa [List.getElem?_take_of_lt hi] at e
  have e : (xs.take j).flatMap k.cells = (xs.flatMap k.cells).take (j * k.sz) := by
    apply List.ext_getElem?
    intro q
    by_cases hq : q < j * k.sz
    · rw [List.getElem?_take_of_lt hq]
      have hs := K.pos
      have hd : q / k.sz < j := Nat.div_lt_of_lt_mul (by rwa [Nat.mul_comm])
      have hm := Nat.mod_lt q hs
      have eq : q = q / k.sz * k.sz + q % k.sz := by rw [Nat.mul_comm]; exact (Nat.div_add_mod q k.sz).symm
      have hx : q / k.sz < xs.length := by rw [h.len]; omega
      rw [eq, flatMap_at K (xs.take j) (q / k.sz) xs[q / k.sz] (by rw [List.getElem?_take_of_lt hd]; exact List.getElem?_eq_getElem hx) _ hm, flatMap_at K xs (q / k.sz) _ (List.getElem?_eq_getElem hx) _ hm]
    · rw [List.getElem?_eq_none (by rw [flatMap_len K, hl]; omega), List.getElem?_eq_none (by rw [List.length_take]; omega)]
  exact ⟨hl, by rw [e]; exact h.row.pre hj, fun i a c => h.each i a (get i a c), fun ho i a c => h.far ho i a (get i a c), fun ho i m a c e1 e2 hne => h.sep ho i m a c (get i a e1) (get m c e2) hne⟩
end Go.Proofs.Ytannjgdginfgeaa
