/- Chapter 9, plain: what enough have, counted (the model) and read off a sorted list (the program). No program is named here. -/
import Derived.Test.YtcefhlkbbipmmaaWA
import Derived.Test.YtcefhlkbbipmmaaWC
import Derived.Test.YtcefhlkbbipmmaaMark
import Derived.Test.YtcefhlkbbipmmaaWL
import Derived.Test.YtcefhlkbbipmmaaI5s
namespace Go.Proofs.Ytcefhlkbbipmmaa
open Go.RowKit

/-- sorting by putting in: what holds inside the inner loop -/
structure InsIn (xs ys : List Int) (i j : Nat) : Prop where
  perm : ys.Perm xs
  low : ∀ p q, p < q → q < j → ys.getD p 0 ≤ ys.getD q 0
  up : ∀ p q, j ≤ p → p < q → q ≤ i → ys.getD p 0 ≤ ys.getD q 0
  over : ∀ p q, p < j → j < q → q ≤ i → ys.getD p 0 ≤ ys.getD q 0
end Go.Proofs.Ytcefhlkbbipmmaa

/- Chapter 9: numbers sorted by the program: slices.Sort of at most twelve. -/
namespace Go.Proofs.Ytcefhlkbbipmmaa
open Go.RowKit

end Go.Proofs.Ytcefhlkbbipmmaa

/- Chapter 9: what enough have, by the program. -/
namespace Go.Proofs.Ytcefhlkbbipmmaa
open Go.RowKit

theorem run_storeVar_oneC {P : Program} {w : World} {b k : Nat} {u : Value} (hc : w.cell? ⟨b, k, none⟩ = some u) (hf : w.frozen? ⟨b, k, none⟩ = false) (ty : TypeId) (v : Value) (hv : v.oneCell' = true) (hi : (P.info? ty).map (·.size) = some 1) : (storeVar ty ⟨b, k, none⟩ v).run P w = .ok () (w.setCells b k [v]) := by
  have := run_storeCells_cells (P := P) b k [v] 0 w (fun j hj => by
    have e : j = 0 := by simpa using hj
    rw [e, Nat.add_zero, hc]; rfl) (fun j hj => by
    have e : j = 0 := by simpa using hj
    rw [e, Nat.add_zero]; exact hf) (fun x hx => by simp at hx; subst hx; exact hv)
  have hc : v.cells = #[v] := by cases v <;> first | rfl | cases hv
  cases hq : P.info? ty with
  | none => simp [hq] at hi
  | some i =>
    have hs : i.size = 1 := by simpa [hq] using hi
    simp only [Nat.add_zero] at this
    simp [storeVar, sizeOf, typeInfo, hq, hc, hs, this]
/-- one cell is written in a region that draws its order -/
theorem step_oneC {P : Program} {ops : Array Oper} {dst : Option Tmp} {type : TypeId} {pos : String} {after : Array Edge} {a : Act} {w : World} {K : Act → World → Prop} {Q : Exit → Act → World → Prop} {E : Prop} (ty : TypeId) {x y : Operand} {b k : Nat} {u : Value} (hc : w.cell? ⟨b, k, none⟩ = some u) (hf : w.frozen? ⟨b, k, none⟩ = false) (v : Value) (hi : (P.info? ty).map (·.size) = some 1) (hv : v.oneCell' = true) (hx : a.eval x = .pointer (some ⟨b, k, none⟩)) (hy : a.eval y = v)
    (h : K (a.put dst undef) (w.setCell ⟨b, k, none⟩ v)) : if Region.wanted ⟨dst, .store ty x y, type, pos, after, none⟩ (yielded ops a.tmps) = true then Oper.wp P ⟨dst, .store ty x y, type, pos, after, none⟩ a w K Q else E := by
  have hw : Region.wanted ⟨dst, .store ty x y, type, pos, after, none⟩ (yielded ops a.tmps) = true := by simp [Region.wanted]
  rw [if_pos hw]
  unfold Oper.wp execOp
  simp only [hx, hy, Instr.storeAt, Instr.sureAddr, Sem.run_bind, Sem.run_pure, Result.andThen_ok, run_storeVar_oneC hc hf ty v hv hi]
  exact h
end Go.Proofs.Ytcefhlkbbipmmaa

/- Chapter 9: what enough have: AgreedBy of the program. -/
namespace Go.Proofs.Ytcefhlkbbipmmaa
open Go.RowKit

/-- what a replica without fault is -/
theorem rep_ok {r : Rep} (h : repF r = 0) : numsP r ∧ lgF r.log r.commit = 0 ∧ (r.normal = true → r.last = r.view) ∧ sizesP r ∧ oksF r.log.length r.oks = 0 ∧ drsF r.doers = 0 := by
  unfold repF at h
  by_cases h1 : numsP r
  · rw [if_pos h1] at h
    by_cases h2 : lgF r.log r.commit = 0
    · rw [if_pos h2] at h
      by_cases h3 : (r.normal = true ∧ r.last ≠ r.view) ∨ ¬ sizesP r
      · rw [if_pos h3] at h; cases h
      · rw [if_neg h3] at h
        by_cases h4 : oksF r.log.length r.oks = 0
        · rw [if_pos h4] at h
          exact ⟨h1, h2, fun hn => Decidable.byContradiction fun q => h3 (Or.inl ⟨hn, q⟩), Decidable.byContradiction fun q => h3 (Or.inr q), h4, h⟩
        · rw [if_neg h4] at h; exact absurd h h4
    · rw [if_neg h2] at h; exact absurd h h2
  · rw [if_neg h1] at h; cases h
/-- what a normal primary without fault is -/
structure Led (r : Rep) : Prop where
  size : 1 ≤ r.size ∧ r.size ≤ 5
  id : 0 ≤ r.id ∧ r.id ≤ r.size - 1
  view : 0 ≤ r.view ∧ r.view ≤ 200
  log : r.log.length ≤ 40
  commit : 0 ≤ r.commit ∧ r.commit ≤ r.log.length
  oks : (r.oks.length : Int) = r.size
  okb : ∀ y ∈ r.oks, 0 ≤ y ∧ y ≤ (r.log.length : Int)
end Go.Proofs.Ytcefhlkbbipmmaa

/- Chapter 9: what enough have: AgreedBy of the model. -/
namespace Go.Proofs.Ytcefhlkbbipmmaa
open Go.RowKit

end Go.Proofs.Ytcefhlkbbipmmaa
