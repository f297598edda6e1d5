/- What this law needs of the texts before it beyond what stands in them. -/
import Derived.Test.YtcbfmjanjciodaaBase
import Derived.Test.YtcbfmjanjciodaaZT
import Derived.Test.YtcbfmjanjciodaaCopy
import Derived.Test.YtcbfmjanjciodaaMark
import Derived.Test.YtcbfmjanjciodaaEq
import Derived.Test.YtcbfmjanjciodaaMark2
import Derived.Test.YtcbfmjanjciodaaBC
import Derived.Test.YtcbfmjanjciodaaSm
import Derived.Test.YtcbfmjanjciodaaFault
import Derived.Test.YtcbfmjanjciodaaArr
import Derived.Test.YtcbfmjanjciodaaFlush
import Derived.Test.YtcbfmjanjciodaaSpec1
import Derived.Test.YtcbfmjanjciodaaSFlush
import Derived.Test.YtcbfmjanjciodaaAll
import Derived.Test.YtcbfmjanjciodaaPutS
import Derived.Test.YtcbfmjanjciodaaFacts
import Derived.Test.YtcbfmjanjciodaaZM
import Derived.Test.YtcbfmjanjciodaaZY
import Derived.Test.YtcbfmjanjciodaaP1
import Derived.Test.YtcbfmjanjciodaaP2
import Derived.Test.YtcbfmjanjciodaaP4
import Derived.Test.YtcbfmjanjciodaaP3
import Derived.Test.YtcbfmjanjciodaaQ0
import Derived.Test.YtcbfmjanjciodaaZU
import Derived.Test.YtcbfmjanjciodaaT8
import Derived.Test.YtcbfmjanjciodaaZW
import Derived.Test.YtcbfmjanjciodaaZX
import Derived.Test.YtcbfmjanjciodaaZZ
import Derived.Test.YtcbfmjanjciodaaZQ
import Derived.Test.YtcbfmjanjciodaaZV
import Derived.Test.YtcbfmjanjciodaaYP
import Derived.Test.YtcbfmjanjciodaaPC
import Derived.Test.YtcbfmjanjciodaaYE
import Derived.Test.YtcbfmjanjciodaaPPl
import Derived.Test.YtcbfmjanjciodaaYL
import Derived.Test.YtcbfmjanjciodaaZR
import Derived.Test.YtcbfmjanjciodaaOpenP
import Derived.Test.YtcbfmjanjciodaaRowL
namespace Go.Proofs.Ytcbfmjanjciodaa
theorem Try.cellsBool : Try.prog.cellsOf 4 = 1 := by kernel_rfl
end Go.Proofs.Ytcbfmjanjciodaa

namespace Go.Proofs.Ytcbfmjanjciodaa
open Go.RowKit

/-- all that is come to lies in a set that calls lead not out of, and is no higher than where one began -/
theorem clT_in {tab : List (List Nat)} {C : Nat → Bool} {rk : Nat → Nat} (hC : ∀ g, C g = true → ∀ x ∈ tab.getD g [], C x = true ∧ rk x < rk g) (m : Nat) : ∀ (n : Nat) (todo seen : List Nat), (∀ x ∈ todo, C x = true ∧ rk x ≤ m) → (∀ x ∈ seen, C x = true ∧ rk x ≤ m) → ∀ x ∈ clT tab n todo seen, C x = true ∧ rk x ≤ m
  | 0, _, seen, _, h2 => fun x hx => h2 x (by simpa [clT] using hx)
  | n + 1, [], seen, _, h2 => fun x hx => h2 x (by simpa [clT] using hx)
  | n + 1, f :: todo, seen, h1, h2 => fun x hx => by
    unfold clT at hx
    have hf := h1 f (by simp)
    by_cases hs : seen.contains f = true
    · rw [if_pos hs] at hx
      exact clT_in hC m n todo seen (fun y hy => h1 y (by simp [hy])) h2 x hx
    · rw [if_neg hs] at hx
      refine clT_in hC m n _ _ (fun y hy => ?_) (fun y hy => ?_) x hx
      · rcases List.mem_append.1 hy with e | e
        · have := hC f hf.1 y e; exact ⟨this.1, by omega⟩
        · exact h1 y (by simp [e])
      · rcases List.mem_cons.1 hy with e | e
        · rw [e]; exact hf
        · exact h2 y e
section
variable {P : Program} {tab : List (List Nat)} (h : P.funcs.toList.map P.leadsTo = tab)
include h
end
section
variable {P : Program} {tab : List (List Nat)} (h : P.funcs.toList.map P.leadsTo = tab)
include h
theorem recurses_no {f : Nat} (hu : P.unfollowed f = false) {C : Nat → Bool} {rk : Nat → Nat} (hC : ∀ g, C g = true → ∀ x ∈ tab.getD g [], C x = true ∧ rk x < rk g) (hf : C f = true) : P.recurses f = false := by
  unfold Program.recurses
  rw [hu, Bool.false_or, List.any_eq_false]
  intro g hg
  rw [closure_is h] at hg
  have hg' := clT_in hC (rk f) _ [f] [] (fun x hx => by simp at hx; rw [hx]; exact ⟨hf, Nat.le_refl _⟩) (fun x hx => by cases hx) g hg
  rw [lead_is h, Bool.not_eq_true, List.any_eq_false]
  intro x hx
  have hx' := hC g hg'.1 x hx
  rw [Bool.not_eq_true, Bool.eq_false_iff]
  intro hc
  rw [closure_is h] at hc
  have := clT_in hC (rk x) _ [x] [] (fun y hy => by simp at hy; rw [hy]; exact ⟨hx'.1, Nat.le_refl _⟩) (fun y hy => by cases hy) g (by simpa using hc)
  omega
end
theorem ranks_of {tab : List (List Nat)} {rks : List Nat} (h : ((List.range tab.length).all fun g => decide (rks.getD g 0 = 0) || (tab.getD g []).all fun x => decide (rks.getD x 0 ≠ 0) && decide (rks.getD x 0 < rks.getD g 0)) = true) : ∀ g, (fun g => decide (rks.getD g 0 ≠ 0)) g = true → ∀ x ∈ tab.getD g [], (fun g => decide (rks.getD g 0 ≠ 0)) x = true ∧ rks.getD x 0 < rks.getD g 0 := fun g hg x hx => by
  have hg' := of_decide_eq_true hg
  by_cases hl : g < tab.length
  · have := List.all_eq_true.1 h g (List.mem_range.2 hl)
    rw [Bool.or_eq_true] at this
    rcases this with e | e
    · exact absurd (of_decide_eq_true e) hg'
    · have := List.all_eq_true.1 e x hx
      rw [Bool.and_eq_true] at this
      exact ⟨this.1, of_decide_eq_true this.2⟩
  · rw [List.getD_eq_getElem?_getD, List.getElem?_eq_none (by omega)] at hx; cases hx
section
variable {P : Program} {c : List Char} {X : List (List Char)} (h : behindMainWord (wordsSigns P.initOrder.toList) = c :: X) (hg : (c == "gc".toList) = false) (hs : (c == "spec".toList) = false) (hc : (c == "cut".toList) = true) (hr : (c == "carried".toList) = false) (hl : stripLifts liftWords (c :: X) = ([], c :: X))
include h hg hs hc hr hl
end

end Go.Proofs.Ytcbfmjanjciodaa

namespace Go.Proofs.Ytcbfmjanjciodaa
open Go.RowKit

def ranksT : List Nat := [1, 1, 2, 7, 7, 8, 10, 8, 7, 8, 8, 8, 9, 3, 5, 6, 5, 6, 4, 5, 4, 3, 3, 2, 5, 3, 6, 3, 5, 7, 1, 5, 1, 9, 2, 5, 7, 2, 4, 3, 6, 3, 5, 7, 4, 3, 3, 5, 7, 2, 5, 7, 2, 2, 2, 5, 1, 8, 1, 1, 2, 2, 4, 1, 5, 4, 4, 2, 5, 2, 2, 4, 4, 2, 3, 1, 2, 1, 1, 4, 2, 4, 5, 1, 1, 2, 1, 2, 1, 3, 4, 2, 8, 1, 1, 2, 3, 1, 1, 3, 2, 2, 2, 1, 2, 1, 5, 2, 2, 1, 4, 2, 1, 2, 2, 6, 1, 1, 1, 1, 1, 1, 2, 1, 1, 1, 1, 2, 1, 3, 1, 4, 2, 4, 2, 3, 1, 3, 2, 1, 4, 3, 2, 2, 1, 1, 3, 1, 3, 2, 1, 2, 1, 1, 1, 3, 1, 1, 1, 1, 2, 1, 4, 1, 3, 2, 1, 1, 1, 6, 2, 2, 7, 3, 1, 2, 1, 1, 1, 3, 1, 1, 2, 1, 3, 5, 1, 1, 1, 2, 3, 3, 1, 2, 2, 1, 3, 2, 2, 1, 2, 2, 1, 1, 1, 3, 1, 3, 5, 2, 1, 1, 1, 1, 4, 1, 4, 2, 1, 1, 1, 2, 1, 1, 2, 4, 1, 3, 1, 1, 3, 2, 2, 1, 1, 1, 1, 1, 1, 1, 1, 1, 1, 1, 1, 1, 1, 1, 1, 1, 1, 1]
theorem ranks_ok : ∀ g, (fun g => decide (ranksT.getD g 0 ≠ 0)) g = true → ∀ x ∈ leadsT.getD g [], (fun g => decide (ranksT.getD g 0 ≠ 0)) x = true ∧ ranksT.getD x 0 < ranksT.getD g 0 := ranks_of (by kernel_rfl)
end Go.Proofs.Ytcbfmjanjciodaa

