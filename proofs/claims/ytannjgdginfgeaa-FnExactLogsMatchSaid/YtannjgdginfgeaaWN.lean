/- Chapter 9, plain: what enough have, counted (the model) and read off a sorted list (the program). No program is named here. -/
import Derived.Test.YtannjgdginfgeaaWA
import Derived.Test.YtannjgdginfgeaaWC
import Derived.Test.YtannjgdginfgeaaZA
import Derived.Test.YtannjgdginfgeaaWB
import Derived.Test.YtannjgdginfgeaaPutS
import Derived.Lib.AppendZeros
namespace Go.Proofs.Ytannjgdginfgeaa
open Go.RowKit

end Go.Proofs.Ytannjgdginfgeaa

/- Chapter 9: numbers sorted by the program: slices.Sort of at most twelve. -/
namespace Go.Proofs.Ytannjgdginfgeaa
open Go.RowKit

end Go.Proofs.Ytannjgdginfgeaa

/- Chapter 9: what enough have, by the program. -/
namespace Go.Proofs.Ytannjgdginfgeaa
open Go.RowKit

end Go.Proofs.Ytannjgdginfgeaa

/- Chapter 9: what enough have: AgreedBy of the program. -/
namespace Go.Proofs.Ytannjgdginfgeaa
open Go.RowKit

/-- what a replica without fault is -/
theorem rep_ok {r : Rep} (h : repF r = 0) : numsP r ∧ lgF r.log r.commit = 0 ∧ (r.normal = true → r.last = r.view) ∧ sizesP r ∧ oksF r.log.length r.oks = 0 ∧ drsF r.doers = 0 := by
  unfold repF at h
  by_cases h1 : numsP r
  · rw [if_pos h1] at h
    by_cases h2 : lgF r.log r.commit = 0
    · rw [if_pos h2] at h
      by_cases h3 : (r.normal = true ∧ r.last ≠ r.view) ∨ ¬ sizesP r
      · rw [if_pos h3] at h; cases h
      · rw [if_neg h3] at h
        by_cases h4 : oksF r.log.length r.oks = 0
        · rw [if_pos h4] at h
          exact ⟨h1, h2, fun hn => Decidable.byContradiction fun q => h3 (Or.inl ⟨hn, q⟩), Decidable.byContradiction fun q => h3 (Or.inr q), h4, h⟩
        · rw [if_neg h4] at h; exact absurd h h4
    · rw [if_neg h2] at h; exact absurd h h2
  · rw [if_neg h1] at h; cases h
/-- what a normal primary without fault is -/
structure Led (r : Rep) : Prop where
  size : 1 ≤ r.size ∧ r.size ≤ 5
  id : 0 ≤ r.id ∧ r.id ≤ r.size - 1
  view : 0 ≤ r.view ∧ r.view ≤ 200
  log : r.log.length ≤ 40
  commit : 0 ≤ r.commit ∧ r.commit ≤ r.log.length
  oks : (r.oks.length : Int) = r.size
  okb : ∀ y ∈ r.oks, 0 ≤ y ∧ y ≤ (r.log.length : Int)
end Go.Proofs.Ytannjgdginfgeaa
