/- Chapter 9, plain: what a first one is once it took an entry. No program is named here. -/
import Derived.Test.YtannjgdginfgeaaWX
namespace Go.Proofs.Ytannjgdginfgeaa
open Go.RowKit

structure AskOk (r : Rep) (en : En) : Prop where
  led : Led r
  lead : r.view % r.size = r.id
  norm : r.normal = true
  log : (askQ r en).log = r.log ++ [en]
  rep : repF (askQ r en) = 0
  ledQ : ledF (askQ r en) = 0
  agr : agrR (askQ r en) ≤ (askQ r en).commit
  len : ((askM r en).length : Int) = r.size - 1
  mail : ∀ i, i < (askM r en).length → ((askM r en).getD i ml0).kind = 1 ∧ ((askM r en).getD i ml0).en = en ∧ ((askM r en).getD i ml0).at_ = (r.log.length : Int)
end Go.Proofs.Ytannjgdginfgeaa

