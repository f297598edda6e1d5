/- Chapter 9: replicas that are drawn, wrong now and then: plain facts. -/
import Derived.Test.YtannjgdginfgeaaVX
import Derived.Test.YtannjgdginfgeaaWN
namespace Go.Proofs.Ytannjgdginfgeaa
open Go.RowKit

structure PutM (w W : World) (b k : Nat) (v : Value) : Prop where
  eq : W = w.setCell ⟨b, k, none⟩ v
end Go.Proofs.Ytannjgdginfgeaa

