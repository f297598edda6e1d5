/- Small facts: what a disk without a fault has; a row of one pair. -/
import Derived.Test.YtannjgdginfgeaaZA
import Derived.Deep.MidRow
import Derived.Deep.RegionHeld3
import Derived.Test.YtannjgdginfgeaaPutS
namespace Go.Proofs.Ytannjgdginfgeaa
open Go.RowKit

theorem DiskAt.widen {w : World} {lo hi lo' hi' : Nat} {a0 : Option Addr} {n0 c0 : Nat} {a1 : Option Addr} {n1 c1 : Nat} {xs : List Int} {ys : List (Int × Int)} (h : DiskAt w lo hi a0 n0 c0 a1 n1 c1 xs ys) (h1 : lo' ≤ lo) (h2 : hi ≤ hi') : DiskAt w lo' hi' a0 n0 c0 a1 n1 c1 xs ys := by
  obtain ⟨mid, m1, m2, r0, r1⟩ := h.parts
  exact ⟨mid, by omega, by omega, r0.widen h1 (Nat.le_refl _), r1.widen (Nat.le_refl _) h2⟩

theorem wrapI_same (n : Int) (h : -9223372036854775808 ≤ n ∧ n ≤ 9223372036854775807) : IntKind.i64.wrap n = n := by rw [IntKind.wrap_i64]; omega
end Go.Proofs.Ytannjgdginfgeaa
