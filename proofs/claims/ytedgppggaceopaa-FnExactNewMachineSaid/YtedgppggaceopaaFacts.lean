/- Small facts: what a disk without a fault has; a row of one pair. -/
import Derived.Test.YtedgppggaceopaaSm
import Derived.Test.YtedgppggaceopaaCopy
import Derived.Deep.MidRow
import Derived.Deep.RegionHeld3
import Derived.Test.YtedgppggaceopaaPutS
namespace Go.Proofs.Ytedgppggaceopaa
open Go.RowKit

theorem DiskAt.widen {w : World} {lo hi lo' hi' : Nat} {a0 : Option Addr} {n0 c0 : Nat} {a1 : Option Addr} {n1 c1 : Nat} {xs : List Int} {ys : List (Int × Int)} (h : DiskAt w lo hi a0 n0 c0 a1 n1 c1 xs ys) (h1 : lo' ≤ lo) (h2 : hi ≤ hi') : DiskAt w lo' hi' a0 n0 c0 a1 n1 c1 xs ys := by
  obtain ⟨mid, m1, m2, r0, r1⟩ := h.parts
  exact ⟨mid, by omega, by omega, r0.widen h1 (Nat.le_refl _), r1.widen (Nat.le_refl _) h2⟩

theorem own_block {w : World} {base : Nat} {e : TypeId} {size : Nat} {v : Value} {n : Nat} {cs : List Value} (h : w.ownsRow base e size v n cs) (hn : n ≠ 0) : ∃ g cap, v = .slice (some ⟨g, 0, none⟩) n cap ∧ base ≤ g ∧ g < w.heap.size ∧ RowAt w true g (g + 1) size (some ⟨g, 0, none⟩) n cap cs := by
  rcases h.2 with ⟨rfl, e0⟩ | ⟨g, cap, cur, rfl, hg, hh, hc, r⟩
  · exact absurd e0 hn
  · exact ⟨g, cap, rfl, hg, (h.lt g rfl).2, (RowAt.of_owns h hc).pin⟩
theorem wrapI_same (n : Int) (h : -9223372036854775808 ≤ n ∧ n ≤ 9223372036854775807) : IntKind.i64.wrap n = n := by rw [IntKind.wrap_i64]; omega
end Go.Proofs.Ytedgppggaceopaa
