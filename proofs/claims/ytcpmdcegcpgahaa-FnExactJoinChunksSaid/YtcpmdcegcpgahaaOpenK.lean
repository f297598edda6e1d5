/- From the reading of an argument to a list of lists of numbers. No program is named. -/
import Derived.Test.YtcpmdcegcpgahaaQAD
import Derived.Test.YtcpmdcegcpgahaaQAF
set_option maxRecDepth 20000
set_option maxHeartbeats 16000000
namespace Go.Proofs.Ytcpmdcegcpgahaa
open Go.RowKit Go.ChangeShapes Go.WideShapes Go.Deep
theorem Try.cellsNums : Try.prog.cellsOf 24 = 1 := by kernel_rfl
section
variable {H : Type} {enc : TypeId × Value → H} {P : Program} {w : World}
theorem read_chunks {t s e : TypeId} {fuel : Nat} {v : Value} {x : DataW H × List MemPlace} (ht : P.underlying t = some (.slice s)) (hs : P.underlying s = some (.slice e)) (he : P.underlying e = some (.int .i64)) (cs : P.cellsOf s = 1) (hc : P.cellsOf e = 1) (h : DataW.trod enc P w 0 (fun _ => true) true fuel t [v] = some x) :
  ∃ ao n cap vs rs, v = .slice ao n cap ∧ n ≤ maxLen ∧ RowAt w false 0 w.heap.size 1 ao n cap vs ∧ RecsRO w vs rs ∧ rs.length = n := by
 rcases open_slice ht h with ⟨hcs, _⟩ | ⟨a, len, cap, m, n, D, Pl, hcs, hb, hl, hm, hz, _, hx⟩
 ·simp only [List.cons.injEq, and_true] at hcs
  exact ⟨none, 0, 0, [], [], hcs, Nat.zero_le _, RowAt.nil _ _ _ _ _, ⟨rfl, fun i hi => absurd hi (Nat.not_lt_zero _)⟩, rfl⟩
 ·simp only [List.cons.injEq, and_true] at hcs
  simp only [if_true] at hz
  subst hz
  have each : ∀ i, i < m → ∃ q : Value × List Int, w.cell? (a.add i) = some q.1 ∧ ∃ (b : Option Addr) (k c : Nat), q.1 = .slice b k c ∧ k ≤ maxLen ∧ RowAt w false 0 w.heap.size 1 b k c (ints q.2) := fun i hi => by
   obtain ⟨cl, h1, h2⟩ := hx i hi
   rw [cs, Nat.mul_one] at h1
   obtain ⟨_, hlen, hcell⟩ := World.cells?_some h1
   match cl, hlen with
   | [v0], _ =>
    obtain ⟨ao, k, c, vs, rfl, hk, hr⟩ := read_ints hs he hc h2
    have e0 := hcell 0 (by omega)
    rw [add_add] at e0
    exact ⟨(.slice ao k c, vs), by simpa using e0, ao, k, c, rfl, hk, hr⟩
  obtain ⟨q, hq⟩ := choose_lt each
  have gv : ∀ i, i < len → ((List.range len).map fun i => (q i).1).getD i default = (q i).1 := fun i hi => by simp [List.getD, hi]
  have gr : ∀ i, i < len → ((List.range len).map fun i => (q i).2).getD i [] = (q i).2 := fun i hi => by simp [List.getD, hi]
  refine ⟨some a, len, m, (List.range len).map fun i => (q i).1, (List.range len).map fun i => (q i).2, hcs, Nat.le_trans hl hm, ⟨by simp, hl, fun hn => ?_⟩, ⟨by simp, fun i hi => ?_⟩, by simp⟩
  ·have h0 := (hq 0 (by omega)).1
   obtain ⟨b, off, spot⟩ := a
   have hspot : spot = none := by simpa [Addr.add] using World.cell?_spot h0
   subst hspot
   refine ⟨b, off, rfl, Nat.zero_le _, World.block_lt_of_cell? w _ h0, World.block_lt_of_cell? w _ h0, fun i hi => ?_, fun h => by cases h⟩
   have p0 := (hq i (by omega)).1
   rw [← addr_add, p0, gv i (by omega)]
  ·simp only [List.length_map, List.length_range] at hi
   obtain ⟨_, b, k, c, e, hk, hr⟩ := hq i (by omega)
   exact ⟨false, b, k, c, 0, w.heap.size, by rw [gv i hi, e], hk, by rw [gr i hi]; exact hr⟩
end
end Go.Proofs.Ytcpmdcegcpgahaa
