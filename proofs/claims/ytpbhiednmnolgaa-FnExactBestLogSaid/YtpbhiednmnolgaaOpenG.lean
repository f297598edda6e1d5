/- From the reading of an argument to a list of logs. No program is named. -/
import Derived.Test.YtpbhiednmnolgaaEX
import Derived.Test.YtpbhiednmnolgaaXB
import Derived.Test.YtpbhiednmnolgaaH8
namespace Go.Proofs.Ytpbhiednmnolgaa
open Go.RowKit Go.ChangeShapes Go.WideShapes Go.Deep

section
variable {H : Type} {enc : TypeId × Value → H} {P : Program} {w : World}
theorem read_logs {t s e : TypeId} {fuel : Nat} {v : Value} {x : DataW H × List MemPlace} (ht : P.underlying t = some (.slice s)) (hs : P.underlying s = some (.slice e)) (cs : P.cellsOf s = 1) (he : EnTy P e) (h : DataW.trod enc P w 0 (fun _ => true) true fuel t [v] = some x) :
    ∃ ao n cap hd xss, v = .slice ao n cap ∧ n ≤ maxLen ∧ LogsAt w false 0 w.heap.size ao n cap hd xss ∧ ∀ i, i < n → (hd i).2.1 ≤ maxLen := by
  rcases open_slice ht h with ⟨hcs, _⟩ | ⟨a, len, cap, m, n, D, Pl, hcs, hb, hl, hm, hz, _, hx⟩
  · simp only [List.cons.injEq, and_true] at hcs
    exact ⟨none, 0, 0, fun _ => (none, 0, 0), [], hcs, Nat.zero_le _, ⟨rfl, RowAt.nil _ _ _ _ _, fun i hi => absurd hi (Nat.not_lt_zero _)⟩, fun i hi => absurd hi (Nat.not_lt_zero _)⟩
  · simp only [List.cons.injEq, and_true] at hcs
    simp only [if_true] at hz
    subst hz
    have each : ∀ i, i < m → ∃ q : Hd × List En, w.cell? (a.add i) = some (hv q.1) ∧ q.1.2.1 ≤ maxLen ∧ RowAt w false 0 w.heap.size 6 q.1.1 q.1.2.1 q.1.2.2 (sixs q.2) := fun i hi => by
      obtain ⟨cl, h1, h2⟩ := hx i hi
      rw [cs, Nat.mul_one] at h1
      obtain ⟨_, hlen, hcell⟩ := World.cells?_some h1
      match cl, hlen with
      | [v0], _ =>
        obtain ⟨ao, k, c, vs, rfl, hk, hr⟩ := read_entries hs he h2
        have e0 := hcell 0 (by omega)
        rw [add_add] at e0
        exact ⟨((ao, k, c), vs), by simpa [hv] using e0, hk, hr⟩
    obtain ⟨q, hq⟩ := choose_lt each
    refine ⟨some a, len, m, fun i => (q i).1, (List.range len).map fun i => (q i).2, hcs, Nat.le_trans hl hm, ⟨by simp, ⟨by rw [hcs_len, Nat.mul_one], hl, fun hn => ?_⟩, fun i hi => ⟨w.heap.size, ?_⟩⟩, fun i hi => (hq i (by omega)).2.1⟩
    · have h0 := (hq 0 (by omega)).1
      obtain ⟨b, off, spot⟩ := a
      have hspot : spot = none := by simpa [Addr.add] using World.cell?_spot h0
      subst hspot
      refine ⟨b, off, rfl, Nat.zero_le _, World.block_lt_of_cell? w _ h0, World.block_lt_of_cell? w _ h0, fun i hi => ?_, fun h => by cases h⟩
      have p0 := (hq i (by omega)).1
      rw [← addr_add, p0, hcs_get (by omega)]
    · have := (hq i (by omega)).2.2
      have e1 : ((List.range len).map fun i => (q i).2).getD i [] = (q i).2 := by simp [List.getD, hi]
      rw [e1]; exact this
end

end Go.Proofs.Ytpbhiednmnolgaa
