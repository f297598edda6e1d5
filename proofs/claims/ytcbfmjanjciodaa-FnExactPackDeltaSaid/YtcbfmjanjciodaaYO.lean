/- From the reading of an argument to steps. No program is named. -/
import Derived.Test.YtcbfmjanjciodaaEX
import Derived.Test.YtcbfmjanjciodaaZR
import Derived.Test.YtcbfmjanjciodaaYQ
import Derived.Test.YtcbfmjanjciodaaRowL
namespace Go.Proofs.Ytcbfmjanjciodaa
open Go.RowKit Go.ChangeShapes Go.WideShapes Go.Deep

section
variable {H : Type} {enc : TypeId × Value → H} {P : Program} {w : World}
theorem read_steps {t e : TypeId} {f0 f1 f2 f3 : Field} {fuel : Nat} {v : Value} {x : DataW H × List MemPlace} (ht : P.underlying t = some (.slice e)) (he : P.underlying e = some (.struct #[f0, f1, f2, f3]))
    (ce : P.cellsOf e = 4) (o0 : f0.offset = 0) (o1 : f1.offset = 1) (o2 : f2.offset = 2) (o3 : f3.offset = 3) (i0 : P.underlying f0.type = some .bool) (i1 : P.underlying f1.type = some (.int .i64)) (i2 : P.underlying f2.type = some (.int .i64)) (i3 : P.underlying f3.type = some (.int .i64))
    (c0 : P.cellsOf f0.type = 1) (c1 : P.cellsOf f1.type = 1) (c2 : P.cellsOf f2.type = 1) (c3 : P.cellsOf f3.type = 1)
    (h : DataW.trod enc P w 0 (fun _ => true) true fuel t [v] = some x) :
    ∃ ao n cap vs, v = .slice ao n cap ∧ n ≤ maxLen ∧ RowAt w false 0 w.heap.size 4 ao n cap (quads vs) := by
  rcases open_slice ht h with ⟨hcs, _⟩ | ⟨a, len, cap, m, n, D, Pl, hcs, hb, hl, hm, hz, _, hx⟩
  · simp only [List.cons.injEq, and_true] at hcs
    exact ⟨none, 0, 0, [], hcs, Nat.zero_le _, RowAt.nil _ _ _ _ _⟩
  · simp only [List.cons.injEq, and_true] at hcs
    simp only [if_true] at hz
    subst hz
    have each : ∀ i, i < m → ∃ q : St, w.cell? (a.add (i * 4)) = some (.bool q.1) ∧ w.cell? (a.add (i * 4 + 1)) = some (.int .i64 q.2.1) ∧ w.cell? (a.add (i * 4 + 2)) = some (.int .i64 q.2.2.1) ∧ w.cell? (a.add (i * 4 + 3)) = some (.int .i64 q.2.2.2) := fun i hi => by
      obtain ⟨cs, h1, h2⟩ := hx i hi
      rw [ce] at h1
      obtain ⟨_, hlen, hcell⟩ := World.cells?_some h1
      obtain ⟨ys, k, _, _, _, hyl, hf⟩ := DataW.trod_struct he h2
      match ys, hyl, cs, hlen with
      | [y0, y1, y2, y3], _, [v0, v1, v2, v3], _ =>
        have g0 := hf 0 f0 rfl
        have g1 := hf 1 f1 rfl
        have g2 := hf 2 f2 rfl
        have g3 := hf 3 f3 rfl
        simp [o0, o1, o2, o3, c0, c1, c2, c3] at g0 g1 g2 g3
        have e0 := hcell 0 (by omega)
        have e1 := hcell 1 (by omega)
        have e2 := hcell 2 (by omega)
        have e3 := hcell 3 (by omega)
        rw [add_add] at e0 e1 e2 e3
        obtain ⟨r, d0, _, _⟩ := DataW.trod_bool i0 g0
        obtain ⟨s, d1, _, _⟩ := DataW.trod_int i1 g1
        obtain ⟨u, d2, _, _⟩ := DataW.trod_int i2 g2
        obtain ⟨x, d3, _, _⟩ := DataW.trod_int i3 g3
        simp only [List.cons.injEq, and_true] at d0 d1 d2 d3
        refine ⟨(r, s, u, x), ?_, ?_, ?_, ?_⟩
        · rw [← d0]; simpa using e0
        · rw [← d1]; simpa using e1
        · rw [← d2]; simpa using e2
        · rw [← d3]; simpa using e3
    obtain ⟨q, hq⟩ := choose_lt each
    have hlen : ((List.range len).map q).length = len := by simp
    have hget : ∀ i, i < len → ((List.range len).map q).getD i st0 = q i := fun i hi => by simp [List.getD, hi]
    refine ⟨some a, len, m, (List.range len).map q, hcs, Nat.le_trans hl hm, ?_, hl, fun hn => ?_⟩
    · rw [quads_len, hlen]
    · have h0 := (hq 0 (by omega)).1
      obtain ⟨b, off, spot⟩ := a
      have hspot : spot = none := by simpa [Addr.add] using World.cell?_spot h0
      subst hspot
      refine ⟨b, off, rfl, Nat.zero_le _, World.block_lt_of_cell? w _ h0, World.block_lt_of_cell? w _ h0, fun i hi => ?_, fun h => by cases h⟩
      obtain ⟨p0, p1, p2, p3⟩ := hq (i / 4) (by omega)
      obtain ⟨t0, t1, t2, t3⟩ := quads_get ((List.range len).map q) (i / 4) (by omega)
      rw [← addr_add]
      rcases (show i % 4 = 0 ∨ i % 4 = 1 ∨ i % 4 = 2 ∨ i % 4 = 3 by omega) with e | e | e | e
      · rw [show i / 4 * 4 = i by omega] at t0 p0
        rw [t0, p0, hget _ (by omega)]
      · rw [show i / 4 * 4 + 1 = i by omega] at t1 p1
        rw [t1, p1, hget _ (by omega)]
      · rw [show i / 4 * 4 + 2 = i by omega] at t2 p2
        rw [t2, p2, hget _ (by omega)]
      · rw [show i / 4 * 4 + 3 = i by omega] at t3 p3
        rw [t3, p3, hget _ (by omega)]
end

end Go.Proofs.Ytcbfmjanjciodaa

/- Closed facts of the program's tables that the rows over differences ask. -/
namespace Go.Proofs.Ytcbfmjanjciodaa
theorem Try.cellsDelta : Try.prog.cellsOf 73 = 4 := by kernel_rfl
theorem Try.cellsStep : Try.prog.cellsOf 218 = 4 := by kernel_rfl

end Go.Proofs.Ytcbfmjanjciodaa
