/- From the reading of an argument to machines. No program is named. -/
import Derived.Test.YtedgppggaceopaaOpenP
import Derived.Test.YtedgppggaceopaaMS2
namespace Go.Proofs.Ytedgppggaceopaa
open Go.RowKit Go.ChangeShapes Go.WideShapes Go.Deep

section
variable {H : Type} {enc : TypeId × Value → H} {P : Program} {w : World}
def SesTy (P : Program) (e : TypeId) : Prop := ∃ f0 f1 f2 f3 : Field, P.underlying e = some (.struct #[f0, f1, f2, f3]) ∧ P.cellsOf e = 4 ∧ (f0.offset = 0 ∧ f1.offset = 1 ∧ f2.offset = 2 ∧ f3.offset = 3) ∧ (P.underlying f0.type = some (.int .i64) ∧ P.underlying f1.type = some (.int .i64) ∧ P.underlying f2.type = some (.int .i64) ∧ P.underlying f3.type = some (.int .i64)) ∧ (P.cellsOf f0.type = 1 ∧ P.cellsOf f1.type = 1 ∧ P.cellsOf f2.type = 1 ∧ P.cellsOf f3.type = 1)
theorem read_sessions {t e : TypeId} {fuel : Nat} {v : Value} {x : DataW H × List MemPlace} (ht : P.underlying t = some (.slice e)) (hty : SesTy P e)
    (h : DataW.trod enc P w 0 (fun _ => true) true fuel t [v] = some x) :
    ∃ ao n cap ss, v = .slice ao n cap ∧ n ≤ maxLen ∧ RowAt w false 0 w.heap.size 4 ao n cap (fours ss) := by
  obtain ⟨f0, f1, f2, f3, he, ce, ⟨o0, o1, o2, o3⟩, ⟨i0, i1, i2, i3⟩, ⟨c0, c1, c2, c3⟩⟩ := hty
  rcases open_slice ht h with ⟨hcs, _⟩ | ⟨a, len, cap, m, n, D, Pl, hcs, hb, hl, hm, hz, _, hx⟩
  · simp only [List.cons.injEq, and_true] at hcs
    exact ⟨none, 0, 0, [], hcs, Nat.zero_le _, RowAt.nil _ _ _ _ _⟩
  · simp only [List.cons.injEq, and_true] at hcs
    simp only [if_true] at hz
    subst hz
    have each : ∀ i, i < m → ∃ q : Se, w.cell? (a.add (i * 4)) = some (.int .i64 q.1) ∧ w.cell? (a.add (i * 4 + 1)) = some (.int .i64 q.2.1) ∧ w.cell? (a.add (i * 4 + 2)) = some (.int .i64 q.2.2.1) ∧ w.cell? (a.add (i * 4 + 3)) = some (.int .i64 q.2.2.2) := fun i hi => by
      obtain ⟨cs, h1, h2⟩ := hx i hi
      rw [ce] at h1
      obtain ⟨_, hlen, hcell⟩ := World.cells?_some h1
      obtain ⟨ys, k, _, _, _, hyl, hf⟩ := DataW.trod_struct he h2
      match ys, hyl, cs, hlen with
      | [y0, y1, y2, y3], _, [v0, v1, v2, v3], _ =>
        have g0 := hf 0 f0 rfl
        have g1 := hf 1 f1 rfl
        have g2 := hf 2 f2 rfl
        have g3 := hf 3 f3 rfl
        simp [o0, o1, o2, o3, c0, c1, c2, c3] at g0 g1 g2 g3
        have e0 := hcell 0 (by omega)
        have e1 := hcell 1 (by omega)
        have e2 := hcell 2 (by omega)
        have e3 := hcell 3 (by omega)
        rw [add_add] at e0 e1 e2 e3
        obtain ⟨r, d0, _, _⟩ := DataW.trod_int i0 g0
        obtain ⟨s, d1, _, _⟩ := DataW.trod_int i1 g1
        obtain ⟨u, d2, _, _⟩ := DataW.trod_int i2 g2
        obtain ⟨z, d3, _, _⟩ := DataW.trod_int i3 g3
        simp only [List.cons.injEq, and_true] at d0 d1 d2 d3
        refine ⟨(r, s, u, z), ?_, ?_, ?_, ?_⟩
        · rw [← d0]; simpa using e0
        · rw [← d1]; simpa using e1
        · rw [← d2]; simpa using e2
        · rw [← d3]; simpa using e3
    obtain ⟨q, hq⟩ := choose_lt each
    have hlen : ((List.range len).map q).length = len := by simp
    have hget : ∀ i, i < len → ((List.range len).map q).getD i se0 = q i := fun i hi => by simp [List.getD, hi]
    refine ⟨some a, len, m, (List.range len).map q, hcs, Nat.le_trans hl hm, ?_, hl, fun hn => ?_⟩
    · rw [fours_len, hlen]
    · have h0 := (hq 0 (by omega)).1
      obtain ⟨b, off, spot⟩ := a
      have hspot : spot = none := by simpa [Addr.add] using World.cell?_spot h0
      subst hspot
      refine ⟨b, off, rfl, Nat.zero_le _, World.block_lt_of_cell? w _ h0, World.block_lt_of_cell? w _ h0, fun i hi => ?_, fun h => by cases h⟩
      obtain ⟨p0, p1, p2, p3⟩ := hq (i / 4) (by omega)
      rw [← addr_add]
      have key := fours_get ((List.range len).map q) (i / 4) (i % 4) (by omega) (by omega)
      rw [show i / 4 * 4 + i % 4 = i by omega, hget _ (by omega)] at key
      rcases (show i % 4 = 0 ∨ i % 4 = 1 ∨ i % 4 = 2 ∨ i % 4 = 3 by omega) with e | e | e | e
      · rw [e] at key
        rw [show i / 4 * 4 = i by omega] at p0
        rw [key, p0]; rfl
      · rw [e] at key
        rw [show i / 4 * 4 + 1 = i by omega] at p1
        rw [key, p1]; rfl
      · rw [e] at key
        rw [show i / 4 * 4 + 2 = i by omega] at p2
        rw [key, p2]; rfl
      · rw [e] at key
        rw [show i / 4 * 4 + 3 = i by omega] at p3
        rw [key, p3]; rfl
theorem open_machine {r : Reach} {b0 : Nat} {t : TypeId} {f0 f1 g0 g1 k0 k1 : Field} {v : Value} {d : DataW H} {p : List MemPlace} {base : Nat} {spare : Nat → Bool} {held : Bool} (hs : P.underlying t = some (.struct #[f0, f1])) (o0 : f0.offset = 0) (o1 : f1.offset = 3) (s0 : P.cellsOf f0.type = 3) (s1 : P.cellsOf f1.type = 1) (hC : P.cellsOf t = 4)
    (hs' : P.underlying f0.type = some (.struct #[g0, g1])) (p0 : g0.offset = 0) (p1 : g1.offset = 2) (m0 : P.cellsOf g0.type = 2) (m1 : P.cellsOf g1.type = 1)
    (ht' : P.underlying g0.type = some (.struct #[k0, k1])) (q0 : k0.offset = 0) (q1 : k1.offset = 1) (j0 : P.cellsOf k0.type = 1) (j1 : P.cellsOf k1.type = 1)
    (hv : Value.okWide P w r b0 t v) (h : DataW.Trod enc P w base spare held t v d p) :
    ∃ (v0 v1 v2 v3 : Value) (y0 y1 y2 y3 : DataW H × List MemPlace) (n n' n'' : Nat), v = .agg #[v0, v1, v2, v3] ∧
      DataW.trod enc P w base spare held n'' k0.type [v0] = some y0 ∧ DataW.trod enc P w base spare held n'' k1.type [v1] = some y1 ∧ DataW.trod enc P w base spare held n' g1.type [v2] = some y2 ∧ DataW.trod enc P w base spare held n f1.type [v3] = some y3 := by
  obtain ⟨cs, rfl, hsz⟩ := okWide_struct hs hv
  have h3 : ∃ c0 c1 c2 c3, cs = #[c0, c1, c2, c3] := by
    have hq := hsz.trans hC
    obtain ⟨l⟩ := cs
    match l, hq with
    | [c0, c1, c2, c3], _ => exact ⟨c0, c1, c2, c3, rfl⟩
  obtain ⟨c0, c1, c2, c3, rfl⟩ := h3
  obtain ⟨fuel, hf⟩ := h
  obtain ⟨y0, y1, n, _, _, h0, h1⟩ := trod_struct2 hs hf
  have h0' : DataW.trod enc P w base spare held n f0.type [c0, c1, c2] = some y0 := by simpa [Value.cells, o0, s0] using h0
  have h1' : DataW.trod enc P w base spare held n f1.type [c3] = some y1 := by simpa [Value.cells, o1, s1] using h1
  obtain ⟨z0, z1, n', _, _, a0, a1⟩ := trod_struct2 hs' h0'
  have a0' : DataW.trod enc P w base spare held n' g0.type [c0, c1] = some z0 := by simpa [p0, m0] using a0
  have a1' : DataW.trod enc P w base spare held n' g1.type [c2] = some z1 := by simpa [p1, m1] using a1
  obtain ⟨x0, x1, n'', _, _, b0, b1⟩ := trod_struct2 ht' a0'
  exact ⟨c0, c1, c2, c3, x0, x1, z1, y1, n, n', n'', rfl, by simpa [q0, j0] using b0, by simpa [q1, j1] using b1, a1', h1'⟩
end

end Go.Proofs.Ytedgppggaceopaa
