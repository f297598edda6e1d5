/- From the reading of an argument to entries and logs. No program is named. -/
import Derived.Test.YtannjgdginfgeaaZR
import Derived.Test.YtannjgdginfgeaaXA
namespace Go.Proofs.Ytannjgdginfgeaa
open Go.RowKit Go.ChangeShapes Go.WideShapes Go.Deep

section
variable {H : Type} {enc : TypeId × Value → H} {P : Program} {w : World}
/-- a type of entries: two numbers and a struct of four -/
def EnTy (P : Program) (e : TypeId) : Prop := ∃ f0 f1 f2 g0 g1 g2 g3 : Field, P.underlying e = some (.struct #[f0, f1, f2]) ∧ (f0.offset = 0 ∧ f1.offset = 1 ∧ f2.offset = 2) ∧ (P.cellsOf e = 6 ∧ P.cellsOf f0.type = 1 ∧ P.cellsOf f1.type = 1 ∧ P.cellsOf f2.type = 4) ∧
  (P.underlying f0.type = some (.int .i64) ∧ P.underlying f1.type = some (.int .i64) ∧ P.underlying f2.type = some (.struct #[g0, g1, g2, g3])) ∧ (g0.offset = 0 ∧ g1.offset = 1 ∧ g2.offset = 2 ∧ g3.offset = 3) ∧
  (P.cellsOf g0.type = 1 ∧ P.cellsOf g1.type = 1 ∧ P.cellsOf g2.type = 1 ∧ P.cellsOf g3.type = 1) ∧ (P.underlying g0.type = some (.int .i64) ∧ P.underlying g1.type = some (.int .i64) ∧ P.underlying g2.type = some (.int .i64) ∧ P.underlying g3.type = some (.int .i64))
theorem EnTy.cells {e : TypeId} (h : EnTy P e) : P.cellsOf e = 6 := by obtain ⟨_, _, _, _, _, _, _, _, _, h, _⟩ := h; exact h.1
theorem six_of {e : TypeId} (ht : EnTy P e) {fuel : Nat} {cs : List Value} {x : DataW H × List MemPlace} {base : Nat} {spare : Nat → Bool} {held : Bool} (hlen : cs.length = 6) (h : DataW.trod enc P w base spare held fuel e cs = some x) :
    ∃ q : En, cs = [.int .i64 q.1, .int .i64 q.2.1, .int .i64 q.2.2.1, .int .i64 q.2.2.2.1, .int .i64 q.2.2.2.2.1, .int .i64 q.2.2.2.2.2] := by
  obtain ⟨f0, f1, f2, k0, k1, k2, k3, he, ⟨o0, o1, o2⟩, ⟨_, c0, c1, c2⟩, ⟨i0, i1, hs⟩, ⟨p0, p1, p2, p3⟩, ⟨d0, d1, d2, d3⟩, ⟨j0, j1, j2, j3⟩⟩ := ht
  obtain ⟨ys, k, _, _, _, hyl, hf⟩ := DataW.trod_struct he h
  match ys, hyl, cs, hlen with
  | [y0, y1, y2], _, [v0, v1, v2, v3, v4, v5], _ =>
    have g0 := hf 0 f0 rfl
    have g1 := hf 1 f1 rfl
    have g2 := hf 2 f2 rfl
    simp [o0, o1, o2, c0, c1, c2] at g0 g1 g2
    obtain ⟨zs, m, _, _, _, hzl, hg⟩ := DataW.trod_struct hs g2
    match zs, hzl with
    | [z0, z1, z2, z3], _ =>
      have q0 := hg 0 k0 rfl
      have q1 := hg 1 k1 rfl
      have q2 := hg 2 k2 rfl
      have q3 := hg 3 k3 rfl
      simp [p0, p1, p2, p3, d0, d1, d2, d3] at q0 q1 q2 q3
      obtain ⟨a0, e0, _, _⟩ := DataW.trod_int i0 g0
      obtain ⟨a1, e1, _, _⟩ := DataW.trod_int i1 g1
      obtain ⟨a2, e2, _, _⟩ := DataW.trod_int j0 q0
      obtain ⟨a3, e3, _, _⟩ := DataW.trod_int j1 q1
      obtain ⟨a4, e4, _, _⟩ := DataW.trod_int j2 q2
      obtain ⟨a5, e5, _, _⟩ := DataW.trod_int j3 q3
      simp only [List.cons.injEq, and_true] at e0 e1 e2 e3 e4 e5
      exact ⟨(a0, a1, a2, a3, a4, a5), by rw [e0, e1, e2, e3, e4, e5]⟩
theorem read_entries {t e : TypeId} {fuel : Nat} {v : Value} {x : DataW H × List MemPlace} (ht : P.underlying t = some (.slice e)) (he : EnTy P e) (h : DataW.trod enc P w 0 (fun _ => true) true fuel t [v] = some x) :
    ∃ ao n cap vs, v = .slice ao n cap ∧ n ≤ maxLen ∧ RowAt w false 0 w.heap.size 6 ao n cap (sixs vs) := by
  rcases open_slice ht h with ⟨hcs, _⟩ | ⟨a, len, cap, m, n, D, Pl, hcs, hb, hl, hm, hz, _, hx⟩
  · simp only [List.cons.injEq, and_true] at hcs
    exact ⟨none, 0, 0, [], hcs, Nat.zero_le _, RowAt.nil _ _ _ _ _⟩
  · simp only [List.cons.injEq, and_true] at hcs
    simp only [if_true] at hz
    subst hz
    have each : ∀ i, i < m → ∃ q : En, ∀ j, j < 6 → w.cell? (a.add (i * 6 + j)) = some (.int .i64 (enF q j)) := fun i hi => by
      obtain ⟨cs, h1, h2⟩ := hx i hi
      rw [he.cells] at h1
      obtain ⟨_, hlen, hcell⟩ := World.cells?_some h1
      obtain ⟨q, hq⟩ := six_of he hlen h2
      refine ⟨q, fun j hj => ?_⟩
      have e0 := hcell j (by omega)
      rw [add_add, hq] at e0
      rw [e0]
      match j, hj with
      | 0, _ => rfl
      | 1, _ => rfl
      | 2, _ => rfl
      | 3, _ => rfl
      | 4, _ => rfl
      | 5, _ => rfl
    obtain ⟨q, hq⟩ := choose_lt each
    have hlen : ((List.range len).map q).length = len := by simp
    have hget : ∀ i, i < len → ((List.range len).map q).getD i en0 = q i := fun i hi => by simp [List.getD, hi]
    refine ⟨some a, len, m, (List.range len).map q, hcs, Nat.le_trans hl hm, ?_, hl, fun hn => ?_⟩
    · rw [sixs_len, hlen]
    · have h0 := hq 0 (by omega) 0 (by omega)
      obtain ⟨b, off, spot⟩ := a
      have hspot : spot = none := by simpa [Addr.add] using World.cell?_spot h0
      subst hspot
      refine ⟨b, off, rfl, Nat.zero_le _, World.block_lt_of_cell? w _ h0, World.block_lt_of_cell? w _ h0, fun i hi => ?_, fun h => by cases h⟩
      have p0 := hq (i / 6) (by omega) (i % 6) (by omega)
      have t0 := sixs_get ((List.range len).map q) (i / 6) (i % 6) (by omega) (by omega)
      rw [show i / 6 * 6 + i % 6 = i by omega] at t0 p0
      rw [← addr_add, t0, p0, hget _ (by omega)]
end

end Go.Proofs.Ytannjgdginfgeaa

/- Closed facts of the program's tables that the rows over entries ask. -/
namespace Go.Proofs.Ytannjgdginfgeaa
theorem Try.enTy : EnTy Try.prog 84 := ⟨_, _, _, _, _, _, _, Try.underlying84, ⟨rfl, rfl, rfl⟩, ⟨by kernel_rfl, by kernel_rfl, by kernel_rfl, by kernel_rfl⟩, ⟨Try.underlying2, Try.underlying2, Try.underlying82⟩, ⟨rfl, rfl, rfl, rfl⟩, ⟨by kernel_rfl, by kernel_rfl, by kernel_rfl, by kernel_rfl⟩, ⟨Try.underlying2, Try.underlying2, Try.underlying2, Try.underlying2⟩⟩
end Go.Proofs.Ytannjgdginfgeaa
