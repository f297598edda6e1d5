/- From the reading of an argument to replicas and mails. No program is named. -/
import Derived.Test.YtannjgdginfgeaaXB
import Derived.Test.YtannjgdginfgeaaWA
namespace Go.Proofs.Ytannjgdginfgeaa
open Go.RowKit Go.ChangeShapes Go.WideShapes Go.Deep

section
variable {H : Type} {enc : TypeId × Value → H} {P : Program} {w : World}
def DrTy (P : Program) (t : TypeId) : Prop := ∃ f0 f1 f2 f3 : Field, ∃ t2 : TypeId, P.underlying t = some (.struct #[f0, f1, f2, f3]) ∧ (f0.offset = 0 ∧ f1.offset = 1 ∧ f2.offset = 2 ∧ f3.offset = 3) ∧ (P.cellsOf f0.type = 1 ∧ P.cellsOf f1.type = 1 ∧ P.cellsOf f2.type = 1 ∧ P.cellsOf f3.type = 1) ∧ P.cellsOf t = 4 ∧ P.underlying f0.type = some .bool ∧ P.underlying f1.type = some (.int .i64) ∧ P.underlying f2.type = some (.slice t2) ∧ EnTy P t2 ∧ P.underlying f3.type = some (.int .i64)
def RepTy (P : Program) (t : TypeId) : Prop := ∃ f0 f1 f2 f3 f4 f5 f6 f7 f8 f9 : Field, ∃ t5 t7 t8 t9 : TypeId, P.underlying t = some (.struct #[f0, f1, f2, f3, f4, f5, f6, f7, f8, f9]) ∧ (f0.offset = 0 ∧ f1.offset = 1 ∧ f2.offset = 2 ∧ f3.offset = 3 ∧ f4.offset = 4 ∧ f5.offset = 5 ∧ f6.offset = 6 ∧ f7.offset = 7 ∧ f8.offset = 8 ∧ f9.offset = 9) ∧ (P.cellsOf f0.type = 1 ∧ P.cellsOf f1.type = 1 ∧ P.cellsOf f2.type = 1 ∧ P.cellsOf f3.type = 1 ∧ P.cellsOf f4.type = 1 ∧ P.cellsOf f5.type = 1 ∧ P.cellsOf f6.type = 1 ∧ P.cellsOf f7.type = 1 ∧ P.cellsOf f8.type = 1 ∧ P.cellsOf f9.type = 1) ∧ P.cellsOf t = 10 ∧ P.underlying f0.type = some (.int .i64) ∧ P.underlying f1.type = some (.int .i64) ∧ P.underlying f2.type = some (.int .i64) ∧ P.underlying f3.type = some .bool ∧ P.underlying f4.type = some (.int .i64) ∧ P.underlying f5.type = some (.slice t5) ∧ EnTy P t5 ∧ P.underlying f6.type = some (.int .i64) ∧ P.underlying f7.type = some (.slice t7) ∧ (P.underlying t7 = some (.int .i64) ∧ P.cellsOf t7 = 1) ∧ P.underlying f8.type = some (.slice t8) ∧ (P.underlying t8 = some .bool ∧ P.cellsOf t8 = 1) ∧ P.underlying f9.type = some (.slice t9) ∧ DrTy P t9
def MailTy (P : Program) (t : TypeId) : Prop := ∃ f0 f1 f2 f3 f4 f5 f6 f7 f8 f9 : Field, ∃ t8 : TypeId, P.underlying t = some (.struct #[f0, f1, f2, f3, f4, f5, f6, f7, f8, f9]) ∧ (f0.offset = 0 ∧ f1.offset = 1 ∧ f2.offset = 2 ∧ f3.offset = 3 ∧ f4.offset = 4 ∧ f5.offset = 5 ∧ f6.offset = 6 ∧ f7.offset = 12 ∧ f8.offset = 13 ∧ f9.offset = 14) ∧ (P.cellsOf f0.type = 1 ∧ P.cellsOf f1.type = 1 ∧ P.cellsOf f2.type = 1 ∧ P.cellsOf f3.type = 1 ∧ P.cellsOf f4.type = 1 ∧ P.cellsOf f5.type = 1 ∧ P.cellsOf f6.type = 6 ∧ P.cellsOf f7.type = 1 ∧ P.cellsOf f8.type = 1 ∧ P.cellsOf f9.type = 1) ∧ P.cellsOf t = 15 ∧ P.underlying f0.type = some (.int .i64) ∧ P.underlying f1.type = some (.int .i64) ∧ P.underlying f2.type = some (.int .i64) ∧ P.underlying f3.type = some (.int .i64) ∧ P.underlying f4.type = some (.int .i64) ∧ P.underlying f5.type = some .bool ∧ EnTy P f6.type ∧ P.underlying f7.type = some (.int .i64) ∧ P.underlying f8.type = some (.slice t8) ∧ EnTy P t8 ∧ P.underlying f9.type = some (.int .i64)
theorem read_doers {t e : TypeId} {fuel : Nat} {v : Value} {x : DataW H × List MemPlace} (ht : P.underlying t = some (.slice e)) (hty : DrTy P e) (h : DataW.trod enc P w 0 (fun _ => true) true fuel t [v] = some x) :
    ∃ ao n cap K ds, v = .slice ao n cap ∧ n ≤ maxLen ∧ (∀ i, i < n → (K i).2.1 ≤ maxLen) ∧ DoersAt w false 0 w.heap.size ao n cap K ds := by
  obtain ⟨f0, f1, f2, f3, t2, he, ⟨o0, o1, o2, o3⟩, ⟨c0, c1, c2, c3⟩, hC, u0, u1, u2, x2, u3⟩ := hty
  rcases open_slice ht h with ⟨hcs, _⟩ | ⟨a, len, cap, m, n, D, Pl, hcs, hb, hl, hm, hz, _, hx⟩
  · simp only [List.cons.injEq, and_true] at hcs
    exact ⟨none, 0, 0, fun _ => (none, 0, 0), [], hcs, Nat.zero_le _, fun i hi => absurd hi (by omega), rfl, ElsAt.nil _ _ _ _ _ _ _ _ _ _⟩
  · simp only [List.cons.injEq, and_true] at hcs
    simp only [if_true] at hz
    subst hz
    have each : ∀ i, i < m → ∃ q : Dr × Hd, (∀ j, j < 4 → w.cell? (a.add (i * 4 + j)) = some (drF (fun _ => q.2) [q.1] 0 j)) ∧ q.2.2.1 ≤ maxLen ∧ RowAt w false 0 w.heap.size 6 q.2.1 q.2.2.1 q.2.2.2 (sixs q.1.2.2.1) := fun i hi => by
      obtain ⟨cs, h1, h2⟩ := hx i hi
      rw [hC] at h1
      obtain ⟨_, hlen, hcell⟩ := World.cells?_some h1
      obtain ⟨ys, k, _, _, _, hyl, hf⟩ := DataW.trod_struct he h2
      match ys, hyl, cs, hlen with
      | [y0, y1, y2, y3], _, [v0, v1, v2, v3], _ =>
        have g0 := hf 0 f0 rfl
        have g1 := hf 1 f1 rfl
        have g2 := hf 2 f2 rfl
        have g3 := hf 3 f3 rfl
        simp [o0, o1, o2, o3, c0, c1, c2, c3] at g0 g1 g2 g3
        obtain ⟨a0, d0, _⟩ := DataW.trod_bool u0 g0
        obtain ⟨a1, d1, _, _⟩ := DataW.trod_int u1 g1
        obtain ⟨k2, n2, m2, xs2, d2, hn2, hr2⟩ := read_entries u2 x2 g2
        obtain ⟨a3, d3, _, _⟩ := DataW.trod_int u3 g3
        simp only [List.cons.injEq, and_true] at d0 d1 d3
        refine ⟨((a0, a1, xs2, a3), (k2, n2, m2)), fun j hj => ?_, hn2, hr2⟩
        have e0 := hcell j (by omega)
        rw [add_add] at e0
        rw [e0, d0, d1, d2, d3]
        match j, hj with
        | 0, _ => rfl
        | 1, _ => rfl
        | 2, _ => rfl
        | 3, _ => rfl
    obtain ⟨q, hq⟩ := choose_lt each
    have hlen : ((List.range len).map fun i => (q i).1).length = len := by simp
    have hget : ∀ i, i < len → ((List.range len).map fun i => (q i).1).getD i dr0 = (q i).1 := fun i hi => by simp [List.getD, hi]
    have hdr : ∀ i j, i < len → drF (fun i => (q i).2) ((List.range len).map fun i => (q i).1) i j = drF (fun _ => (q i).2) [(q i).1] 0 j := fun i j hi => by unfold drF; rw [hget i hi]; rfl
    refine ⟨some a, len, m, fun i => (q i).2, (List.range len).map fun i => (q i).1, hcs, Nat.le_trans hl hm, fun i hi => (hq i (by omega)).2.1, hlen, ⟨by rw [flatF_len], hl, fun hn => ?_⟩, fun i hi => ?_, fun hx => by cases hx⟩
    · have h0 := (hq 0 (by omega)).1 0 (by omega)
      obtain ⟨b, off, spot⟩ := a
      have hspot : spot = none := by simpa [Addr.add] using World.cell?_spot h0
      subst hspot
      refine ⟨b, off, rfl, Nat.zero_le _, World.block_lt_of_cell? w _ h0, World.block_lt_of_cell? w _ h0, fun i hi => ?_, fun h => by cases h⟩
      have p0 := (hq (i / 4) (by omega)).1 (i % 4) (by omega)
      have t0 := flatF_get (sz := 4) (n := len) (drF (fun i => (q i).2) ((List.range len).map fun i => (q i).1)) (i := i / 4) (j := i % 4) (by omega) (by omega)
      rw [show i / 4 * 4 + i % 4 = i by omega] at t0 p0
      rw [← addr_add, t0, p0, hdr _ _ (by omega)]
    · unfold drL; rw [hget i hi]; exact (hq i (by omega)).2.2
end

end Go.Proofs.Ytannjgdginfgeaa

/- Closed facts of the program's tables that the rows over replicas and mails ask. -/
namespace Go.Proofs.Ytannjgdginfgeaa
theorem Try.drTy : DrTy Try.prog 133 := ⟨_, _, _, _, _, Try.underlying133, ⟨rfl, rfl, rfl, rfl⟩, ⟨by kernel_rfl, by kernel_rfl, by kernel_rfl, by kernel_rfl⟩, by kernel_rfl, Try.underlying4, Try.underlying2, Try.underlying24, Try.enTy, Try.underlying2⟩
theorem Try.repTy : RepTy Try.prog 80 := ⟨_, _, _, _, _, _, _, _, _, _, _, _, _, _, Try.underlying80, ⟨rfl, rfl, rfl, rfl, rfl, rfl, rfl, rfl, rfl, rfl⟩, ⟨by kernel_rfl, by kernel_rfl, by kernel_rfl, by kernel_rfl, by kernel_rfl, by kernel_rfl, by kernel_rfl, by kernel_rfl, by kernel_rfl, by kernel_rfl⟩, by kernel_rfl, Try.underlying2, Try.underlying2, Try.underlying2, Try.underlying4, Try.underlying2, Try.underlying24, Try.enTy, Try.underlying2, Try.underlying60, ⟨Try.underlying2, Try.cellsInt⟩, Try.underlying61, ⟨Try.underlying4, Try.cellsBool⟩, Try.underlying78, Try.drTy⟩
theorem Try.mailTy : MailTy Try.prog 86 := ⟨_, _, _, _, _, _, _, _, _, _, _, Try.underlying86, ⟨rfl, rfl, rfl, rfl, rfl, rfl, rfl, rfl, rfl, rfl⟩, ⟨by kernel_rfl, by kernel_rfl, by kernel_rfl, by kernel_rfl, by kernel_rfl, by kernel_rfl, by kernel_rfl, by kernel_rfl, by kernel_rfl, by kernel_rfl⟩, by kernel_rfl, Try.underlying2, Try.underlying2, Try.underlying2, Try.underlying2, Try.underlying2, Try.underlying4, Try.enTy, Try.underlying2, Try.underlying24, Try.enTy, Try.underlying2⟩
end Go.Proofs.Ytannjgdginfgeaa
