/- From the reading of an argument to replicas and mails. No program is named. -/
import Derived.Test.YtjefmhjlaibbkaaQAVR
import Derived.Test.YtjefmhjlaibbkaaQAGR
import Derived.Test.YtjefmhjlaibbkaaZCR
import Derived.Test.YtjefmhjlaibbkaaQABR
import Derived.Deep.MidRow
import Derived.Deep.RegionHeld3
import Derived.Deep.WholeRow
set_option maxRecDepth 20000
set_option maxHeartbeats 16000000
namespace Go.Proofs.Ytjefmhjlaibbkaa
open Go.RowKit Go.ChangeShapes Go.WideShapes Go.Deep
section
variable {H : Type} {enc : TypeId × Value → H} {P : Program} {w : World}
def DrTy (P : Program) (t : TypeId) : Prop := ∃ f0 f1 f2 f3 : Field, ∃ t2 : TypeId, P.underlying t = some (.struct #[f0, f1, f2, f3]) ∧ (f0.offset = 0 ∧ f1.offset = 1 ∧ f2.offset = 2 ∧ f3.offset = 3) ∧ (P.cellsOf f0.type = 1 ∧ P.cellsOf f1.type = 1 ∧ P.cellsOf f2.type = 1 ∧ P.cellsOf f3.type = 1) ∧ P.cellsOf t = 4 ∧ P.underlying f0.type = some .bool ∧ P.underlying f1.type = some (.int .i64) ∧ P.underlying f2.type = some (.slice t2) ∧ EnTy P t2 ∧ P.underlying f3.type = some (.int .i64)
def RepTy (P : Program) (t : TypeId) : Prop := ∃ f0 f1 f2 f3 f4 f5 f6 f7 f8 f9 : Field, ∃ t5 t7 t8 t9 : TypeId, P.underlying t = some (.struct #[f0, f1, f2, f3, f4, f5, f6, f7, f8, f9]) ∧ (f0.offset = 0 ∧ f1.offset = 1 ∧ f2.offset = 2 ∧ f3.offset = 3 ∧ f4.offset = 4 ∧ f5.offset = 5 ∧ f6.offset = 6 ∧ f7.offset = 7 ∧ f8.offset = 8 ∧ f9.offset = 9) ∧ (P.cellsOf f0.type = 1 ∧ P.cellsOf f1.type = 1 ∧ P.cellsOf f2.type = 1 ∧ P.cellsOf f3.type = 1 ∧ P.cellsOf f4.type = 1 ∧ P.cellsOf f5.type = 1 ∧ P.cellsOf f6.type = 1 ∧ P.cellsOf f7.type = 1 ∧ P.cellsOf f8.type = 1 ∧ P.cellsOf f9.type = 1) ∧ P.cellsOf t = 10 ∧ P.underlying f0.type = some (.int .i64) ∧ P.underlying f1.type = some (.int .i64) ∧ P.underlying f2.type = some (.int .i64) ∧ P.underlying f3.type = some .bool ∧ P.underlying f4.type = some (.int .i64) ∧ P.underlying f5.type = some (.slice t5) ∧ EnTy P t5 ∧ P.underlying f6.type = some (.int .i64) ∧ P.underlying f7.type = some (.slice t7) ∧ (P.underlying t7 = some (.int .i64) ∧ P.cellsOf t7 = 1) ∧ P.underlying f8.type = some (.slice t8) ∧ (P.underlying t8 = some .bool ∧ P.cellsOf t8 = 1) ∧ P.underlying f9.type = some (.slice t9) ∧ DrTy P t9
def MailTy (P : Program) (t : TypeId) : Prop := ∃ f0 f1 f2 f3 f4 f5 f6 f7 f8 f9 : Field, ∃ t8 : TypeId, P.underlying t = some (.struct #[f0, f1, f2, f3, f4, f5, f6, f7, f8, f9]) ∧ (f0.offset = 0 ∧ f1.offset = 1 ∧ f2.offset = 2 ∧ f3.offset = 3 ∧ f4.offset = 4 ∧ f5.offset = 5 ∧ f6.offset = 6 ∧ f7.offset = 12 ∧ f8.offset = 13 ∧ f9.offset = 14) ∧ (P.cellsOf f0.type = 1 ∧ P.cellsOf f1.type = 1 ∧ P.cellsOf f2.type = 1 ∧ P.cellsOf f3.type = 1 ∧ P.cellsOf f4.type = 1 ∧ P.cellsOf f5.type = 1 ∧ P.cellsOf f6.type = 6 ∧ P.cellsOf f7.type = 1 ∧ P.cellsOf f8.type = 1 ∧ P.cellsOf f9.type = 1) ∧ P.cellsOf t = 15 ∧ P.underlying f0.type = some (.int .i64) ∧ P.underlying f1.type = some (.int .i64) ∧ P.underlying f2.type = some (.int .i64) ∧ P.underlying f3.type = some (.int .i64) ∧ P.underlying f4.type = some (.int .i64) ∧ P.underlying f5.type = some .bool ∧ EnTy P f6.type ∧ P.underlying f7.type = some (.int .i64) ∧ P.underlying f8.type = some (.slice t8) ∧ EnTy P t8 ∧ P.underlying f9.type = some (.int .i64)
theorem read_doers {t e : TypeId} {fuel : Nat} {v : Value} {x : DataW H × List MemPlace} (ht : P.underlying t = some (.slice e)) (hty : DrTy P e) (h : DataW.trod enc P w 0 (fun _ => true) true fuel t [v] = some x) :
  ∃ ao n cap K ds, v = .slice ao n cap ∧ n ≤ maxLen ∧ (∀ i, i < n → (K i).2.1 ≤ maxLen) ∧ DoersAt w false 0 w.heap.size ao n cap K ds := by
 obtain ⟨f0, f1, f2, f3, t2, he, ⟨o0, o1, o2, o3⟩, ⟨c0, c1, c2, c3⟩, hC, u0, u1, u2, x2, u3⟩ := hty
 rcases open_slice ht h with ⟨hcs, _⟩ | ⟨a, len, cap, m, n, D, Pl, hcs, hb, hl, hm, hz, _, hx⟩
 ·simp only [List.cons.injEq, and_true] at hcs
  exact ⟨none, 0, 0, fun _ => (none, 0, 0), [], hcs, Nat.zero_le _, fun i hi => absurd hi (by omega), rfl, ElsAt.nil _ _ _ _ _ _ _ _ _ _⟩
 ·simp only [List.cons.injEq, and_true] at hcs
  simp only [if_true] at hz
  subst hz
  have each : ∀ i, i < m → ∃ q : Dr × Hd, (∀ j, j < 4 → w.cell? (a.add (i * 4 + j)) = some (drF (fun _ => q.2) [q.1] 0 j)) ∧ q.2.2.1 ≤ maxLen ∧ RowAt w false 0 w.heap.size 6 q.2.1 q.2.2.1 q.2.2.2 (sixs q.1.2.2.1) := fun i hi => by
   obtain ⟨cs, h1, h2⟩ := hx i hi
   rw [hC] at h1
   obtain ⟨_, hlen, hcell⟩ := World.cells?_some h1
   obtain ⟨ys, k, _, _, _, hyl, hf⟩ := DataW.trod_struct he h2
   match ys, hyl, cs, hlen with
   | [y0, y1, y2, y3], _, [v0, v1, v2, v3], _ =>
    have g0 := hf 0 f0 rfl
    have g1 := hf 1 f1 rfl
    have g2 := hf 2 f2 rfl
    have g3 := hf 3 f3 rfl
    simp [o0, o1, o2, o3, c0, c1, c2, c3] at g0 g1 g2 g3
    obtain ⟨a0, d0, _⟩ := DataW.trod_bool u0 g0
    obtain ⟨a1, d1, _, _⟩ := DataW.trod_int u1 g1
    obtain ⟨k2, n2, m2, xs2, d2, hn2, hr2⟩ := read_entries u2 x2 g2
    obtain ⟨a3, d3, _, _⟩ := DataW.trod_int u3 g3
    simp only [List.cons.injEq, and_true] at d0 d1 d3
    refine ⟨((a0, a1, xs2, a3), (k2, n2, m2)), fun j hj => ?_, hn2, hr2⟩
    have e0 := hcell j (by omega)
    rw [add_add] at e0
    rw [e0, d0, d1, d2, d3]
    match j, hj with
    | 0, _ => rfl
    | 1, _ => rfl
    | 2, _ => rfl
    | 3, _ => rfl
  obtain ⟨q, hq⟩ := choose_lt each
  have hlen : ((List.range len).map fun i => (q i).1).length = len := by simp
  have hget : ∀ i, i < len → ((List.range len).map fun i => (q i).1).getD i dr0 = (q i).1 := fun i hi => by simp [List.getD, hi]
  have hdr : ∀ i j, i < len → drF (fun i => (q i).2) ((List.range len).map fun i => (q i).1) i j = drF (fun _ => (q i).2) [(q i).1] 0 j := fun i j hi => by unfold drF; rw [hget i hi]; rfl
  refine ⟨some a, len, m, fun i => (q i).2, (List.range len).map fun i => (q i).1, hcs, Nat.le_trans hl hm, fun i hi => (hq i (by omega)).2.1, hlen, ⟨by rw [flatF_len], hl, fun hn => ?_⟩, fun i hi => ?_, fun hx => by cases hx⟩
  ·have h0 := (hq 0 (by omega)).1 0 (by omega)
   obtain ⟨b, off, spot⟩ := a
   have hspot : spot = none := by simpa [Addr.add] using World.cell?_spot h0
   subst hspot
   refine ⟨b, off, rfl, Nat.zero_le _, World.block_lt_of_cell? w _ h0, World.block_lt_of_cell? w _ h0, fun i hi => ?_, fun h => by cases h⟩
   have p0 := (hq (i / 4) (by omega)).1 (i % 4) (by omega)
   have t0 := flatF_get (sz := 4) (n := len) (drF (fun i => (q i).2) ((List.range len).map fun i => (q i).1)) (i := i / 4) (j := i % 4) (by omega) (by omega)
   rw [show i / 4 * 4 + i % 4 = i by omega] at t0 p0
   rw [← addr_add, t0, p0, hdr _ _ (by omega)]
  ·unfold drL; rw [hget i hi]; exact (hq i (by omega)).2.2
end
theorem Try.drTy : DrTy Try.prog 156 := ⟨_, _, _, _, _, Try.underlying156, ⟨rfl, rfl, rfl, rfl⟩, ⟨by kernel_rfl, by kernel_rfl, by kernel_rfl, by kernel_rfl⟩, by kernel_rfl, Try.underlying4, Try.underlying2, Try.underlying42, Try.enTy, Try.underlying2⟩
theorem Try.repTy : RepTy Try.prog 107 := ⟨_, _, _, _, _, _, _, _, _, _, _, _, _, _, Try.underlying107, ⟨rfl, rfl, rfl, rfl, rfl, rfl, rfl, rfl, rfl, rfl⟩, ⟨by kernel_rfl, by kernel_rfl, by kernel_rfl, by kernel_rfl, by kernel_rfl, by kernel_rfl, by kernel_rfl, by kernel_rfl, by kernel_rfl, by kernel_rfl⟩, by kernel_rfl, Try.underlying2, Try.underlying2, Try.underlying2, Try.underlying4, Try.underlying2, Try.underlying42, Try.enTy, Try.underlying2, Try.underlying25, ⟨Try.underlying2, Try.cellsInt⟩, Try.underlying26, ⟨Try.underlying4, Try.cellsBool⟩, Try.underlying105, Try.drTy⟩
theorem Try.mailTy : MailTy Try.prog 113 := ⟨_, _, _, _, _, _, _, _, _, _, _, Try.underlying113, ⟨rfl, rfl, rfl, rfl, rfl, rfl, rfl, rfl, rfl, rfl⟩, ⟨by kernel_rfl, by kernel_rfl, by kernel_rfl, by kernel_rfl, by kernel_rfl, by kernel_rfl, by kernel_rfl, by kernel_rfl, by kernel_rfl, by kernel_rfl⟩, by kernel_rfl, Try.underlying2, Try.underlying2, Try.underlying2, Try.underlying2, Try.underlying2, Try.underlying4, Try.enTy, Try.underlying2, Try.underlying42, Try.enTy, Try.underlying2⟩
end Go.Proofs.Ytjefmhjlaibbkaa
namespace Go.Proofs.Ytjefmhjlaibbkaa
open Go.RowKit Go.ChangeShapes Go.WideShapes Go.Deep
section
variable {H : Type} {enc : TypeId × Value → H} {P : Program} {w : World}
theorem rep_cells {t : TypeId} {fuel : Nat} {cs : List Value} {x : DataW H × List MemPlace} (hty : RepTy P t) (hl : cs.length = 10) (h : DataW.trod enc P w 0 (fun _ => true) true fuel t cs = some x) : ∃ q : Nod, cs = repC q.1 q.2 ∧ RSz q.2 maxLen ∧ RepAt w false 0 w.heap.size q.2 q.1 := by
 obtain ⟨f0, f1, f2, f3, f4, f5, f6, f7, f8, f9, t5, t7, t8, t9, he, ⟨o0, o1, o2, o3, o4, o5, o6, o7, o8, o9⟩, ⟨c0, c1, c2, c3, c4, c5, c6, c7, c8, c9⟩, hC, u0, u1, u2, u3, u4, u5, x5, u6, u7, ⟨x7, z7⟩, u8, ⟨x8, z8⟩, u9, x9⟩ := hty
 match cs, hl with
 | [e0, e1, e2, e3, e4, e5, e6, e7, e8, e9], _ =>
  obtain ⟨ys, k, _, _, _, hyl, hf⟩ := DataW.trod_struct he h
  match ys, hyl with
  | [y0, y1, y2, y3, y4, y5, y6, y7, y8, y9], _ =>
   have g0 := hf 0 f0 rfl
   have g1 := hf 1 f1 rfl
   have g2 := hf 2 f2 rfl
   have g3 := hf 3 f3 rfl
   have g4 := hf 4 f4 rfl
   have g5 := hf 5 f5 rfl
   have g6 := hf 6 f6 rfl
   have g7 := hf 7 f7 rfl
   have g8 := hf 8 f8 rfl
   have g9 := hf 9 f9 rfl
   simp [o0, o1, o2, o3, o4, o5, o6, o7, o8, o9, c0, c1, c2, c3, c4, c5, c6, c7, c8, c9] at g0 g1 g2 g3 g4 g5 g6 g7 g8 g9
   obtain ⟨a0, d0, _, _⟩ := DataW.trod_int u0 g0
   obtain ⟨a1, d1, _, _⟩ := DataW.trod_int u1 g1
   obtain ⟨a2, d2, _, _⟩ := DataW.trod_int u2 g2
   obtain ⟨a3, d3, _⟩ := DataW.trod_bool u3 g3
   obtain ⟨a4, d4, _, _⟩ := DataW.trod_int u4 g4
   obtain ⟨k5, n5, m5, xs5, d5, hn5, hr5⟩ := read_entries u5 x5 g5
   obtain ⟨a6, d6, _, _⟩ := DataW.trod_int u6 g6
   obtain ⟨k7, n7, m7, xs7, d7, hn7, hr7⟩ := read_ints u7 x7 z7 g7
   obtain ⟨k8, n8, m8, xs8, d8, hn8, hr8⟩ := read_bools u8 x8 z8 g8
   obtain ⟨k9, n9, m9, K9, xs9, d9, hn9, hk9, hr9⟩ := read_doers u9 x9 g9
   simp only [List.cons.injEq, and_true] at d0 d1 d2 d3 d4 d6
   exact ⟨(⟨a0, a1, a2, a3, a4, xs5, a6, xs7, xs8, xs9⟩, ⟨(k5, n5, m5), (k7, n7, m7), (k8, n8, m8), (k9, n9, m9), K9⟩), by rw [d0, d1, d2, d3, d4, d5, d6, d7, d8, d9]; rfl, ⟨hn5, hn7, hn8, hn9, hk9⟩, ⟨hr5, hr7, hr8, hr9, fun q => by cases q⟩⟩
theorem mail_cells {t : TypeId} {fuel : Nat} {cs : List Value} {x : DataW H × List MemPlace} (hty : MailTy P t) (hl : cs.length = 15) (h : DataW.trod enc P w 0 (fun _ => true) true fuel t cs = some x) : ∃ q : Mal, cs = mlV q.2 q.1 ∧ q.2.2.1 ≤ maxLen ∧ RowAt w false 0 w.heap.size 6 q.2.1 q.2.2.1 q.2.2.2 (sixs q.1.log) := by
 obtain ⟨f0, f1, f2, f3, f4, f5, f6, f7, f8, f9, t8, he, ⟨o0, o1, o2, o3, o4, o5, o6, o7, o8, o9⟩, ⟨c0, c1, c2, c3, c4, c5, c6, c7, c8, c9⟩, hC, u0, u1, u2, u3, u4, u5, u6, u7, u8, x8, u9⟩ := hty
 match cs, hl with
 | [e0, e1, e2, e3, e4, e5, e6, e7, e8, e9, e10, e11, e12, e13, e14], _ =>
  obtain ⟨ys, k, _, _, _, hyl, hf⟩ := DataW.trod_struct he h
  match ys, hyl with
  | [y0, y1, y2, y3, y4, y5, y6, y7, y8, y9], _ =>
   have g0 := hf 0 f0 rfl
   have g1 := hf 1 f1 rfl
   have g2 := hf 2 f2 rfl
   have g3 := hf 3 f3 rfl
   have g4 := hf 4 f4 rfl
   have g5 := hf 5 f5 rfl
   have g6 := hf 6 f6 rfl
   have g7 := hf 7 f7 rfl
   have g8 := hf 8 f8 rfl
   have g9 := hf 9 f9 rfl
   simp [o0, o1, o2, o3, o4, o5, o6, o7, o8, o9, c0, c1, c2, c3, c4, c5, c6, c7, c8, c9] at g0 g1 g2 g3 g4 g5 g6 g7 g8 g9
   obtain ⟨a0, d0, _, _⟩ := DataW.trod_int u0 g0
   obtain ⟨a1, d1, _, _⟩ := DataW.trod_int u1 g1
   obtain ⟨a2, d2, _, _⟩ := DataW.trod_int u2 g2
   obtain ⟨a3, d3, _, _⟩ := DataW.trod_int u3 g3
   obtain ⟨a4, d4, _, _⟩ := DataW.trod_int u4 g4
   obtain ⟨a5, d5, _⟩ := DataW.trod_bool u5 g5
   obtain ⟨q6, d6⟩ := six_of u6 (by simp) g6
   obtain ⟨a7, d7, _, _⟩ := DataW.trod_int u7 g7
   obtain ⟨k8, n8, m8, xs8, d8, hn8, hr8⟩ := read_entries u8 x8 g8
   obtain ⟨a9, d9, _, _⟩ := DataW.trod_int u9 g9
   simp only [List.cons.injEq, and_true] at d0 d1 d2 d3 d4 d5 d6 d7 d9
   obtain ⟨q0, q1, q2, q3, q4, q5⟩ := q6
   simp only at d6
   obtain ⟨rfl, rfl, rfl, rfl, rfl, rfl⟩ := d6
   exact ⟨(⟨a0, a1, a2, a3, a4, a5, (q0, q1, q2, q3, q4, q5), a7, xs8, a9⟩, (k8, n8, m8)), by rw [d0, d1, d2, d3, d4, d5, d7, d8, d9]; rfl, hn8, hr8⟩
theorem read_replicas {t e : TypeId} {fuel : Nat} {v : Value} {x : DataW H × List MemPlace} (ht : P.underlying t = some (.slice e)) (hty : RepTy P e) (hC : P.cellsOf e = 10) (h : DataW.trod enc P w 0 (fun _ => true) true fuel t [v] = some x) :
  ∃ (N : Hd) (xs : List Nod), v = .slice N.1 N.2.1 N.2.2 ∧ N.2.1 ≤ maxLen ∧ (∀ (i : Nat) (a : Nod), xs[i]? = some a → RSz a.2 maxLen) ∧ LAt nodeK w false 0 w.heap.size N.1 N.2.1 N.2.2 xs := by
 rcases open_slice ht h with ⟨hcs, _⟩ | ⟨a, len, cap, m, n, D, Pl, hcs, hb, hl, hm, hz, _, hx⟩
 ·simp only [List.cons.injEq, and_true] at hcs
  exact ⟨(none, 0, 0), [], hcs, Nat.zero_le _, fun i a e => by simp at e, LAt.nil _ _ _ _ _ _ _⟩
 ·simp only [List.cons.injEq, and_true] at hcs
  simp only [if_true] at hz
  subst hz
  have each : ∀ i, i < m → ∃ q : Nod, (∀ j, j < 10 → w.cell? (a.add (i * 10 + j)) = (nodeK.cells q)[j]?) ∧ (fun a : Nod => RSz a.2 maxLen) q ∧ nodeK.mem w false 0 w.heap.size q := fun i hi => by
   obtain ⟨cs, h1, h2⟩ := hx i hi
   rw [hC] at h1
   obtain ⟨_, hlen, hcell⟩ := World.cells?_some h1
   obtain ⟨q, e1, e2, e3⟩ := rep_cells hty hlen h2
   refine ⟨q, fun j hj => ?_, e2, e3⟩
   have e0 := hcell j (by omega)
   rw [add_add] at e0
   rw [e0]
   show _ = (nodeK.cells q)[j]?
   rw [show nodeK.cells q = cs from e1.symm, List.getElem?_eq_getElem (by omega)]
  haveI : Inhabited Nod := ⟨nod0⟩
  obtain ⟨q, hq⟩ := choose_lt each
  have hget : ∀ (i : Nat) (c : Nod), ((List.range len).map q)[i]? = some c → i < len ∧ c = q i := fun i c e => by
   obtain ⟨h1, h2⟩ := List.getElem?_eq_some_iff.1 e
   have h3 : i < len := by simpa using h1
   exact ⟨h3, by rw [← h2]; simp⟩
  refine ⟨(some a, len, m), (List.range len).map q, hcs, Nat.le_trans hl hm, fun i c e => ?_, by simp, ⟨by rw [flatMap_len nodeOk]; simp, hl, fun hn => ?_⟩, fun i c e => ?_, fun z => (by cases z), fun z => (by cases z)⟩
  ·obtain ⟨h1, h2⟩ := hget i c e
   subst h2
   exact (hq i (by omega)).2.1
  ·simp only at hn
   have h0 := (hq 0 (by omega)).1 0 (by omega)
   have hls := nodeOk.len (q 0)
   rw [List.getElem?_eq_getElem (by rw [hls]; exact nodeOk.pos)] at h0
   obtain ⟨b, off, spot⟩ := a
   have hspot : spot = none := by simpa [Addr.add] using World.cell?_spot h0
   subst hspot
   refine ⟨b, off, rfl, Nat.zero_le _, World.block_lt_of_cell? w _ h0, World.block_lt_of_cell? w _ h0, fun i hi => ?_, fun h => by cases h⟩
   replace hi : i < len * 10 := hi
   have p0 := (hq (i / 10) (by omega)).1 (i % 10) (by omega)
   have t0 := flatMap_at nodeOk ((List.range len).map q) (i / 10) (q (i / 10)) (by simp [show i / 10 < len by omega]) (i % 10) (Nat.mod_lt _ (by omega))
   rw [show i / 10 * nodeK.sz + i % 10 = i from by show i / 10 * 10 + i % 10 = i; omega] at t0
   rw [show i / 10 * 10 + i % 10 = i by omega, ← t0] at p0
   have hl2 : i < (((List.range len).map q).flatMap nodeK.cells).length := by rw [flatMap_len nodeOk]; simp only [List.length_map, List.length_range]; exact hi
   rw [← addr_add, p0, List.getD_eq_getElem?_getD, List.getElem?_eq_getElem hl2]; rfl
  ·obtain ⟨h1, h2⟩ := hget i c e
   subst h2
   exact (hq i (by omega)).2.2
theorem read_mails {t e : TypeId} {fuel : Nat} {v : Value} {x : DataW H × List MemPlace} (ht : P.underlying t = some (.slice e)) (hty : MailTy P e) (hC : P.cellsOf e = 15) (h : DataW.trod enc P w 0 (fun _ => true) true fuel t [v] = some x) :
  ∃ (N : Hd) (xs : List Mal), v = .slice N.1 N.2.1 N.2.2 ∧ N.2.1 ≤ maxLen ∧ (∀ (i : Nat) (a : Mal), xs[i]? = some a → a.2.2.1 ≤ maxLen) ∧ LAt mailK w false 0 w.heap.size N.1 N.2.1 N.2.2 xs := by
 rcases open_slice ht h with ⟨hcs, _⟩ | ⟨a, len, cap, m, n, D, Pl, hcs, hb, hl, hm, hz, _, hx⟩
 ·simp only [List.cons.injEq, and_true] at hcs
  exact ⟨(none, 0, 0), [], hcs, Nat.zero_le _, fun i a e => by simp at e, LAt.nil _ _ _ _ _ _ _⟩
 ·simp only [List.cons.injEq, and_true] at hcs
  simp only [if_true] at hz
  subst hz
  have each : ∀ i, i < m → ∃ q : Mal, (∀ j, j < 15 → w.cell? (a.add (i * 15 + j)) = (mailK.cells q)[j]?) ∧ (fun a : Mal => a.2.2.1 ≤ maxLen) q ∧ mailK.mem w false 0 w.heap.size q := fun i hi => by
   obtain ⟨cs, h1, h2⟩ := hx i hi
   rw [hC] at h1
   obtain ⟨_, hlen, hcell⟩ := World.cells?_some h1
   obtain ⟨q, e1, e2, e3⟩ := mail_cells hty hlen h2
   refine ⟨q, fun j hj => ?_, e2, e3⟩
   have e0 := hcell j (by omega)
   rw [add_add] at e0
   rw [e0]
   show _ = (mailK.cells q)[j]?
   rw [show mailK.cells q = cs from e1.symm, List.getElem?_eq_getElem (by omega)]
  haveI : Inhabited Mal := ⟨mal0⟩
  obtain ⟨q, hq⟩ := choose_lt each
  have hget : ∀ (i : Nat) (c : Mal), ((List.range len).map q)[i]? = some c → i < len ∧ c = q i := fun i c e => by
   obtain ⟨h1, h2⟩ := List.getElem?_eq_some_iff.1 e
   have h3 : i < len := by simpa using h1
   exact ⟨h3, by rw [← h2]; simp⟩
  refine ⟨(some a, len, m), (List.range len).map q, hcs, Nat.le_trans hl hm, fun i c e => ?_, by simp, ⟨by rw [flatMap_len mailOk]; simp, hl, fun hn => ?_⟩, fun i c e => ?_, fun z => (by cases z), fun z => (by cases z)⟩
  ·obtain ⟨h1, h2⟩ := hget i c e
   subst h2
   exact (hq i (by omega)).2.1
  ·simp only at hn
   have h0 := (hq 0 (by omega)).1 0 (by omega)
   have hls := mailOk.len (q 0)
   rw [List.getElem?_eq_getElem (by rw [hls]; exact mailOk.pos)] at h0
   obtain ⟨b, off, spot⟩ := a
   have hspot : spot = none := by simpa [Addr.add] using World.cell?_spot h0
   subst hspot
   refine ⟨b, off, rfl, Nat.zero_le _, World.block_lt_of_cell? w _ h0, World.block_lt_of_cell? w _ h0, fun i hi => ?_, fun h => by cases h⟩
   replace hi : i < len * 15 := hi
   have p0 := (hq (i / 15) (by omega)).1 (i % 15) (by omega)
   have t0 := flatMap_at mailOk ((List.range len).map q) (i / 15) (q (i / 15)) (by simp [show i / 15 < len by omega]) (i % 15) (Nat.mod_lt _ (by omega))
   rw [show i / 15 * mailK.sz + i % 15 = i from by show i / 15 * 15 + i % 15 = i; omega] at t0
   rw [show i / 15 * 15 + i % 15 = i by omega, ← t0] at p0
   have hl2 : i < (((List.range len).map q).flatMap mailK.cells).length := by rw [flatMap_len mailOk]; simp only [List.length_map, List.length_range]; exact hi
   rw [← addr_add, p0, List.getD_eq_getElem?_getD, List.getElem?_eq_getElem hl2]; rfl
  ·obtain ⟨h1, h2⟩ := hget i c e
   subst h2
   exact (hq i (by omega)).2.2
def ClTy (P : Program) (t : TypeId) : Prop := ∃ f0 f1 f2 : Field, ∃ t0 t1 t2 : TypeId, P.underlying t = some (.struct #[f0, f1, f2]) ∧ (f0.offset = 0 ∧ f1.offset = 1 ∧ f2.offset = 2) ∧ (P.cellsOf f0.type = 1 ∧ P.cellsOf f1.type = 1 ∧ P.cellsOf f2.type = 1) ∧ P.cellsOf t = 3 ∧ P.underlying f0.type = some (.slice t0) ∧ RepTy P t0 ∧ P.cellsOf t0 = 10 ∧ P.underlying f1.type = some (.slice t1) ∧ MailTy P t1 ∧ P.cellsOf t1 = 15 ∧ P.underlying f2.type = some (.slice t2) ∧ EnTy P t2
theorem open_cluster {r0 : Reach} {b0 : Nat} {t : TypeId} {v : Value} {d : DataW H} {p : List MemPlace} (hty : ClTy P t) (hv : Value.okWide P w r0 b0 t v) (h : DataW.Trod enc P w 0 (fun _ => true) true t v d p) :
  ∃ (N M Sl : Hd) (xs : List Nod) (ms : List Mal) (es : List En), v = .agg #[.slice N.1 N.2.1 N.2.2, .slice M.1 M.2.1 M.2.2, .slice Sl.1 Sl.2.1 Sl.2.2] ∧ ClSz N M Sl xs ms maxLen ∧ ClAt w false 0 w.heap.size N M Sl xs ms es := by
 obtain ⟨f0, f1, f2, t0, t1, t2, he, ⟨o0, o1, o2⟩, ⟨c0, c1, c2⟩, hC, u0, x0, z0, u1, x1, z1, u2, x2⟩ := hty
 obtain ⟨cs, rfl, hsz⟩ := okWide_struct he hv
 obtain ⟨fuel, hf0⟩ := h
 have hq := hsz.trans hC
 obtain ⟨l⟩ := cs
 match l, hq with
 | [e0, e1, e2], _ =>
  have hf1 : DataW.trod enc P w 0 (fun _ => true) true fuel t [e0, e1, e2] = some (d, p) := by simpa [Value.cells] using hf0
  obtain ⟨ys, k, _, _, _, hyl, hf⟩ := DataW.trod_struct he hf1
  match ys, hyl with
  | [y0, y1, y2], _ =>
   have g0 := hf 0 f0 rfl
   have g1 := hf 1 f1 rfl
   have g2 := hf 2 f2 rfl
   simp [o0, o1, o2, c0, c1, c2] at g0 g1 g2
   obtain ⟨N, xs, d0, n0, s0, r0⟩ := read_replicas u0 x0 z0 g0
   obtain ⟨M, ms, d1, n1, s1, r1⟩ := read_mails u1 x1 z1 g1
   obtain ⟨k2, n2, m2, es, d2, hn2, r2⟩ := read_entries u2 x2 g2
   exact ⟨N, M, (k2, n2, m2), xs, ms, es, by rw [d0, d1, d2], ⟨n0, n1, hn2, s0, s1⟩, ⟨r0, r1, r2, fun q => by cases q⟩⟩
end
theorem Try.clTy : ClTy Try.prog 44 := ⟨_, _, _, _, _, _, Try.underlying44, ⟨rfl, rfl, rfl⟩, ⟨by kernel_rfl, by kernel_rfl, by kernel_rfl⟩, by kernel_rfl, Try.underlying40, Try.repTy, by kernel_rfl, Try.underlying41, Try.mailTy, by kernel_rfl, Try.underlying42, Try.enTy⟩
theorem eqNRes_yes (c v : Int) (w : World) :
  Calls Try.prog 17 #[.agg #[.int .i64 c, .int .i64 v], .agg #[.int .i64 c, .int .i64 v]] w fun e w' => e = .returned (.bool true) ∧ Below w.heap.size w w' := by
 have he : (c != c) = false := by simp
 have hv : (v != v) = false := by simp
 go_enter Try.func17, Try.ntmps17
 go_wp2
 go_ret
 exact ⟨rfl, ((Below.refl _ _).alloc (Nat.le_refl _) _).alloc (by simp) _⟩
end Go.Proofs.Ytjefmhjlaibbkaa
