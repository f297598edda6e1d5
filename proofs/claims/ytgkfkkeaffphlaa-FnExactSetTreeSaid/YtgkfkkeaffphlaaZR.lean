/- From the reading of an argument to the rows that the walks ask: a slice of numbers, a slice of pairs. No program is named. -/
import Derived.Test.YtgkfkkeaffphlaaBase
import Derived.ProofKit
import Derived.OpenShut
import Derived.Lib.SmallJoins
import Derived.Deep.SlicePairs
import Derived.Test.YtgkfkkeaffphlaaZM
import Derived.Test.YtgkfkkeaffphlaaRows
namespace Go.Proofs.Ytgkfkkeaffphlaa
open Go.RowKit Go.ChangeShapes Go.WideShapes Go.Deep

theorem addr_add (b off i : Nat) : (⟨b, off, none⟩ : Addr).add i = ⟨b, off + i, none⟩ := by
  simp [Addr.add]

section
variable {H : Type} {enc : TypeId × Value → H} {P : Program} {w : World}

theorem read_ints {t e : TypeId} {fuel : Nat} {v : Value} {x : DataW H × List MemPlace} (ht : P.underlying t = some (.slice e)) (he : P.underlying e = some (.int .i64)) (hc : P.cellsOf e = 1)
    (h : DataW.trod enc P w 0 (fun _ => true) true fuel t [v] = some x) :
    ∃ ao n cap xs, v = .slice ao n cap ∧ n ≤ maxLen ∧ RowAt w false 0 w.heap.size 1 ao n cap (ints xs) := by
  rcases open_ints ht he hc h with ⟨hcs, _⟩ | ⟨a, len, cap, zs, hcs, _, hl, hm, hz, _, hcell, _⟩
  · simp only [List.cons.injEq, and_true] at hcs
    exact ⟨none, 0, 0, [], hcs, Nat.zero_le _, rfl, Nat.le_refl _, fun h => absurd rfl h⟩
  · simp only [List.cons.injEq, and_true] at hcs
    simp only [if_true] at hz
    refine ⟨some a, len, cap, zs.take len, hcs, Nat.le_trans hl hm, ?_, hl, fun hn => ?_⟩
    · rw [ints_length]; simp; omega
    · have h0 := hcell 0 (by omega)
      obtain ⟨b, off, spot⟩ := a
      have hspot : spot = none := by simpa [Addr.add] using World.cell?_spot h0
      subst hspot
      refine ⟨b, off, rfl, Nat.zero_le _, ?_, ?_, fun i hi => ?_, fun h => by cases h⟩
      · exact World.block_lt_of_cell? w _ h0
      · exact World.block_lt_of_cell? w _ h0
      · rw [← addr_add, hcell i (by omega), ints_getD _ _ (by simp; omega)]
        simp [List.getD, show i < len by omega]

theorem read_pairs {t e : TypeId} {f0 f1 : Field} {fuel : Nat} {v : Value} {x : DataW H × List MemPlace} (ht : P.underlying t = some (.slice e)) (he : P.underlying e = some (.struct #[f0, f1]))
    (ce : P.cellsOf e = 2) (o0 : f0.offset = 0) (o1 : f1.offset = 1) (i0 : P.underlying f0.type = some (.int .i64)) (i1 : P.underlying f1.type = some (.int .i64)) (c0 : P.cellsOf f0.type = 1) (c1 : P.cellsOf f1.type = 1)
    (h : DataW.trod enc P w 0 (fun _ => true) true fuel t [v] = some x) :
    ∃ ao n cap xs, v = .slice ao n cap ∧ n ≤ maxLen ∧ RowAt w false 0 w.heap.size 2 ao n cap (pairs xs) := by
  rcases open_slice_pairs ht he ce o0 o1 c0 c1 h with ⟨hcs, _⟩ | ⟨a, len, cap, m, fu, V0, V1, D0, D1, P0, P1, hcs, _, hl, hm, hz, _, hcell⟩
  · simp only [List.cons.injEq, and_true] at hcs
    exact ⟨none, 0, 0, [], hcs, Nat.zero_le _, rfl, Nat.le_refl _, fun h => absurd rfl h⟩
  · simp only [List.cons.injEq, and_true] at hcs
    simp only [if_true] at hz
    subst hz
    have each : ∀ i, i < m → ∃ p : Int × Int, w.cell? (a.add (i * 2)) = some (.int .i64 p.1) ∧ w.cell? (a.add (i * 2 + 1)) = some (.int .i64 p.2) := fun i hi => by
      obtain ⟨e0, e1, t0, t1⟩ := hcell i hi
      obtain ⟨n0, g0, _, _⟩ := DataW.trod_int i0 t0
      obtain ⟨n1, g1, _, _⟩ := DataW.trod_int i1 t1
      simp only [List.cons.injEq, and_true] at g0 g1
      exact ⟨(n0, n1), by rw [e0, g0], by rw [e1, g1]⟩
    obtain ⟨q, hq⟩ := choose_lt each
    have hlen : ((List.range len).map q).length = len := by simp
    refine ⟨some a, len, m, (List.range len).map q, hcs, Nat.le_trans hl hm, ?_, hl, fun hn => ?_⟩
    · rw [pairs_length, hlen]
    · have h0 := (hq 0 (by omega)).1
      obtain ⟨b, off, spot⟩ := a
      have hspot : spot = none := by simpa [Addr.add] using World.cell?_spot h0
      subst hspot
      refine ⟨b, off, rfl, Nat.zero_le _, World.block_lt_of_cell? w _ h0, World.block_lt_of_cell? w _ h0, fun i hi => ?_, fun h => by cases h⟩
      obtain ⟨g0, g1⟩ := hq (i / 2) (by omega)
      have hi2 : i / 2 < len := by omega
      have hget : ((List.range len).map q).getD (i / 2) (0, 0) = q (i / 2) := by simp [List.getD, hi2]
      rcases (show i % 2 = 0 ∨ i % 2 = 1 by omega) with e | e
      · have := pairs_getD0 ((List.range len).map q) (i / 2) (by omega)
        rw [show i / 2 * 2 = i by omega] at this g0
        rw [← addr_add, g0, this, hget]
      · have := pairs_getD1 ((List.range len).map q) (i / 2) (by omega)
        rw [show i / 2 * 2 + 1 = i by omega] at this g1
        rw [← addr_add, g1, this, hget]

end
end Go.Proofs.Ytgkfkkeaffphlaa

/- From the reading of an argument to nodes. No program is named. -/
namespace Go.Proofs.Ytgkfkkeaffphlaa
open Go.RowKit Go.ChangeShapes Go.WideShapes Go.Deep

section
variable {H : Type} {enc : TypeId × Value → H} {P : Program} {w : World}

theorem read_nodes {t e ke : TypeId} {f0 f1 f2 : Field} {fuel : Nat} {v : Value} {x : DataW H × List MemPlace} (ht : P.underlying t = some (.slice e)) (he : P.underlying e = some (.struct #[f0, f1, f2]))
    (ce : P.cellsOf e = 3) (o0 : f0.offset = 0) (o1 : f1.offset = 1) (o2 : f2.offset = 2) (i0 : P.underlying f0.type = some (.int .i64)) (i1 : P.underlying f1.type = some .bool) (i2 : P.underlying f2.type = some (.slice ke)) (ik : P.underlying ke = some (.int .i64))
    (c0 : P.cellsOf f0.type = 1) (c1 : P.cellsOf f1.type = 1) (c2 : P.cellsOf f2.type = 1) (ck : P.cellsOf ke = 1)
    (h : DataW.trod enc P w 0 (fun _ => true) true fuel t [v] = some x) :
    ∃ ao n cap K ns, v = .slice ao n cap ∧ n ≤ maxLen ∧ (∀ i, i < n → (K i).2.1 ≤ maxLen) ∧ NodesAt w false 0 w.heap.size ao n cap K ns := by
  rcases open_slice ht h with ⟨hcs, _⟩ | ⟨a, len, cap, m, n, D, Pl, hcs, hb, hl, hm, hz, _, hx⟩
  · simp only [List.cons.injEq, and_true] at hcs
    exact ⟨none, 0, 0, fun _ => (none, 0, 0), [], hcs, Nat.zero_le _, fun i hi => absurd hi (by omega), rfl, RowAt.nil _ _ _ _ _, fun i hi => absurd hi (by omega), fun hx => by cases hx⟩
  · simp only [List.cons.injEq, and_true] at hcs
    simp only [if_true] at hz
    subst hz
    have each : ∀ i, i < m → ∃ q : Nd × KS, w.cell? (a.add (i * 3)) = some (.int .i64 q.1.1) ∧ w.cell? (a.add (i * 3 + 1)) = some (.bool q.1.2.1) ∧ w.cell? (a.add (i * 3 + 2)) = some (ksv q.2) ∧ q.2.2.1 ≤ maxLen ∧ RowAt w false 0 w.heap.size 1 q.2.1 q.2.2.1 q.2.2.2 (ints q.1.2.2) := fun i hi => by
      obtain ⟨cs, h1, h2⟩ := hx i hi
      rw [ce] at h1
      obtain ⟨_, hlen, hcell⟩ := World.cells?_some h1
      obtain ⟨ys, k, _, _, _, hyl, hf⟩ := DataW.trod_struct he h2
      match ys, hyl, cs, hlen with
      | [y0, y1, y2], _, [v0, v1, v2], _ =>
        have g0 := hf 0 f0 rfl
        have g1 := hf 1 f1 rfl
        have g2 := hf 2 f2 rfl
        simp [o0, o1, o2, c0, c1, c2] at g0 g1 g2
        have e0 := hcell 0 (by omega)
        have e1 := hcell 1 (by omega)
        have e2 := hcell 2 (by omega)
        rw [add_add] at e0 e1 e2
        obtain ⟨r, d0, _, _⟩ := DataW.trod_int i0 g0
        obtain ⟨l, d1, _⟩ := DataW.trod_bool i1 g1
        obtain ⟨ka, kn, kc, ks, d2, hkn, hr⟩ := read_ints i2 ik ck g2
        simp only [List.cons.injEq, and_true] at d0 d1
        refine ⟨((r, l, ks), (ka, kn, kc)), ?_, ?_, ?_, hkn, hr⟩
        · rw [← d0]; simpa using e0
        · rw [← d1]; simpa using e1
        · rw [show ksv (ka, kn, kc) = v2 from d2.symm]; simpa using e2
    obtain ⟨q, hq⟩ := choose_lt each
    have hlen : ((List.range len).map fun i => (q i).1).length = len := by simp
    have hget : ∀ i, i < len → ((List.range len).map fun i => (q i).1).getD i nd0 = (q i).1 := fun i hi => by simp [List.getD, hi]
    refine ⟨some a, len, m, fun i => (q i).2, (List.range len).map fun i => (q i).1, hcs, Nat.le_trans hl hm, fun i hi => (hq i (by omega)).2.2.2.1, hlen, ⟨?_, hl, fun hn => ?_⟩, fun i hi => ?_, fun hx => by cases hx⟩
    · rw [ncells_len, hlen]
    · have h0 := (hq 0 (by omega)).1
      obtain ⟨b, off, spot⟩ := a
      have hspot : spot = none := by simpa [Addr.add] using World.cell?_spot h0
      subst hspot
      refine ⟨b, off, rfl, Nat.zero_le _, World.block_lt_of_cell? w _ h0, World.block_lt_of_cell? w _ h0, fun i hi => ?_, fun h => by cases h⟩
      obtain ⟨p0, p1, p2, _⟩ := hq (i / 3) (by omega)
      unfold ncells
      rw [← addr_add, hlen]
      rcases (show i % 3 = 0 ∨ i % 3 = 1 ∨ i % 3 = 2 by omega) with e | e | e
      · have := flat3_get0 len (fun i => .int .i64 (((List.range len).map fun i => (q i).1).getD i nd0).1) (fun i => .bool (((List.range len).map fun i => (q i).1).getD i nd0).2.1) (fun i => ksv (q i).2) (i / 3) (by omega)
        rw [show i / 3 * 3 = i by omega] at this p0
        rw [this, p0, hget _ (by omega)]
      · have := flat3_get1 len (fun i => .int .i64 (((List.range len).map fun i => (q i).1).getD i nd0).1) (fun i => .bool (((List.range len).map fun i => (q i).1).getD i nd0).2.1) (fun i => ksv (q i).2) (i / 3) (by omega)
        rw [show i / 3 * 3 + 1 = i by omega] at this p1
        rw [this, p1, hget _ (by omega)]
      · have := flat3_get2 len (fun i => .int .i64 (((List.range len).map fun i => (q i).1).getD i nd0).1) (fun i => .bool (((List.range len).map fun i => (q i).1).getD i nd0).2.1) (fun i => ksv (q i).2) (i / 3) (by omega)
        rw [show i / 3 * 3 + 2 = i by omega] at this p2
        rw [this, p2]
    · rw [hget i hi]; exact (hq i (by omega)).2.2.2.2

end
end Go.Proofs.Ytgkfkkeaffphlaa

/- Closed facts of the program's tables that every row of this seat asks. -/
namespace Go.Proofs.Ytgkfkkeaffphlaa
theorem Try.own : ownKnob Try.prog.godebug = none := by kernel_rfl
theorem Try.laidOut : laidOutB Try.prog = true := by kernel_rfl
theorem Try.cellsDisk : Try.prog.cellsOf 76 = 2 := by kernel_rfl
theorem Try.cellsInt : Try.prog.cellsOf 2 = 1 := by kernel_rfl
theorem Try.cellsPut : Try.prog.cellsOf 205 = 2 := by kernel_rfl
theorem Try.cellsBool : Try.prog.cellsOf 4 = 1 := by kernel_rfl
end Go.Proofs.Ytgkfkkeaffphlaa

/- What a row asks of the functions that a function comes to, told of a table of who calls whom. No program is named. -/
namespace Go.Proofs.Ytgkfkkeaffphlaa
open Go.RowKit

def clT (tab : List (List Nat)) : Nat → List Nat → List Nat → List Nat
  | 0, _, seen => seen.reverse
  | _, [], seen => seen.reverse
  | n + 1, f :: todo, seen => if seen.contains f then clT tab n todo seen else clT tab n (tab.getD f [] ++ todo) (f :: seen)
def fuelT (tab : List (List Nat)) : Nat := 1 + (tab.map fun l => l.length + 1).sum
/-- all that is come to lies in a set that calls lead not out of, and is no higher than where one began -/
theorem clT_in {tab : List (List Nat)} {C : Nat → Bool} {rk : Nat → Nat} (hC : ∀ g, C g = true → ∀ x ∈ tab.getD g [], C x = true ∧ rk x < rk g) (m : Nat) : ∀ (n : Nat) (todo seen : List Nat), (∀ x ∈ todo, C x = true ∧ rk x ≤ m) → (∀ x ∈ seen, C x = true ∧ rk x ≤ m) → ∀ x ∈ clT tab n todo seen, C x = true ∧ rk x ≤ m
  | 0, _, seen, _, h2 => fun x hx => h2 x (by simpa [clT] using hx)
  | n + 1, [], seen, _, h2 => fun x hx => h2 x (by simpa [clT] using hx)
  | n + 1, f :: todo, seen, h1, h2 => fun x hx => by
    unfold clT at hx
    have hf := h1 f (by simp)
    by_cases hs : seen.contains f = true
    · rw [if_pos hs] at hx
      exact clT_in hC m n todo seen (fun y hy => h1 y (by simp [hy])) h2 x hx
    · rw [if_neg hs] at hx
      refine clT_in hC m n _ _ (fun y hy => ?_) (fun y hy => ?_) x hx
      · rcases List.mem_append.1 hy with e | e
        · have := hC f hf.1 y e; exact ⟨this.1, by omega⟩
        · exact h1 y (by simp [e])
      · rcases List.mem_cons.1 hy with e | e
        · rw [e]; exact hf
        · exact h2 y e
section
variable {P : Program} {tab : List (List Nat)} (h : P.funcs.toList.map P.leadsTo = tab)
include h
theorem lead_is (f : Nat) : (P.funcs[f]?).elim [] P.leadsTo = tab.getD f [] := by
  rw [← h, List.getD_eq_getElem?_getD, List.getElem?_map, Array.getElem?_toList]
  cases P.funcs[f]? <;> rfl
theorem clT_is : ∀ (n : Nat) (todo seen : List Nat), P.closureVia n todo seen = clT tab n todo seen
  | 0, _, _ => rfl
  | n + 1, [], _ => rfl
  | n + 1, f :: todo, seen => by
    unfold Program.closureVia clT
    rw [lead_is h]
    by_cases hs : seen.contains f = true
    · rw [if_pos hs, if_pos hs]; exact clT_is n _ _
    · rw [if_neg hs, if_neg hs]; exact clT_is n _ _
theorem closure_is (f : Nat) : P.closure f = clT tab (fuelT tab) [f] [] := by
  unfold Program.closure fuelT
  rw [clT_is h, ← h, List.map_map]
  rfl
end
section
variable {P : Program} {tab : List (List Nat)} (h : P.funcs.toList.map P.leadsTo = tab) (hu : (P.funcs.toList.all fun fn => !(fn.body.elim (entryCalls fn) Code.unfollowed)) = true)
include h hu
theorem unfollowed_is (f : Nat) : P.unfollowed f = false := by
  have _ := h
  unfold Program.unfollowed
  rw [List.any_eq_false]
  intro g _
  cases hg : P.funcs[g]? with
  | none => simp
  | some fn =>
    have hm : fn ∈ P.funcs.toList := by
      obtain ⟨hlt, e⟩ := Array.getElem?_eq_some_iff.1 hg
      rw [← e]; exact Array.getElem_mem_toList _
    have := List.all_eq_true.1 hu fn hm
    rw [Bool.not_eq_true'] at this
    rw [Option.any_some]
    cases hbd : fn.body with
    | none => rw [hbd] at this; simpa using this
    | some c => rw [hbd] at this; simpa using this
theorem recurses_no {f : Nat} {C : Nat → Bool} {rk : Nat → Nat} (hC : ∀ g, C g = true → ∀ x ∈ tab.getD g [], C x = true ∧ rk x < rk g) (hf : C f = true) : P.recurses f = false := by
  unfold Program.recurses
  rw [unfollowed_is h hu, Bool.false_or, List.any_eq_false]
  intro g hg
  rw [closure_is h] at hg
  have hg' := clT_in hC (rk f) _ [f] [] (fun x hx => by simp at hx; rw [hx]; exact ⟨hf, Nat.le_refl _⟩) (fun x hx => by cases hx) g hg
  rw [lead_is h, Bool.not_eq_true, List.any_eq_false]
  intro x hx
  have hx' := hC g hg'.1 x hx
  rw [Bool.not_eq_true, Bool.eq_false_iff]
  intro hc
  rw [closure_is h] at hc
  have := clT_in hC (rk x) _ [x] [] (fun y hy => by simp at hy; rw [hy]; exact ⟨hx'.1, Nat.le_refl _⟩) (fun y hy => by cases hy) g (by simpa using hc)
  omega
theorem recurses_yes {f g x : Nat} (h1 : (clT tab (fuelT tab) [f] []).contains g = true) (h2 : (tab.getD g []).contains x = true) (h3 : (clT tab (fuelT tab) [x] []).contains g = true) : P.recurses f = true := by
  unfold Program.recurses
  rw [unfollowed_is h hu, Bool.false_or, List.any_eq_true]
  refine ⟨g, by rw [closure_is h]; simpa using h1, ?_⟩
  rw [lead_is h, List.any_eq_true]
  exact ⟨x, by simpa using h2, by rw [closure_is h]; exact h3⟩
end
theorem clT_sub {tab : List (List Nat)} {lo hi : Nat} (hC : ∀ g, lo ≤ g → g < hi → ∀ x ∈ tab.getD g [], lo ≤ x ∧ x < hi) : ∀ (n : Nat) (todo seen : List Nat), (∀ x ∈ todo, lo ≤ x ∧ x < hi) → (∀ x ∈ seen, lo ≤ x ∧ x < hi) → ∀ x ∈ clT tab n todo seen, lo ≤ x ∧ x < hi
  | 0, _, seen, _, h2 => fun x hx => h2 x (by simpa [clT] using hx)
  | n + 1, [], seen, _, h2 => fun x hx => h2 x (by simpa [clT] using hx)
  | n + 1, f :: todo, seen, h1, h2 => fun x hx => by
    unfold clT at hx
    have hf := h1 f (by simp)
    by_cases hs : seen.contains f = true
    · rw [if_pos hs] at hx
      exact clT_sub hC n todo seen (fun y hy => h1 y (by simp [hy])) h2 x hx
    · rw [if_neg hs] at hx
      refine clT_sub hC n _ _ (fun y hy => ?_) (fun y hy => ?_) x hx
      · rcases List.mem_append.1 hy with e | e
        · exact hC f hf.1 hf.2 y e
        · exact h1 y (by simp [e])
      · rcases List.mem_cons.1 hy with e | e
        · rw [e]; exact hf
        · exact h2 y e
theorem within_of {tab : List (List Nat)} {lo hi : Nat} (h : ((List.range hi).all fun g => decide (g < lo) || (tab.getD g []).all fun x => decide (lo ≤ x) && decide (x < hi)) = true) : ∀ g, lo ≤ g → g < hi → ∀ x ∈ tab.getD g [], lo ≤ x ∧ x < hi := fun g h1 h2 x hx => by
  have := List.all_eq_true.1 h g (List.mem_range.2 h2)
  rw [Bool.or_eq_true] at this
  rcases this with e | e
  · have := of_decide_eq_true e; omega
  · have := List.all_eq_true.1 e x hx
    rw [Bool.and_eq_true] at this
    exact ⟨of_decide_eq_true this.1, of_decide_eq_true this.2⟩
theorem ranks_of {tab : List (List Nat)} {rks : List Nat} (h : ((List.range tab.length).all fun g => decide (rks.getD g 0 = 0) || (tab.getD g []).all fun x => decide (rks.getD x 0 ≠ 0) && decide (rks.getD x 0 < rks.getD g 0)) = true) : ∀ g, (fun g => decide (rks.getD g 0 ≠ 0)) g = true → ∀ x ∈ tab.getD g [], (fun g => decide (rks.getD g 0 ≠ 0)) x = true ∧ rks.getD x 0 < rks.getD g 0 := fun g hg x hx => by
  have hg' := of_decide_eq_true hg
  by_cases hl : g < tab.length
  · have := List.all_eq_true.1 h g (List.mem_range.2 hl)
    rw [Bool.or_eq_true] at this
    rcases this with e | e
    · exact absurd (of_decide_eq_true e) hg'
    · have := List.all_eq_true.1 e x hx
      rw [Bool.and_eq_true] at this
      exact ⟨this.1, of_decide_eq_true this.2⟩
  · rw [List.getD_eq_getElem?_getD, List.getElem?_eq_none (by omega)] at hx; cases hx
section
variable {P : Program} {tab : List (List Nat)} (h : P.funcs.toList.map P.leadsTo = tab) {lo hi : Nat} (hC : ∀ g, lo ≤ g → g < hi → ∀ x ∈ tab.getD g [], lo ≤ x ∧ x < hi) (hp : (((P.funcs.toList.drop lo).take (hi - lo)).all fun fn => !(fn.ours || fn.body.isNone || fn.name == "runtime.NumGoroutine")) = true)
include h hC hp
theorem plain_fn {f : Nat} (hf : lo ≤ f ∧ f < hi) {g : Nat} (hg : g ∈ P.closure f) {fn : Func} (e : P.funcs[g]? = some fn) : (fn.ours || fn.body.isNone || fn.name == "runtime.NumGoroutine") = false := by
  rw [closure_is h] at hg
  have hr := clT_sub hC _ [f] [] (fun x hx => by simp at hx; rw [hx]; exact hf) (fun x hx => by cases hx) g hg
  have hm : fn ∈ (P.funcs.toList.drop lo).take (hi - lo) := by
    refine List.mem_iff_getElem?.2 ⟨g - lo, ?_⟩
    rw [List.getElem?_take_of_lt (by omega), List.getElem?_drop, Array.getElem?_toList, show lo + (g - lo) = g by omega]
    exact e
  have := List.all_eq_true.1 hp fn hm
  rwa [Bool.not_eq_true'] at this
theorem inPlace_is {f : Nat} (hf : lo ≤ f ∧ f < hi) : P.inPlace f = [] := by
  unfold Program.inPlace
  rw [List.filterMap_eq_nil_iff]
  intro g hg
  cases e : P.funcs[g]? with
  | none => rfl
  | some fn =>
    have := plain_fn h hC hp hf hg e
    simp only [Option.bind_some]
    rw [if_neg (by rw [this]; decide)]
theorem varsNamed_is (hv : (P.funcs.toList.all fun fn => (fn.body.elim [] Code.globalsNamed).isEmpty) = true) {f : Nat} (hf : lo ≤ f ∧ f < hi) : P.varsNamed f = [] := by
  have key : ∀ g fn, P.funcs[g]? = some fn → fn ∈ P.funcs.toList := fun g fn hg => by
    obtain ⟨hlt, e⟩ := Array.getElem?_eq_some_iff.1 hg
    rw [← e]; exact Array.getElem_mem_toList _
  have e1 : ((P.closure f).flatMap fun g => ((P.funcs[g]?).bind (·.body)).elim [] Code.globalsNamed) = [] := by
    rw [List.flatMap_eq_nil_iff]
    intro g _
    cases hg : P.funcs[g]? with
    | none => rfl
    | some fn =>
      have := List.all_eq_true.1 hv fn (key g fn hg)
      simpa using this
  have e2 : ((P.closure f).filterMap fun g => (P.funcs[g]?).bind fun fn => if fn.body.isNone then entryReads.lookup fn.name else none) = [] := by
    rw [List.filterMap_eq_nil_iff]
    intro g hg
    cases e : P.funcs[g]? with
    | none => rfl
    | some fn =>
      have := plain_fn h hC hp hf hg e
      rw [Bool.or_eq_false_iff, Bool.or_eq_false_iff] at this
      simp only [Option.bind_some]
      rw [if_neg (by rw [this.1.2]; decide)]
  unfold Program.varsNamed
  rw [e1, e2]
  rfl
end

theorem ws_app (pre rest : List Char) (h : (pre.all fun c => c != Char.ofNat 32) = true) : wordsSigns (pre ++ Char.ofNat 32 :: rest) = pre :: wordsSigns rest := by
  induction pre with
  | nil => rfl
  | cons c r ih =>
    rw [List.all_cons, Bool.and_eq_true] at h
    have hc : c = Char.ofNat 32 → False := fun e => by rw [e] at h; exact absurd h.1 (by decide)
    rw [List.cons_append, wordsSigns.eq_3 _ _ hc, ih h.2]
theorem signs_of {s : String} {l : List Char} (h : s = String.ofList l) : s.toList = l := by rw [h, String.toList_ofList]

section
variable {P : Program} {c : List Char} {X : List (List Char)} (h : behindMainWord (wordsSigns P.initOrder.toList) = c :: X) (hg : (c == "gc".toList) = false) (hs : (c == "spec".toList) = false) (hc : (c == "cut".toList) = true) (hr : (c == "carried".toList) = false) (hl : stripLifts liftWords (c :: X) = ([], c :: X))
include h hg hs hc hr hl
theorem make_of : P.make = some .cut := by
  have _ := hr; have _ := hl
  unfold Program.make
  rw [h]
  simp only [hg, hs, hc, Bool.or_false, Bool.true_or, Bool.false_eq_true, if_false, if_true]
theorem lifts_of (hn : (some c == some "carried".toList) = false) : P.liftsFinal = false := by
  have _ := hg; have _ := hs; have _ := hc; have _ := hr
  unfold Program.liftsFinal Program.headLifts
  simp only [h, hl, List.head?_cons, hn, Bool.false_and, Bool.false_or]
  split <;> rfl
theorem enter_of (h1 : P.laysLater = false) (h2 : P.bearsReflect = false) (h3 : P.doorFits [] = true) (hn : (some c == some "cut".toList) = true) : P.mayEnter = true := by
  have _ := hc
  unfold Program.mayEnter
  rw [h]
  simp only [hl, List.head?_cons, hg, hs, hr, h1, h2, h3, hn, List.contains_nil, Bool.or_false, Bool.false_and, Bool.and_true, Bool.not_false, Bool.or_true]
end

end Go.Proofs.Ytgkfkkeaffphlaa

/- Who calls whom in the program; what every row asks of it. -/
namespace Go.Proofs.Ytgkfkkeaffphlaa
open Go.RowKit

def leadsT : List (List Nat) := [[], [], [1], [28, 29, 30, 31, 32, 33, 34, 35, 33, 36, 37, 38, 36, 35], [28, 39, 40, 41, 42, 43, 44, 44, 42, 42, 45, 46], [28, 47, 48, 49, 50, 51, 50, 51, 52, 53, 53, 54, 55, 52, 35, 55, 52, 35, 56, 35], [28, 57, 58, 59, 53, 53, 60, 55, 55, 42, 42, 52, 52], [61, 62, 32, 62, 33, 62, 63], [65, 64, 65, 38, 66, 65, 67, 68, 66, 69, 70, 65, 38, 66, 70], [61, 62, 71, 62, 37, 66, 62, 63, 72, 66, 69, 70, 62, 37, 66, 70], [61, 62, 73, 62, 36, 74, 62, 63], [61, 62, 75, 62, 31, 66, 62, 63, 72, 66, 69, 70, 62, 31, 66, 70], [61, 62, 77, 76, 62, 77, 30, 66, 62, 63, 77, 78, 72, 79, 66, 69, 70, 62, 77, 30, 66, 70], [61, 62, 80, 62, 34, 81, 62, 63, 72, 81, 82, 83, 62, 34, 81, 83], [84, 86, 85, 86, 46, 86, 87], [88, 45, 89, 90, 91, 45, 89, 91], [84, 86, 41, 86, 40, 89, 86, 87, 92, 89, 90, 91, 86, 40, 89, 91], [84, 86, 93, 86, 43, 89, 86, 87, 92, 89, 90, 91, 86, 43, 89, 91], [84, 86, 94, 86, 44, 89, 86, 87, 92, 89, 90, 91, 86, 44, 89, 91], [84, 86, 95, 86, 42, 74, 86, 87], [96, 98, 97, 98, 55, 98, 99], [100, 60, 101, 102, 103, 60, 101, 103], [96, 98, 104, 98, 53, 74, 98, 99], [96, 98, 51, 98, 50, 101, 98, 99, 105, 101, 102, 103, 98, 50, 101, 103], [96, 98, 59, 98, 58, 101, 98, 99, 105, 101, 102, 103, 98, 58, 101, 103], [96, 98, 49, 98, 48, 101, 98, 99, 105, 101, 102, 103, 98, 48, 101, 103], [96, 98, 106, 98, 54, 101, 98, 99, 105, 101, 102, 103, 98, 54, 101, 103], [96, 98, 56, 98, 52, 81, 98, 99, 105, 81, 82, 83, 98, 52, 81, 83], [], [107, 108, 109, 110], [33, 113, 114, 112, 111], [33, 115, 111], [116], [117, 118, 117], [33, 115], [], [33, 118, 115], [33, 118, 117, 113, 111, 119], [113, 111, 33], [107, 120, 109, 109, 121], [46, 122, 123, 124, 125, 126], [85, 127, 128, 127, 129, 127], [46, 123], [130, 123, 126], [130, 123, 131, 126], [126], [132], [133, 107, 109, 109, 121], [134, 135, 136, 137], [138, 139, 140, 139], [141, 40, 135, 142], [138, 139, 128, 139, 140, 129, 139, 143, 139], [134, 144], [141, 144], [134, 135, 145, 137], [46, 146, 147], [138, 148], [133], [141, 144, 135, 142], [138, 139, 149, 139, 140, 143, 139], [45], [150, 151], [65, 152], [67, 153], [116], [], [63], [], [], [72], [154], [116, 155, 156, 157], [68, 158], [116, 155, 159], [], [116, 160], [116], [], [], [], [116, 160], [67], [68], [161], [], [162, 128], [163], [164], [162, 127], [87], [92], [165], [], [166, 127, 127], [166, 127, 167], [85, 168], [169, 84], [170], [171, 86], [172, 87], [88, 139], [99], [105], [173], [138, 149], [174, 92], [138, 139, 140, 175], [], [176, 109, 109, 109, 109, 109, 109, 109, 121, 121, 121, 109], [], [109], [], [], [], [], [113, 112], [156, 155, 156], [], [], [177], [109, 121, 109, 109, 121, 121, 110], [109], [], [], [], [], [178, 179], [], [162], [], [46], [178], [180, 122], [107, 181, 109, 109, 109, 121], [55, 182], [183], [], [184], [170, 185, 186], [], [], [134, 187], [188, 189, 137], [190, 191], [], [192], [180, 193, 194], [], [149], [195], [], [], [196], [197], [161, 198], [162], [162], [], [], [], [159], [], [], [], [], [], [85, 162], [], [], [199], [85, 200, 201, 201], [202], [203], [204, 165], [68], [167, 175], [], [], [], [], [], [205, 109, 109, 120, 121, 121, 121], [206], [], [], [162], [162], [], [207, 207, 193, 208, 208, 192, 209], [207, 193, 145, 208, 145, 209, 145], [195, 210, 211, 167, 212, 213], [210, 211, 175, 175, 212, 213, 175], [145, 44], [], [206, 206], [], [], [], [], [150], [162, 214], [], [65], [67], [161], [109, 100, 109, 109, 109, 49, 109, 59, 110, 106, 109, 109, 51], [], [193], [], [215, 216], [], [], [], [], [162, 162], [], [136, 43], [], [], [], [], [], [], [], [], [], [], [], [], [], [], [], []]
theorem leads_is : Try.prog.funcs.toList.map Try.prog.leadsTo = leadsT := by kernel_rfl
theorem unf_ok : (Try.prog.funcs.toList.all fun fn => !(fn.body.elim (entryCalls fn) Code.unfollowed)) = true := by kernel_rfl
theorem inp_ok : (((Try.prog.funcs.toList.drop 3).take (217 - 3)).all fun fn => !(fn.ours || fn.body.isNone || fn.name == "runtime.NumGoroutine")) = true := by kernel_rfl
theorem var_ok : (Try.prog.funcs.toList.all fun fn => (fn.body.elim [] Code.globalsNamed).isEmpty) = true := by kernel_rfl
theorem leads_in : ∀ g, 3 ≤ g → g < 217 → ∀ x ∈ leadsT.getD g [], 3 ≤ x ∧ x < 217 := within_of (by kernel_rfl)
def ranksT : List Nat := [1, 1, 2, 5, 6, 0, 0, 5, 5, 5, 5, 5, 5, 5, 4, 4, 5, 6, 6, 5, 6, 6, 8, 0, 0, 7, 0, 7, 1, 4, 3, 3, 4, 2, 3, 1, 3, 3, 3, 4, 4, 4, 4, 5, 5, 3, 3, 0, 6, 6, 0, 0, 6, 7, 0, 4, 6, 0, 0, 0, 4, 2, 3, 3, 4, 1, 4, 1, 1, 3, 3, 4, 2, 4, 1, 4, 4, 1, 1, 1, 4, 2, 2, 2, 1, 3, 2, 2, 2, 3, 2, 2, 1, 5, 5, 4, 4, 5, 4, 4, 3, 5, 4, 4, 6, 3, 0, 1, 3, 1, 2, 1, 1, 1, 1, 2, 3, 1, 1, 2, 3, 2, 1, 1, 1, 1, 2, 1, 2, 1, 4, 2, 2, 0, 5, 2, 1, 2, 5, 1, 1, 6, 0, 0, 1, 0, 3, 1, 3, 2, 1, 1, 2, 2, 2, 2, 2, 1, 1, 1, 2, 1, 1, 1, 1, 1, 4, 1, 1, 3, 4, 3, 3, 3, 2, 0, 1, 1, 1, 1, 1, 0, 2, 1, 1, 2, 2, 1, 0, 0, 2, 0, 0, 1, 2, 1, 1, 1, 1, 2, 3, 1, 2, 2, 2, 0, 1, 2, 1, 7, 1, 1, 1, 1, 2, 1, 6, 1, 1, 1, 1, 1, 1, 1, 1, 1, 1, 1, 1, 1, 1, 1, 1]
theorem ranks_ok : ∀ g, (fun g => decide (ranksT.getD g 0 ≠ 0)) g = true → ∀ x ∈ leadsT.getD g [], (fun g => decide (ranksT.getD g 0 ≠ 0)) x = true ∧ ranksT.getD x 0 < ranksT.getD g 0 := ranks_of (by kernel_rfl)
def headH : List Char := [104, 97, 114, 110, 101, 115, 115].map Char.ofNat
def headS : List Char := [48, 52, 48, 55, 99, 55, 50, 100, 50, 54, 48, 50, 98, 100, 56, 48, 54, 99, 54, 54, 51, 102, 101, 51, 52, 52, 55, 57, 49, 101, 98, 53, 97, 52, 51, 50, 97, 101, 102, 98, 57, 101, 101, 97, 54, 52, 102, 51, 48, 55, 50, 97, 57, 48, 99, 56, 50, 99, 102, 54, 100, 56, 99, 99].map Char.ofNat
def headC : List Char := [99, 117, 116].map Char.ofNat
def headR : List Char := [97, 116, 32, 108, 111, 111, 112, 46, 101, 120, 97, 109, 112, 108, 101, 47, 103, 48, 48, 50, 55, 55, 47, 108, 97, 119, 115, 46, 70, 110, 68, 105, 115, 107, 115, 32, 108, 111, 111, 112, 46, 101, 120, 97, 109, 112, 108, 101, 47, 103, 48, 48, 50, 55, 55, 47, 108, 97, 119, 115, 46, 70, 110, 66, 108, 111, 99, 107, 115, 32, 108, 111, 111, 112, 46, 101, 120, 97, 109, 112, 108, 101, 47, 103, 48, 48, 50, 55, 55, 47, 108, 97, 119, 115, 46, 70, 110, 84, 114, 101, 101, 115, 32, 108, 111, 111, 112, 46, 101, 120, 97, 109, 112, 108, 101, 47, 103, 48, 48, 50, 55, 55, 47, 108, 97, 119, 115, 46, 70, 110, 67, 108, 101, 97, 114, 115, 32, 108, 111, 111, 112, 46, 101, 120, 97, 109, 112, 108, 101, 47, 103, 48, 48, 50, 55, 55, 47, 108, 97, 119, 115, 46, 70, 110, 69, 120, 97, 99, 116, 68, 105, 115, 107, 70, 97, 117, 108, 116, 32, 108, 111, 111, 112, 46, 101, 120, 97, 109, 112, 108, 101, 47, 103, 48, 48, 50, 55, 55, 47, 108, 97, 119, 115, 46, 70, 110, 69, 120, 97, 99, 116, 78, 101, 119, 68, 105, 115, 107, 32, 108, 111, 111, 112, 46, 101, 120, 97, 109, 112, 108, 101, 47, 103, 48, 48, 50, 55, 55, 47, 108, 97, 119, 115, 46, 70, 110, 69, 120, 97, 99, 116, 80, 117, 116, 87, 111, 114, 100, 32, 108, 111, 111, 112, 46, 101, 120, 97, 109, 112, 108, 101, 47, 103, 48, 48, 50, 55, 55, 47, 108, 97, 119, 115, 46, 70, 110, 69, 120, 97, 99, 116, 87, 111, 114, 100, 65, 116, 32, 108, 111, 111, 112, 46, 101, 120, 97, 109, 112, 108, 101, 47, 103, 48, 48, 50, 55, 55, 47, 108, 97, 119, 115, 46, 70, 110, 69, 120, 97, 99, 116, 70, 108, 117, 115, 104, 68, 105, 115, 107, 32, 108, 111, 111, 112, 46, 101, 120, 97, 109, 112, 108, 101, 47, 103, 48, 48, 50, 55, 55, 47, 108, 97, 119, 115, 46, 70, 110, 69, 120, 97, 99, 116, 67, 114, 97, 115, 104, 68, 105, 115, 107, 32, 108, 111, 111, 112, 46, 101, 120, 97, 109, 112, 108, 101, 47, 103, 48, 48, 50, 55, 55, 47, 108, 97, 119, 115, 46, 70, 110, 69, 120, 97, 99, 116, 65, 108, 108, 87, 111, 114, 100, 115, 32, 108, 111, 111, 112, 46, 101, 120, 97, 109, 112, 108, 101, 47, 103, 48, 48, 50, 55, 55, 47, 108, 97, 119, 115, 46, 70, 110, 69, 120, 97, 99, 116, 66, 108, 111, 99, 107, 115, 70, 97, 117, 108, 116, 32, 108, 111, 111, 112, 46, 101, 120, 97, 109, 112, 108, 101, 47, 103, 48, 48, 50, 55, 55, 47, 108, 97, 119, 115, 46, 70, 110, 69, 120, 97, 99, 116, 78, 101, 119, 66, 108, 111, 99, 107, 115, 32, 108, 111, 111, 112, 46, 101, 120, 97, 109, 112, 108, 101, 47, 103, 48, 48, 50, 55, 55, 47, 108, 97, 119, 115, 46, 70, 110, 69, 120, 97, 99, 116, 84, 97, 107, 101, 66, 108, 111, 99, 107, 32, 108, 111, 111, 112, 46, 101, 120, 97, 109, 112, 108, 101, 47, 103, 48, 48, 50, 55, 55, 47, 108, 97, 119, 115, 46, 70, 110, 69, 120, 97, 99, 116, 83, 104, 97, 114, 101, 66, 108, 111, 99, 107, 32, 108, 111, 111, 112, 46, 101, 120, 97, 109, 112, 108, 101, 47, 103, 48, 48, 50, 55, 55, 47, 108, 97, 119, 115, 46, 70, 110, 69, 120, 97, 99, 116, 68, 114, 111, 112, 66, 108, 111, 99, 107, 32, 108, 111, 111, 112, 46, 101, 120, 97, 109, 112, 108, 101, 47, 103, 48, 48, 50, 55, 55, 47, 108, 97, 119, 115, 46, 70, 110, 69, 120, 97, 99, 116, 70, 114, 101, 101, 79, 102, 32, 108, 111, 111, 112, 46, 101, 120, 97, 109, 112, 108, 101, 47, 103, 48, 48, 50, 55, 55, 47, 108, 97, 119, 115, 46, 70, 110, 69, 120, 97, 99, 116, 70, 111, 114, 101, 115, 116, 70, 97, 117, 108, 116, 32, 108, 111, 111, 112, 46, 101, 120, 97, 109, 112, 108, 101, 47, 103, 48, 48, 50, 55, 55, 47, 108, 97, 119, 115, 46, 70, 110, 69, 120, 97, 99, 116, 78, 101, 119, 70, 111, 114, 101, 115, 116, 32, 108, 111, 111, 112, 46, 101, 120, 97, 109, 112, 108, 101, 47, 103, 48, 48, 50, 55, 55, 47, 108, 97, 119, 115, 46, 70, 110, 69, 120, 97, 99, 116, 76, 111, 111, 107, 84, 114, 101, 101, 32, 108, 111, 111, 112, 46, 101, 120, 97, 109, 112, 108, 101, 47, 103, 48, 48, 50, 55, 55, 47, 108, 97, 119, 115, 46, 70, 110, 69, 120, 97, 99, 116, 83, 101, 116, 84, 114, 101, 101, 32, 108, 111, 111, 112, 46, 101, 120, 97, 109, 112, 108, 101, 47, 103, 48, 48, 50, 55, 55, 47, 108, 97, 119, 115, 46, 70, 110, 69, 120, 97, 99, 116, 67, 108, 101, 97, 114, 84, 114, 101, 101, 32, 108, 111, 111, 112, 46, 101, 120, 97, 109, 112, 108, 101, 47, 103, 48, 48, 50, 55, 55, 47, 108, 97, 119, 115, 46, 70, 110, 69, 120, 97, 99, 116, 83, 104, 97, 114, 101, 84, 114, 101, 101, 32, 108, 111, 111, 112, 46, 101, 120, 97, 109, 112, 108, 101, 47, 103, 48, 48, 50, 55, 55, 47, 108, 97, 119, 115, 46, 70, 110, 69, 120, 97, 99, 116, 68, 114, 111, 112, 84, 114, 101, 101, 32, 108, 111, 111, 112, 46, 101, 120, 97, 109, 112, 108, 101, 47, 103, 48, 48, 50, 55, 55, 47, 108, 97, 119, 115, 46, 70, 110, 69, 120, 97, 99, 116, 87, 97, 108, 107, 84, 114, 101, 101].map Char.ofNat
theorem init_is : Try.prog.initOrder = String.ofList (headH ++ Char.ofNat 32 :: (headS ++ Char.ofNat 32 :: (headC ++ Char.ofNat 32 :: headR))) := by kernel_rfl
theorem init_words : ∃ X, wordsSigns Try.prog.initOrder.toList = headH :: headS :: headC :: X := by
  rw [signs_of init_is, ws_app headH _ (by kernel_rfl), ws_app headS _ (by kernel_rfl), ws_app headC _ (by kernel_rfl)]
  exact ⟨_, rfl⟩
theorem behind_is (X : List (List Char)) : behindMainWord (headH :: headS :: headC :: X) = headC :: X := by kernel_rfl
theorem head_gc : (headC == "gc".toList) = false := by kernel_rfl
theorem head_spec : (headC == "spec".toList) = false := by kernel_rfl
theorem head_cut : (headC == "cut".toList) = true := by kernel_rfl
theorem head_carried : (headC == "carried".toList) = false := by kernel_rfl
theorem strip_is (X : List (List Char)) : stripLifts liftWords (headC :: X) = ([], headC :: X) := by kernel_rfl
theorem lays_no : Try.prog.laysLater = false := by kernel_rfl
theorem bears_no : Try.prog.bearsReflect = false := by kernel_rfl
theorem door_ok : Try.prog.doorFits [] = true := by kernel_rfl
theorem head_carried' : (some headC == some "carried".toList) = false := by kernel_rfl
theorem head_cut' : (some headC == some "cut".toList) = true := by kernel_rfl
theorem words_is : ∃ X, behindMainWord (wordsSigns Try.prog.initOrder.toList) = headC :: X := by
  obtain ⟨X, hX⟩ := init_words
  exact ⟨X, by rw [hX, behind_is]⟩
theorem made_cut : Try.prog.make = some .cut := by
  obtain ⟨X, hX⟩ := words_is
  exact make_of hX head_gc head_spec head_cut head_carried (strip_is X)
theorem lifts_no : Try.prog.liftsFinal = false := by
  obtain ⟨X, hX⟩ := words_is
  exact lifts_of hX head_gc head_spec head_cut head_carried (strip_is X) head_carried'
theorem may_enter : Try.prog.mayEnter = true := by
  obtain ⟨X, hX⟩ := words_is
  exact enter_of hX head_gc head_spec head_cut head_carried (strip_is X) lays_no bears_no door_ok head_cut'

end Go.Proofs.Ytgkfkkeaffphlaa

/- Closed facts of the program's tables that the rows over forests ask. -/
namespace Go.Proofs.Ytgkfkkeaffphlaa
theorem Try.cellsForest : Try.prog.cellsOf 108 = 2 := by kernel_rfl
theorem Try.cellsNode : Try.prog.cellsOf 208 = 3 := by kernel_rfl
theorem Try.cellsBlock : Try.prog.cellsOf 171 = 2 := by kernel_rfl
theorem Try.cellsInts : Try.prog.cellsOf 24 = 1 := by kernel_rfl
end Go.Proofs.Ytgkfkkeaffphlaa
