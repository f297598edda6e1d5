/- From the reading of an argument to the rows that the walks ask: a slice of numbers, a slice of pairs. No program is named. -/
import Derived.Test.YtedgppggaceopaaBase
import Derived.ProofKit
import Derived.OpenShut
import Derived.Lib.SmallJoins
import Derived.Deep.SlicePairs
import Derived.Test.YtedgppggaceopaaZM
import Derived.Test.YtedgppggaceopaaRows
namespace Go.Proofs.Ytedgppggaceopaa
open Go.RowKit Go.ChangeShapes Go.WideShapes Go.Deep

theorem addr_add (b off i : Nat) : (⟨b, off, none⟩ : Addr).add i = ⟨b, off + i, none⟩ := by
  simp [Addr.add]

section
variable {H : Type} {enc : TypeId × Value → H} {P : Program} {w : World}

theorem read_ints {t e : TypeId} {fuel : Nat} {v : Value} {x : DataW H × List MemPlace} (ht : P.underlying t = some (.slice e)) (he : P.underlying e = some (.int .i64)) (hc : P.cellsOf e = 1)
    (h : DataW.trod enc P w 0 (fun _ => true) true fuel t [v] = some x) :
    ∃ ao n cap xs, v = .slice ao n cap ∧ n ≤ maxLen ∧ RowAt w false 0 w.heap.size 1 ao n cap (ints xs) := by
  rcases open_ints ht he hc h with ⟨hcs, _⟩ | ⟨a, len, cap, zs, hcs, _, hl, hm, hz, _, hcell, _⟩
  · simp only [List.cons.injEq, and_true] at hcs
    exact ⟨none, 0, 0, [], hcs, Nat.zero_le _, rfl, Nat.le_refl _, fun h => absurd rfl h⟩
  · simp only [List.cons.injEq, and_true] at hcs
    simp only [if_true] at hz
    refine ⟨some a, len, cap, zs.take len, hcs, Nat.le_trans hl hm, ?_, hl, fun hn => ?_⟩
    · rw [ints_length]; simp; omega
    · have h0 := hcell 0 (by omega)
      obtain ⟨b, off, spot⟩ := a
      have hspot : spot = none := by simpa [Addr.add] using World.cell?_spot h0
      subst hspot
      refine ⟨b, off, rfl, Nat.zero_le _, ?_, ?_, fun i hi => ?_, fun h => by cases h⟩
      · exact World.block_lt_of_cell? w _ h0
      · exact World.block_lt_of_cell? w _ h0
      · rw [← addr_add, hcell i (by omega), ints_getD _ _ (by simp; omega)]
        simp [List.getD, show i < len by omega]

theorem read_pairs {t e : TypeId} {f0 f1 : Field} {fuel : Nat} {v : Value} {x : DataW H × List MemPlace} (ht : P.underlying t = some (.slice e)) (he : P.underlying e = some (.struct #[f0, f1]))
    (ce : P.cellsOf e = 2) (o0 : f0.offset = 0) (o1 : f1.offset = 1) (i0 : P.underlying f0.type = some (.int .i64)) (i1 : P.underlying f1.type = some (.int .i64)) (c0 : P.cellsOf f0.type = 1) (c1 : P.cellsOf f1.type = 1)
    (h : DataW.trod enc P w 0 (fun _ => true) true fuel t [v] = some x) :
    ∃ ao n cap xs, v = .slice ao n cap ∧ n ≤ maxLen ∧ RowAt w false 0 w.heap.size 2 ao n cap (pairs xs) := by
  rcases open_slice_pairs ht he ce o0 o1 c0 c1 h with ⟨hcs, _⟩ | ⟨a, len, cap, m, fu, V0, V1, D0, D1, P0, P1, hcs, _, hl, hm, hz, _, hcell⟩
  · simp only [List.cons.injEq, and_true] at hcs
    exact ⟨none, 0, 0, [], hcs, Nat.zero_le _, rfl, Nat.le_refl _, fun h => absurd rfl h⟩
  · simp only [List.cons.injEq, and_true] at hcs
    simp only [if_true] at hz
    subst hz
    have each : ∀ i, i < m → ∃ p : Int × Int, w.cell? (a.add (i * 2)) = some (.int .i64 p.1) ∧ w.cell? (a.add (i * 2 + 1)) = some (.int .i64 p.2) := fun i hi => by
      obtain ⟨e0, e1, t0, t1⟩ := hcell i hi
      obtain ⟨n0, g0, _, _⟩ := DataW.trod_int i0 t0
      obtain ⟨n1, g1, _, _⟩ := DataW.trod_int i1 t1
      simp only [List.cons.injEq, and_true] at g0 g1
      exact ⟨(n0, n1), by rw [e0, g0], by rw [e1, g1]⟩
    obtain ⟨q, hq⟩ := choose_lt each
    have hlen : ((List.range len).map q).length = len := by simp
    refine ⟨some a, len, m, (List.range len).map q, hcs, Nat.le_trans hl hm, ?_, hl, fun hn => ?_⟩
    · rw [pairs_length, hlen]
    · have h0 := (hq 0 (by omega)).1
      obtain ⟨b, off, spot⟩ := a
      have hspot : spot = none := by simpa [Addr.add] using World.cell?_spot h0
      subst hspot
      refine ⟨b, off, rfl, Nat.zero_le _, World.block_lt_of_cell? w _ h0, World.block_lt_of_cell? w _ h0, fun i hi => ?_, fun h => by cases h⟩
      obtain ⟨g0, g1⟩ := hq (i / 2) (by omega)
      have hi2 : i / 2 < len := by omega
      have hget : ((List.range len).map q).getD (i / 2) (0, 0) = q (i / 2) := by simp [List.getD, hi2]
      rcases (show i % 2 = 0 ∨ i % 2 = 1 by omega) with e | e
      · have := pairs_getD0 ((List.range len).map q) (i / 2) (by omega)
        rw [show i / 2 * 2 = i by omega] at this g0
        rw [← addr_add, g0, this, hget]
      · have := pairs_getD1 ((List.range len).map q) (i / 2) (by omega)
        rw [show i / 2 * 2 + 1 = i by omega] at this g1
        rw [← addr_add, g1, this, hget]

end
end Go.Proofs.Ytedgppggaceopaa

/- From the reading of an argument to nodes. No program is named. -/
namespace Go.Proofs.Ytedgppggaceopaa
open Go.RowKit Go.ChangeShapes Go.WideShapes Go.Deep

section
variable {H : Type} {enc : TypeId × Value → H} {P : Program} {w : World}

theorem read_nodes {t e ke : TypeId} {f0 f1 f2 : Field} {fuel : Nat} {v : Value} {x : DataW H × List MemPlace} (ht : P.underlying t = some (.slice e)) (he : P.underlying e = some (.struct #[f0, f1, f2]))
    (ce : P.cellsOf e = 3) (o0 : f0.offset = 0) (o1 : f1.offset = 1) (o2 : f2.offset = 2) (i0 : P.underlying f0.type = some (.int .i64)) (i1 : P.underlying f1.type = some .bool) (i2 : P.underlying f2.type = some (.slice ke)) (ik : P.underlying ke = some (.int .i64))
    (c0 : P.cellsOf f0.type = 1) (c1 : P.cellsOf f1.type = 1) (c2 : P.cellsOf f2.type = 1) (ck : P.cellsOf ke = 1)
    (h : DataW.trod enc P w 0 (fun _ => true) true fuel t [v] = some x) :
    ∃ ao n cap K ns, v = .slice ao n cap ∧ n ≤ maxLen ∧ (∀ i, i < n → (K i).2.1 ≤ maxLen) ∧ NodesAt w false 0 w.heap.size ao n cap K ns := by
  rcases open_slice ht h with ⟨hcs, _⟩ | ⟨a, len, cap, m, n, D, Pl, hcs, hb, hl, hm, hz, _, hx⟩
  · simp only [List.cons.injEq, and_true] at hcs
    exact ⟨none, 0, 0, fun _ => (none, 0, 0), [], hcs, Nat.zero_le _, fun i hi => absurd hi (by omega), rfl, RowAt.nil _ _ _ _ _, fun i hi => absurd hi (by omega), fun hx => by cases hx⟩
  · simp only [List.cons.injEq, and_true] at hcs
    simp only [if_true] at hz
    subst hz
    have each : ∀ i, i < m → ∃ q : Nd × KS, w.cell? (a.add (i * 3)) = some (.int .i64 q.1.1) ∧ w.cell? (a.add (i * 3 + 1)) = some (.bool q.1.2.1) ∧ w.cell? (a.add (i * 3 + 2)) = some (ksv q.2) ∧ q.2.2.1 ≤ maxLen ∧ RowAt w false 0 w.heap.size 1 q.2.1 q.2.2.1 q.2.2.2 (ints q.1.2.2) := fun i hi => by
      obtain ⟨cs, h1, h2⟩ := hx i hi
      rw [ce] at h1
      obtain ⟨_, hlen, hcell⟩ := World.cells?_some h1
      obtain ⟨ys, k, _, _, _, hyl, hf⟩ := DataW.trod_struct he h2
      match ys, hyl, cs, hlen with
      | [y0, y1, y2], _, [v0, v1, v2], _ =>
        have g0 := hf 0 f0 rfl
        have g1 := hf 1 f1 rfl
        have g2 := hf 2 f2 rfl
        simp [o0, o1, o2, c0, c1, c2] at g0 g1 g2
        have e0 := hcell 0 (by omega)
        have e1 := hcell 1 (by omega)
        have e2 := hcell 2 (by omega)
        rw [add_add] at e0 e1 e2
        obtain ⟨r, d0, _, _⟩ := DataW.trod_int i0 g0
        obtain ⟨l, d1, _⟩ := DataW.trod_bool i1 g1
        obtain ⟨ka, kn, kc, ks, d2, hkn, hr⟩ := read_ints i2 ik ck g2
        simp only [List.cons.injEq, and_true] at d0 d1
        refine ⟨((r, l, ks), (ka, kn, kc)), ?_, ?_, ?_, hkn, hr⟩
        · rw [← d0]; simpa using e0
        · rw [← d1]; simpa using e1
        · rw [show ksv (ka, kn, kc) = v2 from d2.symm]; simpa using e2
    obtain ⟨q, hq⟩ := choose_lt each
    have hlen : ((List.range len).map fun i => (q i).1).length = len := by simp
    have hget : ∀ i, i < len → ((List.range len).map fun i => (q i).1).getD i nd0 = (q i).1 := fun i hi => by simp [List.getD, hi]
    refine ⟨some a, len, m, fun i => (q i).2, (List.range len).map fun i => (q i).1, hcs, Nat.le_trans hl hm, fun i hi => (hq i (by omega)).2.2.2.1, hlen, ⟨?_, hl, fun hn => ?_⟩, fun i hi => ?_, fun hx => by cases hx⟩
    · rw [ncells_len, hlen]
    · have h0 := (hq 0 (by omega)).1
      obtain ⟨b, off, spot⟩ := a
      have hspot : spot = none := by simpa [Addr.add] using World.cell?_spot h0
      subst hspot
      refine ⟨b, off, rfl, Nat.zero_le _, World.block_lt_of_cell? w _ h0, World.block_lt_of_cell? w _ h0, fun i hi => ?_, fun h => by cases h⟩
      obtain ⟨p0, p1, p2, _⟩ := hq (i / 3) (by omega)
      unfold ncells
      rw [← addr_add, hlen]
      rcases (show i % 3 = 0 ∨ i % 3 = 1 ∨ i % 3 = 2 by omega) with e | e | e
      · have := flat3_get0 len (fun i => .int .i64 (((List.range len).map fun i => (q i).1).getD i nd0).1) (fun i => .bool (((List.range len).map fun i => (q i).1).getD i nd0).2.1) (fun i => ksv (q i).2) (i / 3) (by omega)
        rw [show i / 3 * 3 = i by omega] at this p0
        rw [this, p0, hget _ (by omega)]
      · have := flat3_get1 len (fun i => .int .i64 (((List.range len).map fun i => (q i).1).getD i nd0).1) (fun i => .bool (((List.range len).map fun i => (q i).1).getD i nd0).2.1) (fun i => ksv (q i).2) (i / 3) (by omega)
        rw [show i / 3 * 3 + 1 = i by omega] at this p1
        rw [this, p1, hget _ (by omega)]
      · have := flat3_get2 len (fun i => .int .i64 (((List.range len).map fun i => (q i).1).getD i nd0).1) (fun i => .bool (((List.range len).map fun i => (q i).1).getD i nd0).2.1) (fun i => ksv (q i).2) (i / 3) (by omega)
        rw [show i / 3 * 3 + 2 = i by omega] at this p2
        rw [this, p2]
    · rw [hget i hi]; exact (hq i (by omega)).2.2.2.2

end
end Go.Proofs.Ytedgppggaceopaa

/- Closed facts of the program's tables that every row of this seat asks. -/
namespace Go.Proofs.Ytedgppggaceopaa
theorem Try.own : ownKnob Try.prog.godebug = none := by kernel_rfl
theorem Try.laidOut : laidOutB Try.prog = true := by kernel_rfl
theorem Try.cellsInt : Try.prog.cellsOf 2 = 1 := by kernel_rfl
theorem Try.cellsBool : Try.prog.cellsOf 4 = 1 := by kernel_rfl
end Go.Proofs.Ytedgppggaceopaa

/- What a row asks of the functions that a function comes to, told of a table of who calls whom. No program is named. -/
namespace Go.Proofs.Ytedgppggaceopaa
open Go.RowKit

def clT (tab : List (List Nat)) : Nat → List Nat → List Nat → List Nat
  | 0, _, seen => seen.reverse
  | _, [], seen => seen.reverse
  | n + 1, f :: todo, seen => if seen.contains f then clT tab n todo seen else clT tab n (tab.getD f [] ++ todo) (f :: seen)
def fuelT (tab : List (List Nat)) : Nat := 1 + (tab.map fun l => l.length + 1).sum
/-- all that is come to lies in a set that calls lead not out of, and is no higher than where one began -/
theorem clT_in {tab : List (List Nat)} {C : Nat → Bool} {rk : Nat → Nat} (hC : ∀ g, C g = true → ∀ x ∈ tab.getD g [], C x = true ∧ rk x < rk g) (m : Nat) : ∀ (n : Nat) (todo seen : List Nat), (∀ x ∈ todo, C x = true ∧ rk x ≤ m) → (∀ x ∈ seen, C x = true ∧ rk x ≤ m) → ∀ x ∈ clT tab n todo seen, C x = true ∧ rk x ≤ m
  | 0, _, seen, _, h2 => fun x hx => h2 x (by simpa [clT] using hx)
  | n + 1, [], seen, _, h2 => fun x hx => h2 x (by simpa [clT] using hx)
  | n + 1, f :: todo, seen, h1, h2 => fun x hx => by
    unfold clT at hx
    have hf := h1 f (by simp)
    by_cases hs : seen.contains f = true
    · rw [if_pos hs] at hx
      exact clT_in hC m n todo seen (fun y hy => h1 y (by simp [hy])) h2 x hx
    · rw [if_neg hs] at hx
      refine clT_in hC m n _ _ (fun y hy => ?_) (fun y hy => ?_) x hx
      · rcases List.mem_append.1 hy with e | e
        · have := hC f hf.1 y e; exact ⟨this.1, by omega⟩
        · exact h1 y (by simp [e])
      · rcases List.mem_cons.1 hy with e | e
        · rw [e]; exact hf
        · exact h2 y e
section
variable {P : Program} {tab : List (List Nat)} (h : P.funcs.toList.map P.leadsTo = tab)
include h
theorem lead_is (f : Nat) : (P.funcs[f]?).elim [] P.leadsTo = tab.getD f [] := by
  rw [← h, List.getD_eq_getElem?_getD, List.getElem?_map, Array.getElem?_toList]
  cases P.funcs[f]? <;> rfl
theorem clT_is : ∀ (n : Nat) (todo seen : List Nat), P.closureVia n todo seen = clT tab n todo seen
  | 0, _, _ => rfl
  | n + 1, [], _ => rfl
  | n + 1, f :: todo, seen => by
    unfold Program.closureVia clT
    rw [lead_is h]
    by_cases hs : seen.contains f = true
    · rw [if_pos hs, if_pos hs]; exact clT_is n _ _
    · rw [if_neg hs, if_neg hs]; exact clT_is n _ _
theorem closure_is (f : Nat) : P.closure f = clT tab (fuelT tab) [f] [] := by
  unfold Program.closure fuelT
  rw [clT_is h, ← h, List.map_map]
  rfl
end
theorem getD_map {α β : Type} (a : Array α) (g : α → β) (d : β) (i : Nat) : (a.toList.map g).getD i d = (a[i]?).elim d g := by
  rw [List.getD_eq_getElem?_getD, List.getElem?_map, Array.getElem?_toList]
  cases a[i]? <;> rfl
section
variable {P : Program} {tab : List (List Nat)} (h : P.funcs.toList.map P.leadsTo = tab)
include h
theorem unfollowed_at {us : List Bool} (hu : P.funcs.toList.map (fun fn => fn.body.elim (entryCalls fn) Code.unfollowed) = us) (f : Nat) : P.unfollowed f = (clT tab (fuelT tab) [f] []).any fun g => us.getD g false := by
  unfold Program.unfollowed
  rw [closure_is h]
  congr 1
  funext g
  rw [← hu, getD_map]
  cases P.funcs[g]? with
  | none => rfl
  | some fn =>
    rw [Option.any_some]
    show _ = fn.body.elim (entryCalls fn) Code.unfollowed
    cases fn.body <;> rfl
theorem inPlace_at {ip : List (Option String)} (hi : P.funcs.toList.map (fun fn => if fn.ours || fn.body.isNone || fn.name == "runtime.NumGoroutine" then some fn.name else none) = ip) (f : Nat) : P.inPlace f = (clT tab (fuelT tab) [f] []).filterMap fun g => ip.getD g none := by
  unfold Program.inPlace
  rw [closure_is h]
  congr 1
  funext g
  rw [← hi, getD_map]
  cases P.funcs[g]? <;> rfl
theorem varsNamed_at {er : List (Option String)} (hv : (P.funcs.toList.all fun fn => (fn.body.elim [] Code.globalsNamed).isEmpty) = true) (he : P.funcs.toList.map (fun fn => if fn.body.isNone then entryReads.lookup fn.name else none) = er) (f : Nat) : P.varsNamed f = ((clT tab (fuelT tab) [f] []).filterMap fun g => er.getD g none).eraseDups := by
  have key : ∀ g fn, P.funcs[g]? = some fn → fn ∈ P.funcs.toList := fun g fn hg => by
    obtain ⟨hlt, e⟩ := Array.getElem?_eq_some_iff.1 hg
    rw [← e]; exact Array.getElem_mem_toList _
  have e1 : ((P.closure f).flatMap fun g => ((P.funcs[g]?).bind (·.body)).elim [] Code.globalsNamed) = [] := by
    rw [List.flatMap_eq_nil_iff]
    intro g _
    cases hg : P.funcs[g]? with
    | none => rfl
    | some fn =>
      have := List.all_eq_true.1 hv fn (key g fn hg)
      simpa using this
  have e2 : ((P.closure f).filterMap fun g => (P.funcs[g]?).bind fun fn => if fn.body.isNone then entryReads.lookup fn.name else none) = (clT tab (fuelT tab) [f] []).filterMap fun g => er.getD g none := by
    rw [closure_is h]
    congr 1
    funext g
    rw [← he, getD_map]
    cases P.funcs[g]? <;> rfl
  unfold Program.varsNamed
  rw [e1, e2]
  rfl
theorem recurses_no {f : Nat} (hu : P.unfollowed f = false) {C : Nat → Bool} {rk : Nat → Nat} (hC : ∀ g, C g = true → ∀ x ∈ tab.getD g [], C x = true ∧ rk x < rk g) (hf : C f = true) : P.recurses f = false := by
  unfold Program.recurses
  rw [hu, Bool.false_or, List.any_eq_false]
  intro g hg
  rw [closure_is h] at hg
  have hg' := clT_in hC (rk f) _ [f] [] (fun x hx => by simp at hx; rw [hx]; exact ⟨hf, Nat.le_refl _⟩) (fun x hx => by cases hx) g hg
  rw [lead_is h, Bool.not_eq_true, List.any_eq_false]
  intro x hx
  have hx' := hC g hg'.1 x hx
  rw [Bool.not_eq_true, Bool.eq_false_iff]
  intro hc
  rw [closure_is h] at hc
  have := clT_in hC (rk x) _ [x] [] (fun y hy => by simp at hy; rw [hy]; exact ⟨hx'.1, Nat.le_refl _⟩) (fun y hy => by cases hy) g (by simpa using hc)
  omega
end
theorem ranks_of {tab : List (List Nat)} {rks : List Nat} (h : ((List.range tab.length).all fun g => decide (rks.getD g 0 = 0) || (tab.getD g []).all fun x => decide (rks.getD x 0 ≠ 0) && decide (rks.getD x 0 < rks.getD g 0)) = true) : ∀ g, (fun g => decide (rks.getD g 0 ≠ 0)) g = true → ∀ x ∈ tab.getD g [], (fun g => decide (rks.getD g 0 ≠ 0)) x = true ∧ rks.getD x 0 < rks.getD g 0 := fun g hg x hx => by
  have hg' := of_decide_eq_true hg
  by_cases hl : g < tab.length
  · have := List.all_eq_true.1 h g (List.mem_range.2 hl)
    rw [Bool.or_eq_true] at this
    rcases this with e | e
    · exact absurd (of_decide_eq_true e) hg'
    · have := List.all_eq_true.1 e x hx
      rw [Bool.and_eq_true] at this
      exact ⟨this.1, of_decide_eq_true this.2⟩
  · rw [List.getD_eq_getElem?_getD, List.getElem?_eq_none (by omega)] at hx; cases hx
theorem ws_app (pre rest : List Char) (h : (pre.all fun c => c != Char.ofNat 32) = true) : wordsSigns (pre ++ Char.ofNat 32 :: rest) = pre :: wordsSigns rest := by
  induction pre with
  | nil => rfl
  | cons c r ih =>
    rw [List.all_cons, Bool.and_eq_true] at h
    have hc : c = Char.ofNat 32 → False := fun e => by rw [e] at h; exact absurd h.1 (by decide)
    rw [List.cons_append, wordsSigns.eq_3 _ _ hc, ih h.2]
theorem signs_of {s : String} {l : List Char} (h : s = String.ofList l) : s.toList = l := by rw [h, String.toList_ofList]

section
variable {P : Program} {c : List Char} {X : List (List Char)} (h : behindMainWord (wordsSigns P.initOrder.toList) = c :: X) (hg : (c == "gc".toList) = false) (hs : (c == "spec".toList) = false) (hc : (c == "cut".toList) = true) (hr : (c == "carried".toList) = false) (hl : stripLifts liftWords (c :: X) = ([], c :: X))
include h hg hs hc hr hl
theorem make_of : P.make = some .cut := by
  have _ := hr; have _ := hl
  unfold Program.make
  rw [h]
  simp only [hg, hs, hc, Bool.or_false, Bool.true_or, Bool.false_eq_true, if_false, if_true]
theorem lifts_of (hn : (some c == some "carried".toList) = false) : P.liftsFinal = false := by
  have _ := hg; have _ := hs; have _ := hc; have _ := hr
  unfold Program.liftsFinal Program.headLifts
  simp only [h, hl, List.head?_cons, hn, Bool.false_and, Bool.false_or]
  split <;> rfl
theorem enter_of (h1 : P.laysLater = false) (h2 : P.bearsReflect = false) (h3 : P.doorFits [] = true) (hn : (some c == some "cut".toList) = true) : P.mayEnter = true := by
  have _ := hc
  unfold Program.mayEnter
  rw [h]
  simp only [hl, List.head?_cons, hg, hs, hr, h1, h2, h3, hn, List.contains_nil, Bool.or_false, Bool.false_and, Bool.and_true, Bool.not_false, Bool.or_true]
end

end Go.Proofs.Ytedgppggaceopaa

/- Who calls whom in the program; what every row asks of it. -/
namespace Go.Proofs.Ytedgppggaceopaa
open Go.RowKit

def leadsT : List (List Nat) := [[], [], [1], [7, 9, 8, 9, 10, 9, 11], [12, 13, 14, 15, 16, 13, 14, 16], [7, 9, 17, 9, 18, 19, 9, 11], [7, 7, 9, 9, 20, 9, 9, 21, 9, 11, 9, 11], [22, 23], [24], [25, 26], [27, 28], [29, 30], [31, 32], [33], [11], [34], [35], [24, 36], [10, 37], [38], [39], [40, 41], [42, 43], [], [44, 45, 45, 45, 46], [47, 48], [49], [50, 51, 52, 53], [54, 55, 56, 57], [58, 59], [38], [60], [], [61], [62, 63], [64, 65], [], [66, 67], [], [69], [70], [], [71, 72], [], [73, 74, 45, 75, 76, 77], [], [45], [78, 79], [80], [], [81, 82, 83], [84, 85], [86], [87], [], [], [], [], [88, 89], [90], [91, 92], [93], [94, 95], [], [96, 97], [], [], [68], [98, 98], [], [99, 100, 101], [102], [], [103, 104, 105, 105], [45], [45], [106], [105], [107], [108], [], [109], [110, 111, 112], [87], [], [113], [], [], [114], [115], [], [45, 116], [], [117], [118, 119], [], [120, 121], [], [], [], [122], [], [123], [45, 46], [45, 124], [], [125], [126], [], [110, 57], [], [], [113, 113], [], [127], [], [], [128, 129], [130], [], [131], [], [], [], [45, 45], [132], [], [], [], [], [], [], [], [], [], [], [], [], [], [], [], [], [], [], [], [], [], [], []]
theorem leads_is : Try.prog.funcs.toList.map Try.prog.leadsTo = leadsT := by kernel_rfl
def unfT : List Bool := [false, false, false, false, false, false, false, false, false, false, false, false, false, false, false, false, false, false, false, false, false, false, false, false, false, false, false, false, false, false, false, false, false, false, false, false, false, false, false, false, false, false, false, false, false, false, false, false, false, false, false, false, false, false, false, false, false, false, false, false, false, false, false, false, false, false, true, false, false, false, false, false, false, false, false, false, false, false, false, false, false, false, false, false, false, false, false, false, false, false, false, false, false, false, false, false, false, false, false, true, false, false, false, false, false, false, false, false, false, false, false, false, false, false, false, false, false, false, false, false, false, false, false, false, false, false, false, false, false, false, false, false, false, false, false, false, false, false, false, false, false, false, false, false, false, false, false, false, false]
theorem unf_is : Try.prog.funcs.toList.map (fun fn => fn.body.elim (entryCalls fn) Code.unfollowed) = unfT := by kernel_rfl
def inpT : List (Option String) := [some "main.main", some "gosem.cut", none, none, none, none, none, none, none, none, none, none, none, none, none, none, none, none, none, none, none, none, none, none, none, none, none, none, none, none, none, none, none, none, none, none, none, none, none, none, none, none, none, none, none, none, none, none, none, none, none, none, none, none, none, none, none, none, none, none, none, none, none, none, none, none, none, none, none, none, none, none, none, none, none, none, none, none, none, none, none, none, none, none, none, none, none, none, none, none, none, none, none, none, none, none, none, none, none, none, none, none, none, none, none, none, none, none, none, none, none, none, none, none, none, none, none, none, none, none, none, none, none, none, none, none, none, none, none, none, none, none, none, some "(runtime.boundsError).Error", some "(runtime.boundsError).RuntimeError", some "(runtime.errorString).Error", some "(runtime.errorString).RuntimeError", some "(runtime.plainError).Error", some "(runtime.plainError).RuntimeError", some "(runtime.errorAddressString).Error", some "(runtime.errorAddressString).RuntimeError", some "(*runtime.TypeAssertionError).Error", some "(*runtime.TypeAssertionError).RuntimeError", some "(*runtime.PanicNilError).Error", some "(*runtime.PanicNilError).RuntimeError", some "(*internal/abi.Type).Align", some "(internal/runtime/maps.unhashableTypeError).Error", some "(internal/runtime/maps.unhashableTypeError).RuntimeError", some "(internal/abi.Kind).String"]
theorem inp_is : Try.prog.funcs.toList.map (fun fn => if fn.ours || fn.body.isNone || fn.name == "runtime.NumGoroutine" then some fn.name else none) = inpT := by kernel_rfl
theorem var_ok : (Try.prog.funcs.toList.all fun fn => (fn.body.elim [] Code.globalsNamed).isEmpty) = true := by kernel_rfl
def entT : List (Option String) := [none, none, none, none, none, none, none, none, none, none, none, none, none, none, none, none, none, none, none, none, none, none, none, none, none, none, none, none, none, none, none, none, none, none, none, none, none, none, none, none, none, none, none, none, none, none, none, none, none, none, none, none, none, none, none, none, none, none, none, none, none, none, none, none, none, none, none, none, none, none, none, none, none, none, none, none, none, none, none, none, none, none, none, none, none, none, none, none, none, none, none, none, none, none, none, none, none, none, none, none, none, none, none, none, none, none, none, none, none, none, none, none, none, none, none, none, none, none, none, none, none, none, none, none, none, none, none, none, none, none, none, none, none, none, none, none, none, none, none, none, none, none, none, none, none, none, none, none, none]
theorem ent_is : Try.prog.funcs.toList.map (fun fn => if fn.body.isNone then entryReads.lookup fn.name else none) = entT := by kernel_rfl
def ranksT : List Nat := [1, 1, 2, 8, 8, 8, 7, 6, 7, 6, 6, 6, 5, 6, 7, 6, 6, 7, 7, 2, 3, 5, 5, 1, 6, 5, 2, 5, 2, 5, 2, 4, 1, 5, 5, 5, 1, 4, 1, 2, 4, 1, 4, 1, 5, 1, 2, 4, 2, 1, 4, 3, 2, 2, 1, 1, 1, 1, 4, 2, 3, 4, 4, 1, 4, 1, 1, 3, 2, 1, 3, 3, 1, 4, 2, 2, 4, 2, 3, 2, 1, 3, 3, 2, 1, 2, 1, 1, 3, 2, 1, 2, 1, 3, 3, 1, 3, 1, 1, 1, 2, 1, 2, 3, 3, 1, 3, 2, 1, 2, 1, 1, 2, 1, 2, 1, 1, 2, 2, 1, 2, 1, 1, 1, 2, 2, 1, 1, 1, 1, 1, 1, 1, 1, 1, 1, 1, 1, 1, 1, 1, 1, 1, 1, 1, 1, 1, 1, 1]
theorem ranks_ok : ∀ g, (fun g => decide (ranksT.getD g 0 ≠ 0)) g = true → ∀ x ∈ leadsT.getD g [], (fun g => decide (ranksT.getD g 0 ≠ 0)) x = true ∧ ranksT.getD x 0 < ranksT.getD g 0 := ranks_of (by kernel_rfl)
def headH : List Char := [104, 97, 114, 110, 101, 115, 115].map Char.ofNat
def headS : List Char := [57, 50, 48, 54, 51, 100, 54, 56, 53, 102, 97, 56, 55, 52, 98, 97, 51, 99, 49, 97, 101, 49, 54, 100, 53, 101, 101, 101, 100, 98, 56, 56, 55, 49, 48, 102, 102, 97, 98, 56, 100, 56, 56, 99, 99, 99, 55, 54, 50, 101, 52, 51, 101, 98, 49, 51, 97, 56, 98, 99, 102, 57, 51, 52].map Char.ofNat
def headC : List Char := [99, 117, 116].map Char.ofNat
def headR : List Char := [97, 116, 32, 108, 111, 111, 112, 46, 101, 120, 97, 109, 112, 108, 101, 47, 103, 48, 48, 50, 55, 55, 47, 108, 97, 119, 115, 46, 70, 110, 69, 120, 97, 99, 116, 77, 97, 99, 104, 105, 110, 101, 70, 97, 117, 108, 116, 32, 108, 111, 111, 112, 46, 101, 120, 97, 109, 112, 108, 101, 47, 103, 48, 48, 50, 55, 55, 47, 108, 97, 119, 115, 46, 70, 110, 69, 120, 97, 99, 116, 78, 101, 119, 77, 97, 99, 104, 105, 110, 101, 32, 108, 111, 111, 112, 46, 101, 120, 97, 109, 112, 108, 101, 47, 103, 48, 48, 50, 55, 55, 47, 108, 97, 119, 115, 46, 70, 110, 69, 120, 97, 99, 116, 83, 101, 115, 115, 105, 111, 110, 79, 102, 32, 108, 111, 111, 112, 46, 101, 120, 97, 109, 112, 108, 101, 47, 103, 48, 48, 50, 55, 55, 47, 108, 97, 119, 115, 46, 70, 110, 69, 120, 97, 99, 116, 83, 97, 109, 101, 77, 97, 99, 104, 105, 110, 101, 115].map Char.ofNat
theorem init_is : Try.prog.initOrder = String.ofList (headH ++ Char.ofNat 32 :: (headS ++ Char.ofNat 32 :: (headC ++ Char.ofNat 32 :: headR))) := by kernel_rfl
theorem init_words : ∃ X, wordsSigns Try.prog.initOrder.toList = headH :: headS :: headC :: X := by
  rw [signs_of init_is, ws_app headH _ (by kernel_rfl), ws_app headS _ (by kernel_rfl), ws_app headC _ (by kernel_rfl)]
  exact ⟨_, rfl⟩
theorem behind_is (X : List (List Char)) : behindMainWord (headH :: headS :: headC :: X) = headC :: X := by kernel_rfl
theorem head_gc : (headC == "gc".toList) = false := by kernel_rfl
theorem head_spec : (headC == "spec".toList) = false := by kernel_rfl
theorem head_cut : (headC == "cut".toList) = true := by kernel_rfl
theorem head_carried : (headC == "carried".toList) = false := by kernel_rfl
theorem strip_is (X : List (List Char)) : stripLifts liftWords (headC :: X) = ([], headC :: X) := by kernel_rfl
theorem lays_no : Try.prog.laysLater = false := by kernel_rfl
theorem bears_no : Try.prog.bearsReflect = false := by kernel_rfl
theorem door_ok : Try.prog.doorFits [] = true := by kernel_rfl
theorem head_carried' : (some headC == some "carried".toList) = false := by kernel_rfl
theorem head_cut' : (some headC == some "cut".toList) = true := by kernel_rfl
theorem words_is : ∃ X, behindMainWord (wordsSigns Try.prog.initOrder.toList) = headC :: X := by
  obtain ⟨X, hX⟩ := init_words
  exact ⟨X, by rw [hX, behind_is]⟩
theorem made_cut : Try.prog.make = some .cut := by
  obtain ⟨X, hX⟩ := words_is
  exact make_of hX head_gc head_spec head_cut head_carried (strip_is X)
theorem lifts_no : Try.prog.liftsFinal = false := by
  obtain ⟨X, hX⟩ := words_is
  exact lifts_of hX head_gc head_spec head_cut head_carried (strip_is X) head_carried'
theorem may_enter : Try.prog.mayEnter = true := by
  obtain ⟨X, hX⟩ := words_is
  exact enter_of hX head_gc head_spec head_cut head_carried (strip_is X) lays_no bears_no door_ok head_cut'

end Go.Proofs.Ytedgppggaceopaa

/- Closed facts of the program's tables that the rows over forests ask. -/
namespace Go.Proofs.Ytedgppggaceopaa
theorem Try.cellsForest : Try.prog.cellsOf 25 = 2 := by kernel_rfl
theorem Try.cellsNode : Try.prog.cellsOf 140 = 3 := by kernel_rfl
theorem Try.cellsBlock : Try.prog.cellsOf 146 = 2 := by kernel_rfl
theorem Try.cellsInts : Try.prog.cellsOf 107 = 1 := by kernel_rfl
end Go.Proofs.Ytedgppggaceopaa
