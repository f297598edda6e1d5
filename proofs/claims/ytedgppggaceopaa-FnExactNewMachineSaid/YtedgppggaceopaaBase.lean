/- Plain words for the walks: what a slice of numbers or of pairs of numbers holds in a world, and what a call leaves as it was. No program is named here. -/
import Derived.WalkKit
import Derived.WalkSpells
import Derived.Deep.Draws
import Derived.Deep.MidRow
namespace Go.Proofs.Ytedgppggaceopaa
open Go.RowKit

/-- The cells of a row of one-cell values: v is a slice of n elements, each of 'size' cells, whose cells are 'cs' ('cs.length = n * size'), in a block from lo up to hi; where 'own' none of them is frozen. -/
structure RowAt (w : World) (own : Bool) (lo hi : Nat) (size : Nat) (ao : Option Addr) (n cap : Nat) (cs : List Value) : Prop where
  len : cs.length = n * size
  le : n ≤ cap
  cells : n ≠ 0 → ∃ b off, ao = some ⟨b, off, none⟩ ∧ lo ≤ b ∧ b < hi ∧ b < w.heap.size ∧ (∀ i, i < n * size → w.cell? ⟨b, off + i, none⟩ = some (cs.getD i default)) ∧ (own = true → ∀ i, i < n * size → w.frozen? ⟨b, off + i, none⟩ = false)

/-- Of the blocks that lie in w those outside lo .. hi are as they were in w'. -/
structure Kept (lo hi : Nat) (w w' : World) : Prop where
  os : w'.os = w.os
  tape : w'.tape = w.tape
  output : w'.output = w.output
  size : w.heap.size ≤ w'.heap.size
  block : ∀ k, k < w.heap.size → (k < lo ∨ hi ≤ k) → w'.heap[k]? = w.heap[k]?

theorem Kept.refl (lo hi : Nat) (w : World) : Kept lo hi w w := ⟨rfl, rfl, rfl, Nat.le_refl _, fun _ _ _ => rfl⟩
theorem Kept.trans {lo hi : Nat} {a b c : World} (h : Kept lo hi a b) (k : Kept lo hi b c) : Kept lo hi a c :=
  ⟨k.os.trans h.os, k.tape.trans h.tape, k.output.trans h.output, Nat.le_trans h.size k.size, fun i hi ho => (k.block i (Nat.lt_of_lt_of_le hi h.size) ho).trans (h.block i hi ho)⟩
theorem Kept.of_below {lo hi : Nat} {w w' : World} (h : Below w.heap.size w w') : Kept lo hi w w' := ⟨h.os, h.tape, h.output, h.size, fun k hk _ => h.block k hk⟩
theorem Kept.mono {lo hi lo' hi' : Nat} {w w' : World} (h : Kept lo hi w w') (h1 : lo' ≤ lo) (h2 : hi ≤ hi') : Kept lo' hi' w w' :=
  ⟨h.os, h.tape, h.output, h.size, fun k hk ho => h.block k hk (by omega)⟩
theorem Kept.below {lo hi : Nat} {w w' : World} (h : Kept lo hi w w') (B : Nat) (h1 : B ≤ lo) (h2 : B ≤ w.heap.size) : Below B w w' :=
  ⟨h.os, h.tape, h.output, h.size, fun k hk => h.block k (by omega) (Or.inl (by omega))⟩

theorem RowAt.kept {w w' : World} {own : Bool} {lo hi size : Nat} {ao : Option Addr} {n cap : Nat} {cs : List Value} (h : RowAt w own lo hi size ao n cap cs) {l u : Nat} (hk : Kept l u w w') (hd : hi ≤ l ∨ u ≤ lo) : RowAt w' own lo hi size ao n cap cs := by
  refine ⟨h.len, h.le, fun hn => ?_⟩
  obtain ⟨b, off, rfl, h1, h2, h3, h4, h5⟩ := h.cells hn
  have hb : w'.heap[b]? = w.heap[b]? := hk.block b h3 (by omega)
  refine ⟨b, off, rfl, h1, h2, Nat.lt_of_lt_of_le h3 hk.size, fun i hi => ?_, fun ho i hi => ?_⟩
  · rw [World.cell?_of_block (w := w) (a := ⟨b, off + i, none⟩) hb]; exact h4 i hi
  · rw [World.frozen?_of_block (w := w) (a := ⟨b, off + i, none⟩) hb]; exact h5 ho i hi

theorem RowAt.below {w w' : World} {own : Bool} {lo hi size : Nat} {ao : Option Addr} {n cap : Nat} {cs : List Value} (h : RowAt w own lo hi size ao n cap cs) (hk : Below w.heap.size w w') : RowAt w' own lo hi size ao n cap cs :=
  h.kept (l := hi) (u := hi) (Kept.of_below hk) (Or.inl (Nat.le_refl _))

theorem RowAt.widen {w : World} {own : Bool} {lo hi size : Nat} {ao : Option Addr} {n cap : Nat} {cs : List Value} (h : RowAt w own lo hi size ao n cap cs) {lo' hi' : Nat} (h1 : lo' ≤ lo) (h2 : hi ≤ hi') : RowAt w own lo' hi' size ao n cap cs := by
  refine ⟨h.len, h.le, fun hn => ?_⟩
  obtain ⟨b, off, rfl, g1, g2, g3, g4, g5⟩ := h.cells hn
  exact ⟨b, off, rfl, by omega, by omega, g3, g4, g5⟩

def ints (xs : List Int) : List Value := xs.map (Value.int .i64)
def pairs (xs : List (Int × Int)) : List Value := xs.flatMap fun p => [Value.int .i64 p.1, Value.int .i64 p.2]

theorem ints_length (xs : List Int) : (ints xs).length = xs.length := by simp [ints]
theorem pairs_length (xs : List (Int × Int)) : (pairs xs).length = xs.length * 2 := by
  induction xs with
  | nil => rfl
  | cons a r ih => simp [pairs] at ih ⊢; omega
theorem ints_getD (xs : List Int) (i : Nat) (h : i < xs.length) : (ints xs).getD i default = .int .i64 (xs.getD i 0) := by
  simp [ints, List.getD, h]
theorem pairs_getD0 (xs : List (Int × Int)) : ∀ (i : Nat), i < xs.length → (pairs xs).getD (i * 2) default = .int .i64 (xs.getD i (0, 0)).1 := by
  induction xs with
  | nil => intro i h; exact absurd h (Nat.not_lt_zero _)
  | cons a r ih =>
    intro i h
    cases i with
    | zero => rfl
    | succ i =>
      have := ih i (by simpa using h)
      rw [show (i + 1) * 2 = i * 2 + 1 + 1 by omega]
      simpa [pairs, List.getD] using this
theorem pairs_getD1 (xs : List (Int × Int)) : ∀ (i : Nat), i < xs.length → (pairs xs).getD (i * 2 + 1) default = .int .i64 (xs.getD i (0, 0)).2 := by
  induction xs with
  | nil => intro i h; exact absurd h (Nat.not_lt_zero _)
  | cons a r ih =>
    intro i h
    cases i with
    | zero => rfl
    | succ i =>
      have := ih i (by simpa using h)
      rw [show (i + 1) * 2 + 1 = i * 2 + 1 + 1 + 1 by omega]
      simpa [pairs, List.getD] using this

/-- One number of a slice of numbers. -/
theorem RowAt.int {w : World} {own : Bool} {lo hi : Nat} {ao : Option Addr} {n cap : Nat} {xs : List Int} (h : RowAt w own lo hi 1 ao n cap (ints xs)) {k : Nat} (hk : k < n) :
    ∃ b off, ao = some ⟨b, off, none⟩ ∧ lo ≤ b ∧ b < hi ∧ b < w.heap.size ∧ w.cell? ⟨b, off + k, none⟩ = some (.int .i64 (xs.getD k 0)) ∧ (own = true → w.frozen? ⟨b, off + k, none⟩ = false) := by
  obtain ⟨b, off, rfl, g1, g2, g3, g4, g5⟩ := h.cells (by omega)
  have hl := h.len
  rw [ints_length, Nat.mul_one] at hl
  refine ⟨b, off, rfl, g1, g2, g3, ?_, fun ho => g5 ho k (by omega)⟩
  rw [g4 k (by omega), ints_getD xs k (by omega)]

/-- One pair of a slice of pairs. -/
theorem RowAt.pair {w : World} {own : Bool} {lo hi : Nat} {ao : Option Addr} {n cap : Nat} {xs : List (Int × Int)} (h : RowAt w own lo hi 2 ao n cap (pairs xs)) {k : Nat} (hk : k < n) :
    ∃ b off, ao = some ⟨b, off, none⟩ ∧ lo ≤ b ∧ b < hi ∧ b < w.heap.size ∧ w.cell? ⟨b, off + k * 2, none⟩ = some (.int .i64 (xs.getD k (0, 0)).1) ∧ w.cell? ⟨b, off + k * 2 + 1, none⟩ = some (.int .i64 (xs.getD k (0, 0)).2) ∧
      (own = true → w.frozen? ⟨b, off + k * 2, none⟩ = false ∧ w.frozen? ⟨b, off + k * 2 + 1, none⟩ = false) := by
  obtain ⟨b, off, rfl, g1, g2, g3, g4, g5⟩ := h.cells (by omega)
  have hl := h.len
  rw [pairs_length] at hl
  have hl' : xs.length = n := by omega
  refine ⟨b, off, rfl, g1, g2, g3, ?_, ?_, fun ho => ⟨g5 ho (k * 2) (by omega), by rw [Nat.add_assoc]; exact g5 ho (k * 2 + 1) (by omega)⟩⟩
  · rw [g4 (k * 2) (by omega), pairs_getD0 xs k (by omega)]
  · rw [Nat.add_assoc, g4 (k * 2 + 1) (by omega), pairs_getD1 xs k (by omega)]

theorem RowAt.nInts {w : World} {own : Bool} {lo hi : Nat} {ao : Option Addr} {n cap : Nat} {xs : List Int} (h : RowAt w own lo hi 1 ao n cap (ints xs)) : xs.length = n := by
  have hl := h.len; rw [ints_length, Nat.mul_one] at hl; exact hl
theorem RowAt.nPairs {w : World} {own : Bool} {lo hi : Nat} {ao : Option Addr} {n cap : Nat} {xs : List (Int × Int)} (h : RowAt w own lo hi 2 ao n cap (pairs xs)) : xs.length = n := by
  have hl := h.len; rw [pairs_length] at hl; omega

/-- A row that the call itself made, as 'ownsRow' tells it. -/
theorem RowAt.of_owns {w : World} {base : Nat} {e : TypeId} {size : Nat} {g n cap : Nat} {cs : List Value} (h : w.ownsRow base e size (.slice (some ⟨g, 0, none⟩) n cap) n cs) (hc : n ≤ cap) : RowAt w true base w.heap.size size (some ⟨g, 0, none⟩) n cap cs := by
  have hlt := h.lt g rfl
  refine ⟨h.1, hc, fun _ => ⟨g, 0, rfl, hlt.1, hlt.2, hlt.2, fun i hi => ?_, fun _ i _ => ?_⟩⟩
  · rw [Nat.zero_add, h.cellAt i hi]
    have : i < cs.length := by rw [h.1]; exact hi
    simp [List.getD, this]
  · rw [Nat.zero_add]
    exact h.frozenAt i

/-- how far a copy has come: the first m cells are there, the others are still zero -/
def cop (cs : List Value) (z : Value) (m : Nat) : List Value := cs.take m ++ List.replicate (cs.length - m) z
theorem cop_zero (cs : List Value) (z : Value) : cop cs z 0 = List.replicate cs.length z := by simp [cop]
theorem cop_all (cs : List Value) (z : Value) : cop cs z cs.length = cs := by simp [cop]
theorem cop_set (cs : List Value) (z v : Value) (m : Nat) (h : m < cs.length) (hv : cs.getD m default = v) : (cop cs z m).set m v = cop cs z (m + 1) := by
  have e : cs.length - m = (cs.length - (m + 1)) + 1 := by omega
  have hl : (cs.take m).length = m := by simp; omega
  have hv' : v = cs[m] := by rw [← hv]; simp [List.getD, h]
  unfold cop
  rw [e, List.replicate_succ, List.set_append, if_neg (by omega), hl, Nat.sub_self, List.set_cons_zero, List.take_succ_eq_append_getElem h, List.append_assoc, hv']
  rfl
theorem cop_get (cs : List Value) (z : Value) (m i : Nat) (hm : m ≤ i) (h : i < cs.length) : (cop cs z m)[i]? = some z := by
  unfold cop
  rw [List.getElem?_append_right (by simp; omega), List.getElem?_replicate, if_pos (by simp; omega)]

theorem owns_below {w w' : World} {base : Nat} {e : TypeId} {size : Nat} {v : Value} {n : Nat} {xs : List Value} (h : w.ownsRow base e size v n xs) (hb : Below w.heap.size w w') : w'.ownsRow base e size v n xs := by
  refine ⟨h.1, ?_⟩
  rcases h.2 with h2 | ⟨g, cap, cur, hv, hg, hh, r⟩
  · exact Or.inl h2
  · have hlt : g < w.heap.size := by
      by_cases hlt : g < w.heap.size
      · exact hlt
      · rw [Array.getElem?_eq_none (by omega)] at hh; cases hh
    exact Or.inr ⟨g, cap, cur, hv, hg, by rw [hb.block g hlt]; exact hh, r⟩
theorem owns_lt {w : World} {base : Nat} {e : TypeId} {size : Nat} {g n cap m : Nat} {xs : List Value} (h : w.ownsRow base e size (.slice (some ⟨g, 0, none⟩) n cap) m xs) : base ≤ g ∧ g < w.heap.size := h.lt g rfl
theorem below_step {B : Nat} {w a b : World} (h : Below B w a) (hB : B ≤ a.heap.size) (k : Below a.heap.size a b) : Below B w b := h.trans (k.mono hB)

theorem ret_bool {a b : Bool} (h : a = b) : Ending.returned (.bool a) = .returned (.bool b) := by rw [h]
theorem ret_int {k : IntKind} {a b : Int} (h : a = b) : Ending.returned (.int k a) = .returned (.int k b) := by rw [h]
theorem below_drewN {B : Nat} {a w : World} (h : Below B a w) (n : Nat) : Below B a (w.drewN n) := ⟨h.os, h.tape, h.output, h.size, h.block⟩
theorem eq_getD {α : Type} {xs ys : List α} {d : α} {n : Nat} (hx : xs.length = n) (hy : ys.length = n) (h : ∀ j, j < n → xs.getD j d = ys.getD j d) : xs = ys := by
  apply List.ext_getElem (by omega)
  intro i h1 h2
  have := h i (by omega)
  simpa [List.getD, h1, h2] using this

theorem below_next {w a b : World} (h : Below w.heap.size w a) (k : Below a.heap.size a b) : Below w.heap.size w b := h.trans (k.mono h.size)
theorem bcell {W w1 : World} (hb : Below W.heap.size W w1) : (∀ b o, b < W.heap.size → w1.cell? ⟨b, o, none⟩ = W.cell? ⟨b, o, none⟩) ∧ (∀ b o, b < W.heap.size → w1.frozen? ⟨b, o, none⟩ = W.frozen? ⟨b, o, none⟩) :=
  ⟨fun b o h => hb.cell (p := ⟨b, o, none⟩) h, fun b o h => hb.frozen (p := ⟨b, o, none⟩) h⟩

theorem Kept.setCell {lo hi : Nat} {a w : World} (h : Kept lo hi a w) {p : Addr} (h1 : lo ≤ p.block) (h2 : p.block < hi) (u : Value) : Kept lo hi a (w.setCell p u) :=
  h.trans ⟨rfl, rfl, rfl, by simp [World.setCell], fun k _ ho => Below.heap_setCell _ _ _ _ (by omega)⟩
theorem Kept.next {lo hi : Nat} {a w w' : World} (h : Kept lo hi a w) (hb : Below w.heap.size w w') : Kept lo hi a w' := h.trans (Kept.of_below hb)

theorem Kept.setCells {lo hi : Nat} {a w : World} (h : Kept lo hi a w) {b : Nat} (h1 : lo ≤ b) (h2 : b < hi) : ∀ (vs : List Value) (o : Nat), Kept lo hi a (w.setCells b o vs) := by
  intro vs
  induction vs generalizing w with
  | nil => intro o; exact h
  | cons v r ih =>
    intro o
    rw [World.setCells]
    exact ih (h.setCell (p := ⟨b, o, none⟩) h1 h2 v) (o + 1)
theorem RowAt.nil (w : World) (own : Bool) (lo hi size : Nat) : RowAt w own lo hi size none 0 0 [] := ⟨by simp, Nat.le_refl _, fun h => absurd rfl h⟩

theorem frozen_later {W w1 : World} {b o : Nat} (hb : Below W.heap.size W w1) (h : b < W.heap.size) (hf : W.frozen? ⟨b, o, none⟩ = false) : w1.frozen? ⟨b, o, none⟩ = false := (hb.frozen (p := ⟨b, o, none⟩) h).trans hf

theorem RowAt.of_owned {w : World} {base : Nat} {e : TypeId} {size : Nat} {v : Value} {n : Nat} {cs : List Value} (h : w.ownsRow base e size v n cs) : ∃ ao cap, v = .slice ao n cap ∧ RowAt w true base w.heap.size size ao n cap cs := by
  rcases h.2 with ⟨rfl, rfl⟩ | ⟨g, cap, cur, rfl, hg, hh, hc, r⟩
  · exact ⟨none, 0, rfl, h.1, Nat.le_refl _, fun h => absurd rfl h⟩
  · exact ⟨_, _, rfl, RowAt.of_owns h hc⟩

end Go.Proofs.Ytedgppggaceopaa
