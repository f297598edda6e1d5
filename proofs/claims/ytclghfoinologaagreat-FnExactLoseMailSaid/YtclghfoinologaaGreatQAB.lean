/- Short names for the steps of a region that draws its order and is walked by hand. No program is named here. -/
import Derived.WalkKit
import Derived.WalkSpells
import Derived.Deep.Draws
import Derived.Deep.MidRow
import Derived.OrdersHeld
import Derived.Test.YtclghfoinologaaGreatChecked
import Derived.WalkLawsBesides
import Derived.Deep.QuietTactic
import Derived.BigQuiet
import Derived.Deep.RegionHeld3
set_option maxRecDepth 20000
set_option maxHeartbeats 16000000
namespace Go.Proofs.YtclghfoinologaaGreat
open Go.RowKit
theorem la {α : Type _} (l : List α) (i : Nat) (a : α) : l.toArray.setIfInBounds i a = (l.set i a).toArray := List.setIfInBounds_toArray l i a
theorem lb {α : Type _} {x : α} {xs : List α} {a : α} : (x :: xs).set 0 a = a :: xs := rfl
theorem lc {α : Type _} {x : α} {xs : List α} {i : Nat} {a : α} : (x :: xs).set (i + 1) a = x :: xs.set i a := rfl
theorem ld {α : Type _} {xs : List α} {i : Nat} (h : i < xs.toArray.size) : xs.toArray[i] = xs[i] := rfl
theorem le' {α : Type _} (a : α) (l : List α) (h : 0 < (a :: l).length) : (a :: l)[0] = a := rfl
theorem lf' {α : Type _} (a : α) (l : List α) (i : Nat) (h : i + 1 < (a :: l).length) : (a :: l)[i + 1] = l[i]'(Nat.lt_of_succ_lt_succ h) := rfl
theorem tk {P : Program} {ops : Array Oper} {Q : Exit → Act → World → Prop} {md : Region.Mode} {S : World → Prop} (i : Nat) {oi : Oper} {v : Value} {fuel : Nat} {listed l' : Array Bool} {a a' : Act} {w : World} (hS : S w) (h : wpAnyH P md ops Q S fuel l' a' w) (hi : ops[i]? = some oi := by rfl)
  (hs : Region.noSelect ops = true := by kernel_rfl) (hf : Region.free md ops listed i = true := by kernel_rfl) (hr : (Region.ready md ops listed).contains i = true := by kernel_rfl)
  (hQ : ∀ c a w, Q (.panic c) (a.put oi.dst v) w → Q (.panic c) a w := by exact fun _ _ _ h => h) (hw : Region.wanted oi (yielded ops a.tmps) = true := by rfl) (hv : ∀ w, S w → (execOp a.eval oi).run P w = .ok (.value v) w := by (intro w hSw;(try dsimp only at hSw);first | (go_simp;done) | (go_simp;with_reducible rfl)))
  (hl : listed.setIfInBounds i true = l' := by first | (simp only [la, lb, lc];rfl) | rfl) (ha : a.put oi.dst v = a' := by first | (simp only [Act.put, la, lb, lc, ld, le', lf'];rfl) | rfl) : wpAnyH P md ops Q S (fuel + 1) listed a w := by
 subst hl ha;exact wpAnyH_take hi hs hf hr hQ (Or.inl ⟨hw, hv⟩) hS h
theorem tks {P : Program} {ops : Array Oper} {Q : Exit → Act → World → Prop} {md : Region.Mode} {S : World → Prop} (i : Nat) {oi : Oper} {fuel : Nat} {listed l' : Array Bool} {a a' : Act} {w : World} (hS : S w) (h : wpAnyH P md ops Q S fuel l' a' w) (hi : ops[i]? = some oi := by rfl)
  (hs : Region.noSelect ops = true := by kernel_rfl) (hf : Region.free md ops listed i = true := by kernel_rfl) (hr : (Region.ready md ops listed).contains i = true := by kernel_rfl)
  (hQ : ∀ c a w, Q (.panic c) (a.put oi.dst undef) w → Q (.panic c) a w := by exact fun _ _ _ h => h) (hw : Region.wanted oi (yielded ops a.tmps) = false := by rfl)
  (hl : listed.setIfInBounds i true = l' := by first | (simp only [la, lb, lc];rfl) | rfl) (ha : a.put oi.dst undef = a' := by first | (simp only [Act.put, la, lb, lc, ld, le', lf'];rfl) | rfl) : wpAnyH P md ops Q S (fuel + 1) listed a w := by
 subst hl ha;exact wpAnyH_take hi hs hf hr hQ (Or.inr ⟨hw, rfl⟩) hS h
structure RowAt (w : World) (own : Bool) (lo hi : Nat) (size : Nat) (ao : Option Addr) (n cap : Nat) (cs : List Value) : Prop where
 len : cs.length = n * size
 le : n ≤ cap
 cells : n ≠ 0 → ∃ b off, ao = some ⟨b, off, none⟩ ∧ lo ≤ b ∧ b < hi ∧ b < w.heap.size ∧ (∀ i, i < n * size → w.cell? ⟨b, off + i, none⟩ = some (cs.getD i default)) ∧ (own = true → ∀ i, i < n * size → w.frozen? ⟨b, off + i, none⟩ = false)
structure Kept (lo hi : Nat) (w w' : World) : Prop where
 os : w'.os = w.os
 tape : w'.tape = w.tape
 output : w'.output = w.output
 size : w.heap.size ≤ w'.heap.size
 block : ∀ k, k < w.heap.size → (k < lo ∨ hi ≤ k) → w'.heap[k]? = w.heap[k]?
theorem Kept.refl (lo hi : Nat) (w : World) : Kept lo hi w w := ⟨rfl, rfl, rfl, Nat.le_refl _, fun _ _ _ => rfl⟩
theorem Kept.trans {lo hi : Nat} {a b c : World} (h : Kept lo hi a b) (k : Kept lo hi b c) : Kept lo hi a c :=
 ⟨k.os.trans h.os, k.tape.trans h.tape, k.output.trans h.output, Nat.le_trans h.size k.size, fun i hi ho => (k.block i (Nat.lt_of_lt_of_le hi h.size) ho).trans (h.block i hi ho)⟩
theorem Kept.of_below {lo hi : Nat} {w w' : World} (h : Below w.heap.size w w') : Kept lo hi w w' := ⟨h.os, h.tape, h.output, h.size, fun k hk _ => h.block k hk⟩
theorem Kept.below {lo hi : Nat} {w w' : World} (h : Kept lo hi w w') (B : Nat) (h1 : B ≤ lo) (h2 : B ≤ w.heap.size) : Below B w w' :=
 ⟨h.os, h.tape, h.output, h.size, fun k hk => h.block k (by omega) (Or.inl (by omega))⟩
theorem RowAt.kept {w w' : World} {own : Bool} {lo hi size : Nat} {ao : Option Addr} {n cap : Nat} {cs : List Value} (h : RowAt w own lo hi size ao n cap cs) {l u : Nat} (hk : Kept l u w w') (hd : hi ≤ l ∨ u ≤ lo) : RowAt w' own lo hi size ao n cap cs := by
 refine ⟨h.len, h.le, fun hn => ?_⟩
 obtain ⟨b, off, rfl, h1, h2, h3, h4, h5⟩ := h.cells hn
 have hb : w'.heap[b]? = w.heap[b]? := hk.block b h3 (by omega)
 refine ⟨b, off, rfl, h1, h2, Nat.lt_of_lt_of_le h3 hk.size, fun i hi => ?_, fun ho i hi => ?_⟩
 ·rw [World.cell?_of_block (w := w) (a := ⟨b, off + i, none⟩) hb];exact h4 i hi
 ·rw [World.frozen?_of_block (w := w) (a := ⟨b, off + i, none⟩) hb];exact h5 ho i hi
theorem RowAt.below {w w' : World} {own : Bool} {lo hi size : Nat} {ao : Option Addr} {n cap : Nat} {cs : List Value} (h : RowAt w own lo hi size ao n cap cs) (hk : Below w.heap.size w w') : RowAt w' own lo hi size ao n cap cs :=
 h.kept (l := hi) (u := hi) (Kept.of_below hk) (Or.inl (Nat.le_refl _))
theorem RowAt.widen {w : World} {own : Bool} {lo hi size : Nat} {ao : Option Addr} {n cap : Nat} {cs : List Value} (h : RowAt w own lo hi size ao n cap cs) {lo' hi' : Nat} (h1 : lo' ≤ lo) (h2 : hi ≤ hi') : RowAt w own lo' hi' size ao n cap cs := by
 refine ⟨h.len, h.le, fun hn => ?_⟩
 obtain ⟨b, off, rfl, g1, g2, g3, g4, g5⟩ := h.cells hn
 exact ⟨b, off, rfl, by omega, by omega, g3, g4, g5⟩
def ints (xs : List Int) : List Value := xs.map (Value.int .i64)
def pairs (xs : List (Int × Int)) : List Value := xs.flatMap fun p => [Value.int .i64 p.1, Value.int .i64 p.2]
theorem ints_length (xs : List Int) : (ints xs).length = xs.length := by simp [ints]
theorem ints_getD (xs : List Int) (i : Nat) (h : i < xs.length) : (ints xs).getD i default = .int .i64 (xs.getD i 0) := by
 simp [ints, List.getD, h]
theorem RowAt.int {w : World} {own : Bool} {lo hi : Nat} {ao : Option Addr} {n cap : Nat} {xs : List Int} (h : RowAt w own lo hi 1 ao n cap (ints xs)) {k : Nat} (hk : k < n) :
  ∃ b off, ao = some ⟨b, off, none⟩ ∧ lo ≤ b ∧ b < hi ∧ b < w.heap.size ∧ w.cell? ⟨b, off + k, none⟩ = some (.int .i64 (xs.getD k 0)) ∧ (own = true → w.frozen? ⟨b, off + k, none⟩ = false) := by
 obtain ⟨b, off, rfl, g1, g2, g3, g4, g5⟩ := h.cells (by omega)
 have hl := h.len;rw [ints_length, Nat.mul_one] at hl
 refine ⟨b, off, rfl, g1, g2, g3, ?_, fun ho => g5 ho k (by omega)⟩
 rw [g4 k (by omega), ints_getD xs k (by omega)]
theorem RowAt.nInts {w : World} {own : Bool} {lo hi : Nat} {ao : Option Addr} {n cap : Nat} {xs : List Int} (h : RowAt w own lo hi 1 ao n cap (ints xs)) : xs.length = n := by
 have hl := h.len;rw [ints_length, Nat.mul_one] at hl;exact hl
theorem RowAt.of_owns {w : World} {base : Nat} {e : TypeId} {size : Nat} {g n cap : Nat} {cs : List Value} (h : w.ownsRow base e size (.slice (some ⟨g, 0, none⟩) n cap) n cs) (hc : n ≤ cap) : RowAt w true base w.heap.size size (some ⟨g, 0, none⟩) n cap cs := by
 have hlt := h.lt g rfl
 refine ⟨h.1, hc, fun _ => ⟨g, 0, rfl, hlt.1, hlt.2, hlt.2, fun i hi => ?_, fun _ i _ => ?_⟩⟩
 ·rw [Nat.zero_add, h.cellAt i hi]
  have : i < cs.length := by rw [h.1];exact hi
  simp [List.getD, this]
 ·rw [Nat.zero_add];exact h.frozenAt i
def cop (cs : List Value) (z : Value) (m : Nat) : List Value := cs.take m ++ List.replicate (cs.length - m) z
theorem cop_zero (cs : List Value) (z : Value) : cop cs z 0 = List.replicate cs.length z := by simp [cop]
theorem cop_all (cs : List Value) (z : Value) : cop cs z cs.length = cs := by simp [cop]
theorem cop_set (cs : List Value) (z v : Value) (m : Nat) (h : m < cs.length) (hv : cs.getD m default = v) : (cop cs z m).set m v = cop cs z (m + 1) := by
 have e : cs.length - m = (cs.length - (m + 1)) + 1 := by omega
 have hl : (cs.take m).length = m := by simp;omega
 have hv' : v = cs[m] := by rw [← hv];simp [List.getD, h]
 unfold cop
 rw [e, List.replicate_succ, List.set_append, if_neg (by omega), hl, Nat.sub_self, List.set_cons_zero, List.take_succ_eq_append_getElem h, List.append_assoc, hv']
 rfl
theorem cop_get (cs : List Value) (z : Value) (m i : Nat) (hm : m ≤ i) (h : i < cs.length) : (cop cs z m)[i]? = some z := by
 unfold cop
 rw [List.getElem?_append_right (by simp;omega), List.getElem?_replicate, if_pos (by simp;omega)]
theorem owns_below {w w' : World} {base : Nat} {e : TypeId} {size : Nat} {v : Value} {n : Nat} {xs : List Value} (h : w.ownsRow base e size v n xs) (hb : Below w.heap.size w w') : w'.ownsRow base e size v n xs := by
 refine ⟨h.1, ?_⟩
 rcases h.2 with h2 | ⟨g, cap, cur, hv, hg, hh, r⟩
 ·exact Or.inl h2
 ·have hlt : g < w.heap.size := by
   by_cases hlt : g < w.heap.size
   ·exact hlt
   ·rw [Array.getElem?_eq_none (by omega)] at hh;cases hh
  exact Or.inr ⟨g, cap, cur, hv, hg, by rw [hb.block g hlt];exact hh, r⟩
theorem owns_lt {w : World} {base : Nat} {e : TypeId} {size : Nat} {g n cap m : Nat} {xs : List Value} (h : w.ownsRow base e size (.slice (some ⟨g, 0, none⟩) n cap) m xs) : base ≤ g ∧ g < w.heap.size := h.lt g rfl
theorem below_step {B : Nat} {w a b : World} (h : Below B w a) (hB : B ≤ a.heap.size) (k : Below a.heap.size a b) : Below B w b := h.trans (k.mono hB)
theorem ret_bool {a b : Bool} (h : a = b) : Ending.returned (.bool a) = .returned (.bool b) := by rw [h]
theorem ret_int {k : IntKind} {a b : Int} (h : a = b) : Ending.returned (.int k a) = .returned (.int k b) := by rw [h]
theorem below_drewN {B : Nat} {a w : World} (h : Below B a w) (n : Nat) : Below B a (w.drewN n) := ⟨h.os, h.tape, h.output, h.size, h.block⟩
theorem eq_getD {α : Type} {xs ys : List α} {d : α} {n : Nat} (hx : xs.length = n) (hy : ys.length = n) (h : ∀ j, j < n → xs.getD j d = ys.getD j d) : xs = ys := by
 apply List.ext_getElem (by omega)
 intro i h1 h2
 have := h i (by omega)
 simpa [List.getD, h1, h2] using this
theorem below_next {w a b : World} (h : Below w.heap.size w a) (k : Below a.heap.size a b) : Below w.heap.size w b := h.trans (k.mono h.size)
theorem Kept.setCell {lo hi : Nat} {a w : World} (h : Kept lo hi a w) {p : Addr} (h1 : lo ≤ p.block) (h2 : p.block < hi) (u : Value) : Kept lo hi a (w.setCell p u) :=
 h.trans ⟨rfl, rfl, rfl, by simp [World.setCell], fun k _ ho => Below.heap_setCell _ _ _ _ (by omega)⟩
theorem Kept.setCells {lo hi : Nat} {a w : World} (h : Kept lo hi a w) {b : Nat} (h1 : lo ≤ b) (h2 : b < hi) : ∀ (vs : List Value) (o : Nat), Kept lo hi a (w.setCells b o vs) := by
 intro vs
 induction vs generalizing w with
 | nil => intro o;exact h
 | cons v r ih =>
  intro o;rw [World.setCells];exact ih (h.setCell (p := ⟨b, o, none⟩) h1 h2 v) (o + 1)
theorem RowAt.nil (w : World) (own : Bool) (lo hi size : Nat) : RowAt w own lo hi size none 0 0 [] := ⟨by simp, Nat.le_refl _, fun h => absurd rfl h⟩
theorem frozen_later {W w1 : World} {b o : Nat} (hb : Below W.heap.size W w1) (h : b < W.heap.size) (hf : W.frozen? ⟨b, o, none⟩ = false) : w1.frozen? ⟨b, o, none⟩ = false := (hb.frozen (p := ⟨b, o, none⟩) h).trans hf
theorem Tryz.info2' : (Tryz.prog.info? 2).map (fun i => (i.zero, i.size, i.bytes)) = some (some (.int .i64 0), 1, 8) := by kernel_rfl
structure DiskAt (w : World) (lo hi : Nat) (a0 : Option Addr) (n0 c0 : Nat) (a1 : Option Addr) (n1 c1 : Nat) (xs : List Int) (ys : List (Int × Int)) : Prop where
 parts : ∃ mid, lo ≤ mid ∧ mid ≤ hi ∧ RowAt w true lo mid 1 a0 n0 c0 (ints xs) ∧ RowAt w true mid hi 2 a1 n1 c1 (pairs ys)
def marks (k : Int) (n : Nat) : List Int := (List.range n).map fun (i : Nat) => k + (i : Int)
theorem marks_len (k : Int) (n : Nat) : (marks k n).length = n := by simp [marks]
theorem marks_getD (k : Int) (n i : Nat) (h : i < n) : (marks k n).getD i 0 = k + i := by simp [marks, List.getD, h]
theorem RowAt.stored {w : World} {lo hi size : Nat} {b off n cap : Nat} {cs : List Value} (h : RowAt w true lo hi size (some ⟨b, off, none⟩) n cap cs) {i : Nat} (hi' : i < n * size) (v : Value) :
  RowAt (w.setCell ⟨b, off + i, none⟩ v) true lo hi size (some ⟨b, off, none⟩) n cap (cs.set i v) := by
 refine ⟨by rw [List.length_set];exact h.len, h.le, fun hn => ?_⟩
 obtain ⟨b', off', e, g1, g2, g3, g4, g5⟩ := h.cells hn
 simp only [Option.some.injEq, Addr.mk.injEq, and_true] at e
 obtain ⟨rfl, rfl⟩ := e
 refine ⟨b, off, rfl, g1, g2, by simpa [World.setCell] using g3, fun j hj => ?_, fun ho j hj => ?_⟩
 ·have hl := h.len
  by_cases e : j = i
  ·subst e;rw [World.cell?_setCell_same _ _ _ (g4 j hj)]
   simp [List.getD, show j < cs.length by omega]
  ·rw [World.cell?_setCell_other _ _ _ _ (by intro h;simp at h <;> omega), g4 j hj]
   simp [List.getD, show ¬ i = j by omega]
 ·rw [World.frozen?_setCell];exact g5 ho j hj
def mk1 (xs : List Int) (k : Int) (i : Nat) : List Int := marks k i ++ xs.drop i
theorem mk1_set (xs : List Int) (k : Int) (i : Nat) (h : i < xs.length) : (ints (mk1 xs k i)).set i (.int .i64 (k + i)) = ints (mk1 xs k (i + 1)) := by
 unfold ints mk1
 rw [← List.map_set, List.set_append, if_neg (by rw [marks_len];omega), marks_len, Nat.sub_self, List.drop_eq_getElem_cons h, List.set_cons_zero]
 simp [marks, List.range_succ]
theorem mk1_all (xs : List Int) (k : Int) : mk1 xs k xs.length = marks k xs.length := by simp [mk1]
theorem mk1_zero (xs : List Int) (k : Int) : mk1 xs k 0 = xs := by simp [mk1, marks]
theorem markInts_any {lo hi : Nat} (ao : Option Addr) (n cap : Nat) (xs : List Int) (k : Int) (w : World) (h : RowAt w true lo hi 1 ao n cap (ints xs)) (hn : n ≤ 4194304) (hk0 : 0 ≤ k) (hk1 : k ≤ 16777216) :
  Calls Tryz.prog 69 #[.slice ao n cap, .int .i64 k] w fun e w' => e = .returned (.int .i64 (k + n)) ∧ RowAt w' true lo hi 1 ao n cap (ints (marks k n)) ∧ Kept lo hi w w' := by
 have hx := h.nInts
 go_enter Tryz.func69, Tryz.ntmps69
 go_wp2
 go_loopw [1, 5] (fun v i wr => ∃ j : Nat, j ≤ n ∧ i = .int .i64 j ∧ v = .int .i64 (k + j) ∧ RowAt wr true lo hi 1 ao n cap (ints (mk1 xs k j)) ∧ Kept lo hi w wr) (fun _ i _ => n - (intOf i).toNat)
 case atStart => exact ⟨0, Nat.zero_le _, rfl, by simp, by rw [mk1_zero];exact h, Kept.refl _ _ _⟩
 case round =>
  obtain ⟨j, hj, rfl, rfl, R, hK⟩ := hrel
  by_cases hlt : j < n
  ·obtain ⟨b, off, rfl, hlo, hhi, hbs, hc, hf0⟩ := R.int hlt
   have hf := hf0 rfl
   have R2 := R.stored (i := j) (by omega) (.int .i64 (k + j))
   rw [mk1_set xs k j (by omega)] at R2
   have K2 : Kept lo hi w (wr.setCell ⟨b, off + j, none⟩ (.int .i64 (k + j))) := hK.setCell (p := ⟨b, off + j, none⟩) hlo hhi _
   have hl : (j : Int) < n := by omega
   clear R hf0 hK;generalize (mk1 xs k j).getD j 0 = old at *;go_wp2
   go_roundw
   case rel => exact ⟨j + 1, by omega, by go_num, by simp;omega, R2, K2⟩
   case measure => simp [intOf];omega
  ·have hjn : j = n := by omega
   subst hjn;rw [← hx, mk1_all] at R;go_wp2;go_ret
   exact ⟨rfl, by rw [← hx];exact R, hK⟩
theorem heldInts_any {o : Bool} {lo hi : Nat} (ao : Option Addr) (n cap : Nat) (k : Int) (w : World) (h : RowAt w o lo hi 1 ao n cap (ints (marks k n))) (hn : n ≤ 4194304) (hk0 : 0 ≤ k) (hk1 : k ≤ 16777216) :
  Calls Tryz.prog 110 #[.slice ao n cap, .int .i64 k] w fun e w' => e = .returned (.int .i64 (k + n)) ∧ w' = w := by
 go_enter Tryz.func110, Tryz.ntmps110
 go_wp2
 go_loop [1, 5] (fun v i => ∃ j : Nat, j ≤ n ∧ i = .int .i64 j ∧ v = .int .i64 (k + j)) (fun _ i => n - (intOf i).toNat)
 case atStart => exact ⟨0, Nat.zero_le _, rfl, by simp⟩
 case round =>
  obtain ⟨j, hj, rfl, rfl⟩ := hrel
  by_cases hlt : j < n
  ·obtain ⟨b, off, rfl, hlo, hhi, hbs, hc, hf0⟩ := h.int hlt
   rw [marks_getD k n j hlt] at hc
   have he : ((k + (j : Int)) != (k + (j : Int))) = false := by simp
   have hl : (j : Int) < n := by omega
   clear hf0;go_wp2
   go_round
   case rel => exact ⟨j + 1, by omega, by go_num, by simp;omega⟩
   case measure => simp [intOf];omega
  ·have hjn : j = n := by omega
   subst hjn;go_wp2;go_ret;exact ⟨rfl, rfl⟩
theorem eqInts_any {o1 o2 : Bool} {l1 u1 l2 u2 : Nat} (a1 a2 : Option Addr) (n1 c1 n2 c2 : Nat) (xs ys : List Int) (w : World) (h1 : RowAt w o1 l1 u1 1 a1 n1 c1 (ints xs)) (h2 : RowAt w o2 l2 u2 1 a2 n2 c2 (ints ys)) (hn : n1 ≤ 2097152) (hm : n2 ≤ 2097152) :
  Calls Tryz.prog 106 #[.slice a1 n1 c1, .slice a2 n2 c2] w fun e w' => e = .returned (.bool (decide (xs = ys))) ∧ Below w.heap.size w w' := by
 have hx := h1.nInts;have hy := h2.nInts
 by_cases hne : n1 = n2
 ·subst hne
  have hb0 : ((n1 : Int) != (n1 : Int)) = false := by simp
  go_enter Tryz.func106, Tryz.ntmps106
  go_wp2
  go_loopw [5] (fun i wr => ∃ k : Nat, k ≤ n1 ∧ i = .int .i64 k ∧ (∀ j, j < k → xs.getD j 0 = ys.getD j 0) ∧ Below w.heap.size w wr) (fun i _ => n1 - (intOf i).toNat)
  case atStart => exact ⟨0, Nat.zero_le _, rfl, fun j hj => absurd hj (Nat.not_lt_zero _), Below.refl _ _⟩
  case round =>
   obtain ⟨k, hk, rfl, hall0, hb⟩ := hrel
   have HA : Hid _ := hall0
   clear hall0
   by_cases hlt : k < n1
   ·obtain ⟨b1, o1, rfl, _, _, hs1, e1, _⟩ := h1.int hlt
    obtain ⟨b2, o2, rfl, _, _, hs2, e2, _⟩ := h2.int hlt
    have g1 : wr.cell? ⟨b1, o1 + k, none⟩ = some (.int .i64 (xs.getD k 0)) := (hb.cell (p := ⟨b1, o1 + k, none⟩) hs1).trans e1
    have g2 : wr.cell? ⟨b2, o2 + k, none⟩ = some (.int .i64 (ys.getD k 0)) := (hb.cell (p := ⟨b2, o2 + k, none⟩) hs2).trans e2
    clear e1 e2
    by_cases hxy : xs.getD k 0 = ys.getD k 0
    ·have HX : Hid _ := hxy
     rw [hxy] at g1;clear hxy
     have hl : (k : Int) < (n1 : Int) := by omega
     generalize ys.getD k 0 = y at g1 g2
     have hyy : (y != y) = false := by simp
     go_wp2_with fail
     go_quiet (fail)
     go_wp2
     go_roundw
     case rel =>
      refine ⟨k + 1, by omega, by go_num, fun j hj => ?_, below_drewN hb _⟩
      by_cases e : j = k
      ·rw [e];exact HX.out
      ·exact HA.out j (by omega)
     case measure => simp [intOf];omega
    ·have hl : (k : Int) < (n1 : Int) := by omega
     have hne : ¬ xs = ys := fun e => hxy (by rw [e])
     have HN : Hid _ := hne
     clear hne;generalize ys.getD k 0 = y at *;generalize xs.getD k 0 = x at *
     have hyy : (x != y) = true := by simp [hxy]
     clear hxy;go_wp2_with fail
     go_quiet (fail)
     go_wp2;go_ret;exact ⟨ret_bool (decide_eq_false HN.out).symm, below_drewN hb _⟩
   ·go_wp2;go_ret;have hall := HA.out
    rw [show k = n1 by omega] at hall
    exact ⟨ret_bool (decide_eq_true (eq_getD hx hy hall)).symm, hb⟩
 ·have hb0 : ((n1 : Int) != (n2 : Int)) = true := by simp;omega
  have hne' : ¬ xs = ys := fun e => hne (by rw [← hx, ← hy, e])
  go_enter Tryz.func106, Tryz.ntmps106
  go_wp2;go_ret;exact ⟨ret_bool (decide_eq_false hne').symm, Below.refl _ _⟩
theorem eqInts_is {o1 o2 : Bool} {l1 u1 l2 u2 : Nat} (a1 a2 : Option Addr) (n1 c1 n2 c2 : Nat) (xs ys : List Int) (w : World) (h1 : RowAt w o1 l1 u1 1 a1 n1 c1 (ints xs)) (h2 : RowAt w o2 l2 u2 1 a2 n2 c2 (ints ys)) (hn : n1 ≤ 2097152) (hm : n2 ≤ 2097152) (d : Bool) (hd : decide (xs = ys) = d) :
  Calls Tryz.prog 106 #[.slice a1 n1 c1, .slice a2 n2 c2] w fun e w' => e = .returned (.bool d) ∧ Below w.heap.size w w' := by
 rw [← hd];exact eqInts_any a1 a2 n1 c1 n2 c2 xs ys w h1 h2 hn hm
theorem l1In_any (x a b : Int) (w : World) : Calls Tryz.prog 75 #[.int .i64 x, .int .i64 a, .int .i64 b] w fun e w' => e = .returned (.bool (decide (a ≤ x ∧ x ≤ b))) ∧ w' = w := by
 by_cases h : a ≤ x <;> by_cases h2 : x ≤ b
 all_goals
  go_enter Tryz.func75, Tryz.ntmps75
  go_wp2;go_ret
  exact ⟨by simp [h, h2], rfl⟩
theorem szInts_any (ao : Option Addr) (n cap : Nat) (l : Int) (w : World) (hn : n ≤ maxLen) (h0 : 0 ≤ l) (h1 : l ≤ 1048576) :
  Calls Tryz.prog 82 #[.slice ao n cap, .int .i64 l] w fun e w' => e = .returned (.int .i64 (if l < n then -1 else l - n)) ∧ w' = w := by
 unfold maxLen at hn
 by_cases h : l < n
 all_goals
  go_enter Tryz.func82, Tryz.ntmps82
  go_wp2;go_ret
  exact ⟨by simp, rfl⟩
end Go.Proofs.YtclghfoinologaaGreat
