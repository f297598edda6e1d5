/- Short names for the steps of a region that draws its order and is walked by hand. No program is named here. -/
import Derived.WalkKit
import Derived.WalkSpells
import Derived.Deep.Draws
import Derived.Deep.MidRow
import Derived.OrdersHeld
import Derived.Test.YtjefmhjlaibbkaaChecked
import Derived.WalkLawsBesides
import Derived.Deep.QuietTactic
import Derived.BigQuiet
import Derived.Deep.RegionHeld3
import Derived.Deep.WholeRow
import Derived.Deep.AppendSrc
import Derived.Maps.AppendAt
set_option maxRecDepth 20000
set_option maxHeartbeats 16000000
namespace Go.Proofs.Ytjefmhjlaibbkaa
open Go.RowKit
theorem la {α : Type _} (l : List α) (i : Nat) (a : α) : l.toArray.setIfInBounds i a = (l.set i a).toArray := List.setIfInBounds_toArray l i a
theorem lb {α : Type _} {x : α} {xs : List α} {a : α} : (x :: xs).set 0 a = a :: xs := rfl
theorem lc {α : Type _} {x : α} {xs : List α} {i : Nat} {a : α} : (x :: xs).set (i + 1) a = x :: xs.set i a := rfl
theorem ld {α : Type _} {xs : List α} {i : Nat} (h : i < xs.toArray.size) : xs.toArray[i] = xs[i] := rfl
theorem le' {α : Type _} (a : α) (l : List α) (h : 0 < (a :: l).length) : (a :: l)[0] = a := rfl
theorem lf' {α : Type _} (a : α) (l : List α) (i : Nat) (h : i + 1 < (a :: l).length) : (a :: l)[i + 1] = l[i]'(Nat.lt_of_succ_lt_succ h) := rfl
theorem tk {P : Program} {ops : Array Oper} {Q : Exit → Act → World → Prop} {md : Region.Mode} {S : World → Prop} (i : Nat) {oi : Oper} {v : Value} {fuel : Nat} {listed l' : Array Bool} {a a' : Act} {w : World} (hS : S w) (h : wpAnyH P md ops Q S fuel l' a' w) (hi : ops[i]? = some oi := by rfl)
  (hs : Region.noSelect ops = true := by kernel_rfl) (hf : Region.free md ops listed i = true := by kernel_rfl) (hr : (Region.ready md ops listed).contains i = true := by kernel_rfl)
  (hQ : ∀ c a w, Q (.panic c) (a.put oi.dst v) w → Q (.panic c) a w := by exact fun _ _ _ h => h) (hw : Region.wanted oi (yielded ops a.tmps) = true := by rfl) (hv : ∀ w, S w → (execOp a.eval oi).run P w = .ok (.value v) w := by (intro w hSw; (try dsimp only at hSw); first | (go_simp; done) | (go_simp; with_reducible rfl)))
  (hl : listed.setIfInBounds i true = l' := by first | (simp only [la, lb, lc]; rfl) | rfl) (ha : a.put oi.dst v = a' := by first | (simp only [Act.put, la, lb, lc, ld, le', lf']; rfl) | rfl) : wpAnyH P md ops Q S (fuel + 1) listed a w := by
 subst hl ha
 exact wpAnyH_take hi hs hf hr hQ (Or.inl ⟨hw, hv⟩) hS h
theorem tks {P : Program} {ops : Array Oper} {Q : Exit → Act → World → Prop} {md : Region.Mode} {S : World → Prop} (i : Nat) {oi : Oper} {fuel : Nat} {listed l' : Array Bool} {a a' : Act} {w : World} (hS : S w) (h : wpAnyH P md ops Q S fuel l' a' w) (hi : ops[i]? = some oi := by rfl)
  (hs : Region.noSelect ops = true := by kernel_rfl) (hf : Region.free md ops listed i = true := by kernel_rfl) (hr : (Region.ready md ops listed).contains i = true := by kernel_rfl)
  (hQ : ∀ c a w, Q (.panic c) (a.put oi.dst undef) w → Q (.panic c) a w := by exact fun _ _ _ h => h) (hw : Region.wanted oi (yielded ops a.tmps) = false := by rfl)
  (hl : listed.setIfInBounds i true = l' := by first | (simp only [la, lb, lc]; rfl) | rfl) (ha : a.put oi.dst undef = a' := by first | (simp only [Act.put, la, lb, lc, ld, le', lf']; rfl) | rfl) : wpAnyH P md ops Q S (fuel + 1) listed a w := by
 subst hl ha
 exact wpAnyH_take hi hs hf hr hQ (Or.inr ⟨hw, rfl⟩) hS h
structure RowAt (w : World) (own : Bool) (lo hi : Nat) (size : Nat) (ao : Option Addr) (n cap : Nat) (cs : List Value) : Prop where
 len : cs.length = n * size
 le : n ≤ cap
 cells : n ≠ 0 → ∃ b off, ao = some ⟨b, off, none⟩ ∧ lo ≤ b ∧ b < hi ∧ b < w.heap.size ∧ (∀ i, i < n * size → w.cell? ⟨b, off + i, none⟩ = some (cs.getD i default)) ∧ (own = true → ∀ i, i < n * size → w.frozen? ⟨b, off + i, none⟩ = false)
structure Kept (lo hi : Nat) (w w' : World) : Prop where
 os : w'.os = w.os
 tape : w'.tape = w.tape
 output : w'.output = w.output
 size : w.heap.size ≤ w'.heap.size
 block : ∀ k, k < w.heap.size → (k < lo ∨ hi ≤ k) → w'.heap[k]? = w.heap[k]?
theorem Kept.refl (lo hi : Nat) (w : World) : Kept lo hi w w := ⟨rfl, rfl, rfl, Nat.le_refl _, fun _ _ _ => rfl⟩
theorem Kept.trans {lo hi : Nat} {a b c : World} (h : Kept lo hi a b) (k : Kept lo hi b c) : Kept lo hi a c :=
 ⟨k.os.trans h.os, k.tape.trans h.tape, k.output.trans h.output, Nat.le_trans h.size k.size, fun i hi ho => (k.block i (Nat.lt_of_lt_of_le hi h.size) ho).trans (h.block i hi ho)⟩
theorem Kept.of_below {lo hi : Nat} {w w' : World} (h : Below w.heap.size w w') : Kept lo hi w w' := ⟨h.os, h.tape, h.output, h.size, fun k hk _ => h.block k hk⟩
theorem Kept.below {lo hi : Nat} {w w' : World} (h : Kept lo hi w w') (B : Nat) (h1 : B ≤ lo) (h2 : B ≤ w.heap.size) : Below B w w' :=
 ⟨h.os, h.tape, h.output, h.size, fun k hk => h.block k (by omega) (Or.inl (by omega))⟩
theorem RowAt.kept {w w' : World} {own : Bool} {lo hi size : Nat} {ao : Option Addr} {n cap : Nat} {cs : List Value} (h : RowAt w own lo hi size ao n cap cs) {l u : Nat} (hk : Kept l u w w') (hd : hi ≤ l ∨ u ≤ lo) : RowAt w' own lo hi size ao n cap cs := by
 refine ⟨h.len, h.le, fun hn => ?_⟩
 obtain ⟨b, off, rfl, h1, h2, h3, h4, h5⟩ := h.cells hn
 have hb : w'.heap[b]? = w.heap[b]? := hk.block b h3 (by omega)
 refine ⟨b, off, rfl, h1, h2, Nat.lt_of_lt_of_le h3 hk.size, fun i hi => ?_, fun ho i hi => ?_⟩
 ·rw [World.cell?_of_block (w := w) (a := ⟨b, off + i, none⟩) hb]; exact h4 i hi
 ·rw [World.frozen?_of_block (w := w) (a := ⟨b, off + i, none⟩) hb]; exact h5 ho i hi
theorem RowAt.below {w w' : World} {own : Bool} {lo hi size : Nat} {ao : Option Addr} {n cap : Nat} {cs : List Value} (h : RowAt w own lo hi size ao n cap cs) (hk : Below w.heap.size w w') : RowAt w' own lo hi size ao n cap cs :=
 h.kept (l := hi) (u := hi) (Kept.of_below hk) (Or.inl (Nat.le_refl _))
theorem RowAt.widen {w : World} {own : Bool} {lo hi size : Nat} {ao : Option Addr} {n cap : Nat} {cs : List Value} (h : RowAt w own lo hi size ao n cap cs) {lo' hi' : Nat} (h1 : lo' ≤ lo) (h2 : hi ≤ hi') : RowAt w own lo' hi' size ao n cap cs := by
 refine ⟨h.len, h.le, fun hn => ?_⟩
 obtain ⟨b, off, rfl, g1, g2, g3, g4, g5⟩ := h.cells hn
 exact ⟨b, off, rfl, by omega, by omega, g3, g4, g5⟩
def ints (xs : List Int) : List Value := xs.map (Value.int .i64)
def pairs (xs : List (Int × Int)) : List Value := xs.flatMap fun p => [Value.int .i64 p.1, Value.int .i64 p.2]
theorem ints_length (xs : List Int) : (ints xs).length = xs.length := by simp [ints]
theorem ints_getD (xs : List Int) (i : Nat) (h : i < xs.length) : (ints xs).getD i default = .int .i64 (xs.getD i 0) := by
 simp [ints, List.getD, h]
theorem RowAt.int {w : World} {own : Bool} {lo hi : Nat} {ao : Option Addr} {n cap : Nat} {xs : List Int} (h : RowAt w own lo hi 1 ao n cap (ints xs)) {k : Nat} (hk : k < n) :
  ∃ b off, ao = some ⟨b, off, none⟩ ∧ lo ≤ b ∧ b < hi ∧ b < w.heap.size ∧ w.cell? ⟨b, off + k, none⟩ = some (.int .i64 (xs.getD k 0)) ∧ (own = true → w.frozen? ⟨b, off + k, none⟩ = false) := by
 obtain ⟨b, off, rfl, g1, g2, g3, g4, g5⟩ := h.cells (by omega)
 have hl := h.len
 rw [ints_length, Nat.mul_one] at hl
 refine ⟨b, off, rfl, g1, g2, g3, ?_, fun ho => g5 ho k (by omega)⟩
 rw [g4 k (by omega), ints_getD xs k (by omega)]
theorem RowAt.nInts {w : World} {own : Bool} {lo hi : Nat} {ao : Option Addr} {n cap : Nat} {xs : List Int} (h : RowAt w own lo hi 1 ao n cap (ints xs)) : xs.length = n := by
 have hl := h.len; rw [ints_length, Nat.mul_one] at hl; exact hl
theorem RowAt.of_owns {w : World} {base : Nat} {e : TypeId} {size : Nat} {g n cap : Nat} {cs : List Value} (h : w.ownsRow base e size (.slice (some ⟨g, 0, none⟩) n cap) n cs) (hc : n ≤ cap) : RowAt w true base w.heap.size size (some ⟨g, 0, none⟩) n cap cs := by
 have hlt := h.lt g rfl
 refine ⟨h.1, hc, fun _ => ⟨g, 0, rfl, hlt.1, hlt.2, hlt.2, fun i hi => ?_, fun _ i _ => ?_⟩⟩
 ·rw [Nat.zero_add, h.cellAt i hi]
  have : i < cs.length := by rw [h.1]; exact hi
  simp [List.getD, this]
 ·rw [Nat.zero_add]
  exact h.frozenAt i
def cop (cs : List Value) (z : Value) (m : Nat) : List Value := cs.take m ++ List.replicate (cs.length - m) z
theorem cop_zero (cs : List Value) (z : Value) : cop cs z 0 = List.replicate cs.length z := by simp [cop]
theorem cop_all (cs : List Value) (z : Value) : cop cs z cs.length = cs := by simp [cop]
theorem cop_set (cs : List Value) (z v : Value) (m : Nat) (h : m < cs.length) (hv : cs.getD m default = v) : (cop cs z m).set m v = cop cs z (m + 1) := by
 have e : cs.length - m = (cs.length - (m + 1)) + 1 := by omega
 have hl : (cs.take m).length = m := by simp; omega
 have hv' : v = cs[m] := by rw [← hv]; simp [List.getD, h]
 unfold cop
 rw [e, List.replicate_succ, List.set_append, if_neg (by omega), hl, Nat.sub_self, List.set_cons_zero, List.take_succ_eq_append_getElem h, List.append_assoc, hv']
 rfl
theorem cop_get (cs : List Value) (z : Value) (m i : Nat) (hm : m ≤ i) (h : i < cs.length) : (cop cs z m)[i]? = some z := by
 unfold cop
 rw [List.getElem?_append_right (by simp; omega), List.getElem?_replicate, if_pos (by simp; omega)]
theorem owns_below {w w' : World} {base : Nat} {e : TypeId} {size : Nat} {v : Value} {n : Nat} {xs : List Value} (h : w.ownsRow base e size v n xs) (hb : Below w.heap.size w w') : w'.ownsRow base e size v n xs := by
 refine ⟨h.1, ?_⟩
 rcases h.2 with h2 | ⟨g, cap, cur, hv, hg, hh, r⟩
 ·exact Or.inl h2
 ·have hlt : g < w.heap.size := by
   by_cases hlt : g < w.heap.size
   ·exact hlt
   ·rw [Array.getElem?_eq_none (by omega)] at hh; cases hh
  exact Or.inr ⟨g, cap, cur, hv, hg, by rw [hb.block g hlt]; exact hh, r⟩
theorem owns_lt {w : World} {base : Nat} {e : TypeId} {size : Nat} {g n cap m : Nat} {xs : List Value} (h : w.ownsRow base e size (.slice (some ⟨g, 0, none⟩) n cap) m xs) : base ≤ g ∧ g < w.heap.size := h.lt g rfl
theorem below_step {B : Nat} {w a b : World} (h : Below B w a) (hB : B ≤ a.heap.size) (k : Below a.heap.size a b) : Below B w b := h.trans (k.mono hB)
theorem ret_bool {a b : Bool} (h : a = b) : Ending.returned (.bool a) = .returned (.bool b) := by rw [h]
theorem ret_int {k : IntKind} {a b : Int} (h : a = b) : Ending.returned (.int k a) = .returned (.int k b) := by rw [h]
theorem below_drewN {B : Nat} {a w : World} (h : Below B a w) (n : Nat) : Below B a (w.drewN n) := ⟨h.os, h.tape, h.output, h.size, h.block⟩
theorem eq_getD {α : Type} {xs ys : List α} {d : α} {n : Nat} (hx : xs.length = n) (hy : ys.length = n) (h : ∀ j, j < n → xs.getD j d = ys.getD j d) : xs = ys := by
 apply List.ext_getElem (by omega)
 intro i h1 h2
 have := h i (by omega)
 simpa [List.getD, h1, h2] using this
theorem below_next {w a b : World} (h : Below w.heap.size w a) (k : Below a.heap.size a b) : Below w.heap.size w b := h.trans (k.mono h.size)
theorem Kept.setCell {lo hi : Nat} {a w : World} (h : Kept lo hi a w) {p : Addr} (h1 : lo ≤ p.block) (h2 : p.block < hi) (u : Value) : Kept lo hi a (w.setCell p u) :=
 h.trans ⟨rfl, rfl, rfl, by simp [World.setCell], fun k _ ho => Below.heap_setCell _ _ _ _ (by omega)⟩
theorem Kept.setCells {lo hi : Nat} {a w : World} (h : Kept lo hi a w) {b : Nat} (h1 : lo ≤ b) (h2 : b < hi) : ∀ (vs : List Value) (o : Nat), Kept lo hi a (w.setCells b o vs) := by
 intro vs
 induction vs generalizing w with
 | nil => intro o; exact h
 | cons v r ih =>
  intro o
  rw [World.setCells]
  exact ih (h.setCell (p := ⟨b, o, none⟩) h1 h2 v) (o + 1)
theorem RowAt.nil (w : World) (own : Bool) (lo hi size : Nat) : RowAt w own lo hi size none 0 0 [] := ⟨by simp, Nat.le_refl _, fun h => absurd rfl h⟩
theorem frozen_later {W w1 : World} {b o : Nat} (hb : Below W.heap.size W w1) (h : b < W.heap.size) (hf : W.frozen? ⟨b, o, none⟩ = false) : w1.frozen? ⟨b, o, none⟩ = false := (hb.frozen (p := ⟨b, o, none⟩) h).trans hf
theorem Try.info2' : (Try.prog.info? 2).map (fun i => (i.zero, i.size, i.bytes)) = some (some (.int .i64 0), 1, 8) := by kernel_rfl
structure DiskAt (w : World) (lo hi : Nat) (a0 : Option Addr) (n0 c0 : Nat) (a1 : Option Addr) (n1 c1 : Nat) (xs : List Int) (ys : List (Int × Int)) : Prop where
 parts : ∃ mid, lo ≤ mid ∧ mid ≤ hi ∧ RowAt w true lo mid 1 a0 n0 c0 (ints xs) ∧ RowAt w true mid hi 2 a1 n1 c1 (pairs ys)
def marks (k : Int) (n : Nat) : List Int := (List.range n).map fun (i : Nat) => k + (i : Int)
theorem RowAt.stored {w : World} {lo hi size : Nat} {b off n cap : Nat} {cs : List Value} (h : RowAt w true lo hi size (some ⟨b, off, none⟩) n cap cs) {i : Nat} (hi' : i < n * size) (v : Value) :
  RowAt (w.setCell ⟨b, off + i, none⟩ v) true lo hi size (some ⟨b, off, none⟩) n cap (cs.set i v) := by
 refine ⟨by rw [List.length_set]; exact h.len, h.le, fun hn => ?_⟩
 obtain ⟨b', off', e, g1, g2, g3, g4, g5⟩ := h.cells hn
 simp only [Option.some.injEq, Addr.mk.injEq, and_true] at e
 obtain ⟨rfl, rfl⟩ := e
 refine ⟨b, off, rfl, g1, g2, by simpa [World.setCell] using g3, fun j hj => ?_, fun ho j hj => ?_⟩
 ·have hl := h.len
  by_cases e : j = i
  ·subst e
   rw [World.cell?_setCell_same _ _ _ (g4 j hj)]
   simp [List.getD, show j < cs.length by omega]
  ·rw [World.cell?_setCell_other _ _ _ _ (by intro h; simp at h <;> omega), g4 j hj]
   simp [List.getD, show ¬ i = j by omega]
 ·rw [World.frozen?_setCell]; exact g5 ho j hj
theorem eqInts_any {o1 o2 : Bool} {l1 u1 l2 u2 : Nat} (a1 a2 : Option Addr) (n1 c1 n2 c2 : Nat) (xs ys : List Int) (w : World) (h1 : RowAt w o1 l1 u1 1 a1 n1 c1 (ints xs)) (h2 : RowAt w o2 l2 u2 1 a2 n2 c2 (ints ys)) (hn : n1 ≤ 2097152) (hm : n2 ≤ 2097152) :
  Calls Try.prog 106 #[.slice a1 n1 c1, .slice a2 n2 c2] w fun e w' => e = .returned (.bool (decide (xs = ys))) ∧ Below w.heap.size w w' := by
 have hx := h1.nInts
 have hy := h2.nInts
 by_cases hne : n1 = n2
 ·subst hne
  have hb0 : ((n1 : Int) != (n1 : Int)) = false := by simp
  go_enter Try.func106, Try.ntmps106
  go_wp2
  go_loopw [5] (fun i wr => ∃ k : Nat, k ≤ n1 ∧ i = .int .i64 k ∧ (∀ j, j < k → xs.getD j 0 = ys.getD j 0) ∧ Below w.heap.size w wr) (fun i _ => n1 - (intOf i).toNat)
  case atStart => exact ⟨0, Nat.zero_le _, rfl, fun j hj => absurd hj (Nat.not_lt_zero _), Below.refl _ _⟩
  case round =>
   obtain ⟨k, hk, rfl, hall0, hb⟩ := hrel
   have HA : Hid _ := hall0
   clear hall0
   by_cases hlt : k < n1
   ·obtain ⟨b1, o1, rfl, _, _, hs1, e1, _⟩ := h1.int hlt
    obtain ⟨b2, o2, rfl, _, _, hs2, e2, _⟩ := h2.int hlt
    have g1 : wr.cell? ⟨b1, o1 + k, none⟩ = some (.int .i64 (xs.getD k 0)) := (hb.cell (p := ⟨b1, o1 + k, none⟩) hs1).trans e1
    have g2 : wr.cell? ⟨b2, o2 + k, none⟩ = some (.int .i64 (ys.getD k 0)) := (hb.cell (p := ⟨b2, o2 + k, none⟩) hs2).trans e2
    clear e1 e2
    by_cases hxy : xs.getD k 0 = ys.getD k 0
    ·have HX : Hid _ := hxy
     rw [hxy] at g1
     clear hxy
     have hl : (k : Int) < (n1 : Int) := by omega
     generalize ys.getD k 0 = y at g1 g2
     have hyy : (y != y) = false := by simp
     go_wp2_with fail
     go_quiet (fail)
     go_wp2
     go_roundw
     case rel =>
      refine ⟨k + 1, by omega, by go_num, fun j hj => ?_, below_drewN hb _⟩
      by_cases e : j = k
      ·rw [e]; exact HX.out
      ·exact HA.out j (by omega)
     case measure => simp [intOf]; omega
    ·have hl : (k : Int) < (n1 : Int) := by omega
     have hne : ¬ xs = ys := fun e => hxy (by rw [e])
     have HN : Hid _ := hne
     clear hne
     generalize ys.getD k 0 = y at *
     generalize xs.getD k 0 = x at *
     have hyy : (x != y) = true := by simp [hxy]
     clear hxy
     go_wp2_with fail
     go_quiet (fail)
     go_wp2
     go_ret
     exact ⟨ret_bool (decide_eq_false HN.out).symm, below_drewN hb _⟩
   ·go_wp2
    go_ret
    have hall := HA.out
    rw [show k = n1 by omega] at hall
    exact ⟨ret_bool (decide_eq_true (eq_getD hx hy hall)).symm, hb⟩
 ·have hb0 : ((n1 : Int) != (n2 : Int)) = true := by simp; omega
  have hne' : ¬ xs = ys := fun e => hne (by rw [← hx, ← hy, e])
  go_enter Try.func106, Try.ntmps106
  go_wp2
  go_ret
  exact ⟨ret_bool (decide_eq_false hne').symm, Below.refl _ _⟩
theorem eqInts_is {o1 o2 : Bool} {l1 u1 l2 u2 : Nat} (a1 a2 : Option Addr) (n1 c1 n2 c2 : Nat) (xs ys : List Int) (w : World) (h1 : RowAt w o1 l1 u1 1 a1 n1 c1 (ints xs)) (h2 : RowAt w o2 l2 u2 1 a2 n2 c2 (ints ys)) (hn : n1 ≤ 2097152) (hm : n2 ≤ 2097152) (d : Bool) (hd : decide (xs = ys) = d) :
  Calls Try.prog 106 #[.slice a1 n1 c1, .slice a2 n2 c2] w fun e w' => e = .returned (.bool d) ∧ Below w.heap.size w w' := by
 rw [← hd]; exact eqInts_any a1 a2 n1 c1 n2 c2 xs ys w h1 h2 hn hm
theorem l1In_any (x a b : Int) (w : World) : Calls Try.prog 62 #[.int .i64 x, .int .i64 a, .int .i64 b] w fun e w' => e = .returned (.bool (decide (a ≤ x ∧ x ≤ b))) ∧ w' = w := by
 by_cases h : a ≤ x <;> by_cases h2 : x ≤ b
 all_goals
  go_enter Try.func62, Try.ntmps62
  go_wp2
  go_ret
  exact ⟨by simp [h, h2], rfl⟩
theorem szInts_any (ao : Option Addr) (n cap : Nat) (l : Int) (w : World) (hn : n ≤ maxLen) (h0 : 0 ≤ l) (h1 : l ≤ 1048576) :
  Calls Try.prog 93 #[.slice ao n cap, .int .i64 l] w fun e w' => e = .returned (.int .i64 (if l < n then -1 else l - n)) ∧ w' = w := by
 unfold maxLen at hn
 by_cases h : l < n
 all_goals
  go_enter Try.func93, Try.ntmps93
  go_wp2
  go_ret
  exact ⟨by simp, rfl⟩
def refsB (x : Int) : Bool := decide (0 ≤ x ∧ x ≤ 200)
def dataB (x : Int) : Bool := decide (0 ≤ x ∧ x ≤ 255)
def blkOne (p : Int × Int) : Int := if refsB p.1 && dataB p.2 then (if p.1 = 0 ∧ p.2 ≠ 0 then 1 else 0) else 3
def blkGo : List (Int × Int) → Int
 | [] => 0
 | p :: r => if blkOne p = 0 then blkGo r else blkOne p
def blkFault (bs : List (Int × Int)) : Int := if 24 < bs.length then 2 else blkGo bs
def freeAt : List (Int × Int) → Option Nat
 | [] => none
 | p :: r => if p.1 = 0 then some 0 else (freeAt r).map (· + 1)
def freeN (bs : List (Int × Int)) : Nat := (bs.filter fun p => decide (p.1 = 0)).length
def takeCode (bs : List (Int × Int)) (x : Int) : Int := if blkFault bs = 0 then (if dataB x then (if freeAt bs = none then 8 else 0) else 3) else blkFault bs
def takeAt (bs : List (Int × Int)) (x : Int) : Nat := if takeCode bs x = 0 then (freeAt bs).getD 0 else 0
def takeList (bs : List (Int × Int)) (x : Int) : List (Int × Int) := if takeCode bs x = 0 then bs.set ((freeAt bs).getD 0) (1, x) else []
def askCode (bs : List (Int × Int)) (at' : Int) : Int := if blkFault bs = 0 then (if 0 ≤ at' ∧ at' ≤ (bs.length : Int) - 1 then (if (bs.getD at'.toNat (0, 0)).1 = 0 then 4 else 0) else 3) else blkFault bs
def shareCode (bs : List (Int × Int)) (at' : Int) : Int := if askCode bs at' = 0 then (if 200 ≤ (bs.getD at'.toNat (0, 0)).1 then 2 else 0) else askCode bs at'
def more1 (p : Int × Int) : Int × Int := (p.1 + 1, p.2)
def less1 (p : Int × Int) : Int × Int := (p.1 - 1, if p.1 - 1 = 0 then 0 else p.2)
def shareList (bs : List (Int × Int)) (at' : Int) : List (Int × Int) := if shareCode bs at' = 0 then bs.set at'.toNat (more1 (bs.getD at'.toNat (0, 0))) else []
def dropList (bs : List (Int × Int)) (at' : Int) : List (Int × Int) := if askCode bs at' = 0 then bs.set at'.toNat (less1 (bs.getD at'.toNat (0, 0))) else []
def newBCode (n : Int) : Int := if 0 ≤ n ∧ n ≤ 24 then 0 else 3
def newBList (n : Int) : List (Int × Int) := if newBCode n = 0 then List.replicate n.toNat (0, 0) else []
structure Taken (bs : List (Int × Int)) (x : Int) (k : Nat) : Prop where
 fr : freeAt bs = some k
 lt : k < bs.length
 was : bs.getD k (0, 0) = (0, 0)
 f0 : blkFault bs = 0
 at' : takeAt bs x = k
 li : takeList bs x = bs.set k (1, x)
 f1 : blkFault (bs.set k (1, x)) = 0
 sc : shareCode (bs.set k (1, x)) (k : Int) = 0
 sl : shareList (bs.set k (1, x)) (k : Int) = bs.set k (2, x)
 ac : askCode (bs.set k (2, x)) (k : Int) = 0
 dl : dropList (bs.set k (2, x)) (k : Int) = bs.set k (1, x)
 ad : askCode (bs.set k (1, x)) (k : Int) = 0
 el : dropList (bs.set k (1, x)) (k : Int) = bs
 fn : (freeN (bs.set k (1, x)) : Int) = (freeN bs : Int) - 1
 n0 : newBCode (bs.length : Int) = 0
 n1 : (newBList (bs.length : Int)).length = bs.length
abbrev Nd := Int × Bool × List Int
abbrev Fo := List Nd × List (Int × Int)
def nd0 : Nd := (0, false, [])
def nodeOf (f : Fo) (i : Nat) : Nd := f.1.getD i nd0
def blockOf (f : Fo) (i : Nat) : Int × Int := f.2.getD i (0, 0)
def namesOf (nd : Nd) (leaf : Bool) (at' : Int) : Nat := if nd.1 = 0 ∨ nd.2.1 ≠ leaf then 0 else nd.2.2.count at'
def namedIn (ns : List Nd) (leaf : Bool) (at' : Int) : Nat := (ns.map fun nd => namesOf nd leaf at').sum
def named (f : Fo) (leaf : Bool) (at' : Int) : Nat := namedIn f.1 leaf at'
def spotB (x : Int) : Bool := decide (0 ≤ x ∧ x ≤ 15)
def leafAt (f : Fo) (root at' : Int) : Int := if root < 0 then -1 else (nodeOf f root.toNat).2.2.getD (at'.toNat / 4) 0
def blockAt (f : Fo) (root at' : Int) : Int := if leafAt f root at' < 0 then -1 else (nodeOf f (leafAt f root at').toNat).2.2.getD (at'.toNat % 4) 0
def lessB (bs : List (Int × Int)) (i : Nat) : List (Int × Int) := bs.set i (less1 (bs.getD i (0, 0)))
def lessKids (bs : List (Int × Int)) (ks : List Int) : List (Int × Int) := ks.foldl (fun bs k => if k < 0 then bs else lessB bs k.toNat) bs
def lessLeaf (f : Fo) (i : Nat) : Fo :=
 if 0 < (nodeOf f i).1 - 1 then (f.1.set i ((nodeOf f i).1 - 1, (nodeOf f i).2), f.2)
 else (f.1.set i ((nodeOf f i).1 - 1, false, []), lessKids f.2 (nodeOf f i).2.2)
def lessLeaves (f : Fo) (ks : List Int) : Fo := ks.foldl (fun f k => if k < 0 then f else lessLeaf f k.toNat) f
def noneOf (ks : List Int) : Bool := ks.all fun k => decide (k < 0)
def withKid (ks : List Int) (i : Nat) (k : Int) : List Int := (ks ++ [-1, -1, -1, -1].drop ks.length).set i k
def OkKid (f : Fo) (leaf : Bool) (k : Int) : Prop := k = -1 ∨ (0 ≤ k ∧ if leaf = true then k.toNat < f.2.length ∧ 0 < (blockOf f k.toNat).1 else k.toNat < f.1.length ∧ 0 < (nodeOf f k.toNat).1 ∧ (nodeOf f k.toNat).2.1 = true)
structure NdOk (f : Fo) (nd : Nd) : Prop where
 r0 : 0 ≤ nd.1
 r1 : nd.1 ≤ 200
 z : nd.1 = 0 → nd = nd0
 kl : nd.1 ≠ 0 → nd.2.2.length = 4
 ks : nd.1 ≠ 0 → ∀ k ∈ nd.2.2, OkKid f nd.2.1 k
 so : nd.1 ≠ 0 → ∃ k ∈ nd.2.2, 0 ≤ k
structure Inv (f : Fo) : Prop where
 nb : f.2.length ≤ 24
 nn : f.1.length ≤ 60
 nd : ∀ i, NdOk f (nodeOf f i)
 bk : ∀ j, blkOne (blockOf f j) = 0
def ext (f : Fo) (i : Nat) : Int := (nodeOf f i).1 - (named f false i : Int)
def extB (f : Fo) (j : Nat) : Int := (blockOf f j).1 - (named f true j : Int)
structure Right (f : Fo) : Prop where
 inv : Inv f
 bl : ∀ j, j < f.2.length → extB f j = 0
 le : ∀ i, i < f.1.length → (nodeOf f i).2.1 = true → 0 ≤ ext f i
structure Less (f f' : Fo) : Prop where
 inv : Inv f'
 ln : f'.1.length = f.1.length
 lb : f'.2.length = f.2.length
 nd : ∀ m, (nodeOf f' m).1 ≠ 0 → (nodeOf f m).1 ≠ 0 ∧ (nodeOf f' m).2 = (nodeOf f m).2
 bk : ∀ j, (blockOf f' j).1 ≠ 0 → (blockOf f j).1 ≠ 0 ∧ (blockOf f' j).2 = (blockOf f j).2
structure NewAt (f : Fo) (nd : Nd) (i : Nat) (ns : List Nd) : Prop where
 was : nodeOf f i = nd0
 node : ∀ bs m, nodeOf (ns, bs) m = if m = i then nd else nodeOf f m
 nm : ∀ bs l k, named (ns, bs) l k = named f l k + namesOf nd l k
 lt : i < ns.length
 inv : NdOk (ns, f.2) nd → Inv (ns, f.2)
 no : named f false i = 0
structure Ask (f : Fo) (root at' b : Int) : Prop where
 inv : Inv f
 ex : ∀ m, 0 ≤ ext f m
 eb : ∀ j : Nat, extB f j = if (j : Int) = b then 1 else 0
 bb : b = -1 ∨ 0 ≤ b
 ro : root = -1 ∨ (0 ≤ root ∧ (nodeOf f root.toNat).1 ≠ 0 ∧ (nodeOf f root.toNat).2.1 = false)
 at0 : 0 ≤ at'
 at1 : at' ≤ 15
def oldKids (f : Fo) (root at' : Int) : List Int := if 0 ≤ leafAt f root at' then (nodeOf f (leafAt f root at').toNat).2.2 else []
def nextKids (f : Fo) (root at' b : Int) : List Int := withKid (oldKids f root at') (at'.toNat % 4) b
structure LeafSet (f : Fo) (root at' b L : Int) (g : Fo) : Prop where
 inv : Inv g
 eb : ∀ j, extB g j = 0
 bk : ∀ j, (blockOf g j).1 ≠ 0 → (blockOf f j).1 ≠ 0 ∧ (blockOf g j).2 = (blockOf f j).2
 how : (L = -1 ∧ b = -1 ∧ g = f ∧ ∀ p, p < 4 → (nextKids f root at' b).getD p 0 < 0) ∨
  (0 ≤ L ∧ nodeOf g L.toNat = (1, true, nextKids f root at' b) ∧ (∀ m, m ≠ L.toNat → nodeOf g m = nodeOf f m) ∧
   ((L = leafAt f root at' ∧ (nodeOf f L.toNat).1 = 1 ∧ (nodeOf f L.toNat).2.1 = true ∧ 0 ≤ root ∧ (nodeOf f root.toNat).1 = 1 ∧ ∀ m, ext g m = ext f m) ∨
   (nodeOf f L.toNat = nd0 ∧ ∀ m : Nat, ext g m = ext f m + if (m : Int) = L then 1 else 0)))
def rootKids (f : Fo) (root : Int) : List Int := if 0 ≤ root then (nodeOf f root.toNat).2.2 else []
def nextLeaves (f : Fo) (root at' L : Int) : List Int := withKid (rootKids f root) (at'.toNat / 4) L
structure AskR (g : Fo) (root at' L : Int) : Prop where
 inv : Inv g
 ex : ∀ m, 0 ≤ ext g m
 eb : ∀ j, extB g j = 0
 ll : L = -1 ∨ (0 ≤ L ∧ (nodeOf g L.toNat).1 ≠ 0 ∧ (nodeOf g L.toNat).2.1 = true)
 le : 0 ≤ L → 1 ≤ ext g L.toNat ∨ (0 ≤ root ∧ (nodeOf g root.toNat).1 = 1 ∧ L = (rootKids g root).getD (at'.toNat / 4) 0)
 ro : root = -1 ∨ (0 ≤ root ∧ (nodeOf g root.toNat).1 ≠ 0 ∧ (nodeOf g root.toNat).2.1 = false)
 at0 : 0 ≤ at'
 at1 : at' ≤ 15
abbrev stays (g : Fo) (root at' L : Int) : Prop := 0 ≤ root ∧ (nodeOf g root.toNat).1 = 1 ∧ L = (rootKids g root).getD (at'.toNat / 4) 0
structure RootSet (g : Fo) (root at' L R : Int) (h : Fo) : Prop where
 inv : Inv h
 eb : ∀ j, extB h j = 0
 ex : ∀ m : Nat, ext h m = ext g m - (if (m : Int) = root then 1 else 0) + (if (m : Int) = R then 1 else 0) - (if (m : Int) = L ∧ ¬ stays g root at' L then 1 else 0)
 bk : ∀ j, (blockOf h j).1 ≠ 0 → (blockOf g j).1 ≠ 0 ∧ (blockOf h j).2 = (blockOf g j).2
 nd : ∀ m : Nat, (nodeOf h m).1 ≠ 0 → (m : Int) ≠ R → (nodeOf g m).1 ≠ 0 ∧ (nodeOf h m).2 = (nodeOf g m).2
 rt : (R = -1 ∧ noneOf (nextLeaves g root at' L) = true) ∨ (0 ≤ R ∧ (nodeOf h R.toNat).1 ≠ 0 ∧ (nodeOf h R.toNat).2 = (false, nextLeaves g root at' L) ∧ ((R = root ∧ (nodeOf g root.toNat).1 = 1) ∨ (nodeOf g R.toNat = nd0 ∧ ¬ (0 ≤ root ∧ (nodeOf g root.toNat).1 = 1))))
structure PlaceSet (f : Fo) (root at' b R : Int) (h : Fo) : Prop where
 inv : Inv h
 eb : ∀ j, extB h j = 0
 ex : ∀ m : Nat, ext h m = ext f m - (if (m : Int) = root then 1 else 0) + (if (m : Int) = R then 1 else 0)
 bk : ∀ j, (blockOf h j).1 ≠ 0 → (blockOf f j).1 ≠ 0 ∧ (blockOf h j).2 = (blockOf f j).2
 rt : R = -1 ∨ (0 ≤ R ∧ (nodeOf h R.toNat).1 ≠ 0 ∧ (nodeOf h R.toNat).2.1 = false)
 look : ∀ k : Int, 0 ≤ k → k ≤ 15 → blockAt h R k = if k = at' then b else blockAt f root k
 keep : ∀ r : Nat, (nodeOf h r).1 ≠ 0 → (nodeOf h r).2.1 = false → (r : Int) ≠ R → (nodeOf f r).1 ≠ 0 ∧ (nodeOf f r).2.1 = false ∧ ∀ k : Int, 0 ≤ k → k ≤ 15 → blockAt h r k = blockAt f r k
def RootIs (f : Fo) (root : Int) : Prop := root = -1 ∨ (0 ≤ root ∧ (nodeOf f root.toNat).1 ≠ 0 ∧ (nodeOf f root.toNat).2.1 = false)
structure TreeOk (f : Fo) (root x : Int) : Prop where
 right : Right f
 ro : RootIs f root
 at0 : 0 ≤ x
 at1 : x ≤ 15
structure LeafPre (f : Fo) (i : Nat) : Prop where
 lt : i < f.1.length
 lf : (nodeOf f i).2.1 = true
 r1 : 1 ≤ (nodeOf f i).1
 r2 : (nodeOf f i).1 ≤ 200
 kl : (nodeOf f i).2.2.length = 4
 kd : ∀ k ∈ (nodeOf f i).2.2, k < 0 ∨ k.toNat < f.2.length
 bl : (nodeOf f i).1 = 1 → ∀ j m, blkOne ((lessKids f.2 ((nodeOf f i).2.2.take j)).getD m (0, 0)) = 0
structure RootPre (f : Fo) (i : Nat) : Prop where
 lt : i < f.1.length
 lf : (nodeOf f i).2.1 = false
 r1 : 1 ≤ (nodeOf f i).1
 r2 : (nodeOf f i).1 ≤ 200
 kl : (nodeOf f i).2.2.length = 4
 ln : (nodeOf f i).1 = 1 → ∀ j, j < 4 → ((nodeOf f i).2.2.getD j 0 < 0 ∨ LeafPre (lessLeaves (f.1.set i (0, false, []), f.2) ((nodeOf f i).2.2.take j)) ((nodeOf f i).2.2.getD j 0).toNat) ∧ (lessLeaves (f.1.set i (0, false, []), f.2) ((nodeOf f i).2.2.take j)).1.length = f.1.length ∧ (lessLeaves (f.1.set i (0, false, []), f.2) ((nodeOf f i).2.2.take j)).2.length = f.2.length
def Fresh (w : World) (lo hi : Nat) (e : TypeId) (size : Nat) (v : Value) (n : Nat) (cs : List Value) : Prop :=
 (n = 0 ∧ cs = [] ∧ ∃ g, v = .slice (some ⟨g, 0, none⟩) 0 0) ∨ (w.ownsRow lo e size v n cs ∧ ∀ k, v.ownBlock = some k → k < hi)
theorem wrapI_same (n : Int) (h : -9223372036854775808 ≤ n ∧ n ≤ 9223372036854775807) : IntKind.i64.wrap n = n := by rw [IntKind.wrap_i64]; omega
structure KeptS (S : Nat → Prop) (w w' : World) : Prop where
 os : w'.os = w.os
 tape : w'.tape = w.tape
 output : w'.output = w.output
 size : w.heap.size ≤ w'.heap.size
 block : ∀ k, k < w.heap.size → ¬ S k → w'.heap[k]? = w.heap[k]?
theorem KeptS.refl (S : Nat → Prop) (w : World) : KeptS S w w := ⟨rfl, rfl, rfl, Nat.le_refl _, fun _ _ _ => rfl⟩
theorem KeptS.trans {S : Nat → Prop} {a b c : World} (h : KeptS S a b) (k : KeptS S b c) : KeptS S a c :=
 ⟨k.os.trans h.os, k.tape.trans h.tape, k.output.trans h.output, Nat.le_trans h.size k.size, fun i hi ho => (k.block i (Nat.lt_of_lt_of_le hi h.size) ho).trans (h.block i hi ho)⟩
theorem Kept.toS {lo hi : Nat} {S : Nat → Prop} {w w' : World} (h : Kept lo hi w w') (hs : ∀ k, lo ≤ k → k < hi → S k) : KeptS S w w' := ⟨h.os, h.tape, h.output, h.size, fun k hk ho => h.block k hk (by
 by_cases h1 : k < lo
 ·exact Or.inl h1
 ·by_cases h2 : hi ≤ k
  ·exact Or.inr h2
  ·exact absurd (hs k (by omega) (by omega)) ho)⟩
theorem KeptS.cell {S : Nat → Prop} {w w' : World} (h : KeptS S w w') {b o : Nat} {v : Value} (hc : w.cell? ⟨b, o, none⟩ = some v) (hb : b < w.heap.size) (hs : ¬ S b) : w'.cell? ⟨b, o, none⟩ = some v := by
 rw [World.cell?_of_block (w := w) (a := ⟨b, o, none⟩) (h.block b hb hs)]; exact hc
theorem KeptS.frozen {S : Nat → Prop} {w w' : World} (h : KeptS S w w') {b o : Nat} {v : Bool} (hc : w.frozen? ⟨b, o, none⟩ = v) (hb : b < w.heap.size) (hs : ¬ S b) : w'.frozen? ⟨b, o, none⟩ = v := by
 rw [World.frozen?_of_block (w := w) (a := ⟨b, o, none⟩) (h.block b hb hs)]; exact hc
theorem RowAt.keptS {w w' : World} {own : Bool} {lo hi size : Nat} {ao : Option Addr} {n cap : Nat} {cs : List Value} (h : RowAt w own lo hi size ao n cap cs) {S : Nat → Prop} (hk : KeptS S w w') (hd : ∀ a, n ≠ 0 → ao = some a → ¬ S a.block) : RowAt w' own lo hi size ao n cap cs := by
 refine ⟨h.len, h.le, fun hn => ?_⟩
 obtain ⟨b, off, rfl, h1, h2, h3, h4, h5⟩ := h.cells hn
 have hs := hd _ hn rfl
 exact ⟨b, off, rfl, h1, h2, Nat.lt_of_lt_of_le h3 hk.size, fun i hi => hk.cell (h4 i hi) h3 hs, fun ho i hi => hk.frozen (h5 ho i hi) h3 hs⟩
theorem KeptS.setCell {S : Nat → Prop} {a w : World} (h : KeptS S a w) {p : Addr} (h1 : S p.block) (u : Value) : KeptS S a (w.setCell p u) :=
 h.trans ⟨rfl, rfl, rfl, by simp [World.setCell], fun k _ ho => Below.heap_setCell _ _ _ _ (fun e => ho (e ▸ h1))⟩
abbrev KS := Option Addr × Nat × Nat
def ksv (k : KS) : Value := .slice k.1 k.2.1 k.2.2
def flat3 (n : Nat) (g0 g1 g2 : Nat → Value) : List Value := (List.range (n * 3)).map fun j => if j % 3 = 0 then g0 (j / 3) else if j % 3 = 1 then g1 (j / 3) else g2 (j / 3)
def ncells (K : Nat → KS) (ns : List Nd) : List Value := flat3 ns.length (fun i => .int .i64 (ns.getD i nd0).1) (fun i => .bool (ns.getD i nd0).2.1) (fun i => ksv (K i))
def updK (K : Nat → KS) (i : Nat) (k : KS) : Nat → KS := fun j => if j = i then k else K j
def sb (ao : Option Addr) : Nat := match ao with | some a => a.block | none => 0
structure NodesAt (w : World) (own : Bool) (lo hi : Nat) (ao : Option Addr) (n cap : Nat) (K : Nat → KS) (ns : List Nd) : Prop where
 len : ns.length = n
 row : RowAt w own lo hi 3 ao n cap (ncells K ns)
 kids : ∀ i, i < n → RowAt w own lo hi 1 (K i).1 (K i).2.1 (K i).2.2 (ints (ns.getD i nd0).2.2)
 sep : own = true → ∀ i, i < n → (K i).2.1 ≠ 0 → sb (K i).1 ≠ sb ao ∧ ∀ j, j < n → j ≠ i → (K j).2.1 ≠ 0 → sb (K j).1 ≠ sb (K i).1
def inN (ao : Option Addr) (n : Nat) (K : Nat → KS) (k : Nat) : Prop := (n ≠ 0 ∧ k = sb ao) ∨ ∃ i, i < n ∧ (K i).2.1 ≠ 0 ∧ k = sb (K i).1
structure FoAt (w : World) (own : Bool) (lo hi : Nat) (an : Option Addr) (nn cn : Nat) (ab : Option Addr) (nb cb : Nat) (K : Nat → KS) (f : Fo) : Prop where
 nodes : NodesAt w own lo hi an nn cn K f.1
 blocks : RowAt w own lo hi 2 ab nb cb (pairs f.2)
 sep : own = true → nb ≠ 0 → ¬ inN an nn K (sb ab)
def kl (ns : List Nd) (i : Nat) : Nat := ((ns.take i).map fun nd => nd.2.2.length).sum
end Go.Proofs.Ytjefmhjlaibbkaa
