/- Short names for the steps of a region that draws its order and is walked by hand. No program is named here. -/
import Derived.WalkKit
import Derived.WalkSpells
import Derived.Deep.Draws
import Derived.Deep.MidRow
import Derived.OrdersHeld
import Derived.Test.YtonclmbihhdkpaaGreatChecked
import Derived.WalkLawsBesides
import Derived.Deep.QuietTactic
import Derived.BigQuiet
import Derived.Deep.RegionHeld3
import Derived.Deep.WholeRow
import Derived.Deep.AppendSrc
import Derived.Maps.AppendAt
set_option maxRecDepth 20000
set_option maxHeartbeats 16000000
namespace Go.Proofs.YtonclmbihhdkpaaGreat
open Go.RowKit
theorem la {α : Type _} (l : List α) (i : Nat) (a : α) : l.toArray.setIfInBounds i a = (l.set i a).toArray := List.setIfInBounds_toArray l i a
theorem lb {α : Type _} {x : α} {xs : List α} {a : α} : (x :: xs).set 0 a = a :: xs := rfl
theorem lc {α : Type _} {x : α} {xs : List α} {i : Nat} {a : α} : (x :: xs).set (i + 1) a = x :: xs.set i a := rfl
theorem ld {α : Type _} {xs : List α} {i : Nat} (h : i < xs.toArray.size) : xs.toArray[i] = xs[i] := rfl
theorem le' {α : Type _} (a : α) (l : List α) (h : 0 < (a :: l).length) : (a :: l)[0] = a := rfl
theorem lf' {α : Type _} (a : α) (l : List α) (i : Nat) (h : i + 1 < (a :: l).length) : (a :: l)[i + 1] = l[i]'(Nat.lt_of_succ_lt_succ h) := rfl
theorem tk {P : Program} {ops : Array Oper} {Q : Exit → Act → World → Prop} {md : Region.Mode} {S : World → Prop} (i : Nat) {oi : Oper} {v : Value} {fuel : Nat} {listed l' : Array Bool} {a a' : Act} {w : World} (hS : S w) (h : wpAnyH P md ops Q S fuel l' a' w) (hi : ops[i]? = some oi := by rfl)
  (hs : Region.noSelect ops = true := by kernel_rfl) (hf : Region.free md ops listed i = true := by kernel_rfl) (hr : (Region.ready md ops listed).contains i = true := by kernel_rfl)
  (hQ : ∀ c a w, Q (.panic c) (a.put oi.dst v) w → Q (.panic c) a w := by exact fun _ _ _ h => h) (hw : Region.wanted oi (yielded ops a.tmps) = true := by rfl) (hv : ∀ w, S w → (execOp a.eval oi).run P w = .ok (.value v) w := by (intro w hSw; (try dsimp only at hSw); first | (go_simp; done) | (go_simp; with_reducible rfl)))
  (hl : listed.setIfInBounds i true = l' := by first | (simp only [la, lb, lc]; rfl) | rfl) (ha : a.put oi.dst v = a' := by first | (simp only [Act.put, la, lb, lc, ld, le', lf']; rfl) | rfl) : wpAnyH P md ops Q S (fuel + 1) listed a w := by
 subst hl ha
 exact wpAnyH_take hi hs hf hr hQ (Or.inl ⟨hw, hv⟩) hS h
theorem tks {P : Program} {ops : Array Oper} {Q : Exit → Act → World → Prop} {md : Region.Mode} {S : World → Prop} (i : Nat) {oi : Oper} {fuel : Nat} {listed l' : Array Bool} {a a' : Act} {w : World} (hS : S w) (h : wpAnyH P md ops Q S fuel l' a' w) (hi : ops[i]? = some oi := by rfl)
  (hs : Region.noSelect ops = true := by kernel_rfl) (hf : Region.free md ops listed i = true := by kernel_rfl) (hr : (Region.ready md ops listed).contains i = true := by kernel_rfl)
  (hQ : ∀ c a w, Q (.panic c) (a.put oi.dst undef) w → Q (.panic c) a w := by exact fun _ _ _ h => h) (hw : Region.wanted oi (yielded ops a.tmps) = false := by rfl)
  (hl : listed.setIfInBounds i true = l' := by first | (simp only [la, lb, lc]; rfl) | rfl) (ha : a.put oi.dst undef = a' := by first | (simp only [Act.put, la, lb, lc, ld, le', lf']; rfl) | rfl) : wpAnyH P md ops Q S (fuel + 1) listed a w := by
 subst hl ha
 exact wpAnyH_take hi hs hf hr hQ (Or.inr ⟨hw, rfl⟩) hS h
structure RowAt (w : World) (own : Bool) (lo hi : Nat) (size : Nat) (ao : Option Addr) (n cap : Nat) (cs : List Value) : Prop where
 len : cs.length = n * size
 le : n ≤ cap
 cells : n ≠ 0 → ∃ b off, ao = some ⟨b, off, none⟩ ∧ lo ≤ b ∧ b < hi ∧ b < w.heap.size ∧ (∀ i, i < n * size → w.cell? ⟨b, off + i, none⟩ = some (cs.getD i default)) ∧ (own = true → ∀ i, i < n * size → w.frozen? ⟨b, off + i, none⟩ = false)
structure Kept (lo hi : Nat) (w w' : World) : Prop where
 os : w'.os = w.os
 tape : w'.tape = w.tape
 output : w'.output = w.output
 size : w.heap.size ≤ w'.heap.size
 block : ∀ k, k < w.heap.size → (k < lo ∨ hi ≤ k) → w'.heap[k]? = w.heap[k]?
theorem Kept.refl (lo hi : Nat) (w : World) : Kept lo hi w w := ⟨rfl, rfl, rfl, Nat.le_refl _, fun _ _ _ => rfl⟩
theorem Kept.trans {lo hi : Nat} {a b c : World} (h : Kept lo hi a b) (k : Kept lo hi b c) : Kept lo hi a c :=
 ⟨k.os.trans h.os, k.tape.trans h.tape, k.output.trans h.output, Nat.le_trans h.size k.size, fun i hi ho => (k.block i (Nat.lt_of_lt_of_le hi h.size) ho).trans (h.block i hi ho)⟩
theorem Kept.of_below {lo hi : Nat} {w w' : World} (h : Below w.heap.size w w') : Kept lo hi w w' := ⟨h.os, h.tape, h.output, h.size, fun k hk _ => h.block k hk⟩
theorem Kept.below {lo hi : Nat} {w w' : World} (h : Kept lo hi w w') (B : Nat) (h1 : B ≤ lo) (h2 : B ≤ w.heap.size) : Below B w w' :=
 ⟨h.os, h.tape, h.output, h.size, fun k hk => h.block k (by omega) (Or.inl (by omega))⟩
theorem RowAt.kept {w w' : World} {own : Bool} {lo hi size : Nat} {ao : Option Addr} {n cap : Nat} {cs : List Value} (h : RowAt w own lo hi size ao n cap cs) {l u : Nat} (hk : Kept l u w w') (hd : hi ≤ l ∨ u ≤ lo) : RowAt w' own lo hi size ao n cap cs := by
 refine ⟨h.len, h.le, fun hn => ?_⟩
 obtain ⟨b, off, rfl, h1, h2, h3, h4, h5⟩ := h.cells hn
 have hb : w'.heap[b]? = w.heap[b]? := hk.block b h3 (by omega)
 refine ⟨b, off, rfl, h1, h2, Nat.lt_of_lt_of_le h3 hk.size, fun i hi => ?_, fun ho i hi => ?_⟩
 ·rw [World.cell?_of_block (w := w) (a := ⟨b, off + i, none⟩) hb]; exact h4 i hi
 ·rw [World.frozen?_of_block (w := w) (a := ⟨b, off + i, none⟩) hb]; exact h5 ho i hi
theorem RowAt.below {w w' : World} {own : Bool} {lo hi size : Nat} {ao : Option Addr} {n cap : Nat} {cs : List Value} (h : RowAt w own lo hi size ao n cap cs) (hk : Below w.heap.size w w') : RowAt w' own lo hi size ao n cap cs :=
 h.kept (l := hi) (u := hi) (Kept.of_below hk) (Or.inl (Nat.le_refl _))
theorem RowAt.widen {w : World} {own : Bool} {lo hi size : Nat} {ao : Option Addr} {n cap : Nat} {cs : List Value} (h : RowAt w own lo hi size ao n cap cs) {lo' hi' : Nat} (h1 : lo' ≤ lo) (h2 : hi ≤ hi') : RowAt w own lo' hi' size ao n cap cs := by
 refine ⟨h.len, h.le, fun hn => ?_⟩
 obtain ⟨b, off, rfl, g1, g2, g3, g4, g5⟩ := h.cells hn
 exact ⟨b, off, rfl, by omega, by omega, g3, g4, g5⟩
def ints (xs : List Int) : List Value := xs.map (Value.int .i64)
def pairs (xs : List (Int × Int)) : List Value := xs.flatMap fun p => [Value.int .i64 p.1, Value.int .i64 p.2]
theorem ints_length (xs : List Int) : (ints xs).length = xs.length := by simp [ints]
theorem ints_getD (xs : List Int) (i : Nat) (h : i < xs.length) : (ints xs).getD i default = .int .i64 (xs.getD i 0) := by
 simp [ints, List.getD, h]
theorem RowAt.int {w : World} {own : Bool} {lo hi : Nat} {ao : Option Addr} {n cap : Nat} {xs : List Int} (h : RowAt w own lo hi 1 ao n cap (ints xs)) {k : Nat} (hk : k < n) :
  ∃ b off, ao = some ⟨b, off, none⟩ ∧ lo ≤ b ∧ b < hi ∧ b < w.heap.size ∧ w.cell? ⟨b, off + k, none⟩ = some (.int .i64 (xs.getD k 0)) ∧ (own = true → w.frozen? ⟨b, off + k, none⟩ = false) := by
 obtain ⟨b, off, rfl, g1, g2, g3, g4, g5⟩ := h.cells (by omega)
 have hl := h.len
 rw [ints_length, Nat.mul_one] at hl
 refine ⟨b, off, rfl, g1, g2, g3, ?_, fun ho => g5 ho k (by omega)⟩
 rw [g4 k (by omega), ints_getD xs k (by omega)]
theorem RowAt.nInts {w : World} {own : Bool} {lo hi : Nat} {ao : Option Addr} {n cap : Nat} {xs : List Int} (h : RowAt w own lo hi 1 ao n cap (ints xs)) : xs.length = n := by
 have hl := h.len; rw [ints_length, Nat.mul_one] at hl; exact hl
theorem RowAt.of_owns {w : World} {base : Nat} {e : TypeId} {size : Nat} {g n cap : Nat} {cs : List Value} (h : w.ownsRow base e size (.slice (some ⟨g, 0, none⟩) n cap) n cs) (hc : n ≤ cap) : RowAt w true base w.heap.size size (some ⟨g, 0, none⟩) n cap cs := by
 have hlt := h.lt g rfl
 refine ⟨h.1, hc, fun _ => ⟨g, 0, rfl, hlt.1, hlt.2, hlt.2, fun i hi => ?_, fun _ i _ => ?_⟩⟩
 ·rw [Nat.zero_add, h.cellAt i hi]
  have : i < cs.length := by rw [h.1]; exact hi
  simp [List.getD, this]
 ·rw [Nat.zero_add]
  exact h.frozenAt i
theorem owns_below {w w' : World} {base : Nat} {e : TypeId} {size : Nat} {v : Value} {n : Nat} {xs : List Value} (h : w.ownsRow base e size v n xs) (hb : Below w.heap.size w w') : w'.ownsRow base e size v n xs := by
 refine ⟨h.1, ?_⟩
 rcases h.2 with h2 | ⟨g, cap, cur, hv, hg, hh, r⟩
 ·exact Or.inl h2
 ·have hlt : g < w.heap.size := by
   by_cases hlt : g < w.heap.size
   ·exact hlt
   ·rw [Array.getElem?_eq_none (by omega)] at hh; cases hh
  exact Or.inr ⟨g, cap, cur, hv, hg, by rw [hb.block g hlt]; exact hh, r⟩
theorem owns_lt {w : World} {base : Nat} {e : TypeId} {size : Nat} {g n cap m : Nat} {xs : List Value} (h : w.ownsRow base e size (.slice (some ⟨g, 0, none⟩) n cap) m xs) : base ≤ g ∧ g < w.heap.size := h.lt g rfl
theorem below_step {B : Nat} {w a b : World} (h : Below B w a) (hB : B ≤ a.heap.size) (k : Below a.heap.size a b) : Below B w b := h.trans (k.mono hB)
theorem ret_bool {a b : Bool} (h : a = b) : Ending.returned (.bool a) = .returned (.bool b) := by rw [h]
theorem ret_int {k : IntKind} {a b : Int} (h : a = b) : Ending.returned (.int k a) = .returned (.int k b) := by rw [h]
theorem below_drewN {B : Nat} {a w : World} (h : Below B a w) (n : Nat) : Below B a (w.drewN n) := ⟨h.os, h.tape, h.output, h.size, h.block⟩
theorem below_next {w a b : World} (h : Below w.heap.size w a) (k : Below a.heap.size a b) : Below w.heap.size w b := h.trans (k.mono h.size)
theorem Kept.setCell {lo hi : Nat} {a w : World} (h : Kept lo hi a w) {p : Addr} (h1 : lo ≤ p.block) (h2 : p.block < hi) (u : Value) : Kept lo hi a (w.setCell p u) :=
 h.trans ⟨rfl, rfl, rfl, by simp [World.setCell], fun k _ ho => Below.heap_setCell _ _ _ _ (by omega)⟩
theorem Kept.next {lo hi : Nat} {a w w' : World} (h : Kept lo hi a w) (hb : Below w.heap.size w w') : Kept lo hi a w' := h.trans (Kept.of_below hb)
theorem Kept.setCells {lo hi : Nat} {a w : World} (h : Kept lo hi a w) {b : Nat} (h1 : lo ≤ b) (h2 : b < hi) : ∀ (vs : List Value) (o : Nat), Kept lo hi a (w.setCells b o vs) := by
 intro vs
 induction vs generalizing w with
 | nil => intro o; exact h
 | cons v r ih =>
  intro o
  rw [World.setCells]
  exact ih (h.setCell (p := ⟨b, o, none⟩) h1 h2 v) (o + 1)
theorem RowAt.nil (w : World) (own : Bool) (lo hi size : Nat) : RowAt w own lo hi size none 0 0 [] := ⟨by simp, Nat.le_refl _, fun h => absurd rfl h⟩
theorem frozen_later {W w1 : World} {b o : Nat} (hb : Below W.heap.size W w1) (h : b < W.heap.size) (hf : W.frozen? ⟨b, o, none⟩ = false) : w1.frozen? ⟨b, o, none⟩ = false := (hb.frozen (p := ⟨b, o, none⟩) h).trans hf
theorem RowAt.of_owned {w : World} {base : Nat} {e : TypeId} {size : Nat} {v : Value} {n : Nat} {cs : List Value} (h : w.ownsRow base e size v n cs) : ∃ ao cap, v = .slice ao n cap ∧ RowAt w true base w.heap.size size ao n cap cs := by
 rcases h.2 with ⟨rfl, rfl⟩ | ⟨g, cap, cur, rfl, hg, hh, hc, r⟩
 ·exact ⟨none, 0, rfl, h.1, Nat.le_refl _, fun h => absurd rfl h⟩
 ·exact ⟨_, _, rfl, RowAt.of_owns h hc⟩
theorem Tryz.info2' : (Tryz.prog.info? 2).map (fun i => (i.zero, i.size, i.bytes)) = some (some (.int .i64 0), 1, 8) := by kernel_rfl
structure DiskAt (w : World) (lo hi : Nat) (a0 : Option Addr) (n0 c0 : Nat) (a1 : Option Addr) (n1 c1 : Nat) (xs : List Int) (ys : List (Int × Int)) : Prop where
 parts : ∃ mid, lo ≤ mid ∧ mid ≤ hi ∧ RowAt w true lo mid 1 a0 n0 c0 (ints xs) ∧ RowAt w true mid hi 2 a1 n1 c1 (pairs ys)
def marks (k : Int) (n : Nat) : List Int := (List.range n).map fun (i : Nat) => k + (i : Int)
theorem RowAt.stored {w : World} {lo hi size : Nat} {b off n cap : Nat} {cs : List Value} (h : RowAt w true lo hi size (some ⟨b, off, none⟩) n cap cs) {i : Nat} (hi' : i < n * size) (v : Value) :
  RowAt (w.setCell ⟨b, off + i, none⟩ v) true lo hi size (some ⟨b, off, none⟩) n cap (cs.set i v) := by
 refine ⟨by rw [List.length_set]; exact h.len, h.le, fun hn => ?_⟩
 obtain ⟨b', off', e, g1, g2, g3, g4, g5⟩ := h.cells hn
 simp only [Option.some.injEq, Addr.mk.injEq, and_true] at e
 obtain ⟨rfl, rfl⟩ := e
 refine ⟨b, off, rfl, g1, g2, by simpa [World.setCell] using g3, fun j hj => ?_, fun ho j hj => ?_⟩
 ·have hl := h.len
  by_cases e : j = i
  ·subst e
   rw [World.cell?_setCell_same _ _ _ (g4 j hj)]
   simp [List.getD, show j < cs.length by omega]
  ·rw [World.cell?_setCell_other _ _ _ _ (by intro h; simp at h <;> omega), g4 j hj]
   simp [List.getD, show ¬ i = j by omega]
 ·rw [World.frozen?_setCell]; exact g5 ho j hj
theorem Kept.cell {lo hi : Nat} {w w' : World} (h : Kept lo hi w w') {b o : Nat} {v : Value} (hc : w.cell? ⟨b, o, none⟩ = some v) (hb : b < lo ∨ hi ≤ b) : w'.cell? ⟨b, o, none⟩ = some v := by
 rw [World.cell?_of_block (w := w) (a := ⟨b, o, none⟩) (h.block b (World.block_lt_of_cell? w _ hc) hb)]; exact hc
theorem l1In_any (x a b : Int) (w : World) : Calls Tryz.prog 126 #[.int .i64 x, .int .i64 a, .int .i64 b] w fun e w' => e = .returned (.bool (decide (a ≤ x ∧ x ≤ b))) ∧ w' = w := by
 by_cases h : a ≤ x <;> by_cases h2 : x ≤ b
 all_goals
  go_enter Tryz.func126, Tryz.ntmps126
  go_wp2
  go_ret
  exact ⟨by simp [h, h2], rfl⟩
def refsB (x : Int) : Bool := decide (0 ≤ x ∧ x ≤ 200)
def dataB (x : Int) : Bool := decide (0 ≤ x ∧ x ≤ 255)
def blkOne (p : Int × Int) : Int := if refsB p.1 && dataB p.2 then (if p.1 = 0 ∧ p.2 ≠ 0 then 1 else 0) else 3
def blkGo : List (Int × Int) → Int
 | [] => 0
 | p :: r => if blkOne p = 0 then blkGo r else blkOne p
def blkFault (bs : List (Int × Int)) : Int := if 24 < bs.length then 2 else blkGo bs
def freeAt : List (Int × Int) → Option Nat
 | [] => none
 | p :: r => if p.1 = 0 then some 0 else (freeAt r).map (· + 1)
def freeN (bs : List (Int × Int)) : Nat := (bs.filter fun p => decide (p.1 = 0)).length
def takeCode (bs : List (Int × Int)) (x : Int) : Int := if blkFault bs = 0 then (if dataB x then (if freeAt bs = none then 8 else 0) else 3) else blkFault bs
def takeAt (bs : List (Int × Int)) (x : Int) : Nat := if takeCode bs x = 0 then (freeAt bs).getD 0 else 0
def takeList (bs : List (Int × Int)) (x : Int) : List (Int × Int) := if takeCode bs x = 0 then bs.set ((freeAt bs).getD 0) (1, x) else []
def askCode (bs : List (Int × Int)) (at' : Int) : Int := if blkFault bs = 0 then (if 0 ≤ at' ∧ at' ≤ (bs.length : Int) - 1 then (if (bs.getD at'.toNat (0, 0)).1 = 0 then 4 else 0) else 3) else blkFault bs
def shareCode (bs : List (Int × Int)) (at' : Int) : Int := if askCode bs at' = 0 then (if 200 ≤ (bs.getD at'.toNat (0, 0)).1 then 2 else 0) else askCode bs at'
def more1 (p : Int × Int) : Int × Int := (p.1 + 1, p.2)
def less1 (p : Int × Int) : Int × Int := (p.1 - 1, if p.1 - 1 = 0 then 0 else p.2)
def shareList (bs : List (Int × Int)) (at' : Int) : List (Int × Int) := if shareCode bs at' = 0 then bs.set at'.toNat (more1 (bs.getD at'.toNat (0, 0))) else []
def dropList (bs : List (Int × Int)) (at' : Int) : List (Int × Int) := if askCode bs at' = 0 then bs.set at'.toNat (less1 (bs.getD at'.toNat (0, 0))) else []
def newBCode (n : Int) : Int := if 0 ≤ n ∧ n ≤ 24 then 0 else 3
def newBList (n : Int) : List (Int × Int) := if newBCode n = 0 then List.replicate n.toNat (0, 0) else []
structure Taken (bs : List (Int × Int)) (x : Int) (k : Nat) : Prop where
 fr : freeAt bs = some k
 lt : k < bs.length
 was : bs.getD k (0, 0) = (0, 0)
 f0 : blkFault bs = 0
 at' : takeAt bs x = k
 li : takeList bs x = bs.set k (1, x)
 f1 : blkFault (bs.set k (1, x)) = 0
 sc : shareCode (bs.set k (1, x)) (k : Int) = 0
 sl : shareList (bs.set k (1, x)) (k : Int) = bs.set k (2, x)
 ac : askCode (bs.set k (2, x)) (k : Int) = 0
 dl : dropList (bs.set k (2, x)) (k : Int) = bs.set k (1, x)
 ad : askCode (bs.set k (1, x)) (k : Int) = 0
 el : dropList (bs.set k (1, x)) (k : Int) = bs
 fn : (freeN (bs.set k (1, x)) : Int) = (freeN bs : Int) - 1
 n0 : newBCode (bs.length : Int) = 0
 n1 : (newBList (bs.length : Int)).length = bs.length
abbrev Nd := Int × Bool × List Int
abbrev Fo := List Nd × List (Int × Int)
def nd0 : Nd := (0, false, [])
def nodeOf (f : Fo) (i : Nat) : Nd := f.1.getD i nd0
def blockOf (f : Fo) (i : Nat) : Int × Int := f.2.getD i (0, 0)
def namesOf (nd : Nd) (leaf : Bool) (at' : Int) : Nat := if nd.1 = 0 ∨ nd.2.1 ≠ leaf then 0 else nd.2.2.count at'
def namedIn (ns : List Nd) (leaf : Bool) (at' : Int) : Nat := (ns.map fun nd => namesOf nd leaf at').sum
def named (f : Fo) (leaf : Bool) (at' : Int) : Nat := namedIn f.1 leaf at'
def spotB (x : Int) : Bool := decide (0 ≤ x ∧ x ≤ 15)
def leafAt (f : Fo) (root at' : Int) : Int := if root < 0 then -1 else (nodeOf f root.toNat).2.2.getD (at'.toNat / 4) 0
def blockAt (f : Fo) (root at' : Int) : Int := if leafAt f root at' < 0 then -1 else (nodeOf f (leafAt f root at').toNat).2.2.getD (at'.toNat % 4) 0
def lessB (bs : List (Int × Int)) (i : Nat) : List (Int × Int) := bs.set i (less1 (bs.getD i (0, 0)))
def lessKids (bs : List (Int × Int)) (ks : List Int) : List (Int × Int) := ks.foldl (fun bs k => if k < 0 then bs else lessB bs k.toNat) bs
def lessLeaf (f : Fo) (i : Nat) : Fo :=
 if 0 < (nodeOf f i).1 - 1 then (f.1.set i ((nodeOf f i).1 - 1, (nodeOf f i).2), f.2)
 else (f.1.set i ((nodeOf f i).1 - 1, false, []), lessKids f.2 (nodeOf f i).2.2)
def lessLeaves (f : Fo) (ks : List Int) : Fo := ks.foldl (fun f k => if k < 0 then f else lessLeaf f k.toNat) f
def noneOf (ks : List Int) : Bool := ks.all fun k => decide (k < 0)
def withKid (ks : List Int) (i : Nat) (k : Int) : List Int := (ks ++ [-1, -1, -1, -1].drop ks.length).set i k
def OkKid (f : Fo) (leaf : Bool) (k : Int) : Prop := k = -1 ∨ (0 ≤ k ∧ if leaf = true then k.toNat < f.2.length ∧ 0 < (blockOf f k.toNat).1 else k.toNat < f.1.length ∧ 0 < (nodeOf f k.toNat).1 ∧ (nodeOf f k.toNat).2.1 = true)
structure NdOk (f : Fo) (nd : Nd) : Prop where
 r0 : 0 ≤ nd.1
 r1 : nd.1 ≤ 200
 z : nd.1 = 0 → nd = nd0
 kl : nd.1 ≠ 0 → nd.2.2.length = 4
 ks : nd.1 ≠ 0 → ∀ k ∈ nd.2.2, OkKid f nd.2.1 k
 so : nd.1 ≠ 0 → ∃ k ∈ nd.2.2, 0 ≤ k
structure Inv (f : Fo) : Prop where
 nb : f.2.length ≤ 24
 nn : f.1.length ≤ 60
 nd : ∀ i, NdOk f (nodeOf f i)
 bk : ∀ j, blkOne (blockOf f j) = 0
def ext (f : Fo) (i : Nat) : Int := (nodeOf f i).1 - (named f false i : Int)
def extB (f : Fo) (j : Nat) : Int := (blockOf f j).1 - (named f true j : Int)
structure Right (f : Fo) : Prop where
 inv : Inv f
 bl : ∀ j, j < f.2.length → extB f j = 0
 le : ∀ i, i < f.1.length → (nodeOf f i).2.1 = true → 0 ≤ ext f i
structure Less (f f' : Fo) : Prop where
 inv : Inv f'
 ln : f'.1.length = f.1.length
 lb : f'.2.length = f.2.length
 nd : ∀ m, (nodeOf f' m).1 ≠ 0 → (nodeOf f m).1 ≠ 0 ∧ (nodeOf f' m).2 = (nodeOf f m).2
 bk : ∀ j, (blockOf f' j).1 ≠ 0 → (blockOf f j).1 ≠ 0 ∧ (blockOf f' j).2 = (blockOf f j).2
structure NewAt (f : Fo) (nd : Nd) (i : Nat) (ns : List Nd) : Prop where
 was : nodeOf f i = nd0
 node : ∀ bs m, nodeOf (ns, bs) m = if m = i then nd else nodeOf f m
 nm : ∀ bs l k, named (ns, bs) l k = named f l k + namesOf nd l k
 lt : i < ns.length
 inv : NdOk (ns, f.2) nd → Inv (ns, f.2)
 no : named f false i = 0
structure Ask (f : Fo) (root at' b : Int) : Prop where
 inv : Inv f
 ex : ∀ m, 0 ≤ ext f m
 eb : ∀ j : Nat, extB f j = if (j : Int) = b then 1 else 0
 bb : b = -1 ∨ 0 ≤ b
 ro : root = -1 ∨ (0 ≤ root ∧ (nodeOf f root.toNat).1 ≠ 0 ∧ (nodeOf f root.toNat).2.1 = false)
 at0 : 0 ≤ at'
 at1 : at' ≤ 15
def oldKids (f : Fo) (root at' : Int) : List Int := if 0 ≤ leafAt f root at' then (nodeOf f (leafAt f root at').toNat).2.2 else []
def nextKids (f : Fo) (root at' b : Int) : List Int := withKid (oldKids f root at') (at'.toNat % 4) b
structure LeafSet (f : Fo) (root at' b L : Int) (g : Fo) : Prop where
 inv : Inv g
 eb : ∀ j, extB g j = 0
 bk : ∀ j, (blockOf g j).1 ≠ 0 → (blockOf f j).1 ≠ 0 ∧ (blockOf g j).2 = (blockOf f j).2
 how : (L = -1 ∧ b = -1 ∧ g = f ∧ ∀ p, p < 4 → (nextKids f root at' b).getD p 0 < 0) ∨
  (0 ≤ L ∧ nodeOf g L.toNat = (1, true, nextKids f root at' b) ∧ (∀ m, m ≠ L.toNat → nodeOf g m = nodeOf f m) ∧
   ((L = leafAt f root at' ∧ (nodeOf f L.toNat).1 = 1 ∧ (nodeOf f L.toNat).2.1 = true ∧ 0 ≤ root ∧ (nodeOf f root.toNat).1 = 1 ∧ ∀ m, ext g m = ext f m) ∨
   (nodeOf f L.toNat = nd0 ∧ ∀ m : Nat, ext g m = ext f m + if (m : Int) = L then 1 else 0)))
def rootKids (f : Fo) (root : Int) : List Int := if 0 ≤ root then (nodeOf f root.toNat).2.2 else []
def nextLeaves (f : Fo) (root at' L : Int) : List Int := withKid (rootKids f root) (at'.toNat / 4) L
structure AskR (g : Fo) (root at' L : Int) : Prop where
 inv : Inv g
 ex : ∀ m, 0 ≤ ext g m
 eb : ∀ j, extB g j = 0
 ll : L = -1 ∨ (0 ≤ L ∧ (nodeOf g L.toNat).1 ≠ 0 ∧ (nodeOf g L.toNat).2.1 = true)
 le : 0 ≤ L → 1 ≤ ext g L.toNat ∨ (0 ≤ root ∧ (nodeOf g root.toNat).1 = 1 ∧ L = (rootKids g root).getD (at'.toNat / 4) 0)
 ro : root = -1 ∨ (0 ≤ root ∧ (nodeOf g root.toNat).1 ≠ 0 ∧ (nodeOf g root.toNat).2.1 = false)
 at0 : 0 ≤ at'
 at1 : at' ≤ 15
abbrev stays (g : Fo) (root at' L : Int) : Prop := 0 ≤ root ∧ (nodeOf g root.toNat).1 = 1 ∧ L = (rootKids g root).getD (at'.toNat / 4) 0
structure RootSet (g : Fo) (root at' L R : Int) (h : Fo) : Prop where
 inv : Inv h
 eb : ∀ j, extB h j = 0
 ex : ∀ m : Nat, ext h m = ext g m - (if (m : Int) = root then 1 else 0) + (if (m : Int) = R then 1 else 0) - (if (m : Int) = L ∧ ¬ stays g root at' L then 1 else 0)
 bk : ∀ j, (blockOf h j).1 ≠ 0 → (blockOf g j).1 ≠ 0 ∧ (blockOf h j).2 = (blockOf g j).2
 nd : ∀ m : Nat, (nodeOf h m).1 ≠ 0 → (m : Int) ≠ R → (nodeOf g m).1 ≠ 0 ∧ (nodeOf h m).2 = (nodeOf g m).2
 rt : (R = -1 ∧ noneOf (nextLeaves g root at' L) = true) ∨ (0 ≤ R ∧ (nodeOf h R.toNat).1 ≠ 0 ∧ (nodeOf h R.toNat).2 = (false, nextLeaves g root at' L) ∧ ((R = root ∧ (nodeOf g root.toNat).1 = 1) ∨ (nodeOf g R.toNat = nd0 ∧ ¬ (0 ≤ root ∧ (nodeOf g root.toNat).1 = 1))))
structure PlaceSet (f : Fo) (root at' b R : Int) (h : Fo) : Prop where
 inv : Inv h
 eb : ∀ j, extB h j = 0
 ex : ∀ m : Nat, ext h m = ext f m - (if (m : Int) = root then 1 else 0) + (if (m : Int) = R then 1 else 0)
 bk : ∀ j, (blockOf h j).1 ≠ 0 → (blockOf f j).1 ≠ 0 ∧ (blockOf h j).2 = (blockOf f j).2
 rt : R = -1 ∨ (0 ≤ R ∧ (nodeOf h R.toNat).1 ≠ 0 ∧ (nodeOf h R.toNat).2.1 = false)
 look : ∀ k : Int, 0 ≤ k → k ≤ 15 → blockAt h R k = if k = at' then b else blockAt f root k
 keep : ∀ r : Nat, (nodeOf h r).1 ≠ 0 → (nodeOf h r).2.1 = false → (r : Int) ≠ R → (nodeOf f r).1 ≠ 0 ∧ (nodeOf f r).2.1 = false ∧ ∀ k : Int, 0 ≤ k → k ≤ 15 → blockAt h r k = blockAt f r k
def RootIs (f : Fo) (root : Int) : Prop := root = -1 ∨ (0 ≤ root ∧ (nodeOf f root.toNat).1 ≠ 0 ∧ (nodeOf f root.toNat).2.1 = false)
structure TreeOk (f : Fo) (root x : Int) : Prop where
 right : Right f
 ro : RootIs f root
 at0 : 0 ≤ x
 at1 : x ≤ 15
structure LeafPre (f : Fo) (i : Nat) : Prop where
 lt : i < f.1.length
 lf : (nodeOf f i).2.1 = true
 r1 : 1 ≤ (nodeOf f i).1
 r2 : (nodeOf f i).1 ≤ 200
 kl : (nodeOf f i).2.2.length = 4
 kd : ∀ k ∈ (nodeOf f i).2.2, k < 0 ∨ k.toNat < f.2.length
 bl : (nodeOf f i).1 = 1 → ∀ j m, blkOne ((lessKids f.2 ((nodeOf f i).2.2.take j)).getD m (0, 0)) = 0
structure RootPre (f : Fo) (i : Nat) : Prop where
 lt : i < f.1.length
 lf : (nodeOf f i).2.1 = false
 r1 : 1 ≤ (nodeOf f i).1
 r2 : (nodeOf f i).1 ≤ 200
 kl : (nodeOf f i).2.2.length = 4
 ln : (nodeOf f i).1 = 1 → ∀ j, j < 4 → ((nodeOf f i).2.2.getD j 0 < 0 ∨ LeafPre (lessLeaves (f.1.set i (0, false, []), f.2) ((nodeOf f i).2.2.take j)) ((nodeOf f i).2.2.getD j 0).toNat) ∧ (lessLeaves (f.1.set i (0, false, []), f.2) ((nodeOf f i).2.2.take j)).1.length = f.1.length ∧ (lessLeaves (f.1.set i (0, false, []), f.2) ((nodeOf f i).2.2.take j)).2.length = f.2.length
theorem row_src {P : Program} {w : World} {o : Bool} {l u size : Nat} {ao : Option Addr} {m c : Nat} {news : List Value} {t e : TypeId} (hk : P.underlying t = some (.slice e)) (h : RowAt w o l u size ao m c news) (h1 : ∀ x ∈ news, x.oneCell' = true) : Src P size t (.slice ao m c) m news w := by
 by_cases hm : m = 0
 ·subst hm
  have hn : news = [] := List.eq_nil_of_length_eq_zero (by have := h.len; omega)
  subst hn
  cases ao with
  | none => exact Src.ofNil w hk c
  | some a => exact Src.ofSlice w hk a 0 c [] (by simp) (fun j u hj => by simp at hj) (fun _ h => by cases h)
 ·obtain ⟨b, off, rfl, _, _, _, hc, _⟩ := h.cells hm
  refine Src.ofSlice w hk ⟨b, off, none⟩ m c news h.len (fun j u hj => ?_) h1
  have hj' := (List.getElem?_eq_some_iff.1 hj).1
  rw [show (⟨b, off, none⟩ : Addr).add j = ⟨b, off + j, none⟩ by simp [Addr.add], hc j (by have := h.len; omega)]
  simp [List.getD, hj]
theorem RowAt.of_front {w : World} {g n cap size : Nat} {cs : List Value} {rest : Array Value} {t : TypeId} (h : w.heap[g]? = some (.cells (cs.toArray ++ rest) t (0, 0))) (hn : cs.length = n * size) (hc : n ≤ cap) : RowAt w true g (g + 1) size (some ⟨g, 0, none⟩) n cap cs := by
 have hlt : g < w.heap.size := (Array.getElem?_eq_some_iff.1 h).1
 refine ⟨hn, hc, fun _ => ⟨g, 0, rfl, Nat.le_refl _, by omega, hlt, fun i hi => ?_, fun _ i _ => frozen_of_row w g _ _ t h⟩⟩
 rw [cell_of_row w g _ _ t (0, 0) h]
 have : i < cs.length := by omega
 simp [List.getD, Array.getElem?_append, this]
def Fresh (w : World) (lo hi : Nat) (e : TypeId) (size : Nat) (v : Value) (n : Nat) (cs : List Value) : Prop :=
 (n = 0 ∧ cs = [] ∧ ∃ g, v = .slice (some ⟨g, 0, none⟩) 0 0) ∨ (w.ownsRow lo e size v n cs ∧ ∀ k, v.ownBlock = some k → k < hi)
theorem owns_kept {w w' : World} {base : Nat} {e : TypeId} {size : Nat} {v : Value} {n : Nat} {xs : List Value} (h : w.ownsRow base e size v n xs) {l u : Nat} (hk : Kept l u w w') (hd : ∀ k, v.ownBlock = some k → k < l ∨ u ≤ k) : w'.ownsRow base e size v n xs := by
 refine ⟨h.1, ?_⟩
 rcases h.2 with h2 | ⟨g, cap, cur, rfl, hg, hh, r⟩
 ·exact Or.inl h2
 ·exact Or.inr ⟨g, cap, cur, rfl, hg, by rw [hk.block g (Array.getElem?_eq_some_iff.1 hh).1 (hd g rfl)]; exact hh, r⟩
theorem run_append_fresh {P : Program} (w : World) (t ty e : TypeId) (i : TypeInfo) (z : Value) (size bytes : Nat) (ht : P.underlying t = some (.slice e)) (hi : P.info? e = some i) (hz : i.zero = some z) (hsize : i.size = size) (hby : i.bytes = bytes) (hzs0 : z.cells.size = i.size)
  (g : Nat) {o : Bool} {l u : Nat} (ao : Option Addr) (m c : Nat) (news : List Value) (hsrc : RowAt w o l u size ao m c news) (h1 : ∀ x ∈ news, x.oneCell' = true) (h63 : m ≤ 1048576) (hb : bytes ≤ 1048576) :
  ∃ ad' cap' w', (Builtin.append_ #[t, t] ty #[.slice (some ⟨g, 0, none⟩) 0 0, .slice ao m c]).run P w = .ok (.slice (some ad') m cap') w' ∧ RowAt w' true w.heap.size w'.heap.size size (some ad') m cap' news ∧ Below w.heap.size w w' ∧ Fresh w' w.heap.size w'.heap.size e size (.slice (some ad') m cap') m news := by
 subst hsize
 subst hby
 have hs := row_src ht hsrc h1
 by_cases hm : m = 0
 ·subst hm
  have hn : news = [] := List.eq_nil_of_length_eq_zero (by have := hsrc.len; omega)
  subst hn
  refine ⟨⟨g, 0, none⟩, 0, w, ?_, ⟨by simp, Nat.le_refl _, fun h => absurd rfl h⟩, Below.refl _ _, Or.inl ⟨rfl, rfl, _, rfl⟩⟩
  have := run_append_room_src (P := P) w t t ty e i ht hi g 0 0 0 (.slice ao 0 c) 0 [] hs (by omega) (fun j hj => by simp at hj) (fun j hj => by simp at hj)
  simpa [World.setCells] using this
 ·have hold : (Builtin.firstCells i.size 0 (.slice (some ⟨g, 0, none⟩) 0 0)).run P w.drew = .ok ([] : List Value).toArray w.drew := run_firstCells_some w.drew i.size 0 ⟨g, 0, none⟩ 0 0 [] (by simp) (fun j v hj => by simp at hj)
  have hmb : m * i.bytes ≤ 140737488355328 := Nat.le_trans (Nat.mul_le_mul h63 hb) (by decide)
  have := run_append_grow_src (P := P) w t t ty e i z ht hi hz (some ⟨g, 0, none⟩) 0 0 [] hold (.slice ao m c) m news hs (by omega) (by omega) (by rw [Nat.zero_add]; exact growslice_fits (by omega) hmb)
  rw [Nat.zero_add] at this
  have hzs : z.cells.size = i.size := hzs0
  refine ⟨_, _, _, this, ?_, (Below.refl _ _).drew.alloc (Nat.le_refl _) _, Or.inr ⟨⟨hsrc.len, Or.inr ⟨w.heap.size, _, _, rfl, Nat.le_refl _, heap_alloc_new w.drew _, grownCap_ge w m 0 e, grownCap_le_maxLen w m 0 e (by unfold maxLen; omega), ?_, ?_⟩⟩, fun k hk => by simp [Value.ownBlock] at hk; subst hk; simp⟩⟩
  rotate_left 1
  ·rw [Array.size_append, size_zeroCells, hzs]
   have := grownCap_ge w m 0 e
   have hl := hsrc.len
   simp only [List.nil_append, List.size_toArray, hl]
   rw [← Nat.add_mul]
   congr 1
   omega
  ·simp [hsrc.len]
  have hh : (w.drew.alloc (.cells (([] ++ news).toArray ++ Builtin.zeroCells z.cells (grownCap w m 0 e - m)) e)).heap[w.heap.size]? = some (.cells (news.toArray ++ Builtin.zeroCells z.cells (grownCap w m 0 e - m)) e (0, 0)) := heap_alloc_new w.drew _
  exact (RowAt.of_front hh hsrc.len (grownCap_ge w m 0 e)).widen (Nat.le_refl _) (by simp)
theorem wrapI_same (n : Int) (h : -9223372036854775808 ≤ n ∧ n ≤ 9223372036854775807) : IntKind.i64.wrap n = n := by rw [IntKind.wrap_i64]; omega
theorem row_lit (W : World) (cs : List Value) (t : TypeId) (n size : Nat) (h : cs.length = n * size) : RowAt (W.alloc (.cells cs.toArray t)) true W.heap.size (W.heap.size + 1) size (some ⟨W.heap.size, 0, none⟩) n n cs :=
 RowAt.of_front (rest := #[]) (by simpa using heap_alloc_new W (.cells cs.toArray t)) h (Nat.le_refl _)
end Go.Proofs.YtonclmbihhdkpaaGreat
