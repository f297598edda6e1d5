/- Chapter 4: nodes in memory: a row of three cells a node, and a row of kids each. -/
import Derived.Test.YtonclmbihhdkpaaGreatQAB
import Derived.Laws.CopyRow
import Derived.Lib.SliceRun
import Derived.Lib.Overlaps
import Derived.Lib.AppendZeros
import Derived.Laws.Externs
import Derived.Deep.AppendSrc
import Derived.BigQuiet
import Derived.Deep.AppendLies
import Derived.Deep.RegionLaw
import Derived.Laws.ComplexArith
import Derived.Laws.StructEq
import Derived.Laws.Cover3
set_option maxRecDepth 20000
set_option maxHeartbeats 16000000
namespace Go.Proofs.YtonclmbihhdkpaaGreat
open Go.RowKit
structure KeptS (S : Nat → Prop) (w w' : World) : Prop where
 os : w'.os = w.os
 tape : w'.tape = w.tape
 output : w'.output = w.output
 size : w.heap.size ≤ w'.heap.size
 block : ∀ k, k < w.heap.size → ¬ S k → w'.heap[k]? = w.heap[k]?
theorem KeptS.refl (S : Nat → Prop) (w : World) : KeptS S w w := ⟨rfl, rfl, rfl, Nat.le_refl _, fun _ _ _ => rfl⟩
theorem KeptS.trans {S : Nat → Prop} {a b c : World} (h : KeptS S a b) (k : KeptS S b c) : KeptS S a c :=
 ⟨k.os.trans h.os, k.tape.trans h.tape, k.output.trans h.output, Nat.le_trans h.size k.size, fun i hi ho => (k.block i (Nat.lt_of_lt_of_le hi h.size) ho).trans (h.block i hi ho)⟩
theorem KeptS.mono {S T : Nat → Prop} {w w' : World} (h : KeptS S w w') (hst : ∀ k, S k → T k) : KeptS T w w' := ⟨h.os, h.tape, h.output, h.size, fun k hk ho => h.block k hk fun hs => ho (hst k hs)⟩
theorem Kept.toS {lo hi : Nat} {S : Nat → Prop} {w w' : World} (h : Kept lo hi w w') (hs : ∀ k, lo ≤ k → k < hi → S k) : KeptS S w w' := ⟨h.os, h.tape, h.output, h.size, fun k hk ho => h.block k hk (by
 by_cases h1 : k < lo
 ·exact Or.inl h1
 ·by_cases h2 : hi ≤ k
  ·exact Or.inr h2
  ·exact absurd (hs k (by omega) (by omega)) ho)⟩
theorem KeptS.kept {S : Nat → Prop} {lo hi : Nat} {w w' : World} (h : KeptS S w w') (hs : ∀ k, S k → lo ≤ k ∧ k < hi) : Kept lo hi w w' := ⟨h.os, h.tape, h.output, h.size, fun k hk ho => h.block k hk fun hS => by have := hs k hS; omega⟩
theorem KeptS.below {S : Nat → Prop} {w w' : World} (h : Below w.heap.size w w') : KeptS S w w' := ⟨h.os, h.tape, h.output, h.size, fun k hk _ => h.block k hk⟩
theorem KeptS.cell {S : Nat → Prop} {w w' : World} (h : KeptS S w w') {b o : Nat} {v : Value} (hc : w.cell? ⟨b, o, none⟩ = some v) (hb : b < w.heap.size) (hs : ¬ S b) : w'.cell? ⟨b, o, none⟩ = some v := by
 rw [World.cell?_of_block (w := w) (a := ⟨b, o, none⟩) (h.block b hb hs)]; exact hc
theorem KeptS.frozen {S : Nat → Prop} {w w' : World} (h : KeptS S w w') {b o : Nat} {v : Bool} (hc : w.frozen? ⟨b, o, none⟩ = v) (hb : b < w.heap.size) (hs : ¬ S b) : w'.frozen? ⟨b, o, none⟩ = v := by
 rw [World.frozen?_of_block (w := w) (a := ⟨b, o, none⟩) (h.block b hb hs)]; exact hc
theorem RowAt.keptS {w w' : World} {own : Bool} {lo hi size : Nat} {ao : Option Addr} {n cap : Nat} {cs : List Value} (h : RowAt w own lo hi size ao n cap cs) {S : Nat → Prop} (hk : KeptS S w w') (hd : ∀ a, n ≠ 0 → ao = some a → ¬ S a.block) : RowAt w' own lo hi size ao n cap cs := by
 refine ⟨h.len, h.le, fun hn => ?_⟩
 obtain ⟨b, off, rfl, h1, h2, h3, h4, h5⟩ := h.cells hn
 have hs := hd _ hn rfl
 exact ⟨b, off, rfl, h1, h2, Nat.lt_of_lt_of_le h3 hk.size, fun i hi => hk.cell (h4 i hi) h3 hs, fun ho i hi => hk.frozen (h5 ho i hi) h3 hs⟩
theorem KeptS.setCell {S : Nat → Prop} {a w : World} (h : KeptS S a w) {p : Addr} (h1 : S p.block) (u : Value) : KeptS S a (w.setCell p u) :=
 h.trans ⟨rfl, rfl, rfl, by simp [World.setCell], fun k _ ho => Below.heap_setCell _ _ _ _ (fun e => ho (e ▸ h1))⟩
abbrev KS := Option Addr × Nat × Nat
def ksv (k : KS) : Value := .slice k.1 k.2.1 k.2.2
def flat3 (n : Nat) (g0 g1 g2 : Nat → Value) : List Value := (List.range (n * 3)).map fun j => if j % 3 = 0 then g0 (j / 3) else if j % 3 = 1 then g1 (j / 3) else g2 (j / 3)
def ncells (K : Nat → KS) (ns : List Nd) : List Value := flat3 ns.length (fun i => .int .i64 (ns.getD i nd0).1) (fun i => .bool (ns.getD i nd0).2.1) (fun i => ksv (K i))
def updK (K : Nat → KS) (i : Nat) (k : KS) : Nat → KS := fun j => if j = i then k else K j
def sb (ao : Option Addr) : Nat := match ao with | some a => a.block | none => 0
structure NodesAt (w : World) (own : Bool) (lo hi : Nat) (ao : Option Addr) (n cap : Nat) (K : Nat → KS) (ns : List Nd) : Prop where
 len : ns.length = n
 row : RowAt w own lo hi 3 ao n cap (ncells K ns)
 kids : ∀ i, i < n → RowAt w own lo hi 1 (K i).1 (K i).2.1 (K i).2.2 (ints (ns.getD i nd0).2.2)
 sep : own = true → ∀ i, i < n → (K i).2.1 ≠ 0 → sb (K i).1 ≠ sb ao ∧ ∀ j, j < n → j ≠ i → (K j).2.1 ≠ 0 → sb (K j).1 ≠ sb (K i).1
def inN (ao : Option Addr) (n : Nat) (K : Nat → KS) (k : Nat) : Prop := (n ≠ 0 ∧ k = sb ao) ∨ ∃ i, i < n ∧ (K i).2.1 ≠ 0 ∧ k = sb (K i).1
structure FoAt (w : World) (own : Bool) (lo hi : Nat) (an : Option Addr) (nn cn : Nat) (ab : Option Addr) (nb cb : Nat) (K : Nat → KS) (f : Fo) : Prop where
 nodes : NodesAt w own lo hi an nn cn K f.1
 blocks : RowAt w own lo hi 2 ab nb cb (pairs f.2)
 sep : own = true → nb ≠ 0 → ¬ inN an nn K (sb ab)
def kl (ns : List Nd) (i : Nat) : Nat := ((ns.take i).map fun nd => nd.2.2.length).sum
structure NewB (w W : World) (b : Nat) (cs : Array Value) : Prop where
 bl : b = w.heap.size
 sz : W.heap.size = w.heap.size + 1
 below : Below w.heap.size w W
 cell : ∀ (k : Nat) (v : Value), cs[k]? = some v → W.cell? ⟨b, k, none⟩ = some v
 froz : ∀ k : Nat, W.frozen? ⟨b, k, none⟩ = false
theorem NewB.lt {w W : World} {b : Nat} {cs : Array Value} (h : NewB w W b cs) : b < W.heap.size := by rw [h.sz, h.bl]; exact Nat.lt_succ_self _
theorem NewB.ge {w W : World} {b : Nat} {cs : Array Value} (h : NewB w W b cs) : w.heap.size ≤ b := Nat.le_of_eq h.bl.symm
theorem newB_mk (w : World) (cs : Array Value) (t : TypeId) : NewB w (w.alloc (.cells cs t)) w.heap.size cs :=
 ⟨rfl, by simp, (Below.refl _ _).alloc (Nat.le_refl _) _, fun k v h => by simpa using h, fun k => by simp⟩
theorem alloc_new {P : Program} {ops : Array Oper} {rest : List Oper} {dst : Option Tmp} {type : TypeId} {pos : String} {after : Array Edge} {a : Act} {w : World} {Q : Exit → Act → World → Prop} (ty : TypeId) (cs : Array Value) (hz : ∀ w, (zeroValue ty).run P w = .ok (.agg cs) w)
  (h : ∀ (b : Nat) (W : World), NewB w W b cs → wpList P ops Q rest (a.put dst (.pointer (some ⟨b, 0, none⟩))) W) : wpList P ops Q (⟨dst, .alloc ty, type, pos, after, none⟩ :: rest) a w := by
 refine wpList_plain rfl fun K hK => ?_
 unfold Oper.wp execOp
 go_simp
 exact hK _ _ (h _ _ (newB_mk _ _ _))
theorem size_setCells' (b : Nat) : ∀ (vs : List Value) (o : Nat) (w : World), (w.setCells b o vs).heap.size = w.heap.size
 | [], _, _ => rfl
 | v :: r, o, w => by rw [World.setCells, size_setCells' b r (o + 1)]; simp
structure SetB (w W : World) (b : Nat) (cs : List Value) : Prop where
 kept : Kept b (b + 1) w W
 cell : ∀ (k : Nat) (v : Value), cs[k]? = some v → W.cell? ⟨b, k, none⟩ = some v
 froz : ∀ q k : Nat, W.frozen? ⟨q, k, none⟩ = w.frozen? ⟨q, k, none⟩
 size : W.heap.size = w.heap.size
theorem there6 {w : World} {b : Nat} {v0 v1 v2 v3 v4 v5 : Value} (c0 : w.cell? ⟨b, 0, none⟩ = some v0) (c1 : w.cell? ⟨b, 1, none⟩ = some v1) (c2 : w.cell? ⟨b, 2, none⟩ = some v2) (c3 : w.cell? ⟨b, 3, none⟩ = some v3) (c4 : w.cell? ⟨b, 4, none⟩ = some v4) (c5 : w.cell? ⟨b, 5, none⟩ = some v5) (y0 : w.frozen? ⟨b, 0, none⟩ = false) (y1 : w.frozen? ⟨b, 1, none⟩ = false) (y2 : w.frozen? ⟨b, 2, none⟩ = false) (y3 : w.frozen? ⟨b, 3, none⟩ = false) (y4 : w.frozen? ⟨b, 4, none⟩ = false) (y5 : w.frozen? ⟨b, 5, none⟩ = false) : w.there b 0 6 := fun j hj => by
 rcases (by omega : j = 0 ∨ j = 1 ∨ j = 2 ∨ j = 3 ∨ j = 4 ∨ j = 5) with rfl | rfl | rfl | rfl | rfl | rfl
 ·exact ⟨by rw [c0]; rfl, y0⟩
 ·exact ⟨by rw [c1]; rfl, y1⟩
 ·exact ⟨by rw [c2]; rfl, y2⟩
 ·exact ⟨by rw [c3]; rfl, y3⟩
 ·exact ⟨by rw [c4]; rfl, y4⟩
 ·exact ⟨by rw [c5]; rfl, y5⟩
theorem setB_cells {w : World} {b : Nat} {cs : List Value} {n : Nat} (hn : cs.length = n) (ht : w.there b 0 n) : SetB w (w.setCells b 0 cs) b cs := by
 refine ⟨?_, ?_, ?_, ?_⟩
 ·exact (Kept.refl _ _ _).setCells (Nat.le_refl _) (Nat.lt_succ_self _) _ _
 ·intro k v hv
  have hk : k < cs.length := by
   rcases Nat.lt_or_ge k cs.length with h' | h'
   ·exact h'
   ·rw [List.getElem?_eq_none h'] at hv; cases hv
  have := World.cell?_setCells_in b cs 0 w (fun j hj => (ht j (by omega)).1) k hk
  rw [Nat.zero_add] at this
  simpa [List.getElem?_eq_getElem hk] using this.trans (by rw [← hv, List.getElem?_eq_getElem hk])
 ·intro q k; simp [World.frozen?_setCells]
 ·exact size_setCells' b cs 0 w
theorem store_box {P : Program} {ops : Array Oper} {rest : List Oper} {dst : Option Tmp} {type : TypeId} {pos : String} {after : Array Edge} {a : Act} {w : World} {Q : Exit → Act → World → Prop} (ty : TypeId) {x y : Operand} (b : Nat) (cs : List Value) {n : Nat} (hn : cs.length = n) (ht : w.there b 0 n) (hi : (P.info? ty).map (·.size) = some n) (h1 : ∀ v ∈ cs, v.oneCell' = true) (hx : a.eval x = .pointer (some ⟨b, 0, none⟩)) (hy : a.eval y = .agg cs.toArray)
  (h : ∀ W : World, SetB w W b cs → wpList P ops Q rest (a.put dst undef) W) : wpList P ops Q (⟨dst, .store ty x y, type, pos, after, none⟩ :: rest) a w := by
 refine wpList_plain rfl fun K hK => ?_
 refine wp_store_mid ty x y rfl b 0 cs.toArray hx hy (by rw [List.size_toArray, hn]; exact ht) (by rw [List.size_toArray, hn]; exact hi) (all_oneCell_toArray h1) (hK _ _ (h _ (setB_cells hn ht)))
theorem Kept.fr {lo hi : Nat} {w w' : World} (h : Kept lo hi w w') {b o : Nat} (hf : w.frozen? ⟨b, o, none⟩ = false) (hb : b < lo ∨ hi ≤ b) (hs : b < w.heap.size) : w'.frozen? ⟨b, o, none⟩ = false := by
 rw [World.frozen?_of_block (w := w) (w' := w') (a := ⟨b, o, none⟩) (h.block b hs (by omega))]; exact hf
def Blk (w : World) (b : Nat) (e : TypeId) (L : List Value) : Prop := w.heap[b]? = some (.cells L.toArray e (0, 0))
theorem step_append_run {P : Program} {ops : Array Oper} {o : Oper} {a : Act} {w : World} {K : Act → World → Prop} {Q : Exit → Act → World → Prop} {E : Prop}
  (hg : o.guard = none) (s x : Operand) (t tn : TypeId) (ho : o.op = .call { callee := .builtin .append, args := #[s, x], argTypes := #[t, tn] })
  (vs vx : Value) (hs : a.eval s = vs) (hx : a.eval x = vx) (v' : Value) (w' : World) (hr : (Builtin.append_ #[t, tn] o.type #[vs, vx]).run P w = .ok v' w') (hK : K (a.put o.dst v') w') :
  if Region.wanted o (yielded ops a.tmps) = true then Oper.wp P o a w K Q else E := by
 have hw : Region.wanted o (yielded ops a.tmps) = true := by simp [Region.wanted, hg]
 rw [if_pos hw]
 exact Lib.wp_append_run w s x t tn ho vs vx hs hx v' w' hr hK
theorem l1In_bool (x a b : Int) (w : World) (d : Bool) (h : decide (a ≤ x ∧ x ≤ b) = d) : Calls Tryz.prog 126 #[.int .i64 x, .int .i64 a, .int .i64 b] w fun e w' => e = .returned (.bool d) ∧ w' = w := by rw [← h]; exact l1In_any x a b w
theorem l3Data_is (x : Int) (w : World) (d : Bool) (h : dataB x = d) : Calls Tryz.prog 226 #[.int .i64 x] w fun e w' => e = .returned (.bool d) ∧ w' = w := by
 have H : Hid (decide (0 ≤ x ∧ x ≤ 255) = d) := h
 clear h
 go_enter Tryz.func226, Tryz.ntmps226
 go_wp2_with fail
 refine (l1In_bool x 0 255 _ d H.out).mono ?_
 rintro e w1 ⟨rfl, rfl⟩
 go_wp2
 go_ret
 exact ⟨rfl, rfl⟩
section
variable {o : Bool} {l u : Nat} (p : Nat) (an : Option Addr) (nn cn : Nat) (ab : Option Addr) (nb cb : Nat) (K : Nat → KS) (f : Fo) (w : World) (h : FoAt w o l u an nn cn ab nb cb K f) (hp0 : w.cell? ⟨p, 0, none⟩ = some (.slice an nn cn)) (hp1 : w.cell? ⟨p, 1, none⟩ = some (.slice ab nb cb)) (hn : nn ≤ 2097152) (hb : nb ≤ 2097152)
include h hp0 hp1 hn hb
end
section
variable {o : Bool} {l u : Nat} (p : Nat) (an : Option Addr) (nn cn : Nat) (ab : Option Addr) (nb cb : Nat) (K : Nat → KS) (f : Fo) (w : World) (h : FoAt w o l u an nn cn ab nb cb K f) (hp0 : w.cell? ⟨p, 0, none⟩ = some (.slice an nn cn)) (hp1 : w.cell? ⟨p, 1, none⟩ = some (.slice ab nb cb)) (hn : nn ≤ 2097152) (hb : nb ≤ 2097152)
include h hp0 hp1 hn hb
end
section
variable {o : Bool} {l u : Nat} (p : Nat) (an : Option Addr) (nn cn : Nat) (ab : Option Addr) (nb cb : Nat) (K : Nat → KS) (f : Fo) (w : World) (h : FoAt w o l u an nn cn ab nb cb K f) (hp0 : w.cell? ⟨p, 0, none⟩ = some (.slice an nn cn)) (hn : nn ≤ 60)
include h hp0 hn
end
section
variable {o : Bool} {l u : Nat} (p : Nat) (an : Option Addr) (nn cn : Nat) (ab : Option Addr) (nb cb : Nat) (K : Nat → KS) (f : Fo) (w : World) (h : FoAt w o l u an nn cn ab nb cb K f) (hp0 : w.cell? ⟨p, 0, none⟩ = some (.slice an nn cn)) (hp1 : w.cell? ⟨p, 1, none⟩ = some (.slice ab nb cb)) (hn : nn ≤ 2097152) (hb : nb ≤ 2097152) (hK : ∀ i, i < nn → (K i).2.1 ≤ 2097152)
include h hp0 hp1 hn hb hK
end
theorem l4Place_is (x : Int) (w : World) (d : Bool) (h : spotB x = d) : Calls Tryz.prog 225 #[.int .i64 x] w fun e w' => e = .returned (.bool d) ∧ w' = w := by
 have H : Hid (decide (0 ≤ x ∧ x ≤ 15) = d) := h
 clear h
 go_enter Tryz.func225, Tryz.ntmps225
 go_wp2_with fail
 refine (l1In_bool x 0 15 _ d H.out).mono ?_
 rintro e w1 ⟨rfl, rfl⟩
 go_wp2
 go_ret
 exact ⟨rfl, rfl⟩
section
variable {o : Bool} {l u : Nat} (p : Nat) (an : Option Addr) (nn cn : Nat) (ab : Option Addr) (nb cb : Nat) (K : Nat → KS) (f : Fo) (w : World) (h : FoAt w o l u an nn cn ab nb cb K f) (hp0 : w.cell? ⟨p, 0, none⟩ = some (.slice an nn cn)) (hn : nn ≤ 2097152)
include h hp0 hn
end
section
variable {o : Bool} {l u : Nat} (p : Nat) (an : Option Addr) (nn cn : Nat) (ab : Option Addr) (nb cb : Nat) (K : Nat → KS) (f : Fo) (w : World) (h : FoAt w o l u an nn cn ab nb cb K f) (hp0 : w.cell? ⟨p, 0, none⟩ = some (.slice an nn cn)) (hp1 : w.cell? ⟨p, 1, none⟩ = some (.slice ab nb cb)) (hn : nn ≤ 2097152) (hb : nb ≤ 2097152) (hK : ∀ i, i < nn → (K i).2.1 ≤ 2097152)
include h hp0 hp1 hn hb hK
end
section
variable {o : Bool} {l u : Nat} (an : Option Addr) (nn cn : Nat) (ab : Option Addr) (nb cb : Nat) (K : Nat → KS) (f : Fo) (w : World) (h : FoAt w o l u an nn cn ab nb cb K f) (hn : nn ≤ 2097152) (hb : nb ≤ 2097152) (hK : ∀ i, i < nn → (K i).2.1 ≤ 2097152)
include h hn hb hK
end
section
variable {o : Bool} {l u : Nat} (p : Nat) (an : Option Addr) (nn cn : Nat) (ab : Option Addr) (nb cb : Nat) (K : Nat → KS) (f : Fo) (w : World) (h : FoAt w o l u an nn cn ab nb cb K f) (hp0 : w.cell? ⟨p, 0, none⟩ = some (.slice an nn cn)) (hp1 : w.cell? ⟨p, 1, none⟩ = some (.slice ab nb cb)) (hn : nn ≤ 2097152)
include h hp0 hp1 hn
end
section
variable {o : Bool} {l u : Nat} (an : Option Addr) (nn cn : Nat) (ab : Option Addr) (nb cb : Nat) (K : Nat → KS) (f : Fo) (w : World) (h : FoAt w o l u an nn cn ab nb cb K f) (hn : nn ≤ 2097152) (hb : nb ≤ 2097152) (hK : ∀ i, i < nn → (K i).2.1 ≤ 2097152)
include h hn hb hK
end
structure Stays (f D : Fo) (root : Int) : Prop where
 right : Right D
 ro : RootIs D root
 pl : ∀ k : Int, 0 ≤ k → k ≤ 15 → blockAt D root k = blockAt f root k
 dt : ∀ k : Int, 0 ≤ k → k ≤ 15 → 0 ≤ blockAt f root k → (blockOf D (blockAt f root k).toNat).2 = (blockOf f (blockAt f root k).toNat).2
section
variable {x : Int} (h0 : 0 ≤ x) (h1 : x ≤ 256)
include h0 h1
end
def Small (p : Int × Int) : Prop := (0 ≤ p.1 ∧ p.1 ≤ 256) ∧ 0 ≤ p.2 ∧ p.2 ≤ 256
def Fine (bs : List (Int × Int)) : Prop := ∀ p ∈ bs, Small p ∧ (p.1 = 0 → p.2 = 0)
theorem isTreePlace_is (x : Int) (w : World) (d : Bool) (h : spotB x = d) : Calls Tryz.prog 223 #[.int .i64 x] w fun e w' => e = .returned (.bool d) ∧ w' = w := by
 subst h
 unfold spotB
 by_cases h0 : 0 ≤ x
 ·by_cases h1 : x < 16
  ·go_enter Tryz.func223, Tryz.ntmps223
   go_wp2
   go_ret
   exact ⟨ret_bool (by simp; omega), rfl⟩
  ·go_enter Tryz.func223, Tryz.ntmps223
   go_wp2
   go_ret
   exact ⟨ret_bool (by simp; omega), rfl⟩
 ·go_enter Tryz.func223, Tryz.ntmps223
  go_wp2
  go_ret
  exact ⟨ret_bool (by simp; omega), rfl⟩
section
variable {o : Bool} {l u : Nat} (an : Option Addr) (nn cn : Nat) (ab : Option Addr) (nb cb : Nat) (K : Nat → KS) (f : Fo) (w : World) (h : FoAt w o l u an nn cn ab nb cb K f) (hn : nn ≤ 2097152) (hb : nb ≤ 2097152)
include h hn hb
end
section
variable {o : Bool} {l u : Nat} (an : Option Addr) (nn cn : Nat) (ab : Option Addr) (nb cb : Nat) (K : Nat → KS) (f : Fo) (w : World) (h : FoAt w o l u an nn cn ab nb cb K f) (hn : nn ≤ 2097152) (hb : nb ≤ 2097152)
include h hn hb
end
def fn (n : Nat) (g : Nat → Int) : List Int := (List.range n).map g
section
variable {o : Bool} {l u : Nat} (an : Option Addr) (nn cn : Nat) (ab : Option Addr) (nb cb : Nat) (K : Nat → KS) (f : Fo) (w : World) (h : FoAt w o l u an nn cn ab nb cb K f)
include h
end
section
variable {o : Bool} {l u : Nat} (an : Option Addr) (nn cn : Nat) (ab : Option Addr) (nb cb : Nat) (K : Nat → KS) (f : Fo) (w : World) (h : FoAt w o l u an nn cn ab nb cb K f) (hn : nn ≤ 2097152) (hb : nb ≤ 2097152) (hK : ∀ i, i < nn → (K i).2.1 ≤ 2097152)
include h hn hb hK
end
section
variable {o : Bool} {l u : Nat} (an : Option Addr) (nn cn : Nat) (ab : Option Addr) (nb cb : Nat) (K : Nat → KS) (f : Fo) (w : World) (h : FoAt w o l u an nn cn ab nb cb K f)
include h
end
section
variable {o : Bool} {l u : Nat} (an : Option Addr) (nn cn : Nat) (ab : Option Addr) (nb cb : Nat) (K : Nat → KS) (f : Fo) (w : World) (h : FoAt w o l u an nn cn ab nb cb K f) (hn : nn ≤ 2097152) (hb : nb ≤ 2097152) (hK : ∀ i, i < nn → (K i).2.1 ≤ 2097152)
include h hn hb hK
end
abbrev Vo := Int × Int × Int
def vo0 : Vo := (0, 0, 0)
def trips (vs : List Vo) : List Value := flat3 vs.length (fun i => .int .i64 (vs.getD i vo0).1) (fun i => .int .i64 (vs.getD i vo0).2.1) (fun i => .int .i64 (vs.getD i vo0).2.2)
def volIdB (x : Int) : Bool := decide (1 ≤ x ∧ x ≤ 99)
def quotaB (x : Int) : Bool := decide (1 ≤ x ∧ x ≤ 16)
def opAt (k : Int) : Bool := k == 2 || k == 3 || k == 4
def opVal (k : Int) : Bool := k == 1 || k == 2 || k == 5
def opValB (k x : Int) : Bool := if k = 1 then quotaB x else if k = 2 then dataB x else if k = 5 then volIdB x else true
def opF (k v a x : Int) : Int :=
 if 1 ≤ k ∧ k ≤ 6 then
  (if volIdB v && (!opAt k || spotB a) && opValB k x then
   (if (!opAt k && a != 0) || (!opVal k && x != 0) then 1 else 0)
  else 3)
 else 1
theorem l5Id_is (x : Int) (w : World) (d : Bool) (h : volIdB x = d) : Calls Tryz.prog 224 #[.int .i64 x] w fun e w' => e = .returned (.bool d) ∧ w' = w := by
 go_enter Tryz.func224, Tryz.ntmps224
 go_wp2_with fail
 refine (l1In_any x 1 99 _).mono ?_
 rintro e w1 ⟨rfl, rfl⟩
 go_wp2
 go_ret
 exact ⟨by rw [← h, volIdB, Bool.decide_and]; rfl, rfl⟩
theorem isVolId_is (x : Int) (w : World) (d : Bool) (h : volIdB x = d) : Calls Tryz.prog 222 #[.int .i64 x] w fun e w' => e = .returned (.bool d) ∧ w' = w := by
 unfold volIdB at h
 by_cases h1 : 1 ≤ x
 ·by_cases h2 : x ≤ 99
  ·have e : d = true := by rw [← h]; exact decide_eq_true ⟨h1, h2⟩
   subst e
   clear h
   go_enter Tryz.func222, Tryz.ntmps222
   go_wp2
   go_ret
   exact ⟨rfl, rfl⟩
  ·have e : d = false := by rw [← h]; exact decide_eq_false (by omega)
   subst e
   clear h
   go_enter Tryz.func222, Tryz.ntmps222
   go_wp2
   go_ret
   exact ⟨rfl, rfl⟩
 ·have e : d = false := by rw [← h]; exact decide_eq_false (by omega)
  subst e
  clear h
  go_enter Tryz.func222, Tryz.ntmps222
  go_wp2
  go_ret
  exact ⟨rfl, rfl⟩
section
variable {o : Bool} {l u : Nat} (p : Nat) (an : Option Addr) (nn cn : Nat) (ab : Option Addr) (nb cb : Nat) (K : Nat → KS) (f : Fo) (w : World) (h : FoAt w o l u an nn cn ab nb cb K f) (hp0 : w.cell? ⟨p, 0, none⟩ = some (.slice an nn cn)) (hp1 : w.cell? ⟨p, 1, none⟩ = some (.slice ab nb cb)) (hn : nn ≤ 2097152)
include h hp0 hp1 hn
end
section
variable {o o2 : Bool} {l u l2 u2 : Nat} (p : Nat) (an : Option Addr) (nn cn : Nat) (ab : Option Addr) (nb cb : Nat) (av : Option Addr) (nv cv : Nat) (K : Nat → KS) (f : Fo) (vs : List Vo) (w : World) (h : FoAt w o l u an nn cn ab nb cb K f) (hv : RowAt w o2 l2 u2 3 av nv cv (trips vs)) (hp0 : w.cell? ⟨p, 0, none⟩ = some (.slice an nn cn)) (hp1 : w.cell? ⟨p, 1, none⟩ = some (.slice ab nb cb)) (hp2 : w.cell? ⟨p, 2, none⟩ = some (.slice av nv cv)) (hn : nn ≤ 2097152) (hb : nb ≤ 2097152) (hK : ∀ i, i < nn → (K i).2.1 ≤ 2097152)
include h hv hp0 hp1 hp2 hn hb hK
end
section
variable {o o2 : Bool} {l u l2 u2 : Nat} (p : Nat) (an : Option Addr) (nn cn : Nat) (ab : Option Addr) (nb cb : Nat) (av : Option Addr) (nv cv : Nat) (K : Nat → KS) (f : Fo) (vs : List Vo) (w : World) (h : FoAt w o l u an nn cn ab nb cb K f) (hv : RowAt w o2 l2 u2 3 av nv cv (trips vs)) (hp0 : w.cell? ⟨p, 0, none⟩ = some (.slice an nn cn)) (hp1 : w.cell? ⟨p, 1, none⟩ = some (.slice ab nb cb)) (hp2 : w.cell? ⟨p, 2, none⟩ = some (.slice av nv cv)) (hn : nn ≤ 2097152) (hb : nb ≤ 2097152) (hK : ∀ i, i < nn → (K i).2.1 ≤ 2097152)
include h hv hp0 hp1 hp2 hn hb hK
end
section
variable {o o2 : Bool} {l u l2 u2 : Nat} (an : Option Addr) (nn cn : Nat) (ab : Option Addr) (nb cb : Nat) (av : Option Addr) (nv cv : Nat) (K : Nat → KS) (f : Fo) (vs : List Vo) (w : World) (h : FoAt w o l u an nn cn ab nb cb K f) (hv : RowAt w o2 l2 u2 3 av nv cv (trips vs)) (hn : nn ≤ 2097152) (hb : nb ≤ 2097152) (hK : ∀ i, i < nn → (K i).2.1 ≤ 2097152) (hvn : nv ≤ 2097152)
include h hv hn hb hK hvn
end
section
variable {o : Bool} {l u : Nat} (an : Option Addr) (nn cn : Nat) (ab : Option Addr) (nb cb : Nat) (K : Nat → KS) (f : Fo) (w : World) (h : FoAt w o l u an nn cn ab nb cb K f)
include h
end
section
variable {o o2 : Bool} {l u l2 u2 : Nat} (an : Option Addr) (nn cn : Nat) (ab : Option Addr) (nb cb : Nat) (av : Option Addr) (nv cv : Nat) (K : Nat → KS) (f : Fo) (vs : List Vo) (w : World) (h : FoAt w o l u an nn cn ab nb cb K f) (hv : RowAt w o2 l2 u2 3 av nv cv (trips vs))
include h hv
end
section
variable {o2 : Bool} {l2 u2 : Nat} (p : Nat) (av : Option Addr) (nv cv : Nat) (vs : List Vo) (w : World) (hv : RowAt w o2 l2 u2 3 av nv cv (trips vs)) (hp2 : w.cell? ⟨p, 2, none⟩ = some (.slice av nv cv)) (hvn : nv ≤ 2097152)
include hv hp2 hvn
end
section
variable {o o2 : Bool} {l u l2 u2 : Nat} (an : Option Addr) (nn cn : Nat) (ab : Option Addr) (nb cb : Nat) (av : Option Addr) (nv cv : Nat) (K : Nat → KS) (f : Fo) (vs : List Vo) (w : World) (h : FoAt w o l u an nn cn ab nb cb K f) (hv : RowAt w o2 l2 u2 3 av nv cv (trips vs)) (hn : nn ≤ 2097152) (hb : nb ≤ 2097152) (hK : ∀ i, i < nn → (K i).2.1 ≤ 2097152) (hvn : nv ≤ 2097152)
include h hv hn hb hK hvn
end
section
variable {o o2 : Bool} {l u l2 u2 : Nat} (an : Option Addr) (nn cn : Nat) (ab : Option Addr) (nb cb : Nat) (av : Option Addr) (nv cv : Nat) (K : Nat → KS) (f : Fo) (vs : List Vo) (w : World) (h : FoAt w o l u an nn cn ab nb cb K f) (hv : RowAt w o2 l2 u2 3 av nv cv (trips vs))
include h hv
end
section
variable {o o2 : Bool} {l u l2 u2 : Nat} (an : Option Addr) (nn cn : Nat) (ab : Option Addr) (nb cb : Nat) (av : Option Addr) (nv cv : Nat) (K : Nat → KS) (f : Fo) (vs : List Vo) (w : World) (h : FoAt w o l u an nn cn ab nb cb K f) (hv : RowAt w o2 l2 u2 3 av nv cv (trips vs))
include h hv
end
end Go.Proofs.YtonclmbihhdkpaaGreat
