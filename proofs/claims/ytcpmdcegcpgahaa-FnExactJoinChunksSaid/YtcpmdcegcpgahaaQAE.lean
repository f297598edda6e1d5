/- Chapter 5, plain: volumes, how many blocks a tree has, the fault of a pool. -/
import Derived.Test.YtcpmdcegcpgahaaQAD
import Derived.Test.YtcpmdcegcpgahaaQAC
import Derived.Test.YtcpmdcegcpgahaaQAB
import Derived.Laws.ComplexArith
import Derived.BigQuiet
import Derived.Laws.Tables
import Derived.Deep.WholeRow
import Derived.Deep.RegionHeld
import Derived.Deep.MidRow
import Derived.Deep.RegionHeld3
import Derived.Maps.AppendAt
import Derived.Lib.AppendZeros
import Derived.ScopeJumps
import Derived.WalkMore
set_option maxRecDepth 20000
set_option maxHeartbeats 16000000
namespace Go.Proofs.Ytcpmdcegcpgahaa
open Go.RowKit
abbrev Vo := Int × Int × Int
def vo0 : Vo := (0, 0, 0)
def trips (vs : List Vo) : List Value := flat3 vs.length (fun i => .int .i64 (vs.getD i vo0).1) (fun i => .int .i64 (vs.getD i vo0).2.1) (fun i => .int .i64 (vs.getD i vo0).2.2)
section
variable {o : Bool} {l u : Nat} (p : Nat) (an : Option Addr) (nn cn : Nat) (ab : Option Addr) (nb cb : Nat) (K : Nat → KS) (f : Fo) (w : World) (h : FoAt w o l u an nn cn ab nb cb K f) (hp0 : w.cell? ⟨p, 0, none⟩ = some (.slice an nn cn)) (hp1 : w.cell? ⟨p, 1, none⟩ = some (.slice ab nb cb)) (hn : nn ≤ 2097152)
include h hp0 hp1 hn
end
section
variable {o o2 : Bool} {l u l2 u2 : Nat} (p : Nat) (an : Option Addr) (nn cn : Nat) (ab : Option Addr) (nb cb : Nat) (av : Option Addr) (nv cv : Nat) (K : Nat → KS) (f : Fo) (vs : List Vo) (w : World) (h : FoAt w o l u an nn cn ab nb cb K f) (hv : RowAt w o2 l2 u2 3 av nv cv (trips vs)) (hp0 : w.cell? ⟨p, 0, none⟩ = some (.slice an nn cn)) (hp1 : w.cell? ⟨p, 1, none⟩ = some (.slice ab nb cb)) (hp2 : w.cell? ⟨p, 2, none⟩ = some (.slice av nv cv)) (hn : nn ≤ 2097152) (hb : nb ≤ 2097152) (hK : ∀ i, i < nn → (K i).2.1 ≤ 2097152)
include h hv hp0 hp1 hp2 hn hb hK
end
section
variable {o o2 : Bool} {l u l2 u2 : Nat} (p : Nat) (an : Option Addr) (nn cn : Nat) (ab : Option Addr) (nb cb : Nat) (av : Option Addr) (nv cv : Nat) (K : Nat → KS) (f : Fo) (vs : List Vo) (w : World) (h : FoAt w o l u an nn cn ab nb cb K f) (hv : RowAt w o2 l2 u2 3 av nv cv (trips vs)) (hp0 : w.cell? ⟨p, 0, none⟩ = some (.slice an nn cn)) (hp1 : w.cell? ⟨p, 1, none⟩ = some (.slice ab nb cb)) (hp2 : w.cell? ⟨p, 2, none⟩ = some (.slice av nv cv)) (hn : nn ≤ 2097152) (hb : nb ≤ 2097152) (hK : ∀ i, i < nn → (K i).2.1 ≤ 2097152)
include h hv hp0 hp1 hp2 hn hb hK
end
section
variable {o o2 : Bool} {l u l2 u2 : Nat} (an : Option Addr) (nn cn : Nat) (ab : Option Addr) (nb cb : Nat) (av : Option Addr) (nv cv : Nat) (K : Nat → KS) (f : Fo) (vs : List Vo) (w : World) (h : FoAt w o l u an nn cn ab nb cb K f) (hv : RowAt w o2 l2 u2 3 av nv cv (trips vs)) (hn : nn ≤ 2097152) (hb : nb ≤ 2097152) (hK : ∀ i, i < nn → (K i).2.1 ≤ 2097152) (hvn : nv ≤ 2097152)
include h hv hn hb hK hvn
end
section
variable {o2 : Bool} {l2 u2 : Nat} (p : Nat) (av : Option Addr) (nv cv : Nat) (vs : List Vo) (w : World) (hv : RowAt w o2 l2 u2 3 av nv cv (trips vs)) (hp2 : w.cell? ⟨p, 2, none⟩ = some (.slice av nv cv)) (hvn : nv ≤ 2097152)
include hv hp2 hvn
end
section
variable {o o2 : Bool} {l u l2 u2 : Nat} (an : Option Addr) (nn cn : Nat) (ab : Option Addr) (nb cb : Nat) (av : Option Addr) (nv cv : Nat) (K : Nat → KS) (f : Fo) (vs : List Vo) (w : World) (h : FoAt w o l u an nn cn ab nb cb K f) (hv : RowAt w o2 l2 u2 3 av nv cv (trips vs)) (hn : nn ≤ 2097152) (hb : nb ≤ 2097152) (hK : ∀ i, i < nn → (K i).2.1 ≤ 2097152) (hvn : nv ≤ 2097152)
include h hv hn hb hK hvn
end
abbrev En := Int × Int × Int × Int × Int × Int
def en0 : En := (0, 0, 0, 0, 0, 0)
def enF (x : En) (j : Nat) : Int := if j = 0 then x.1 else if j = 1 then x.2.1 else if j = 2 then x.2.2.1 else if j = 3 then x.2.2.2.1 else if j = 4 then x.2.2.2.2.1 else x.2.2.2.2.2
def sixs (xs : List En) : List Value := (List.range (xs.length * 6)).map fun j => .int .i64 (enF (xs.getD (j / 6) en0) (j % 6))
abbrev Hd := Option Addr × Nat × Nat
def hv (h : Hd) : Value := .slice h.1 h.2.1 h.2.2
structure Bx (W : World) (b : Nat) (vs : List Value) : Prop where
 lt : b < W.heap.size
 cell : ∀ k : Nat, W.cell? ⟨b, k, none⟩ = vs[k]?
 froz : ∀ k : Nat, W.frozen? ⟨b, k, none⟩ = false
theorem Bx.below {w W : World} {b : Nat} {vs : List Value} (h : Bx w b vs) (hb : Below w.heap.size w W) : Bx W b vs :=
 ⟨Nat.lt_of_lt_of_le h.lt hb.size, fun k => by rw [World.cell?_of_block (w := w) (a := ⟨b, k, none⟩) (hb.block b h.lt)]; exact h.cell k, fun k => by rw [World.frozen?_of_block (w := w) (a := ⟨b, k, none⟩) (hb.block b h.lt)]; exact h.froz k⟩
theorem Bx.kept {w W : World} {b lo hi : Nat} {vs : List Value} (h : Bx w b vs) (hk : Kept lo hi w W) (hd : b < lo ∨ hi ≤ b) : Bx W b vs :=
 ⟨Nat.lt_of_lt_of_le h.lt hk.size, fun k => by rw [World.cell?_of_block (w := w) (a := ⟨b, k, none⟩) (hk.block b h.lt hd)]; exact h.cell k, fun k => by rw [World.frozen?_of_block (w := w) (a := ⟨b, k, none⟩) (hk.block b h.lt hd)]; exact h.froz k⟩
theorem Bx.set {w : World} {b : Nat} {vs : List Value} (h : Bx w b vs) (k : Nat) (hk : k < vs.length) (v : Value) : Bx (w.setCell ⟨b, k, none⟩ v) b (vs.set k v) := by
 refine ⟨by simpa [World.setCell] using h.lt, fun j => ?_, fun j => by rw [World.frozen?_setCell]; exact h.froz j⟩
 by_cases e : j = k
 ·subst e
  rw [World.cell?_setCell_same _ _ _ (by rw [h.cell j, List.getElem?_eq_getElem hk])]
  simp [hk]
 ·rw [World.cell?_setCell_other _ _ _ _ (by intro q; injection q with _ q; omega), h.cell j]
  simp [Ne.symm e]
structure NewX (w W : World) (b : Nat) (vs : List Value) : Prop where
 bx : Bx W b vs
 ge : w.heap.size ≤ b
 below : Below w.heap.size w W
theorem newX_mk (w : World) (cs : Array Value) (t : TypeId) : NewX w (w.alloc (.cells cs t)) w.heap.size cs.toList :=
 ⟨⟨by simp, fun k => by simp, fun k => by simp⟩, Nat.le_refl _, (Below.refl _ _).alloc (Nat.le_refl _) _⟩
theorem alloc_newX {P : Program} {ops : Array Oper} {rest : List Oper} {dst : Option Tmp} {type : TypeId} {pos : String} {after : Array Edge} {a : Act} {w : World} {Q : Exit → Act → World → Prop} (ty : TypeId) (cs : List Value) (hz : ∀ w, (zeroValue ty).run P w = .ok (.agg cs.toArray) w)
  (h : ∀ (b : Nat) (W : World), NewX w W b cs → wpList P ops Q rest (a.put dst (.pointer (some ⟨b, 0, none⟩))) W) : wpList P ops Q (⟨dst, .alloc ty, type, pos, after, none⟩ :: rest) a w := by
 refine wpList_plain rfl fun K hK => ?_
 unfold Oper.wp execOp
 go_simp
 exact hK _ _ (h _ _ (by simpa using newX_mk w cs.toArray ty))
structure PutX (w W : World) (b : Nat) (vs : List Value) : Prop where
 bx : Bx W b vs
 kept : Kept b (b + 1) w W
theorem run_storeVar_oneX {P : Program} {w : World} {b k : Nat} {vs : List Value} (X : Bx w b vs) (ty : TypeId) (v : Value) (hk : k < vs.length) (hv : v.oneCell' = true) (hi : (P.info? ty).map (·.size) = some 1) : (storeVar ty ⟨b, k, none⟩ v).run P w = .ok () (w.setCells b k [v]) := by
 have := run_storeCells_cells (P := P) b k [v] 0 w (fun j hj => by
  have e : j = 0 := by simpa using hj
  rw [e, Nat.add_zero, X.cell k, List.getElem?_eq_getElem hk]; rfl) (fun j _ => X.froz _) (fun x hx => by simp at hx; subst hx; exact hv)
 have hc : v.cells = #[v] := by cases v <;> first | rfl | cases hv
 cases hq : P.info? ty with
 | none => simp [hq] at hi
 | some i =>
  have hs : i.size = 1 := by simpa [hq] using hi
  simp only [Nat.add_zero] at this
  simp [storeVar, sizeOf, typeInfo, hq, hc, hs, this]
theorem Bx.setMid {w : World} {b : Nat} {vs us : List Value} (X : Bx w b vs) (k : Nat) (hk : k + us.length ≤ vs.length) : PutX w (w.setCells b k us) b (vs.take k ++ us ++ vs.drop (k + us.length)) := by
 refine ⟨⟨by rw [size_setCells']; exact X.lt, fun j => ?_, fun j => by rw [World.frozen?_setCells]; exact X.froz j⟩, (Kept.refl _ _ _).setCells (Nat.le_refl _) (Nat.lt_succ_self _) _ _⟩
 by_cases h1 : k ≤ j ∧ j < k + us.length
 ·have := World.cell?_setCells_in b us k w (fun q hq => by rw [X.cell, List.getElem?_eq_getElem (by omega)]; rfl) (j - k) (by omega)
  rw [show k + (j - k) = j by omega] at this
  rw [this, List.append_assoc, List.getElem?_append_right (by simp; omega), List.getElem?_append_left (by simp; omega)]
  simp [Nat.min_eq_left (show k ≤ vs.length by omega), List.getElem?_eq_getElem (show j - k < us.length by omega)]
 ·rw [World.cell?_setCells_out b us k w ⟨b, j, none⟩ (fun _ _ => by show j < k ∨ k + us.length ≤ j; omega), X.cell]
  rcases (by omega : j < k ∨ k + us.length ≤ j) with q | q
  ·rw [List.append_assoc, List.getElem?_append_left (by simp; omega), List.getElem?_take_of_lt q]
  ·rw [List.getElem?_append_right (by simp; omega), List.getElem?_drop]
   congr 1; simp; omega
theorem store_midX {P : Program} {ops : Array Oper} {rest : List Oper} {dst : Option Tmp} {type : TypeId} {pos : String} {after : Array Edge} {a : Act} {w : World} {Q : Exit → Act → World → Prop} (ty : TypeId) {x y : Operand} {b : Nat} {vs : List Value} (X : Bx w b vs) (k : Nat) (us : List Value) (hk : k + us.length ≤ vs.length) (hi : (P.info? ty).map (·.size) = some us.length) (h1 : ∀ v ∈ us, v.oneCell' = true) (hx : a.eval x = .pointer (some ⟨b, k, none⟩)) (hy : a.eval y = .agg us.toArray)
  (h : ∀ W : World, PutX w W b (vs.take k ++ us ++ vs.drop (k + us.length)) → wpList P ops Q rest (a.put dst undef) W) : wpList P ops Q (⟨dst, .store ty x y, type, pos, after, none⟩ :: rest) a w := by
 refine wpList_plain rfl fun K hK => ?_
 refine wp_store_mid ty x y rfl b k us.toArray hx hy (by rw [List.size_toArray]; exact fun j hj => ⟨by rw [X.cell, List.getElem?_eq_getElem (by omega)]; rfl, X.froz _⟩) (by rw [List.size_toArray]; exact hi) (all_oneCell_toArray h1) (hK _ _ (h _ ?_))
 simpa using X.setMid (us := us) k hk
theorem step_oneX {P : Program} {ops : Array Oper} {dst : Option Tmp} {type : TypeId} {pos : String} {after : Array Edge} {a : Act} {w : World} {K : Act → World → Prop} {Q : Exit → Act → World → Prop} {E : Prop} (ty : TypeId) {x y : Operand} {b : Nat} {vs : List Value} (X : Bx w b vs) (k : Nat) (v : Value) (hk : k < vs.length) (hi : (P.info? ty).map (·.size) = some 1) (hv : v.oneCell' = true) (hx : a.eval x = .pointer (some ⟨b, k, none⟩)) (hy : a.eval y = v)
  (h : ∀ W : World, PutX w W b (vs.set k v) → K (a.put dst undef) W) : if Region.wanted ⟨dst, .store ty x y, type, pos, after, none⟩ (yielded ops a.tmps) = true then Oper.wp P ⟨dst, .store ty x y, type, pos, after, none⟩ a w K Q else E := by
 have hw : Region.wanted ⟨dst, .store ty x y, type, pos, after, none⟩ (yielded ops a.tmps) = true := by simp [Region.wanted]
 rw [if_pos hw]
 have hK2 : K (a.put dst undef) (w.setCell ⟨b, k, none⟩ v) := h _ ⟨X.set k hk v, Kept.setCell (p := ⟨b, k, none⟩) (Kept.refl _ _ _) (Nat.le_refl _) (Nat.lt_succ_self _) _⟩
 unfold Oper.wp execOp
 simp only [hx, hy, Instr.storeAt, Instr.sureAddr, Sem.run_bind, Sem.run_pure, Result.andThen_ok, run_storeVar_oneX X ty v hk hv hi]
 exact hK2
def flatF (sz n : Nat) (F : Nat → Nat → Value) : List Value := (List.range (n * sz)).map fun j => F (j / sz) (j % sz)
def updF (F : Nat → Nat → Value) (i j : Nat) (v : Value) : Nat → Nat → Value := fun a b => if a = i ∧ b = j then v else F a b
structure ElsAt (sz : Nat) (w : World) (own : Bool) (lo hi : Nat) (ao : Option Addr) (n cap : Nat) (F : Nat → Nat → Value) (K : Nat → Hd) (L : Nat → List En) : Prop where
 row : RowAt w own lo hi sz ao n cap (flatF sz n F)
 logs : ∀ i, i < n → RowAt w own lo hi 6 (K i).1 (K i).2.1 (K i).2.2 (sixs (L i))
 sep : own = true → ∀ i, i < n → (K i).2.1 ≠ 0 → sb (K i).1 ≠ sb ao ∧ ∀ j, j < n → j ≠ i → (K j).2.1 ≠ 0 → sb (K j).1 ≠ sb (K i).1
section
variable {sz : Nat} {w w' : World} {own : Bool} {lo hi : Nat} {ao : Option Addr} {n cap : Nat} {F : Nat → Nat → Value} {K : Nat → Hd} {L : Nat → List En}
def inE (ao : Option Addr) (n : Nat) (K : Nat → Hd) (k : Nat) : Prop := (n ≠ 0 ∧ k = sb ao) ∨ ∃ i, i < n ∧ (K i).2.1 ≠ 0 ∧ k = sb (K i).1
def inR (ao : Option Addr) (n k : Nat) : Prop := n ≠ 0 ∧ k = sb ao
end
abbrev Dr := Bool × Int × List En × Int
def dr0 : Dr := (false, 0, [], 0)
def drF (K : Nat → Hd) (ds : List Dr) (i j : Nat) : Value := if j = 0 then .bool (ds.getD i dr0).1 else if j = 1 then .int .i64 (ds.getD i dr0).2.1 else if j = 2 then hv (K i) else .int .i64 (ds.getD i dr0).2.2.2
def drL (ds : List Dr) (i : Nat) : List En := (ds.getD i dr0).2.2.1
structure DoersAt (w : World) (own : Bool) (lo hi : Nat) (ao : Option Addr) (n cap : Nat) (K : Nat → Hd) (ds : List Dr) : Prop where
 len : ds.length = n
 els : ElsAt 4 w own lo hi ao n cap (drF K ds) K (drL ds)
structure Ml where
 kind : Int
 fr : Int
 to : Int
 view : Int
 at_ : Int
 has : Bool
 en : En
 last : Int
 log : List En
 commit : Int
def ml0 : Ml := ⟨0, 0, 0, 0, 0, false, en0, 0, [], 0⟩
def mlV (h : Hd) (m : Ml) : List Value := [.int .i64 m.kind, .int .i64 m.fr, .int .i64 m.to, .int .i64 m.view, .int .i64 m.at_, .bool m.has, .int .i64 m.en.1, .int .i64 m.en.2.1, .int .i64 m.en.2.2.1, .int .i64 m.en.2.2.2.1, .int .i64 m.en.2.2.2.2.1, .int .i64 m.en.2.2.2.2.2, .int .i64 m.last, hv h, .int .i64 m.commit]
def mlF (K : Nat → Hd) (ms : List Ml) (i j : Nat) : Value := (mlV (K i) (ms.getD i ml0)).getD j default
def mlL (ms : List Ml) (i : Nat) : List En := (ms.getD i ml0).log
structure MailsAt (w : World) (own : Bool) (lo hi : Nat) (ao : Option Addr) (n cap : Nat) (K : Nat → Hd) (ms : List Ml) : Prop where
 len : ms.length = n
 els : ElsAt 15 w own lo hi ao n cap (mlF K ms) K (mlL ms)
structure Rep where
 id : Int
 size : Int
 view : Int
 normal : Bool
 last : Int
 log : List En
 commit : Int
 oks : List Int
 asks : List Bool
 doers : List Dr
def rep0 : Rep := ⟨0, 0, 0, false, 0, [], 0, [], [], []⟩
structure RH where
 L : Hd
 O : Hd
 A : Hd
 D : Hd
 K : Nat → Hd
def Sep (S T : Nat → Prop) : Prop := ∀ x, S x → ¬ T x
def hR (h : Hd) : Nat → Prop := inR h.1 h.2.1
structure RepAt (w : World) (own : Bool) (lo hi : Nat) (h : RH) (r : Rep) : Prop where
 log : RowAt w own lo hi 6 h.L.1 h.L.2.1 h.L.2.2 (sixs r.log)
 oks : RowAt w own lo hi 1 h.O.1 h.O.2.1 h.O.2.2 (ints r.oks)
 asks : RowAt w own lo hi 1 h.A.1 h.A.2.1 h.A.2.2 (bls r.asks)
 doers : DoersAt w own lo hi h.D.1 h.D.2.1 h.D.2.2 h.K r.doers
 sep : own = true → Sep (hR h.L) (hR h.O) ∧ Sep (hR h.L) (hR h.A) ∧ Sep (hR h.L) (inE h.D.1 h.D.2.1 h.K) ∧ Sep (hR h.O) (hR h.A) ∧ Sep (hR h.O) (inE h.D.1 h.D.2.1 h.K) ∧ Sep (hR h.A) (inE h.D.1 h.D.2.1 h.K)
def inRep (h : RH) (k : Nat) : Prop := hR h.L k ∨ hR h.O k ∨ hR h.A k ∨ inE h.D.1 h.D.2.1 h.K k
section
variable {w w' : World} {own : Bool} {lo hi : Nat} {h : RH} {r : Rep} {ao : Option Addr} {n cap : Nat} {K : Nat → Hd} {ds : List Dr} {ms : List Ml}
end
structure RSz (h : RH) (m : Nat) : Prop where
 L : h.L.2.1 ≤ m
 O : h.O.2.1 ≤ m
 A : h.A.2.1 ≤ m
 D : h.D.2.1 ≤ m
 K : ∀ i, i < h.D.2.1 → (h.K i).2.1 ≤ m
theorem Bx.kp {w W : World} {b lo hi : Nat} {vs : List Value} (h : Bx w b vs) (hk : Kept lo hi w W) (hd : b < lo ∨ hi ≤ b := by omega) : Bx W b vs := h.kept hk hd
theorem bkp {w W W' : World} {b u : Nat} (B : Below w.heap.size w W) (hk : Kept b u W W') (h : w.heap.size ≤ b := by omega) : Below w.heap.size w W' := B.trans (hk.below _ h B.size)
theorem ltl {a b c : Nat} (h : a < b) (k : b ≤ c) : a < c := Nat.lt_of_lt_of_le h k
theorem rd1 {P : Program} {ops : Array Oper} {Q : Exit → Act → World → Prop} {md : Region.Mode} {S : World → Prop} (i : Nat) {o : Oper} {fuel : Nat} {listed : Array Bool} {a : Act} {w : World}
  (h : ∀ K' : Act → World → Prop, Shut (∀ a w, S w → (S w → wpAnyH P md ops Q S fuel (listed.setIfInBounds i true) a w) → K' a w) → if Region.wanted o (yielded ops a.tmps) = true then Oper.wp P o a w K' Q else K' (a.put o.dst undef) w)
  (hr : Region.ready md ops listed = [i] := by kernel_rfl) (ho : ops[i]? = some o := by rfl) : wpAnyH P md ops Q S (fuel + 1) listed a w := wpAnyH_ready hr (by simp) (AllReadyH.cons ho h AllReadyH.nil)
def sumStep (h x : Int) : Int := (h * 263 + x % 65521 + 1) % 65521
def sumOf (xs : List Int) : Int := xs.foldl sumStep 9
def lay : Nat → List (List Int) → List Int
 | _, [] => []
 | k, r :: rs => (r.length : Int) :: sumOf ((k : Int) :: r) :: (r ++ lay (k + 1) rs)
def okRec (r : List Int) : Prop := 1 ≤ r.length ∧ r.length ≤ 8
def Scanned (ws : List Int) (a : Nat) (out : List (List Int)) : Prop := ws.take a = lay 0 out ∧ a ≤ ws.length ∧ ∀ r ∈ out, okRec r
structure RecsAt (w : World) (lo : Nat) (vs : List Value) (rs : List (List Int)) : Prop where
 len : vs.length = rs.length
 each : ∀ i, i < rs.length → ∃ (a : Option Addr) (n c l u : Nat), vs.getD i default = .slice a n c ∧ lo ≤ l ∧ u ≤ w.heap.size ∧ RowAt w true l u 1 a n c (ints (rs.getD i []))
structure RecsBut (w : World) (lo : Nat) (b : Option Nat) (vs : List Value) (rs : List (List Int)) : Prop where
 len : vs.length = rs.length
 each : ∀ i, i < rs.length → ∃ (g n c : Nat), vs.getD i default = .slice (some ⟨g, 0, none⟩) n c ∧ b ≠ some g ∧ lo ≤ g ∧ g < w.heap.size ∧ RowAt w true g (g + 1) 1 (some ⟨g, 0, none⟩) n c (ints (rs.getD i []))
theorem RecsBut.at {w : World} {lo : Nat} {b : Option Nat} {vs : List Value} {rs : List (List Int)} (h : RecsBut w lo b vs rs) : RecsAt w lo vs rs := by
 refine ⟨h.len, fun i hi => ?_⟩
 obtain ⟨g, n, c, h1, h2, h0, h3, h4⟩ := h.each i hi
 exact ⟨_, n, c, _, _, h1, h0, h3, h4⟩
theorem RecsBut.below {w w' : World} {lo : Nat} {b : Option Nat} {vs : List Value} {rs : List (List Int)} (h : RecsBut w lo b vs rs) (hb : Below w.heap.size w w') : RecsBut w' lo b vs rs := by
 refine ⟨h.len, fun i hi => ?_⟩
 obtain ⟨g, n, c, h1, h2, h0, h3, h4⟩ := h.each i hi
 exact ⟨g, n, c, h1, h2, h0, Nat.lt_of_lt_of_le h3 hb.size, h4.below hb⟩
def CS (w w' : World) : Prop := w'.there (w.heap.size + 1) 0 2 ∧ Below w.heap.size w w' ∧ w.heap.size + 1 < w'.heap.size
def CpS (w : World) (v0 v1 : Value) (w' : World) : Prop := w'.cell? ⟨w.heap.size, 0, none⟩ = some v0 ∧ w'.cell? ⟨w.heap.size, 1, none⟩ = some v1 ∧ CS w w'
def tot (n1 k : Nat) : Nat := if k = 0 then 0 else if k = 1 then n1 else n1 + 1
structure Piece where
 a : Option Addr
 n : Nat
 c : Nat
 cs : List Value
def blkOf : Value → Nat
 | .slice (some a) _ _ => a.block
 | _ => 0
def Inc (vs : List Value) : Prop := ∀ i j, i < j → j < vs.length → blkOf (vs.getD i default) < blkOf (vs.getD j default)
section
variable {w : World} {A B F : Nat} {zs : List Int} {W : World} {k : Nat} {v : Value} {out : List (List Int)} {vs : List Value}
end
theorem RowAt.elem {w : World} {o : Bool} {l u : Nat} {ao : Option Addr} {n c : Nat} {vs : List Value} (h : RowAt w o l u 1 ao n c vs) {j : Nat} (hj : j < n) {x : Value} (hx : vs.getD j default = x) : ∃ b off, ao = some ⟨b, off, none⟩ ∧ b < w.heap.size ∧ w.cell? ⟨b, off + j, none⟩ = some x := by
 obtain ⟨b, off, rfl, _, _, hb, hc, _⟩ := h.cells (by omega)
 have hl := h.len
 refine ⟨b, off, rfl, hb, ?_⟩
 rw [hc j (by omega), ← hx]
def lens (rs : List (List Int)) (i : Nat) : Nat := ((rs.take i).map List.length).sum
theorem lens_succ {rs : List (List Int)} {i : Nat} (h : i < rs.length) : lens rs (i + 1) = lens rs i + (rs.getD i []).length := by
 unfold lens; rw [List.take_add_one, List.map_append, List.sum_append]; simp [List.getD, h]
def mkL (rs : List (List Int)) (i : Nat) : List (List Int) := (List.range rs.length).map fun j => if j < i then marks (1 + (lens rs j : Int)) (rs.getD j []).length else rs.getD j []
theorem mkL_len (rs : List (List Int)) (i : Nat) : (mkL rs i).length = rs.length := by simp [mkL]
theorem mkL_getD (rs : List (List Int)) (i j : Nat) (h : j < rs.length) : (mkL rs i).getD j [] = if j < i then marks (1 + (lens rs j : Int)) (rs.getD j []).length else rs.getD j [] := by
 simp [mkL, List.getD, h]
theorem mkL_zero (rs : List (List Int)) : mkL rs 0 = rs := by
 refine List.ext_getElem (by simp [mkL]) fun i h1 h2 => ?_
 simp [mkL, List.getD, h2]
structure RecsOwn (w : World) (lo : Nat) (v : Value) (vs : List Value) (rs : List (List Int)) : Prop where
 own : w.ownsRow lo 24 1 v rs.length vs
 but : RecsBut w lo v.ownBlock vs rs
 inc : Inc vs
theorem RecsOwn.below {w w' : World} {lo : Nat} {v : Value} {vs : List Value} {rs : List (List Int)} (h : RecsOwn w lo v vs rs) (hb : Below w.heap.size w w') : RecsOwn w' lo v vs rs := ⟨owns_below h.own hb, h.but.below hb, h.inc⟩
theorem RecsOwn.step {w w' : World} {lo : Nat} {v : Value} {vs : List Value} {rs : List (List Int)} {i : Nat} (h : RecsOwn w lo v vs (mkL rs i)) (hi : i < rs.length) {g n c : Nat} (hv : vs.getD i default = .slice (some ⟨g, 0, none⟩) n c) (hk : Kept g (g + 1) w w') (hr : RowAt w' true g (g + 1) 1 (some ⟨g, 0, none⟩) n c (ints (marks (1 + (lens rs i : Int)) (rs.getD i []).length))) :
  RecsOwn w' lo v vs (mkL rs (i + 1)) := by
 have hl := h.but.len
 rw [mkL_len] at hl
 obtain ⟨gi, ni, ci, e1, e2, e3, e4, e5⟩ := h.but.each i (by rw [mkL_len]; exact hi)
 rw [hv] at e1
 obtain ⟨rfl⟩ : g = gi := by injection e1 with e1 _ _; injection e1 with e1; injection e1
 refine ⟨?_, ⟨by rw [mkL_len]; exact hl, fun j hj => ?_⟩, h.inc⟩
 ·have := h.own
  rw [mkL_len] at this ⊢
  refine owns_kept this hk fun k e => ?_
  have : k ≠ g := fun e' => e2 (by rw [e, e'])
  omega
 ·rw [mkL_len] at hj
  by_cases hji : j = i
  ·subst hji
   refine ⟨g, n, c, hv, e2, e3, Nat.lt_of_lt_of_le e4 hk.size, ?_⟩
   rw [mkL_getD _ _ _ hj, if_pos (Nat.lt_succ_self _)]; exact hr
  ·obtain ⟨gj, nj, cj, f1, f2, f3, f4, f5⟩ := h.but.each j (by rw [mkL_len]; exact hj)
   have hne : gj ≠ g := by
    rcases Nat.lt_or_gt_of_ne hji with hlt | hlt
    ·have := h.inc j i hlt (by omega); rw [f1, hv] at this; exact Nat.ne_of_lt this
    ·have := h.inc i j hlt (by omega); rw [f1, hv] at this; exact Nat.ne_of_gt this
   refine ⟨gj, nj, cj, f1, f2, f3, Nat.lt_of_lt_of_le f4 hk.size, ?_⟩
   rw [mkL_getD _ _ _ hj] at f5 ⊢
   have e : (if j < i + 1 then marks (1 + (lens rs j : Int)) (rs.getD j []).length else rs.getD j []) = (if j < i then marks (1 + (lens rs j : Int)) (rs.getD j []).length else rs.getD j []) := by
    by_cases h : j < i
    ·rw [if_pos (by omega), if_pos h]
    ·rw [if_neg (by omega), if_neg h]
   rw [e]
   exact f5.kept hk (by omega)
section
variable (cd u : Int)
end
theorem RowAt.tightG {w : World} {own : Bool} {lo hi size g o n cap : Nat} {cs : List Value} (h : RowAt w own lo hi size (some ⟨g, o, none⟩) n cap cs) : RowAt w own g (g + 1) size (some ⟨g, o, none⟩) n cap cs := by
 refine ⟨h.len, h.le, fun hn => ?_⟩
 obtain ⟨b, off, e, h1, h2, h3, h4, h5⟩ := h.cells hn
 simp only [Option.some.injEq, Addr.mk.injEq, and_true] at e
 obtain ⟨rfl, rfl⟩ := e
 exact ⟨_, _, rfl, Nat.le_refl _, Nat.lt_succ_self _, h3, h4, h5⟩
theorem toInts_new {own : Bool} {lo hi : Nat} (ao : Option Addr) (n cap : Nat) (xs : List Int) (w : World) (h : RowAt w own lo hi 1 ao n cap (ints xs)) (hn : n ≤ 1048576) :
  Calls Try.prog 45 #[.slice ao n cap] w fun e w' => e = .returned (.slice (some ⟨w.heap.size, 0, none⟩) n n) ∧ RowAt w' true w.heap.size w'.heap.size 1 (some ⟨w.heap.size, 0, none⟩) n n (ints xs) ∧ Below w.heap.size w w' ∧ w.heap.size < w'.heap.size := by
 have hx := h.nInts
 obtain ⟨i0, hi0, hz0, hz1, hz2⟩ := info_parts Try.info2'
 go_enter Try.func45, Try.ntmps45
 go_wp2_with (first | (at_make; refine wpList_make_full _ rfl _ _ 24 rfl w.heap.size 2 i0 (.int .i64 0) 1 Try.underlying24 hi0 hz0 hz1 _ _ _ _ n rfl rfl rfl rfl ?b1 ?b2 ?b3 ?_))
 case b1 => rw [hz2]; omega
 case b2 => unfold maxLen; omega
 case b3 => exact Nat.le_refl _
 intro w1 hown hgrow
 have hb1 : Below w.heap.size w w1 := (Below.refl _ _).grown hgrow (Nat.le_refl _) (fun k hk => by cases hk)
 have hown0 : w1.ownsRow w.heap.size 2 1 (.slice (some ⟨w.heap.size, 0, none⟩) n n) n (cop (ints xs) (.int .i64 0) 0) := by
  rw [cop_zero, ints_length, hx]; simpa [Value.cells, toList_madeCells_one] using hown
 clear hown hgrow
 go_wp2
 go_loopw [4] (fun i wr => ∃ k : Nat, k ≤ n ∧ i = .int .i64 k ∧ wr.ownsRow w.heap.size 2 1 (.slice (some ⟨w.heap.size, 0, none⟩) n n) n (cop (ints xs) (.int .i64 0) k) ∧ Below w.heap.size w wr) (fun i _ => n - (intOf i).toNat)
 case atStart => exact ⟨0, Nat.zero_le _, rfl, hown0, hb1⟩
 case round =>
  obtain ⟨k, hk, rfl, hown, hb⟩ := hrel
  clear hown0 hb1
  by_cases hlt : k < n
  ·obtain ⟨b, off, rfl, _, _, hbs, hc, _⟩ := h.int hlt
   have hcr : wr.cell? ⟨b, off + k, none⟩ = some (.int .i64 (xs.getD k 0)) := (hb.cell (p := ⟨b, off + k, none⟩) hbs).trans hc
   have hcw : wr.cell? ⟨w.heap.size, k, none⟩ = some (.int .i64 0) := by
    rw [hown.cellAt k (by omega), cop_get _ _ _ _ (Nat.le_refl _) (by rw [ints_length]; omega)]
   have hfw : wr.frozen? ⟨w.heap.size, k, none⟩ = false := hown.frozenAt k
   have R := hown.stored k (.int .i64 (xs.getD k 0))
   rw [cop_set _ _ _ k (by rw [ints_length]; omega) (ints_getD xs k (by omega))] at R
   have hb2 : Below w.heap.size w (wr.setCell ⟨w.heap.size, k, none⟩ (.int .i64 (xs.getD k 0))) := hb.setCell (p := ⟨w.heap.size, k, none⟩) (Nat.le_refl _) _
   have R2 := R.1
   clear hc R hown hb
   generalize xs.getD k 0 = x at *
   go_wp2
   go_roundw
   case rel => exact ⟨k + 1, by omega, by go_num, R2, hb2⟩
   case measure => simp [intOf]; omega
  ·go_wp2
   go_ret
   have hkn : k = (ints xs).length := by rw [ints_length]; omega
   rw [hkn, cop_all] at hown
   exact ⟨rfl, RowAt.of_owns hown (Nat.le_refl _), hb, (owns_lt hown).2⟩
theorem toInts_g {own : Bool} {lo hi : Nat} (ao : Option Addr) (n cap : Nat) (xs : List Int) (w : World) (h : RowAt w own lo hi 1 ao n cap (ints xs)) (hn : n ≤ 1048576) :
  Calls Try.prog 45 #[.slice ao n cap] w fun e w' => ∃ g, e = .returned (.slice (some ⟨g, 0, none⟩) n n) ∧ w.heap.size ≤ g ∧ g < w'.heap.size ∧ RowAt w' true g (g + 1) 1 (some ⟨g, 0, none⟩) n n (ints xs) ∧ Below w.heap.size w w' :=
 (toInts_new ao n cap xs w h hn).mono fun _ _ ⟨e1, r, b, l⟩ => ⟨_, e1, Nat.le_refl _, l, r.tightG, b⟩
end Go.Proofs.Ytcpmdcegcpgahaa
