/- The value of a slice, by its three parts. -/
import Derived.Test.YtjefmhjlaibbkaaQABR
import Derived.Test.YtjefmhjlaibbkaaXAR
import Derived.Test.YtjefmhjlaibbkaaQAFR
import Derived.Deep.RegionHeld
set_option maxRecDepth 20000
set_option maxHeartbeats 16000000
namespace Go.Proofs.Ytjefmhjlaibbkaa
open Go.RowKit
abbrev Hd := Option Addr × Nat × Nat
def hv (h : Hd) : Value := .slice h.1 h.2.1 h.2.2
structure Bx (W : World) (b : Nat) (vs : List Value) : Prop where
 lt : b < W.heap.size
 cell : ∀ k : Nat, W.cell? ⟨b, k, none⟩ = vs[k]?
 froz : ∀ k : Nat, W.frozen? ⟨b, k, none⟩ = false
theorem Bx.below {w W : World} {b : Nat} {vs : List Value} (h : Bx w b vs) (hb : Below w.heap.size w W) : Bx W b vs :=
 ⟨Nat.lt_of_lt_of_le h.lt hb.size, fun k => by rw [World.cell?_of_block (w := w) (a := ⟨b, k, none⟩) (hb.block b h.lt)]; exact h.cell k, fun k => by rw [World.frozen?_of_block (w := w) (a := ⟨b, k, none⟩) (hb.block b h.lt)]; exact h.froz k⟩
theorem Bx.kept {w W : World} {b lo hi : Nat} {vs : List Value} (h : Bx w b vs) (hk : Kept lo hi w W) (hd : b < lo ∨ hi ≤ b) : Bx W b vs :=
 ⟨Nat.lt_of_lt_of_le h.lt hk.size, fun k => by rw [World.cell?_of_block (w := w) (a := ⟨b, k, none⟩) (hk.block b h.lt hd)]; exact h.cell k, fun k => by rw [World.frozen?_of_block (w := w) (a := ⟨b, k, none⟩) (hk.block b h.lt hd)]; exact h.froz k⟩
theorem Bx.set {w : World} {b : Nat} {vs : List Value} (h : Bx w b vs) (k : Nat) (hk : k < vs.length) (v : Value) : Bx (w.setCell ⟨b, k, none⟩ v) b (vs.set k v) := by
 refine ⟨by simpa [World.setCell] using h.lt, fun j => ?_, fun j => by rw [World.frozen?_setCell]; exact h.froz j⟩
 by_cases e : j = k
 ·subst e
  rw [World.cell?_setCell_same _ _ _ (by rw [h.cell j, List.getElem?_eq_getElem hk])]
  simp [hk]
 ·rw [World.cell?_setCell_other _ _ _ _ (by intro q; injection q with _ q; omega), h.cell j]
  simp [Ne.symm e]
structure NewX (w W : World) (b : Nat) (vs : List Value) : Prop where
 bx : Bx W b vs
 ge : w.heap.size ≤ b
 below : Below w.heap.size w W
theorem newX_mk (w : World) (cs : Array Value) (t : TypeId) : NewX w (w.alloc (.cells cs t)) w.heap.size cs.toList :=
 ⟨⟨by simp, fun k => by simp, fun k => by simp⟩, Nat.le_refl _, (Below.refl _ _).alloc (Nat.le_refl _) _⟩
theorem box_newX {P : Program} {ops : Array Oper} {rest : List Oper} {dst : Option Tmp} {type : TypeId} {pos : String} {after : Array Edge} {a : Act} {w : World} {Q : Exit → Act → World → Prop} (ty : TypeId) {x : Operand} (cs : List Value) (hx : a.eval x = .agg cs.toArray)
  (h : ∀ (b : Nat) (W : World), NewX w W b cs → wpList P ops Q rest (a.put dst (.pointer (some ⟨b, 0, none⟩))) W) : wpList P ops Q (⟨dst, .box ty x, type, pos, after, none⟩ :: rest) a w := by
 refine wpList_plain rfl fun K hK => ?_
 unfold Oper.wp execOp
 simp only [hx]
 clear hx
 go_simp
 exact hK _ _ (h _ _ (by simpa using newX_mk w cs.toArray ty))
theorem alloc_newX {P : Program} {ops : Array Oper} {rest : List Oper} {dst : Option Tmp} {type : TypeId} {pos : String} {after : Array Edge} {a : Act} {w : World} {Q : Exit → Act → World → Prop} (ty : TypeId) (cs : List Value) (hz : ∀ w, (zeroValue ty).run P w = .ok (.agg cs.toArray) w)
  (h : ∀ (b : Nat) (W : World), NewX w W b cs → wpList P ops Q rest (a.put dst (.pointer (some ⟨b, 0, none⟩))) W) : wpList P ops Q (⟨dst, .alloc ty, type, pos, after, none⟩ :: rest) a w := by
 refine wpList_plain rfl fun K hK => ?_
 unfold Oper.wp execOp
 go_simp
 exact hK _ _ (h _ _ (by simpa using newX_mk w cs.toArray ty))
structure PutX (w W : World) (b : Nat) (vs : List Value) : Prop where
 bx : Bx W b vs
 kept : Kept b (b + 1) w W
theorem run_storeVar_oneX {P : Program} {w : World} {b k : Nat} {vs : List Value} (X : Bx w b vs) (ty : TypeId) (v : Value) (hk : k < vs.length) (hv : v.oneCell' = true) (hi : (P.info? ty).map (·.size) = some 1) : (storeVar ty ⟨b, k, none⟩ v).run P w = .ok () (w.setCells b k [v]) := by
 have := run_storeCells_cells (P := P) b k [v] 0 w (fun j hj => by
  have e : j = 0 := by simpa using hj
  rw [e, Nat.add_zero, X.cell k, List.getElem?_eq_getElem hk]; rfl) (fun j _ => X.froz _) (fun x hx => by simp at hx; subst hx; exact hv)
 have hc : v.cells = #[v] := by cases v <;> first | rfl | cases hv
 cases hq : P.info? ty with
 | none => simp [hq] at hi
 | some i =>
  have hs : i.size = 1 := by simpa [hq] using hi
  simp only [Nat.add_zero] at this
  simp [storeVar, sizeOf, typeInfo, hq, hc, hs, this]
theorem store_oneX {P : Program} {ops : Array Oper} {rest : List Oper} {dst : Option Tmp} {type : TypeId} {pos : String} {after : Array Edge} {a : Act} {w : World} {Q : Exit → Act → World → Prop} (ty : TypeId) {x y : Operand} {b : Nat} {vs : List Value} (X : Bx w b vs) (k : Nat) (v : Value) (hk : k < vs.length) (hi : (P.info? ty).map (·.size) = some 1) (hv : v.oneCell' = true) (hx : a.eval x = .pointer (some ⟨b, k, none⟩)) (hy : a.eval y = v)
  (h : ∀ W : World, PutX w W b (vs.set k v) → wpList P ops Q rest (a.put dst undef) W) : wpList P ops Q (⟨dst, .store ty x y, type, pos, after, none⟩ :: rest) a w := by
 refine wpList_plain rfl fun K hK => ?_
 have hK2 : K (a.put dst undef) (w.setCell ⟨b, k, none⟩ v) := hK _ _ (h _ ⟨X.set k hk v, Kept.setCell (p := ⟨b, k, none⟩) (Kept.refl _ _ _) (Nat.le_refl _) (Nat.lt_succ_self _) _⟩)
 unfold Oper.wp execOp
 simp only [hx, hy, Instr.storeAt, Instr.sureAddr, Sem.run_bind, Sem.run_pure, Result.andThen_ok, run_storeVar_oneX X ty v hk hv hi]
 exact hK2
theorem Bx.setMid {w : World} {b : Nat} {vs us : List Value} (X : Bx w b vs) (k : Nat) (hk : k + us.length ≤ vs.length) : PutX w (w.setCells b k us) b (vs.take k ++ us ++ vs.drop (k + us.length)) := by
 refine ⟨⟨by rw [size_setCells']; exact X.lt, fun j => ?_, fun j => by rw [World.frozen?_setCells]; exact X.froz j⟩, (Kept.refl _ _ _).setCells (Nat.le_refl _) (Nat.lt_succ_self _) _ _⟩
 by_cases h1 : k ≤ j ∧ j < k + us.length
 ·have := World.cell?_setCells_in b us k w (fun q hq => by rw [X.cell, List.getElem?_eq_getElem (by omega)]; rfl) (j - k) (by omega)
  rw [show k + (j - k) = j by omega] at this
  rw [this, List.append_assoc, List.getElem?_append_right (by simp; omega), List.getElem?_append_left (by simp; omega)]
  simp [Nat.min_eq_left (show k ≤ vs.length by omega), List.getElem?_eq_getElem (show j - k < us.length by omega)]
 ·rw [World.cell?_setCells_out b us k w ⟨b, j, none⟩ (fun _ _ => by show j < k ∨ k + us.length ≤ j; omega), X.cell]
  rcases (by omega : j < k ∨ k + us.length ≤ j) with q | q
  ·rw [List.append_assoc, List.getElem?_append_left (by simp; omega), List.getElem?_take_of_lt q]
  ·rw [List.getElem?_append_right (by simp; omega), List.getElem?_drop]
   congr 1; simp; omega
theorem store_midX {P : Program} {ops : Array Oper} {rest : List Oper} {dst : Option Tmp} {type : TypeId} {pos : String} {after : Array Edge} {a : Act} {w : World} {Q : Exit → Act → World → Prop} (ty : TypeId) {x y : Operand} {b : Nat} {vs : List Value} (X : Bx w b vs) (k : Nat) (us : List Value) (hk : k + us.length ≤ vs.length) (hi : (P.info? ty).map (·.size) = some us.length) (h1 : ∀ v ∈ us, v.oneCell' = true) (hx : a.eval x = .pointer (some ⟨b, k, none⟩)) (hy : a.eval y = .agg us.toArray)
  (h : ∀ W : World, PutX w W b (vs.take k ++ us ++ vs.drop (k + us.length)) → wpList P ops Q rest (a.put dst undef) W) : wpList P ops Q (⟨dst, .store ty x y, type, pos, after, none⟩ :: rest) a w := by
 refine wpList_plain rfl fun K hK => ?_
 refine wp_store_mid ty x y rfl b k us.toArray hx hy (by rw [List.size_toArray]; exact fun j hj => ⟨by rw [X.cell, List.getElem?_eq_getElem (by omega)]; rfl, X.froz _⟩) (by rw [List.size_toArray]; exact hi) (all_oneCell_toArray h1) (hK _ _ (h _ ?_))
 simpa using X.setMid (us := us) k hk
def flatF (sz n : Nat) (F : Nat → Nat → Value) : List Value := (List.range (n * sz)).map fun j => F (j / sz) (j % sz)
theorem flatF_len (sz n : Nat) (F : Nat → Nat → Value) : (flatF sz n F).length = n * sz := by simp [flatF]
theorem at_lt {sz n i j : Nat} (hi : i < n) (hj : j < sz) : i * sz + j < n * sz := by
 have : (i + 1) * sz ≤ n * sz := Nat.mul_le_mul_right _ hi
 rw [Nat.succ_mul] at this; omega
theorem at_div {sz i j : Nat} (hj : j < sz) : (i * sz + j) / sz = i := by rw [Nat.mul_comm, Nat.mul_add_div (by omega), Nat.div_eq_of_lt hj, Nat.add_zero]
theorem at_mod {sz i j : Nat} (hj : j < sz) : (i * sz + j) % sz = j := by rw [Nat.mul_comm, Nat.mul_add_mod, Nat.mod_eq_of_lt hj]
theorem flatF_get {sz n : Nat} (F : Nat → Nat → Value) {i j : Nat} (hi : i < n) (hj : j < sz) : (flatF sz n F).getD (i * sz + j) default = F i j := by
 have h := at_lt (sz := sz) hi hj
 have : (flatF sz n F).getD (i * sz + j) default = F ((i * sz + j) / sz) ((i * sz + j) % sz) := by simp [flatF, List.getD, h]
 rw [this, at_div hj, at_mod hj]
def updF (F : Nat → Nat → Value) (i j : Nat) (v : Value) : Nat → Nat → Value := fun a b => if a = i ∧ b = j then v else F a b
theorem flatF_set {sz n : Nat} (F : Nat → Nat → Value) {i j : Nat} (hj : j < sz) (v : Value) : (flatF sz n F).set (i * sz + j) v = flatF sz n (updF F i j v) := by
 apply List.ext_getElem (by simp [flatF])
 intro q h1 h2
 simp only [List.getElem_set, flatF, List.getElem_map, List.getElem_range, updF]
 by_cases e : i * sz + j = q
 ·subst e; rw [if_pos rfl, if_pos ⟨at_div hj, at_mod hj⟩]
 ·rw [if_neg e, if_neg]
  rintro ⟨rfl, rfl⟩
  exact e (by rw [Nat.mul_comm]; exact Nat.div_add_mod q sz)
theorem flatF_congr {sz n : Nat} {F G : Nat → Nat → Value} (h : ∀ i j, i < n → j < sz → F i j = G i j) : flatF sz n F = flatF sz n G := by
 refine List.map_congr_left fun q hq => ?_
 have hq' := List.mem_range.1 hq
 have hs : 0 < sz := by
  rcases Nat.eq_zero_or_pos sz with e | e
  ·rw [e, Nat.mul_zero] at hq'; omega
  ·exact e
 exact h _ _ (Nat.div_lt_of_lt_mul (by rwa [Nat.mul_comm])) (Nat.mod_lt _ hs)
theorem flatF_zero (sz : Nat) (F : Nat → Nat → Value) : flatF sz 0 F = [] := by simp [flatF]
structure ElsAt (sz : Nat) (w : World) (own : Bool) (lo hi : Nat) (ao : Option Addr) (n cap : Nat) (F : Nat → Nat → Value) (K : Nat → Hd) (L : Nat → List En) : Prop where
 row : RowAt w own lo hi sz ao n cap (flatF sz n F)
 logs : ∀ i, i < n → RowAt w own lo hi 6 (K i).1 (K i).2.1 (K i).2.2 (sixs (L i))
 sep : own = true → ∀ i, i < n → (K i).2.1 ≠ 0 → sb (K i).1 ≠ sb ao ∧ ∀ j, j < n → j ≠ i → (K j).2.1 ≠ 0 → sb (K j).1 ≠ sb (K i).1
section
variable {sz : Nat} {w w' : World} {own : Bool} {lo hi : Nat} {ao : Option Addr} {n cap : Nat} {F : Nat → Nat → Value} {K : Nat → Hd} {L : Nat → List En}
theorem ElsAt.below (h : ElsAt sz w own lo hi ao n cap F K L) (hb : Below w.heap.size w w') : ElsAt sz w' own lo hi ao n cap F K L := ⟨h.row.below hb, fun i hi => (h.logs i hi).below hb, h.sep⟩
theorem ElsAt.kept (h : ElsAt sz w own lo hi ao n cap F K L) {l u : Nat} (hk : Kept l u w w') (hd : hi ≤ l ∨ u ≤ lo) : ElsAt sz w' own lo hi ao n cap F K L := ⟨h.row.kept hk hd, fun i hi => (h.logs i hi).kept hk hd, h.sep⟩
theorem ElsAt.widen (h : ElsAt sz w own lo hi ao n cap F K L) {lo' hi' : Nat} (h1 : lo' ≤ lo) (h2 : hi ≤ hi') : ElsAt sz w own lo' hi' ao n cap F K L := ⟨h.row.widen h1 h2, fun i hi => (h.logs i hi).widen h1 h2, h.sep⟩
def inE (ao : Option Addr) (n : Nat) (K : Nat → Hd) (k : Nat) : Prop := (n ≠ 0 ∧ k = sb ao) ∨ ∃ i, i < n ∧ (K i).2.1 ≠ 0 ∧ k = sb (K i).1
def inR (ao : Option Addr) (n k : Nat) : Prop := n ≠ 0 ∧ k = sb ao
theorem RowAt.inB {cs : List Value} {size : Nat} (h : RowAt w own lo hi size ao n cap cs) {k : Nat} (hk : inR ao n k) : lo ≤ k ∧ k < hi ∧ k < w.heap.size := by
 obtain ⟨h0, rfl⟩ := hk
 obtain ⟨b, off, e, h1, h2, h3, _⟩ := h.cells h0
 rw [e]; exact ⟨h1, h2, h3⟩
theorem ElsAt.inB (h : ElsAt sz w own lo hi ao n cap F K L) {k : Nat} (hk : inE ao n K k) : lo ≤ k ∧ k < hi ∧ k < w.heap.size := by
 rcases hk with h0 | ⟨i, hi, h0⟩
 ·exact h.row.inB h0
 ·exact (h.logs i hi).inB h0
theorem RowAt.keptR {cs : List Value} {size : Nat} (h : RowAt w own lo hi size ao n cap cs) {S : Nat → Prop} (hk : KeptS S w w') (hd : ∀ k, inR ao n k → ¬ S k) : RowAt w' own lo hi size ao n cap cs :=
 h.keptS hk fun a hn e => by have := hd (sb ao) ⟨hn, rfl⟩; rwa [e] at this
theorem ElsAt.keptS (h : ElsAt sz w own lo hi ao n cap F K L) {S : Nat → Prop} (hk : KeptS S w w') (hd : ∀ k, inE ao n K k → ¬ S k) : ElsAt sz w' own lo hi ao n cap F K L :=
 ⟨h.row.keptR hk fun k hk => hd k (Or.inl hk), fun i hi => (h.logs i hi).keptR hk fun k hk => hd k (Or.inr ⟨i, hi, hk⟩), h.sep⟩
theorem ElsAt.congr (h : ElsAt sz w own lo hi ao n cap F K L) {G : Nat → Nat → Value} {M : Nat → List En} (hF : ∀ i j, i < n → j < sz → F i j = G i j) (hL : ∀ i, i < n → L i = M i) : ElsAt sz w own lo hi ao n cap G K M :=
 ⟨by rw [← flatF_congr hF]; exact h.row, fun i hi => by rw [← hL i hi]; exact h.logs i hi, h.sep⟩
theorem RowAt.ro {cs : List Value} {size : Nat} (h : RowAt w own lo hi size ao n cap cs) : RowAt w false lo hi size ao n cap cs := by
 refine ⟨h.len, h.le, fun hn => ?_⟩
 obtain ⟨b, off, e, h1, h2, h3, h4, _⟩ := h.cells hn
 exact ⟨b, off, e, h1, h2, h3, h4, fun q => by cases q⟩
theorem ElsAt.ro (h : ElsAt sz w own lo hi ao n cap F K L) : ElsAt sz w false lo hi ao n cap F K L := ⟨h.row.ro, fun i hi => (h.logs i hi).ro, fun q => by cases q⟩
theorem ElsAt.el (h : ElsAt sz w own lo hi ao n cap F K L) {i : Nat} (hi' : i < n) (_ : 0 < sz) :
  ∃ b off, ao = some ⟨b, off, none⟩ ∧ lo ≤ b ∧ b < hi ∧ b < w.heap.size ∧ (∀ j, j < sz → w.cell? ⟨b, off + (i * sz + j), none⟩ = some (F i j)) ∧ (own = true → ∀ j, j < sz → w.frozen? ⟨b, off + (i * sz + j), none⟩ = false) := by
 obtain ⟨b, off, rfl, h1, h2, h3, h4, h5⟩ := h.row.cells (by omega)
 exact ⟨b, off, rfl, h1, h2, h3, fun j hj => by rw [h4 _ (at_lt hi' hj), flatF_get F hi' hj], fun ho j hj => h5 ho _ (at_lt hi' hj)⟩
theorem ElsAt.store {b off : Nat} (h : ElsAt sz w true lo hi (some ⟨b, off, none⟩) n cap F K L) {i j : Nat} (hi' : i < n) (hj : j < sz) (v : Value) :
  ElsAt sz (w.setCell ⟨b, off + (i * sz + j), none⟩ v) true lo hi (some ⟨b, off, none⟩) n cap (updF F i j v) K L := by
 have R := h.row.stored (i := i * sz + j) (at_lt hi' hj) v
 rw [flatF_set F hj] at R
 have KS1 : KeptS (fun x => x = b) w (w.setCell ⟨b, off + (i * sz + j), none⟩ v) := by
  refine KeptS.setCell (KeptS.refl _ _) ?_ _; rfl
 exact ⟨R, fun q hq => (h.logs q hq).keptR KS1 fun k hk e => (h.sep rfl q hq hk.1).1 (by rw [← hk.2]; exact e), h.sep⟩
end
theorem RowAt.nilR (w : World) (own : Bool) (lo hi size : Nat) (ao : Option Addr) (c : Nat) : RowAt w own lo hi size ao 0 c [] := ⟨by simp, Nat.zero_le _, fun h => absurd rfl h⟩
theorem ElsAt.nil (sz : Nat) (w : World) (own : Bool) (lo hi : Nat) (ao : Option Addr) (c : Nat) (F : Nat → Nat → Value) (K : Nat → Hd) (L : Nat → List En) : ElsAt sz w own lo hi ao 0 c F K L :=
 ⟨by rw [flatF_zero]; exact RowAt.nilR _ _ _ _ _ _ _, fun i hi => absurd hi (Nat.not_lt_zero _), fun _ i hi => absurd hi (Nat.not_lt_zero _)⟩
abbrev Dr := Bool × Int × List En × Int
def dr0 : Dr := (false, 0, [], 0)
def drF (K : Nat → Hd) (ds : List Dr) (i j : Nat) : Value := if j = 0 then .bool (ds.getD i dr0).1 else if j = 1 then .int .i64 (ds.getD i dr0).2.1 else if j = 2 then hv (K i) else .int .i64 (ds.getD i dr0).2.2.2
def drL (ds : List Dr) (i : Nat) : List En := (ds.getD i dr0).2.2.1
structure DoersAt (w : World) (own : Bool) (lo hi : Nat) (ao : Option Addr) (n cap : Nat) (K : Nat → Hd) (ds : List Dr) : Prop where
 len : ds.length = n
 els : ElsAt 4 w own lo hi ao n cap (drF K ds) K (drL ds)
structure Ml where
 kind : Int
 fr : Int
 to : Int
 view : Int
 at_ : Int
 has : Bool
 en : En
 last : Int
 log : List En
 commit : Int
def ml0 : Ml := ⟨0, 0, 0, 0, 0, false, en0, 0, [], 0⟩
def mlV (h : Hd) (m : Ml) : List Value := [.int .i64 m.kind, .int .i64 m.fr, .int .i64 m.to, .int .i64 m.view, .int .i64 m.at_, .bool m.has, .int .i64 m.en.1, .int .i64 m.en.2.1, .int .i64 m.en.2.2.1, .int .i64 m.en.2.2.2.1, .int .i64 m.en.2.2.2.2.1, .int .i64 m.en.2.2.2.2.2, .int .i64 m.last, hv h, .int .i64 m.commit]
def mlF (K : Nat → Hd) (ms : List Ml) (i j : Nat) : Value := (mlV (K i) (ms.getD i ml0)).getD j default
def mlL (ms : List Ml) (i : Nat) : List En := (ms.getD i ml0).log
structure MailsAt (w : World) (own : Bool) (lo hi : Nat) (ao : Option Addr) (n cap : Nat) (K : Nat → Hd) (ms : List Ml) : Prop where
 len : ms.length = n
 els : ElsAt 15 w own lo hi ao n cap (mlF K ms) K (mlL ms)
structure Rep where
 id : Int
 size : Int
 view : Int
 normal : Bool
 last : Int
 log : List En
 commit : Int
 oks : List Int
 asks : List Bool
 doers : List Dr
def rep0 : Rep := ⟨0, 0, 0, false, 0, [], 0, [], [], []⟩
structure RH where
 L : Hd
 O : Hd
 A : Hd
 D : Hd
 K : Nat → Hd
def repC (r : Rep) (h : RH) : List Value := [.int .i64 r.id, .int .i64 r.size, .int .i64 r.view, .bool r.normal, .int .i64 r.last, hv h.L, .int .i64 r.commit, hv h.O, hv h.A, hv h.D]
def Sep (S T : Nat → Prop) : Prop := ∀ x, S x → ¬ T x
def hR (h : Hd) : Nat → Prop := inR h.1 h.2.1
structure RepAt (w : World) (own : Bool) (lo hi : Nat) (h : RH) (r : Rep) : Prop where
 log : RowAt w own lo hi 6 h.L.1 h.L.2.1 h.L.2.2 (sixs r.log)
 oks : RowAt w own lo hi 1 h.O.1 h.O.2.1 h.O.2.2 (ints r.oks)
 asks : RowAt w own lo hi 1 h.A.1 h.A.2.1 h.A.2.2 (bls r.asks)
 doers : DoersAt w own lo hi h.D.1 h.D.2.1 h.D.2.2 h.K r.doers
 sep : own = true → Sep (hR h.L) (hR h.O) ∧ Sep (hR h.L) (hR h.A) ∧ Sep (hR h.L) (inE h.D.1 h.D.2.1 h.K) ∧ Sep (hR h.O) (hR h.A) ∧ Sep (hR h.O) (inE h.D.1 h.D.2.1 h.K) ∧ Sep (hR h.A) (inE h.D.1 h.D.2.1 h.K)
def inRep (h : RH) (k : Nat) : Prop := hR h.L k ∨ hR h.O k ∨ hR h.A k ∨ inE h.D.1 h.D.2.1 h.K k
section
variable {w w' : World} {own : Bool} {lo hi : Nat} {h : RH} {r : Rep} {ao : Option Addr} {n cap : Nat} {K : Nat → Hd} {ds : List Dr} {ms : List Ml}
theorem DoersAt.below (h : DoersAt w own lo hi ao n cap K ds) (hb : Below w.heap.size w w') : DoersAt w' own lo hi ao n cap K ds := ⟨h.len, h.els.below hb⟩
theorem DoersAt.kept (h : DoersAt w own lo hi ao n cap K ds) {l u : Nat} (hk : Kept l u w w') (hd : hi ≤ l ∨ u ≤ lo) : DoersAt w' own lo hi ao n cap K ds := ⟨h.len, h.els.kept hk hd⟩
theorem DoersAt.widen (h : DoersAt w own lo hi ao n cap K ds) {lo' hi' : Nat} (h1 : lo' ≤ lo) (h2 : hi ≤ hi') : DoersAt w own lo' hi' ao n cap K ds := ⟨h.len, h.els.widen h1 h2⟩
theorem DoersAt.keptS (h : DoersAt w own lo hi ao n cap K ds) {S : Nat → Prop} (hk : KeptS S w w') (hd : Sep (inE ao n K) S) : DoersAt w' own lo hi ao n cap K ds := ⟨h.len, h.els.keptS hk hd⟩
theorem DoersAt.ro (h : DoersAt w own lo hi ao n cap K ds) : DoersAt w false lo hi ao n cap K ds := ⟨h.len, h.els.ro⟩
theorem MailsAt.below (h : MailsAt w own lo hi ao n cap K ms) (hb : Below w.heap.size w w') : MailsAt w' own lo hi ao n cap K ms := ⟨h.len, h.els.below hb⟩
theorem RepAt.below (x : RepAt w own lo hi h r) (hb : Below w.heap.size w w') : RepAt w' own lo hi h r := ⟨x.log.below hb, x.oks.below hb, x.asks.below hb, x.doers.below hb, x.sep⟩
theorem RepAt.kept (x : RepAt w own lo hi h r) {l u : Nat} (hk : Kept l u w w') (hd : hi ≤ l ∨ u ≤ lo) : RepAt w' own lo hi h r := ⟨x.log.kept hk hd, x.oks.kept hk hd, x.asks.kept hk hd, x.doers.kept hk hd, x.sep⟩
theorem RepAt.widen (x : RepAt w own lo hi h r) {lo' hi' : Nat} (h1 : lo' ≤ lo) (h2 : hi ≤ hi') : RepAt w own lo' hi' h r := ⟨x.log.widen h1 h2, x.oks.widen h1 h2, x.asks.widen h1 h2, x.doers.widen h1 h2, x.sep⟩
theorem RepAt.ro (x : RepAt w own lo hi h r) : RepAt w false lo hi h r := ⟨x.log.ro, x.oks.ro, x.asks.ro, x.doers.ro, fun q => by cases q⟩
theorem RepAt.keptS (x : RepAt w own lo hi h r) {S : Nat → Prop} (hk : KeptS S w w') (hd : Sep (inRep h) S) : RepAt w' own lo hi h r :=
 ⟨x.log.keptR hk fun k q => hd k (Or.inl q), x.oks.keptR hk fun k q => hd k (Or.inr (Or.inl q)), x.asks.keptR hk fun k q => hd k (Or.inr (Or.inr (Or.inl q))), x.doers.keptS hk fun k q => hd k (Or.inr (Or.inr (Or.inr q))), x.sep⟩
theorem RepAt.inB (x : RepAt w own lo hi h r) {k : Nat} (hk : inRep h k) : lo ≤ k ∧ k < hi ∧ k < w.heap.size := by
 rcases hk with q | q | q | q
 ·exact x.log.inB q
 ·exact x.oks.inB q
 ·exact x.asks.inB q
 ·exact x.doers.els.inB q
theorem DoersAt.doer (h : DoersAt w own lo hi ao n cap K ds) {i : Nat} (hi' : i < n) :
  ∃ b off, ao = some ⟨b, off, none⟩ ∧ lo ≤ b ∧ b < hi ∧ b < w.heap.size ∧ w.cell? ⟨b, off + i * 4, none⟩ = some (.bool (ds.getD i dr0).1) ∧ w.cell? ⟨b, off + i * 4 + 1, none⟩ = some (.int .i64 (ds.getD i dr0).2.1) ∧ w.cell? ⟨b, off + i * 4 + 2, none⟩ = some (.slice (K i).1 (K i).2.1 (K i).2.2) ∧ w.cell? ⟨b, off + i * 4 + 3, none⟩ = some (.int .i64 (ds.getD i dr0).2.2.2) ∧ (own = true → ∀ j, j < 4 → w.frozen? ⟨b, off + (i * 4 + j), none⟩ = false) := by
 obtain ⟨b, off, rfl, h1, h2, h3, h4, h5⟩ := h.els.el hi' (by omega)
 exact ⟨b, off, rfl, h1, h2, h3, h4 0 (by omega), h4 1 (by omega), h4 2 (by omega), h4 3 (by omega), h5⟩
end
structure RSz (h : RH) (m : Nat) : Prop where
 L : h.L.2.1 ≤ m
 O : h.O.2.1 ≤ m
 A : h.A.2.1 ≤ m
 D : h.D.2.1 ≤ m
 K : ∀ i, i < h.D.2.1 → (h.K i).2.1 ≤ m
theorem RSz.mono {h : RH} {m m' : Nat} (x : RSz h m) (hm : m ≤ m') : RSz h m' := ⟨Nat.le_trans x.L hm, Nat.le_trans x.O hm, Nat.le_trans x.A hm, Nat.le_trans x.D hm, fun i hi => Nat.le_trans (x.K i hi) hm⟩
theorem Bx.kp {w W : World} {b lo hi : Nat} {vs : List Value} (h : Bx w b vs) (hk : Kept lo hi w W) (hd : b < lo ∨ hi ≤ b := by omega) : Bx W b vs := h.kept hk hd
theorem bkp {w W W' : World} {b u : Nat} (B : Below w.heap.size w W) (hk : Kept b u W W') (h : w.heap.size ≤ b := by omega) : Below w.heap.size w W' := B.trans (hk.below _ h B.size)
theorem ltl {a b c : Nat} (h : a < b) (k : b ≤ c) : a < c := Nat.lt_of_lt_of_le h k
theorem rd1 {P : Program} {ops : Array Oper} {Q : Exit → Act → World → Prop} {md : Region.Mode} {S : World → Prop} (i : Nat) {o : Oper} {fuel : Nat} {listed : Array Bool} {a : Act} {w : World}
  (h : ∀ K' : Act → World → Prop, Shut (∀ a w, S w → (S w → wpAnyH P md ops Q S fuel (listed.setIfInBounds i true) a w) → K' a w) → if Region.wanted o (yielded ops a.tmps) = true then Oper.wp P o a w K' Q else K' (a.put o.dst undef) w)
  (hr : Region.ready md ops listed = [i] := by kernel_rfl) (ho : ops[i]? = some o := by rfl) : wpAnyH P md ops Q S (fuel + 1) listed a w := wpAnyH_ready hr (by simp) (AllReadyH.cons ho h AllReadyH.nil)
theorem NewX.o {w0 w W : World} {b n : Nat} {vs : List Value} (N : NewX w W b vs) (B : Below n w0 w) : w0.heap.size ≤ b := Nat.le_trans B.size N.ge
theorem NewX.u {w W : World} {b c : Nat} {us vs : List Value} (N : NewX w W b vs) (X : Bx w c us) : c < b := Nat.lt_of_lt_of_le X.lt N.ge
theorem NewX.n {w0 w W : World} {b : Nat} {vs : List Value} (N : NewX w W b vs) (B : Below w0.heap.size w0 w) : Below w0.heap.size w0 W := below_next B N.below
theorem NewX.r {w W : World} {b c : Nat} {us vs : List Value} (N : NewX w W b vs) (X : Bx w c us) : Bx W c us := X.below N.below
theorem NewX.a {w W : World} {b : Nat} {vs : List Value} (N : NewX w W b vs) : Bx W b vs ∧ (∀ k, W.cell? ⟨b, k, none⟩ = vs[k]?) ∧ (∀ k, W.frozen? ⟨b, k, none⟩ = false) := ⟨N.bx, N.bx.cell, N.bx.froz⟩
theorem NewX.c {w W : World} {b : Nat} {vs : List Value} (N : NewX w W b vs) : Bx W b vs ∧ (∀ k, W.cell? ⟨b, k, none⟩ = vs[k]?) := ⟨N.bx, N.bx.cell⟩
theorem sm {P : Program} {ops : Array Oper} {rest : List Oper} {dst : Option Tmp} {type : TypeId} {pos : String} {after : Array Edge} {a : Act} {w : World} {Q : Exit → Act → World → Prop} (ty : TypeId) {x y : Operand} {b : Nat} {vs : List Value} (X : Bx w b vs) (k : Nat) (us : List Value) (h : ∀ W : World, PutX w W b (vs.take k ++ us ++ vs.drop (k + us.length)) → wpList P ops Q rest (a.put dst undef) W)
  (hk : k + us.length ≤ vs.length := by simp) (hi : (P.info? ty).map (·.size) = some us.length := by kernel_rfl) (h1 : ∀ v ∈ us, v.oneCell' = true := by simp [Value.oneCell']) (hx : a.eval x = .pointer (some ⟨b, k, none⟩) := by with_unfolding_all rfl) (hy : a.eval y = .agg us.toArray := by with_unfolding_all rfl) : wpList P ops Q (⟨dst, .store ty x y, type, pos, after, none⟩ :: rest) a w := store_midX ty X k us hk hi h1 hx hy h
theorem so {P : Program} {ops : Array Oper} {rest : List Oper} {dst : Option Tmp} {type : TypeId} {pos : String} {after : Array Edge} {a : Act} {w : World} {Q : Exit → Act → World → Prop} (ty : TypeId) {x y : Operand} {b : Nat} {vs : List Value} (X : Bx w b vs) (k : Nat) (v : Value) (h : ∀ W : World, PutX w W b (vs.set k v) → wpList P ops Q rest (a.put dst undef) W)
  (hk : k < vs.length := by simp) (hi : (P.info? ty).map (·.size) = some 1 := by kernel_rfl) (hv : v.oneCell' = true := by with_unfolding_all rfl) (hx : a.eval x = .pointer (some ⟨b, k, none⟩) := by with_unfolding_all rfl) (hy : a.eval y = v := by with_unfolding_all rfl) : wpList P ops Q (⟨dst, .store ty x y, type, pos, after, none⟩ :: rest) a w := store_oneX ty X k v hk hi hv hx hy h
theorem al {P : Program} {ops : Array Oper} {rest : List Oper} {dst : Option Tmp} {type : TypeId} {pos : String} {after : Array Edge} {a : Act} {w : World} {Q : Exit → Act → World → Prop} (ty : TypeId) (cs : List Value) (h : ∀ (b : Nat) (W : World), NewX w W b cs → wpList P ops Q rest (a.put dst (.pointer (some ⟨b, 0, none⟩))) W) (hz : ∀ w, (zeroValue ty).run P w = .ok (.agg cs.toArray) w := by (intro _; kernel_rfl)) : wpList P ops Q (⟨dst, .alloc ty, type, pos, after, none⟩ :: rest) a w := alloc_newX ty cs hz h
end Go.Proofs.Ytjefmhjlaibbkaa
