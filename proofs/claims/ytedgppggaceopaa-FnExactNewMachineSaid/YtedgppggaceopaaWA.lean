/- The value of a slice, by its three parts. -/
import Derived.Test.YtedgppggaceopaaBase
import Derived.Test.YtedgppggaceopaaXA
import Derived.Test.YtedgppggaceopaaZM
import Derived.Test.YtedgppggaceopaaBools
namespace Go.Proofs.Ytedgppggaceopaa
open Go.RowKit

abbrev Hd := Option Addr × Nat × Nat
def hv (h : Hd) : Value := .slice h.1 h.2.1 h.2.2

end Go.Proofs.Ytedgppggaceopaa

/- Chapter 9: replicas and mails in plain words; boxes by one fact; lists whose elements each name a log. No program is named here. -/
namespace Go.Proofs.Ytedgppggaceopaa
open Go.RowKit

/-- a box: block b holds just these cells, none is frozen -/
structure Bx (W : World) (b : Nat) (vs : List Value) : Prop where
  lt : b < W.heap.size
  cell : ∀ k : Nat, W.cell? ⟨b, k, none⟩ = vs[k]?
  froz : ∀ k : Nat, W.frozen? ⟨b, k, none⟩ = false
theorem Bx.below {w W : World} {b : Nat} {vs : List Value} (h : Bx w b vs) (hb : Below w.heap.size w W) : Bx W b vs :=
  ⟨Nat.lt_of_lt_of_le h.lt hb.size, fun k => by rw [World.cell?_of_block (w := w) (a := ⟨b, k, none⟩) (hb.block b h.lt)]; exact h.cell k, fun k => by rw [World.frozen?_of_block (w := w) (a := ⟨b, k, none⟩) (hb.block b h.lt)]; exact h.froz k⟩
theorem Bx.kept {w W : World} {b lo hi : Nat} {vs : List Value} (h : Bx w b vs) (hk : Kept lo hi w W) (hd : b < lo ∨ hi ≤ b) : Bx W b vs :=
  ⟨Nat.lt_of_lt_of_le h.lt hk.size, fun k => by rw [World.cell?_of_block (w := w) (a := ⟨b, k, none⟩) (hk.block b h.lt hd)]; exact h.cell k, fun k => by rw [World.frozen?_of_block (w := w) (a := ⟨b, k, none⟩) (hk.block b h.lt hd)]; exact h.froz k⟩
theorem Bx.keptS {w W : World} {b : Nat} {S : Nat → Prop} {vs : List Value} (h : Bx w b vs) (hk : KeptS S w W) (hd : ¬ S b) : Bx W b vs :=
  ⟨Nat.lt_of_lt_of_le h.lt hk.size, fun k => by rw [World.cell?_of_block (w := w) (a := ⟨b, k, none⟩) (hk.block b h.lt hd)]; exact h.cell k, fun k => by rw [World.frozen?_of_block (w := w) (a := ⟨b, k, none⟩) (hk.block b h.lt hd)]; exact h.froz k⟩
/-- one cell of a box is written -/
theorem Bx.set {w : World} {b : Nat} {vs : List Value} (h : Bx w b vs) (k : Nat) (hk : k < vs.length) (v : Value) : Bx (w.setCell ⟨b, k, none⟩ v) b (vs.set k v) := by
  refine ⟨by simpa [World.setCell] using h.lt, fun j => ?_, fun j => by rw [World.frozen?_setCell]; exact h.froz j⟩
  by_cases e : j = k
  · subst e
    rw [World.cell?_setCell_same _ _ _ (by rw [h.cell j, List.getElem?_eq_getElem hk])]
    simp [hk]
  · rw [World.cell?_setCell_other _ _ _ _ (by intro q; injection q with _ q; omega), h.cell j]
    simp [Ne.symm e]
/-- a box's block is new: the law at '.box', '.alloc', and a whole '.store' -/
structure NewX (w W : World) (b : Nat) (vs : List Value) : Prop where
  bx : Bx W b vs
  ge : w.heap.size ≤ b
  below : Below w.heap.size w W
theorem newX_mk (w : World) (cs : Array Value) (t : TypeId) : NewX w (w.alloc (.cells cs t)) w.heap.size cs.toList :=
  ⟨⟨by simp, fun k => by simp, fun k => by simp⟩, Nat.le_refl _, (Below.refl _ _).alloc (Nat.le_refl _) _⟩
theorem box_newX {P : Program} {ops : Array Oper} {rest : List Oper} {dst : Option Tmp} {type : TypeId} {pos : String} {after : Array Edge} {a : Act} {w : World} {Q : Exit → Act → World → Prop} (ty : TypeId) {x : Operand} (cs : List Value) (hx : a.eval x = .agg cs.toArray)
    (h : ∀ (b : Nat) (W : World), NewX w W b cs → wpList P ops Q rest (a.put dst (.pointer (some ⟨b, 0, none⟩))) W) : wpList P ops Q (⟨dst, .box ty x, type, pos, after, none⟩ :: rest) a w := by
  refine wpList_plain rfl fun K hK => ?_
  unfold Oper.wp execOp
  simp only [hx]
  clear hx
  go_simp
  exact hK _ _ (h _ _ (by simpa using newX_mk w cs.toArray ty))
theorem alloc_newX {P : Program} {ops : Array Oper} {rest : List Oper} {dst : Option Tmp} {type : TypeId} {pos : String} {after : Array Edge} {a : Act} {w : World} {Q : Exit → Act → World → Prop} (ty : TypeId) (cs : List Value) (hz : ∀ w, (zeroValue ty).run P w = .ok (.agg cs.toArray) w)
    (h : ∀ (b : Nat) (W : World), NewX w W b cs → wpList P ops Q rest (a.put dst (.pointer (some ⟨b, 0, none⟩))) W) : wpList P ops Q (⟨dst, .alloc ty, type, pos, after, none⟩ :: rest) a w := by
  refine wpList_plain rfl fun K hK => ?_
  unfold Oper.wp execOp
  go_simp
  exact hK _ _ (h _ _ (by simpa using newX_mk w cs.toArray ty))
/-- a box has been written whole -/
structure PutX (w W : World) (b : Nat) (vs : List Value) : Prop where
  bx : Bx W b vs
  kept : Kept b (b + 1) w W
theorem run_storeVar_oneX {P : Program} {w : World} {b k : Nat} {vs : List Value} (X : Bx w b vs) (ty : TypeId) (v : Value) (hk : k < vs.length) (hv : v.oneCell' = true) (hi : (P.info? ty).map (·.size) = some 1) : (storeVar ty ⟨b, k, none⟩ v).run P w = .ok () (w.setCells b k [v]) := by
  have := run_storeCells_cells (P := P) b k [v] 0 w (fun j hj => by
    have e : j = 0 := by simpa using hj
    rw [e, Nat.add_zero, X.cell k, List.getElem?_eq_getElem hk]; rfl) (fun j _ => X.froz _) (fun x hx => by simp at hx; subst hx; exact hv)
  have hc : v.cells = #[v] := by cases v <;> first | rfl | cases hv
  cases hq : P.info? ty with
  | none => simp [hq] at hi
  | some i =>
    have hs : i.size = 1 := by simpa [hq] using hi
    simp only [Nat.add_zero] at this
    simp [storeVar, sizeOf, typeInfo, hq, hc, hs, this]
/-- one cell of a box is written: the law at '.store' of a value of one cell -/
theorem store_oneX {P : Program} {ops : Array Oper} {rest : List Oper} {dst : Option Tmp} {type : TypeId} {pos : String} {after : Array Edge} {a : Act} {w : World} {Q : Exit → Act → World → Prop} (ty : TypeId) {x y : Operand} {b : Nat} {vs : List Value} (X : Bx w b vs) (k : Nat) (v : Value) (hk : k < vs.length) (hi : (P.info? ty).map (·.size) = some 1) (hv : v.oneCell' = true) (hx : a.eval x = .pointer (some ⟨b, k, none⟩)) (hy : a.eval y = v)
    (h : ∀ W : World, PutX w W b (vs.set k v) → wpList P ops Q rest (a.put dst undef) W) : wpList P ops Q (⟨dst, .store ty x y, type, pos, after, none⟩ :: rest) a w := by
  refine wpList_plain rfl fun K hK => ?_
  have hK2 : K (a.put dst undef) (w.setCell ⟨b, k, none⟩ v) := hK _ _ (h _ ⟨X.set k hk v, Kept.setCell (p := ⟨b, k, none⟩) (Kept.refl _ _ _) (Nat.le_refl _) (Nat.lt_succ_self _) _⟩)
  unfold Oper.wp execOp
  simp only [hx, hy, Instr.storeAt, Instr.sureAddr, Sem.run_bind, Sem.run_pure, Result.andThen_ok, run_storeVar_oneX X ty v hk hv hi]
  exact hK2
theorem Bx.setMid {w : World} {b : Nat} {vs us : List Value} (X : Bx w b vs) (k : Nat) (hk : k + us.length ≤ vs.length) : PutX w (w.setCells b k us) b (vs.take k ++ us ++ vs.drop (k + us.length)) := by
  refine ⟨⟨by rw [size_setCells']; exact X.lt, fun j => ?_, fun j => by rw [World.frozen?_setCells]; exact X.froz j⟩, (Kept.refl _ _ _).setCells (Nat.le_refl _) (Nat.lt_succ_self _) _ _⟩
  by_cases h1 : k ≤ j ∧ j < k + us.length
  · have := World.cell?_setCells_in b us k w (fun q hq => by rw [X.cell, List.getElem?_eq_getElem (by omega)]; rfl) (j - k) (by omega)
    rw [show k + (j - k) = j by omega] at this
    rw [this, List.append_assoc, List.getElem?_append_right (by simp; omega), List.getElem?_append_left (by simp; omega)]
    simp [Nat.min_eq_left (show k ≤ vs.length by omega), List.getElem?_eq_getElem (show j - k < us.length by omega)]
  · rw [World.cell?_setCells_out b us k w ⟨b, j, none⟩ (fun _ _ => by show j < k ∨ k + us.length ≤ j; omega), X.cell]
    rcases (by omega : j < k ∨ k + us.length ≤ j) with q | q
    · rw [List.append_assoc, List.getElem?_append_left (by simp; omega), List.getElem?_take_of_lt q]
    · rw [List.getElem?_append_right (by simp; omega), List.getElem?_drop]
      congr 1; simp; omega
/-- some cells of a box are written: the law at '.store' of a struct -/
theorem store_midX {P : Program} {ops : Array Oper} {rest : List Oper} {dst : Option Tmp} {type : TypeId} {pos : String} {after : Array Edge} {a : Act} {w : World} {Q : Exit → Act → World → Prop} (ty : TypeId) {x y : Operand} {b : Nat} {vs : List Value} (X : Bx w b vs) (k : Nat) (us : List Value) (hk : k + us.length ≤ vs.length) (hi : (P.info? ty).map (·.size) = some us.length) (h1 : ∀ v ∈ us, v.oneCell' = true) (hx : a.eval x = .pointer (some ⟨b, k, none⟩)) (hy : a.eval y = .agg us.toArray)
    (h : ∀ W : World, PutX w W b (vs.take k ++ us ++ vs.drop (k + us.length)) → wpList P ops Q rest (a.put dst undef) W) : wpList P ops Q (⟨dst, .store ty x y, type, pos, after, none⟩ :: rest) a w := by
  refine wpList_plain rfl fun K hK => ?_
  refine wp_store_mid ty x y rfl b k us.toArray hx hy (by rw [List.size_toArray]; exact fun j hj => ⟨by rw [X.cell, List.getElem?_eq_getElem (by omega)]; rfl, X.froz _⟩) (by rw [List.size_toArray]; exact hi) (all_oneCell_toArray h1) (hK _ _ (h _ ?_))
  simpa using X.setMid (us := us) k hk

end Go.Proofs.Ytedgppggaceopaa
