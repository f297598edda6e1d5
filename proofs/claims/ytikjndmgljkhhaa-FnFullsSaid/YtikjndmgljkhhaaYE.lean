/- New blocks by letters: what a box or a new variable leaves, said of a letter for the block and a letter for the world. No program is named here. -/
import Derived.Test.YtikjndmgljkhhaaBase
import Derived.Laws.CopyRow
import Derived.Lib.SliceRun
import Derived.Lib.Overlaps
import Derived.Lib.AppendZeros
import Derived.Laws.Externs
import Derived.Deep.AppendSrc
import Derived.Test.YtikjndmgljkhhaaA1
import Derived.Deep.RegionLaw
import Derived.Lib.AppendZerosOnto
import Derived.BigQuiet
namespace Go.Proofs.Ytikjndmgljkhhaa
open Go.RowKit

/-- block b is new in W: its cells are cs, none is frozen -/
structure NewB (w W : World) (b : Nat) (cs : Array Value) : Prop where
  bl : b = w.heap.size
  sz : W.heap.size = w.heap.size + 1
  below : Below w.heap.size w W
  cell : ∀ (k : Nat) (v : Value), cs[k]? = some v → W.cell? ⟨b, k, none⟩ = some v
  froz : ∀ k : Nat, W.frozen? ⟨b, k, none⟩ = false
theorem NewB.lt {w W : World} {b : Nat} {cs : Array Value} (h : NewB w W b cs) : b < W.heap.size := by rw [h.sz, h.bl]; exact Nat.lt_succ_self _
theorem NewB.ge {w W : World} {b : Nat} {cs : Array Value} (h : NewB w W b cs) : w.heap.size ≤ b := Nat.le_of_eq h.bl.symm
theorem newB_mk (w : World) (cs : Array Value) (t : TypeId) : NewB w (w.alloc (.cells cs t)) w.heap.size cs :=
  ⟨rfl, by simp, (Below.refl _ _).alloc (Nat.le_refl _) _, fun k v h => by simpa using h, fun k => by simp⟩
theorem box_new {P : Program} {ops : Array Oper} {rest : List Oper} {dst : Option Tmp} {type : TypeId} {pos : String} {after : Array Edge} {a : Act} {w : World} {Q : Exit → Act → World → Prop} (ty : TypeId) {x : Operand} (cs : Array Value) (hx : a.eval x = .agg cs)
    (h : ∀ (b : Nat) (W : World), NewB w W b cs → wpList P ops Q rest (a.put dst (.pointer (some ⟨b, 0, none⟩))) W) : wpList P ops Q (⟨dst, .box ty x, type, pos, after, none⟩ :: rest) a w := by
  refine wpList_plain rfl fun K hK => ?_
  unfold Oper.wp execOp
  simp only [hx]
  clear hx
  go_simp
  exact hK _ _ (h _ _ (newB_mk _ _ _))
/-- a new variable of a type: its zero cells -/
theorem alloc_new {P : Program} {ops : Array Oper} {rest : List Oper} {dst : Option Tmp} {type : TypeId} {pos : String} {after : Array Edge} {a : Act} {w : World} {Q : Exit → Act → World → Prop} (ty : TypeId) (cs : Array Value) (hz : ∀ w, (zeroValue ty).run P w = .ok (.agg cs) w)
    (h : ∀ (b : Nat) (W : World), NewB w W b cs → wpList P ops Q rest (a.put dst (.pointer (some ⟨b, 0, none⟩))) W) : wpList P ops Q (⟨dst, .alloc ty, type, pos, after, none⟩ :: rest) a w := by
  refine wpList_plain rfl fun K hK => ?_
  unfold Oper.wp execOp
  go_simp
  exact hK _ _ (h _ _ (newB_mk _ _ _))

theorem size_setCells' (b : Nat) : ∀ (vs : List Value) (o : Nat) (w : World), (w.setCells b o vs).heap.size = w.heap.size
  | [], _, _ => rfl
  | v :: r, o, w => by rw [World.setCells, size_setCells' b r (o + 1)]; simp
/-- block b has been written whole -/
structure SetB (w W : World) (b : Nat) (cs : List Value) : Prop where
  kept : Kept b (b + 1) w W
  cell : ∀ (k : Nat) (v : Value), cs[k]? = some v → W.cell? ⟨b, k, none⟩ = some v
  froz : ∀ q k : Nat, W.frozen? ⟨q, k, none⟩ = w.frozen? ⟨q, k, none⟩
  size : W.heap.size = w.heap.size
theorem SetB.at {w W : World} {b : Nat} {cs : List Value} (h : SetB w W b cs) {q i : Nat} {v : Value} (hc : w.cell? ⟨q, i, none⟩ = some v) (hne : q ≠ b) : W.cell? ⟨q, i, none⟩ = some v := by
  have hq := World.block_lt_of_cell? w ⟨q, i, none⟩ hc
  rw [World.cell?_of_block (w := w) (w' := W) (a := ⟨q, i, none⟩) (h.kept.block q hq (by omega))]; exact hc
theorem SetB.fr {w W : World} {b : Nat} {cs : List Value} (h : SetB w W b cs) {q i : Nat} (hf : w.frozen? ⟨q, i, none⟩ = false) : W.frozen? ⟨q, i, none⟩ = false := (h.froz q i).trans hf
theorem there2 {w : World} {b : Nat} {v0 v1 : Value} (c0 : w.cell? ⟨b, 0, none⟩ = some v0) (c1 : w.cell? ⟨b, 1, none⟩ = some v1) (y0 : w.frozen? ⟨b, 0, none⟩ = false) (y1 : w.frozen? ⟨b, 1, none⟩ = false) : w.there b 0 2 := fun j hj => by
  rcases (by omega : j = 0 ∨ j = 1) with rfl | rfl
  · exact ⟨by rw [c0]; rfl, y0⟩
  · exact ⟨by rw [c1]; rfl, y1⟩
theorem there3 {w : World} {b : Nat} {v0 v1 v2 : Value} (c0 : w.cell? ⟨b, 0, none⟩ = some v0) (c1 : w.cell? ⟨b, 1, none⟩ = some v1) (c2 : w.cell? ⟨b, 2, none⟩ = some v2) (y0 : w.frozen? ⟨b, 0, none⟩ = false) (y1 : w.frozen? ⟨b, 1, none⟩ = false) (y2 : w.frozen? ⟨b, 2, none⟩ = false) : w.there b 0 3 := fun j hj => by
  rcases (by omega : j = 0 ∨ j = 1 ∨ j = 2) with rfl | rfl | rfl
  · exact ⟨by rw [c0]; rfl, y0⟩
  · exact ⟨by rw [c1]; rfl, y1⟩
  · exact ⟨by rw [c2]; rfl, y2⟩
theorem there4 {w : World} {b : Nat} {v0 v1 v2 v3 : Value} (c0 : w.cell? ⟨b, 0, none⟩ = some v0) (c1 : w.cell? ⟨b, 1, none⟩ = some v1) (c2 : w.cell? ⟨b, 2, none⟩ = some v2) (c3 : w.cell? ⟨b, 3, none⟩ = some v3) (y0 : w.frozen? ⟨b, 0, none⟩ = false) (y1 : w.frozen? ⟨b, 1, none⟩ = false) (y2 : w.frozen? ⟨b, 2, none⟩ = false) (y3 : w.frozen? ⟨b, 3, none⟩ = false) : w.there b 0 4 := fun j hj => by
  rcases (by omega : j = 0 ∨ j = 1 ∨ j = 2 ∨ j = 3) with rfl | rfl | rfl | rfl
  · exact ⟨by rw [c0]; rfl, y0⟩
  · exact ⟨by rw [c1]; rfl, y1⟩
  · exact ⟨by rw [c2]; rfl, y2⟩
  · exact ⟨by rw [c3]; rfl, y3⟩
theorem there6 {w : World} {b : Nat} {v0 v1 v2 v3 v4 v5 : Value} (c0 : w.cell? ⟨b, 0, none⟩ = some v0) (c1 : w.cell? ⟨b, 1, none⟩ = some v1) (c2 : w.cell? ⟨b, 2, none⟩ = some v2) (c3 : w.cell? ⟨b, 3, none⟩ = some v3) (c4 : w.cell? ⟨b, 4, none⟩ = some v4) (c5 : w.cell? ⟨b, 5, none⟩ = some v5) (y0 : w.frozen? ⟨b, 0, none⟩ = false) (y1 : w.frozen? ⟨b, 1, none⟩ = false) (y2 : w.frozen? ⟨b, 2, none⟩ = false) (y3 : w.frozen? ⟨b, 3, none⟩ = false) (y4 : w.frozen? ⟨b, 4, none⟩ = false) (y5 : w.frozen? ⟨b, 5, none⟩ = false) : w.there b 0 6 := fun j hj => by
  rcases (by omega : j = 0 ∨ j = 1 ∨ j = 2 ∨ j = 3 ∨ j = 4 ∨ j = 5) with rfl | rfl | rfl | rfl | rfl | rfl
  · exact ⟨by rw [c0]; rfl, y0⟩
  · exact ⟨by rw [c1]; rfl, y1⟩
  · exact ⟨by rw [c2]; rfl, y2⟩
  · exact ⟨by rw [c3]; rfl, y3⟩
  · exact ⟨by rw [c4]; rfl, y4⟩
  · exact ⟨by rw [c5]; rfl, y5⟩
theorem setB_cells {w : World} {b : Nat} {cs : List Value} {n : Nat} (hn : cs.length = n) (ht : w.there b 0 n) : SetB w (w.setCells b 0 cs) b cs := by
  refine ⟨?_, ?_, ?_, ?_⟩
  · exact (Kept.refl _ _ _).setCells (Nat.le_refl _) (Nat.lt_succ_self _) _ _
  · intro k v hv
    have hk : k < cs.length := by
      rcases Nat.lt_or_ge k cs.length with h' | h'
      · exact h'
      · rw [List.getElem?_eq_none h'] at hv; cases hv
    have := World.cell?_setCells_in b cs 0 w (fun j hj => (ht j (by omega)).1) k hk
    rw [Nat.zero_add] at this
    simpa [List.getElem?_eq_getElem hk] using this.trans (by rw [← hv, List.getElem?_eq_getElem hk])
  · intro q k; simp [World.frozen?_setCells]
  · exact size_setCells' b cs 0 w
theorem store_box {P : Program} {ops : Array Oper} {rest : List Oper} {dst : Option Tmp} {type : TypeId} {pos : String} {after : Array Edge} {a : Act} {w : World} {Q : Exit → Act → World → Prop} (ty : TypeId) {x y : Operand} (b : Nat) (cs : List Value) {n : Nat} (hn : cs.length = n) (ht : w.there b 0 n) (hi : (P.info? ty).map (·.size) = some n) (h1 : ∀ v ∈ cs, v.oneCell' = true) (hx : a.eval x = .pointer (some ⟨b, 0, none⟩)) (hy : a.eval y = .agg cs.toArray)
    (h : ∀ W : World, SetB w W b cs → wpList P ops Q rest (a.put dst undef) W) : wpList P ops Q (⟨dst, .store ty x y, type, pos, after, none⟩ :: rest) a w := by
  refine wpList_plain rfl fun K hK => ?_
  refine wp_store_mid ty x y rfl b 0 cs.toArray hx hy (by rw [List.size_toArray, hn]; exact ht) (by rw [List.size_toArray, hn]; exact hi) (all_oneCell_toArray h1) (hK _ _ (h _ (setB_cells hn ht)))
theorem Kept.fr {lo hi : Nat} {w w' : World} (h : Kept lo hi w w') {b o : Nat} (hf : w.frozen? ⟨b, o, none⟩ = false) (hb : b < lo ∨ hi ≤ b) (hs : b < w.heap.size) : w'.frozen? ⟨b, o, none⟩ = false := by
  rw [World.frozen?_of_block (w := w) (w' := w') (a := ⟨b, o, none⟩) (h.block b hs (by omega))]; exact hf
theorem six_other (W : World) (b : Nat) (v0 v1 v2 v3 v4 v5 : Value) (q i : Nat) (h : q ≠ b) : ((((((W.setCell ⟨b, 0, none⟩ v0).setCell ⟨b, 1, none⟩ v1).setCell ⟨b, 2, none⟩ v2).setCell ⟨b, 3, none⟩ v3).setCell ⟨b, 4, none⟩ v4).setCell ⟨b, 5, none⟩ v5).cell? ⟨q, i, none⟩ = W.cell? ⟨q, i, none⟩ := by
  have hn : ∀ k, (⟨b, k, none⟩ : Addr) ≠ ⟨q, i, none⟩ := fun k e => h (by injection e with e _; exact e.symm)
  rw [World.cell?_setCell_other _ _ _ _ (hn _), World.cell?_setCell_other _ _ _ _ (hn _), World.cell?_setCell_other _ _ _ _ (hn _), World.cell?_setCell_other _ _ _ _ (hn _), World.cell?_setCell_other _ _ _ _ (hn _), World.cell?_setCell_other _ _ _ _ (hn _)]

end Go.Proofs.Ytikjndmgljkhhaa

/- 'copy' and 'clear' where an element has several cells. No program is named here. -/
namespace Go.Proofs.Ytikjndmgljkhhaa
open Go.RowKit

/-- a whole block -/
def Blk (w : World) (b : Nat) (e : TypeId) (L : List Value) : Prop := w.heap[b]? = some (.cells L.toArray e (0, 0))
theorem Blk.lt {w : World} {b : Nat} {e : TypeId} {L : List Value} (h : Blk w b e L) : b < w.heap.size := by
  rcases Nat.lt_or_ge b w.heap.size with h' | h'
  · exact h'
  · unfold Blk at h; rw [Array.getElem?_eq_none h'] at h; cases h
theorem Blk.cell {w : World} {b : Nat} {e : TypeId} {L : List Value} (h : Blk w b e L) {k : Nat} {v : Value} (hk : L[k]? = some v) : w.cell? ⟨b, k, none⟩ = some v := by
  unfold Blk at h
  simp [World.cell?, h, hk]
theorem Blk.froz {w : World} {b : Nat} {e : TypeId} {L : List Value} (h : Blk w b e L) (k : Nat) : w.frozen? ⟨b, k, none⟩ = false := by
  unfold Blk at h
  simp [World.frozen?, h]
theorem Blk.set {w : World} {b : Nat} {e : TypeId} {L M : List Value} (h : Blk w b e L) : Blk (w.setRow b M.toArray) b e M := setRow_heap w b _ _ e _ h
theorem run_copy_wide {P : Program} (w : World) (dT sT ty elem : TypeId) (size : Nat) (g o dLen dCap : Nat) (a : Addr) (sLen sCap : Nat) (L : List Value) (t : TypeId) (cs : List Value)
    (hu : P.underlying dT = some (.slice elem)) (hs : (P.info? elem).map (·.size) = some size)
    (hg : Blk w g t L) (hn : Nat.min sLen dLen * size = cs.length)
    (hsrc : ∀ j v, cs[j]? = some v → w.cell? (a.add j) = some v) (hfit : o + cs.length ≤ L.length) (h1 : ∀ v ∈ cs, v.oneCell' = true) :
    (Builtin.copy_ #[dT, sT] ty #[.slice (some ⟨g, o, none⟩) dLen dCap, .slice (some a) sLen sCap]).run P w =
      .ok (goInt (Nat.min sLen dLen)) (w.setRow g (L.take o ++ cs ++ L.drop (o + cs.length)).toArray) := by
  have hl := run_loadCells_list (P := P) w a cs hsrc
  have hst := run_storeCells_at P g o t cs 0 L.toArray w hg (by simpa using hfit) h1
  cases hq : P.info? elem with
  | none => simp [hq] at hs
  | some i =>
    have hi : i.size = size := by simpa [hq] using hs
    simp [Builtin.copy_, run_underlying hu, Builtin.lenOf, Builtin.firstCells, sizeOf, typeInfo, hq, hi, hn, hl, hst]

theorem Blk.shape {w : World} {b : Nat} {e : TypeId} {L : List Value} (h : Blk w b e L) : w.shape? b = some (e, L.length) := by
  unfold Blk at h
  simp [World.shape?, h]
theorem Blk.drew {w : World} {b : Nat} {e : TypeId} {L : List Value} (h : Blk w b e L) : Blk w.drew b e L := h
theorem Blk.other {w : World} {b g : Nat} {e : TypeId} {L : List Value} (h : Blk w b e L) (hne : b ≠ g) {M : Array Value} : Blk (w.setRow g M) b e L := by
  unfold Blk at h ⊢
  rw [← h]; exact setRow_other w g b M hne
theorem grown_setRow {w W : World} {g : Nat} {M : Array Value} (h : w.grownBy W (some g)) : w.grownBy (W.setRow g M) (some g) :=
  ⟨h.os, h.tape, h.output, by rw [setRow_size]; exact h.size, fun k hk hne => by rw [setRow_other _ _ _ _ (fun e => hne (by rw [e]))]; exact h.block k hk hne⟩
theorem grown_drew (w : World) (r : Option Nat) : w.grownBy w.drew r := ⟨rfl, rfl, rfl, Nat.le_refl _, fun _ _ _ => rfl⟩
theorem grown_below {w W : World} {r : Option Nat} (h : w.grownBy W r) {B : Nat} (hB : B ≤ w.heap.size) (hr : ∀ k, r = some k → B ≤ k) : Below B w W :=
  ⟨h.os, h.tape, h.output, h.size, fun k hk => h.block k (by omega) (fun e => by have := hr k e.symm; omega)⟩
theorem grown_kept {w W : World} {r : Option Nat} (h : w.grownBy W r) {B : Nat} (hr : ∀ k, r = some k → B ≤ k) : Kept B w.heap.size w W :=
  ⟨h.os, h.tape, h.output, h.size, fun k hk hb => h.block k hk (fun e => by have := hr k e.symm; omega)⟩
theorem Blk.later {w W : World} {b : Nat} {e : TypeId} {L : List Value} (h : Blk w b e L) (B : Below w.heap.size w W) : Blk W b e L := by
  unfold Blk
  rw [B.block b h.lt]; exact h
theorem owns_wider {w : World} {base base' : Nat} {e : TypeId} {size : Nat} {v : Value} {n : Nat} {xs : List Value} (h : w.ownsRow base e size v n xs) (hl : base' ≤ base) : w.ownsRow base' e size v n xs := by
  refine ⟨h.1, ?_⟩
  rcases h.2 with hn | ⟨g, cap, cur, hv, hb, rest⟩
  · exact .inl hn
  · exact .inr ⟨g, cap, cur, hv, Nat.le_trans hl hb, rest⟩
theorem run_append_in {P : Program} (w : World) (t tx ty e : TypeId) (i : TypeInfo) (ht : P.underlying t = some (.slice e)) (hi : P.info? e = some i) (g sLen sCap : Nat) (x : Value) (n : Nat) (news : List Value) (hs : Src P i.size tx x n news w) (hroom : sLen + n ≤ sCap) (L : List Value) (hL : Blk w g e L) (hfit : sLen * i.size + news.length ≤ L.length) :
    (Builtin.append_ #[t, tx] ty #[.slice (some ⟨g, 0, none⟩) sLen sCap, x]).run P w = .ok (.slice (some ⟨g, 0, none⟩) (sLen + n) sCap) (w.setRow g (L.take (sLen * i.size) ++ news ++ L.drop (sLen * i.size + news.length)).toArray) := by
  have hst := run_storeCells_at P g (sLen * i.size) e news 0 L.toArray w hL (by simpa using hfit) hs.one
  simp only [Nat.add_zero] at hst
  rcases hs.kind with ⟨e', hk⟩ | hk <;> simp [Builtin.append_, run_underlying ht, run_underlying hk, sizeOf, typeInfo, hi, hs.len, hroom, hs.cells, Addr.add_lit, hst]
theorem run_clear_wide {P : Program} (w : World) (t e ty : TypeId) (z : Value) (ht : P.underlying t = some (.slice e)) (hv : ∀ w, (zeroValue e).run P w = .ok z w) (zs : List Value) (g o n c : Nat) (hn : 0 < n) (hz : (Builtin.zeroCells z.cells n).toList = zs) (h1 : ∀ v ∈ zs, v.oneCell' = true) (L : List Value) (hL : Blk w g e L) (hfit : o + zs.length ≤ L.length) :
    (Builtin.clear_ #[t] ty #[.slice (some ⟨g, o, none⟩) n c]).run P w = .ok (.tuple #[]) (w.setRow g (L.take o ++ zs ++ L.drop (o + zs.length)).toArray) := by
  have hst := run_storeCells_at P g o e zs 0 L.toArray w hL (by simpa using hfit) h1
  simp only [Nat.add_zero] at hst
  obtain ⟨m, rfl⟩ : ∃ m, n = m + 1 := ⟨n - 1, by omega⟩
  simp [Builtin.clear_, run_underlying ht, hv, hz, hst]
theorem step_append_run {P : Program} {ops : Array Oper} {o : Oper} {a : Act} {w : World} {K : Act → World → Prop} {Q : Exit → Act → World → Prop} {E : Prop}
    (hg : o.guard = none) (s x : Operand) (t tn : TypeId) (ho : o.op = .call { callee := .builtin .append, args := #[s, x], argTypes := #[t, tn] })
    (vs vx : Value) (hs : a.eval s = vs) (hx : a.eval x = vx) (v' : Value) (w' : World) (hr : (Builtin.append_ #[t, tn] o.type #[vs, vx]).run P w = .ok v' w') (hK : K (a.put o.dst v') w') :
    if Region.wanted o (yielded ops a.tmps) = true then Oper.wp P o a w K Q else E := by
  have hw : Region.wanted o (yielded ops a.tmps) = true := by simp [Region.wanted, hg]
  rw [if_pos hw]
  exact Lib.wp_append_run w s x t tn ho vs vx hs hx v' w' hr hK

end Go.Proofs.Ytikjndmgljkhhaa

/- slices.Insert of one volume into a row that is the call's own. -/
namespace Go.Proofs.Ytikjndmgljkhhaa
open Go.RowKit

theorem trips_cons (v : Vo) (vs : List Vo) : trips (v :: vs) = [.int .i64 v.1, .int .i64 v.2.1, .int .i64 v.2.2] ++ trips vs := by
  apply List.ext_getElem
  · simp [trips_len]; omega
  · intro j h1 h2
    have e : ∀ (l : List Value) (i : Nat) (h : i < l.length), l[i] = l.getD i default := fun l i h => by rw [List.getD_eq_getElem?_getD, List.getElem?_eq_getElem h, Option.getD_some]
    rw [e _ _ h1, e _ _ h2]
    rw [trips_len] at h1
    simp only [List.length_cons] at h1
    obtain ⟨k, r, rfl, hr⟩ : ∃ k r, j = k * 3 + r ∧ r < 3 := ⟨j / 3, j % 3, by omega, by omega⟩
    have hk : k < (v :: vs).length := by simp; omega
    have hget : ∀ i : Nat, ([Value.int .i64 v.1, .int .i64 v.2.1, .int .i64 v.2.2] ++ trips vs).getD (i + 3) default = (trips vs).getD i default := fun i => by
      rw [List.getD_eq_getElem?_getD, List.getElem?_append_right (by simp), List.getD_eq_getElem?_getD]; simp
    have g0 := trips_get0 (v :: vs) k hk
    have g1 := trips_get1 (v :: vs) k hk
    have g2 := trips_get2 (v :: vs) k hk
    cases k with
    | zero =>
      rcases (by omega : r = 0 ∨ r = 1 ∨ r = 2) with rfl | rfl | rfl
      · rw [Nat.add_zero, g0]; rfl
      · rw [g1]; rfl
      · rw [g2]; rfl
    | succ k =>
      have hk' : k < vs.length := by simpa using hk
      rw [show (k + 1) * 3 + r = k * 3 + r + 3 by omega, hget, show k * 3 + r + 3 = (k + 1) * 3 + r by omega]
      rcases (by omega : r = 0 ∨ r = 1 ∨ r = 2) with rfl | rfl | rfl
      · simp only [Nat.add_zero]; rw [g0, trips_get0 vs k hk']; rfl
      · rw [g1, trips_get1 vs k hk']; rfl
      · rw [g2, trips_get2 vs k hk']; rfl
theorem trips_app (a b : List Vo) : trips (a ++ b) = trips a ++ trips b := by
  induction a with
  | nil => rfl
  | cons v r ih => rw [List.cons_append, trips_cons, trips_cons, ih, List.append_assoc]
theorem trips_take (vs : List Vo) (k : Nat) (h : k ≤ vs.length) : (trips vs).take (k * 3) = trips (vs.take k) := by
  have e : trips vs = trips (vs.take k) ++ trips (vs.drop k) := by rw [← trips_app, List.take_append_drop]
  rw [e]
  exact List.take_left' (by rw [trips_len, List.length_take]; omega)
theorem trips_drop (vs : List Vo) (k : Nat) (h : k ≤ vs.length) : (trips vs).drop (k * 3) = trips (vs.drop k) := by
  have e : trips vs = trips (vs.take k) ++ trips (vs.drop k) := by rw [← trips_app, List.take_append_drop]
  rw [e]
  exact List.drop_left' (by rw [trips_len, List.length_take]; omega)
theorem trips_put (vs : List Vo) (v : Vo) {k : Nat} (h : putAt vs v.1 = k) : (trips vs).take (k * 3) ++ [.int .i64 v.1, .int .i64 v.2.1, .int .i64 v.2.2] ++ (trips vs).drop (k * 3) = trips (putV vs v) := by
  have hk := putAt_le vs v.1
  rw [trips_take _ _ (by omega), trips_drop _ _ (by omega)]
  unfold putV
  rw [h, trips_app, trips_cons, List.append_assoc]
theorem trips_erase (vs : List Vo) (m : Nat) (h : m < vs.length) : (trips vs).take (m * 3) ++ (trips vs).drop ((m + 1) * 3) = trips (vs.eraseIdx m) := by
  rw [trips_take _ _ (by omega), trips_drop _ _ (by omega), ← trips_app, List.eraseIdx_eq_take_drop_succ]
/-- a row of volumes that is the call's own, made out of another one -/
def InsAt (w w' : World) (e : Ending) (base : Nat) (old : Option Nat) (m : Nat) (xs : List Value) : Prop := ∃ v', e = .returned v' ∧ w'.ownsRow base 92 3 v' m xs ∧ w.grownBy w' old
section
variable {base : Nat} {n : Nat} {cs : List Value} {w : World} (h1 : ∀ u ∈ cs, u.oneCell' = true) (hn : n ≤ 1048576) {vb : Nat} {x0 x1 x2 : Value} (hx : Blk w vb 92 [x0, x1, x2]) (hx1 : ∀ u ∈ [x0, x1, x2], u.oneCell' = true) (hbase : base ≤ w.heap.size)
include hn hx hx1 hbase
set_option maxRecDepth 20000 in
set_option maxHeartbeats 2000000 in
/-- at the end -/
theorem insertV_end (s : Value) (hown : w.ownsRow base 92 3 s n cs) : Calls Try.prog 188 #[s, .int .i64 (n : Int), .slice (some ⟨vb, 0, none⟩) 1 1] w fun e w' => InsAt w w' e base s.ownBlock (n + 1) (cs ++ [x0, x1, x2]) := by
  obtain ⟨j0, hj0, hy0, hy1, hy2⟩ := info_parts Try.infoVol
  have hnews : ∀ (j : Nat) u, [x0, x1, x2][j]? = some u → w.cell? ((⟨vb, 0, none⟩ : Addr).add j) = some u := fun j u hj => by
    rw [Addr.add_lit, Nat.zero_add]; exact hx.cell hj
  rcases hown.2 with ⟨rfl, rfl⟩ | ⟨g, cap, cur, rfl, hg, hgb, hcap, hc63, hcs, hct⟩
  · clear hn
    go_enter Try.func188, Try.ntmps188
    go_wp2_with (at_builtin; refine wpList_append_own _ rfl _ _ 29 rfl base 92 j0 _ 3 24 Try.underlying29 hj0 hy0 hy1 hy2 rfl (by decide) _ 0 cs rfl hown ⟨vb, 0, none⟩ 1 1 [x0, x1, x2] rfl rfl hnews hx1 (by unfold maxLen; omega) (by omega) hbase ?_; intro v2 w1 hown1 hg1 _)
    go_ret
    exact ⟨_, rfl, hown1, hg1⟩
  · by_cases hc : n = cap
    · subst hc
      clear hcap hgb hct hcs
      go_enter Try.func188, Try.ntmps188
      go_wp2_with (at_builtin; refine wpList_append_own _ rfl _ _ 29 rfl base 92 j0 _ 3 24 Try.underlying29 hj0 hy0 hy1 hy2 rfl (by decide) _ n cs rfl hown ⟨vb, 0, none⟩ 1 1 [x0, x1, x2] rfl rfl hnews hx1 (by unfold maxLen; omega) (by omega) hbase ?_; intro v2 w1 hown1 hg1 _)
      go_ret
      exact ⟨_, rfl, hown1, hg1⟩
    · have hlt : ¬ cap ≤ n := by omega
      clear hgb hct hcs
      go_enter Try.func188, Try.ntmps188
      go_wp2_with (at_builtin; refine wpList_append_own _ rfl _ _ 29 rfl base 92 j0 _ 3 24 Try.underlying29 hj0 hy0 hy1 hy2 rfl (by decide) _ n cs rfl hown ⟨vb, 0, none⟩ 1 1 [x0, x1, x2] rfl rfl hnews hx1 (by unfold maxLen; omega) (by omega) hbase ?_; intro v2 w1 hown1 hg1 _)
      go_ret
      exact ⟨_, rfl, hown1, hg1⟩
include h1
set_option maxRecDepth 20000 in
set_option maxHeartbeats 2000000 in
/-- there is room -/
theorem insertV_shift (g cap i : Nat) (L : List Value) (hL : Blk w g 92 L) (hLl : L.length = cap * 3) (hLt : L.take (n * 3) = cs) (hi : i < n) (hroom : n + 1 ≤ cap) (hc63 : cap ≤ maxLen) (hvb : vb ≠ g) (hbg : base ≤ g) : Calls Try.prog 188 #[.slice (some ⟨g, 0, none⟩) n cap, .int .i64 (i : Int), .slice (some ⟨vb, 0, none⟩) 1 1] w fun e w' => InsAt w w' e base (some g) (n + 1) (cs.take (i * 3) ++ [x0, x1, x2] ++ cs.drop (i * 3)) := by
  have hov : ∀ (W : World) lb cb, Blk W vb 92 [x0, x1, x2] → Blk W g 92 L → (callFunc 202 #[.slice (some ⟨vb, 0, none⟩) 1 1, .slice (some ⟨g, (i + 1) * 3, none⟩) lb cb]).run Try.prog W = .ok (.value (.bool false)) W := fun W lb cb hX hG => by
    rw [run_callFunc_extern Try.func202 (by kernel_rfl) (by kernel_rfl) (by kernel_rfl) (e := Extern.SlicesOverlaps.overlaps #[29, 29] #[4]) (by kernel_rfl),
      Lib.run_overlaps_apart W 29 4 92 Try.underlying29 3 (fun _ => by kernel_rfl) ⟨vb, 0, none⟩ ⟨g, (i + 1) * 3, none⟩ 1 1 lb cb hvb _ _ _ _ hX.shape hG.shape (by omega) (hX.froz 0) (hX.froz _)]
    rfl
  have hsz : (Try.prog.info? 92).map (·.size) = some 3 := by
    obtain ⟨i0, hi0, h0, h1, h2⟩ := info_parts Try.infoVol
    rw [hi0]; simp [h1]
  have _ := hbase
  have hc63' := hc63
  unfold maxLen at hc63'
  have hz2 : ¬ ((i : Int) = (n : Int)) := by omega
  have hw1 : IntKind.i64.wrap ((i : Int) + 1) = (i : Int) + 1 := by rw [IntKind.wrap_i64]; omega
  have hw2 : IntKind.i64.wrap ((n : Int) + 1) = (n : Int) + 1 := by rw [IntKind.wrap_i64]; omega
  have hb1 : (0 : Int) ≤ (i : Int) + 1 := by omega
  have hin : i ≤ n := by omega
  have hin' : (i : Int) ≤ (n : Int) := by omega
  have hb3 : (i : Int) ≤ (n : Int) + 1 := by omega
  have hcn : (n : Int) + 1 ≤ (cap : Int) := by omega
  have hcn' : ¬ (cap : Int) < (n : Int) + 1 := by omega
  have hci : ¬ cap = i := by omega
  have hci1 : ¬ cap = i + 1 := by omega
  have htn : ((i : Int) + 1).toNat = i + 1 := by omega
  have htn2 : ((n : Int) + 1).toNat = n + 1 := by omega
  have hcl : cs.length = n * 3 := by rw [← hLt, List.length_take]; omega
  have hdl : (cs.drop (i * 3)).length = (n - i) * 3 := by rw [List.length_drop, hcl]; omega
  obtain ⟨M1, hM1⟩ : ∃ M1, L.take ((i + 1) * 3) ++ cs.drop (i * 3) ++ L.drop ((i + 1) * 3 + (cs.drop (i * 3)).length) = M1 := ⟨_, rfl⟩
  have hcp1 : ∀ (W : World) ty dc sc, Blk W g 92 L → (Builtin.copy_ #[29, 29] ty #[.slice (some ⟨g, (i + 1) * 3, none⟩) (n - i) dc, .slice (some ⟨g, i * 3, none⟩) (n + 1 - i) sc]).run Try.prog W = .ok (goInt ((n - i : Nat) : Int)) (W.setRow g M1.toArray) := fun W ty dc sc hW => by
    have hmin : Nat.min (n + 1 - i) (n - i) = n - i := by simp only [Nat.min_def]; split <;> omega
    have := run_copy_wide W 29 29 ty 92 3 g ((i + 1) * 3) (n - i) dc ⟨g, i * 3, none⟩ (n + 1 - i) sc L 92 (cs.drop (i * 3)) Try.underlying29 hsz hW (by rw [hmin, hdl])
      (fun j v hj => by
        rw [Addr.add_lit]
        rw [List.getElem?_drop, ← hLt, List.getElem?_take] at hj
        split at hj
        · exact hW.cell hj
        · cases hj) (by omega) (fun v hv => h1 v (List.mem_of_mem_drop hv))
    rw [hmin, hM1] at this
    exact this
  have hM1l : M1.length = cap * 3 := by rw [← hM1]; simp; omega
  obtain ⟨M2, hM2⟩ : ∃ M2, M1.take (i * 3) ++ [x0, x1, x2] ++ M1.drop (i * 3 + [x0, x1, x2].length) = M2 := ⟨_, rfl⟩
  have hcp2 : ∀ (W : World) ty dc, Blk W g 92 M1 → Blk W vb 92 [x0, x1, x2] → (Builtin.copy_ #[29, 29] ty #[.slice (some ⟨g, i * 3, none⟩) (n + 1 - i) dc, .slice (some ⟨vb, 0, none⟩) 1 1]).run Try.prog W = .ok (goInt 1) (W.setRow g M2.toArray) := fun W ty dc hW hX => by
    have hmin : Nat.min 1 (n + 1 - i) = 1 := by simp only [Nat.min_def]; split <;> omega
    have := run_copy_wide W 29 29 ty 92 3 g (i * 3) (n + 1 - i) dc ⟨vb, 0, none⟩ 1 1 M1 92 [x0, x1, x2] Try.underlying29 hsz hW (by rw [hmin]; rfl)
      (fun j v hj => by rw [Addr.add_lit, Nat.zero_add]; exact hX.cell hj) (by rw [hM1l]; simp; omega) hx1
    rw [hmin, hM2] at this
    exact this
  have hM2l : M2.length = cap * 3 := by rw [← hM2]; simp; omega
  have hM2t : M2.take ((n + 1) * 3) = cs.take (i * 3) ++ [x0, x1, x2] ++ cs.drop (i * 3) := by
    have e1 : M1.take (i * 3) = cs.take (i * 3) := by
      rw [← hM1, List.append_assoc, List.take_append_of_le_length (by rw [List.length_take]; omega), List.take_take, ← hLt, List.take_take]
      congr 1
      omega
    have e2 : M1.drop (i * 3 + [x0, x1, x2].length) = cs.drop (i * 3) ++ L.drop ((i + 1) * 3 + (cs.drop (i * 3)).length) := by
      rw [← hM1, List.append_assoc]
      exact List.drop_left' (by rw [List.length_take]; simp; omega)
    rw [← hM2, e1, e2, ← List.append_assoc]
    exact List.take_left' (by simp [hcl]; omega)
  go_enter Try.func188, Try.ntmps188
  go_wp2_with fail
  have hcr := fun ty dc sc => hcp1 w.drew ty dc sc hL
  go_region
  have hcr2 := fun ty dc => hcp2 (w.drew.setRow g M1.toArray) ty dc (Blk.set hL) (hx.other hvb)
  go_wp2
  go_ret
  exact ⟨_, rfl, ⟨by simp [hcl]; omega, Or.inr ⟨g, cap, M2.toArray, rfl, hbg, Blk.set (Blk.set hL), hroom, hc63, by simpa using hM2l, by simpa using hM2t⟩⟩, grown_setRow (grown_setRow (grown_drew _ _))⟩
set_option maxRecDepth 20000 in
set_option maxHeartbeats 2000000 in
/-- there is no room -/
theorem insertV_grow (g i : Nat) (hL : Blk w g 92 cs) (hLl : cs.length = n * 3) (hi : i < n) : Calls Try.prog 188 #[.slice (some ⟨g, 0, none⟩) n n, .int .i64 (i : Int), .slice (some ⟨vb, 0, none⟩) 1 1] w fun e w' => InsAt w w' e base (some g) (n + 1) (cs.take (i * 3) ++ [x0, x1, x2] ++ cs.drop (i * 3)) := by
  obtain ⟨j0, hj0, hy0, hy1, hy2⟩ := info_parts Try.infoVol
  have hsz : (Try.prog.info? 92).map (·.size) = some 3 := by rw [hj0]; simp [hy1]
  have hz2 : ¬ ((i : Int) = (n : Int)) := by omega
  have hw1 : IntKind.i64.wrap ((i : Int) + 1) = (i : Int) + 1 := by rw [IntKind.wrap_i64]; omega
  have hw2 : IntKind.i64.wrap ((n : Int) + 1) = (n : Int) + 1 := by rw [IntKind.wrap_i64]; omega
  have hw3 : IntKind.i64.wrap ((n : Int) + 1 - (i : Int)) = (n : Int) + 1 - (i : Int) := by rw [IntKind.wrap_i64]; omega
  have hb1 : (0 : Int) ≤ (i : Int) + 1 := by omega
  have hin : i ≤ n := by omega
  have hin' : (i : Int) ≤ (n : Int) := by omega
  have hb3 : (i : Int) ≤ (n : Int) + 1 := by omega
  have hb4 : (n : Int) < (n : Int) + 1 := by omega
  have hci : ¬ n = i := by omega
  have htn : ((i : Int) + 1).toNat = i + 1 := by omega
  have hkk : (n : Int) + 1 - (i : Int) = ((n + 1 - i : Nat) : Int) := by omega
  have hik : i + (n + 1 - i) = n + 1 := by omega
  have hold : (Builtin.firstCells j0.size i (.slice (some ⟨g, 0, none⟩) i n)).run Try.prog w.drew = .ok (cs.take (i * 3)).toArray w.drew := by
    rw [hy1]
    exact run_firstCells_some w.drew 3 i ⟨g, 0, none⟩ i n (cs.take (i * 3)) (by rw [List.length_take]; omega) (fun j v hj => by
      rw [Addr.add_lit, Nat.zero_add]
      rw [List.getElem?_take] at hj
      split at hj
      · exact hL.drew.cell hj
      · cases hj)
  obtain ⟨G, hG⟩ : ∃ G, G = grownCap w (n + 1) n 92 := ⟨_, rfl⟩
  obtain ⟨ROW, hROW⟩ : ∃ ROW : List Value, ROW = cs.take (i * 3) ++ ((Builtin.zeroCells (Value.agg #[.int .i64 0, .int .i64 0, .int .i64 0]).cells (n + 1 - i)).toList ++ (Builtin.zeroCells (Value.agg #[.int .i64 0, .int .i64 0, .int .i64 0]).cells (G - (n + 1))).toList) := ⟨_, rfl⟩
  have hGn : n + 1 ≤ G := by rw [hG]; exact grownCap_ge w _ _ _
  have hG63 : G ≤ maxLen := by rw [hG]; exact grownCap_le_maxLen w (n + 1) n 92 (by unfold maxLen; omega)
  have hG63' := hG63
  unfold maxLen at hG63'
  have hRl : ROW.length = G * 3 := by
    rw [hROW]
    simp [Builtin.zeroCells, Value.cells]
    omega
  have hrz : ∀ ty, (Builtin.append_ #[29, 3] ty #[.slice (some ⟨g, 0, none⟩) i n, .int .i64 ((n + 1 - i : Nat) : Int)]).run Try.prog w = .ok (.slice (some ⟨w.heap.size, 0, none⟩) (n + 1) G) (w.drew.alloc (.cells ROW.toArray 92)) := fun ty => by
    have h := Lib.run_append_grow_zeros w 29 3 ty 92 j0 _ .i64 .i64 Try.underlying29 Try.underlying3 hj0 hy0 (some ⟨g, 0, none⟩) i n (cs.take (i * 3)) hold (n + 1 - i) (by omega) (by omega) (by omega) (by omega) (by rw [hy2]; omega) (by rw [hy2, hik]; exact growslice_fits (by omega) (by omega))
    rw [hik, ← hG] at h
    have ea : ∀ (A : List Value) (b c : Array Value), A.toArray ++ b ++ c = (A ++ (b.toList ++ c.toList)).toArray := fun A b c => by apply Array.toList_inj.1; simp
    rw [h, hROW, ea]
  obtain ⟨H, hH⟩ : ∃ H, H = w.heap.size := ⟨_, rfl⟩
  obtain ⟨W1, hW1⟩ : ∃ W1, W1 = w.drew.alloc (.cells ROW.toArray 92) := ⟨_, rfl⟩
  have hN : Blk W1 H 92 ROW := by rw [hW1, hH]; exact heap_alloc_new w.drew _
  have hgl := hL.lt
  have hvl := hx.lt
  have hO : ∀ k, k < w.heap.size → W1.heap[k]? = w.heap[k]? := fun k hk => by rw [hW1]; exact (heap_alloc_old w.drew _ hk)
  have hgr : w.grownBy W1 (some g) := ⟨by rw [hW1]; rfl, by rw [hW1]; rfl, by rw [hW1]; rfl, by rw [hW1]; simp, fun k hk _ => hO k hk⟩
  rw [← hH, ← hW1] at hrz
  have hg1 : Blk W1 g 92 cs := by unfold Blk; rw [hO g hgl]; exact hL
  have hx1' : Blk W1 vb 92 [x0, x1, x2] := by unfold Blk; rw [hO vb hvl]; exact hx
  have hbH : base ≤ H := by omega
  have hHH : Hid (w.heap.size = H) := hH.symm
  have hgH : g ≠ H := by omega
  have hvH : vb ≠ H := by omega
  clear hW1 hO hH hold hG
  obtain ⟨M1, hM1⟩ : ∃ M1, ROW.take (i * 3) ++ [x0, x1, x2] ++ ROW.drop (i * 3 + [x0, x1, x2].length) = M1 := ⟨_, rfl⟩
  have hcr1 : ∀ ty dc, (Builtin.copy_ #[29, 29] ty #[.slice (some ⟨H, i * 3, none⟩) (n + 1 - i) dc, .slice (some ⟨vb, 0, none⟩) 1 1]).run Try.prog W1 = .ok (goInt 1) (W1.setRow H M1.toArray) := fun ty dc => by
    have hmin : Nat.min 1 (n + 1 - i) = 1 := by simp only [Nat.min_def]; split <;> omega
    have := run_copy_wide W1 29 29 ty 92 3 H (i * 3) (n + 1 - i) dc ⟨vb, 0, none⟩ 1 1 ROW 92 [x0, x1, x2] Try.underlying29 hsz hN (by rw [hmin]; rfl)
      (fun j v hj => by rw [Addr.add_lit, Nat.zero_add]; exact hx1'.cell hj) (by rw [hRl]; simp; omega) hx1
    rw [hmin, hM1] at this
    exact this
  have hM1l : M1.length = G * 3 := by rw [← hM1]; simp; omega
  have hdl : (cs.drop (i * 3)).length = (n - i) * 3 := by rw [List.length_drop, hLl]; omega
  obtain ⟨M2, hM2⟩ : ∃ M2, M1.take ((i + 1) * 3) ++ cs.drop (i * 3) ++ M1.drop ((i + 1) * 3 + (cs.drop (i * 3)).length) = M2 := ⟨_, rfl⟩
  have hN1 : Blk (W1.setRow H M1.toArray) H 92 M1 := Blk.set hN
  have hg2 : Blk (W1.setRow H M1.toArray) g 92 cs := hg1.other hgH
  have hcr2 : ∀ ty dc sc, (Builtin.copy_ #[29, 29] ty #[.slice (some ⟨H, (i + 1) * 3, none⟩) (n - i) dc, .slice (some ⟨g, i * 3, none⟩) (n - i) sc]).run Try.prog (W1.setRow H M1.toArray).drew = .ok (goInt ((n - i : Nat) : Int)) ((W1.setRow H M1.toArray).drew.setRow H M2.toArray) := fun ty dc sc => by
    have hmin : Nat.min (n - i) (n - i) = n - i := by simp only [Nat.min_def]; split <;> omega
    have := run_copy_wide (W1.setRow H M1.toArray).drew 29 29 ty 92 3 H ((i + 1) * 3) (n - i) dc ⟨g, i * 3, none⟩ (n - i) sc M1 92 (cs.drop (i * 3)) Try.underlying29 hsz hN1.drew (by rw [hmin, hdl])
      (fun j v hj => by
        rw [Addr.add_lit]
        rw [List.getElem?_drop] at hj
        exact hg2.drew.cell hj) (by omega) (fun v hv => h1 v (List.mem_of_mem_drop hv))
    rw [hmin, hM2] at this
    exact this
  have hM2l : M2.length = G * 3 := by rw [← hM2]; simp; omega
  have hM2t : M2.take ((n + 1) * 3) = cs.take (i * 3) ++ [x0, x1, x2] ++ cs.drop (i * 3) := by
    have e0 : ROW.take (i * 3) = cs.take (i * 3) := by
      rw [hROW]
      exact List.take_left' (by rw [List.length_take]; omega)
    have e1 : M1.take ((i + 1) * 3) = cs.take (i * 3) ++ [x0, x1, x2] := by
      rw [← hM1, e0]
      exact List.take_left' (by simp; omega)
    rw [← hM2, e1]
    exact List.take_left' (by simp [hLl]; omega)
  have hGi : ¬ G = i := by omega
  have hGi1 : ¬ G = i + 1 := by omega
  go_enter Try.func188, Try.ntmps188
  go_wp2_with (at_builtin; refine Lib.wpList_append_run _ rfl _ _ _ _ rfl _ _ rfl rfl _ _ (hrz _) ?_)
  go_region
  go_wp2
  go_ret
  refine ⟨_, rfl, ⟨by simp [hLl]; omega, Or.inr ⟨H, G, M2.toArray, rfl, hbH, Blk.set hN1.drew, hGn, hG63, by simpa using hM2l, by simpa using hM2t⟩⟩, ?_⟩
  have hlt : ∀ k, k < w.heap.size → k ≠ H := fun k hk => by have := hHH.out; omega
  exact ⟨hgr.os, hgr.tape, hgr.output, by rw [setRow_size]; show _ ≤ (W1.setRow H M1.toArray).heap.size; rw [setRow_size]; exact hgr.size, fun k hk hne => by
    rw [setRow_other _ _ _ _ (hlt k hk)]
    show (W1.setRow H M1.toArray).heap[k]? = _
    rw [setRow_other _ _ _ _ (hlt k hk)]
    exact hgr.block k hk hne⟩
set_option maxHeartbeats 1000000 in
/-- slices.Insert(s, i, v) of a row that is the call's own -/
theorem insertV_is (s : Value) (hown : w.ownsRow base 92 3 s n cs) (i : Nat) (hi : i ≤ n) (hvb : ∀ k, s.ownBlock = some k → vb ≠ k) : Calls Try.prog 188 #[s, .int .i64 (i : Int), .slice (some ⟨vb, 0, none⟩) 1 1] w fun e w' => InsAt w w' e base s.ownBlock (n + 1) (cs.take (i * 3) ++ [x0, x1, x2] ++ cs.drop (i * 3)) := by
  have hl := hown.1
  by_cases hin : i = n
  · subst hin
    have := insertV_end hn hx hx1 hbase s hown
    rw [List.take_of_length_le (by omega), List.drop_eq_nil_of_le (by omega), List.append_nil]
    exact this
  · rcases hown.2 with ⟨rfl, rfl⟩ | ⟨g, cap, cur, rfl, hg, hgb, hcap, hc63, hcs, hct⟩
    · omega
    · by_cases hc : n = cap
      · subst hc
        have hL : Blk w g 92 cs := by
          have e : cur.toList = cs := by rw [← hct, List.take_of_length_le (by simp [hcs])]
          unfold Blk
          rw [← e, Array.toArray_toList]; exact hgb
        exact insertV_grow h1 hn hx hx1 hbase g i hL hl (by omega)
      · have hL : Blk w g 92 cur.toList := by unfold Blk; rw [Array.toArray_toList]; exact hgb
        exact insertV_shift h1 hn hx hx1 hbase g cap i cur.toList hL (by simp [hcs]) hct (by omega) (by omega) hc63 (hvb g rfl) hg
end

/-- what an insert wants -/
structure InsPre (W : World) (base : Nat) (v : Value) (n : Nat) (xs : List Value) (vb : Nat) (X : List Value) : Prop where
  own : W.ownsRow base 92 3 v n xs
  blk : Blk W vb 92 X
  ne : ∀ k, v.ownBlock = some k → vb ≠ k
  le : base ≤ W.heap.size
/-- what it leaves -/
structure InsPost (W W' : World) (base : Nat) (v : Value) (n : Nat) (xs : List Value) : Prop where
  own : W'.ownsRow base 92 3 v n xs
  below : Below base W W'
theorem insertV_of {W : World} {base : Nat} {v : Value} {n : Nat} {xs : List Value} {vb : Nat} {x0 x1 x2 : Value} (I : InsPre W base v n xs vb [x0, x1, x2]) (h1 : ∀ u ∈ xs, u.oneCell' = true) (hn : n ≤ 1048576) (hx1 : ∀ u ∈ [x0, x1, x2], u.oneCell' = true) (i : Nat) (hi : i ≤ n) : Calls Try.prog 188 #[v, .int .i64 (i : Int), .slice (some ⟨vb, 0, none⟩) 1 1] W fun e w' => ∃ v', e = .returned v' ∧ InsPost W w' base v' (n + 1) (xs.take (i * 3) ++ [x0, x1, x2] ++ xs.drop (i * 3)) := by
  refine (insertV_is h1 hn I.blk hx1 I.le v I.own i hi I.ne).mono ?_
  rintro e w' ⟨v', rfl, O, G⟩
  exact ⟨v', rfl, O, grown_below G I.le fun k hk => (I.own.lt k hk).1⟩

end Go.Proofs.Ytikjndmgljkhhaa

/- Chapter 5: volumes with one more, by the program. -/
namespace Go.Proofs.Ytikjndmgljkhhaa
open Go.RowKit

def OwnV (w w' : World) (e : Ending) (m : Nat) (xs : List Value) : Prop := ∃ v', e = .returned v' ∧ w'.ownsRow w.heap.size 92 3 v' m xs ∧ Below w.heap.size w w'
set_option maxRecDepth 20000 in
set_option maxHeartbeats 1000000 in
theorem cloneV_own {o : Bool} {l u : Nat} (ab : Option Addr) (nb cb : Nat) (bs : List Vo) (w : World) (h : RowAt w o l u 3 ab nb cb (trips bs)) (hn : nb ≤ 1048576) :
    Calls Try.prog 120 #[.slice ab nb cb] w fun e w' => OwnV w w' e nb (trips bs) := by
  obtain ⟨j0, hj0, hy0, hy1, hy2⟩ := info_parts Try.infoVol
  have hq : ∀ W, (binOp .eql 29 (.slice ab nb cb) (.slice none 0 0)).run Try.prog W = .ok (.bool ab.isNone) W := fun W => Lib.run_eql_slice_nil W _ _ ab nb cb 0 0 Try.underlying29
  cases ab with
  | none =>
    simp only [Option.isNone_none] at hq
    have hz : nb = 0 := Decidable.byContradiction fun hne => by obtain ⟨_, _, e, _⟩ := h.cells hne; cases e
    subst hz
    have hbs : trips bs = [] := List.eq_nil_of_length_eq_zero (by have := h.len; omega)
    rw [hbs]
    go_enter Try.func120, Try.ntmps120
    go_wp2
    go_ret
    exact ⟨_, rfl, World.ownsRow_nil _ _ _ _, Below.refl _ _⟩
  | some ad =>
    simp only [Option.isNone_some] at hq
    have B3 : Below w.heap.size w (w.alloc (.cells #[] 92)) := (Below.refl _ _).alloc (Nat.le_refl _) _
    have O3 : (w.alloc (.cells #[] 92)).ownsRow w.heap.size 92 3 (.slice (some ⟨w.heap.size, 0, none⟩) 0 0) 0 [] := World.ownsRow_made w #[] 0 (Nat.le_refl _) (Nat.zero_le _) rfl
    have hsrc : ∀ j u, (trips bs)[j]? = some u → (w.alloc (.cells #[] 92)).cell? (ad.add j) = some u := fun j u hj => by
      have hjl : j < (trips bs).length := by
        rcases Nat.lt_or_ge j (trips bs).length with h' | h'
        · exact h'
        · rw [List.getElem?_eq_none h'] at hj; cases hj
      have hl := h.len
      obtain ⟨b, off, e, _, _, _, hc, _⟩ := (h.below B3).cells (by omega)
      obtain rfl : ad = ⟨b, off, none⟩ := by simpa using e
      rw [Addr.add_lit, hc j (by omega), List.getD_eq_getElem?_getD, hj]; rfl
    go_enter Try.func120, Try.ntmps120
    go_wp2_with (at_builtin; refine wpList_append_own _ rfl _ _ 29 rfl w.heap.size 92 j0 _ 3 24 Try.underlying29 hj0 hy0 hy1 hy2 rfl (by decide) _ 0 [] rfl O3 ad nb cb (trips bs) rfl h.len hsrc (trips_one bs) (by unfold maxLen; omega) (by omega) (by simp) ?_; intro v2 w1 hown1 hg1 _)
    go_wp2
    go_ret
    rw [List.nil_append, Nat.zero_add] at hown1
    have hg2 : (w.alloc (.cells #[] 92)).grownBy w1 (some w.heap.size) := hg1
    exact ⟨_, rfl, hown1, B3.trans (grown_below hg2 B3.size (fun k hk => by injection hk with hk; omega))⟩

set_option maxRecDepth 20000 in
set_option maxHeartbeats 1000000 in
theorem volsWith_is {o2 : Bool} {l2 u2 : Nat} (av : Option Addr) (nv cv : Nat) (vs : List Vo) (w : World) (hv : RowAt w o2 l2 u2 3 av nv cv (trips vs)) (hvn : nv ≤ 1048576) (id q r : Int) :
    Calls Try.prog 157 #[.slice av nv cv, .agg #[.int .i64 id, .int .i64 q, .int .i64 r]] w fun e w' => OwnV w w' e (nv + 1) (trips (putV vs (id, q, r))) := by
  have hvl := hv.nTrips
  go_enter Try.func157, Try.ntmps157
  go_wp2_with (first | ((with_reducible refine box_new 92 #[.int .i64 id, .int .i64 q, .int .i64 r] rfl ?_); intro b0 W0 N0; have O0 : Hid (w.heap.size ≤ b0) := N0.ge; have B := N0.below; have H0 : Hid (b0 < W0.heap.size) := N0.lt; have c0_0 : W0.cell? ⟨b0, 0, none⟩ = some (.int .i64 id) := N0.cell 0 _ rfl; have c0_1 : W0.cell? ⟨b0, 1, none⟩ = some (.int .i64 q) := N0.cell 1 _ rfl; have c0_2 : W0.cell? ⟨b0, 2, none⟩ = some (.int .i64 r) := N0.cell 2 _ rfl; clear N0) | fail)
  have T0 : Hid (w.heap.size ≤ W0.heap.size) := B.size
  obtain ⟨W, hW⟩ : ∃ W, W = W0 := ⟨_, rfl⟩
  go_loopw [5] (fun i wr => ∃ k : Nat, k ≤ nv ∧ i = .int .i64 k ∧ (∀ j, j < k → (vs.getD j vo0).1 < id) ∧ Below W0.heap.size W0 wr) (fun i _ => nv - (intOf i).toNat)
  case atStart => exact ⟨0, Nat.zero_le _, rfl, fun j hj => absurd hj (Nat.not_lt_zero _), Below.refl _ _⟩
  case round =>
    obtain ⟨k, hk, rfl, ha, BL⟩ := hrel
    have HA : Hid _ := ha
    clear ha
    replace c0_0 := cell_later BL c0_0
    replace c0_1 := cell_later BL c0_1
    replace c0_2 := cell_later BL c0_2
    replace B := below_next B BL
    have HBL : Hid (W0.heap.size ≤ wr.heap.size) := BL.size
    by_cases hlt : k < nv
    · obtain ⟨b, off, rfl, _, _, hbs, e0, _, _, _⟩ := (hv.below B).trip hlt
      have hlk : (k : Int) < (nv : Int) := by omega
      have hlk' : decide ((k : Int) < (nv : Int)) = true := decide_eq_true hlk
      obtain ⟨x, hx⟩ : ∃ x, (vs.getD k vo0).1 = x := ⟨_, rfl⟩
      rw [hx] at e0
      have HX : Hid _ := hx
      clear hx
      by_cases he : x < id
      · have hd0 : decide (x < id) = true := decide_eq_true he
        have HN : Hid (∀ j, j < k + 1 → (vs.getD j vo0).1 < id) := fun j hj => by
          by_cases e : j = k
          · rw [e, HX.out]; exact he
          · exact HA.out j (by omega)
        clear HA HX
        go_wp2_with fail
        go_quiet (fail)
        go_wp2
        go_roundw
        case rel => exact ⟨k + 1, by omega, by go_num, HN.out, below_drewN BL _⟩
        case measure => simp [intOf]; omega
      · have hd0 : decide (x < id) = false := decide_eq_false he
        have HNO : Hid (k < vs.length → ¬ (vs.getD k vo0).1 < id) := fun _ => by rw [HX.out]; exact he
        have HNX : Hid (¬ x < id) := he
        clear HX
        go_wp2_with fail
        go_quiet (fail)
        have D0 := below_drewN (Below.refl wr.heap.size wr) nq
        obtain ⟨w1, hw1⟩ : ∃ w1, w1 = wr.drewN nq := ⟨_, rfl⟩
        rw [← hw1] at D0
        rw [← hw1]
        clear hw1
        replace c0_0 := cell_later D0 c0_0
        replace c0_1 := cell_later D0 c0_1
        replace c0_2 := cell_later D0 c0_2
        replace B := below_next B D0
        have HD0 : Hid (wr.heap.size ≤ w1.heap.size) := D0.size
        clear D0
        go_wp2_with fail
        have HP : Hid (putAt vs id = k) := putAt_is (by omega) HA.out (fun h => Int.not_lt.2 (HNO.out h))
        clear HA HNO
        have D : Below w1.heap.size w1 w1.drew := (Below.refl _ _).drew
        replace c0_0 := cell_later D c0_0
        replace c0_1 := cell_later D c0_1
        replace c0_2 := cell_later D c0_2
        replace B := below_next B D
        clear D
        have hnil : ∀ v ∈ [Value.int .i64 id, Value.int .i64 q, Value.int .i64 r], v.oneCell' = true := by simp [Value.oneCell']
        have BA : Below w1.drew.heap.size w1.drew (w1.alloc (.cells #[.int .i64 id, .int .i64 q, .int .i64 r] 92)).drew := ((Below.refl _ _).alloc (Nat.le_refl _) _ : Below w1.drew.heap.size w1.drew (w1.drew.alloc (.cells #[.int .i64 id, .int .i64 q, .int .i64 r] 92)))
        have KA : Blk (w1.alloc (.cells #[.int .i64 id, .int .i64 q, .int .i64 r] 92)).drew w1.heap.size 92 [.int .i64 id, .int .i64 q, .int .i64 r] := heap_alloc_new w1 _
        have HB0 : Hid (b0 < w1.drew.heap.size) := Nat.lt_of_lt_of_le H0.out (Nat.le_trans HBL.out HD0.out)
        have HBB : Hid (w.heap.size ≤ w1.drew.heap.size) := B.size
        go_region_held3 (fun w' => w'.cell? ⟨b0, 0, none⟩ = some (.int .i64 id) ∧ w'.cell? ⟨b0, 1, none⟩ = some (.int .i64 q) ∧ w'.cell? ⟨b0, 2, none⟩ = some (.int .i64 r)) (first | exact ⟨c0_0, c0_1, c0_2⟩ | exact ⟨cell_later BA c0_0, cell_later BA c0_1, cell_later BA c0_2⟩ | exact ⟨cell_later BA2 c0_0, cell_later BA2 c0_1, cell_later BA2 c0_2⟩)
          (first | (go_at_call 120; (with_reducible refine (cloneV_own (some ⟨b, off, none⟩) nv cv vs _ (hv.below B) hvn).mono ?_); rintro e w2 ⟨v2, rfl, O2, B2⟩; replace c0_0 := cell_later B2 c0_0; replace c0_1 := cell_later B2 c0_1; replace c0_2 := cell_later B2 c0_2; have BA2 : Below w2.heap.size w2 (w2.alloc (.cells #[.int .i64 id, .int .i64 q, .int .i64 r] 92)) := (Below.refl _ _).alloc (Nat.le_refl _) _; have IP : InsPre (w2.alloc (.cells #[.int .i64 id, .int .i64 q, .int .i64 r] 92)) w1.drew.heap.size v2 nv (trips vs) w2.heap.size [.int .i64 id, .int .i64 q, .int .i64 r] := ⟨owns_below O2 BA2, heap_alloc_new _ _, fun k hk e => absurd (O2.lt k hk).2 (by omega), Nat.le_trans B2.size BA2.size⟩; have BX := below_next (below_next B B2) BA2; clear O2 B2) | (go_at_call 188; (with_reducible refine (insertV_of IP (trips_one vs) hvn hnil k hk).mono ?_); rintro e w3 ⟨v3, rfl, IQ⟩; replace c0_0 := (IQ.below.cell (p := ⟨b0, 0, none⟩) HB0.out).trans (cell_later BA2 c0_0); replace c0_1 := (IQ.below.cell (p := ⟨b0, 1, none⟩) HB0.out).trans (cell_later BA2 c0_1); replace c0_2 := (IQ.below.cell (p := ⟨b0, 2, none⟩) HB0.out).trans (cell_later BA2 c0_2)) | (go_at_call 120; (with_reducible refine (cloneV_own (some ⟨b, off, none⟩) nv cv vs _ (hv.below (below_next B BA)) hvn).mono ?_); rintro e w2 ⟨v2, rfl, O2, B2⟩; replace c0_0 := cell_later B2 (cell_later BA c0_0); replace c0_1 := cell_later B2 (cell_later BA c0_1); replace c0_2 := cell_later B2 (cell_later BA c0_2); have BA2 : Below w2.heap.size w2 w2 := Below.refl _ _; have IP : InsPre w2 w1.drew.heap.size v2 nv (trips vs) w1.heap.size [.int .i64 id, .int .i64 q, .int .i64 r] := ⟨owns_wider O2 BA.size, KA.later B2, fun k hk e => absurd (O2.lt k hk).1 (by have q1 := KA.lt; omega), Nat.le_trans BA.size B2.size⟩; have BX := below_next (below_next B BA) B2; clear O2 B2))
        all_goals
          go_wp2
          go_ret
          have e9 := trips_put vs (id, q, r) HP.out
          have O9 := IQ.own
          rw [e9] at O9
          exact ⟨_, rfl, owns_wider O9 HBB.out, BX.trans (IQ.below.mono HBB.out)⟩
    · obtain rfl : k = nv := by omega
      have hlk' : decide ((k : Int) < (k : Int)) = false := decide_eq_false (by omega)
      have HNO : Hid (k < vs.length → id ≤ (vs.getD k vo0).1) := fun h => absurd h (by omega)
      go_wp2_with fail
      go_quiet (fail)
      have D0 := below_drewN (Below.refl wr.heap.size wr) nq
      obtain ⟨w1, hw1⟩ : ∃ w1, w1 = wr.drewN nq := ⟨_, rfl⟩
      rw [← hw1] at D0
      rw [← hw1]
      clear hw1
      replace c0_0 := cell_later D0 c0_0
      replace c0_1 := cell_later D0 c0_1
      replace c0_2 := cell_later D0 c0_2
      replace B := below_next B D0
      have HD0 : Hid (wr.heap.size ≤ w1.heap.size) := D0.size
      clear D0
      go_wp2_with fail
      have HP : Hid (putAt vs id = k) := putAt_is (by omega) HA.out (fun h => Int.not_lt.2 (HNO.out h))
      clear HA HNO
      have D : Below w1.heap.size w1 w1.drew := (Below.refl _ _).drew
      replace c0_0 := cell_later D c0_0
      replace c0_1 := cell_later D c0_1
      replace c0_2 := cell_later D c0_2
      replace B := below_next B D
      clear D
      have hnil : ∀ v ∈ [Value.int .i64 id, Value.int .i64 q, Value.int .i64 r], v.oneCell' = true := by simp [Value.oneCell']
      have BA : Below w1.drew.heap.size w1.drew (w1.alloc (.cells #[.int .i64 id, .int .i64 q, .int .i64 r] 92)).drew := ((Below.refl _ _).alloc (Nat.le_refl _) _ : Below w1.drew.heap.size w1.drew (w1.drew.alloc (.cells #[.int .i64 id, .int .i64 q, .int .i64 r] 92)))
      have KA : Blk (w1.alloc (.cells #[.int .i64 id, .int .i64 q, .int .i64 r] 92)).drew w1.heap.size 92 [.int .i64 id, .int .i64 q, .int .i64 r] := heap_alloc_new w1 _
      have HB0 : Hid (b0 < w1.drew.heap.size) := Nat.lt_of_lt_of_le H0.out (Nat.le_trans HBL.out HD0.out)
      have HBB : Hid (w.heap.size ≤ w1.drew.heap.size) := B.size
      go_region_held3 (fun w' => w'.cell? ⟨b0, 0, none⟩ = some (.int .i64 id) ∧ w'.cell? ⟨b0, 1, none⟩ = some (.int .i64 q) ∧ w'.cell? ⟨b0, 2, none⟩ = some (.int .i64 r)) (first | exact ⟨c0_0, c0_1, c0_2⟩ | exact ⟨cell_later BA c0_0, cell_later BA c0_1, cell_later BA c0_2⟩ | exact ⟨cell_later BA2 c0_0, cell_later BA2 c0_1, cell_later BA2 c0_2⟩)
        (first | (go_at_call 120; (with_reducible refine (cloneV_own av k cv vs _ (hv.below B) hvn).mono ?_); rintro e w2 ⟨v2, rfl, O2, B2⟩; replace c0_0 := cell_later B2 c0_0; replace c0_1 := cell_later B2 c0_1; replace c0_2 := cell_later B2 c0_2; have BA2 : Below w2.heap.size w2 (w2.alloc (.cells #[.int .i64 id, .int .i64 q, .int .i64 r] 92)) := (Below.refl _ _).alloc (Nat.le_refl _) _; have IP : InsPre (w2.alloc (.cells #[.int .i64 id, .int .i64 q, .int .i64 r] 92)) w1.drew.heap.size v2 k (trips vs) w2.heap.size [.int .i64 id, .int .i64 q, .int .i64 r] := ⟨owns_below O2 BA2, heap_alloc_new _ _, fun k hk e => absurd (O2.lt k hk).2 (by omega), Nat.le_trans B2.size BA2.size⟩; have BX := below_next (below_next B B2) BA2; clear O2 B2) | (go_at_call 188; (with_reducible refine (insertV_of IP (trips_one vs) hvn hnil k hk).mono ?_); rintro e w3 ⟨v3, rfl, IQ⟩; replace c0_0 := (IQ.below.cell (p := ⟨b0, 0, none⟩) HB0.out).trans (cell_later BA2 c0_0); replace c0_1 := (IQ.below.cell (p := ⟨b0, 1, none⟩) HB0.out).trans (cell_later BA2 c0_1); replace c0_2 := (IQ.below.cell (p := ⟨b0, 2, none⟩) HB0.out).trans (cell_later BA2 c0_2)) | (go_at_call 120; (with_reducible refine (cloneV_own av k cv vs _ (hv.below (below_next B BA)) hvn).mono ?_); rintro e w2 ⟨v2, rfl, O2, B2⟩; replace c0_0 := cell_later B2 (cell_later BA c0_0); replace c0_1 := cell_later B2 (cell_later BA c0_1); replace c0_2 := cell_later B2 (cell_later BA c0_2); have BA2 : Below w2.heap.size w2 w2 := Below.refl _ _; have IP : InsPre w2 w1.drew.heap.size v2 k (trips vs) w1.heap.size [.int .i64 id, .int .i64 q, .int .i64 r] := ⟨owns_wider O2 BA.size, KA.later B2, fun k hk e => absurd (O2.lt k hk).1 (by have q1 := KA.lt; omega), Nat.le_trans BA.size B2.size⟩; have BX := below_next (below_next B BA) B2; clear O2 B2))
      all_goals
        go_wp2
        go_ret
        have e9 := trips_put vs (id, q, r) HP.out
        have O9 := IQ.own
        rw [e9] at O9
        exact ⟨_, rfl, owns_wider O9 HBB.out, BX.trans (IQ.below.mono HBB.out)⟩

end Go.Proofs.Ytikjndmgljkhhaa

/- slices.Delete of one volume out of a row that is the call's own. -/
namespace Go.Proofs.Ytikjndmgljkhhaa
open Go.RowKit

set_option maxRecDepth 20000 in
set_option maxHeartbeats 2000000 in
theorem deleteV_is {base n : Nat} {cs : List Value} {w : World} (h1 : ∀ u ∈ cs, u.oneCell' = true) (hn : n ≤ 1048576) (s : Value) (hown : w.ownsRow base 92 3 s n cs) (m : Nat) (hm : m < n) : Calls Try.prog 164 #[s, .int .i64 (m : Int), .int .i64 ((m : Int) + 1)] w fun e w' => InsAt w w' e base s.ownBlock (n - 1) (cs.take (m * 3) ++ cs.drop ((m + 1) * 3)) := by
  obtain ⟨j0, hj0, hy0, hy1, hy2⟩ := info_parts Try.infoVol
  have hcl := hown.1
  rcases hown.2 with ⟨rfl, rfl⟩ | ⟨g, cap, cur, rfl, hg, hgb, hcap, hc63, hcs, hct⟩
  · omega
  obtain ⟨L, hL0⟩ : ∃ L, cur.toList = L := ⟨_, rfl⟩
  have hL : Blk w g 92 L := by unfold Blk; rw [← hL0, Array.toArray_toList]; exact hgb
  have hLl : L.length = cap * 3 := by rw [← hL0]; simpa using hcs
  have hLt : L.take (n * 3) = cs := by rw [← hL0]; exact hct
  clear hL0 hct hcs hgb hown
  have hc63' := hc63
  unfold maxLen at hc63'
  obtain ⟨M1, hM1⟩ : ∃ M1, L.take (m * 3) ++ cs.drop ((m + 1) * 3) ++ L.drop (m * 3 + (cs.drop ((m + 1) * 3)).length) = M1 := ⟨_, rfl⟩
  have hdl : (cs.drop ((m + 1) * 3)).length = (n - (m + 1)) * 3 := by rw [List.length_drop, hcl]; omega
  have hap : ∀ (a : Addr) ty sc k c, n - (m + 1) = k → cap = c → (n - (m + 1) ≠ 0 → a = ⟨g, (m + 1) * 3, none⟩) → (Builtin.append_ #[29, 29] ty #[.slice (some ⟨g, 0, none⟩) m c, .slice (some a) k sc]).run Try.prog w.drew = .ok (.slice (some ⟨g, 0, none⟩) (n - 1) c) (w.drew.setRow g M1.toArray) := fun a ty sc k c hk hc ha => by
    subst hk
    subst hc
    have hs : Src Try.prog j0.size 29 (.slice (some a) (n - (m + 1)) sc) (n - (m + 1)) (cs.drop ((m + 1) * 3)) w.drew := by
      rw [hy1]
      refine Src.ofSlice w.drew Try.underlying29 a (n - (m + 1)) sc (cs.drop ((m + 1) * 3)) hdl (fun j u hj => ?_) (fun v hv => h1 v (List.mem_of_mem_drop hv))
      have hjl : j < (cs.drop ((m + 1) * 3)).length := by
        rcases Nat.lt_or_ge j (cs.drop ((m + 1) * 3)).length with h' | h'
        · exact h'
        · rw [List.getElem?_eq_none h'] at hj; cases hj
      rw [ha (by omega), Addr.add_lit]
      rw [List.getElem?_drop, ← hLt, List.getElem?_take] at hj
      split at hj
      · exact hL.drew.cell hj
      · cases hj
    have := run_append_in w.drew 29 29 ty 92 j0 Try.underlying29 hj0 g m cap _ _ _ hs (by omega) L hL.drew (by rw [hy1, hdl]; omega)
    rw [hy1, hM1, show m + (n - (m + 1)) = n - 1 by omega] at this
    exact this
  have hM1l : M1.length = cap * 3 := by rw [← hM1]; simp; omega
  have hM1t : M1.take ((n - 1) * 3) = cs.take (m * 3) ++ cs.drop ((m + 1) * 3) := by
    have e0 : L.take (m * 3) = cs.take (m * 3) := by rw [← hLt, List.take_take]; congr 1; omega
    rw [← hM1, e0]
    exact List.take_left' (by simp [hcl]; omega)
  obtain ⟨M2, hM2⟩ : ∃ M2, M1.take ((n - 1) * 3) ++ [.int .i64 0, .int .i64 0, .int .i64 0] ++ M1.drop ((n - 1) * 3 + [Value.int .i64 0, .int .i64 0, .int .i64 0].length) = M2 := ⟨_, rfl⟩
  have hclr : ∀ ty sc, (Builtin.clear_ #[29] ty #[.slice (some ⟨g, (n - 1) * 3, none⟩) 1 sc]).run Try.prog (w.drew.setRow g M1.toArray) = .ok (.tuple #[]) ((w.drew.setRow g M1.toArray).setRow g M2.toArray) := fun ty sc => by
    have := run_clear_wide (w.drew.setRow g M1.toArray) 29 92 ty (.agg #[.int .i64 0, .int .i64 0, .int .i64 0]) Try.underlying29 (fun _ => by kernel_rfl) [.int .i64 0, .int .i64 0, .int .i64 0] g ((n - 1) * 3) 1 sc (by decide) (by simp [Builtin.zeroCells, Value.cells, Array.range]) (by simp [Value.oneCell']) M1 (Blk.set hL.drew) (by rw [hM1l]; simp; omega)
    rw [hM2] at this
    exact this
  have hM2l : M2.length = cap * 3 := by rw [← hM2]; simp; omega
  have hM2t : M2.take ((n - 1) * 3) = cs.take (m * 3) ++ cs.drop ((m + 1) * 3) := by
    rw [← hM2, hM1t]
    exact (congrArg _ (List.append_assoc _ _ _)).trans (List.take_left' (by simp [hcl]; omega))
  have hw1 : (m : Int) ≤ (m : Int) + 1 := by omega
  have hw2 : (m : Int) + 1 ≤ (n : Int) := by omega
  have hw3 : (n : Int) ≤ (cap : Int) := by omega
  have hw4 : (0 : Int) ≤ (m : Int) + 1 := by omega
  have hw5 : ¬ (m : Int) = (m : Int) + 1 := by omega
  have ht1 : ((m : Int) + 1).toNat = m + 1 := by omega
  have hnm : ¬ n = m := by omega
  have hcm : ¬ cap = m := by omega
  have hq1 : ((n - 1 : Nat) : Int) ≤ (n : Int) := by omega
  have hq2 : n - (n - 1) = 1 := by omega
  have hq3 : ¬ cap = n - 1 := by omega
  have hq4 : (m : Int) ≤ (cap : Int) := by omega
  by_cases hcc : cap = m + 1
  · have HCC : Hid (n - (m + 1) = 0) := by show _ = _; omega
    go_enter Try.func164, Try.ntmps164
    go_wp2_with fail
    go_region_law (refine step_append_run rfl _ _ 29 29 rfl _ _ rfl rfl _ _ (hap ⟨g, 0, none⟩ _ 0 (n - (m + 1)) (m + 1) rfl hcc (fun h => absurd HCC.out h)) ?_)
    go_wp2
    go_ret
    subst hcc
    exact ⟨_, rfl, ⟨by simp [hcl]; omega, Or.inr ⟨g, m + 1, M2.toArray, rfl, hg, Blk.set (Blk.set hL.drew), by omega, hc63, by simpa using hM2l, by simpa using hM2t⟩⟩, grown_setRow (grown_setRow (grown_drew _ _))⟩
  · go_enter Try.func164, Try.ntmps164
    go_wp2_with fail
    go_region_law (refine step_append_run rfl _ _ 29 29 rfl (.slice (some ⟨g, 0, none⟩) m cap) (.slice (some ⟨g, (m + 1) * 3, none⟩) (n - (m + 1)) (cap - (m + 1))) (by simp [Act.eval, Act.put]) (by simp [Act.eval, Act.put]) _ _ (hap ⟨g, (m + 1) * 3, none⟩ _ (cap - (m + 1)) (n - (m + 1)) cap rfl rfl (fun _ => rfl)) ?_)
    go_wp2
    go_ret
    exact ⟨_, rfl, ⟨by simp [hcl]; omega, Or.inr ⟨g, cap, M2.toArray, rfl, hg, Blk.set (Blk.set hL.drew), by omega, hc63, by simpa using hM2l, by simpa using hM2t⟩⟩, grown_setRow (grown_setRow (grown_drew _ _))⟩

end Go.Proofs.Ytikjndmgljkhhaa
