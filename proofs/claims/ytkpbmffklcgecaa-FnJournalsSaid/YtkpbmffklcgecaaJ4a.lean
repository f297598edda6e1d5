/- Chapter 2: how things stand while a record is appended. -/
import Derived.Test.YtkpbmffklcgecaaJ3
import Derived.Test.YtkpbmffklcgecaaFacts
namespace Go.Proofs.Ytkpbmffklcgecaa
open Go.RowKit

/-- the blocks below mid and those from bx up to top are as they were -/
structure Hold (mid bx top : Nat) (w w' : World) : Prop where
  os : w'.os = w.os
  tape : w'.tape = w.tape
  output : w'.output = w.output
  size : w.heap.size ≤ w'.heap.size
  block : ∀ k, k < w.heap.size → (k < mid ∨ (bx ≤ k ∧ k < top)) → w'.heap[k]? = w.heap[k]?
theorem Hold.row {mid bx top : Nat} {w w' : World} (h : Hold mid bx top w w') {own : Bool} {lo hi size : Nat} {ao : Option Addr} {n cap : Nat} {cs : List Value} (hr : RowAt w own lo hi size ao n cap cs) (hd : hi ≤ mid ∨ (bx ≤ lo ∧ hi ≤ top)) : RowAt w' own lo hi size ao n cap cs := by
  refine ⟨hr.len, hr.le, fun hn => ?_⟩
  obtain ⟨b, off, rfl, h1, h2, h3, h4, h5⟩ := hr.cells hn
  have hb : w'.heap[b]? = w.heap[b]? := h.block b h3 (by omega)
  refine ⟨b, off, rfl, h1, h2, Nat.lt_of_lt_of_le h3 h.size, fun i hi => ?_, fun ho i hi => ?_⟩
  · rw [World.cell?_of_block (w := w) (a := ⟨b, off + i, none⟩) hb]; exact h4 i hi
  · rw [World.frozen?_of_block (w := w) (a := ⟨b, off + i, none⟩) hb]; exact h5 ho i hi

/-- a cache that may be appended to: nothing is in it and it has no room, or it is the call's own, in a block that nothing else has -/
def Loose (w : World) (mid bx top : Nat) (v : Value) (n : Nat) (ys : List (Int × Int)) : Prop :=
  (n = 0 ∧ ys = [] ∧ ∃ g, v = .slice (some ⟨g, 0, none⟩) 0 0) ∨ (w.ownsRow mid 41 2 v n (pairs ys) ∧ ∀ k, v.ownBlock = some k → k < bx ∨ top ≤ k)
theorem Loose.below {w w' : World} {mid bx top : Nat} {v : Value} {n : Nat} {ys : List (Int × Int)} (h : Loose w mid bx top v n ys) (hb : Below w.heap.size w w') : Loose w' mid bx top v n ys := by
  rcases h with h | ⟨h, k⟩
  · exact Or.inl h
  · exact Or.inr ⟨owns_below h hb, k⟩

structure AD (w : World) (mid bx top : Nat) (b0 : Addr) (n0 d0 : Nat) (al : Option Addr) (an ac : Nat) (xs : List Int) (all : List Int) (W : World) (v : Value) (n : Nat) (ys : List (Int × Int)) : Prop where
  res : W.heap[w.heap.size + 1]? = some (.cells #[.int .i64 0, .slice none 0 0, .slice none 0 0] 32 (0, 0))
  box : W.heap[bx]? = some (.cells #[.slice (some b0) n0 d0, v] 27 (0, 0))
  words : RowAt W true (w.heap.size + 2) mid 1 (some b0) n0 d0 (ints xs)
  cache : Loose W mid bx top v n ys
  all : RowAt W true (bx + 1) top 1 al an ac (ints all)
  below : Below w.heap.size w W
  h1 : w.heap.size + 2 ≤ mid
  h2 : mid ≤ bx
  h3 : bx < top
  h4 : top ≤ W.heap.size

section
variable {w : World} {mid bx top : Nat} {b0 : Addr} {n0 d0 : Nat} {al : Option Addr} {an ac : Nat} {xs all : List Int} {W : World} {v : Value} {n : Nat} {ys : List (Int × Int)}
theorem AD.move (h : AD w mid bx top b0 n0 d0 al an ac xs all W v n ys) {W' : World} (hb : Below W.heap.size W W') : AD w mid bx top b0 n0 d0 al an ac xs all W' v n ys := by
  have a1 := h.h1
  have a2 := h.h2
  have a3 := h.h3
  have a4 := h.h4
  refine ⟨?_, ?_, h.words.below hb, h.cache.below hb, h.all.below hb, below_next h.below hb, a1, a2, a3, Nat.le_trans a4 hb.size⟩
  · rw [hb.block _ (by omega)]; exact h.res
  · rw [hb.block _ (by omega)]; exact h.box
theorem AD.c0 (h : AD w mid bx top b0 n0 d0 al an ac xs all W v n ys) : W.cell? ⟨bx, 0, none⟩ = some (.slice (some b0) n0 d0) := by rw [cell_of_row W _ 0 _ _ _ h.box]; rfl
theorem AD.c1 (h : AD w mid bx top b0 n0 d0 al an ac xs all W v n ys) : W.cell? ⟨bx, 1, none⟩ = some v := by rw [cell_of_row W _ 1 _ _ _ h.box]; rfl
theorem AD.f0 (h : AD w mid bx top b0 n0 d0 al an ac xs all W v n ys) (j : Nat) : W.frozen? ⟨bx, j, none⟩ = false := frozen_of_row W _ j _ _ h.box
theorem AD.r0 (h : AD w mid bx top b0 n0 d0 al an ac xs all W v n ys) : W.cell? ⟨w.heap.size + 1, 0, none⟩ = some (.int .i64 0) := by rw [cell_of_row W _ 0 _ _ _ h.res]; rfl
theorem AD.r1 (h : AD w mid bx top b0 n0 d0 al an ac xs all W v n ys) : W.cell? ⟨w.heap.size + 1, 1, none⟩ = some (.slice none 0 0) := by rw [cell_of_row W _ 1 _ _ _ h.res]; rfl
theorem AD.r2 (h : AD w mid bx top b0 n0 d0 al an ac xs all W v n ys) : W.cell? ⟨w.heap.size + 1, 2, none⟩ = some (.slice none 0 0) := by rw [cell_of_row W _ 2 _ _ _ h.res]; rfl
theorem AD.rf (h : AD w mid bx top b0 n0 d0 al an ac xs all W v n ys) (j : Nat) : W.frozen? ⟨w.heap.size + 1, j, none⟩ = false := frozen_of_row W _ j _ _ h.res

theorem AD.held (h : AD w mid bx top b0 n0 d0 al an ac xs all W v n ys) {W' : World} (hg : Hold mid bx top W W') : W'.cell? ⟨bx, 1, none⟩ = some v ∧ W'.frozen? ⟨bx, 1, none⟩ = false := by
  have a3 := h.h3
  have a4 := h.h4
  have hb : W'.heap[bx]? = some (.cells #[.slice (some b0) n0 d0, v] 27 (0, 0)) := by rw [hg.block bx (by omega) (by omega)]; exact h.box
  exact ⟨by rw [cell_of_row W' _ 1 _ _ _ hb]; rfl, frozen_of_row W' _ 1 _ _ hb⟩
theorem AD.put (h : AD w mid bx top b0 n0 d0 al an ac xs all W v n ys) {W' : World} {v' : Value} {n' : Nat} {ys' : List (Int × Int)} (hown : W'.ownsRow mid 41 2 v' n' (pairs ys')) (hv : ∀ k, v'.ownBlock = some k → k < bx ∨ top ≤ k) (hg : Hold mid bx top W W') : AD w mid bx top b0 n0 d0 al an ac xs all (W'.setCell ⟨bx, 1, none⟩ v') v' n' ys' := by
  have a1 := h.h1
  have a2 := h.h2
  have a3 := h.h3
  have a4 := h.h4
  have G1 := heap_setCell_same W' bx 1 _ _ v' (by rw [hg.block bx (by omega) (by omega)]; exact h.box)
  have hk : Kept bx (bx + 1) W' (W'.setCell ⟨bx, 1, none⟩ v') := Kept.setCell (p := ⟨bx, 1, none⟩) (Kept.refl _ _ _) (Nat.le_refl _) (Nat.lt_succ_self _) _
  refine ⟨?_, by simpa using G1, (hg.row h.words (Or.inl (Nat.le_refl _))).kept hk (by omega), Or.inr ⟨owns_kept hown hk fun k e => ?_, hv⟩, (hg.row h.all (by omega)).kept hk (by omega), ?_, a1, a2, a3, ?_⟩
  · have := hg.size
    rw [hk.block _ (by omega) (by omega), hg.block _ (by omega) (by omega)]; exact h.res
  · have := hv k e; omega
  · refine h.below.trans ⟨hk.os.trans hg.os, hk.tape.trans hg.tape, hk.output.trans hg.output, Nat.le_trans hg.size hk.size, fun k hk1 => ?_⟩
    have := hg.size
    rw [hk.block k (by omega) (by omega)]; exact hg.block k (by omega) (by omega)
  · have := hk.size; have := hg.size; omega
end

theorem run_append_loose {P : Program} (w : World) (t ty : TypeId) (i : TypeInfo) (z : Value) (bytes : Nat) (ht : P.underlying t = some (.slice 41)) (hi : P.info? 41 = some i) (hz : i.zero = some z) (hsize : i.size = 2) (hby : i.bytes = bytes) (hzs0 : z.cells.size = i.size)
    (mid bx top : Nat) (v : Value) (n : Nat) (ys : List (Int × Int)) (hF : Loose w mid bx top v n ys) (hmid : mid ≤ w.heap.size) (htop : top ≤ w.heap.size)
    {o : Bool} {l u : Nat} (ad : Addr) (c : Nat) (p : Int × Int) (hsrc : RowAt w o l u 2 (some ad) 1 c (pairs [p])) (h63 : n + 1 ≤ 1048576) (hb : bytes ≤ 1048576) :
    ∃ v' w', (Builtin.append_ #[t, t] ty #[v, .slice (some ad) 1 c]).run P w = .ok v' w' ∧ w'.ownsRow mid 41 2 v' (n + 1) (pairs (ys ++ [p])) ∧ (∀ k, v'.ownBlock = some k → k < bx ∨ top ≤ k) ∧ Hold mid bx top w w' := by
  rcases hF with ⟨rfl, rfl, g, rfl⟩ | ⟨hown, hlt⟩
  · obtain ⟨ad', cap', w', hr, h2, h3, h4⟩ := run_append_fresh (P := P) w t ty 41 i z 2 bytes ht hi hz hsize hby hzs0 g (some ad) 1 c (pairs [p]) hsrc (pairs_one _) (by omega) hb
    rcases h4 with ⟨e, _⟩ | ⟨h4, h5⟩
    · exact absurd e (by omega)
    · refine ⟨_, w', hr, ?_, ?_, ⟨h3.os, h3.tape, h3.output, h3.size, fun k hk _ => h3.block k hk⟩⟩
      · have h6 := (Fresh.widen (Or.inr ⟨h4, h5⟩) hmid (Nat.le_refl _))
        rcases h6 with ⟨e, _⟩ | ⟨h6, _⟩
        · exact absurd e (by omega)
        · simpa using h6
      · intro k hk
        have := (h4.lt k hk).1
        omega
  · have hmb : (n + 1) * bytes ≤ 140737488355328 := Nat.le_trans (Nat.mul_le_mul h63 hb) (by decide)
    obtain ⟨v', w', hr, h2, h3, _, hat⟩ := run_append_own_at (P := P) w mid t ty 41 i z 2 bytes ht hi hz hsize hby (by rw [hzs0, hsize]) (by omega) v n (pairs ys) hown ad 1 c (pairs [p]) rfl (hsrc.news (by omega)) (pairs_one _) (by unfold maxLen; omega) hmb hmid
    refine ⟨v', w', hr, by rw [pairs_append]; exact h2, ?_, ⟨h3.os, h3.tape, h3.output, h3.size, fun k hk hd => h3.block k hk fun e' => ?_⟩⟩
    · intro k hk
      rcases hat with hat | hat
      · exact hlt k (hat.symm.trans hk)
      · rw [hk] at hat; injection hat with hat; omega
    · have a1 := hlt k e'.symm
      have a2 := (hown.lt k e'.symm).1
      omega

theorem step_append_loose {P : Program} {ops : Array Oper} {dst : Option Tmp} {type : TypeId} {pos : String} {after : Array Edge} {a : Act} {w : World} {K : Act → World → Prop} {Q : Exit → Act → World → Prop} {E : Prop} {s x : Operand} (t : TypeId) (i : TypeInfo) (z : Value) (bytes : Nat) (ht : P.underlying t = some (.slice 41)) (hi : P.info? 41 = some i) (hz : i.zero = some z) (hsize : i.size = 2) (hby : i.bytes = bytes) (hzs0 : z.cells.size = i.size)
    (mid bx top : Nat) (v : Value) (n : Nat) (ys : List (Int × Int)) (hF : Loose w mid bx top v n ys) (hmid : mid ≤ w.heap.size) (htop : top ≤ w.heap.size)
    {o : Bool} {l u : Nat} (ad : Addr) (c : Nat) (p : Int × Int) (hsrc : RowAt w o l u 2 (some ad) 1 c (pairs [p])) (h63 : n + 1 ≤ 1048576) (hb : bytes ≤ 1048576)
    (hs : a.eval s = v) (hx : a.eval x = .slice (some ad) 1 c)
    (h : ∀ v' w', w'.ownsRow mid 41 2 v' (n + 1) (pairs (ys ++ [p])) → (∀ k, v'.ownBlock = some k → k < bx ∨ top ≤ k) → Hold mid bx top w w' → K (a.put dst v') w') :
    if Region.wanted ⟨dst, .call { callee := .builtin .append, args := #[s, x], argTypes := #[t, t] }, type, pos, after, none⟩ (yielded ops a.tmps) = true then Oper.wp P ⟨dst, .call { callee := .builtin .append, args := #[s, x], argTypes := #[t, t] }, type, pos, after, none⟩ a w K Q else E := by
  have hw : Region.wanted ⟨dst, .call { callee := .builtin .append, args := #[s, x], argTypes := #[t, t] }, type, pos, after, none⟩ (yielded ops a.tmps) = true := by simp [Region.wanted]
  rw [if_pos hw]
  obtain ⟨v', w', hr, h2, h3, h4⟩ := run_append_loose (P := P) w t type i z bytes ht hi hz hsize hby hzs0 mid bx top v n ys hF hmid htop ad c p hsrc h63 hb
  unfold Oper.wp execOp
  simp only [resolve, invoke, builtin, Sem.run_bind, Sem.run_pure, Result.andThen_ok, List.map_toArray, List.map_cons, List.map_nil, hs, hx, hr]
  exact h v' w' h2 h3 h4

theorem puts_snoc (vs : List Int) : ∀ (a k : Nat), k < vs.length → puts a (vs.take (k + 1)) = puts a (vs.take k) ++ [(((a : Int) + (k : Int)), vs.getD k 0)] := by
  induction vs with
  | nil => intro a k h; exact absurd h (by simp)
  | cons v vs ih =>
    intro a k h
    cases k with
    | zero => simp [puts]
    | succ k =>
      have := ih (a + 1) k (by simpa using h)
      simp only [List.take_succ_cons, puts, List.cons_append]
      rw [this]
      simp
      omega

end Go.Proofs.Ytkpbmffklcgecaa
