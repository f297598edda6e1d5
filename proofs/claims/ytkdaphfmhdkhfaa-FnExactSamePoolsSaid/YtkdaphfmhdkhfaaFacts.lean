/- Small facts: what a disk without a fault has; a row of one pair. -/
import Derived.Test.YtkdaphfmhdkhfaaSpec1
import Derived.Test.YtkdaphfmhdkhfaaPutS
namespace Go.Proofs.Ytkdaphfmhdkhfaa
open Go.RowKit

theorem fault_all {xs : List Int} {ys : List (Int × Int)} (h : faultOf xs ys = 0) : xs.all wordB = true ∧ ys.all (fun p => placeB p.1 && wordB p.2) = true := by
  obtain ⟨h1, h2, _⟩ := fault_zero h
  rw [faultOf, if_neg (by omega), if_neg (by omega)] at h
  by_cases e : (xs.all wordB && ys.all (fun p => placeB p.1 && wordB p.2)) = true
  · rw [Bool.and_eq_true] at e; exact e
  · rw [if_neg e] at h; exact absurd h (by decide)
theorem fault_of {xs : List Int} {ys : List (Int × Int)} (h1 : xs.length = 64) (h2 : ys.length ≤ 200) (h3 : xs.all wordB = true) (h4 : ys.all (fun p => placeB p.1 && wordB p.2) = true) : faultOf xs ys = 0 := by
  rw [faultOf, if_neg (by omega), if_neg (by omega), h3, h4]; rfl
theorem row_two (W : World) (t : TypeId) (x y : Int) : RowAt (W.alloc (.cells #[.int .i64 x, .int .i64 y] t)) true W.heap.size (W.heap.size + 1) 2 (some ⟨W.heap.size, 0, none⟩) 1 1 [.int .i64 x, .int .i64 y] :=
  RowAt.of_front (rest := #[]) (t := t) (by simpa using heap_alloc_new W _) rfl (Nat.le_refl _)
theorem DiskAt.widen {w : World} {lo hi lo' hi' : Nat} {a0 : Option Addr} {n0 c0 : Nat} {a1 : Option Addr} {n1 c1 : Nat} {xs : List Int} {ys : List (Int × Int)} (h : DiskAt w lo hi a0 n0 c0 a1 n1 c1 xs ys) (h1 : lo' ≤ lo) (h2 : hi ≤ hi') : DiskAt w lo' hi' a0 n0 c0 a1 n1 c1 xs ys := by
  obtain ⟨mid, m1, m2, r0, r1⟩ := h.parts
  exact ⟨mid, by omega, by omega, r0.widen h1 (Nat.le_refl _), r1.widen (Nat.le_refl _) h2⟩

/-- 'append(s, src...)' onto a row of the call's own, as one step of a region that draws its order. -/
theorem step_append_own {P : Program} {ops : Array Oper} {dst : Option Tmp} {type : TypeId} {pos : String} {after : Array Edge} {a : Act} {w : World} {K : Act → World → Prop} {Q : Exit → Act → World → Prop} {E : Prop} {s x : Operand} (t e : TypeId) (i : TypeInfo) (z : Value) (size bytes : Nat) (ht : P.underlying t = some (.slice e)) (hi : P.info? e = some i) (hz : i.zero = some z) (hsize : i.size = size) (hby : i.bytes = bytes) (hzs0 : z.cells.size = i.size) (hsz : 0 < size)
    (base : Nat) (v : Value) (n : Nat) (cs : List Value) (hown : w.ownsRow base e size v n cs) (hlo : base ≤ w.heap.size)
    {o : Bool} {l u : Nat} (ad : Addr) (m c : Nat) (news : List Value) (hsrc : RowAt w o l u size (some ad) m c news) (hm : m ≠ 0) (h1 : ∀ x ∈ news, x.oneCell' = true) (h63 : n + m ≤ 1048576) (hb : bytes ≤ 1048576)
    (hs : a.eval s = v) (hx : a.eval x = .slice (some ad) m c)
    (h : ∀ v' w', w'.ownsRow base e size v' (n + m) (cs ++ news) → w.grownBy w' v.ownBlock → K (a.put dst v') w') :
    if Region.wanted ⟨dst, .call { callee := .builtin .append, args := #[s, x], argTypes := #[t, t] }, type, pos, after, none⟩ (yielded ops a.tmps) = true then Oper.wp P ⟨dst, .call { callee := .builtin .append, args := #[s, x], argTypes := #[t, t] }, type, pos, after, none⟩ a w K Q else E := by
  have hw : Region.wanted ⟨dst, .call { callee := .builtin .append, args := #[s, x], argTypes := #[t, t] }, type, pos, after, none⟩ (yielded ops a.tmps) = true := by simp [Region.wanted]
  rw [if_pos hw]
  have hmb : (n + m) * bytes ≤ 140737488355328 := Nat.le_trans (Nat.mul_le_mul h63 hb) (by decide)
  obtain ⟨v', w', hr, h2, h3, _⟩ := run_append_own (P := P) w base t type e i z size bytes ht hi hz hsize hby (by rw [hzs0, hsize]) hsz v n cs hown ad m c news hsrc.len (fun j u hj => by
    have hj' := (List.getElem?_eq_some_iff.1 hj).1
    obtain ⟨b, off, e', _, _, _, hc, _⟩ := hsrc.cells hm
    cases e'
    rw [show (⟨b, off, none⟩ : Addr).add j = ⟨b, off + j, none⟩ by simp [Addr.add], hc j (by have := hsrc.len; omega)]
    simp [List.getD, hj]) h1 (by unfold maxLen; omega) hmb hlo
  unfold Oper.wp execOp
  simp only [resolve, invoke, builtin, Sem.run_bind, Sem.run_pure, Result.andThen_ok, List.map_toArray, List.map_cons, List.map_nil, hs, hx, hr]
  exact h v' w' h2 h3

theorem own_block {w : World} {base : Nat} {e : TypeId} {size : Nat} {v : Value} {n : Nat} {cs : List Value} (h : w.ownsRow base e size v n cs) (hn : n ≠ 0) : ∃ g cap, v = .slice (some ⟨g, 0, none⟩) n cap ∧ base ≤ g ∧ g < w.heap.size ∧ RowAt w true g (g + 1) size (some ⟨g, 0, none⟩) n cap cs := by
  rcases h.2 with ⟨rfl, e0⟩ | ⟨g, cap, cur, rfl, hg, hh, hc, r⟩
  · exact absurd e0 hn
  · exact ⟨g, cap, rfl, hg, (h.lt g rfl).2, (RowAt.of_owns h hc).pin⟩
theorem wrapI_same (n : Int) (h : -9223372036854775808 ≤ n ∧ n ≤ 9223372036854775807) : IntKind.i64.wrap n = n := by rw [IntKind.wrap_i64]; omega
theorem RowAt.news {w : World} {o : Bool} {l u size : Nat} {ad : Addr} {m c : Nat} {news : List Value} (h : RowAt w o l u size (some ad) m c news) (hm : m ≠ 0) : ∀ j x, news[j]? = some x → w.cell? (ad.add j) = some x := by
  intro j x hj
  have hj' := (List.getElem?_eq_some_iff.1 hj).1
  obtain ⟨b, off, e', _, _, _, hc, _⟩ := h.cells hm
  cases e'
  rw [show (⟨b, off, none⟩ : Addr).add j = ⟨b, off + j, none⟩ by simp [Addr.add], hc j (by have := h.len; omega)]
  simp [List.getD, hj]
theorem ints_cell (xs : List Int) : ∀ x ∈ ints xs, x.oneCell' = true := by
  intro x hx
  simp only [ints, List.mem_map] at hx
  obtain ⟨p, _, rfl⟩ := hx
  rfl

theorem made_pairs (n : Nat) : (madeCells (Value.agg #[.int .i64 0, .int .i64 0]).cells (n * 2)).toList = pairs (List.replicate n (0, 0)) := by
  apply List.ext_getElem?
  intro j
  by_cases hj : j < n * 2
  · have e1 := pairs_length (List.replicate n ((0 : Int), (0 : Int)))
    rw [List.length_replicate] at e1
    rcases (show j % 2 = 0 ∨ j % 2 = 1 by omega) with e | e
    · have := pairs_getD0 (List.replicate n (0, 0)) (j / 2) (by simp; omega)
      rw [show j / 2 * 2 = j by omega] at this
      simp [List.getD, show j < (pairs (List.replicate n ((0 : Int), (0 : Int)))).length by omega, show j / 2 < n by omega] at this
      simp [madeCells, hj, e, Value.cells, this, show j < (pairs (List.replicate n ((0 : Int), (0 : Int)))).length by omega]
    · have := pairs_getD1 (List.replicate n (0, 0)) (j / 2) (by simp; omega)
      rw [show j / 2 * 2 + 1 = j by omega] at this
      simp [List.getD, show j < (pairs (List.replicate n ((0 : Int), (0 : Int)))).length by omega, show j / 2 < n by omega] at this
      simp [madeCells, hj, e, Value.cells, this, show j < (pairs (List.replicate n ((0 : Int), (0 : Int)))).length by omega]
  · rw [List.getElem?_eq_none (by simp [madeCells]; omega), List.getElem?_eq_none (by rw [pairs_length]; simp; omega)]

theorem row_lit (W : World) (cs : List Value) (t : TypeId) (n size : Nat) (h : cs.length = n * size) : RowAt (W.alloc (.cells cs.toArray t)) true W.heap.size (W.heap.size + 1) size (some ⟨W.heap.size, 0, none⟩) n n cs :=
  RowAt.of_front (rest := #[]) (by simpa using heap_alloc_new W (.cells cs.toArray t)) h (Nat.le_refl _)

end Go.Proofs.Ytkdaphfmhdkhfaa
