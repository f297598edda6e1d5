/- Draws: a disk. -/
import Derived.Test.YtkpbmffklcgecaaDrawB
import Derived.Test.YtkpbmffklcgecaaFacts
import Derived.Test.YtkpbmffklcgecaaNewS
import Derived.Deep.RegionLaw
namespace Go.Proofs.Ytkpbmffklcgecaa
open Go.RowKit

/-- How things stand while a disk is drawn: the answer's box is empty, the disk's box bx has the words (in block gw) and the cache (a row of the call's own behind bx), the source has been drawn from p times. -/
structure DD (w : World) (g gw bx : Nat) (ac : Option Addr) (nc cc : Nat) (W : World) (p : Nat) (xs : List Int) (v : Value) (n : Nat) (ys : List (Int × Int)) : Prop where
  res : W.heap[w.heap.size]? = some (.cells #[.slice none 0 0, .slice none 0 0] 27 (0, 0))
  box : W.heap[bx]? = some (.cells #[.slice (some ⟨gw, 0, none⟩) 64 64, v] 27 (0, 0))
  words : W.ownsRow gw 2 1 (.slice (some ⟨gw, 0, none⟩) 64 64) 64 (ints xs)
  cache : W.ownsRow (bx + 1) 41 2 v n (pairs ys)
  src : SrcAt W g p ac nc cc
  kept : Kept g (g + 1) w W
  hg : g < w.heap.size
  hw : w.heap.size < gw
  hx : gw < bx

section
variable {w : World} {g gw bx : Nat} {ac : Option Addr} {nc cc : Nat} {W : World} {p : Nat} {xs : List Int} {v : Value} {n : Nat} {ys : List (Int × Int)}

theorem DD.blt (h : DD w g gw bx ac nc cc W p xs v n ys) : bx < W.heap.size := (Array.getElem?_eq_some_iff.1 h.box).1
theorem DD.move (h : DD w g gw bx ac nc cc W p xs v n ys) {W' : World} {p' : Nat} (hk : Kept g (g + 1) W W') (hs : SrcAt W' g p' ac nc cc) : DD w g gw bx ac nc cc W' p' xs v n ys := by
  have h1 := h.hg
  have h2 := h.hw
  have h3 := h.hx
  have h4 := h.blt
  refine ⟨?_, ?_, owns_kept h.words hk ?_, owns_kept h.cache hk ?_, hs, h.kept.trans hk, h1, h2, h3⟩
  · rw [hk.block _ (by omega) (by omega)]; exact h.res
  · rw [hk.block _ (by omega) (by omega)]; exact h.box
  · intro k hk; simp [Value.ownBlock] at hk; omega
  · intro k hk; have := (h.cache.lt k hk).1; omega
theorem DD.below (h : DD w g gw bx ac nc cc W p xs v n ys) {W' : World} (hb : Below W.heap.size W W') : DD w g gw bx ac nc cc W' p xs v n ys := h.move (Kept.of_below hb) (h.src.below hb)
theorem DD.drew (h : DD w g gw bx ac nc cc W p xs v n ys) : DD w g gw bx ac nc cc W.drew p xs v n ys := h.below (Below.refl _ _).drew
theorem DD.alloc (h : DD w g gw bx ac nc cc W p xs v n ys) (o : Obj) : DD w g gw bx ac nc cc (W.alloc o) p xs v n ys := h.below ((Below.refl _ _).alloc (Nat.le_refl _) o)
theorem DD.c0 (h : DD w g gw bx ac nc cc W p xs v n ys) : W.cell? ⟨bx, 0, none⟩ = some (.slice (some ⟨gw, 0, none⟩) 64 64) := by rw [cell_of_row W _ 0 _ _ _ h.box]; rfl
theorem DD.c1 (h : DD w g gw bx ac nc cc W p xs v n ys) : W.cell? ⟨bx, 1, none⟩ = some v := by rw [cell_of_row W _ 1 _ _ _ h.box]; rfl
theorem DD.f0 (h : DD w g gw bx ac nc cc W p xs v n ys) (j : Nat) : W.frozen? ⟨bx, j, none⟩ = false := frozen_of_row W _ j _ _ h.box
theorem DD.r0 (h : DD w g gw bx ac nc cc W p xs v n ys) : W.cell? ⟨w.heap.size, 0, none⟩ = some (.slice none 0 0) := by rw [cell_of_row W _ 0 _ _ _ h.res]; rfl
theorem DD.r1 (h : DD w g gw bx ac nc cc W p xs v n ys) : W.cell? ⟨w.heap.size, 1, none⟩ = some (.slice none 0 0) := by rw [cell_of_row W _ 1 _ _ _ h.res]; rfl
theorem DD.rf (h : DD w g gw bx ac nc cc W p xs v n ys) (j : Nat) : W.frozen? ⟨w.heap.size, j, none⟩ = false := frozen_of_row W _ j _ _ h.res
theorem DD.len (h : DD w g gw bx ac nc cc W p xs v n ys) : xs.length = 64 := by have := h.words.1; rw [ints_length] at this; omega
theorem DD.lenY (h : DD w g gw bx ac nc cc W p xs v n ys) : ys.length = n := by have := h.cache.1; rw [pairs_length] at this; omega
theorem DD.own (h : DD w g gw bx ac nc cc W p xs v n ys) : ∀ k, v.ownBlock = some k → bx + 1 ≤ k := fun k hk => (h.cache.lt k hk).1
theorem DD.wcell (h : DD w g gw bx ac nc cc W p xs v n ys) {m : Nat} (hm : m < 64) : W.cell? ⟨gw, m, none⟩ = some (.int .i64 (xs.getD m 0)) := by
  rw [h.words.cellAt m (by omega)]
  have := h.len
  simp [ints, List.getD, show m < xs.length by omega]
theorem DD.wfroz (h : DD w g gw bx ac nc cc W p xs v n ys) (m : Nat) : W.frozen? ⟨gw, m, none⟩ = false := h.words.frozenAt m
theorem DD.word (h : DD w g gw bx ac nc cc W p xs v n ys) (m : Nat) (x : Int) : DD w g gw bx ac nc cc (W.setCell ⟨gw, m, none⟩ (.int .i64 x)) p (xs.set m x) v n ys := by
  have h1 := h.hg
  have h2 := h.hw
  have h3 := h.hx
  have h4 := h.blt
  have hk : Kept gw (gw + 1) W (W.setCell ⟨gw, m, none⟩ (.int .i64 x)) := Kept.setCell (p := ⟨gw, m, none⟩) (Kept.refl _ _ _) (Nat.le_refl _) (Nat.lt_succ_self _) _
  have hk' : Kept g (g + 1) w (W.setCell ⟨gw, m, none⟩ (.int .i64 x)) := ⟨h.kept.os, h.kept.tape, h.kept.output, Nat.le_trans h.kept.size hk.size, fun k hk1 hk2 => by
    rw [hk.block k (Nat.lt_of_lt_of_le hk1 h.kept.size) (by omega)]; exact h.kept.block k hk1 hk2⟩
  refine ⟨?_, ?_, ?_, owns_kept h.cache hk ?_, h.src.kept hk (by omega), hk', h1, h2, h3⟩
  · rw [hk.block _ (by omega) (by omega)]; exact h.res
  · rw [hk.block _ (by omega) (by omega)]; exact h.box
  · have := (h.words.stored m (.int .i64 x)).1
    rw [ints, List.map_set]; exact this
  · intro k hk; have := (h.cache.lt k hk).1; omega
end

theorem two_one (x y : Int) : ∀ u ∈ [Value.int .i64 x, Value.int .i64 y], u.oneCell' = true := by intro u hu; simp at hu; rcases hu with rfl | rfl <;> rfl

theorem DD.put {w : World} {g gw bx : Nat} {ac : Option Addr} {nc cc : Nat} {W : World} {p : Nat} {xs : List Int} {v : Value} {n : Nat} {ys : List (Int × Int)} (h : DD w g gw bx ac nc cc W p xs v n ys) {W' : World} {v' : Value} {n' : Nat} {ys' : List (Int × Int)} (hown : W'.ownsRow (bx + 1) 41 2 v' n' (pairs ys')) {r : Option Nat} (hgrow : W.grownBy W' r) (hv : ∀ k, r = some k → bx + 1 ≤ k) : DD w g gw bx ac nc cc (W'.setCell ⟨bx, 1, none⟩ v') p xs v' n' ys' := by
  have h1 := h.hg
  have h2 := h.hw
  have h3 := h.hx
  have h4 := h.blt
  have old : ∀ k, k ≤ bx → W'.heap[k]? = W.heap[k]? := fun k hk => hgrow.block k (by omega) (fun e => by have := hv k e.symm; omega)
  have G1 := heap_setCell_same W' bx 1 _ _ v' (by rw [old bx (Nat.le_refl _)]; exact h.box)
  have hk : Kept bx (bx + 1) W' (W'.setCell ⟨bx, 1, none⟩ v') := Kept.setCell (p := ⟨bx, 1, none⟩) (Kept.refl _ _ _) (Nat.le_refl _) (Nat.lt_succ_self _) _
  have lt : ∀ k, k < W.heap.size → k < W'.heap.size := fun k hk => Nat.lt_of_lt_of_le hk hgrow.size
  have oldS : ∀ k, k < bx → (W'.setCell ⟨bx, 1, none⟩ v').heap[k]? = W.heap[k]? := fun k hk1 => by
    rw [hk.block k (lt k (by omega)) (Or.inl hk1), old k (by omega)]
  refine ⟨by rw [oldS _ (by omega)]; exact h.res, by simpa using G1, ⟨h.words.1, ?_⟩, owns_kept hown hk ?_, ?_, ⟨?_, ?_, ?_, ?_, ?_⟩, h1, h2, h3⟩
  · rcases h.words.2 with ⟨e, _⟩ | ⟨k, cap, cur, e, a, b, r⟩
    · cases e
    · refine Or.inr ⟨k, cap, cur, e, a, ?_, r⟩
      simp at e
      rw [oldS k (by omega)]; exact b
  · intro k hk; have := (hown.lt k hk).1; omega
  · unfold SrcAt; rw [oldS g (by omega)]; exact h.src
  · exact hk.os.trans (hgrow.os.trans h.kept.os)
  · exact hk.tape.trans (hgrow.tape.trans h.kept.tape)
  · exact hk.output.trans (hgrow.output.trans h.kept.output)
  · exact Nat.le_trans h.kept.size (Nat.le_trans hgrow.size hk.size)
  · intro k hk1 hk2
    rw [oldS k (by omega)]; exact h.kept.block k hk1 hk2

theorem DD.grown {w : World} {g gw bx : Nat} {ac : Option Addr} {nc cc : Nat} {W : World} {p : Nat} {xs : List Int} {v : Value} {n : Nat} {ys : List (Int × Int)} (h : DD w g gw bx ac nc cc W p xs v n ys) {W' : World} {r : Option Nat} (hgrow : W.grownBy W' r) (hv : ∀ k, r = some k → bx + 1 ≤ k) : W'.cell? ⟨bx, 1, none⟩ = some v ∧ W'.frozen? ⟨bx, 1, none⟩ = false := by
  have hb : W'.heap[bx]? = _ := (hgrow.block bx h.blt (fun e => by have := hv bx e.symm; omega)).trans h.box
  exact ⟨by rw [cell_of_row W' _ 1 _ _ _ hb]; rfl, frozen_of_row W' _ 1 _ _ hb⟩

/-- .. and at its end. -/
structure DF (w : World) (g bx : Nat) (ac : Option Addr) (nc cc : Nat) (W : World) (q : Nat) (a0 : Option Addr) (n0 c0 : Nat) (a1 : Option Addr) (n1 c1 : Nat) (xs : List Int) (ys : List (Int × Int)) : Prop where
  res : W.heap[w.heap.size]? = some (.cells #[.slice none 0 0, .slice none 0 0] 27 (0, 0))
  d0 : W.cell? ⟨bx, 0, none⟩ = some (.slice a0 n0 c0)
  d1 : W.cell? ⟨bx, 1, none⟩ = some (.slice a1 n1 c1)
  row0 : RowAt W true (w.heap.size + 1) bx 1 a0 n0 c0 (ints xs)
  row1 : RowAt W true (bx + 1) W.heap.size 2 a1 n1 c1 (pairs ys)
  src : SrcAt W g q ac nc cc
  kept : Kept g (g + 1) w W
  hg : g < w.heap.size
  hx : w.heap.size < bx
  hl : bx < W.heap.size

theorem DD.fin {w : World} {g gw bx : Nat} {ac : Option Addr} {nc cc : Nat} {W : World} {p : Nat} {xs : List Int} {a1 : Option Addr} {n c1 : Nat} {ys : List (Int × Int)} (h : DD w g gw bx ac nc cc W p xs (.slice a1 n c1) n ys) : DF w g bx ac nc cc W p (some ⟨gw, 0, none⟩) 64 64 a1 n c1 xs ys := by
  have h2 := h.hw
  have h3 := h.hx
  refine ⟨h.res, h.c0, h.c1, ((RowAt.of_owns h.words (Nat.le_refl _)).pin).widen (by omega) (by omega), ?_, h.src, h.kept, h.hg, by omega, h.blt⟩
  obtain ⟨ao, cap, e, R⟩ := RowAt.of_owned h.cache
  obtain ⟨rfl, -, rfl⟩ := Value.slice.inj e
  exact R
theorem DF.done {w : World} {g bx : Nat} {ac : Option Addr} {nc cc : Nat} {W : World} {q : Nat} {a0 : Option Addr} {n0 c0 : Nat} {a1 : Option Addr} {n1 c1 : Nat} {xs : List Int} {ys : List (Int × Int)} (h : DF w g bx ac nc cc W q a0 n0 c0 a1 n1 c1 xs ys) (u0 u1 : Value) {W' : World} (hW : W' = (W.setCell ⟨w.heap.size, 0, none⟩ u0).setCell ⟨w.heap.size, 1, none⟩ u1) :
    DiskAt W' w.heap.size W'.heap.size a0 n0 c0 a1 n1 c1 xs ys ∧ SrcAt W' g q ac nc cc ∧ Kept g (g + 1) w W' := by
  have h1 := h.hg
  have h2 := h.hx
  have h3 := h.hl
  have K : Kept w.heap.size (w.heap.size + 1) W W' := by rw [hW]; refine Kept.setCell (Kept.setCell (Kept.refl _ _ _) ?_ ?_ _) ?_ ?_ _ <;> simp
  have e : W'.heap.size = W.heap.size := by rw [hW]; simp
  refine ⟨⟨bx, by omega, by omega, (h.row0.kept K (by omega)).widen (by omega) (Nat.le_refl _), (h.row1.kept K (by omega)).widen (by omega) (by omega)⟩, h.src.kept K (by omega), ⟨K.os.trans h.kept.os, K.tape.trans h.kept.tape, K.output.trans h.kept.output, Nat.le_trans h.kept.size K.size, fun k hk hd => ?_⟩⟩
  rw [K.block k (Nat.lt_of_lt_of_le hk h.kept.size) (by omega)]; exact h.kept.block k hk hd
theorem RowAt.tail1 {w : World} {o : Bool} {lo hi b off n c : Nat} {xs : List Int} (h : RowAt w o lo hi 1 (some ⟨b, off, none⟩) (n + 1) (c + 1) (ints xs)) : RowAt w o lo hi 1 (some ⟨b, off + 1, none⟩) n c (ints xs.tail) := by
  have hl := h.nInts
  refine ⟨by rw [ints_length]; simp; omega, by have := h.le; omega, fun hn => ?_⟩
  obtain ⟨b', off', e, h1, h2, h3, h4, h5⟩ := h.cells (by omega)
  cases e
  refine ⟨_, _, rfl, h1, h2, h3, fun i hi => ?_, fun ho i hi => ?_⟩
  · rw [show off + 1 + i = off + (i + 1) by omega, h4 (i + 1) (by omega)]
    cases xs with
    | nil => simp at hl
    | cons x r => rfl
  · rw [show off + 1 + i = off + (i + 1) by omega]; exact h5 ho (i + 1) (by omega)

theorem DD.cut {w : World} {g gw bx : Nat} {ac : Option Addr} {nc cc : Nat} {W : World} {p : Nat} {xs : List Int} {a1 : Option Addr} {n c1 : Nat} {ys : List (Int × Int)} (h : DD w g gw bx ac nc cc W p xs (.slice a1 n c1) n ys) : DF w g bx ac nc cc (W.setCell ⟨bx, 0, none⟩ (.slice (some ⟨gw, 1, none⟩) 63 63)) p (some ⟨gw, 1, none⟩) 63 63 a1 n c1 xs.tail ys := by
  have h1 := h.hg
  have h2 := h.hw
  have h3 := h.hx
  have h4 := h.blt
  have F := h.fin
  have K : Kept bx (bx + 1) W (W.setCell ⟨bx, 0, none⟩ (.slice (some ⟨gw, 1, none⟩) 63 63)) := Kept.setCell (p := ⟨bx, 0, none⟩) (Kept.refl _ _ _) (Nat.le_refl _) (Nat.lt_succ_self _) _
  refine ⟨by rw [K.block _ (by omega) (by omega)]; exact h.res, by rw [World.cell?_setCell_same _ _ _ h.c0], by rw [World.cell?_setCell_other _ _ _ _ (by intro e; simp at e)]; exact h.c1, (F.row0.kept K (by omega)).tail1, (F.row1.kept K (by omega)).widen (Nat.le_refl _) (by simp), h.src.kept K (by omega), ⟨K.os.trans h.kept.os, K.tape.trans h.kept.tape, K.output.trans h.kept.output, Nat.le_trans h.kept.size K.size, fun k hk hd => ?_⟩, h1, by omega, by simpa using h4⟩
  rw [K.block k (Nat.lt_of_lt_of_le hk h.kept.size) (by omega)]; exact h.kept.block k hk hd
theorem row_ints (W : World) (zs : List Int) (n : Nat) (hn : zs.length = n) : RowAt (W.alloc (.cells (ints zs).toArray 2)) true W.heap.size (W.heap.size + 1) 1 (some ⟨W.heap.size, 0, none⟩) n n (ints zs) :=
  RowAt.of_block (heap_alloc_new W _) (by rw [ints_length, hn])

theorem l1Next_at {o : Bool} {lo hi : Nat} (ac : Option Addr) (nc cc : Nat) (bs : List Nat) (g p n : Nat) {N : Int} (w : World) (hs : SrcAt w g p ac nc cc) (hr : RowAt w o lo hi 1 ac nc cc (bys bs)) (hb : ∀ i, bs.getD i 0 < 256) (hd : hi ≤ g ∨ g < lo) (hp : p ≤ 100000) (hN : N = (n : Int)) (hn0 : 0 < n) (hn : n ≤ 200) (hc : nc ≤ 1048576) :
    Calls Try.prog 71 #[.pointer (some ⟨g, 0, none⟩), .int .i64 N] w fun e w' => ∃ v : Nat, v < n ∧ e = .returned (.int .i64 v) ∧ SrcAt w' g (p + 1) ac nc cc ∧ Kept g (g + 1) w w' ∧ w'.heap.size = w.heap.size := by
  subst hN; exact l1Next_any ac nc cc bs g p n w hs hr hb hd hp hn0 hn hc

set_option maxRecDepth 20000 in
set_option maxHeartbeats 2000000 in
theorem l1Disk_any {o : Bool} {lo hi : Nat} (ac : Option Addr) (nc cc : Nat) (bs : List Nat) (g p : Nat) (w : World) (hs : SrcAt w g p ac nc cc) (hr : RowAt w o lo hi 1 ac nc cc (bys bs)) (hb : ∀ i, bs.getD i 0 < 256) (hd : hi ≤ g ∨ g < lo) (hp : p ≤ 1000) (hc : nc ≤ 1048576) :
    Calls Try.prog 70 #[.pointer (some ⟨g, 0, none⟩)] w fun e w' => ∃ a0 n0 c0 a1 n1 c1 xs ys p', e = .returned (.agg #[.slice a0 n0 c0, .slice a1 n1 c1]) ∧ n0 ≤ 64 ∧ n1 ≤ 300 ∧ p' ≤ p + 100 ∧ DiskAt w' w.heap.size w'.heap.size a0 n0 c0 a1 n1 c1 xs ys ∧ SrcAt w' g p' ac nc cc ∧ Kept g (g + 1) w w' := by
  have hg := hs.lt
  obtain ⟨j0, hj0, hy0, hy1, hy2⟩ := info_parts Try.infoPut
  have hyj : (Value.agg #[.int .i64 0, .int .i64 0]).cells.size = j0.size := by rw [hy1]; rfl
  have hsz2 : 0 < 2 := by omega
  have h10 : 1 ≠ 0 := by omega
  have hb16 : 16 ≤ 1048576 := by omega
  have A0 : Below w.heap.size w (w.alloc (.cells #[.slice none 0 0, .slice none 0 0] 27)) := (Below.refl _ _).alloc (Nat.le_refl _) _
  go_enter Try.func70, Try.ntmps70
  go_wp2_with fail
  refine (l1New_any _).mono ?_
  rintro e w1 ⟨rfl, O1, B1⟩
  have B2 := below_next A0 B1
  have S1 : w.heap.size + 2 < w1.heap.size := by have := (O1.lt _ rfl).2; simpa using this
  have D0 : DD w g (w.heap.size + 2) w1.heap.size ac nc cc (w1.alloc (.cells #[.slice (some ⟨w.heap.size + 2, 0, none⟩) 64 64, .slice none 0 0] 27)) p zeros64 (.slice none 0 0) 0 [] := by
    refine ⟨?_, heap_alloc_new _ _, World.ownsRow.alloc (by simpa using O1) _, ⟨rfl, Or.inl ⟨rfl, rfl⟩⟩, (hs.below B2).below ((Below.refl _ _).alloc (Nat.le_refl _) _), Kept.of_below (B2.alloc (by omega) _), hg, by omega, by omega⟩
    rw [heap_alloc_old _ _ (by omega), B1.block _ (by simp)]; exact heap_alloc_new _ _
  clear O1 A0 B1 B2
  go_wp2_with fail
  refine (l1Next_any ac nc cc bs g _ 9 _ D0.src (hr.kept D0.kept (by omega)) hb hd (by omega) (by omega) (by omega) hc).mono ?_
  rintro e w2 ⟨k0, hk0, rfl, s1, K1, z1⟩
  have D1 := D0.move K1 s1
  clear s1 K1 D0 z1 hs
  go_wp2
  go_loopw [4] (fun k wr => ∃ (kk q : Nat) (xs : List Int), kk ≤ 9 ∧ q + 2 * kk ≤ p + 20 ∧ k = .int .i64 kk ∧ DD w g (w.heap.size + 2) w1.heap.size ac nc cc wr q xs (.slice none 0 0) 0 []) (fun k _ => (intOf k).toNat)
  case atStart => exact ⟨k0, _, _, by omega, by omega, rfl, D1⟩
  case round =>
    obtain ⟨kk, q, xs, h9, hq, rfl, D⟩ := hrel
    clear D1
    by_cases hk : kk = 0
    · subst hk
      go_wp2_with fail
      refine (l1Next_at ac nc cc bs g q 9 _ D.src (hr.kept D.kept (by omega)) hb hd (by omega) rfl (by omega) (by omega) hc).mono ?_
      rintro e w3 ⟨k1, hk1, rfl, s1, K1, z1⟩
      have D1 := D.move K1 s1
      clear s1 K1 z1 D h9
      go_wp2
      go_loopw [5] (fun k wr => ∃ (kk q : Nat) (v : Value) (n : Nat) (ys : List (Int × Int)), kk ≤ 9 ∧ n + kk ≤ 9 ∧ q + 2 * kk ≤ p + 40 ∧ k = .int .i64 kk ∧ DD w g (w.heap.size + 2) w1.heap.size ac nc cc wr q xs v n ys) (fun k _ => (intOf k).toNat)
      case atStart => exact ⟨k1, _, _, _, _, by omega, by omega, by omega, rfl, D1⟩
      case round =>
        obtain ⟨kk, q, v, n, ys, h9, hn9, hq, rfl, D⟩ := hrel
        clear D1
        by_cases hk : kk = 0
        · subst hk
          go_wp2_with fail
          refine (l1Next_at ac nc cc bs g q 18 _ D.src (hr.kept D.kept (by omega)) hb hd (by omega) rfl (by omega) (by omega) hc).mono ?_
          rintro e w4 ⟨sw, hsw, rfl, s1, K1, -⟩
          have D1 := D.move K1 s1
          clear s1 K1 D h9
          have c0 := D1.c0
          have c1 := D1.c1
          have f0 := D1.f0 0
          have f1 := D1.f0 1
          have r0 := D1.r0
          have r1 := D1.r1
          have y0 := D1.rf 0
          have y1 := D1.rf 1
          obtain ⟨ao, cap, rfl, R1⟩ := RowAt.of_owned D1.cache
          by_cases q0 : sw = 0
          · subst q0
            go_wp2
            refine bodyPost_ret (v := .agg #[.slice (some ⟨w.heap.size + 2, 1, none⟩) 63 63, .slice ao n cap]) (by simp [results, Try.results70, go_sem, r0, r1]) rfl ?_
            obtain ⟨A1, A2, A3⟩ := DF.done D1.cut (.slice (some ⟨w.heap.size + 2, 1, none⟩) 63 63) (.slice ao n cap) rfl
            exact ⟨_, _, _, _, _, _, _, _, _, rfl, by omega, by omega, by omega, A1, A2, A3⟩
          by_cases q1 : sw = 1
          · subst q1
            go_wp2_with fail
            have D' := D1.drew
            have D2 := D'.alloc (.cells #[.int .i64 (-1), .int .i64 65536, .int .i64 65535] 2)
            have hr2 := hr.kept D2.kept (by omega)
            have rl : RowAt (w4.drew.alloc (.cells #[.int .i64 (-1), .int .i64 65536, .int .i64 65535] 2)) true w4.heap.size (w4.heap.size + 1) 1 (some ⟨w4.heap.size, 0, none⟩) 3 3 (ints [-1, 65536, 65535]) := row_ints w4.drew [-1, 65536, 65535] 3 rfl
            have hq1 : q + 1 ≤ 100000 := by omega
            have hd2 : w4.heap.size + 1 ≤ g ∨ g < w4.heap.size := Or.inr D1.src.lt
            clear c0 c1 f0 f1 r0 r1 y0 y1
            go_region_held3 (fun w' => w'.cell? ⟨w1.heap.size, 0, none⟩ = some (.slice (some ⟨w.heap.size + 2, 0, none⟩) 64 64)) (first | exact D4.c0 | exact D3.c0 | exact D2.c0 | exact D'.c0) (first | (go_at_call 109; refine (l1Pick_any ac nc cc bs g (q + 1) 3 _ D2.src hr2 hb hd hq1 (by omega) (by omega) hc _ _ _ rl hd2).mono ?_; rintro e w5 ⟨v1, rfl, s2, K2, -⟩; have D3 := D2.move K2 s2; have e1 := D3.wcell (m := 3) (by omega); have e2 := D3.wfroz 3; have D4 := D3.word 3 v1))
            all_goals
              have c0 := D4.c0
              have c1 := D4.c1
              have r0 := D4.r0
              have r1 := D4.r1
              have y0 := D4.rf 0
              have y1 := D4.rf 1
              clear D1 D' D2 D3 e1 e2 s2 K2 hr2 rl
              go_wp2
              refine bodyPost_ret (v := .agg #[.slice (some ⟨w.heap.size + 2, 0, none⟩) 64 64, .slice ao n cap]) (by simp [results, Try.results70, go_sem, r0, r1]) rfl ?_
              obtain ⟨A1, A2, A3⟩ := DF.done D4.fin (.slice (some ⟨w.heap.size + 2, 0, none⟩) 64 64) (.slice ao n cap) rfl
              exact ⟨_, _, _, _, _, _, _, _, _, rfl, by omega, by omega, by omega, A1, A2, A3⟩
          by_cases q2 : sw = 2
          · subst q2
            go_wp2_with fail
            have D' := D1.drew
            have Da := (D1.alloc (.cells #[.int .i64 (-1), .int .i64 64, .int .i64 63] 2)).drew
            have Db := ((D1.alloc (.cells #[.int .i64 (-1), .int .i64 64, .int .i64 63] 2)).alloc (.cells #[.int .i64 0, .int .i64 65536] 2)).drew
            have De := (D1.alloc (.cells #[.int .i64 0, .int .i64 65536] 2)).drew
            have Dc := ((D1.alloc (.cells #[.int .i64 0, .int .i64 65536] 2)).alloc (.cells #[.int .i64 (-1), .int .i64 64, .int .i64 63] 2)).drew
            have hra := hr.kept Da.kept (by omega)
            have hrb := hr.kept Db.kept (by omega)
            have hrc := hr.kept Dc.kept (by omega)
            have e1 : (w4.alloc (.cells #[.int .i64 (-1), .int .i64 64, .int .i64 63] 2)).heap.size = w4.heap.size + 1 := by simp
            have e2 : (w4.alloc (.cells #[.int .i64 0, .int .i64 65536] 2)).heap.size = w4.heap.size + 1 := by simp
            have ra1 : RowAt (w4.alloc (.cells #[.int .i64 (-1), .int .i64 64, .int .i64 63] 2)).drew true w4.heap.size (w4.heap.size + 1) 1 (some ⟨w4.heap.size, 0, none⟩) 3 3 (ints [-1, 64, 63]) := (row_ints w4 [-1, 64, 63] 3 rfl).below (Below.refl _ _).drew
            have rb1 : RowAt ((w4.alloc (.cells #[.int .i64 (-1), .int .i64 64, .int .i64 63] 2)).alloc (.cells #[.int .i64 0, .int .i64 65536] 2)).drew true w4.heap.size (w4.heap.size + 1) 1 (some ⟨w4.heap.size, 0, none⟩) 3 3 (ints [-1, 64, 63]) := ((row_ints w4 [-1, 64, 63] 3 rfl).below ((Below.refl _ _).alloc (Nat.le_refl _) _)).below (Below.refl _ _).drew
            have rb2 : RowAt ((w4.alloc (.cells #[.int .i64 (-1), .int .i64 64, .int .i64 63] 2)).alloc (.cells #[.int .i64 0, .int .i64 65536] 2)).drew true (w4.heap.size + 1) (w4.heap.size + 1 + 1) 1 (some ⟨w4.heap.size + 1, 0, none⟩) 2 2 (ints [0, 65536]) := by
              rw [← e1]; exact (row_ints (w4.alloc (.cells #[.int .i64 (-1), .int .i64 64, .int .i64 63] 2)) [0, 65536] 2 rfl).below (Below.refl _ _).drew
            have rc2 : RowAt ((w4.alloc (.cells #[.int .i64 0, .int .i64 65536] 2)).alloc (.cells #[.int .i64 (-1), .int .i64 64, .int .i64 63] 2)).drew true w4.heap.size (w4.heap.size + 1) 1 (some ⟨w4.heap.size, 0, none⟩) 2 2 (ints [0, 65536]) := ((row_ints w4 [0, 65536] 2 rfl).below ((Below.refl _ _).alloc (Nat.le_refl _) _)).below (Below.refl _ _).drew
            have rc1 : RowAt ((w4.alloc (.cells #[.int .i64 0, .int .i64 65536] 2)).alloc (.cells #[.int .i64 (-1), .int .i64 64, .int .i64 63] 2)).drew true (w4.heap.size + 1) (w4.heap.size + 1 + 1) 1 (some ⟨w4.heap.size + 1, 0, none⟩) 3 3 (ints [-1, 64, 63]) := by
              rw [← e2]; exact (row_ints (w4.alloc (.cells #[.int .i64 0, .int .i64 65536] 2)) [-1, 64, 63] 3 rfl).below (Below.refl _ _).drew
            clear e1 e2
            have hq1 : q + 1 ≤ 100000 := by omega
            have hq2 : q + 1 + 1 ≤ 100000 := by omega
            have hgw := D1.src.lt
            have hd2 : w4.heap.size + 1 ≤ g ∨ g < w4.heap.size := Or.inr hgw
            have hd3 : w4.heap.size + 1 + 1 ≤ g ∨ g < w4.heap.size + 1 := Or.inr (by omega)
            have hk2 : w4.heap.size + 1 ≤ g ∨ g + 1 ≤ w4.heap.size := by omega
            have hk3 : w4.heap.size + 1 + 1 ≤ g ∨ g + 1 ≤ w4.heap.size + 1 := by omega
            have hd1 : hi ≤ g ∨ g + 1 ≤ lo := by omega
            have hn63 : n + 1 ≤ 1048576 := by omega
            have p3 : 0 < 3 := by omega
            have p2 : 0 < 2 := by omega
            have p23 : 3 ≤ 200 := by omega
            have p22 : 2 ≤ 200 := by omega
            have x1 := D'.c1
            have x2 := Da.c1
            have x3 := Db.c1
            have x4 := De.c1
            have x5 := Dc.c1
            clear c0 c1 f0 f1 r0 r1 y0 y1 D1
            go_region_law (first | ((with_reducible refine step_append_own 25 41 j0 (.agg #[.int .i64 0, .int .i64 0]) 2 16 Try.underlying25 hj0 hy0 hy1 hy2 hyj hsz2 (w1.heap.size + 1) _ n (pairs ys) D4.cache hlo4 _ 1 1 _ rw4 h10 (two_one v1 v2) hn63 hb16 ?_ ?_ ?_); rfl; rfl; intro v5 w7 O5 G5; obtain ⟨ao5, cap5, rfl, -⟩ := RowAt.of_owned O5; have D5 := DD.put (ys' := ys ++ [(v1, v2)]) D4 (by simpa [pairs] using O5) G5 D4.own; obtain ⟨c5, f5⟩ := DD.grown D4 G5 D4.own) | (go_simp; go_at_call 109; first | ((with_reducible refine (l1Pick_any ac nc cc bs g (q + 1 + 1) 2 _ D2a.src hr3a hb hd hq2 p2 p22 hc _ _ _ rl2a hd5).mono ?_); rintro e w6 ⟨v2, rfl, s2, K2, -⟩; have D3 := D2a.move K2 s2; have t3 := D3.c1; have D4 := D3.alloc (.cells #[.int .i64 v1, .int .i64 v2] 41); have t4 := D4.c1; have rw4 := row_two w6 41 v1 v2; have hlo4 := Nat.succ_le_of_lt D4.blt) | ((with_reducible refine (l1Pick_any ac nc cc bs g (q + 1 + 1) 2 _ D2.src hr3 hb hd hq2 p2 p22 hc _ _ _ rl2b hd3).mono ?_); rintro e w6 ⟨v2, rfl, s2, K2, -⟩; have D3 := D2.move K2 s2; have t3 := D3.c1; have D4 := D3.alloc (.cells #[.int .i64 v1, .int .i64 v2] 41); have t4 := D4.c1; have rw4 := row_two w6 41 v1 v2; have hlo4 := Nat.succ_le_of_lt D4.blt) | ((with_reducible refine (l1Pick_any ac nc cc bs g (q + 1 + 1) 2 _ D2.src hr3 hb hd hq2 p2 p22 hc _ _ _ rl2c hd2).mono ?_); rintro e w6 ⟨v2, rfl, s2, K2, -⟩; have D3 := D2.move K2 s2; have t3 := D3.c1; have D4 := D3.alloc (.cells #[.int .i64 v1, .int .i64 v2] 41); have t4 := D4.c1; have rw4 := row_two w6 41 v1 v2; have hlo4 := Nat.succ_le_of_lt D4.blt) | ((with_reducible refine (l1Pick_any ac nc cc bs g (q + 1) 3 _ Da.src hra hb hd hq1 p3 p23 hc _ _ _ ra1 hd2).mono ?_); rintro e w5 ⟨v1, rfl, s1, K1, -⟩; have D2 := Da.move K1 s1; have hr3 := hra.kept K1 hd1; have t1 := D2.c1; have D2a := D2.alloc (.cells #[.int .i64 0, .int .i64 65536] 2); have rl2a : RowAt (w5.alloc (.cells #[.int .i64 0, .int .i64 65536] 2)) true w5.heap.size (w5.heap.size + 1) 1 (some ⟨w5.heap.size, 0, none⟩) 2 2 (ints [0, 65536]) := row_ints w5 [0, 65536] 2 rfl; have t2 := D2a.c1; have hgw5 := D2.src.lt; have hr3a := hr3.below ((Below.refl _ _).alloc (Nat.le_refl _) (.cells #[.int .i64 0, .int .i64 65536] 2)); have hd5 : w5.heap.size + 1 ≤ g ∨ g < w5.heap.size := Or.inr hgw5) | ((with_reducible refine (l1Pick_any ac nc cc bs g (q + 1) 3 _ Db.src hrb hb hd hq1 p3 p23 hc _ _ _ rb1 hd2).mono ?_); rintro e w5 ⟨v1, rfl, s1, K1, -⟩; have D2 := Db.move K1 s1; have hr3 := hrb.kept K1 hd1; have t1 := D2.c1; have rl2b := rb2.kept K1 hk3) | ((with_reducible refine (l1Pick_any ac nc cc bs g (q + 1) 3 _ Dc.src hrc hb hd hq1 p3 p23 hc _ _ _ rc1 hd3).mono ?_); rintro e w5 ⟨v1, rfl, s1, K1, -⟩; have D2 := Dc.move K1 s1; have hr3 := hrc.kept K1 hd1; have t1 := D2.c1; have rl2c := rc2.kept K1 hk2)))
            all_goals
              have c0 := D5.c0
              have c1 := D5.c1
              have r0 := D5.r0
              have r1 := D5.r1
              have y0 := D5.rf 0
              have y1 := D5.rf 1
              clear D' Da Db De Dc hra hrb hrc ra1 rb1 rb2 rc1 rc2 x1 x2 x3 x4 x5 D2 hr3 t1 s1 K1 s2 K2 D3 t3 D4 t4 rw4 hlo4 O5 G5 c5 f5
              go_wp2
              refine bodyPost_ret (v := .agg #[.slice (some ⟨w.heap.size + 2, 0, none⟩) 64 64, .slice ao5 (n + 1) cap5]) (by simp [results, Try.results70, go_sem, r0, r1]) rfl ?_
              obtain ⟨A1, A2, A3⟩ := DF.done D5.fin (.slice (some ⟨w.heap.size + 2, 0, none⟩) 64 64) (.slice ao5 (n + 1) cap5) rfl
              exact ⟨_, _, _, _, _, _, _, _, _, rfl, by omega, by omega, by omega, A1, A2, A3⟩
          by_cases q3 : sw = 3
          · subst q3
            go_wp2_with fail
            refine (l1Next_at ac nc cc bs g (q + 1) 2 _ D1.src (hr.kept D1.kept (by omega)) hb hd (by omega) rfl (by omega) (by omega) hc).mono ?_
            rintro e w5 ⟨v1, hv1, rfl, s2, K2, -⟩
            have D2 := D1.move K2 s2
            clear s2 K2 c0 c1 f0 f1 r0 r1 y0 y1
            go_wp2_with (first | (at_make; refine wpList_make_full _ rfl _ _ 25 rfl (w1.heap.size + 1) 41 j0 (.agg #[.int .i64 0, .int .i64 0]) 2 Try.underlying25 hj0 hy0 hy1 _ _ _ _ (200 + v1) rfl rfl (by omega) (by omega) ?b1 ?b2 ?b3 ?_))
            case b1 => rw [hy2]; omega
            case b2 => unfold maxLen; omega
            case b3 => exact Nat.succ_le_of_lt D2.blt
            intro w6 O6 G6
            have O6' : w6.ownsRow (w1.heap.size + 1) 41 2 (.slice (some ⟨w5.heap.size, 0, none⟩) (200 + v1) (200 + v1)) (200 + v1) (pairs (List.replicate (200 + v1) (0, 0))) := by rw [← made_pairs]; exact O6
            obtain ⟨c5, f5⟩ := DD.grown D2 G6 (fun k hk => by cases hk)
            have D4 := DD.put D2 O6' G6 (fun k hk => by cases hk)
            have c0 := D4.c0
            have c1 := D4.c1
            have r0 := D4.r0
            have r1 := D4.r1
            have y0 := D4.rf 0
            have y1 := D4.rf 1
            clear D1 D2 O6 G6 O6'
            go_wp2
            refine bodyPost_ret (v := .agg #[.slice (some ⟨w.heap.size + 2, 0, none⟩) 64 64, .slice (some ⟨w5.heap.size, 0, none⟩) (200 + v1) (200 + v1)]) (by simp [results, Try.results70, go_sem, r0, r1]) rfl ?_
            obtain ⟨A1, A2, A3⟩ := DF.done D4.fin (.slice (some ⟨w.heap.size + 2, 0, none⟩) 64 64) (.slice (some ⟨w5.heap.size, 0, none⟩) (200 + v1) (200 + v1)) rfl
            exact ⟨_, _, _, _, _, _, _, _, _, rfl, by omega, by omega, by omega, A1, A2, A3⟩
          go_wp2
          refine bodyPost_ret (v := .agg #[.slice (some ⟨w.heap.size + 2, 0, none⟩) 64 64, .slice ao n cap]) (by simp [results, Try.results70, go_sem, r0, r1]) rfl ?_
          obtain ⟨A1, A2, A3⟩ := DF.done D1.fin (.slice (some ⟨w.heap.size + 2, 0, none⟩) 64 64) (.slice ao n cap) rfl
          exact ⟨_, _, _, _, _, _, _, _, _, rfl, by omega, by omega, by omega, A1, A2, A3⟩
        · have hk1 : (0 : Int) < kk := by omega
          go_wp2_with fail
          have D' := D.drew
          have hrr := hr.kept D'.kept (by omega)
          have hq1 : q ≤ 100000 := by omega
          have hq2 : q + 1 ≤ 100000 := by omega
          have hd1 : hi ≤ g ∨ g + 1 ≤ lo := by omega
          have c1 := D'.c1
          have hn63 : n + 1 ≤ 1048576 := by omega
          clear D
          go_region_law (first | ((with_reducible refine step_append_own 25 41 j0 (.agg #[.int .i64 0, .int .i64 0]) 2 16 Try.underlying25 hj0 hy0 hy1 hy2 hyj hsz2 (w1.heap.size + 1) v n (pairs ys) D4.cache hlo4 _ 1 1 _ rw4 h10 (two_one v1 v2) hn63 hb16 ?_ ?_ ?_); rfl; rfl; intro v5 w5 O5 G5; obtain ⟨ao5, cap5, rfl, -⟩ := RowAt.of_owned O5; have D5 := DD.put (ys' := ys ++ [((v1 : Int), (v2 : Int))]) D4 (by simpa [pairs] using O5) G5 D4.own; obtain ⟨c5, f5⟩ := DD.grown D4 G5 D4.own) | (go_simp; go_at_call 71; refine (l1Next_at ac nc cc bs g (q + 1) 99 _ D2.src hr3 hb hd hq2 rfl (by omega) (by omega) hc).mono ?_; rintro e w4 ⟨v2, hv2, rfl, s2, K2, -⟩; have D3 := D2.move K2 s2; have c3 := D3.c1; have D4 := D3.alloc (.cells #[.int .i64 v1, .int .i64 v2] 41); have rw4 := row_two w4 41 v1 v2; have c4 := D4.c1; have hlo4 := Nat.succ_le_of_lt D4.blt) | (go_simp; go_at_call 71; refine (l1Next_at ac nc cc bs g q 9 _ D'.src hrr hb hd hq1 rfl (by omega) (by omega) hc).mono ?_; rintro e w3 ⟨v1, hv1, rfl, s1, K1, -⟩; have D2 := D'.move K1 s1; have hr3 := hrr.kept K1 hd1; have c2 := D2.c1))
          all_goals
            clear c1 D2 hr3 c2 s1 K1 s2 K2 D3 c3 D4 rw4 c4 hlo4 G5 O5 c5 f5 hv1 hv2 D' hrr
            go_wp2
            go_roundw
            case rel => exact ⟨kk - 1, q + 2, _, n + 1, _, by omega, by omega, by omega, by go_num, D5⟩
            case measure => simp [intOf]; omega
    · have hk1 : (0 : Int) < kk := by omega
      go_wp2_with fail
      have hc0 := D.c0
      have D' := D.drew
      have hrr := hr.kept D'.kept (by omega)
      have hq1 : q ≤ 100000 := by omega
      have hq2 : q + 1 ≤ 100000 := by omega
      have hd1 : hi ≤ g ∨ g + 1 ≤ lo := by omega
      go_region_held3 (fun w' => w'.cell? ⟨w1.heap.size, 0, none⟩ = some (.slice (some ⟨w.heap.size + 2, 0, none⟩) 64 64)) (first | exact D4.c0 | exact D3.c0 | exact D2.c0 | exact D'.c0)
        (first | (go_at_call 71; refine (l1Next_at ac nc cc bs g (q + 1) 99 _ D2.src hr3 hb hd hq2 rfl (by omega) (by omega) hc).mono ?_; rintro e w4 ⟨v2, hv2, rfl, s2, K2, z2⟩; have D3 := D2.move K2 s2; have e1 := D3.wcell hv64; have e2 := D3.wfroz v1; have D4 := D3.word v1 v2) | (go_at_call 71; refine (l1Next_at ac nc cc bs g q 9 _ D'.src hrr hb hd hq1 rfl (by omega) (by omega) hc).mono ?_; rintro e w3 ⟨v1, hv1, rfl, s1, K1, z1⟩; have D2 := D'.move K1 s1; have hr3 := hrr.kept K1 hd1; have hv64 : v1 < 64 := Nat.lt_trans hv1 (by omega); have hv64' : (v1 : Int) < 64 := Int.ofNat_lt.2 hv64))
      clear hc0 D' hrr hq1 hq2 hd1 s1 K1 z1 D2 hr3 s2 K2 z2 D3 e1 e2 hv1 hv2 hv64 hv64' D
      go_wp2
      go_roundw
      case rel => exact ⟨kk - 1, q + 2, _, by omega, by omega, by go_num, D4⟩
      case measure => simp [intOf]; omega

end Go.Proofs.Ytkpbmffklcgecaa
