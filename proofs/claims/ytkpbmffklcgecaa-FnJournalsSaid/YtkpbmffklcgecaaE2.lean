/- Chapter 2: how disks with a journal are drawn: what the model's l2Disk answers. -/
import Derived.Test.YtkpbmffklcgecaaE1
import Derived.Test.YtkpbmffklcgecaaJ4b
import Derived.Test.YtkpbmffklcgecaaCrashS
import Derived.Test.YtkpbmffklcgecaaFacts2
namespace Go.Proofs.Ytkpbmffklcgecaa
open Go.RowKit

theorem flush_fault {xs : List Int} {ys : List (Int × Int)} (h : faultOf xs ys = 0) : faultOf (putAll xs ys) [] = 0 := by
  obtain ⟨h1, h2, _⟩ := fault_zero h
  obtain ⟨h3, h4⟩ := fault_all h
  refine fault_of (by rw [putAll_len]; exact h1) (by simp) (putAll_words ys xs h3 ?_) rfl
  rw [List.all_eq_true] at h4 ⊢
  intro p hp
  have := h4 p hp
  rw [Bool.and_eq_true] at this
  exact this.2

/-- how things stand while a disk with a journal is drawn -/
structure JD (w : World) (g bx top : Nat) (W : World) (a0 : Option Addr) (n0 c0 : Nat) (a1 : Option Addr) (n1 c1 : Nat) (xs : List Int) (ys : List (Int × Int)) : Prop where
  res : W.heap[w.heap.size]? = some (.cells #[.slice none 0 0, .slice none 0 0] 27 (0, 0))
  box : W.heap[bx]? = some (.cells #[.slice a0 n0 c0, .slice a1 n1 c1] 27 (0, 0))
  dk : ∃ lo hi, DiskAt W lo hi a0 n0 c0 a1 n1 c1 xs ys ∧ w.heap.size + 1 ≤ lo ∧ hi ≤ top ∧ (hi ≤ bx ∨ bx + 1 ≤ lo)
  nf : faultOf xs ys = 0
  kept : Kept g (g + 1) w W
  gl : g < w.heap.size
  bl : w.heap.size < bx
  bt : bx < top
  tp : top ≤ W.heap.size
section
variable {w : World} {g bx top : Nat} {W : World} {a0 : Option Addr} {n0 c0 : Nat} {a1 : Option Addr} {n1 c1 : Nat} {xs : List Int} {ys : List (Int × Int)}
theorem JD.blt (h : JD w g bx top W a0 n0 c0 a1 n1 c1 xs ys) : bx < W.heap.size := Nat.lt_of_lt_of_le h.bt h.tp
theorem JD.move (h : JD w g bx top W a0 n0 c0 a1 n1 c1 xs ys) {W' : World} (hk : Kept g (g + 1) W W') : JD w g bx top W' a0 n0 c0 a1 n1 c1 xs ys := by
  have h1 := h.gl
  have h2 := h.bl
  have h3 := h.blt
  obtain ⟨lo, hi, d, e1, e2, e3⟩ := h.dk
  refine ⟨?_, ?_, ⟨lo, hi, d.kept hk (by omega), e1, e2, e3⟩, h.nf, h.kept.trans hk, h1, h2, h.bt, Nat.le_trans h.tp hk.size⟩
  · rw [hk.block _ (by omega) (by omega)]; exact h.res
  · rw [hk.block _ (by omega) (by omega)]; exact h.box
theorem JD.keep (h : JD w g bx top W a0 n0 c0 a1 n1 c1 xs ys) {W' : World} {x y : Nat} (hk : Kept x y W W') (hx : top ≤ x) : JD w g bx top W' a0 n0 c0 a1 n1 c1 xs ys := by
  have h1 := h.gl
  have h2 := h.bl
  have h3 := h.bt
  have h4 := h.tp
  obtain ⟨lo, hi, d, e1, e2, e3⟩ := h.dk
  have K := h.kept
  refine ⟨?_, ?_, ⟨lo, hi, d.kept hk (by omega), e1, e2, e3⟩, h.nf, ⟨hk.os.trans K.os, hk.tape.trans K.tape, hk.output.trans K.output, Nat.le_trans K.size hk.size, fun k hk1 hd => (hk.block k (Nat.lt_of_lt_of_le hk1 K.size) (by omega)).trans (K.block k hk1 hd)⟩, h1, h2, h.bt, Nat.le_trans h.tp hk.size⟩
  · rw [hk.block _ (by omega) (by omega)]; exact h.res
  · rw [hk.block _ (by omega) (by omega)]; exact h.box
theorem JD.retop (h : JD w g bx top W a0 n0 c0 a1 n1 c1 xs ys) {top' : Nat} (h1 : top ≤ top') (h2 : top' ≤ W.heap.size) : JD w g bx top' W a0 n0 c0 a1 n1 c1 xs ys := by
  obtain ⟨lo, hi, d, e1, e2, e3⟩ := h.dk
  exact ⟨h.res, h.box, ⟨lo, hi, d, e1, Nat.le_trans e2 h1, e3⟩, h.nf, h.kept, h.gl, h.bl, Nat.lt_of_lt_of_le h.bt h1, h2⟩
theorem JD.below (h : JD w g bx top W a0 n0 c0 a1 n1 c1 xs ys) {W' : World} (hb : Below W.heap.size W W') : JD w g bx top W' a0 n0 c0 a1 n1 c1 xs ys := h.move (Kept.of_below hb)
theorem JD.d0 (h : JD w g bx top W a0 n0 c0 a1 n1 c1 xs ys) : W.cell? ⟨bx, 0, none⟩ = some (.slice a0 n0 c0) := by rw [cell_of_row W _ 0 _ _ _ h.box]; rfl
theorem JD.d1 (h : JD w g bx top W a0 n0 c0 a1 n1 c1 xs ys) : W.cell? ⟨bx, 1, none⟩ = some (.slice a1 n1 c1) := by rw [cell_of_row W _ 1 _ _ _ h.box]; rfl
theorem JD.ff (h : JD w g bx top W a0 n0 c0 a1 n1 c1 xs ys) (j : Nat) : W.frozen? ⟨bx, j, none⟩ = false := frozen_of_row W _ j _ _ h.box
theorem JD.r0 (h : JD w g bx top W a0 n0 c0 a1 n1 c1 xs ys) : W.cell? ⟨w.heap.size, 0, none⟩ = some (.slice none 0 0) := by rw [cell_of_row W _ 0 _ _ _ h.res]; rfl
theorem JD.r1 (h : JD w g bx top W a0 n0 c0 a1 n1 c1 xs ys) : W.cell? ⟨w.heap.size, 1, none⟩ = some (.slice none 0 0) := by rw [cell_of_row W _ 1 _ _ _ h.res]; rfl
theorem JD.rf (h : JD w g bx top W a0 n0 c0 a1 n1 c1 xs ys) (j : Nat) : W.frozen? ⟨w.heap.size, j, none⟩ = false := frozen_of_row W _ j _ _ h.res
theorem JD.n (h : JD w g bx top W a0 n0 c0 a1 n1 c1 xs ys) : n0 = 64 ∧ n1 ≤ 200 := by
  obtain ⟨lo, hi, d, _⟩ := h.dk
  obtain ⟨mid, _, _, t0, t1⟩ := d.parts
  obtain ⟨h1, h2, _⟩ := fault_zero h.nf
  have := t0.nInts
  have := t1.nPairs
  omega
/-- another disk is laid into the box -/
theorem JD.put (h : JD w g bx top W a0 n0 c0 a1 n1 c1 xs ys) {b0 : Option Addr} {m0 d0 : Nat} {b1 : Option Addr} {m1 d1 : Nat} {xs' : List Int} {ys' : List (Int × Int)} {lo hi : Nat} (d : DiskAt W lo hi b0 m0 d0 b1 m1 d1 xs' ys') (hl : bx + 1 ≤ lo) (hh : hi ≤ W.heap.size) (hf : faultOf xs' ys' = 0) :
    JD w g bx W.heap.size ((W.setCell ⟨bx, 0, none⟩ (.slice b0 m0 d0)).setCell ⟨bx, 1, none⟩ (.slice b1 m1 d1)) b0 m0 d0 b1 m1 d1 xs' ys' := by
  have h1 := h.gl
  have h2 := h.bl
  have h3 := h.blt
  have G1 := heap_setCell_same W bx 0 _ _ (.slice b0 m0 d0) h.box
  have G2 := heap_setCell_same _ bx 1 _ _ (.slice b1 m1 d1) G1
  have hk : Kept bx (bx + 1) W ((W.setCell ⟨bx, 0, none⟩ (.slice b0 m0 d0)).setCell ⟨bx, 1, none⟩ (.slice b1 m1 d1)) := Kept.setCell (p := ⟨bx, 1, none⟩) (Kept.setCell (p := ⟨bx, 0, none⟩) (Kept.refl _ _ _) (Nat.le_refl _) (Nat.lt_succ_self _) _) (Nat.le_refl _) (Nat.lt_succ_self _) _
  refine ⟨?_, by simpa using G2, ⟨lo, hi, d.kept hk (by omega), by omega, hh, by omega⟩, hf, ?_, h1, h2, h3, hk.size⟩
  · rw [hk.block _ (by omega) (by omega)]; exact h.res
  · have K := h.kept
    exact ⟨hk.os.trans K.os, hk.tape.trans K.tape, hk.output.trans K.output, Nat.le_trans K.size hk.size, fun k hk1 hd => (hk.block k (Nat.lt_of_lt_of_le hk1 K.size) (by omega)).trans (K.block k hk1 hd)⟩
end
/-- the answer is laid into its box -/
theorem fin2 {w : World} {g : Nat} {W : World} {p : Nat} {ac : Option Addr} {nc cc : Nat} {b0 : Option Addr} {m0 d0 : Nat} {b1 : Option Addr} {m1 d1 : Nat} {xs : List Int} {ys : List (Int × Int)} {lo hi : Nat} (d : DiskAt W lo hi b0 m0 d0 b1 m1 d1 xs ys) (hl : w.heap.size + 1 ≤ lo) (hh : hi ≤ W.heap.size) (hk : Kept g (g + 1) w W) (hg : g < w.heap.size) (hs : SrcAt W g p ac nc cc) (u0 u1 : Value) :
    DiskAt ((W.setCell ⟨w.heap.size, 0, none⟩ u0).setCell ⟨w.heap.size, 1, none⟩ u1) w.heap.size ((W.setCell ⟨w.heap.size, 0, none⟩ u0).setCell ⟨w.heap.size, 1, none⟩ u1).heap.size b0 m0 d0 b1 m1 d1 xs ys ∧ SrcAt ((W.setCell ⟨w.heap.size, 0, none⟩ u0).setCell ⟨w.heap.size, 1, none⟩ u1) g p ac nc cc ∧ Kept g (g + 1) w ((W.setCell ⟨w.heap.size, 0, none⟩ u0).setCell ⟨w.heap.size, 1, none⟩ u1) := by
  have K : Kept w.heap.size (w.heap.size + 1) W ((W.setCell ⟨w.heap.size, 0, none⟩ u0).setCell ⟨w.heap.size, 1, none⟩ u1) := Kept.setCell (p := ⟨w.heap.size, 1, none⟩) (Kept.setCell (p := ⟨w.heap.size, 0, none⟩) (Kept.refl _ _ _) (Nat.le_refl _) (Nat.lt_succ_self _) _) (Nat.le_refl _) (Nat.lt_succ_self _) _
  refine ⟨(d.kept K (by omega)).widen (by omega) (Nat.le_trans hh K.size), hs.kept K (Or.inl hg), ⟨K.os.trans hk.os, K.tape.trans hk.tape, K.output.trans hk.output, Nat.le_trans hk.size K.size, fun k hk1 hd => (K.block k (Nat.lt_of_lt_of_le hk1 hk.size) (by omega)).trans (hk.block k hk1 hd)⟩⟩
theorem dresField (c : Int) (b0 : Option Addr) (m0 d0 : Nat) (b1 : Option Addr) (m1 d1 : Nat) (w : World) : (Instr.field 32 (.agg #[.int .i64 c, .slice b0 m0 d0, .slice b1 m1 d1]) 1).run Try.prog w = .ok (.agg #[.slice b0 m0 d0, .slice b1 m1 d1]) w := by kernel_rfl
theorem set3 {W : World} {rb : Nat} {z0 z1 z2 : Value} (h0 : W.cell? ⟨rb, 0, none⟩ = some z0) (h1 : W.cell? ⟨rb, 1, none⟩ = some z1) (h2 : W.cell? ⟨rb, 2, none⟩ = some z2) (v0 v1 v2 : Value) :
    (((W.setCell ⟨rb, 0, none⟩ v0).setCell ⟨rb, 1, none⟩ v1).setCell ⟨rb, 2, none⟩ v2).cell? ⟨rb, 0, none⟩ = some v0 ∧ (((W.setCell ⟨rb, 0, none⟩ v0).setCell ⟨rb, 1, none⟩ v1).setCell ⟨rb, 2, none⟩ v2).cell? ⟨rb, 1, none⟩ = some v1 ∧ (((W.setCell ⟨rb, 0, none⟩ v0).setCell ⟨rb, 1, none⟩ v1).setCell ⟨rb, 2, none⟩ v2).cell? ⟨rb, 2, none⟩ = some v2 ∧ Kept rb (rb + 1) W (((W.setCell ⟨rb, 0, none⟩ v0).setCell ⟨rb, 1, none⟩ v1).setCell ⟨rb, 2, none⟩ v2) := by
  have n1 : (⟨rb, 1, none⟩ : Addr) ≠ ⟨rb, 0, none⟩ := by intro e; simp at e
  have n2 : (⟨rb, 2, none⟩ : Addr) ≠ ⟨rb, 0, none⟩ := by intro e; simp at e
  have n3 : (⟨rb, 2, none⟩ : Addr) ≠ ⟨rb, 1, none⟩ := by intro e; simp at e
  have n4 : (⟨rb, 0, none⟩ : Addr) ≠ ⟨rb, 1, none⟩ := by intro e; simp at e
  refine ⟨?_, ?_, ?_, Kept.setCell (p := ⟨rb, 2, none⟩) (Kept.setCell (p := ⟨rb, 1, none⟩) (Kept.setCell (p := ⟨rb, 0, none⟩) (Kept.refl _ _ _) (Nat.le_refl _) (Nat.lt_succ_self _) _) (Nat.le_refl _) (Nat.lt_succ_self _) _) (Nat.le_refl _) (Nat.lt_succ_self _) _⟩
  · rw [World.cell?_setCell_other _ _ _ _ n2, World.cell?_setCell_other _ _ _ _ n1]; exact World.cell?_setCell_same _ _ _ h0
  · rw [World.cell?_setCell_other _ _ _ _ n3]; exact World.cell?_setCell_same _ _ _ ((World.cell?_setCell_other _ _ _ _ n4).trans h1)
  · refine World.cell?_setCell_same _ _ _ (u := z2) ?_
    rw [World.cell?_setCell_other _ _ _ _ (by intro e; simp at e), World.cell?_setCell_other _ _ _ _ (by intro e; simp at e)]; exact h2

set_option maxRecDepth 20000 in
set_option maxHeartbeats 4000000 in
theorem l2Disk_any (g p : Nat) (ac : Option Addr) (nc cc : Nat) (bs : List Nat) (w : World) (h : SB w g p ac nc cc bs) (hp : p ≤ 500) :
    Calls Try.prog 94 #[.pointer (some ⟨g, 0, none⟩)] w fun e w' => ∃ a0 n0 c0 a1 n1 c1 xs ys p', e = .returned (.agg #[.slice a0 n0 c0, .slice a1 n1 c1]) ∧ n0 ≤ 64 ∧ n1 ≤ 300 ∧ p' ≤ p + 300 ∧ DiskAt w' w.heap.size w'.heap.size a0 n0 c0 a1 n1 c1 xs ys ∧ SrcAt w' g p' ac nc cc ∧ Kept g (g + 1) w w' := by
  have hg := h.lt
  have A0 : Below w.heap.size w (w.alloc (.cells #[.slice none 0 0, .slice none 0 0] 27)) := (Below.refl _ _).alloc (Nat.le_refl _) _
  have E0 : (w.alloc (.cells #[.slice none 0 0, .slice none 0 0] 27)).heap.size = w.heap.size + 1 := by simp
  go_enter Try.func94, Try.ntmps94
  go_wp2_with fail
  refine (l1New_any _).mono ?_
  rw [E0]
  rintro e w1 ⟨rfl, O1, hb1⟩
  have hs1 : w.heap.size + 1 ≤ w1.heap.size := by have := hb1.size; omega
  have G1 : w1.heap[w.heap.size]? = some (.cells #[.slice none 0 0, .slice none 0 0] 27 (0, 0)) := by rw [hb1.block _ (by first | omega | (rw [E0]; omega))]; exact heap_alloc_new _ _
  have A1 : Below w1.heap.size w1 (w1.alloc (.cells #[.slice (some ⟨w.heap.size + 1 + 1, 0, none⟩) 64 64, .slice none 0 0] 27)) := (Below.refl _ _).alloc (Nat.le_refl _) _
  have hb1' : Below (w.alloc (.cells #[.slice none 0 0, .slice none 0 0] 27)).heap.size (w.alloc (.cells #[.slice none 0 0, .slice none 0 0] 27)) w1 := by rw [E0]; exact hb1
  have B1 := below_next (below_next A0 hb1') A1
  have D0 : JD w g w1.heap.size (w1.alloc (.cells #[.slice (some ⟨w.heap.size + 1 + 1, 0, none⟩) 64 64, .slice none 0 0] 27)).heap.size (w1.alloc (.cells #[.slice (some ⟨w.heap.size + 1 + 1, 0, none⟩) 64 64, .slice none 0 0] 27)) (some ⟨w.heap.size + 1 + 1, 0, none⟩) 64 64 none 0 0 zeros64 [] := by
    refine ⟨?_, heap_alloc_new _ _, ⟨w.heap.size + 1, w1.heap.size, ?_, Nat.le_refl _, A1.size, Or.inl (Nat.le_refl _)⟩, ?_, Kept.of_below B1, hg, by omega, by simp, Nat.le_refl _⟩
    · rw [A1.block _ (by omega)]; exact G1
    · obtain ⟨_, _, e0, R⟩ := RowAt.of_owned O1
      cases e0
      exact ⟨w1.heap.size, hs1, Nat.le_refl _, (R.below A1).widen (by omega) (Nat.le_refl _), RowAt.nil _ _ _ _ _⟩
    · decide
  have S0 := h.below B1
  clear A0 E0 O1 hb1 hb1' G1 A1 B1
  go_wp2_with fail
  refine (next_sb S0 12 rfl (by omega) (by omega) (by omega)).mono ?_
  rintro e w2 ⟨v, hv, rfl, S1, K1, z1⟩
  have D1 := (D0.move K1).retop (Nat.le_of_eq z1.symm) (Nat.le_refl _)
  have hbx : w1.heap.size = w1.heap.size := rfl
  obtain ⟨bx, hbx⟩ : ∃ bx, w1.heap.size = bx := ⟨_, rfl⟩
  rw [hbx] at D1 ⊢
  clear D0 S0 K1 z1 hs1 hbx
  go_wp2
  go_loopw [4] (fun i wr => ∃ (j q : Nat) (a0 : Option Addr) (n0 c0 : Nat) (a1 : Option Addr) (n1 c1 : Nat) (xs : List Int) (ys : List (Int × Int)), i = .int .i64 j ∧ j ≤ 11 ∧ q + 7 * j ≤ p + 78 ∧ JD w g bx wr.heap.size wr a0 n0 c0 a1 n1 c1 xs ys ∧ SrcAt wr g q ac nc cc) (fun i _ => (intOf i).toNat)
  case atStart => exact ⟨v, p + 1, _, _, _, _, _, _, _, _, rfl, by omega, by omega, D1, S1.src⟩
  case round =>
    obtain ⟨j, q, a0, n0, c0, a1, n1, c1, xs, ys, rfl, hj11, hq, D, S⟩ := hrel
    clear D1 S1
    by_cases hj : j = 0
    · subst hj
      have hs0 := D.kept.size
      have hbl := D.bl
      have hbt := D.bt
      obtain ⟨rfl, hn1⟩ := D.n
      go_wp2_with fail
      refine (next_sb (h.move D.kept S) 14 rfl (by omega) (by omega) (by omega)).mono ?_
      rintro e w5 ⟨sw, hsw, rfl, S5, K5, z5⟩
      have D5 := D.move K5
      have hz5 := Nat.le_of_eq z5
      have hz5' := Nat.le_of_eq z5.symm
      clear D S K5 z5
      have x0 := D5.d0
      have x1 := D5.d1
      have r0 := D5.r0
      have r1 := D5.r1
      have y0 := D5.rf 0
      have y1 := D5.rf 1
      obtain ⟨lo, hi, dA, dA1, dA2, dA3⟩ := D5.dk
      obtain ⟨mid, hm1, hm2, t0, t1⟩ := dA.parts
      have htp := D5.tp
      by_cases s2 : sw = 2
      · subst s2
        obtain ⟨i4, hi4, hz0, hz1, hz2⟩ := info_parts Try.info4'
        have A5 : Below w5.heap.size w5 (w5.alloc (.cells #[] 4)) := (Below.refl _ _).alloc (Nat.le_refl _) _
        have own0 : (w5.alloc (.cells #[] 4)).ownsRow w5.heap.size 4 1 (.slice (some ⟨w5.heap.size, 0, none⟩) 0 0) 0 [] := World.ownsRow_lit w5 #[] 0 (Nat.le_refl _) (Nat.zero_le _) rfl
        have hgw : g < w5.heap.size := S5.lt
        go_wp2
        go_loopw [6, 7] (fun u i wq => ∃ (m : Nat) (ps : List Bool), m ≤ 40 ∧ i = .int .i64 m ∧ wq.ownsRow w5.heap.size 4 1 u m (bls ps) ∧ SrcAt wq g (q + 1 + m) ac nc cc ∧ Kept g (g + 1) w5 wq) (fun _ i _ => 40 - (intOf i).toNat)
        case atStart => exact ⟨0, [], by omega, rfl, own0, S5.src.below A5, Kept.of_below A5⟩
        case round =>
          obtain ⟨m, ps, hm, rfl, hown, sq, hk⟩ := hrel
          clear own0 A5 x0 x1 r0 r1 y0 y1
          have D6 := D5.move hk
          by_cases hlt : m < 40
          · have hlk : (m : Int) < 40 := by omega
            go_wp2_with fail
            refine (chance_sb (h.move D6.kept sq) 2 rfl (by omega) (by omega) (by omega)).mono ?_
            rintro e w6 ⟨b, rfl, S6, K6, z6⟩
            have hown2 := owns_kept hown K6 (fun k e => by have := (hown.lt k e).1; omega)
            have hk2 := hk.trans K6
            have hs2 := hk2.size
            clear hown D6 hk K6 z6
            have hownA := hown2.alloc (.cells #[.bool b] 4)
            go_wp2_with (first | (at_builtin; refine wpList_append_own _ rfl _ _ 28 rfl w5.heap.size 4 i4 (.bool false) 1 1 Try.underlying28 hi4 hz0 hz1 hz2 rfl (by decide) _ _ _ rfl hownA ⟨w6.heap.size, 0, none⟩ 1 1 [.bool b] rfl rfl ?d1 ?d2 ?d3 ?d4 ?d5 ?_))
            case d1 =>
              intro i u hi
              match i, hi with
              | 0, hi => simp at hi; subst hi; simp [Addr.add]
            case d2 => intro u hu; simp at hu; subst hu; rfl
            case d3 => unfold maxLen; omega
            case d4 => omega
            case d5 => simp; omega
            intro v2 w7 hown3 hgrow _
            have B3 : Below w5.heap.size w6 w7 := (((Below.refl _ _).alloc hs2 _ : Below w5.heap.size w6 _)).grown hgrow (by simp; omega) (fun g hg => (hownA.lt g hg).1)
            have hk3 := hk2.low B3
            have s3 := S6.src.low B3 hgw
            have hown4 : w7.ownsRow w5.heap.size 4 1 v2 (m + 1) (bls (ps ++ [b])) := by simpa [bls] using hown3
            clear hown3 hgrow hownA B3 hown2 S6 hk2
            go_wp2
            go_roundw
            case rel => exact ⟨m + 1, _, by omega, by go_num, hown4, by rw [show q + 1 + (m + 1) = q + 1 + m + 1 by omega]; exact s3, hk3⟩
            case measure => simp [intOf]; omega
          · obtain rfl : m = 40 := by omega
            obtain ⟨pa, pc, rfl, RP⟩ := RowAt.of_owned hown
            have x0 := D6.d0
            have x1 := D6.d1
            obtain ⟨lo6, hi6, dB, dB1, dB2, dB3⟩ := D6.dk
            obtain ⟨mid6, _, _, t06, t16⟩ := dB.parts
            clear hown
            have hs6 := hk.size
            go_wp2_with fail
            refine (specCrash_any _ _ _ _ _ _ xs ys _ _ _ ps _ t06 t16 RP (by omega) (by omega) (by omega)).mono ?_
            rintro e w8 ⟨e0, k0, f0, e1, k1, f1, rfl, dC, hb8⟩
            have hfld := dresField (faultOf xs ys) e0 k0 f0 e1 k1 f1 w8
            have D8 := D6.below hb8
            have r0 := D8.r0
            have r1 := D8.r1
            have y0 := D8.rf 0
            have y1 := D8.rf 1
            have K8 := D8.kept
            have sq8 := sq.below hb8
            have nf := D8.nf
            have hk0 : k0 ≤ 64 ∧ k1 ≤ 300 := by
              obtain ⟨_, _, _, u0, u1⟩ := dC.parts
              have e0 := u0.nInts
              have e1 := u1.nPairs
              rw [crashRes, if_pos nf, putAll_len, (fault_zero nf).1] at e0
              simp at e1
              omega
            clear D5 D6 D8 x0 x1 dA dB t06 t16 t0 t1 RP hb8 nf
            go_wp2
            refine bodyPost_ret (v := .agg #[.slice e0 k0 f0, .slice e1 k1 f1]) (by simp [results, Try.results94, go_sem, r0, r1]) rfl ?_
            obtain ⟨A1, A2, A3⟩ := fin2 dC (by omega) (Nat.le_refl _) K8 hg sq8 (.slice e0 k0 f0) (.slice e1 k1 f1)
            exact ⟨_, _, _, _, _, _, _, _, _, rfl, hk0.1, hk0.2, by omega, A1, A2, A3⟩
      by_cases s3 : sw = 3
      · subst s3
        obtain ⟨i4, hi4, hz0, hz1, hz2⟩ := info_parts Try.info4'
        have A5 : Below w5.heap.size w5 (w5.alloc (.cells #[] 4)) := (Below.refl _ _).alloc (Nat.le_refl _) _
        have own0 : (w5.alloc (.cells #[] 4)).ownsRow w5.heap.size 4 1 (.slice (some ⟨w5.heap.size, 0, none⟩) 0 0) 0 [] := World.ownsRow_lit w5 #[] 0 (Nat.le_refl _) (Nat.zero_le _) rfl
        have hgw : g < w5.heap.size := S5.lt
        go_wp2
        go_loopw [6, 7] (fun u i wq => ∃ (m : Nat) (ps : List Bool), m ≤ 40 ∧ i = .int .i64 m ∧ wq.ownsRow w5.heap.size 4 1 u m (bls ps) ∧ SrcAt wq g (q + 1 + m) ac nc cc ∧ Kept g (g + 1) w5 wq) (fun _ i _ => 40 - (intOf i).toNat)
        case atStart => exact ⟨0, [], by omega, rfl, own0, S5.src.below A5, Kept.of_below A5⟩
        case round =>
          obtain ⟨m, ps, hm, rfl, hown, sq, hk⟩ := hrel
          clear own0 A5 x0 x1 r0 r1 y0 y1
          have D6 := D5.move hk
          by_cases hlt : m < 40
          · have hlk : (m : Int) < 40 := by omega
            go_wp2_with fail
            refine (chance_sb (h.move D6.kept sq) 2 rfl (by omega) (by omega) (by omega)).mono ?_
            rintro e w6 ⟨b, rfl, S6, K6, z6⟩
            have hown2 := owns_kept hown K6 (fun k e => by have := (hown.lt k e).1; omega)
            have hk2 := hk.trans K6
            have hs2 := hk2.size
            clear hown D6 hk K6 z6
            have hownA := hown2.alloc (.cells #[.bool b] 4)
            go_wp2_with (first | (at_builtin; refine wpList_append_own _ rfl _ _ 28 rfl w5.heap.size 4 i4 (.bool false) 1 1 Try.underlying28 hi4 hz0 hz1 hz2 rfl (by decide) _ _ _ rfl hownA ⟨w6.heap.size, 0, none⟩ 1 1 [.bool b] rfl rfl ?d1 ?d2 ?d3 ?d4 ?d5 ?_))
            case d1 =>
              intro i u hi
              match i, hi with
              | 0, hi => simp at hi; subst hi; simp [Addr.add]
            case d2 => intro u hu; simp at hu; subst hu; rfl
            case d3 => unfold maxLen; omega
            case d4 => omega
            case d5 => simp; omega
            intro v2 w7 hown3 hgrow _
            have B3 : Below w5.heap.size w6 w7 := (((Below.refl _ _).alloc hs2 _ : Below w5.heap.size w6 _)).grown hgrow (by simp; omega) (fun g hg => (hownA.lt g hg).1)
            have hk3 := hk2.low B3
            have s3 := S6.src.low B3 hgw
            have hown4 : w7.ownsRow w5.heap.size 4 1 v2 (m + 1) (bls (ps ++ [b])) := by simpa [bls] using hown3
            clear hown3 hgrow hownA B3 hown2 S6 hk2
            go_wp2
            go_roundw
            case rel => exact ⟨m + 1, _, by omega, by go_num, hown4, by rw [show q + 1 + (m + 1) = q + 1 + m + 1 by omega]; exact s3, hk3⟩
            case measure => simp [intOf]; omega
          · obtain rfl : m = 40 := by omega
            obtain ⟨pa, pc, rfl, RP⟩ := RowAt.of_owned hown
            have x0 := D6.d0
            have x1 := D6.d1
            obtain ⟨lo6, hi6, dB, dB1, dB2, dB3⟩ := D6.dk
            obtain ⟨mid6, _, _, t06, t16⟩ := dB.parts
            clear hown
            have hs6 := hk.size
            go_wp2_with fail
            refine (specCrash_any _ _ _ _ _ _ xs ys _ _ _ ps _ t06 t16 RP (by omega) (by omega) (by omega)).mono ?_
            rintro e w8 ⟨e0, k0, f0, e1, k1, f1, rfl, dC, hb8⟩
            have hfld := dresField (faultOf xs ys) e0 k0 f0 e1 k1 f1 w8
            have D8 := D6.below hb8
            have r0 := D8.r0
            have r1 := D8.r1
            have y0 := D8.rf 0
            have y1 := D8.rf 1
            have K8 := D8.kept
            have sq8 := sq.below hb8
            have nf := D8.nf
            have hk0 : k0 ≤ 64 ∧ k1 ≤ 300 := by
              obtain ⟨_, _, _, u0, u1⟩ := dC.parts
              have e0 := u0.nInts
              have e1 := u1.nPairs
              rw [crashRes, if_pos nf, putAll_len, (fault_zero nf).1] at e0
              simp at e1
              omega
            clear D5 D6 D8 x0 x1 dA dB t06 t16 t0 t1 RP hb8 nf
            go_wp2
            refine bodyPost_ret (v := .agg #[.slice e0 k0 f0, .slice e1 k1 f1]) (by simp [results, Try.results94, go_sem, r0, r1]) rfl ?_
            obtain ⟨A1, A2, A3⟩ := fin2 dC (by omega) (Nat.le_refl _) K8 hg sq8 (.slice e0 k0 f0) (.slice e1 k1 f1)
            exact ⟨_, _, _, _, _, _, _, _, _, rfl, hk0.1, hk0.2, by omega, A1, A2, A3⟩
      by_cases s0 : sw = 0
      · subst s0
        obtain ⟨o, rlo, rhi, rr, rd⟩ := S5.row
        go_wp2_with fail
        refine (l1Disk_any ac nc cc bs g (q + 1) _ S5.src rr h.byte rd (by omega) h.few).mono ?_
        rintro e w8 ⟨e0, k0, f0, e1, k1, f1, zs, vs, p8, rfl, hk0, hk1, hp8, dC, s8, K8'⟩
        have D8 := D5.move K8'
        replace r0 := D8.r0
        replace r1 := D8.r1
        replace y0 := D8.rf 0
        replace y1 := D8.rf 1
        have K8 := D8.kept
        clear D5 D8 x0 x1 dA t0 t1 rr K8'
        go_wp2
        refine bodyPost_ret (v := .agg #[.slice e0 k0 f0, .slice e1 k1 f1]) (by simp [results, Try.results94, go_sem, r0, r1]) rfl ?_
        obtain ⟨A1, A2, A3⟩ := fin2 dC (by omega) (Nat.le_refl _) K8 hg s8 (.slice e0 k0 f0) (.slice e1 k1 f1)
        exact ⟨_, _, _, _, _, _, _, _, _, rfl, hk0, hk1, by omega, A1, A2, A3⟩
      by_cases s1 : sw = 1
      · subst s1
        obtain ⟨bw, fw, rfl, hbw1, hbw2, hbw3, _, _⟩ := t0.int (k := 0) (by omega)
        have AD : Below w5.heap.size w5 w5.drew := (Below.refl _ _).drew
        replace D5 := D5.below AD
        replace x0 := D5.d0
        replace S5 := S5.below AD
        replace t0 := t0.below AD
        replace t1 := t1.below AD
        have hq1 : q + 1 ≤ 100000 := by omega
        have hq2 : q + 1 + 1 ≤ 100000 := by omega
        have p20 : 0 < 20 := by omega
        have H20 : Hid ((20 : Int) = ((20 : Nat) : Int)) := rfl
        have p20' : 20 ≤ 200 := by omega
        have hgl := D5.gl
        have dlo : g + 1 ≤ lo := by omega
        have dmi : g + 1 ≤ mid := by omega
        go_wp2_with fail
        have nbw : bw ≠ bx := by omega
        have hso : ∀ (W : World) (k : Nat) (v : Value) (i : Nat), (W.setCell ⟨bw, k, none⟩ v).cell? ⟨bx, i, none⟩ = W.cell? ⟨bx, i, none⟩ := fun W k v i => World.cell?_setCell_other _ _ _ _ (by intro e; injection e with e _; exact nbw e)
        go_region_held3 (fun w' => w'.cell? ⟨bx, 0, none⟩ = some (.slice (some ⟨bw, fw, none⟩) 64 c0)) (first | exact x0 | exact (hso _ _ _ _).trans x0) (first | (go_at_call 71; (with_reducible refine (next_sb S5 20 H20.out p20 p20' hq1).mono ?_); rintro e w6 ⟨i1, hi1, rfl, S6, K6, z6⟩; replace D5 := D5.move K6; replace x0 := D5.d0; replace t0 := t0.kept K6 (Or.inr dlo); replace t1 := t1.kept K6 (Or.inr dmi); have li1 : (i1 : Int) < 64 := (by omega); have li2 : i1 < 64 := (by omega)) | (go_at_call 71; (with_reducible refine (next_sb S6 20 H20.out p20 p20' hq2).mono ?_); rintro e w7 ⟨i2, hi2, rfl, S7, K7, z7⟩; replace D5 := D5.move K7; replace x0 := D5.d0; replace t0 := t0.kept K7 (Or.inr dlo); replace t1 := t1.kept K7 (Or.inr dmi); obtain ⟨_, _, e', _, _, _, cw, fz⟩ := t0.int li2; cases e'; have fz' := fz rfl))
        have K : Kept bw (bw + 1) w7 (w7.setCell ⟨bw, fw + i1, none⟩ (.int .i64 (i2 : Int))) := Kept.setCell (p := ⟨bw, fw + i1, none⟩) (Kept.refl _ _ _) (Nat.le_refl _) (Nat.lt_succ_self _) _
        have t0' : RowAt (w7.setCell ⟨bw, fw + i1, none⟩ (.int .i64 (i2 : Int))) true lo mid 1 (some ⟨bw, fw, none⟩) 64 c0 (ints (xs.set i1 (i2 : Int))) := by
          have := t0.stored (i := i1) (by omega) (.int .i64 (i2 : Int))
          rw [ints, List.map_set]; exact this
        have t1' := t1.kept K (by omega)
        have dA' : DiskAt (w7.setCell ⟨bw, fw + i1, none⟩ (.int .i64 (i2 : Int))) lo hi (some ⟨bw, fw, none⟩) 64 c0 a1 n1 c1 (xs.set i1 (i2 : Int)) ys := ⟨mid, hm1, hm2, t0', t1'⟩
        replace x0 := (hso w7 (fw + i1) (.int .i64 (i2 : Int)) 0).trans D5.d0
        replace x1 := (hso w7 (fw + i1) (.int .i64 (i2 : Int)) 1).trans D5.d1
        replace r0 := K.cell D5.r0 (by omega)
        replace r1 := K.cell D5.r1 (by omega)
        have hw7 := D5.kept.size
        have htp7 := D5.tp
        have hs7 := K.size
        have hlt7 : w.heap.size < w7.heap.size := by omega
        replace y0 := K.frozen hlt7 (by omega) (D5.rf 0)
        replace y1 := K.frozen hlt7 (by omega) (D5.rf 1)
        have K8 := D5.kept.low (K.below w.heap.size (by omega) hw7)
        have s8 := S7.src.kept K (Or.inl (by omega))
        generalize (w7.setCell ⟨bw, fw + i1, none⟩ (.int .i64 (i2 : Int))) = W at *
        clear D5 dA t0 t1 hso cw fz fz' S7 S6 S5 K t0' t1'
        go_wp2
        refine bodyPost_ret (v := .agg #[.slice (some ⟨bw, fw, none⟩) 64 c0, .slice a1 n1 c1]) (by simp [results, Try.results94, go_sem, r0, r1]) rfl ?_
        obtain ⟨A1, A2, A3⟩ := fin2 dA' dA1 (by omega) K8 hg s8 (.slice (some ⟨bw, fw, none⟩) 64 c0) (.slice a1 n1 c1)
        exact ⟨_, _, _, _, _, _, _, _, _, rfl, by omega, by omega, by omega, A1, A2, A3⟩
      have j0 : ¬ (sw : Int) = 0 := by omega
      have j1 : ¬ (sw : Int) = 1 := by omega
      have j2 : ¬ (sw : Int) = 2 := by omega
      have j3 : ¬ (sw : Int) = 3 := by omega
      have K8 := D5.kept
      have s8 := S5.src
      clear D5
      go_wp2
      refine bodyPost_ret (v := .agg #[.slice a0 64 c0, .slice a1 n1 c1]) (by simp [results, Try.results94, go_sem, r0, r1]) rfl ?_
      obtain ⟨A1, A2, A3⟩ := fin2 dA dA1 (Nat.le_trans dA2 htp) K8 hg s8 (.slice a0 64 c0) (.slice a1 n1 c1)
      exact ⟨_, _, _, _, _, _, _, _, _, rfl, by omega, by omega, by omega, A1, A2, A3⟩
    · have hj0 : (0 : Int) < j := by omega
      obtain ⟨rfl, hn1⟩ := D.n
      have AZ : ∀ W : World, Below W.heap.size W (W.alloc (.cells #[.int .i64 0, .slice none 0 0, .slice none 0 0] 32)) := fun W => (Below.refl _ _).alloc (Nat.le_refl _) _
      have AV : ∀ (W : World) (o : Obj), Below W.heap.size W (W.alloc o) := fun W o => (Below.refl _ _).alloc (Nat.le_refl _) _
      have hbt := D.bt
      have hso3 : ∀ (W : World) (rb : Nat) (v0 v1 v2 : Value) (i : Nat), bx < rb → (((W.setCell ⟨rb, 0, none⟩ v0).setCell ⟨rb, 1, none⟩ v1).setCell ⟨rb, 2, none⟩ v2).cell? ⟨bx, i, none⟩ = W.cell? ⟨bx, i, none⟩ := fun W rb v0 v1 v2 i hb => by rw [World.cell?_setCell_other _ _ _ _ (by intro e; injection e with e _; omega), World.cell?_setCell_other _ _ _ _ (by intro e; injection e with e _; omega), World.cell?_setCell_other _ _ _ _ (by intro e; injection e with e _; omega)]
      have AD : ∀ W : World, Below W.heap.size W W.drew := fun W => (Below.refl _ _).drew
      have D1 := D.below (AD wr)
      have SB1 := h.move D1.kept (S.below (AD wr))
      have x0 := D1.d0
      have x1 := D1.d1
      have D2 := (D.below (AZ wr)).below (AD (wr.alloc (.cells #[.int .i64 0, .slice none 0 0, .slice none 0 0] 32)))
      have SB2 := h.move D2.kept ((S.below (AZ wr)).below (AD (wr.alloc (.cells #[.int .i64 0, .slice none 0 0, .slice none 0 0] 32))))
      have u0 := D2.d0
      have u1 := D2.d1
      have zc0 : (wr.alloc (.cells #[.int .i64 0, .slice none 0 0, .slice none 0 0] 32)).drew.cell? ⟨wr.heap.size, 0, none⟩ = some (.int .i64 0) := cell_later (AD (wr.alloc (.cells #[.int .i64 0, .slice none 0 0, .slice none 0 0] 32))) (by simp)
      have zc1 : (wr.alloc (.cells #[.int .i64 0, .slice none 0 0, .slice none 0 0] 32)).drew.cell? ⟨wr.heap.size, 1, none⟩ = some (.slice none 0 0) := cell_later (AD (wr.alloc (.cells #[.int .i64 0, .slice none 0 0, .slice none 0 0] 32))) (by simp)
      have zc2 : (wr.alloc (.cells #[.int .i64 0, .slice none 0 0, .slice none 0 0] 32)).drew.cell? ⟨wr.heap.size, 2, none⟩ = some (.slice none 0 0) := cell_later (AD (wr.alloc (.cells #[.int .i64 0, .slice none 0 0, .slice none 0 0] 32))) (by simp)
      have zf0 : (wr.alloc (.cells #[.int .i64 0, .slice none 0 0, .slice none 0 0] 32)).drew.frozen? ⟨wr.heap.size, 0, none⟩ = false := frozen_later (AD (wr.alloc (.cells #[.int .i64 0, .slice none 0 0, .slice none 0 0] 32))) (by simp) (by simp)
      have zf1 : (wr.alloc (.cells #[.int .i64 0, .slice none 0 0, .slice none 0 0] 32)).drew.frozen? ⟨wr.heap.size, 1, none⟩ = false := frozen_later (AD (wr.alloc (.cells #[.int .i64 0, .slice none 0 0, .slice none 0 0] 32))) (by simp) (by simp)
      have zf2 : (wr.alloc (.cells #[.int .i64 0, .slice none 0 0, .slice none 0 0] 32)).drew.frozen? ⟨wr.heap.size, 2, none⟩ = false := frozen_later (AD (wr.alloc (.cells #[.int .i64 0, .slice none 0 0, .slice none 0 0] 32))) (by simp) (by simp)
      have hZs : (wr.alloc (.cells #[.int .i64 0, .slice none 0 0, .slice none 0 0] 32)).drew.heap.size = wr.heap.size + 1 := by simp
      have hDs : wr.drew.heap.size = wr.heap.size := by simp
      have hgl := D.gl
      have hgw : g < wr.heap.size := by have := D.kept.size; omega
      have hq9 : q ≤ 90000 := by omega
      have hn0' : 64 ≤ 1048576 := by omega
      have hn1' : n1 ≤ 1048576 := by omega
      go_wp2_with fail
      go_region_held3 (fun w' => w'.cell? ⟨bx, 0, none⟩ = some (.slice a0 64 c0) ∧ w'.cell? ⟨bx, 1, none⟩ = some (.slice a1 n1 c1)) (first | exact ⟨x0, x1⟩ | exact ⟨u0, u1⟩ | exact ⟨y0, y1⟩ | exact ⟨cell_later (AV _ _) x0, cell_later (AV _ _) x1⟩ | exact ⟨(hso3 _ _ _ _ _ _ (by omega)).trans x0, (hso3 _ _ _ _ _ _ (by omega)).trans x1⟩)
        (first | (go_at_call 95; (with_reducible refine (l2Record_any g q ac nc cc bs wr.drew SB1 hq9).mono ?_); rintro e w3 ⟨ra, rn, rc, rws, q3, rfl, hr1, hr5, hq3, RR, S3, K3⟩; have DD := D1.move K3; replace x0 := DD.d0; replace x1 := DD.d1; have y0 := cell_later (AZ w3) x0; have y1 := cell_later (AZ w3) x1; obtain ⟨lo, hi, dA, dA1, dA2, dA3⟩ := DD.dk; obtain ⟨mid, _, _, t0, t1⟩ := dA.parts; have hrn : rn ≤ 1048576 := (by omega); have hs3 := K3.size) | (go_at_call 95; (with_reducible refine (l2Record_any g q ac nc cc bs (wr.alloc (.cells #[.int .i64 0, .slice none 0 0, .slice none 0 0] 32)).drew SB2 hq9).mono ?_); rintro e w3 ⟨ra, rn, rc, rws, q3, rfl, hr1, hr5, hq3, RR, S3, K3⟩; have DD := D2.move K3; replace x0 := DD.d0; replace x1 := DD.d1; have y0 := cell_later (AZ w3) x0; have y1 := cell_later (AZ w3) x1; obtain ⟨lo, hi, dA, dA1, dA2, dA3⟩ := DD.dk; obtain ⟨mid, _, _, t0, t1⟩ := dA.parts; have hrn : rn ≤ 1048576 := (by omega); have hs3 := K3.size; replace zc0 := K3.cell zc0 (by omega); replace zc1 := K3.cell zc1 (by omega); replace zc2 := K3.cell zc2 (by omega); replace zf0 := K3.frozen (by omega) (by omega) zf0; replace zf1 := K3.frozen (by omega) (by omega) zf1; replace zf2 := K3.frozen (by omega) (by omega) zf2) | (go_at_call 55; (with_reducible refine (specApp_any a0 a1 64 c0 n1 c1 xs ys (some ra) rn rc rws w3 t0 t1 RR hn0' hn1' hrn).mono ?_); rintro e w4 ⟨b0, m0, d0, b1, m1, d1, rfl, dP, hb4⟩; replace DD := DD.below hb4; replace x0 := DD.d0; replace x1 := DD.d1; replace y0 := cell_later (AZ w4) x0; replace y1 := cell_later (AZ w4) x1; have S4 := S3.src.below hb4; have hs4 := hb4.size; (try (replace zc0 := cell_later hb4 zc0; replace zc1 := cell_later hb4 zc1; replace zc2 := cell_later hb4 zc2; replace zf0 := frozen_later hb4 (by omega) zf0; replace zf1 := frozen_later hb4 (by omega) zf1; replace zf2 := frozen_later hb4 (by omega) zf2))) | (go_at_call 55; (with_reducible refine (specApp_any a0 a1 64 c0 n1 c1 xs ys (some ra) rn rc rws (w3.alloc (.cells #[.int .i64 0, .slice none 0 0, .slice none 0 0] 32)) (t0.below (AZ w3)) (t1.below (AZ w3)) (RR.below (AZ w3)) hn0' hn1' hrn).mono ?_); rintro e w4 ⟨b0, m0, d0, b1, m1, d1, rfl, dP, hb4⟩; replace DD := (DD.below (AZ w3)).below hb4; replace x0 := DD.d0; replace x1 := DD.d1; have S4 := (S3.src.below (AZ w3)).below hb4; have hs4 := hb4.size; have zd0 : w4.cell? ⟨w3.heap.size, 0, none⟩ = some (.int .i64 0) := cell_later hb4 (by simp); have zd1 : w4.cell? ⟨w3.heap.size, 1, none⟩ = some (.slice none 0 0) := cell_later hb4 (by simp); have zd2 : w4.cell? ⟨w3.heap.size, 2, none⟩ = some (.slice none 0 0) := cell_later hb4 (by simp); have ze0 : w4.frozen? ⟨w3.heap.size, 0, none⟩ = false := frozen_later hb4 (by simp) (by simp); have ze1 : w4.frozen? ⟨w3.heap.size, 1, none⟩ = false := frozen_later hb4 (by simp) (by simp); have ze2 : w4.frozen? ⟨w3.heap.size, 2, none⟩ = false := frozen_later hb4 (by simp) (by simp)))
      · have D5 := DD.below (AV w4 (.cells #[.int .i64 (appCode xs ys rws), .slice b0 m0 d0, .slice b1 m1 d1] 32))
        have S5 := S4.below (AV w4 (.cells #[.int .i64 (appCode xs ys rws), .slice b0 m0 d0, .slice b1 m1 d1] 32))
        have dP5 := dP.below (AV w4 (.cells #[.int .i64 (appCode xs ys rws), .slice b0 m0 d0, .slice b1 m1 d1] 32))
        have q0 : (w4.alloc (.cells #[.int .i64 (appCode xs ys rws), .slice b0 m0 d0, .slice b1 m1 d1] 32)).cell? ⟨w4.heap.size, 0, none⟩ = some (.int .i64 (appCode xs ys rws)) := by simp
        have q1 : (w4.alloc (.cells #[.int .i64 (appCode xs ys rws), .slice b0 m0 d0, .slice b1 m1 d1] 32)).cell? ⟨w4.heap.size, 1, none⟩ = some (.slice b0 m0 d0) := by simp
        have q2 : (w4.alloc (.cells #[.int .i64 (appCode xs ys rws), .slice b0 m0 d0, .slice b1 m1 d1] 32)).cell? ⟨w4.heap.size, 2, none⟩ = some (.slice b1 m1 d1) := by simp
        have hs5 : w4.heap.size ≤ (w4.alloc (.cells #[.int .i64 (appCode xs ys rws), .slice b0 m0 d0, .slice b1 m1 d1] 32)).heap.size := (AV w4 (.cells #[.int .i64 (appCode xs ys rws), .slice b0 m0 d0, .slice b1 m1 d1] 32)).size
        generalize (w4.alloc (.cells #[.int .i64 (appCode xs ys rws), .slice b0 m0 d0, .slice b1 m1 d1] 32)) = w5 at *
        clear x0 x1 u0 u1 y0 y1 zc0 zc1 zc2 zf0 zf1 zf2 D1 D2 SB1 SB2 t0 t1 dA RR AZ AD AV hso3 dP K3
        have hgb : g < bx := by have := D5.bl; omega
        have v0 := D5.d0
        have v1 := D5.d1
        have v2 := D5.ff 0
        have v3 := D5.ff 1
        by_cases hc : appCode xs ys rws = 0
        · have hf5 : faultOf (appX xs ys rws) (appY xs ys rws) = 0 := by rw [(app_lists hc).1]; exact app_fault hc
          have D6 := D5.put dP5 (by omega) (by omega) hf5
          have S6 : SrcAt ((w5.setCell ⟨bx, 0, none⟩ (.slice b0 m0 d0)).setCell ⟨bx, 1, none⟩ (.slice b1 m1 d1)) g _ ac nc cc := S5.kept (l := bx) (u := bx + 1) (Kept.setCell (p := ⟨bx, 1, none⟩) (Kept.setCell (p := ⟨bx, 0, none⟩) (Kept.refl _ _ _) (Nat.le_refl _) (Nat.lt_succ_self _) _) (Nat.le_refl _) (Nat.lt_succ_self _) _) (Or.inl hgb)
          rw [hc] at q0 ⊢
          have HC : Hid _ := hc
          clear hc D5 dP5 S5 hf5
          have SBc := h.move D6.kept S6
          go_wp2_with fail
          refine (chance_sb SBc 2 rfl (by omega) (by omega) (by omega)).mono ?_
          rintro e w7 ⟨b, rfl, S7, K7, z7⟩
          have D7 := (D6.move K7).retop (D6.move K7).tp (Nat.le_refl _)
          clear D6 SBc K7
          cases b with
          | false =>
            go_wp2
            go_roundw
            case rel => exact ⟨j - 1, q3 + 1, _, _, _, _, _, _, _, _, by go_num, by omega, by omega, D7, S7.src⟩
            case measure => simp [intOf]; omega
          | true =>
            have nf7 := D7.nf
            have k0 := D7.d0
            have k1 := D7.d1
            obtain ⟨lo7, hi7, dA7, _, _, _⟩ := D7.dk
            obtain ⟨mid7, _, _, t07, t17⟩ := dA7.parts
            have hnn := D7.n
            have hm7 := hnn.1
            have hm7' := hnn.2
            have hbt7 := D7.bt
            have l0 : _ ≤ 2097152 := Nat.le_trans (Nat.le_of_eq hm7) (by decide)
            have l1 : _ ≤ 2097152 := Nat.le_trans hm7' (by decide)
            clear hnn hm7 hm7' dA7
            go_wp2_with fail
            refine (specCommit_any _ _ _ _ _ _ (appX xs ys rws) (appY xs ys rws) _ t07 t17 l0 l1).mono ?_
            rintro e w8 ⟨e0, k0', f0, e1, k1', f1, rfl, dC, hb8⟩
            have D8 := D7.below hb8
            have hfl : flushRes (appX xs ys rws) (appY xs ys rws) = putAll (appX xs ys rws) (appY xs ys rws) := if_pos nf7
            have hff : faultOf (flushRes (appX xs ys rws) (appY xs ys rws)) [] = 0 := by rw [hfl]; exact flush_fault nf7
            have S8 := S7.src.below hb8
            have hs8 := hb8.size
            have hfld := dresField (faultOf (appX xs ys rws) (appY xs ys rws)) e0 k0' f0 e1 k1' f1 w8
            have D9 := D8.put dC (by omega) (Nat.le_refl _) hff
            have S9 : SrcAt ((w8.setCell ⟨bx, 0, none⟩ (.slice e0 k0' f0)).setCell ⟨bx, 1, none⟩ (.slice e1 k1' f1)) g _ ac nc cc := S8.kept (l := bx) (u := bx + 1) (Kept.setCell (p := ⟨bx, 1, none⟩) (Kept.setCell (p := ⟨bx, 0, none⟩) (Kept.refl _ _ _) (Nat.le_refl _) (Nat.lt_succ_self _) _) (Nat.le_refl _) (Nat.lt_succ_self _) _) (Or.inl hgb)
            replace D9 := D9.retop D9.tp (Nat.le_refl _)
            have g0 := D8.d0
            have g1 := D8.d1
            have g2 := D8.ff 0
            have g3 := D8.ff 1
            clear D7 D8 S8 S7 dC hb8 t07 t17 k0 k1 hfl hff nf7
            go_wp2
            go_roundw
            case rel => exact ⟨j - 1, q3 + 1, _, _, _, _, _, _, _, _, by go_num, by omega, by omega, D9, S9⟩
            case measure => simp [intOf]; omega
        · obtain ⟨f, hf⟩ : ∃ f, appCode xs ys rws = f := ⟨_, rfl⟩
          rw [hf] at hc q0 ⊢
          clear dP5 hf
          have SBc := h.move D5.kept S5
          go_wp2_with fail
          refine (chance_sb SBc 2 rfl (by omega) (by omega) (by omega)).mono ?_
          rintro e w7 ⟨b, rfl, S7, K7, z7⟩
          have D7 := (D5.move K7).retop (D5.move K7).tp (Nat.le_refl _)
          clear D5 SBc K7
          cases b with
          | false =>
            go_wp2
            go_roundw
            case rel => exact ⟨j - 1, q3 + 1, _, _, _, _, _, _, _, _, by go_num, by omega, by omega, D7, S7.src⟩
            case measure => simp [intOf]; omega
          | true =>
            have nf7 := D7.nf
            have k0 := D7.d0
            have k1 := D7.d1
            obtain ⟨lo7, hi7, dA7, _, _, _⟩ := D7.dk
            obtain ⟨mid7, _, _, t07, t17⟩ := dA7.parts
            have hnn := D7.n
            have hm7 := hnn.1
            have hm7' := hnn.2
            have hbt7 := D7.bt
            have l0 : _ ≤ 2097152 := Nat.le_trans (Nat.le_of_eq hm7) (by decide)
            have l1 : _ ≤ 2097152 := Nat.le_trans hm7' (by decide)
            clear hnn hm7 hm7' dA7
            go_wp2_with fail
            refine (specCommit_any _ _ _ _ _ _ (xs) (ys) _ t07 t17 l0 l1).mono ?_
            rintro e w8 ⟨e0, k0', f0, e1, k1', f1, rfl, dC, hb8⟩
            have D8 := D7.below hb8
            have hfl : flushRes (xs) (ys) = putAll (xs) (ys) := if_pos nf7
            have hff : faultOf (flushRes (xs) (ys)) [] = 0 := by rw [hfl]; exact flush_fault nf7
            have S8 := S7.src.below hb8
            have hs8 := hb8.size
            have hfld := dresField (faultOf (xs) (ys)) e0 k0' f0 e1 k1' f1 w8
            have D9 := D8.put dC (by omega) (Nat.le_refl _) hff
            have S9 : SrcAt ((w8.setCell ⟨bx, 0, none⟩ (.slice e0 k0' f0)).setCell ⟨bx, 1, none⟩ (.slice e1 k1' f1)) g _ ac nc cc := S8.kept (l := bx) (u := bx + 1) (Kept.setCell (p := ⟨bx, 1, none⟩) (Kept.setCell (p := ⟨bx, 0, none⟩) (Kept.refl _ _ _) (Nat.le_refl _) (Nat.lt_succ_self _) _) (Nat.le_refl _) (Nat.lt_succ_self _) _) (Or.inl hgb)
            replace D9 := D9.retop D9.tp (Nat.le_refl _)
            have g0 := D8.d0
            have g1 := D8.d1
            have g2 := D8.ff 0
            have g3 := D8.ff 1
            clear D7 D8 S8 S7 dC hb8 t07 t17 k0 k1 hfl hff nf7
            go_wp2
            go_roundw
            case rel => exact ⟨j - 1, q3 + 1, _, _, _, _, _, _, _, _, by go_num, by omega, by omega, D9, S9⟩
            case measure => simp [intOf]; omega
      · obtain ⟨q0, q1, q2, K5⟩ := set3 zd0 zd1 zd2 (.int .i64 (appCode xs ys rws)) (.slice b0 m0 d0) (.slice b1 m1 d1)
        have hA3 := (AZ w3).size
        have hA4 : (w3.alloc (.cells #[.int .i64 0, .slice none 0 0, .slice none 0 0] 32)).heap.size = w3.heap.size + 1 := by simp
        have D5 := DD.keep K5 (by omega)
        have S5 := S4.kept K5 (Or.inl (by omega))
        have dP5 := dP.kept K5 (by omega)
        have hs5 := K5.size
        generalize (((w4.setCell ⟨w3.heap.size, 0, none⟩ (.int .i64 (appCode xs ys rws))).setCell ⟨w3.heap.size, 1, none⟩ (.slice b0 m0 d0)).setCell ⟨w3.heap.size, 2, none⟩ (.slice b1 m1 d1)) = w5 at *
        clear x0 x1 u0 u1 y0 y1 zc0 zc1 zc2 zf0 zf1 zf2 D1 D2 SB1 SB2 t0 t1 dA RR AZ AD AV hso3 dP K3
        have hgb : g < bx := by have := D5.bl; omega
        have v0 := D5.d0
        have v1 := D5.d1
        have v2 := D5.ff 0
        have v3 := D5.ff 1
        by_cases hc : appCode xs ys rws = 0
        · have hf5 : faultOf (appX xs ys rws) (appY xs ys rws) = 0 := by rw [(app_lists hc).1]; exact app_fault hc
          have D6 := D5.put dP5 (by omega) (by omega) hf5
          have S6 : SrcAt ((w5.setCell ⟨bx, 0, none⟩ (.slice b0 m0 d0)).setCell ⟨bx, 1, none⟩ (.slice b1 m1 d1)) g _ ac nc cc := S5.kept (l := bx) (u := bx + 1) (Kept.setCell (p := ⟨bx, 1, none⟩) (Kept.setCell (p := ⟨bx, 0, none⟩) (Kept.refl _ _ _) (Nat.le_refl _) (Nat.lt_succ_self _) _) (Nat.le_refl _) (Nat.lt_succ_self _) _) (Or.inl hgb)
          rw [hc] at q0 ⊢
          have HC : Hid _ := hc
          clear hc D5 dP5 S5 hf5
          have SBc := h.move D6.kept S6
          go_wp2_with fail
          refine (chance_sb SBc 2 rfl (by omega) (by omega) (by omega)).mono ?_
          rintro e w7 ⟨b, rfl, S7, K7, z7⟩
          have D7 := (D6.move K7).retop (D6.move K7).tp (Nat.le_refl _)
          clear D6 SBc K7
          cases b with
          | false =>
            go_wp2
            go_roundw
            case rel => exact ⟨j - 1, q3 + 1, _, _, _, _, _, _, _, _, by go_num, by omega, by omega, D7, S7.src⟩
            case measure => simp [intOf]; omega
          | true =>
            have nf7 := D7.nf
            have k0 := D7.d0
            have k1 := D7.d1
            obtain ⟨lo7, hi7, dA7, _, _, _⟩ := D7.dk
            obtain ⟨mid7, _, _, t07, t17⟩ := dA7.parts
            have hnn := D7.n
            have hm7 := hnn.1
            have hm7' := hnn.2
            have hbt7 := D7.bt
            have l0 : _ ≤ 2097152 := Nat.le_trans (Nat.le_of_eq hm7) (by decide)
            have l1 : _ ≤ 2097152 := Nat.le_trans hm7' (by decide)
            clear hnn hm7 hm7' dA7
            go_wp2_with fail
            refine (specCommit_any _ _ _ _ _ _ (appX xs ys rws) (appY xs ys rws) _ t07 t17 l0 l1).mono ?_
            rintro e w8 ⟨e0, k0', f0, e1, k1', f1, rfl, dC, hb8⟩
            have D8 := D7.below hb8
            have hfl : flushRes (appX xs ys rws) (appY xs ys rws) = putAll (appX xs ys rws) (appY xs ys rws) := if_pos nf7
            have hff : faultOf (flushRes (appX xs ys rws) (appY xs ys rws)) [] = 0 := by rw [hfl]; exact flush_fault nf7
            have S8 := S7.src.below hb8
            have hs8 := hb8.size
            have hfld := dresField (faultOf (appX xs ys rws) (appY xs ys rws)) e0 k0' f0 e1 k1' f1 w8
            have D9 := D8.put dC (by omega) (Nat.le_refl _) hff
            have S9 : SrcAt ((w8.setCell ⟨bx, 0, none⟩ (.slice e0 k0' f0)).setCell ⟨bx, 1, none⟩ (.slice e1 k1' f1)) g _ ac nc cc := S8.kept (l := bx) (u := bx + 1) (Kept.setCell (p := ⟨bx, 1, none⟩) (Kept.setCell (p := ⟨bx, 0, none⟩) (Kept.refl _ _ _) (Nat.le_refl _) (Nat.lt_succ_self _) _) (Nat.le_refl _) (Nat.lt_succ_self _) _) (Or.inl hgb)
            replace D9 := D9.retop D9.tp (Nat.le_refl _)
            have g0 := D8.d0
            have g1 := D8.d1
            have g2 := D8.ff 0
            have g3 := D8.ff 1
            clear D7 D8 S8 S7 dC hb8 t07 t17 k0 k1 hfl hff nf7
            go_wp2
            go_roundw
            case rel => exact ⟨j - 1, q3 + 1, _, _, _, _, _, _, _, _, by go_num, by omega, by omega, D9, S9⟩
            case measure => simp [intOf]; omega
        · obtain ⟨f, hf⟩ : ∃ f, appCode xs ys rws = f := ⟨_, rfl⟩
          rw [hf] at hc q0 ⊢
          clear dP5 hf
          have SBc := h.move D5.kept S5
          go_wp2_with fail
          refine (chance_sb SBc 2 rfl (by omega) (by omega) (by omega)).mono ?_
          rintro e w7 ⟨b, rfl, S7, K7, z7⟩
          have D7 := (D5.move K7).retop (D5.move K7).tp (Nat.le_refl _)
          clear D5 SBc K7
          cases b with
          | false =>
            go_wp2
            go_roundw
            case rel => exact ⟨j - 1, q3 + 1, _, _, _, _, _, _, _, _, by go_num, by omega, by omega, D7, S7.src⟩
            case measure => simp [intOf]; omega
          | true =>
            have nf7 := D7.nf
            have k0 := D7.d0
            have k1 := D7.d1
            obtain ⟨lo7, hi7, dA7, _, _, _⟩ := D7.dk
            obtain ⟨mid7, _, _, t07, t17⟩ := dA7.parts
            have hnn := D7.n
            have hm7 := hnn.1
            have hm7' := hnn.2
            have hbt7 := D7.bt
            have l0 : _ ≤ 2097152 := Nat.le_trans (Nat.le_of_eq hm7) (by decide)
            have l1 : _ ≤ 2097152 := Nat.le_trans hm7' (by decide)
            clear hnn hm7 hm7' dA7
            go_wp2_with fail
            refine (specCommit_any _ _ _ _ _ _ (xs) (ys) _ t07 t17 l0 l1).mono ?_
            rintro e w8 ⟨e0, k0', f0, e1, k1', f1, rfl, dC, hb8⟩
            have D8 := D7.below hb8
            have hfl : flushRes (xs) (ys) = putAll (xs) (ys) := if_pos nf7
            have hff : faultOf (flushRes (xs) (ys)) [] = 0 := by rw [hfl]; exact flush_fault nf7
            have S8 := S7.src.below hb8
            have hs8 := hb8.size
            have hfld := dresField (faultOf (xs) (ys)) e0 k0' f0 e1 k1' f1 w8
            have D9 := D8.put dC (by omega) (Nat.le_refl _) hff
            have S9 : SrcAt ((w8.setCell ⟨bx, 0, none⟩ (.slice e0 k0' f0)).setCell ⟨bx, 1, none⟩ (.slice e1 k1' f1)) g _ ac nc cc := S8.kept (l := bx) (u := bx + 1) (Kept.setCell (p := ⟨bx, 1, none⟩) (Kept.setCell (p := ⟨bx, 0, none⟩) (Kept.refl _ _ _) (Nat.le_refl _) (Nat.lt_succ_self _) _) (Nat.le_refl _) (Nat.lt_succ_self _) _) (Or.inl hgb)
            replace D9 := D9.retop D9.tp (Nat.le_refl _)
            have g0 := D8.d0
            have g1 := D8.d1
            have g2 := D8.ff 0
            have g3 := D8.ff 1
            clear D7 D8 S8 S7 dC hb8 t07 t17 k0 k1 hfl hff nf7
            go_wp2
            go_roundw
            case rel => exact ⟨j - 1, q3 + 1, _, _, _, _, _, _, _, _, by go_num, by omega, by omega, D9, S9⟩
            case measure => simp [intOf]; omega
      · obtain ⟨q0, q1, q2, K5⟩ := set3 zc0 zc1 zc2 (.int .i64 (appCode xs ys rws)) (.slice b0 m0 d0) (.slice b1 m1 d1)
        have hA3 := hZs
        have hA4 : (w3.alloc (.cells #[.int .i64 0, .slice none 0 0, .slice none 0 0] 32)).heap.size = w3.heap.size + 1 := by simp
        have D5 := DD.keep K5 (by omega)
        have S5 := S4.kept K5 (Or.inl (by omega))
        have dP5 := dP.kept K5 (by omega)
        have hs5 := K5.size
        generalize (((w4.setCell ⟨wr.heap.size, 0, none⟩ (.int .i64 (appCode xs ys rws))).setCell ⟨wr.heap.size, 1, none⟩ (.slice b0 m0 d0)).setCell ⟨wr.heap.size, 2, none⟩ (.slice b1 m1 d1)) = w5 at *
        clear x0 x1 u0 u1 y0 y1 zc0 zc1 zc2 zf0 zf1 zf2 D1 D2 SB1 SB2 t0 t1 dA RR AZ AD AV hso3 dP K3
        have hgb : g < bx := by have := D5.bl; omega
        have v0 := D5.d0
        have v1 := D5.d1
        have v2 := D5.ff 0
        have v3 := D5.ff 1
        by_cases hc : appCode xs ys rws = 0
        · have hf5 : faultOf (appX xs ys rws) (appY xs ys rws) = 0 := by rw [(app_lists hc).1]; exact app_fault hc
          have D6 := D5.put dP5 (by omega) (by omega) hf5
          have S6 : SrcAt ((w5.setCell ⟨bx, 0, none⟩ (.slice b0 m0 d0)).setCell ⟨bx, 1, none⟩ (.slice b1 m1 d1)) g _ ac nc cc := S5.kept (l := bx) (u := bx + 1) (Kept.setCell (p := ⟨bx, 1, none⟩) (Kept.setCell (p := ⟨bx, 0, none⟩) (Kept.refl _ _ _) (Nat.le_refl _) (Nat.lt_succ_self _) _) (Nat.le_refl _) (Nat.lt_succ_self _) _) (Or.inl hgb)
          rw [hc] at q0 ⊢
          have HC : Hid _ := hc
          clear hc D5 dP5 S5 hf5
          have SBc := h.move D6.kept S6
          go_wp2_with fail
          refine (chance_sb SBc 2 rfl (by omega) (by omega) (by omega)).mono ?_
          rintro e w7 ⟨b, rfl, S7, K7, z7⟩
          have D7 := (D6.move K7).retop (D6.move K7).tp (Nat.le_refl _)
          clear D6 SBc K7
          cases b with
          | false =>
            go_wp2
            go_roundw
            case rel => exact ⟨j - 1, q3 + 1, _, _, _, _, _, _, _, _, by go_num, by omega, by omega, D7, S7.src⟩
            case measure => simp [intOf]; omega
          | true =>
            have nf7 := D7.nf
            have k0 := D7.d0
            have k1 := D7.d1
            obtain ⟨lo7, hi7, dA7, _, _, _⟩ := D7.dk
            obtain ⟨mid7, _, _, t07, t17⟩ := dA7.parts
            have hnn := D7.n
            have hm7 := hnn.1
            have hm7' := hnn.2
            have hbt7 := D7.bt
            have l0 : _ ≤ 2097152 := Nat.le_trans (Nat.le_of_eq hm7) (by decide)
            have l1 : _ ≤ 2097152 := Nat.le_trans hm7' (by decide)
            clear hnn hm7 hm7' dA7
            go_wp2_with fail
            refine (specCommit_any _ _ _ _ _ _ (appX xs ys rws) (appY xs ys rws) _ t07 t17 l0 l1).mono ?_
            rintro e w8 ⟨e0, k0', f0, e1, k1', f1, rfl, dC, hb8⟩
            have D8 := D7.below hb8
            have hfl : flushRes (appX xs ys rws) (appY xs ys rws) = putAll (appX xs ys rws) (appY xs ys rws) := if_pos nf7
            have hff : faultOf (flushRes (appX xs ys rws) (appY xs ys rws)) [] = 0 := by rw [hfl]; exact flush_fault nf7
            have S8 := S7.src.below hb8
            have hs8 := hb8.size
            have hfld := dresField (faultOf (appX xs ys rws) (appY xs ys rws)) e0 k0' f0 e1 k1' f1 w8
            have D9 := D8.put dC (by omega) (Nat.le_refl _) hff
            have S9 : SrcAt ((w8.setCell ⟨bx, 0, none⟩ (.slice e0 k0' f0)).setCell ⟨bx, 1, none⟩ (.slice e1 k1' f1)) g _ ac nc cc := S8.kept (l := bx) (u := bx + 1) (Kept.setCell (p := ⟨bx, 1, none⟩) (Kept.setCell (p := ⟨bx, 0, none⟩) (Kept.refl _ _ _) (Nat.le_refl _) (Nat.lt_succ_self _) _) (Nat.le_refl _) (Nat.lt_succ_self _) _) (Or.inl hgb)
            replace D9 := D9.retop D9.tp (Nat.le_refl _)
            have g0 := D8.d0
            have g1 := D8.d1
            have g2 := D8.ff 0
            have g3 := D8.ff 1
            clear D7 D8 S8 S7 dC hb8 t07 t17 k0 k1 hfl hff nf7
            go_wp2
            go_roundw
            case rel => exact ⟨j - 1, q3 + 1, _, _, _, _, _, _, _, _, by go_num, by omega, by omega, D9, S9⟩
            case measure => simp [intOf]; omega
        · obtain ⟨f, hf⟩ : ∃ f, appCode xs ys rws = f := ⟨_, rfl⟩
          rw [hf] at hc q0 ⊢
          clear dP5 hf
          have SBc := h.move D5.kept S5
          go_wp2_with fail
          refine (chance_sb SBc 2 rfl (by omega) (by omega) (by omega)).mono ?_
          rintro e w7 ⟨b, rfl, S7, K7, z7⟩
          have D7 := (D5.move K7).retop (D5.move K7).tp (Nat.le_refl _)
          clear D5 SBc K7
          cases b with
          | false =>
            go_wp2
            go_roundw
            case rel => exact ⟨j - 1, q3 + 1, _, _, _, _, _, _, _, _, by go_num, by omega, by omega, D7, S7.src⟩
            case measure => simp [intOf]; omega
          | true =>
            have nf7 := D7.nf
            have k0 := D7.d0
            have k1 := D7.d1
            obtain ⟨lo7, hi7, dA7, _, _, _⟩ := D7.dk
            obtain ⟨mid7, _, _, t07, t17⟩ := dA7.parts
            have hnn := D7.n
            have hm7 := hnn.1
            have hm7' := hnn.2
            have hbt7 := D7.bt
            have l0 : _ ≤ 2097152 := Nat.le_trans (Nat.le_of_eq hm7) (by decide)
            have l1 : _ ≤ 2097152 := Nat.le_trans hm7' (by decide)
            clear hnn hm7 hm7' dA7
            go_wp2_with fail
            refine (specCommit_any _ _ _ _ _ _ (xs) (ys) _ t07 t17 l0 l1).mono ?_
            rintro e w8 ⟨e0, k0', f0, e1, k1', f1, rfl, dC, hb8⟩
            have D8 := D7.below hb8
            have hfl : flushRes (xs) (ys) = putAll (xs) (ys) := if_pos nf7
            have hff : faultOf (flushRes (xs) (ys)) [] = 0 := by rw [hfl]; exact flush_fault nf7
            have S8 := S7.src.below hb8
            have hs8 := hb8.size
            have hfld := dresField (faultOf (xs) (ys)) e0 k0' f0 e1 k1' f1 w8
            have D9 := D8.put dC (by omega) (Nat.le_refl _) hff
            have S9 : SrcAt ((w8.setCell ⟨bx, 0, none⟩ (.slice e0 k0' f0)).setCell ⟨bx, 1, none⟩ (.slice e1 k1' f1)) g _ ac nc cc := S8.kept (l := bx) (u := bx + 1) (Kept.setCell (p := ⟨bx, 1, none⟩) (Kept.setCell (p := ⟨bx, 0, none⟩) (Kept.refl _ _ _) (Nat.le_refl _) (Nat.lt_succ_self _) _) (Nat.le_refl _) (Nat.lt_succ_self _) _) (Or.inl hgb)
            replace D9 := D9.retop D9.tp (Nat.le_refl _)
            have g0 := D8.d0
            have g1 := D8.d1
            have g2 := D8.ff 0
            have g3 := D8.ff 1
            clear D7 D8 S8 S7 dC hb8 t07 t17 k0 k1 hfl hff nf7
            go_wp2
            go_roundw
            case rel => exact ⟨j - 1, q3 + 1, _, _, _, _, _, _, _, _, by go_num, by omega, by omega, D9, S9⟩
            case measure => simp [intOf]; omega

end Go.Proofs.Ytkpbmffklcgecaa
