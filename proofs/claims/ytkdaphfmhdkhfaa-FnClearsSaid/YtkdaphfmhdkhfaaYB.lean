/- Chapter 4: a forest that the model made, one number in it written anew. -/
import Derived.Test.YtkdaphfmhdkhfaaYA
import Derived.Test.YtkdaphfmhdkhfaaZZ
import Derived.Test.YtkdaphfmhdkhfaaYD
import Derived.Laws.OwnMore
import Derived.Deep.AppendLies
namespace Go.Proofs.Ytkdaphfmhdkhfaa
open Go.RowKit

theorem RowAt.storeOther {w : World} {o : Bool} {lo hi s : Nat} {ao : Option Addr} {n c : Nat} {cs : List Value} (h : RowAt w o lo hi s ao n c cs) {p : Nat} (hne : n ≠ 0 → sb ao ≠ sb (some ⟨p, 0, none⟩)) (q : Nat) (v : Value) : RowAt (w.setCell ⟨p, q, none⟩ v) o lo hi s ao n c cs := by
  refine ⟨h.len, h.le, fun hn => ?_⟩
  obtain ⟨b, off, rfl, g1, g2, g3, g4, g5⟩ := h.cells hn
  have hb : b ≠ p := fun e => hne hn (by subst e; rfl)
  refine ⟨b, off, rfl, g1, g2, by simpa [World.setCell] using g3, fun j hj => ?_, fun ho j hj => ?_⟩
  · rw [World.cell?_setCell_other _ _ _ _ (by intro h; simp at h <;> omega)]; exact g4 j hj
  · rw [World.frozen?_setCell]; exact g5 ho j hj

theorem RowAt.storeInt {w : World} {lo hi : Nat} {ao : Option Addr} {n c : Nat} {zs : List Int} (h : RowAt w true lo hi 1 ao n c (ints zs)) (p q : Nat) (x : Int) : ∃ zs' : List Int, zs'.length = zs.length ∧ RowAt (w.setCell ⟨p, q, none⟩ (.int .i64 x)) true lo hi 1 ao n c (ints zs') := by
  by_cases hn : n = 0
  · exact ⟨zs, rfl, h.len, h.le, fun h' => absurd hn h'⟩
  obtain ⟨b, off, rfl, g1, g2, g3, g4, g5⟩ := h.cells hn
  by_cases hp : p = b ∧ off ≤ q ∧ q < off + n
  · obtain ⟨rfl, h1, h2⟩ := hp
    have hs := h.stored (i := q - off) (by omega) (.int .i64 x)
    rw [show off + (q - off) = q by omega, show (ints zs).set (q - off) (.int .i64 x) = ints (zs.set (q - off) x) by simp [ints, List.map_set]] at hs
    exact ⟨_, by simp, hs⟩
  · refine ⟨zs, rfl, h.len, h.le, fun _ => ⟨b, off, rfl, g1, g2, by simpa [World.setCell] using g3, fun j hj => ?_, fun ho j hj => ?_⟩⟩
    · rw [World.cell?_setCell_other _ _ _ _ (by intro h; simp at h; omega)]; exact g4 j hj
    · rw [World.frozen?_setCell]; exact g5 ho j hj

section
variable {w : World} {lo hi : Nat} {an : Option Addr} {nn cn : Nat} {ab : Option Addr} {nb cb : Nat} {K : Nat → KS} {f : Fo}
/-- a number written into a row of kids -/
theorem FoU.setKid (h : FoU w lo hi an nn cn ab nb cb K f) {i : Nat} (hi' : i < nn) (hk : (K i).2.1 ≠ 0) {b off : Nat} (ha : (K i).1 = some ⟨b, off, none⟩) (q : Nat) (x : Int) : ∃ f' : Fo, FoAt (w.setCell ⟨b, q, none⟩ (.int .i64 x)) false lo hi an nn cn ab nb cb K f' := by
  obtain ⟨s1, s2⟩ := h.sepK i hi' hk
  rw [ha] at s1 s2
  have ks : ∀ j, ∃ zs : List Int, j < nn → RowAt (w.setCell ⟨b, q, none⟩ (.int .i64 x)) true lo hi 1 (K j).1 (K j).2.1 (K j).2.2 (ints zs) := fun j => by
    by_cases hj : j < nn
    · obtain ⟨zs, _, r⟩ := (h.kids j hj).storeInt b q x
      exact ⟨zs, fun _ => r⟩
    · exact ⟨[], fun h' => absurd h' hj⟩
  have hr := h.row.storeOther (p := b) (fun _ e => s1 (by rw [e]; rfl)) q (.int .i64 x)
  have hb := h.blocks.storeOther (p := b) (fun hn e => s2 hn (by rw [e]; rfl)) q (.int .i64 x)
  have hl := h.len
  refine ⟨((List.range nn).map fun j => ((f.1.getD j nd0).1, (f.1.getD j nd0).2.1, (ks j).choose), f.2), ⟨by simp, ?_, fun j hj => ?_, fun hx => by cases hx⟩, hb.weak, fun hx => by cases hx⟩
  · refine RowAt.weak (own := true) ?_
    have e : ncells K ((List.range nn).map fun j => ((f.1.getD j nd0).1, (f.1.getD j nd0).2.1, (ks j).choose)) = ncells K f.1 := by
      unfold ncells
      rw [List.length_map, List.length_range, hl]
      refine flat3_congr fun j hj => ?_
      simp [List.getD, hj]
    rw [e]
    exact hr
  · have e : (((List.range nn).map fun j => ((f.1.getD j nd0).1, (f.1.getD j nd0).2.1, (ks j).choose)).getD j nd0).2.2 = (ks j).choose := by simp [List.getD, hj]
    rw [e]
    exact ((ks j).choose_spec hj).weak
/-- a node's Refs written -/
theorem FoU.setRefs (h : FoU w lo hi an nn cn ab nb cb K f) (hn : nn ≠ 0) {b off : Nat} (ha : an = some ⟨b, off, none⟩) (x : Int) : ∃ f' : Fo, FoAt (w.setCell ⟨b, off, none⟩ (.int .i64 x)) false lo hi an nn cn ab nb cb K f' := by
  subst ha
  have hl := h.len
  have hr := h.row.stored (i := 0) (by omega) (.int .i64 x)
  rw [Nat.add_zero] at hr
  have hk : ∀ j, j < nn → RowAt (w.setCell ⟨b, off, none⟩ (.int .i64 x)) true lo hi 1 (K j).1 (K j).2.1 (K j).2.2 (ints (f.1.getD j nd0).2.2) := fun j hj => (h.kids j hj).storeOther (fun hn' e => (h.sepK j hj hn').1 (by rw [e]; rfl)) _ _
  have hb := h.blocks.storeOther (p := b) (fun hn' e => h.sepB hn hn' (by rw [e]; rfl)) off (.int .i64 x)
  refine ⟨(f.1.set 0 (x, (f.1.getD 0 nd0).2.1, (f.1.getD 0 nd0).2.2), f.2), ⟨by simpa using hl, ?_, fun j hj => ?_, fun hx => by cases hx⟩, hb.weak, fun hx => by cases hx⟩
  · refine RowAt.weak (own := true) ?_
    have e : ncells K (f.1.set 0 (x, (f.1.getD 0 nd0).2.1, (f.1.getD 0 nd0).2.2)) = (ncells K f.1).set 0 (.int .i64 x) := by
      unfold ncells
      have := flat3_one0 (n := f.1.length) (g0 := fun i => .int .i64 (f.1.getD i nd0).1) (g1 := fun i => .bool (f.1.getD i nd0).2.1) (g2 := fun i => ksv (K i)) (i := 0) (.int .i64 x)
      rw [Nat.zero_mul] at this
      rw [this, List.length_set]
      refine flat3_congr fun j hj => ?_
      rw [set_getN _ _ _ _ (by omega)]
      by_cases e : j = 0 <;> simp [e]
    rw [e]
    exact hr
  · have e : ((f.1.set 0 (x, (f.1.getD 0 nd0).2.1, (f.1.getD 0 nd0).2.2)).getD j nd0).2.2 = (f.1.getD j nd0).2.2 := by
      rw [set_getN _ _ _ _ (by omega)]
      by_cases e : j = 0 <;> simp [e]
    rw [e]
    exact (hk j hj).weak
theorem FoU.ref0 (h : FoU w lo hi an nn cn ab nb cb K f) (hn : nn ≠ 0) {b off : Nat} (ha : an = some ⟨b, off, none⟩) : ∃ v, w.cell? ⟨b, off, none⟩ = some v ∧ w.frozen? ⟨b, off, none⟩ = false := by
  subst ha
  obtain ⟨b', off', e, _, _, _, g4, g5⟩ := h.row.cells hn
  cases e
  exact ⟨_, by simpa using g4 0 (by omega), by simpa using g5 rfl 0 (by omega)⟩
theorem FoU.kid0 (h : FoU w lo hi an nn cn ab nb cb K f) {i : Nat} (hi' : i < nn) {q : Nat} (hq : q < (K i).2.1) {b off : Nat} (ha : (K i).1 = some ⟨b, off, none⟩) : ∃ v, w.cell? ⟨b, off + q, none⟩ = some v ∧ w.frozen? ⟨b, off + q, none⟩ = false := by
  obtain ⟨b', off', e, _, _, _, g4, g5⟩ := (h.kids i hi').cells (by omega)
  rw [ha] at e
  cases e
  exact ⟨_, g4 q (by omega), g5 rfl q (by omega)⟩
theorem FoU.third (h : FoU w lo hi an nn cn ab nb cb K f) (hn : nn ≠ 0) (b off : Nat) (ha : an = some ⟨b, off, none⟩) : w.cell? ⟨b, off + 2, none⟩ = some (.slice (K 0).1 (K 0).2.1 (K 0).2.2) := by
  subst ha
  obtain ⟨b', off', e, _, _, _, g4, _⟩ := h.row.cells hn
  cases e
  have hl := h.len
  have := g4 2 (by omega)
  rw [ncells, flat3_get _ _ _ _ _ (by omega)] at this
  simpa [ksv] using this
end
end Go.Proofs.Ytkdaphfmhdkhfaa

/- Chapter 4: what a round of the draw of a forest keeps. -/
namespace Go.Proofs.Ytkdaphfmhdkhfaa
open Go.RowKit

theorem kept_grown {w w' : World} {r : Nat} (h : w.grownBy w' (some r)) : Kept r (r + 1) w w' := ⟨h.os, h.tape, h.output, h.size, fun k hk hd => h.block k hk (by simp; omega)⟩

structure LR (w : World) (bf g : Nat) (wr : World) (an : Option Addr) (nn cn : Nat) (ab : Option Addr) (nb cb : Nat) (K : Nat → KS) (f : Fo) (lo hi rb cr nr : Nat) (rs : List Int) : Prop where
  d0 : wr.cell? ⟨bf, 0, none⟩ = some (.slice an nn cn)
  d1 : wr.cell? ⟨bf, 1, none⟩ = some (.slice ab nb cb)
  e0 : wr.frozen? ⟨bf, 0, none⟩ = false
  e1 : wr.frozen? ⟨bf, 1, none⟩ = false
  R0 : wr.cell? ⟨w.heap.size, 0, none⟩ = some (.slice none 0 0)
  R1 : wr.cell? ⟨w.heap.size, 1, none⟩ = some (.slice none 0 0)
  F0 : wr.frozen? ⟨w.heap.size, 0, none⟩ = false
  F1 : wr.frozen? ⟨w.heap.size, 1, none⟩ = false
  U : FoU wr lo hi an nn cn ab nb cb K f
  hlo : w.heap.size + 1 ≤ lo
  hhi : hi ≤ wr.heap.size
  hd : hi ≤ bf ∨ bf < lo
  ow : wr.ownsRow (w.heap.size + 1) 2 1 (.slice (some ⟨rb, 0, none⟩) nr cr) nr (ints rs)
  rd : rb ≠ bf
  rf : hi ≤ rb ∨ rb < lo
  rg : Right f
  n1 : 1 ≤ nr
  n4 : nr ≤ 4
  bl : w.heap.size < bf
  bh : bf < wr.heap.size
  gl : g < w.heap.size
  KK : Kept g (g + 1) w wr
section
variable {w : World} {bf g : Nat} {wr w' : World} {an : Option Addr} {nn cn : Nat} {ab : Option Addr} {nb cb : Nat} {K : Nat → KS} {f : Fo} {lo hi rb cr nr : Nat} {rs : List Int}
theorem LR.rlt (L : LR w bf g wr an nn cn ab nb cb K f lo hi rb cr nr rs) : w.heap.size + 1 ≤ rb ∧ rb < wr.heap.size := owns_lt L.ow
theorem LR.wl (L : LR w bf g wr an nn cn ab nb cb K f lo hi rb cr nr rs) : w.heap.size < wr.heap.size := Nat.lt_trans L.bl L.bh
theorem LR.below (L : LR w bf g wr an nn cn ab nb cb K f lo hi rb cr nr rs) (A : Below wr.heap.size wr w') : LR w bf g w' an nn cn ab nb cb K f lo hi rb cr nr rs :=
  ⟨cell_later A L.d0, cell_later A L.d1, frozen_later A L.bh L.e0, frozen_later A L.bh L.e1, cell_later A L.R0, cell_later A L.R1, frozen_later A L.wl L.F0, frozen_later A L.wl L.F1, L.U.below A, L.hlo, Nat.le_trans L.hhi A.size, L.hd, owns_below L.ow A, L.rd, L.rf, L.rg, L.n1, L.n4, L.bl, Nat.lt_of_lt_of_le L.bh A.size, L.gl, L.KK.next A⟩
theorem LR.keep (L : LR w bf g wr an nn cn ab nb cb K f lo hi rb cr nr rs) {l u : Nat} (k : Kept l u wr w') (c1 : hi ≤ l ∨ u ≤ lo) (c2 : bf < l ∨ u ≤ bf) (c3 : rb < l ∨ u ≤ rb) (c4 : w.heap.size < l ∨ u ≤ w.heap.size) (KK : Kept g (g + 1) w w') : LR w bf g w' an nn cn ab nb cb K f lo hi rb cr nr rs :=
  ⟨k.cell L.d0 c2, k.cell L.d1 c2, k.frozen L.bh c2 L.e0, k.frozen L.bh c2 L.e1, k.cell L.R0 c4, k.cell L.R1 c4, k.frozen L.wl c4 L.F0, k.frozen L.wl c4 L.F1, L.U.kept k c1, L.hlo, Nat.le_trans L.hhi k.size, L.hd, owns_kept L.ow k (fun b e => by cases e; exact c3), L.rd, L.rf, L.rg, L.n1, L.n4, L.bl, Nat.lt_of_lt_of_le L.bh k.size, L.gl, KK⟩
theorem LR.src (L : LR w bf g wr an nn cn ab nb cb K f lo hi rb cr nr rs) (k : Kept g (g + 1) wr w') : LR w bf g w' an nn cn ab nb cb K f lo hi rb cr nr rs := by
  have h1 := L.hlo
  have h2 := L.gl
  have h3 := L.bl
  have h4 := L.rlt
  exact L.keep k (by omega) (by omega) (by omega) (by omega) (L.KK.trans k)
theorem LR.far (L : LR w bf g wr an nn cn ab nb cb K f lo hi rb cr nr rs) {z : Nat} (k : Kept z (z + 1) wr w') (hz : hi ≤ z) (hb : bf < z) (hr : rb < z) : LR w bf g w' an nn cn ab nb cb K f lo hi rb cr nr rs := by
  have h3 := L.bl
  have h5 := L.wl
  exact L.keep k (by omega) (by omega) (by omega) (by omega) (L.KK.low (k.below _ (by omega) (by omega)))
theorem LR.put (L : LR w bf g wr an nn cn ab nb cb K f lo hi rb cr nr rs) {an' : Option Addr} {nn' cn' : Nat} {ab' : Option Addr} {nb' cb' : Nat} {K' : Nat → KS} {f' : Fo} {lo' hi' : Nat} (U : FoU wr lo' hi' an' nn' cn' ab' nb' cb' K' f') (h1 : bf < lo') (h2 : hi' ≤ wr.heap.size) (h3 : rb < lo') (R : Right f') :
    LR w bf g ((wr.setCell ⟨bf, 0, none⟩ (.slice an' nn' cn')).setCell ⟨bf, 1, none⟩ (.slice ab' nb' cb')) an' nn' cn' ab' nb' cb' K' f' lo' hi' rb cr nr rs := by
  have k : Kept bf (bf + 1) wr ((wr.setCell ⟨bf, 0, none⟩ (.slice an' nn' cn')).setCell ⟨bf, 1, none⟩ (.slice ab' nb' cb')) := by refine Kept.setCell (Kept.setCell (Kept.refl _ _ _) ?_ ?_ _) ?_ ?_ _ <;> simp
  have b1 := L.bl
  have b2 := L.rd
  have b3 := L.wl
  have o1 : (wr.setCell ⟨bf, 0, none⟩ (.slice an' nn' cn')).cell? ⟨bf, 1, none⟩ = some (.slice ab nb cb) := (World.cell?_setCell_other _ _ _ _ (by simp)).trans L.d1
  refine ⟨(World.cell?_setCell_other _ _ _ _ (by simp)).trans (World.cell?_setCell_same _ _ _ L.d0), World.cell?_setCell_same _ _ _ o1, by simpa using L.e0, by simpa using L.e1, k.cell L.R0 (Or.inl b1), k.cell L.R1 (Or.inl b1), k.frozen L.wl (Or.inl b1) L.F0, k.frozen L.wl (Or.inl b1) L.F1, U.kept k (Or.inr h1), Nat.le_trans b1 (Nat.le_of_lt h1), Nat.le_trans h2 k.size, Or.inr h1, owns_kept L.ow k (fun b e => by cases e; exact Nat.lt_or_gt_of_ne b2), L.rd, Or.inr h3, R, L.n1, L.n4, L.bl, Nat.lt_of_lt_of_le L.bh k.size, L.gl, L.KK.low (k.below _ (by omega) (by omega))⟩
theorem LR.root (L : LR w bf g wr an nn cn ab nb cb K f lo hi rb cr nr rs) (i : Nat) (x : Int) : LR w bf g (wr.setCell ⟨rb, i, none⟩ (.int .i64 x)) an nn cn ab nb cb K f lo hi rb cr nr (rs.set i x) := by
  have k : Kept rb (rb + 1) wr (wr.setCell ⟨rb, i, none⟩ (.int .i64 x)) := by refine Kept.setCell (Kept.refl _ _ _) ?_ ?_ _ <;> simp
  have s := (L.ow.stored i (.int .i64 x)).1
  rw [show (ints rs).set i (.int .i64 x) = ints (rs.set i x) by simp [ints, List.map_set]] at s
  have b1 := L.bl
  have b2 := L.rd
  have b3 := L.rlt
  have b4 := L.rf
  have c2 : bf < rb ∨ rb + 1 ≤ bf := by omega
  have c4 : w.heap.size < rb ∨ rb + 1 ≤ w.heap.size := by omega
  exact ⟨k.cell L.d0 c2, k.cell L.d1 c2, k.frozen L.bh c2 L.e0, k.frozen L.bh c2 L.e1, k.cell L.R0 c4, k.cell L.R1 c4, k.frozen L.wl c4 L.F0, k.frozen L.wl c4 L.F1, L.U.kept k (by omega), L.hlo, Nat.le_trans L.hhi k.size, L.hd, s, L.rd, L.rf, L.rg, L.n1, L.n4, L.bl, Nat.lt_of_lt_of_le L.bh k.size, L.gl, L.KK.low (k.below _ (by omega) (by omega))⟩
theorem LR.app (L : LR w bf g wr an nn cn ab nb cb K f lo hi rb cr nr rs) {x : Int} {r cap : Nat} (ow : w'.ownsRow (w.heap.size + 1) 2 1 (.slice (some ⟨r, 0, none⟩) (nr + 1) cap) (nr + 1) (ints rs ++ [.int .i64 x])) (gr : wr.grownBy w' (some rb)) (hat : some rb = some r ∨ r = wr.heap.size) (h4 : nr < 4) :
    LR w bf g w' an nn cn ab nb cb K f lo hi r cap (nr + 1) (rs ++ [x]) := by
  have k := kept_grown gr
  have b1 := L.bl
  have b2 := L.rd
  have b3 := L.rlt
  have b4 := L.rf
  have b5 := L.bh
  have b6 := L.hhi
  have c2 : bf < rb ∨ rb + 1 ≤ bf := by omega
  have c4 : w.heap.size < rb ∨ rb + 1 ≤ w.heap.size := by omega
  have hr : r = rb ∨ r = wr.heap.size := hat.imp (fun e => by cases e; rfl) id
  exact ⟨k.cell L.d0 c2, k.cell L.d1 c2, k.frozen L.bh c2 L.e0, k.frozen L.bh c2 L.e1, k.cell L.R0 c4, k.cell L.R1 c4, k.frozen L.wl c4 L.F0, k.frozen L.wl c4 L.F1, L.U.kept k (by omega), L.hlo, Nat.le_trans L.hhi k.size, L.hd, by simpa [ints] using ow, by omega, by omega, L.rg, by omega, by omega, L.bl, Nat.lt_of_lt_of_le L.bh k.size, L.gl, L.KK.low (k.below _ (by omega) (by omega))⟩
theorem LR.cell (L : LR w bf g wr an nn cn ab nb cb K f lo hi rb cr nr rs) {i : Nat} (hi' : i < nr) : ∃ root : Int, wr.cell? ⟨rb, i, none⟩ = some (.int .i64 root) ∧ wr.frozen? ⟨rb, i, none⟩ = false := by
  obtain ⟨_, _, e, R⟩ := RowAt.of_owned L.ow
  cases e
  obtain ⟨_, _, e, _, _, _, c, fz⟩ := R.int hi'
  cases e
  exact ⟨_, by simpa using c, by simpa using fz rfl⟩
theorem LR.kids (L : LR w bf g wr an nn cn ab nb cb K f lo hi rb cr nr rs) (i : Nat) (h : i < nn) : (K i).2.1 = 0 ∨ (K i).2.1 = 4 := by
  have hl := (L.U.kids i h).nInts
  have ok := L.rg.inv.nd i
  by_cases h0 : (nodeOf f i).1 = 0
  · have := ok.z h0
    left
    rw [← hl, show (f.1.getD i nd0) = nodeOf f i from rfl, this]
    rfl
  · right
    rw [← hl]
    exact ok.kl h0
end
theorem box4 {W : World} {b : Nat} {u0 u1 u2 u3 : Value} (v0 v1 v2 v3 : Value) (h0 : W.cell? ⟨b, 0, none⟩ = some u0) (h1 : W.cell? ⟨b, 1, none⟩ = some u1) (h2 : W.cell? ⟨b, 2, none⟩ = some u2) (h3 : W.cell? ⟨b, 3, none⟩ = some u3) :
    ((((W.setCell ⟨b, 0, none⟩ v0).setCell ⟨b, 1, none⟩ v1).setCell ⟨b, 2, none⟩ v2).setCell ⟨b, 3, none⟩ v3).cell? ⟨b, 0, none⟩ = some v0 ∧ ((((W.setCell ⟨b, 0, none⟩ v0).setCell ⟨b, 1, none⟩ v1).setCell ⟨b, 2, none⟩ v2).setCell ⟨b, 3, none⟩ v3).cell? ⟨b, 1, none⟩ = some v1 ∧ ((((W.setCell ⟨b, 0, none⟩ v0).setCell ⟨b, 1, none⟩ v1).setCell ⟨b, 2, none⟩ v2).setCell ⟨b, 3, none⟩ v3).cell? ⟨b, 2, none⟩ = some v2 ∧ ((((W.setCell ⟨b, 0, none⟩ v0).setCell ⟨b, 1, none⟩ v1).setCell ⟨b, 2, none⟩ v2).setCell ⟨b, 3, none⟩ v3).cell? ⟨b, 3, none⟩ = some v3 := by
  have o : ∀ (X : World) (i j : Nat) (v : Value), i ≠ j → (X.setCell ⟨b, i, none⟩ v).cell? ⟨b, j, none⟩ = X.cell? ⟨b, j, none⟩ := fun X i j v hij => World.cell?_setCell_other _ _ _ _ (by intro e; injection e with _ e; exact hij e)
  refine ⟨?_, ?_, ?_, ?_⟩
  · rw [o _ 3 0 _ (by decide), o _ 2 0 _ (by decide), o _ 1 0 _ (by decide)]; exact World.cell?_setCell_same _ _ _ h0
  · rw [o _ 3 1 _ (by decide), o _ 2 1 _ (by decide)]; exact World.cell?_setCell_same _ _ _ ((o _ 0 1 _ (by decide)).trans h1)
  · rw [o _ 3 2 _ (by decide)]; exact World.cell?_setCell_same _ _ _ ((o _ 1 2 _ (by decide)).trans ((o _ 0 2 _ (by decide)).trans h2))
  · exact World.cell?_setCell_same _ _ _ ((o _ 2 3 _ (by decide)).trans ((o _ 1 3 _ (by decide)).trans ((o _ 0 3 _ (by decide)).trans h3)))
theorem share_ok {f : Fo} {root : Int} (h : shareTCode f root = 0) : Right (shareFo f root) := by
  rw [shareFo, h]; exact (share_right h).2.1
theorem drop_ok {f : Fo} {root : Int} (h : treeCode f root 0 = 0) : Right (dropFo f root) := by
  rw [dropFo, h]; exact drop_right h
theorem set_ok {f : Fo} {root at' x : Int} (h : setTCode f root at' x = 0) : Right (setFo f root at' x) := by
  rw [setFo, h]; obtain ⟨_, _, _, _, _, _, R⟩ := set_place h; exact R
theorem clear_ok {f : Fo} {root at' : Int} (h : clearTCode f root at' = 0) : Right (clearFo f root at') := by
  rw [clearFo, h]; exact (clear_place h).2.2.2

end Go.Proofs.Ytkdaphfmhdkhfaa

/- Chapter 4: how a right forest and its roots are drawn. -/
namespace Go.Proofs.Ytkdaphfmhdkhfaa
open Go.RowKit

set_option maxRecDepth 20000 in
set_option maxHeartbeats 4000000 in
theorem l4Right_any (g p : Nat) (ac : Option Addr) (nc cc : Nat) (bs : List Nat) (w : World) (h : SB w g p ac nc cc bs) (hp : p ≤ 300) :
    Calls Try.prog 271 #[.pointer (some ⟨g, 0, none⟩)] w fun e w' => ∃ an nn cn ab nb cb K f ar nr cr rs p', e = .returned (.tuple #[.agg #[.slice an nn cn, .slice ab nb cb], .slice ar nr cr]) ∧ FoU w' w.heap.size w'.heap.size an nn cn ab nb cb K f ∧ nn ≤ 60 ∧ nb ≤ 24 ∧ (∀ i, i < nn → (K i).2.1 = 0 ∨ (K i).2.1 = 4) ∧ RowAt w' true w.heap.size w'.heap.size 1 ar nr cr (ints rs) ∧ 1 ≤ nr ∧ nr ≤ 4 ∧ p' ≤ p + 200 ∧ SB w' g p' ac nc cc bs ∧ Kept g (g + 1) w w' := by
  have A0 : Below w.heap.size w (w.alloc (.cells #[.slice none 0 0, .slice none 0 0] 60)) := (Below.refl _ _).alloc (Nat.le_refl _) _
  have z0 : (w.alloc (.cells #[.slice none 0 0, .slice none 0 0] 60)).heap.size = w.heap.size + 1 := by simp
  have hg := h.lt
  obtain ⟨i0, hi0, hz0, hz1, hz2⟩ := info_parts Try.info2'
  go_enter Try.func271, Try.ntmps271
  go_wp2_with fail
  refine (next_sb (h.below A0) 17 rfl (by omega) (by omega) (by omega)).mono ?_
  rintro e w1 ⟨v, hv, rfl, S1, K1, z1⟩
  have gr : g + 1 ≤ w.heap.size := hg
  have hw : IntKind.i64.wrap (8 + (v : Int)) = 8 + (v : Int) := wrapI_same _ (by omega)
  have R0 : w1.cell? ⟨w.heap.size, 0, none⟩ = some (.slice none 0 0) := K1.cell (by simp) (Or.inr gr)
  have R1 : w1.cell? ⟨w.heap.size, 1, none⟩ = some (.slice none 0 0) := K1.cell (by simp) (Or.inr gr)
  have F0 : w1.frozen? ⟨w.heap.size, 0, none⟩ = false := K1.frozen (by simp) (Or.inr gr) (by simp)
  have F1 : w1.frozen? ⟨w.heap.size, 1, none⟩ = false := K1.frozen (by simp) (Or.inr gr) (by simp)
  have KK : Kept g (g + 1) w w1 := (Kept.of_below A0).trans K1
  have wl : w.heap.size < w1.heap.size := by omega
  clear A0 K1
  go_wp2_with fail
  refine (specNewF_u (8 + (v : Int)) w1 0 (-1) (newFoList (8 + (v : Int))) (if_pos ⟨by omega, by omega⟩) (if_pos (if_pos ⟨by omega, by omega⟩)) rfl).mono ?_
  rintro e w2 ⟨an, nn, cn, ab, nb, cb, K, rfl, U, B2⟩
  have hfl : ∀ W : World, (Instr.field 64 (.agg #[.int .i64 0, .int .i64 (-1), .slice an nn cn, .slice ab nb cb]) 2).run Try.prog W = .ok (.agg #[.slice an nn cn, .slice ab nb cb]) W := by intro W; kernel_rfl
  have rg : Right (newFoList (8 + (v : Int))) := by
    have e : (8 : Int) + (v : Int) = ((8 + v : Nat) : Int) := by omega
    rw [e]
    exact right_of (new_right (by omega))
  generalize newFoList (8 + (v : Int)) = f at U rg
  have s2 := B2.size
  have AA : Below w2.heap.size w2 ((w2.alloc (.cells #[.slice an nn cn, .slice ab nb cb] 60)).alloc (.cells #[.int .i64 (-1)] 2)) := ((Below.refl _ _).alloc (Nat.le_refl _) _).alloc (by simp) _
  have AB : Below (w2.alloc (.cells #[.slice an nn cn, .slice ab nb cb] 60)).heap.size (w2.alloc (.cells #[.slice an nn cn, .slice ab nb cb] 60)) ((w2.alloc (.cells #[.slice an nn cn, .slice ab nb cb] 60)).alloc (.cells #[.int .i64 (-1)] 2)) := (Below.refl _ _).alloc (Nat.le_refl _) _
  have L : LR w w2.heap.size g ((w2.alloc (.cells #[.slice an nn cn, .slice ab nb cb] 60)).alloc (.cells #[.int .i64 (-1)] 2)) an nn cn ab nb cb K f w1.heap.size w2.heap.size (w2.heap.size + 1) 1 1 [-1] := by
    have ow := World.ownsRow_lit (e := 2) (size := 1) (w2.alloc (.cells #[.slice an nn cn, .slice ab nb cb] 60)) #[.int .i64 (-1)] 1 (base := w.heap.size + 1) (by simp; omega) (by unfold maxLen; omega) rfl
    have ez : (w2.alloc (.cells #[.slice an nn cn, .slice ab nb cb] 60)).heap.size = w2.heap.size + 1 := by simp
    rw [ez] at ow
    exact ⟨cell_later AB (by simp), cell_later AB (by simp), frozen_later AB (by simp) (by simp), frozen_later AB (by simp) (by simp), cell_later AA (cell_later B2 R0), cell_later AA (cell_later B2 R1), frozen_later AA (by omega) (frozen_later B2 wl F0), frozen_later AA (by omega) (frozen_later B2 wl F1), U.below AA, by omega, AA.size, Or.inl (Nat.le_refl _), ow, by omega, Or.inl (by omega), rg, Nat.le_refl _, by omega, by omega, by simp; omega, hg, (KK.next B2).next AA⟩
  have S2 := (S1.below B2).below AA
  clear AA AB R0 R1 F0 F1 KK B2 U rg S1 z1
  go_wp2_with fail
  refine (next_sb S2 24 rfl (by omega) (by omega) (by omega)).mono ?_
  rintro e w3 ⟨n, hn, rfl, S3, K3, z3⟩
  replace L := L.src K3
  clear K3 z3 S2
  obtain ⟨bf, hbf⟩ : ∃ bf, w2.heap.size = bf := ⟨_, rfl⟩
  rw [hbf] at L
  try rw [hbf]
  clear hbf
  go_wp2
  go_loopw [5, 6] (fun u i wr => ∃ (j q : Nat) (an : Option Addr) (nn cn : Nat) (ab : Option Addr) (nb cb : Nat) (K : Nat → KS) (f : Fo) (lo hi rb cr nr : Nat) (rs : List Int), i = .int .i64 j ∧ j ≤ 23 ∧ q + 4 * j ≤ p + 94 ∧ u = .slice (some ⟨rb, 0, none⟩) nr cr ∧ LR w bf g wr an nn cn ab nb cb K f lo hi rb cr nr rs ∧ SrcAt wr g q ac nc cc) (fun _ i _ => (intOf i).toNat)
  case atStart => exact ⟨n, p + 1 + 1, _, _, _, _, _, _, _, _, _, _, _, _, _, _, rfl, by omega, by omega, rfl, L, S3.src⟩
  case round =>
    clear L S3
    obtain ⟨j, q, an, nn, cn, ab, nb, cb, K, f, lo, hi, rb, cr, nr, rs, rfl, hj, hq, rfl, L, S⟩ := hrel
    have hsw := L.KK.size
    by_cases hj0 : j = 0
    · subst hj0
      have d0 := L.d0
      have d1 := L.d1
      have R0 := L.R0
      have R1 := L.R1
      have F0 := L.F0
      have F1 := L.F1
      have K7 : Kept w.heap.size (w.heap.size + 1) wr ((wr.setCell ⟨w.heap.size, 0, none⟩ (.slice an nn cn)).setCell ⟨w.heap.size, 1, none⟩ (.slice ab nb cb)) := by refine Kept.setCell (Kept.setCell (Kept.refl _ _ _) ?_ ?_ _) ?_ ?_ _ <;> simp
      have hs := K7.size
      have b1 := L.rlt
      have b2 := L.hlo
      have b3 := L.hhi
      have b4 := L.n1
      have b5 := L.n4
      have U := L.U.kept K7 (Or.inr b2)
      have hnn := U.len
      have hnb := U.blocks.nPairs
      have hi1 := L.rg.inv.nn
      have hi2 := L.rg.inv.nb
      have HK : Hid _ := L.kids
      obtain ⟨_, _, e', RR⟩ := RowAt.of_owned L.ow
      cases e'
      replace RR := RR.kept K7 (Or.inr (Nat.le_refl _))
      have K9 : Kept g (g + 1) w ((wr.setCell ⟨w.heap.size, 0, none⟩ (.slice an nn cn)).setCell ⟨w.heap.size, 1, none⟩ (.slice ab nb cb)) := L.KK.low (K7.below _ (Nat.le_refl _) hsw)
      have s9 := S.kept K7 (Or.inl (by omega))
      clear L
      go_wp2
      refine bodyPost_ret (v := .tuple #[.agg #[.slice an nn cn, .slice ab nb cb], .slice (some ⟨rb, 0, none⟩) nr cr]) (by simp [results, Try.results271, go_sem, R0, R1]) rfl ?_
      exact ⟨an, nn, cn, ab, nb, cb, K, f, _, nr, cr, rs, q, rfl, U.widen (by omega) (by omega), by omega, by omega, HK.out, RR.widen (by omega) (by omega), b4, b5, by omega, h.move K9 s9, K9⟩
    have hj1 : (0 : Int) < (j : Int) := by omega
    have hwj : IntKind.i64.wrap ((j : Int) - 1) = (j : Int) - 1 := wrapI_same _ (by omega)
    have b4 := L.n1
    have b5 := L.n4
    have D := h.move L.KK S
    go_wp2_with fail
    refine (next_sb D nr rfl (by omega) (by omega) (by omega)).mono ?_
    rintro e w4 ⟨i, hi', rfl, S4, K4, z4⟩
    replace L := L.src K4
    clear K4 z4 D S hsw
    have hlt : (i : Int) < (nr : Int) := by omega
    have hnl : ¬ (i : Int) < 0 := by omega
    have A : Below w4.heap.size w4 (w4.alloc (.cells #[.int .i64 0, .int .i64 0, .slice none 0 0, .slice none 0 0] 64)) := (Below.refl _ _).alloc (Nat.le_refl _) _
    have z0 : (w4.alloc (.cells #[.int .i64 0, .int .i64 0, .slice none 0 0, .slice none 0 0] 64)).cell? ⟨w4.heap.size, 0, none⟩ = some (.int .i64 0) := by simp
    have z1 : (w4.alloc (.cells #[.int .i64 0, .int .i64 0, .slice none 0 0, .slice none 0 0] 64)).cell? ⟨w4.heap.size, 1, none⟩ = some (.int .i64 0) := by simp
    have z2 : (w4.alloc (.cells #[.int .i64 0, .int .i64 0, .slice none 0 0, .slice none 0 0] 64)).cell? ⟨w4.heap.size, 2, none⟩ = some (.slice none 0 0) := by simp
    have z3 : (w4.alloc (.cells #[.int .i64 0, .int .i64 0, .slice none 0 0, .slice none 0 0] 64)).cell? ⟨w4.heap.size, 3, none⟩ = some (.slice none 0 0) := by simp
    have y0 : (w4.alloc (.cells #[.int .i64 0, .int .i64 0, .slice none 0 0, .slice none 0 0] 64)).frozen? ⟨w4.heap.size, 0, none⟩ = false := by simp
    have y1 : (w4.alloc (.cells #[.int .i64 0, .int .i64 0, .slice none 0 0, .slice none 0 0] 64)).frozen? ⟨w4.heap.size, 1, none⟩ = false := by simp
    have y2 : (w4.alloc (.cells #[.int .i64 0, .int .i64 0, .slice none 0 0, .slice none 0 0] 64)).frozen? ⟨w4.heap.size, 2, none⟩ = false := by simp
    have y3 : (w4.alloc (.cells #[.int .i64 0, .int .i64 0, .slice none 0 0, .slice none 0 0] 64)).frozen? ⟨w4.heap.size, 3, none⟩ = false := by simp
    have zl : w4.heap.size < (w4.alloc (.cells #[.int .i64 0, .int .i64 0, .slice none 0 0, .slice none 0 0] 64)).heap.size := by simp
    have q1 := L.hhi
    have q2 := L.bh
    have q3 := L.rlt.2
    have S5 := S4.below A
    replace L := L.below A
    clear A S4
    obtain ⟨rz, hrz⟩ : ∃ rz, w4.heap.size = rz := ⟨_, rfl⟩
    go_wp2_with fail
    refine (next_sb S5 7 rfl (by omega) (by omega) (by omega)).mono ?_
    rintro e w5 ⟨sw, hsw, rfl, S6, K5, zz⟩
    have gz : g + 1 ≤ w4.heap.size := by have := L.gl; have := L.bl; omega
    replace z0 := K5.cell z0 (Or.inr gz)
    replace z1 := K5.cell z1 (Or.inr gz)
    replace z2 := K5.cell z2 (Or.inr gz)
    replace z3 := K5.cell z3 (Or.inr gz)
    replace y0 := K5.frozen zl (Or.inr gz) y0
    replace y1 := K5.frozen zl (Or.inr gz) y1
    replace y2 := K5.frozen zl (Or.inr gz) y2
    replace y3 := K5.frozen zl (Or.inr gz) y3
    replace zl := Nat.lt_of_lt_of_le zl K5.size
    replace L := L.src K5
    clear K5 zz S5
    rw [hrz] at z0 z1 z2 z3 y0 y1 y2 y3 zl q1 q2 q3 gz
    clear hrz
    by_cases s0 : sw = 0
    · subst s0
      by_cases h4 : nr < 4
      · have h4' : (nr : Int) < 4 := by omega
        obtain ⟨root, rc, _⟩ := L.cell hi'
        have d0 := L.d0
        have d1 := L.d1
        have gx : g + 1 ≤ rb := by have := L.gl; have := L.rlt; omega
        go_wp2_with fail
        have DD : Below w5.heap.size w5 w5.drew := (Below.refl _ _).drew
        have SA := S6.below DD
        replace z0 := cell_later DD z0
        replace z1 := cell_later DD z1
        replace z2 := cell_later DD z2
        replace z3 := cell_later DD z3
        replace y0 := frozen_later DD zl y0
        replace y1 := frozen_later DD zl y1
        replace y2 := frozen_later DD zl y2
        replace y3 := frozen_later DD zl y3
        replace zl := Nat.lt_of_lt_of_le zl DD.size
        replace L := L.below DD
        replace d0 := L.d0
        replace d1 := L.d1
        replace rc := cell_later DD rc
        clear DD S6
        have hsz : ∀ (W : World) (v0 v1 v2 v3 : Value) (b i : Nat), b ≠ rz → ((((W.setCell ⟨rz, 0, none⟩ v0).setCell ⟨rz, 1, none⟩ v1).setCell ⟨rz, 2, none⟩ v2).setCell ⟨rz, 3, none⟩ v3).cell? ⟨b, i, none⟩ = W.cell? ⟨b, i, none⟩ := fun W v0 v1 v2 v3 b i hb => by
          have hn : ∀ k, (⟨rz, k, none⟩ : Addr) ≠ ⟨b, i, none⟩ := fun k e => hb (by injection e with e _; exact e.symm)
          rw [World.cell?_setCell_other _ _ _ _ (hn _), World.cell?_setCell_other _ _ _ _ (hn _), World.cell?_setCell_other _ _ _ _ (hn _), World.cell?_setCell_other _ _ _ _ (hn _)]
        have nb1 : bf ≠ rz := by omega
        have nb2 : rb ≠ rz := by omega
        go_region_held3 (fun w' => w'.cell? ⟨bf, 0, none⟩ = some (.slice an nn cn) ∧ w'.cell? ⟨bf, 1, none⟩ = some (.slice ab nb cb) ∧ w'.cell? ⟨rb, i, none⟩ = some (.int .i64 root)) (first | exact ⟨d0, d1, rc⟩ | exact ⟨(hsz _ _ _ _ _ _ _ nb1).trans d0, (hsz _ _ _ _ _ _ _ nb1).trans d1, (hsz _ _ _ _ _ _ _ nb2).trans rc⟩)
          (first | (go_at_call 57; (with_reducible refine (specShareT_u an nn cn ab nb cb K f w5.drew L.U.fo (by have := L.U.len; have := L.rg.inv.nn; omega) (by have := L.U.blocks.nPairs; have := L.rg.inv.nb; omega) (fun k hk => by rcases L.kids k hk with e | e <;> omega) root _ _ _ rfl rfl rfl).mono ?_); rintro e w6 ⟨an', nn', cn', ab', nb', cb', K', rfl, U', B'⟩; have sB := B'.size; have zq := zl; have SB' := SA.below B'; replace z0 := cell_later B' z0; replace z1 := cell_later B' z1; replace z2 := cell_later B' z2; replace z3 := cell_later B' z3; replace y0 := frozen_later B' zl y0; replace y1 := frozen_later B' zl y1; replace y2 := frozen_later B' zl y2; replace y3 := frozen_later B' zl y3; replace zl := Nat.lt_of_lt_of_le zl B'.size; replace L := L.below B'; replace d0 := L.d0; replace d1 := L.d1; replace rc := cell_later B' rc; clear B'))
        have okR : Hid (shareTCode f root = 0 → Right (shareFo f root)) := share_ok
        generalize atIf (shareTCode f root) root = rt at *
        generalize shareFo f root = f' at *
        generalize shareTCode f root = cd at *
        skip
        have KZ : Kept rz (rz + 1) w6 ((((w6.setCell ⟨rz, 0, none⟩ (.int .i64 cd)).setCell ⟨rz, 1, none⟩ (.int .i64 rt)).setCell ⟨rz, 2, none⟩ (.slice an' nn' cn')).setCell ⟨rz, 3, none⟩ (.slice ab' nb' cb')) := by refine Kept.setCell (Kept.setCell (Kept.setCell (Kept.setCell (Kept.refl _ _ _) ?_ ?_ _) ?_ ?_ _) ?_ ?_ _) ?_ ?_ _ <;> simp
        obtain ⟨t0, t1, t2, t3⟩ := box4 (.int .i64 cd) (.int .i64 rt) (.slice an' nn' cn') (.slice ab' nb' cb') z0 z1 z2 z3
        have SS := SB'.src.kept KZ (Or.inl (by omega))
        replace U' := U'.kept KZ (Or.inr (by omega))
        replace L := L.far KZ (by omega) (by omega) (by omega)
        have sz := KZ.size
        obtain ⟨W7, hW7⟩ : ∃ W, W = ((((w6.setCell ⟨rz, 0, none⟩ (.int .i64 cd)).setCell ⟨rz, 1, none⟩ (.int .i64 rt)).setCell ⟨rz, 2, none⟩ (.slice an' nn' cn')).setCell ⟨rz, 3, none⟩ (.slice ab' nb' cb')) := ⟨_, rfl⟩
        rw [← hW7] at t0 t1 t2 t3 SS U' L sz
        rw [← hW7]
        clear hW7 z0 z1 z2 z3 y0 y1 y2 y3 d0 d1 rc KZ SB' hsz SA
        have d0 := L.d0
        have d1 := L.d1
        have e0 := L.e0
        have e1 := L.e1
        by_cases hc : cd = 0
        · subst hc
          have RR := okR.out rfl
          replace L := L.put U' (by omega) (by omega) (by omega) RR
          have kp : Kept bf (bf + 1) W7 ((W7.setCell ⟨bf, 0, none⟩ (.slice an' nn' cn')).setCell ⟨bf, 1, none⟩ (.slice ab' nb' cb')) := by refine Kept.setCell (Kept.setCell (Kept.refl _ _ _) ?_ ?_ _) ?_ ?_ _ <;> simp
          replace SS := SS.kept kp (Or.inl (by have := L.gl; have := L.bl; omega))
          have t1' := kp.cell t1 (Or.inr (by omega))
          have hZ : ((W7.setCell ⟨bf, 0, none⟩ (.slice an' nn' cn')).setCell ⟨bf, 1, none⟩ (.slice ab' nb' cb')).heap.size = W7.heap.size := by simp
          have AX : Below ((W7.setCell ⟨bf, 0, none⟩ (.slice an' nn' cn')).setCell ⟨bf, 1, none⟩ (.slice ab' nb' cb')).heap.size ((W7.setCell ⟨bf, 0, none⟩ (.slice an' nn' cn')).setCell ⟨bf, 1, none⟩ (.slice ab' nb' cb')) (((W7.setCell ⟨bf, 0, none⟩ (.slice an' nn' cn')).setCell ⟨bf, 1, none⟩ (.slice ab' nb' cb')).alloc (.cells #[.int .i64 rt] 2)) := (Below.refl _ _).alloc (Nat.le_refl _) _
          have L2 := L.below AX
          have S2 := SS.below AX
          have ow := L2.ow
          have rl := row_lit ((W7.setCell ⟨bf, 0, none⟩ (.slice an' nn' cn')).setCell ⟨bf, 1, none⟩ (.slice ab' nb' cb')) [.int .i64 rt] 2 1 1 rfl
          have hX : (((W7.setCell ⟨bf, 0, none⟩ (.slice an' nn' cn')).setCell ⟨bf, 1, none⟩ (.slice ab' nb' cb')).alloc (.cells #[.int .i64 rt] 2)).heap.size = ((W7.setCell ⟨bf, 0, none⟩ (.slice an' nn' cn')).setCell ⟨bf, 1, none⟩ (.slice ab' nb' cb')).heap.size + 1 := by simp
          rw [hZ] at rl hX
          go_wp2_with (first | (at_builtin; refine wpList_append_lies _ rfl _ _ 24 rfl (w.heap.size + 1) 2 i0 (.int .i64 0) 1 8 Try.underlying24 hi0 hz0 hz1 hz2 rfl (by decide) _ nr _ rfl ow ⟨W7.heap.size, 0, none⟩ 1 1 [.int .i64 rt] rfl rfl ?c1 ?c2 (by decide) ?c3 ?c4 ?c5 _ rfl ?_))
          case c2 => rfl
          try (case c3 => unfold maxLen; omega)
          try (case c4 => omega)
          try (case c5 => have := L2.wl; omega)
          intro r cap w9 hown hgrow hat hlt9
          have L3 := L2.app hown hgrow (hat.imp (fun e => e) (fun e => by rw [hX]; exact e)) h4
          have S3 := S2.kept (kept_grown (r := rb) hgrow) (Or.inl (by have := L2.gl; have := L2.rlt; omega))
          clear L L2 S2 SS ow rl okR
          go_wp2
          go_roundw
          case rel => exact ⟨j - 1, _, _, _, _, _, _, _, _, _, _, _, _, _, _, _, by rw [show ((j - 1 : Nat) : Int) = (j : Int) - 1 by omega], by omega, by omega, rfl, L3, S3⟩
          case measure => simp [intOf]; omega
        have hc' : (cd == 0) = false := by simp [hc]
        clear okR
        go_wp2
        go_roundw
        case rel => exact ⟨j - 1, _, _, _, _, _, _, _, _, _, _, _, _, _, _, _, by rw [show ((j - 1 : Nat) : Int) = (j : Int) - 1 by omega], by omega, by omega, rfl, L, SS⟩
        case measure => simp [intOf]; omega
      · have h4' : ¬ (nr : Int) < 4 := by omega
        have SS := S6.src
        go_wp2
        go_roundw
        case rel => exact ⟨j - 1, _, _, _, _, _, _, _, _, _, _, _, _, _, _, _, by rw [show ((j - 1 : Nat) : Int) = (j : Int) - 1 by omega], by omega, by omega, rfl, L, SS⟩
        case measure => simp [intOf]; omega
    by_cases s1 : sw = 1
    · subst s1
      obtain ⟨root, rc, _⟩ := L.cell hi'
      have d0 := L.d0
      have d1 := L.d1
      have gx : g + 1 ≤ rb := by have := L.gl; have := L.rlt; omega
      go_wp2_with fail
      have DD : Below w5.heap.size w5 w5.drew := (Below.refl _ _).drew
      have SA := S6.below DD
      replace z0 := cell_later DD z0
      replace z1 := cell_later DD z1
      replace z2 := cell_later DD z2
      replace z3 := cell_later DD z3
      replace y0 := frozen_later DD zl y0
      replace y1 := frozen_later DD zl y1
      replace y2 := frozen_later DD zl y2
      replace y3 := frozen_later DD zl y3
      replace zl := Nat.lt_of_lt_of_le zl DD.size
      replace L := L.below DD
      replace d0 := L.d0
      replace d1 := L.d1
      replace rc := cell_later DD rc
      clear DD S6
      have hsz : ∀ (W : World) (v0 v1 v2 v3 : Value) (b i : Nat), b ≠ rz → ((((W.setCell ⟨rz, 0, none⟩ v0).setCell ⟨rz, 1, none⟩ v1).setCell ⟨rz, 2, none⟩ v2).setCell ⟨rz, 3, none⟩ v3).cell? ⟨b, i, none⟩ = W.cell? ⟨b, i, none⟩ := fun W v0 v1 v2 v3 b i hb => by
        have hn : ∀ k, (⟨rz, k, none⟩ : Addr) ≠ ⟨b, i, none⟩ := fun k e => hb (by injection e with e _; exact e.symm)
        rw [World.cell?_setCell_other _ _ _ _ (hn _), World.cell?_setCell_other _ _ _ _ (hn _), World.cell?_setCell_other _ _ _ _ (hn _), World.cell?_setCell_other _ _ _ _ (hn _)]
      have nb1 : bf ≠ rz := by omega
      have nb2 : rb ≠ rz := by omega
      have H16 : Hid ((16 : Int) = ((16 : Nat) : Int)) := rfl
      go_region_held3 (fun w' => w'.cell? ⟨bf, 0, none⟩ = some (.slice an nn cn) ∧ w'.cell? ⟨bf, 1, none⟩ = some (.slice ab nb cb) ∧ w'.cell? ⟨rb, i, none⟩ = some (.int .i64 root)) (first | exact ⟨d0, d1, rc⟩ | exact ⟨(hsz _ _ _ _ _ _ _ nb1).trans d0, (hsz _ _ _ _ _ _ _ nb1).trans d1, (hsz _ _ _ _ _ _ _ nb2).trans rc⟩)
        (first | (go_at_call 138; (with_reducible refine (next_sb SA 16 H16.out (by omega) (by omega) (by omega)).mono ?_); rintro e wd0 ⟨x0, hx0, rfl, SD0, KD, zD⟩; replace z0 := KD.cell z0 (Or.inr gz); replace z1 := KD.cell z1 (Or.inr gz); replace z2 := KD.cell z2 (Or.inr gz); replace z3 := KD.cell z3 (Or.inr gz); replace y0 := KD.frozen zl (Or.inr gz) y0; replace y1 := KD.frozen zl (Or.inr gz) y1; replace y2 := KD.frozen zl (Or.inr gz) y2; replace y3 := KD.frozen zl (Or.inr gz) y3; replace zl := Nat.lt_of_lt_of_le zl KD.size; replace L := L.src KD; replace d0 := L.d0; replace d1 := L.d1; replace rc := KD.cell rc (Or.inr gx); clear KD zD) | (go_at_call 67; (with_reducible refine (specClearT_u an nn cn ab nb cb K f wd0 L.U.fo (by have := L.U.len; have := L.rg.inv.nn; omega) (by have := L.U.blocks.nPairs; have := L.rg.inv.nb; omega) (fun k hk => by rcases L.kids k hk with e | e <;> omega) root (x0 : Int) _ _ _ rfl rfl rfl).mono ?_); rintro e w6 ⟨an', nn', cn', ab', nb', cb', K', rfl, U', B'⟩; have sB := B'.size; have zq := zl; have SB' := SD0.below B'; replace z0 := cell_later B' z0; replace z1 := cell_later B' z1; replace z2 := cell_later B' z2; replace z3 := cell_later B' z3; replace y0 := frozen_later B' zl y0; replace y1 := frozen_later B' zl y1; replace y2 := frozen_later B' zl y2; replace y3 := frozen_later B' zl y3; replace zl := Nat.lt_of_lt_of_le zl B'.size; replace L := L.below B'; replace d0 := L.d0; replace d1 := L.d1; replace rc := cell_later B' rc; clear B'))
      have okR : Hid (clearTCode f root (x0 : Int) = 0 → Right (clearFo f root (x0 : Int))) := clear_ok
      generalize clearRootT f root (x0 : Int) = rt at *
      generalize clearFo f root (x0 : Int) = f' at *
      generalize clearTCode f root (x0 : Int) = cd at *
      skip
      have KZ : Kept rz (rz + 1) w6 ((((w6.setCell ⟨rz, 0, none⟩ (.int .i64 cd)).setCell ⟨rz, 1, none⟩ (.int .i64 rt)).setCell ⟨rz, 2, none⟩ (.slice an' nn' cn')).setCell ⟨rz, 3, none⟩ (.slice ab' nb' cb')) := by refine Kept.setCell (Kept.setCell (Kept.setCell (Kept.setCell (Kept.refl _ _ _) ?_ ?_ _) ?_ ?_ _) ?_ ?_ _) ?_ ?_ _ <;> simp
      obtain ⟨t0, t1, t2, t3⟩ := box4 (.int .i64 cd) (.int .i64 rt) (.slice an' nn' cn') (.slice ab' nb' cb') z0 z1 z2 z3
      have SS := SB'.src.kept KZ (Or.inl (by omega))
      replace U' := U'.kept KZ (Or.inr (by omega))
      replace L := L.far KZ (by omega) (by omega) (by omega)
      have sz := KZ.size
      obtain ⟨W7, hW7⟩ : ∃ W, W = ((((w6.setCell ⟨rz, 0, none⟩ (.int .i64 cd)).setCell ⟨rz, 1, none⟩ (.int .i64 rt)).setCell ⟨rz, 2, none⟩ (.slice an' nn' cn')).setCell ⟨rz, 3, none⟩ (.slice ab' nb' cb')) := ⟨_, rfl⟩
      rw [← hW7] at t0 t1 t2 t3 SS U' L sz
      rw [← hW7]
      clear hW7 z0 z1 z2 z3 y0 y1 y2 y3 d0 d1 rc KZ SB' hsz SA
      have d0 := L.d0
      have d1 := L.d1
      have e0 := L.e0
      have e1 := L.e1
      by_cases hc : cd = 0
      · subst hc
        have RR := okR.out rfl
        replace L := L.put U' (by omega) (by omega) (by omega) RR
        have kp : Kept bf (bf + 1) W7 ((W7.setCell ⟨bf, 0, none⟩ (.slice an' nn' cn')).setCell ⟨bf, 1, none⟩ (.slice ab' nb' cb')) := by refine Kept.setCell (Kept.setCell (Kept.refl _ _ _) ?_ ?_ _) ?_ ?_ _ <;> simp
        replace SS := SS.kept kp (Or.inl (by have := L.gl; have := L.bl; omega))
        have t1' := kp.cell t1 (Or.inr (by omega))
        have hZ : ((W7.setCell ⟨bf, 0, none⟩ (.slice an' nn' cn')).setCell ⟨bf, 1, none⟩ (.slice ab' nb' cb')).heap.size = W7.heap.size := by simp
        obtain ⟨old, rc, rc'⟩ := L.cell hi'
        have L2 := L.root i rt
        have k2 : Kept rb (rb + 1) ((W7.setCell ⟨bf, 0, none⟩ (.slice an' nn' cn')).setCell ⟨bf, 1, none⟩ (.slice ab' nb' cb')) (((W7.setCell ⟨bf, 0, none⟩ (.slice an' nn' cn')).setCell ⟨bf, 1, none⟩ (.slice ab' nb' cb')).setCell ⟨rb, i, none⟩ (.int .i64 rt)) := by refine Kept.setCell (Kept.refl _ _ _) ?_ ?_ _ <;> simp
        replace SS := SS.kept k2 (Or.inl (by have := L.gl; have := L.rlt; omega))
        clear L okR
        go_wp2
        go_roundw
        case rel => exact ⟨j - 1, _, _, _, _, _, _, _, _, _, _, _, _, _, _, _, by rw [show ((j - 1 : Nat) : Int) = (j : Int) - 1 by omega], by omega, by omega, rfl, L2, SS⟩
        case measure => simp [intOf]; omega
      have hc' : (cd == 0) = false := by simp [hc]
      clear okR
      go_wp2
      go_roundw
      case rel => exact ⟨j - 1, _, _, _, _, _, _, _, _, _, _, _, _, _, _, _, by rw [show ((j - 1 : Nat) : Int) = (j : Int) - 1 by omega], by omega, by omega, rfl, L, SS⟩
      case measure => simp [intOf]; omega
    by_cases s2 : sw = 2
    · subst s2
      go_wp2_with fail
      refine (chance_sb S6 3 rfl (by omega) (by omega) (by omega)).mono ?_
      rintro e w5' ⟨bb, rfl, S6', K5, zz⟩
      replace z0 := K5.cell z0 (Or.inr gz)
      replace z1 := K5.cell z1 (Or.inr gz)
      replace z2 := K5.cell z2 (Or.inr gz)
      replace z3 := K5.cell z3 (Or.inr gz)
      replace y0 := K5.frozen zl (Or.inr gz) y0
      replace y1 := K5.frozen zl (Or.inr gz) y1
      replace y2 := K5.frozen zl (Or.inr gz) y2
      replace y3 := K5.frozen zl (Or.inr gz) y3
      replace zl := Nat.lt_of_lt_of_le zl K5.size
      replace L := L.src K5
      clear K5 zz S6
      rename World => w5
      have S6 := S6'
      clear S6'
      cases bb with
      | false =>
        have SS := S6.src
        go_wp2
        go_roundw
        case rel => exact ⟨j - 1, _, _, _, _, _, _, _, _, _, _, _, _, _, _, _, by rw [show ((j - 1 : Nat) : Int) = (j : Int) - 1 by omega], by omega, by omega, rfl, L, SS⟩
        case measure => simp [intOf]; omega
      | true =>
        obtain ⟨root, rc, _⟩ := L.cell hi'
        have d0 := L.d0
        have d1 := L.d1
        have gx : g + 1 ≤ rb := by have := L.gl; have := L.rlt; omega
        go_wp2_with fail
        have DD : Below w5.heap.size w5 w5.drew := (Below.refl _ _).drew
        have SA := S6.below DD
        replace z0 := cell_later DD z0
        replace z1 := cell_later DD z1
        replace z2 := cell_later DD z2
        replace z3 := cell_later DD z3
        replace y0 := frozen_later DD zl y0
        replace y1 := frozen_later DD zl y1
        replace y2 := frozen_later DD zl y2
        replace y3 := frozen_later DD zl y3
        replace zl := Nat.lt_of_lt_of_le zl DD.size
        replace L := L.below DD
        replace d0 := L.d0
        replace d1 := L.d1
        replace rc := cell_later DD rc
        clear DD S6
        have hsz : ∀ (W : World) (v0 v1 v2 v3 : Value) (b i : Nat), b ≠ rz → ((((W.setCell ⟨rz, 0, none⟩ v0).setCell ⟨rz, 1, none⟩ v1).setCell ⟨rz, 2, none⟩ v2).setCell ⟨rz, 3, none⟩ v3).cell? ⟨b, i, none⟩ = W.cell? ⟨b, i, none⟩ := fun W v0 v1 v2 v3 b i hb => by
          have hn : ∀ k, (⟨rz, k, none⟩ : Addr) ≠ ⟨b, i, none⟩ := fun k e => hb (by injection e with e _; exact e.symm)
          rw [World.cell?_setCell_other _ _ _ _ (hn _), World.cell?_setCell_other _ _ _ _ (hn _), World.cell?_setCell_other _ _ _ _ (hn _), World.cell?_setCell_other _ _ _ _ (hn _)]
        have nb1 : bf ≠ rz := by omega
        have nb2 : rb ≠ rz := by omega
        go_region_held3 (fun w' => w'.cell? ⟨bf, 0, none⟩ = some (.slice an nn cn) ∧ w'.cell? ⟨bf, 1, none⟩ = some (.slice ab nb cb) ∧ w'.cell? ⟨rb, i, none⟩ = some (.int .i64 root)) (first | exact ⟨d0, d1, rc⟩ | exact ⟨(hsz _ _ _ _ _ _ _ nb1).trans d0, (hsz _ _ _ _ _ _ _ nb1).trans d1, (hsz _ _ _ _ _ _ _ nb2).trans rc⟩)
          (first | (go_at_call 119; (with_reducible refine (specDropT_u an nn cn ab nb cb K f w5.drew L.U.fo (by have := L.U.len; have := L.rg.inv.nn; omega) (by have := L.U.blocks.nPairs; have := L.rg.inv.nb; omega) (fun k hk => by rcases L.kids k hk with e | e <;> omega) root _ _ _ rfl rfl rfl).mono ?_); rintro e w6 ⟨an', nn', cn', ab', nb', cb', K', rfl, U', B'⟩; have sB := B'.size; have zq := zl; have SB' := SA.below B'; replace z0 := cell_later B' z0; replace z1 := cell_later B' z1; replace z2 := cell_later B' z2; replace z3 := cell_later B' z3; replace y0 := frozen_later B' zl y0; replace y1 := frozen_later B' zl y1; replace y2 := frozen_later B' zl y2; replace y3 := frozen_later B' zl y3; replace zl := Nat.lt_of_lt_of_le zl B'.size; replace L := L.below B'; replace d0 := L.d0; replace d1 := L.d1; replace rc := cell_later B' rc; clear B'))
        have okR : Hid (treeCode f root 0 = 0 → Right (dropFo f root)) := drop_ok
        generalize dropRoot f root = rt at *
        generalize dropFo f root = f' at *
        generalize treeCode f root 0 = cd at *
        skip
        have KZ : Kept rz (rz + 1) w6 ((((w6.setCell ⟨rz, 0, none⟩ (.int .i64 cd)).setCell ⟨rz, 1, none⟩ (.int .i64 rt)).setCell ⟨rz, 2, none⟩ (.slice an' nn' cn')).setCell ⟨rz, 3, none⟩ (.slice ab' nb' cb')) := by refine Kept.setCell (Kept.setCell (Kept.setCell (Kept.setCell (Kept.refl _ _ _) ?_ ?_ _) ?_ ?_ _) ?_ ?_ _) ?_ ?_ _ <;> simp
        obtain ⟨t0, t1, t2, t3⟩ := box4 (.int .i64 cd) (.int .i64 rt) (.slice an' nn' cn') (.slice ab' nb' cb') z0 z1 z2 z3
        have SS := SB'.src.kept KZ (Or.inl (by omega))
        replace U' := U'.kept KZ (Or.inr (by omega))
        replace L := L.far KZ (by omega) (by omega) (by omega)
        have sz := KZ.size
        obtain ⟨W7, hW7⟩ : ∃ W, W = ((((w6.setCell ⟨rz, 0, none⟩ (.int .i64 cd)).setCell ⟨rz, 1, none⟩ (.int .i64 rt)).setCell ⟨rz, 2, none⟩ (.slice an' nn' cn')).setCell ⟨rz, 3, none⟩ (.slice ab' nb' cb')) := ⟨_, rfl⟩
        rw [← hW7] at t0 t1 t2 t3 SS U' L sz
        rw [← hW7]
        clear hW7 z0 z1 z2 z3 y0 y1 y2 y3 d0 d1 rc KZ SB' hsz SA
        have d0 := L.d0
        have d1 := L.d1
        have e0 := L.e0
        have e1 := L.e1
        by_cases hc : cd = 0
        · subst hc
          have RR := okR.out rfl
          replace L := L.put U' (by omega) (by omega) (by omega) RR
          have kp : Kept bf (bf + 1) W7 ((W7.setCell ⟨bf, 0, none⟩ (.slice an' nn' cn')).setCell ⟨bf, 1, none⟩ (.slice ab' nb' cb')) := by refine Kept.setCell (Kept.setCell (Kept.refl _ _ _) ?_ ?_ _) ?_ ?_ _ <;> simp
          replace SS := SS.kept kp (Or.inl (by have := L.gl; have := L.bl; omega))
          have t1' := kp.cell t1 (Or.inr (by omega))
          have hZ : ((W7.setCell ⟨bf, 0, none⟩ (.slice an' nn' cn')).setCell ⟨bf, 1, none⟩ (.slice ab' nb' cb')).heap.size = W7.heap.size := by simp
          obtain ⟨old, rc, rc'⟩ := L.cell hi'
          have L2 := L.root i rt
          have k2 : Kept rb (rb + 1) ((W7.setCell ⟨bf, 0, none⟩ (.slice an' nn' cn')).setCell ⟨bf, 1, none⟩ (.slice ab' nb' cb')) (((W7.setCell ⟨bf, 0, none⟩ (.slice an' nn' cn')).setCell ⟨bf, 1, none⟩ (.slice ab' nb' cb')).setCell ⟨rb, i, none⟩ (.int .i64 rt)) := by refine Kept.setCell (Kept.refl _ _ _) ?_ ?_ _ <;> simp
          replace SS := SS.kept k2 (Or.inl (by have := L.gl; have := L.rlt; omega))
          clear L okR
          go_wp2
          go_roundw
          case rel => exact ⟨j - 1, _, _, _, _, _, _, _, _, _, _, _, _, _, _, _, by rw [show ((j - 1 : Nat) : Int) = (j : Int) - 1 by omega], by omega, by omega, rfl, L2, SS⟩
          case measure => simp [intOf]; omega
        have hc' : (cd == 0) = false := by simp [hc]
        clear okR
        go_wp2
        go_roundw
        case rel => exact ⟨j - 1, _, _, _, _, _, _, _, _, _, _, _, _, _, _, _, by rw [show ((j - 1 : Nat) : Int) = (j : Int) - 1 by omega], by omega, by omega, rfl, L, SS⟩
        case measure => simp [intOf]; omega
    have n0 : ¬ (sw : Int) = 0 := by omega
    have n1 : ¬ (sw : Int) = 1 := by omega
    have n2 : ¬ (sw : Int) = 2 := by omega
    obtain ⟨root, rc, _⟩ := L.cell hi'
    have d0 := L.d0
    have d1 := L.d1
    have gx : g + 1 ≤ rb := by have := L.gl; have := L.rlt; omega
    go_wp2_with fail
    have DD : Below w5.heap.size w5 w5.drew := (Below.refl _ _).drew
    have SA := S6.below DD
    replace z0 := cell_later DD z0
    replace z1 := cell_later DD z1
    replace z2 := cell_later DD z2
    replace z3 := cell_later DD z3
    replace y0 := frozen_later DD zl y0
    replace y1 := frozen_later DD zl y1
    replace y2 := frozen_later DD zl y2
    replace y3 := frozen_later DD zl y3
    replace zl := Nat.lt_of_lt_of_le zl DD.size
    replace L := L.below DD
    replace d0 := L.d0
    replace d1 := L.d1
    replace rc := cell_later DD rc
    clear DD S6
    have hsz : ∀ (W : World) (v0 v1 v2 v3 : Value) (b i : Nat), b ≠ rz → ((((W.setCell ⟨rz, 0, none⟩ v0).setCell ⟨rz, 1, none⟩ v1).setCell ⟨rz, 2, none⟩ v2).setCell ⟨rz, 3, none⟩ v3).cell? ⟨b, i, none⟩ = W.cell? ⟨b, i, none⟩ := fun W v0 v1 v2 v3 b i hb => by
      have hn : ∀ k, (⟨rz, k, none⟩ : Addr) ≠ ⟨b, i, none⟩ := fun k e => hb (by injection e with e _; exact e.symm)
      rw [World.cell?_setCell_other _ _ _ _ (hn _), World.cell?_setCell_other _ _ _ _ (hn _), World.cell?_setCell_other _ _ _ _ (hn _), World.cell?_setCell_other _ _ _ _ (hn _)]
    have nb1 : bf ≠ rz := by omega
    have nb2 : rb ≠ rz := by omega
    have H16 : Hid ((16 : Int) = ((16 : Nat) : Int)) := rfl
    have H256 : Hid ((256 : Int) = ((256 : Nat) : Int)) := rfl
    go_region_held3 (fun w' => w'.cell? ⟨bf, 0, none⟩ = some (.slice an nn cn) ∧ w'.cell? ⟨bf, 1, none⟩ = some (.slice ab nb cb) ∧ w'.cell? ⟨rb, i, none⟩ = some (.int .i64 root)) (first | exact ⟨d0, d1, rc⟩ | exact ⟨(hsz _ _ _ _ _ _ _ nb1).trans d0, (hsz _ _ _ _ _ _ _ nb1).trans d1, (hsz _ _ _ _ _ _ _ nb2).trans rc⟩)
      (first | (go_at_call 138; (with_reducible refine (next_sb SA 16 H16.out (by omega) (by omega) (by omega)).mono ?_); rintro e wd0 ⟨x0, hx0, rfl, SD0, KD, zD⟩; replace z0 := KD.cell z0 (Or.inr gz); replace z1 := KD.cell z1 (Or.inr gz); replace z2 := KD.cell z2 (Or.inr gz); replace z3 := KD.cell z3 (Or.inr gz); replace y0 := KD.frozen zl (Or.inr gz) y0; replace y1 := KD.frozen zl (Or.inr gz) y1; replace y2 := KD.frozen zl (Or.inr gz) y2; replace y3 := KD.frozen zl (Or.inr gz) y3; replace zl := Nat.lt_of_lt_of_le zl KD.size; replace L := L.src KD; replace d0 := L.d0; replace d1 := L.d1; replace rc := KD.cell rc (Or.inr gx); clear KD zD) | (go_at_call 138; (with_reducible refine (big_sb SD0 256 H256.out (by omega) (by omega) (by omega)).mono ?_); rintro e wd1 ⟨x1, rfl, SD1, KD, zD⟩; replace z0 := KD.cell z0 (Or.inr gz); replace z1 := KD.cell z1 (Or.inr gz); replace z2 := KD.cell z2 (Or.inr gz); replace z3 := KD.cell z3 (Or.inr gz); replace y0 := KD.frozen zl (Or.inr gz) y0; replace y1 := KD.frozen zl (Or.inr gz) y1; replace y2 := KD.frozen zl (Or.inr gz) y2; replace y3 := KD.frozen zl (Or.inr gz) y3; replace zl := Nat.lt_of_lt_of_le zl KD.size; replace L := L.src KD; replace d0 := L.d0; replace d1 := L.d1; replace rc := KD.cell rc (Or.inr gx); clear KD zD) | (go_at_call 59; (with_reducible refine (specSetT_u an nn cn ab nb cb K f wd1 L.U.fo (by have := L.U.len; have := L.rg.inv.nn; omega) (by have := L.U.blocks.nPairs; have := L.rg.inv.nb; omega) (fun k hk => by rcases L.kids k hk with e | e <;> omega) root (x0 : Int) x1 _ _ _ rfl rfl rfl).mono ?_); rintro e w6 ⟨an', nn', cn', ab', nb', cb', K', rfl, U', B'⟩; have sB := B'.size; have zq := zl; have SB' := SD1.below B'; replace z0 := cell_later B' z0; replace z1 := cell_later B' z1; replace z2 := cell_later B' z2; replace z3 := cell_later B' z3; replace y0 := frozen_later B' zl y0; replace y1 := frozen_later B' zl y1; replace y2 := frozen_later B' zl y2; replace y3 := frozen_later B' zl y3; replace zl := Nat.lt_of_lt_of_le zl B'.size; replace L := L.below B'; replace d0 := L.d0; replace d1 := L.d1; replace rc := cell_later B' rc; clear B'))
    have okR : Hid (setTCode f root (x0 : Int) x1 = 0 → Right (setFo f root (x0 : Int) x1)) := set_ok
    generalize setRootT f root (x0 : Int) x1 = rt at *
    generalize setFo f root (x0 : Int) x1 = f' at *
    generalize setTCode f root (x0 : Int) x1 = cd at *
    skip
    have KZ : Kept rz (rz + 1) w6 ((((w6.setCell ⟨rz, 0, none⟩ (.int .i64 cd)).setCell ⟨rz, 1, none⟩ (.int .i64 rt)).setCell ⟨rz, 2, none⟩ (.slice an' nn' cn')).setCell ⟨rz, 3, none⟩ (.slice ab' nb' cb')) := by refine Kept.setCell (Kept.setCell (Kept.setCell (Kept.setCell (Kept.refl _ _ _) ?_ ?_ _) ?_ ?_ _) ?_ ?_ _) ?_ ?_ _ <;> simp
    obtain ⟨t0, t1, t2, t3⟩ := box4 (.int .i64 cd) (.int .i64 rt) (.slice an' nn' cn') (.slice ab' nb' cb') z0 z1 z2 z3
    have SS := SB'.src.kept KZ (Or.inl (by omega))
    replace U' := U'.kept KZ (Or.inr (by omega))
    replace L := L.far KZ (by omega) (by omega) (by omega)
    have sz := KZ.size
    obtain ⟨W7, hW7⟩ : ∃ W, W = ((((w6.setCell ⟨rz, 0, none⟩ (.int .i64 cd)).setCell ⟨rz, 1, none⟩ (.int .i64 rt)).setCell ⟨rz, 2, none⟩ (.slice an' nn' cn')).setCell ⟨rz, 3, none⟩ (.slice ab' nb' cb')) := ⟨_, rfl⟩
    rw [← hW7] at t0 t1 t2 t3 SS U' L sz
    rw [← hW7]
    clear hW7 z0 z1 z2 z3 y0 y1 y2 y3 d0 d1 rc KZ SB' hsz SA
    have d0 := L.d0
    have d1 := L.d1
    have e0 := L.e0
    have e1 := L.e1
    by_cases hc : cd = 0
    · subst hc
      have RR := okR.out rfl
      replace L := L.put U' (by omega) (by omega) (by omega) RR
      have kp : Kept bf (bf + 1) W7 ((W7.setCell ⟨bf, 0, none⟩ (.slice an' nn' cn')).setCell ⟨bf, 1, none⟩ (.slice ab' nb' cb')) := by refine Kept.setCell (Kept.setCell (Kept.refl _ _ _) ?_ ?_ _) ?_ ?_ _ <;> simp
      replace SS := SS.kept kp (Or.inl (by have := L.gl; have := L.bl; omega))
      have t1' := kp.cell t1 (Or.inr (by omega))
      have hZ : ((W7.setCell ⟨bf, 0, none⟩ (.slice an' nn' cn')).setCell ⟨bf, 1, none⟩ (.slice ab' nb' cb')).heap.size = W7.heap.size := by simp
      obtain ⟨old, rc, rc'⟩ := L.cell hi'
      have L2 := L.root i rt
      have k2 : Kept rb (rb + 1) ((W7.setCell ⟨bf, 0, none⟩ (.slice an' nn' cn')).setCell ⟨bf, 1, none⟩ (.slice ab' nb' cb')) (((W7.setCell ⟨bf, 0, none⟩ (.slice an' nn' cn')).setCell ⟨bf, 1, none⟩ (.slice ab' nb' cb')).setCell ⟨rb, i, none⟩ (.int .i64 rt)) := by refine Kept.setCell (Kept.refl _ _ _) ?_ ?_ _ <;> simp
      replace SS := SS.kept k2 (Or.inl (by have := L.gl; have := L.rlt; omega))
      clear L okR
      go_wp2
      go_roundw
      case rel => exact ⟨j - 1, _, _, _, _, _, _, _, _, _, _, _, _, _, _, _, by rw [show ((j - 1 : Nat) : Int) = (j : Int) - 1 by omega], by omega, by omega, rfl, L2, SS⟩
      case measure => simp [intOf]; omega
    have hc' : (cd == 0) = false := by simp [hc]
    clear okR
    go_wp2
    go_roundw
    case rel => exact ⟨j - 1, _, _, _, _, _, _, _, _, _, _, _, _, _, _, _, by rw [show ((j - 1 : Nat) : Int) = (j : Int) - 1 by omega], by omega, by omega, rfl, L, SS⟩
    case measure => simp [intOf]; omega

end Go.Proofs.Ytkdaphfmhdkhfaa

/- Chapter 4: how a forest and a root are drawn. -/
namespace Go.Proofs.Ytkdaphfmhdkhfaa
open Go.RowKit

set_option maxRecDepth 20000 in
set_option maxHeartbeats 2000000 in
theorem l4Draw_any (g p : Nat) (ac : Option Addr) (nc cc : Nat) (bs : List Nat) (w : World) (h : SB w g p ac nc cc bs) (hp : p ≤ 200) :
    Calls Try.prog 231 #[.pointer (some ⟨g, 0, none⟩)] w fun e w' => ∃ an nn cn ab nb cb K f root p', e = .returned (.tuple #[.agg #[.slice an nn cn, .slice ab nb cb], .int .i64 root]) ∧ FoAt w' false w.heap.size w'.heap.size an nn cn ab nb cb K f ∧ nn ≤ 2097152 ∧ nb ≤ 2097152 ∧ (∀ i, i < nn → (K i).2.1 ≤ 2097152) ∧ p' ≤ p + 400 ∧ SB w' g p' ac nc cc bs ∧ Kept g (g + 1) w w' := by
  have A0 : Below w.heap.size w (w.alloc (.cells #[.slice none 0 0, .slice none 0 0] 60)) := (Below.refl _ _).alloc (Nat.le_refl _) _
  have z0 : (w.alloc (.cells #[.slice none 0 0, .slice none 0 0] 60)).heap.size = w.heap.size + 1 := by simp
  have hg := h.lt
  go_enter Try.func231, Try.ntmps231
  go_wp2_with fail
  refine (l4Right_any g p ac nc cc bs _ (h.below A0) (by omega)).mono ?_
  rintro e w1 ⟨an, nn, cn, ab, nb, cb, K, f, ar, nr, cr, rs, p1, rfl, U, hn, hm, hK, RR, hr0, hr1, hp1, S1, K1⟩
  rw [z0] at U RR
  have HK : Hid _ := hK
  clear hK
  have gr : g + 1 ≤ w.heap.size := hg
  have wl0 : w.heap.size < w.heap.size + 1 := by omega
  have R0 : w1.cell? ⟨w.heap.size, 0, none⟩ = some (.slice none 0 0) := K1.cell (by simp) (Or.inr gr)
  have R1 : w1.cell? ⟨w.heap.size, 1, none⟩ = some (.slice none 0 0) := K1.cell (by simp) (Or.inr gr)
  have F0 : w1.frozen? ⟨w.heap.size, 0, none⟩ = false := K1.frozen (by simp) (Or.inr gr) (by simp)
  have F1 : w1.frozen? ⟨w.heap.size, 1, none⟩ = false := K1.frozen (by simp) (Or.inr gr) (by simp)
  have KK : Kept g (g + 1) w w1 := (Kept.of_below A0).trans K1
  have wl : w.heap.size < w1.heap.size := by have := K1.size; omega
  have gd : g + 1 ≤ w1.heap.size := by omega
  have gl : g + 1 ≤ w.heap.size + 1 := by omega
  have gw := wl
  have A : Below w1.heap.size w1 (w1.alloc (.cells #[.slice an nn cn, .slice ab nb cb] 60)) := (Below.refl _ _).alloc (Nat.le_refl _) _
  have d0 : (w1.alloc (.cells #[.slice an nn cn, .slice ab nb cb] 60)).cell? ⟨w1.heap.size, 0, none⟩ = some (.slice an nn cn) := by simp
  have d1 : (w1.alloc (.cells #[.slice an nn cn, .slice ab nb cb] 60)).cell? ⟨w1.heap.size, 1, none⟩ = some (.slice ab nb cb) := by simp
  have e0 : (w1.alloc (.cells #[.slice an nn cn, .slice ab nb cb] 60)).frozen? ⟨w1.heap.size, 0, none⟩ = false := by simp
  have e1 : (w1.alloc (.cells #[.slice an nn cn, .slice ab nb cb] 60)).frozen? ⟨w1.heap.size, 1, none⟩ = false := by simp
  have wz : w1.heap.size < (w1.alloc (.cells #[.slice an nn cn, .slice ab nb cb] 60)).heap.size := by simp
  replace R0 := cell_later A R0
  replace R1 := cell_later A R1
  replace F0 := frozen_later A wl F0
  replace F1 := frozen_later A wl F1
  replace U := U.below A
  replace KK := KK.next A
  replace wl := Nat.lt_of_lt_of_le wl A.size
  replace S1 := S1.below A
  replace RR := RR.below A
  clear A A0 K1 z0
  go_wp2_with fail
  refine (next_sb S1 nr rfl (by omega) (by omega) (by omega)).mono ?_
  rintro e w2 ⟨i, hi, rfl, S2, K2, z2⟩
  replace d0 := K2.cell d0 (Or.inr gd)
  replace d1 := K2.cell d1 (Or.inr gd)
  replace e0 := K2.frozen wz (Or.inr gd) e0
  replace e1 := K2.frozen wz (Or.inr gd) e1
  replace R0 := K2.cell R0 (Or.inr gr)
  replace R1 := K2.cell R1 (Or.inr gr)
  replace F0 := K2.frozen wl (Or.inr gr) F0
  replace F1 := K2.frozen wl (Or.inr gr) F1
  replace U := U.kept K2 (Or.inr gl)
  replace KK := KK.trans K2
  replace wl := Nat.lt_of_lt_of_le wl K2.size
  replace wz := Nat.lt_of_lt_of_le wz K2.size
  replace RR := RR.kept K2 (Or.inr gl)
  obtain ⟨rb, ro, rfl, _, _, _, rcell, _⟩ := RR.cells (by omega)
  have rc := rcell i (by omega)
  obtain ⟨root, hroot⟩ : ∃ root : Int, (ints rs).getD i default = .int .i64 root := by
    have hl := RR.len
    exact ⟨rs.getD i 0, by simp [ints, List.getD, show i < rs.length by simpa [ints] using (by omega : i < (ints rs).length)]⟩
  rw [hroot] at rc
  have hi1 : (i : Int) < nr := by omega
  have hi0 : ¬ (i : Int) < 0 := by omega
  clear K2 z2 S1 RR rcell hroot
  go_wp2_with fail
  refine (next_sb S2 20 rfl (by omega) (by omega) (by omega)).mono ?_
  rintro e w3 ⟨v, hv, rfl, S3, K3, z3⟩
  replace d0 := K3.cell d0 (Or.inr gd)
  replace d1 := K3.cell d1 (Or.inr gd)
  replace e0 := K3.frozen wz (Or.inr gd) e0
  replace e1 := K3.frozen wz (Or.inr gd) e1
  replace R0 := K3.cell R0 (Or.inr gr)
  replace R1 := K3.cell R1 (Or.inr gr)
  replace F0 := K3.frozen wl (Or.inr gr) F0
  replace F1 := K3.frozen wl (Or.inr gr) F1
  replace U := U.kept K3 (Or.inr gl)
  replace KK := KK.trans K3
  replace wl := Nat.lt_of_lt_of_le wl K3.size
  replace wz := Nat.lt_of_lt_of_le wz K3.size
  clear K3 z3 S2 rc
  by_cases v4 : 4 ≤ v
  · have n0 : ¬ (v : Int) = 0 := by omega
    have n1 : ¬ (v : Int) = 1 := by omega
    have n2 : ¬ (v : Int) = 2 := by omega
    have n3 : ¬ (v : Int) = 3 := by omega
    have K7 : Kept w.heap.size (w.heap.size + 1) w3 ((w3.setCell ⟨w.heap.size, 0, none⟩ (.slice an nn cn)).setCell ⟨w.heap.size, 1, none⟩ (.slice ab nb cb)) := by refine Kept.setCell (Kept.setCell (Kept.refl _ _ _) ?_ ?_ _) ?_ ?_ _ <;> simp
    have hs := K7.size
    have s9 := S3.src.kept K7 (Or.inl (by omega))
    go_wp2
    refine bodyPost_ret (v := .tuple #[.agg #[.slice an nn cn, .slice ab nb cb], .int .i64 root]) (by simp [results, Try.results231, go_sem, R0, R1]) rfl ?_
    have K9 : Kept g (g + 1) w (((w3.setCell ⟨w.heap.size, 0, none⟩ (.slice an nn cn)).setCell ⟨w.heap.size, 1, none⟩ (.slice ab nb cb))) := KK.low (K7.below _ (Nat.le_refl _) (by omega))
    exact ⟨an, nn, cn, ab, nb, cb, K, _, root, _, rfl, ((U.fo).kept K7 (Or.inr (Nat.le_refl _))).widen (by omega) (by omega), by omega, by omega, fun i hi => by rcases HK.out i hi with e | e <;> omega, by omega, h.move K9 s9, K9⟩
  by_cases v3 : v = 3
  · subst v3
    have g3 := wz
    have AL : Below w3.heap.size w3 (w3.alloc (.cells #[.int .i64 (-2), .int .i64 0, .int .i64 1, .int .i64 60] 2)) := (Below.refl _ _).alloc (Nat.le_refl _) _
    have rl := row_lit w3 [.int .i64 (-2), .int .i64 0, .int .i64 1, .int .i64 60] 2 4 1 rfl
    have D4 := S3.below AL
    replace d0 := cell_later AL d0
    replace d1 := cell_later AL d1
    replace e0 := frozen_later AL wz e0
    replace e1 := frozen_later AL wz e1
    replace R0 := cell_later AL R0
    replace R1 := cell_later AL R1
    replace F0 := frozen_later AL wl F0
    replace F1 := frozen_later AL wl F1
    replace U := U.below AL
    replace KK := KK.next AL
    replace wl := Nat.lt_of_lt_of_le wl AL.size
    replace wz := Nat.lt_of_lt_of_le wz AL.size
    go_wp2_with fail
    refine (pick_sb D4 4 rfl (by omega) (by omega) (by omega) _ _ [-2, 0, 1, 60] (by exact rl) (by omega)).mono ?_
    rintro e w5 ⟨x, rfl, S5, K5, z5⟩
    replace d0 := K5.cell d0 (Or.inr gd)
    replace d1 := K5.cell d1 (Or.inr gd)
    replace e0 := K5.frozen wz (Or.inr gd) e0
    replace e1 := K5.frozen wz (Or.inr gd) e1
    replace R0 := K5.cell R0 (Or.inr gr)
    replace R1 := K5.cell R1 (Or.inr gr)
    replace F0 := K5.frozen wl (Or.inr gr) F0
    replace F1 := K5.frozen wl (Or.inr gr) F1
    replace U := U.kept K5 (Or.inr gl)
    replace KK := KK.trans K5
    replace wl := Nat.lt_of_lt_of_le wl K5.size
    replace wz := Nat.lt_of_lt_of_le wz K5.size
    clear K5 z5 AL rl D4
    have K7 : Kept w.heap.size (w.heap.size + 1) w5 ((w5.setCell ⟨w.heap.size, 0, none⟩ (.slice an nn cn)).setCell ⟨w.heap.size, 1, none⟩ (.slice ab nb cb)) := by refine Kept.setCell (Kept.setCell (Kept.refl _ _ _) ?_ ?_ _) ?_ ?_ _ <;> simp
    have hs := K7.size
    have s9 := S5.src.kept K7 (Or.inl (by omega))
    go_wp2
    refine bodyPost_ret (v := .tuple #[.agg #[.slice an nn cn, .slice ab nb cb], .int .i64 x]) (by simp [results, Try.results231, go_sem, R0, R1]) rfl ?_
    have K9 : Kept g (g + 1) w (((w5.setCell ⟨w.heap.size, 0, none⟩ (.slice an nn cn)).setCell ⟨w.heap.size, 1, none⟩ (.slice ab nb cb))) := KK.low (K7.below _ (Nat.le_refl _) (by omega))
    exact ⟨an, nn, cn, ab, nb, cb, K, _, x, _, rfl, ((U.fo).kept K7 (Or.inr (Nat.le_refl _))).widen (by omega) (by omega), by omega, by omega, fun i hi => by rcases HK.out i hi with e | e <;> omega, by omega, h.move K9 s9, K9⟩
  by_cases v0 : v = 0
  · subst v0
    go_wp2_with fail
    have g3 : w1.heap.size + 1 ≤ w3.heap.size := wz
    refine (l3Blocks_any g _ ac nc cc bs w3 S3 (by omega)).mono ?_
    rintro e w4 ⟨bo, bn, bc, bl, p4, rfl, hbn, hp4, RB, S4, K4⟩
    replace d0 := K4.cell d0 (Or.inr gd)
    replace d1 := K4.cell d1 (Or.inr gd)
    replace e0 := K4.frozen wz (Or.inr gd) e0
    replace e1 := K4.frozen wz (Or.inr gd) e1
    replace R0 := K4.cell R0 (Or.inr gr)
    replace R1 := K4.cell R1 (Or.inr gr)
    replace F0 := K4.frozen wl (Or.inr gr) F0
    replace F1 := K4.frozen wl (Or.inr gr) F1
    replace U := U.kept K4 (Or.inr gl)
    replace KK := KK.trans K4
    replace wl := Nat.lt_of_lt_of_le wl K4.size
    replace wz := Nat.lt_of_lt_of_le wz K4.size
    have g4 := K4.size
    clear K4
    have KS : Kept w1.heap.size (w1.heap.size + 1) w4 (w4.setCell ⟨w1.heap.size, 1, none⟩ (.slice bo bn bc)) := by refine Kept.setCell (Kept.refl _ _ _) ?_ ?_ _ <;> simp
    have zS : (w4.setCell ⟨w1.heap.size, 1, none⟩ (.slice bo bn bc)).heap.size = w4.heap.size := by simp
    have d0' : (w4.setCell ⟨w1.heap.size, 1, none⟩ (.slice bo bn bc)).cell? ⟨w1.heap.size, 0, none⟩ = some (.slice an nn cn) := (World.cell?_setCell_other _ _ _ _ (by simp)).trans d0
    have d1' : (w4.setCell ⟨w1.heap.size, 1, none⟩ (.slice bo bn bc)).cell? ⟨w1.heap.size, 1, none⟩ = some (.slice bo bn bc) := World.cell?_setCell_same _ _ _ d1
    have R0' := KS.cell R0 (Or.inl gw)
    have R1' := KS.cell R1 (Or.inl gw)
    have F0' := KS.frozen wl (Or.inl gw) F0
    have F1' := KS.frozen wl (Or.inl gw) F1
    have FO : FoAt _ false (w.heap.size + 1) w4.heap.size an nn cn bo bn bc K (f.1, bl) := ⟨((U.kept KS (Or.inl (Nat.le_refl _))).fo.widen (Nat.le_refl _) (by omega)).nodes, ((RB.kept KS (Or.inr g3)).widen (by omega) (Nat.le_refl _)).weak, fun hx => by cases hx⟩
    replace KK := KK.low (KS.below _ (by omega) (by omega))
    have S5 := h.move KK (S4.src.kept KS (Or.inl (by omega)))
    have K7 : Kept w.heap.size (w.heap.size + 1) (w4.setCell ⟨w1.heap.size, 1, none⟩ (.slice bo bn bc)) (((w4.setCell ⟨w1.heap.size, 1, none⟩ (.slice bo bn bc)).setCell ⟨w.heap.size, 0, none⟩ (.slice an nn cn)).setCell ⟨w.heap.size, 1, none⟩ (.slice bo bn bc)) := by refine Kept.setCell (Kept.setCell (Kept.refl _ _ _) ?_ ?_ _) ?_ ?_ _ <;> simp
    have hs := K7.size
    have s9 := S5.src.kept K7 (Or.inl (by omega))
    go_wp2
    refine bodyPost_ret (v := .tuple #[.agg #[.slice an nn cn, .slice bo bn bc], .int .i64 root]) (by simp [results, Try.results231, go_sem, R0', R1']) rfl ?_
    have K9 : Kept g (g + 1) w ((((w4.setCell ⟨w1.heap.size, 1, none⟩ (.slice bo bn bc)).setCell ⟨w.heap.size, 0, none⟩ (.slice an nn cn)).setCell ⟨w.heap.size, 1, none⟩ (.slice bo bn bc))) := KK.low (K7.below _ (Nat.le_refl _) (by omega))
    exact ⟨an, nn, cn, bo, bn, bc, K, _, root, _, rfl, (FO.kept K7 (Or.inr (Nat.le_refl _))).widen (by omega) (by omega), by omega, by omega, fun i hi => by rcases HK.out i hi with e | e <;> omega, by omega, h.move K9 s9, K9⟩
  by_cases v1 : v = 1
  · subst v1
    by_cases hz : nn = 0
    · have hz1 : ¬ (0 : Int) < nn := by omega
      have hz2 : decide ((0 : Int) < nn) = false := decide_eq_false hz1
      clear hz
      have K7 : Kept w.heap.size (w.heap.size + 1) w3 ((w3.setCell ⟨w.heap.size, 0, none⟩ (.slice an nn cn)).setCell ⟨w.heap.size, 1, none⟩ (.slice ab nb cb)) := by refine Kept.setCell (Kept.setCell (Kept.refl _ _ _) ?_ ?_ _) ?_ ?_ _ <;> simp
      have hs := K7.size
      have s9 := S3.src.kept K7 (Or.inl (by omega))
      go_wp2
      refine bodyPost_ret (v := .tuple #[.agg #[.slice an nn cn, .slice ab nb cb], .int .i64 root]) (by simp [results, Try.results231, go_sem, R0, R1]) rfl ?_
      have K9 : Kept g (g + 1) w (((w3.setCell ⟨w.heap.size, 0, none⟩ (.slice an nn cn)).setCell ⟨w.heap.size, 1, none⟩ (.slice ab nb cb))) := KK.low (K7.below _ (Nat.le_refl _) (by omega))
      exact ⟨an, nn, cn, ab, nb, cb, K, _, root, _, rfl, ((U.fo).kept K7 (Or.inr (Nat.le_refl _))).widen (by omega) (by omega), by omega, by omega, fun i hi => by rcases HK.out i hi with e | e <;> omega, by omega, h.move K9 s9, K9⟩
    have hz1 : (0 : Int) < nn := by omega
    have hz2 : decide ((0 : Int) < nn) = true := decide_eq_true hz1
    obtain ⟨b, off, rfl, gb1, gb2, _, _, _⟩ := U.row.cells hz
    go_wp2_with fail
    have D : Below w3.heap.size w3 w3.drew := (Below.refl _ _).drew
    have S4 := S3.below D
    replace d0 := cell_later D d0
    replace d1 := cell_later D d1
    replace e0 := frozen_later D wz e0
    replace e1 := frozen_later D wz e1
    replace R0 := cell_later D R0
    replace R1 := cell_later D R1
    replace F0 := frozen_later D wl F0
    replace F1 := frozen_later D wl F1
    replace U := U.below D
    replace KK := KK.next D
    replace wl := Nat.lt_of_lt_of_le wl D.size
    replace wz := Nat.lt_of_lt_of_le wz D.size
    clear D
    have g3 := wz
    have hso : ∀ (W : World) (k : Nat) (v : Value) (i : Nat), (W.setCell ⟨b, k, none⟩ v).cell? ⟨w1.heap.size, i, none⟩ = W.cell? ⟨w1.heap.size, i, none⟩ := fun W k v i => World.cell?_setCell_other _ _ _ _ (by intro e; injection e with e _; omega)
    go_region_held3 (fun w' => w'.cell? ⟨w1.heap.size, 0, none⟩ = some (.slice (some ⟨b, off, none⟩) nn cn)) (first | exact d0 | exact cell_later ((Below.refl _ _).alloc (Nat.le_refl _) _) d0 | exact (hso _ _ _ _).trans d0)
      (first | (go_at_call 150; have AL : Below w3.drew.heap.size w3.drew (w3.drew.alloc (.cells #[.int .i64 0, .int .i64 1, .int .i64 2, .int .i64 201] 2)) := (Below.refl _ _).alloc (Nat.le_refl _) _; have rl := row_lit w3.drew [.int .i64 0, .int .i64 1, .int .i64 2, .int .i64 201] 2 4 1 rfl; (refine (pick_sb (S4.below AL) 4 rfl (by omega) (by omega) (by omega) _ _ [0, 1, 2, 201] (by exact rl) (by omega)).mono ?_); rintro e w5 ⟨x, rfl, S5, K5, z5⟩; replace d0 := cell_later AL d0; replace d1 := cell_later AL d1; replace e0 := frozen_later AL wz e0; replace e1 := frozen_later AL wz e1; replace R0 := cell_later AL R0; replace R1 := cell_later AL R1; replace F0 := frozen_later AL wl F0; replace F1 := frozen_later AL wl F1; replace U := U.below AL; replace KK := KK.next AL; replace wl := Nat.lt_of_lt_of_le wl AL.size; replace wz := Nat.lt_of_lt_of_le wz AL.size; replace d0 := K5.cell d0 (Or.inr gd); replace d1 := K5.cell d1 (Or.inr gd); replace e0 := K5.frozen wz (Or.inr gd) e0; replace e1 := K5.frozen wz (Or.inr gd) e1; replace R0 := K5.cell R0 (Or.inr gr); replace R1 := K5.cell R1 (Or.inr gr); replace F0 := K5.frozen wl (Or.inr gr) F0; replace F1 := K5.frozen wl (Or.inr gr) F1; replace U := U.kept K5 (Or.inr gl); replace KK := KK.trans K5; replace wl := Nat.lt_of_lt_of_le wl K5.size; replace wz := Nat.lt_of_lt_of_le wz K5.size; clear K5 z5 AL rl; obtain ⟨cv, cv0, cv1⟩ := U.ref0 hz rfl))
    have KS : Kept b (b + 1) w5 (w5.setCell ⟨b, off, none⟩ (.int .i64 x)) := by refine Kept.setCell (Kept.refl _ _ _) ?_ ?_ _ <;> simp
    have zS : (w5.setCell ⟨b, off, none⟩ (.int .i64 x)).heap.size = w5.heap.size := by simp
    have d0' := KS.cell d0 (Or.inr gb2)
    have d1' := KS.cell d1 (Or.inr gb2)
    have R0' := KS.cell R0 (Or.inl gb1)
    have R1' := KS.cell R1 (Or.inl gb1)
    have F0' := KS.frozen wl (Or.inl gb1) F0
    have F1' := KS.frozen wl (Or.inl gb1) F1
    obtain ⟨f', FO⟩ := U.setRefs hz rfl x
    replace KK := KK.low (KS.below _ (by omega) (by omega))
    have S6 := h.move KK (S5.src.kept KS (Or.inl (by omega)))
    have K7 : Kept w.heap.size (w.heap.size + 1) (w5.setCell ⟨b, off, none⟩ (.int .i64 x)) (((w5.setCell ⟨b, off, none⟩ (.int .i64 x)).setCell ⟨w.heap.size, 0, none⟩ (.slice (some ⟨b, off, none⟩) nn cn)).setCell ⟨w.heap.size, 1, none⟩ (.slice ab nb cb)) := by refine Kept.setCell (Kept.setCell (Kept.refl _ _ _) ?_ ?_ _) ?_ ?_ _ <;> simp
    have hs := K7.size
    have s9 := S6.src.kept K7 (Or.inl (by omega))
    go_wp2
    refine bodyPost_ret (v := .tuple #[.agg #[.slice (some ⟨b, off, none⟩) nn cn, .slice ab nb cb], .int .i64 root]) (by simp [results, Try.results231, go_sem, R0', R1']) rfl ?_
    have K9 : Kept g (g + 1) w ((((w5.setCell ⟨b, off, none⟩ (.int .i64 x)).setCell ⟨w.heap.size, 0, none⟩ (.slice (some ⟨b, off, none⟩) nn cn)).setCell ⟨w.heap.size, 1, none⟩ (.slice ab nb cb))) := KK.low (K7.below _ (Nat.le_refl _) (by omega))
    exact ⟨_, nn, cn, ab, nb, cb, K, _, root, _, rfl, (FO.kept K7 (Or.inr (Nat.le_refl _))).widen (by omega) (by omega), by omega, by omega, fun i hi => by rcases HK.out i hi with e | e <;> omega, by omega, h.move K9 s9, K9⟩
  obtain rfl : v = 2 := by omega
  by_cases hz : nn = 0
  · have hz1 : ¬ (0 : Int) < nn := by omega
    have hz2 : decide ((0 : Int) < nn) = false := decide_eq_false hz1
    clear hz
    have K7 : Kept w.heap.size (w.heap.size + 1) w3 ((w3.setCell ⟨w.heap.size, 0, none⟩ (.slice an nn cn)).setCell ⟨w.heap.size, 1, none⟩ (.slice ab nb cb)) := by refine Kept.setCell (Kept.setCell (Kept.refl _ _ _) ?_ ?_ _) ?_ ?_ _ <;> simp
    have hs := K7.size
    have s9 := S3.src.kept K7 (Or.inl (by omega))
    go_wp2
    refine bodyPost_ret (v := .tuple #[.agg #[.slice an nn cn, .slice ab nb cb], .int .i64 root]) (by simp [results, Try.results231, go_sem, R0, R1]) rfl ?_
    have K9 : Kept g (g + 1) w (((w3.setCell ⟨w.heap.size, 0, none⟩ (.slice an nn cn)).setCell ⟨w.heap.size, 1, none⟩ (.slice ab nb cb))) := KK.low (K7.below _ (Nat.le_refl _) (by omega))
    exact ⟨an, nn, cn, ab, nb, cb, K, _, root, _, rfl, ((U.fo).kept K7 (Or.inr (Nat.le_refl _))).widen (by omega) (by omega), by omega, by omega, fun i hi => by rcases HK.out i hi with e | e <;> omega, by omega, h.move K9 s9, K9⟩
  have hz1 : (0 : Int) < nn := by omega
  have hz2 : decide ((0 : Int) < nn) = true := decide_eq_true hz1
  have hk4 := HK.out 0 (by omega)
  have kk := U.third hz
  have sK := U.sepK 0 (by omega)
  have kr := U.kids 0 (by omega)
  obtain ⟨b0, off, rfl, gc1, gc2, _, _, _⟩ := U.row.cells hz
  replace kk := kk b0 off rfl
  have gk : g + 1 ≤ b0 := by omega
  have wk : b0 < w3.heap.size := by omega
  obtain ⟨⟨ka, kn, kc⟩, hk0⟩ : ∃ k, k = K 0 := ⟨_, rfl⟩
  rw [← hk0] at hk4 kk sK kr
  dsimp only at hk4 kk sK kr
  have HK0 : Hid _ := hk0
  clear hk0
  rcases hk4 with e | e
  · subst e
    have hq2 : decide ((0 : Int) < ((0 : Nat) : Int)) = false := rfl
    have K7 : Kept w.heap.size (w.heap.size + 1) w3 ((w3.setCell ⟨w.heap.size, 0, none⟩ (.slice (some ⟨b0, off, none⟩) nn cn)).setCell ⟨w.heap.size, 1, none⟩ (.slice ab nb cb)) := by refine Kept.setCell (Kept.setCell (Kept.refl _ _ _) ?_ ?_ _) ?_ ?_ _ <;> simp
    have hs := K7.size
    have s9 := S3.src.kept K7 (Or.inl (by omega))
    go_wp2
    refine bodyPost_ret (v := .tuple #[.agg #[.slice (some ⟨b0, off, none⟩) nn cn, .slice ab nb cb], .int .i64 root]) (by simp [results, Try.results231, go_sem, R0, R1]) rfl ?_
    have K9 : Kept g (g + 1) w (((w3.setCell ⟨w.heap.size, 0, none⟩ (.slice (some ⟨b0, off, none⟩) nn cn)).setCell ⟨w.heap.size, 1, none⟩ (.slice ab nb cb))) := KK.low (K7.below _ (Nat.le_refl _) (by omega))
    exact ⟨_, nn, cn, ab, nb, cb, K, _, root, _, rfl, ((U.fo).kept K7 (Or.inr (Nat.le_refl _))).widen (by omega) (by omega), by omega, by omega, fun i hi => by rcases HK.out i hi with e | e <;> omega, by omega, h.move K9 s9, K9⟩
  subst e
  have sK1 := (sK (by omega)).1
  obtain ⟨b, ko, rfl, gb1, gb2, _, _, _⟩ := kr.cells (by omega)
  have hbb : b ≠ b0 := fun e => sK1 e
  clear sK kr
  go_wp2_with fail
  have D : Below w3.heap.size w3 w3.drew := (Below.refl _ _).drew
  have S4 := S3.below D
  replace d0 := cell_later D d0
  replace d1 := cell_later D d1
  replace e0 := frozen_later D wz e0
  replace e1 := frozen_later D wz e1
  replace R0 := cell_later D R0
  replace R1 := cell_later D R1
  replace F0 := frozen_later D wl F0
  replace F1 := frozen_later D wl F1
  replace U := U.below D
  replace KK := KK.next D
  replace wl := Nat.lt_of_lt_of_le wl D.size
  replace wz := Nat.lt_of_lt_of_le wz D.size
  replace kk := cell_later D kk
  clear D
  have g3 := wz
  have hso : ∀ (W : World) (k : Nat) (v : Value) (i : Nat), (W.setCell ⟨b, k, none⟩ v).cell? ⟨w1.heap.size, i, none⟩ = W.cell? ⟨w1.heap.size, i, none⟩ := fun W k v i => World.cell?_setCell_other _ _ _ _ (by intro e; injection e with e _; omega)
  have hsk : ∀ (W : World) (k : Nat) (v : Value) (i : Nat), (W.setCell ⟨b, k, none⟩ v).cell? ⟨b0, i, none⟩ = W.cell? ⟨b0, i, none⟩ := fun W k v i => World.cell?_setCell_other _ _ _ _ (by intro e; injection e with e _; exact hbb e)
  go_region_held3 (fun w' => w'.cell? ⟨w1.heap.size, 0, none⟩ = some (.slice (some ⟨b0, off, none⟩) nn cn) ∧ w'.cell? ⟨b0, off + 2, none⟩ = some (.slice (some ⟨b, ko, none⟩) 4 kc)) (first | exact ⟨d0, kk⟩ | exact ⟨cell_later ((Below.refl _ _).alloc (Nat.le_refl _) _) d0, cell_later ((Below.refl _ _).alloc (Nat.le_refl _) _) kk⟩ | exact ⟨(hso _ _ _ _).trans d0, (hsk _ _ _ _).trans kk⟩)
    (first | (go_at_call 150; have AL : Below w3.drew.heap.size w3.drew (w3.drew.alloc (.cells #[.int .i64 (-1), .int .i64 0, .int .i64 3, .int .i64 30] 2)) := (Below.refl _ _).alloc (Nat.le_refl _) _; have rl := row_lit w3.drew [.int .i64 (-1), .int .i64 0, .int .i64 3, .int .i64 30] 2 4 1 rfl; (refine (pick_sb (S4.below AL) 4 rfl (by omega) (by omega) (by omega) _ _ [-1, 0, 3, 30] (by exact rl) (by omega)).mono ?_); rintro e w5 ⟨x, rfl, S5, K5, z5⟩; replace d0 := cell_later AL d0; replace d1 := cell_later AL d1; replace e0 := frozen_later AL wz e0; replace e1 := frozen_later AL wz e1; replace R0 := cell_later AL R0; replace R1 := cell_later AL R1; replace F0 := frozen_later AL wl F0; replace F1 := frozen_later AL wl F1; replace U := U.below AL; replace KK := KK.next AL; replace wl := Nat.lt_of_lt_of_le wl AL.size; replace wz := Nat.lt_of_lt_of_le wz AL.size; replace kk := cell_later AL kk; replace d0 := K5.cell d0 (Or.inr gd); replace d1 := K5.cell d1 (Or.inr gd); replace e0 := K5.frozen wz (Or.inr gd) e0; replace e1 := K5.frozen wz (Or.inr gd) e1; replace R0 := K5.cell R0 (Or.inr gr); replace R1 := K5.cell R1 (Or.inr gr); replace F0 := K5.frozen wl (Or.inr gr) F0; replace F1 := K5.frozen wl (Or.inr gr) F1; replace U := U.kept K5 (Or.inr gl); replace KK := KK.trans K5; replace wl := Nat.lt_of_lt_of_le wl K5.size; replace wz := Nat.lt_of_lt_of_le wz K5.size; replace kk := K5.cell kk (Or.inr gk); clear K5 z5 AL rl; obtain ⟨cv, cv0, cv1⟩ := U.kid0 (i := 0) (q := 1) (by omega) (by rw [← HK0.out]; show 1 < 4; decide) (by rw [← HK0.out])))
  have KS : Kept b (b + 1) w5 (w5.setCell ⟨b, ko + 1, none⟩ (.int .i64 x)) := by refine Kept.setCell (Kept.refl _ _ _) ?_ ?_ _ <;> simp
  have zS : (w5.setCell ⟨b, ko + 1, none⟩ (.int .i64 x)).heap.size = w5.heap.size := by simp
  have d0' := KS.cell d0 (Or.inr gb2)
  have d1' := KS.cell d1 (Or.inr gb2)
  have R0' := KS.cell R0 (Or.inl gb1)
  have R1' := KS.cell R1 (Or.inl gb1)
  have F0' := KS.frozen wl (Or.inl gb1) F0
  have F1' := KS.frozen wl (Or.inl gb1) F1
  obtain ⟨f', FO⟩ := U.setKid (i := 0) (by omega) (by rw [← HK0.out]; show 4 ≠ 0; decide) (by rw [← HK0.out]) (ko + 1) x
  replace KK := KK.low (KS.below _ (by omega) (by omega))
  have S6 := h.move KK (S5.src.kept KS (Or.inl (by omega)))
  have K7 : Kept w.heap.size (w.heap.size + 1) (w5.setCell ⟨b, ko + 1, none⟩ (.int .i64 x)) (((w5.setCell ⟨b, ko + 1, none⟩ (.int .i64 x)).setCell ⟨w.heap.size, 0, none⟩ (.slice (some ⟨b0, off, none⟩) nn cn)).setCell ⟨w.heap.size, 1, none⟩ (.slice ab nb cb)) := by refine Kept.setCell (Kept.setCell (Kept.refl _ _ _) ?_ ?_ _) ?_ ?_ _ <;> simp
  have hs := K7.size
  have s9 := S6.src.kept K7 (Or.inl (by omega))
  go_wp2
  refine bodyPost_ret (v := .tuple #[.agg #[.slice (some ⟨b0, off, none⟩) nn cn, .slice ab nb cb], .int .i64 root]) (by simp [results, Try.results231, go_sem, R0', R1']) rfl ?_
  have K9 : Kept g (g + 1) w ((((w5.setCell ⟨b, ko + 1, none⟩ (.int .i64 x)).setCell ⟨w.heap.size, 0, none⟩ (.slice (some ⟨b0, off, none⟩) nn cn)).setCell ⟨w.heap.size, 1, none⟩ (.slice ab nb cb))) := KK.low (K7.below _ (Nat.le_refl _) (by omega))
  exact ⟨_, nn, cn, ab, nb, cb, K, _, root, _, rfl, (FO.kept K7 (Or.inr (Nat.le_refl _))).widen (by omega) (by omega), by omega, by omega, fun i hi => by rcases HK.out i hi with e | e <;> omega, by omega, h.move K9 s9, K9⟩

end Go.Proofs.Ytkdaphfmhdkhfaa
