/- Chapter 4: forests that the model made: their rows may be written. -/
import Derived.Test.YtkdaphfmhdkhfaaZW
import Derived.Test.YtkdaphfmhdkhfaaZX
namespace Go.Proofs.Ytkdaphfmhdkhfaa
open Go.RowKit

structure FoU (w : World) (lo hi : Nat) (an : Option Addr) (nn cn : Nat) (ab : Option Addr) (nb cb : Nat) (K : Nat → KS) (f : Fo) : Prop where
  len : f.1.length = nn
  row : RowAt w true lo hi 3 an nn cn (ncells K f.1)
  kids : ∀ i, i < nn → RowAt w true lo hi 1 (K i).1 (K i).2.1 (K i).2.2 (ints (f.1.getD i nd0).2.2)
  blocks : RowAt w true lo hi 2 ab nb cb (pairs f.2)
  sepK : ∀ i, i < nn → (K i).2.1 ≠ 0 → sb (K i).1 ≠ sb an ∧ (nb ≠ 0 → sb (K i).1 ≠ sb ab)
  sepB : nn ≠ 0 → nb ≠ 0 → sb an ≠ sb ab
section
variable {w w' : World} {lo hi : Nat} {an : Option Addr} {nn cn : Nat} {ab : Option Addr} {nb cb : Nat} {K : Nat → KS} {f : Fo}
theorem FoU.fo (h : FoU w lo hi an nn cn ab nb cb K f) : FoAt w false lo hi an nn cn ab nb cb K f := ⟨⟨h.len, h.row.weak, fun i hi => (h.kids i hi).weak, fun hx => by cases hx⟩, h.blocks.weak, fun hx => by cases hx⟩
theorem FoU.below (h : FoU w lo hi an nn cn ab nb cb K f) (hb : Below w.heap.size w w') : FoU w' lo hi an nn cn ab nb cb K f := ⟨h.len, h.row.below hb, fun i hi => (h.kids i hi).below hb, h.blocks.below hb, h.sepK, h.sepB⟩
theorem FoU.kept (h : FoU w lo hi an nn cn ab nb cb K f) {l u : Nat} (hk : Kept l u w w') (hd : hi ≤ l ∨ u ≤ lo) : FoU w' lo hi an nn cn ab nb cb K f := ⟨h.len, h.row.kept hk hd, fun i hi => (h.kids i hi).kept hk hd, h.blocks.kept hk hd, h.sepK, h.sepB⟩
theorem FoU.widen (h : FoU w lo hi an nn cn ab nb cb K f) {lo' hi' : Nat} (h1 : lo' ≤ lo) (h2 : hi ≤ hi') : FoU w lo' hi' an nn cn ab nb cb K f := ⟨h.len, h.row.widen h1 h2, fun i hi => (h.kids i hi).widen h1 h2, h.blocks.widen h1 h2, h.sepK, h.sepB⟩
theorem FoU.nil (w : World) (lo hi : Nat) : FoU w lo hi none 0 0 none 0 0 (fun _ => (none, 0, 0)) ([], []) := ⟨rfl, RowAt.nil _ _ _ _ _, fun i hi => absurd hi (by omega), RowAt.nil _ _ _ _ _, fun i hi => absurd hi (by omega), fun h => absurd rfl h⟩
end
def FoResU (w w' : World) (e : Ending) (code root : Int) (f : Fo) : Prop :=
  ∃ an nn cn ab nb cb K, e = .returned (.agg #[.int .i64 code, .int .i64 root, .slice an nn cn, .slice ab nb cb]) ∧ FoU w' w.heap.size w'.heap.size an nn cn ab nb cb K f ∧ Below w.heap.size w w'
theorem OutAt.readU {w : World} {lo P : Nat} {vn : Value} {ab : Option Addr} {nb cb : Nat} {K : Nat → KS} {f : Fo} (h : OutAt w lo P vn ab nb cb K f) : ∃ an cn, vn = .slice an f.1.length cn ∧ FoU w lo w.heap.size an f.1.length cn ab nb cb K f := by
  obtain ⟨an, cn, rfl, R⟩ := RowAt.of_owned h.own
  have hob : f.1.length ≠ 0 → (Value.slice an f.1.length cn).ownBlock = some (sb an) := fun hne => by
    obtain ⟨b, off, rfl, _⟩ := R.cells hne
    rfl
  exact ⟨an, cn, rfl, rfl, R, h.kid, h.blk, fun i hi hne => ⟨fun e => (h.sK i hi hne).2.1 (by rw [e]; exact hob (by omega)), (h.sK i hi hne).2.2⟩, fun h1 h2 e => (h.sB h2).2 (by rw [← e]; exact hob h1)⟩

end Go.Proofs.Ytkdaphfmhdkhfaa

/- Chapter 4: the model's new forests, told with where they may be written. -/
namespace Go.Proofs.Ytkdaphfmhdkhfaa
open Go.RowKit

set_option maxRecDepth 20000 in
set_option maxHeartbeats 2000000 in
theorem specNewF_u (x : Int) (w : World) (cd rt : Int) (f : Fo) (hc : newBCode x = cd) (hr : (if newBCode x = 0 then (-1 : Int) else 0) = rt) (hf : newFoList x = f) : Calls Try.prog 113 #[.int .i64 x] w fun e w' => FoResU w w' e cd rt f := by
  have B : Below w.heap.size w (w.alloc (.cells #[.int .i64 0, .int .i64 0, .slice none 0 0, .slice none 0 0] 64)) := (Below.refl _ _).alloc (Nat.le_refl _) _
  have z0 : (w.alloc (.cells #[.int .i64 0, .int .i64 0, .slice none 0 0, .slice none 0 0] 64)).cell? ⟨w.heap.size, 0, none⟩ = some (.int .i64 0) := by simp
  have z1 : (w.alloc (.cells #[.int .i64 0, .int .i64 0, .slice none 0 0, .slice none 0 0] 64)).cell? ⟨w.heap.size, 1, none⟩ = some (.int .i64 0) := by simp
  have z2 : (w.alloc (.cells #[.int .i64 0, .int .i64 0, .slice none 0 0, .slice none 0 0] 64)).cell? ⟨w.heap.size, 2, none⟩ = some (.slice none 0 0) := by simp
  have z3 : (w.alloc (.cells #[.int .i64 0, .int .i64 0, .slice none 0 0, .slice none 0 0] 64)).cell? ⟨w.heap.size, 3, none⟩ = some (.slice none 0 0) := by simp
  have y0 : (w.alloc (.cells #[.int .i64 0, .int .i64 0, .slice none 0 0, .slice none 0 0] 64)).frozen? ⟨w.heap.size, 0, none⟩ = false := by simp
  have y1 : (w.alloc (.cells #[.int .i64 0, .int .i64 0, .slice none 0 0, .slice none 0 0] 64)).frozen? ⟨w.heap.size, 1, none⟩ = false := by simp
  have y2 : (w.alloc (.cells #[.int .i64 0, .int .i64 0, .slice none 0 0, .slice none 0 0] 64)).frozen? ⟨w.heap.size, 2, none⟩ = false := by simp
  have y3 : (w.alloc (.cells #[.int .i64 0, .int .i64 0, .slice none 0 0, .slice none 0 0] 64)).frozen? ⟨w.heap.size, 3, none⟩ = false := by simp
  have hz : w.heap.size < (w.alloc (.cells #[.int .i64 0, .int .i64 0, .slice none 0 0, .slice none 0 0] 64)).heap.size := by simp
  obtain ⟨bl, hbl⟩ : ∃ bl, newBList x = bl := ⟨_, rfl⟩
  unfold newFoList at hf
  rw [hbl] at hf
  subst hf
  have HC : Hid _ := hc
  have HB : Hid _ := hbl
  rw [hc] at hr
  have HL : Hid (cd ≠ 0 → bl = []) := fun h0 => by rw [← hbl, newBList, hc, if_neg h0]
  clear hc hbl
  go_enter Try.func113, Try.ntmps113
  go_wp2_with fail
  refine (specNewBlocks_is x _ cd bl HC.out HB.out).mono ?_
  rintro e w1 ⟨ra, rn, rc, rfl, RR, hb1⟩
  have hz0 := hz
  replace RR := RR.widen (lo' := w.heap.size + 1) hz0 (Nat.le_refl _)
  replace z0 := cell_later hb1 z0
  replace z1 := cell_later hb1 z1
  replace z2 := cell_later hb1 z2
  replace z3 := cell_later hb1 z3
  replace y0 := frozen_later hb1 hz y0
  replace y1 := frozen_later hb1 hz y1
  replace y2 := frozen_later hb1 hz y2
  replace y3 := frozen_later hb1 hz y3
  replace hz := Nat.lt_of_lt_of_le hz hb1.size
  replace B := below_next B hb1
  clear hb1 hz0
  have A : Below w1.heap.size w1 (w1.alloc (.cells #[.int .i64 cd, .int .i64 0, .slice ra rn rc] 51)) := (Below.refl _ _).alloc (Nat.le_refl _) _
  have g0 : (w1.alloc (.cells #[.int .i64 cd, .int .i64 0, .slice ra rn rc] 51)).cell? ⟨w1.heap.size, 0, none⟩ = some (.int .i64 cd) := by simp
  have g2 : (w1.alloc (.cells #[.int .i64 cd, .int .i64 0, .slice ra rn rc] 51)).cell? ⟨w1.heap.size, 2, none⟩ = some (.slice ra rn rc) := by simp
  replace z0 := cell_later A z0
  replace z1 := cell_later A z1
  replace z2 := cell_later A z2
  replace z3 := cell_later A z3
  replace y0 := frozen_later A hz y0
  replace y1 := frozen_later A hz y1
  replace y2 := frozen_later A hz y2
  replace y3 := frozen_later A hz y3
  replace hz := Nat.lt_of_lt_of_le hz A.size
  have RA := RR.below A
  replace B := below_next B A
  clear A
  by_cases h0 : cd = 0
  · subst h0
    rw [if_pos rfl] at hr
    subst hr
    go_wp2
    refine bodyPost_ret (v := .agg #[.int .i64 0, .int .i64 (-1), .slice none 0 0, .slice ra rn rc]) (by simp [results, Try.results113, go_sem, z0, z1, z2, z3]) rfl ⟨_, _, _, _, _, _, fun _ => (none, 0, 0), rfl, ⟨rfl, RowAt.nil _ _ _ _ _, fun i hi => absurd hi (by omega), ?_, fun i hi => absurd hi (by omega), fun h => absurd rfl h⟩, ?_⟩
    · refine RowAt.widen (RowAt.kept RA (l := w.heap.size) (u := w.heap.size + 1) ?_ (by omega)) (by omega) ?_
      · refine Kept.setCell (Kept.setCell (Kept.setCell (Kept.setCell (Kept.refl _ _ _) ?_ ?_ _) ?_ ?_ _) ?_ ?_ _) ?_ ?_ _ <;> simp
      · simp
    · refine Below.setCell (Below.setCell (Below.setCell (Below.setCell B ?_ _) ?_ _) ?_ _) ?_ _ <;> simp
  · rw [if_neg h0] at hr
    subst hr
    have hne : (cd != 0) = true := by simp [h0]
    have HE : Hid _ := HL.out h0
    clear h0
    go_wp2_with fail
    refine (l4Bad_any cd _).mono ?_
    rintro e w2 ⟨rfl, hb1⟩
    replace z0 := cell_later hb1 z0
    replace z1 := cell_later hb1 z1
    replace z2 := cell_later hb1 z2
    replace z3 := cell_later hb1 z3
    replace y0 := frozen_later hb1 hz y0
    replace y1 := frozen_later hb1 hz y1
    replace y2 := frozen_later hb1 hz y2
    replace y3 := frozen_later hb1 hz y3
    replace B := below_next B hb1
    clear hb1 g0 g2
    go_wp2
    rw [HE.out]
    refine bodyPost_ret (v := .agg #[.int .i64 cd, .int .i64 0, .slice none 0 0, .slice none 0 0]) (by simp [results, Try.results113, go_sem, z0, z1, z2, z3]) rfl ⟨_, _, _, _, _, _, _, rfl, FoU.nil _ _ _, ?_⟩
    refine Below.setCell (Below.setCell (Below.setCell (Below.setCell B ?_ _) ?_ _) ?_ _) ?_ _ <;> simp

end Go.Proofs.Ytkdaphfmhdkhfaa

/- Chapter 4: the model's answer, told with where it may be written. -/
namespace Go.Proofs.Ytkdaphfmhdkhfaa
open Go.RowKit

set_option maxRecDepth 20000 in
set_option maxHeartbeats 4000000 in
theorem specShareT_u {o : Bool} {l u : Nat} (an : Option Addr) (nn cn : Nat) (ab : Option Addr) (nb cb : Nat) (K : Nat → KS) (f : Fo) (w : World) (h : FoAt w o l u an nn cn ab nb cb K f) (hn : nn ≤ 2097152) (hb : nb ≤ 2097152) (hK : ∀ i, i < nn → (K i).2.1 ≤ 2097152) (root : Int) (cd rt : Int) (g : Fo) (hc : shareTCode f root = cd) (hr : atIf (shareTCode f root) root = rt) (hf : shareFo f root = g) : Calls Try.prog 57 #[.agg #[.slice an nn cn, .slice ab nb cb], .int .i64 root] w fun e w' => FoResU w w' e cd rt g := by
  have B : Below w.heap.size w ((w.alloc (.cells #[.slice an nn cn, .slice ab nb cb] 60)).alloc (.cells #[.int .i64 0, .int .i64 0, .slice none 0 0, .slice none 0 0] 64)) := ((Below.refl _ _).alloc (Nat.le_refl _) _).alloc (by simp) _
  have g0 : ((w.alloc (.cells #[.slice an nn cn, .slice ab nb cb] 60)).alloc (.cells #[.int .i64 0, .int .i64 0, .slice none 0 0, .slice none 0 0] 64)).cell? ⟨w.heap.size, 0, none⟩ = some (.slice an nn cn) := by simp
  have g1 : ((w.alloc (.cells #[.slice an nn cn, .slice ab nb cb] 60)).alloc (.cells #[.int .i64 0, .int .i64 0, .slice none 0 0, .slice none 0 0] 64)).cell? ⟨w.heap.size, 1, none⟩ = some (.slice ab nb cb) := by simp
  have z0 : ((w.alloc (.cells #[.slice an nn cn, .slice ab nb cb] 60)).alloc (.cells #[.int .i64 0, .int .i64 0, .slice none 0 0, .slice none 0 0] 64)).cell? ⟨w.heap.size + 1, 0, none⟩ = some (.int .i64 0) := by simp
  have z1 : ((w.alloc (.cells #[.slice an nn cn, .slice ab nb cb] 60)).alloc (.cells #[.int .i64 0, .int .i64 0, .slice none 0 0, .slice none 0 0] 64)).cell? ⟨w.heap.size + 1, 1, none⟩ = some (.int .i64 0) := by simp
  have z2 : ((w.alloc (.cells #[.slice an nn cn, .slice ab nb cb] 60)).alloc (.cells #[.int .i64 0, .int .i64 0, .slice none 0 0, .slice none 0 0] 64)).cell? ⟨w.heap.size + 1, 2, none⟩ = some (.slice none 0 0) := by simp
  have z3 : ((w.alloc (.cells #[.slice an nn cn, .slice ab nb cb] 60)).alloc (.cells #[.int .i64 0, .int .i64 0, .slice none 0 0, .slice none 0 0] 64)).cell? ⟨w.heap.size + 1, 3, none⟩ = some (.slice none 0 0) := by simp
  have y0 : ((w.alloc (.cells #[.slice an nn cn, .slice ab nb cb] 60)).alloc (.cells #[.int .i64 0, .int .i64 0, .slice none 0 0, .slice none 0 0] 64)).frozen? ⟨w.heap.size + 1, 0, none⟩ = false := by simp
  have y1 : ((w.alloc (.cells #[.slice an nn cn, .slice ab nb cb] 60)).alloc (.cells #[.int .i64 0, .int .i64 0, .slice none 0 0, .slice none 0 0] 64)).frozen? ⟨w.heap.size + 1, 1, none⟩ = false := by simp
  have y2 : ((w.alloc (.cells #[.slice an nn cn, .slice ab nb cb] 60)).alloc (.cells #[.int .i64 0, .int .i64 0, .slice none 0 0, .slice none 0 0] 64)).frozen? ⟨w.heap.size + 1, 2, none⟩ = false := by simp
  have y3 : ((w.alloc (.cells #[.slice an nn cn, .slice ab nb cb] 60)).alloc (.cells #[.int .i64 0, .int .i64 0, .slice none 0 0, .slice none 0 0] 64)).frozen? ⟨w.heap.size + 1, 3, none⟩ = false := by simp
  have hz : w.heap.size + 1 < ((w.alloc (.cells #[.slice an nn cn, .slice ab nb cb] 60)).alloc (.cells #[.int .i64 0, .int .i64 0, .slice none 0 0, .slice none 0 0] 64)).heap.size := by simp
  have r := h.below B
  have hl := h.nodes.len
  by_cases h0 : treeCode f root 0 = 0
  · have H0 : Hid _ := h0
    have T := tree_of h0
    have HN : Hid _ := fo_small h T.right.inv
    by_cases hr0 : 0 ≤ root
    · obtain ⟨_, r1, r2⟩ := T.ro.resolve_left (by omega)
      have hri := live_lt r1
      obtain ⟨k, rfl⟩ : ∃ k : Nat, root = k := ⟨root.toNat, by omega⟩
      rw [Int.toNat_natCast] at r1 r2 hri
      have hlt : k < nn := by omega
      have hlk : (k : Int) < nn := by omega
      have hrr := (T.right.inv.nd k).r1
      have hrr0 := (T.right.inv.nd k).r0
      unfold nodeOf at r1 r2 hrr hrr0
      obtain ⟨b, off, rfl, _, _, _, e1, _, _, _⟩ := r.nodes.node hlt
      obtain ⟨⟨rr, lf, ks⟩, hnd⟩ : ∃ nd, f.1.getD k nd0 = nd := ⟨_, rfl⟩
      rw [hnd] at e1 hrr hrr0
      simp only at e1 hrr hrr0
      by_cases h200 : 200 ≤ rr
      · have t0 : shareTCode f (k : Int) = 2 := by rw [shareTCode, if_pos h0, Int.toNat_natCast, if_pos ⟨hr0, by unfold nodeOf; rw [hnd]; exact h200⟩]
        have t1 : shareFo f (k : Int) = ([], []) := by rw [shareFo, t0]; rfl
        rw [t0] at hc hr
        rw [t1] at hf
        obtain rfl : rt = 0 := hr.symm
        subst hc
        subst hf
        clear h0 T t0 t1 hr hnd r1 r2
        go_enter Try.func57, Try.ntmps57
        go_wp2_with fail
        refine (l4Asked_is w.heap.size _ nn cn ab nb cb K f _ (by exact r) g0 g1 hn hb hK (k : Int) 0 0 H0.out).mono ?_
        rintro e w1 ⟨rfl, hb1⟩
        replace z0 := cell_later hb1 z0
        replace z1 := cell_later hb1 z1
        replace z2 := cell_later hb1 z2
        replace z3 := cell_later hb1 z3
        replace y0 := frozen_later hb1 hz y0
        replace y1 := frozen_later hb1 hz y1
        replace y2 := frozen_later hb1 hz y2
        replace y3 := frozen_later hb1 hz y3
        replace g0 := cell_later hb1 g0
        replace g1 := cell_later hb1 g1
        replace e1 := cell_later hb1 e1
        replace r := r.below hb1
        replace hz := Nat.lt_of_lt_of_le hz hb1.size
        replace B := below_next B hb1
        clear hb1
        have hz0 := hz
        go_wp2_with fail
        refine (l4Copy_any _ nn cn ab nb cb K f _ (by exact r) HN.out.1 HN.out.2.1 HN.out.2.2).mono ?_
        rintro e w2 ⟨va, vc, bb, bc, K', rfl, I, hb1⟩
        replace z0 := cell_later hb1 z0
        replace z1 := cell_later hb1 z1
        replace z2 := cell_later hb1 z2
        replace z3 := cell_later hb1 z3
        replace y0 := frozen_later hb1 hz y0
        replace y1 := frozen_later hb1 hz y1
        replace y2 := frozen_later hb1 hz y2
        replace y3 := frozen_later hb1 hz y3
        replace g0 := cell_later hb1 g0
        replace g1 := cell_later hb1 g1
        replace e1 := cell_later hb1 e1
        replace r := r.below hb1
        replace hz := Nat.lt_of_lt_of_le hz hb1.size
        replace B := below_next B hb1
        clear hb1
        have A : Below w2.heap.size w2 (w2.alloc (.cells #[.slice va nn vc, .slice bb nb bc] 60)) := (Below.refl _ _).alloc (Nat.le_refl _) _
        replace z0 := cell_later A z0
        replace z1 := cell_later A z1
        replace z2 := cell_later A z2
        replace z3 := cell_later A z3
        replace y0 := frozen_later A hz y0
        replace y1 := frozen_later A hz y1
        replace y2 := frozen_later A hz y2
        replace y3 := frozen_later A hz y3
        replace g0 := cell_later A g0
        replace g1 := cell_later A g1
        replace e1 := cell_later A e1
        replace r := r.below A
        replace hz := Nat.lt_of_lt_of_le hz A.size
        replace B := below_next B A
        clear A
        go_wp2_with fail
        refine (l4Bad_any 2 _).mono ?_
        rintro e wb ⟨rfl, hb1⟩
        replace z0 := cell_later hb1 z0
        replace z1 := cell_later hb1 z1
        replace z2 := cell_later hb1 z2
        replace z3 := cell_later hb1 z3
        replace y0 := frozen_later hb1 hz y0
        replace y1 := frozen_later hb1 hz y1
        replace y2 := frozen_later hb1 hz y2
        replace y3 := frozen_later hb1 hz y3
        replace g0 := cell_later hb1 g0
        replace g1 := cell_later hb1 g1
        replace e1 := cell_later hb1 e1
        replace r := r.below hb1
        replace hz := Nat.lt_of_lt_of_le hz hb1.size
        replace B := below_next B hb1
        clear hb1
        go_wp2
        refine bodyPost_ret (v := .agg #[.int .i64 2, .int .i64 0, .slice none 0 0, .slice none 0 0]) (by simp [results, Try.results57, go_sem, z0, z1, z2, z3]) rfl ⟨_, _, _, _, _, _, _, rfl, FoU.nil _ _ _, ?_⟩
        refine Below.setCell (Below.setCell (Below.setCell (Below.setCell B ?_ _) ?_ _) ?_ _) ?_ _ <;> simp
      · have t0 : shareTCode f (k : Int) = 0 := by rw [shareTCode, if_pos h0, Int.toNat_natCast, if_neg (fun hx => h200 (by have := hx.2; unfold nodeOf at this; rw [hnd] at this; exact this))]
        have t1 : shareFo f (k : Int) = (f.1.set k (rr + 1, (f.1.getD k nd0).2), f.2) := by rw [shareFo, t0, foIf, if_pos rfl, shareF, if_pos hr0, Int.toNat_natCast, moreAt, moreNd]; unfold nodeOf; rw [hnd]
        rw [t0] at hc hr
        rw [t1] at hf
        obtain rfl : rt = (k : Int) := hr.symm
        subst hc
        subst hf
        have HD : Hid _ := hnd
        clear h0 T t0 t1 hr hnd r1 r2
        go_enter Try.func57, Try.ntmps57
        go_wp2_with fail
        refine (l4Asked_is w.heap.size _ nn cn ab nb cb K f _ (by exact r) g0 g1 hn hb hK (k : Int) 0 0 H0.out).mono ?_
        rintro e w1 ⟨rfl, hb1⟩
        replace z0 := cell_later hb1 z0
        replace z1 := cell_later hb1 z1
        replace z2 := cell_later hb1 z2
        replace z3 := cell_later hb1 z3
        replace y0 := frozen_later hb1 hz y0
        replace y1 := frozen_later hb1 hz y1
        replace y2 := frozen_later hb1 hz y2
        replace y3 := frozen_later hb1 hz y3
        replace g0 := cell_later hb1 g0
        replace g1 := cell_later hb1 g1
        replace e1 := cell_later hb1 e1
        replace r := r.below hb1
        replace hz := Nat.lt_of_lt_of_le hz hb1.size
        replace B := below_next B hb1
        clear hb1
        have hz0 := hz
        go_wp2_with fail
        refine (l4Copy_any _ nn cn ab nb cb K f _ (by exact r) HN.out.1 HN.out.2.1 HN.out.2.2).mono ?_
        rintro e w2 ⟨va, vc, bb, bc, K', rfl, I, hb1⟩
        replace z0 := cell_later hb1 z0
        replace z1 := cell_later hb1 z1
        replace z2 := cell_later hb1 z2
        replace z3 := cell_later hb1 z3
        replace y0 := frozen_later hb1 hz y0
        replace y1 := frozen_later hb1 hz y1
        replace y2 := frozen_later hb1 hz y2
        replace y3 := frozen_later hb1 hz y3
        replace g0 := cell_later hb1 g0
        replace g1 := cell_later hb1 g1
        replace e1 := cell_later hb1 e1
        replace r := r.below hb1
        replace hz := Nat.lt_of_lt_of_le hz hb1.size
        replace B := below_next B hb1
        clear hb1
        have A : Below w2.heap.size w2 (w2.alloc (.cells #[.slice va nn vc, .slice bb nb bc] 60)) := (Below.refl _ _).alloc (Nat.le_refl _) _
        replace z0 := cell_later A z0
        replace z1 := cell_later A z1
        replace z2 := cell_later A z2
        replace z3 := cell_later A z3
        replace y0 := frozen_later A hz y0
        replace y1 := frozen_later A hz y1
        replace y2 := frozen_later A hz y2
        replace y3 := frozen_later A hz y3
        replace g0 := cell_later A g0
        replace g1 := cell_later A g1
        replace e1 := cell_later A e1
        replace r := r.below A
        replace hz := Nat.lt_of_lt_of_le hz A.size
        replace B := below_next B A
        clear A
        obtain ⟨gN, gc, ev, hgl, d1, _, _, x1, _, _⟩ := I.node (i := k) (by omega)
        rw [HD.out] at d1
        simp only at d1
        injection ev with ea en1 en3
        clear en1 en3
        subst ea
        have c0 := I.c0
        have c1 := I.c1
        have IR := I.refs hl.symm (i := k) (by omega) (rr + 1)
        have S : KeptS (fun x => x = gN) (w2.alloc (.cells #[.slice (some ⟨gN, 0, none⟩) nn vc, .slice bb nb bc] 60)) ((w2.alloc (.cells #[.slice (some ⟨gN, 0, none⟩) nn vc, .slice bb nb bc] 60)).setCell ⟨gN, k * 3, none⟩ (.int .i64 (rr + 1))) := by
          refine KeptS.setCell (KeptS.refl _ _) ?_ _; rfl
        have hgn : w.heap.size + 1 < gN := by have := (I.own.lt gN rfl).1; omega
        replace z0 := S.cell z0 hz (by omega)
        replace z1 := S.cell z1 hz (by omega)
        replace z2 := S.cell z2 hz (by omega)
        replace z3 := S.cell z3 hz (by omega)
        replace y0 := S.frozen y0 hz (by omega)
        replace y1 := S.frozen y1 hz (by omega)
        replace y2 := S.frozen y2 hz (by omega)
        replace y3 := S.frozen y3 hz (by omega)
        have c0' := IR.c0
        have c1' := IR.c1
        replace B := B.setCell (p := ⟨gN, k * 3, none⟩) (by show w.heap.size ≤ gN; omega) (.int .i64 (rr + 1))
        obtain ⟨_, _, ev2, RF⟩ := IR.readU
        injection ev2 with ea2 en2 ec2
        clear en2
        subst ea2
        subst ec2
        have hlst : (f.1.set k (rr + 1, (f.1.getD k nd0).2)).length = nn := by simp; omega
        rw [hlst] at RF
        have HF : Hid _ := RF
        have hs2 : w.heap.size + 2 ≤ w2.heap.size := by have := I.hP; omega
        clear RF IR S I r hlst
        go_wp2
        refine bodyPost_ret (v := .agg #[.int .i64 0, .int .i64 (k : Int), .slice (some ⟨gN, 0, none⟩) nn vc, .slice bb nb bc]) (by simp [results, Try.results57, go_sem, z0, z1, z2, z3]) rfl ⟨_, _, _, _, _, _, K', rfl, ?_, ?_⟩
        · refine FoU.widen (FoU.kept HF.out (l := w.heap.size + 1) (u := w.heap.size + 2) ?_ (by omega)) (by omega) (by simp)
          refine Kept.setCell (Kept.setCell (Kept.setCell (Kept.setCell (Kept.refl _ _ _) ?_ ?_ _) ?_ ?_ _) ?_ ?_ _) ?_ ?_ _ <;> simp
        · refine Below.setCell (Below.setCell (Below.setCell (Below.setCell B ?_ _) ?_ _) ?_ _) ?_ _ <;> simp
    · have t0 : shareTCode f root = 0 := by rw [shareTCode, if_pos h0, if_neg (fun hx => hr0 hx.1)]
      have t1 : shareFo f root = f := by rw [shareFo, t0, foIf, if_pos rfl, shareF, if_neg hr0]
      rw [t0] at hc hr
      rw [t1] at hf
      obtain rfl : rt = root := hr.symm
      subst hc
      subst hf
      have hr0' : ¬ (0 : Int) ≤ rt := hr0
      clear h0 T t0 t1 hr hr0
      go_enter Try.func57, Try.ntmps57
      go_wp2_with fail
      refine (l4Asked_is w.heap.size an nn cn ab nb cb K f _ (by exact r) g0 g1 hn hb hK rt 0 0 H0.out).mono ?_
      rintro e w1 ⟨rfl, hb1⟩
      replace z0 := cell_later hb1 z0
      replace z1 := cell_later hb1 z1
      replace z2 := cell_later hb1 z2
      replace z3 := cell_later hb1 z3
      replace y0 := frozen_later hb1 hz y0
      replace y1 := frozen_later hb1 hz y1
      replace y2 := frozen_later hb1 hz y2
      replace y3 := frozen_later hb1 hz y3
      replace g0 := cell_later hb1 g0
      replace g1 := cell_later hb1 g1
      replace r := r.below hb1
      replace hz := Nat.lt_of_lt_of_le hz hb1.size
      replace B := below_next B hb1
      clear hb1
      have hz0 := hz
      go_wp2_with fail
      refine (l4Copy_any an nn cn ab nb cb K f _ (by exact r) HN.out.1 HN.out.2.1 HN.out.2.2).mono ?_
      rintro e w2 ⟨va, vc, bb, bc, K', rfl, I, hb1⟩
      replace z0 := cell_later hb1 z0
      replace z1 := cell_later hb1 z1
      replace z2 := cell_later hb1 z2
      replace z3 := cell_later hb1 z3
      replace y0 := frozen_later hb1 hz y0
      replace y1 := frozen_later hb1 hz y1
      replace y2 := frozen_later hb1 hz y2
      replace y3 := frozen_later hb1 hz y3
      replace g0 := cell_later hb1 g0
      replace g1 := cell_later hb1 g1
      replace r := r.below hb1
      replace hz := Nat.lt_of_lt_of_le hz hb1.size
      replace B := below_next B hb1
      clear hb1
      have A : Below w2.heap.size w2 (w2.alloc (.cells #[.slice va nn vc, .slice bb nb bc] 60)) := (Below.refl _ _).alloc (Nat.le_refl _) _
      replace z0 := cell_later A z0
      replace z1 := cell_later A z1
      replace z2 := cell_later A z2
      replace z3 := cell_later A z3
      replace y0 := frozen_later A hz y0
      replace y1 := frozen_later A hz y1
      replace y2 := frozen_later A hz y2
      replace y3 := frozen_later A hz y3
      replace g0 := cell_later A g0
      replace g1 := cell_later A g1
      replace r := r.below A
      replace hz := Nat.lt_of_lt_of_le hz A.size
      replace B := below_next B A
      clear A
      have hlo := hz0
      have c0 := I.c0
      have c1 := I.c1
      obtain ⟨_, _, ev2, RF⟩ := I.readU
      injection ev2 with ea2 en2 ec2
      clear en2
      subst ea2
      subst ec2
      rw [hl] at RF
      have HF : Hid _ := RF
      have hs2 : w.heap.size + 2 ≤ w2.heap.size := by have := I.hP; omega
      clear RF I r
      go_wp2
      refine bodyPost_ret (v := .agg #[.int .i64 0, .int .i64 rt, .slice va nn vc, .slice bb nb bc]) (by simp [results, Try.results57, go_sem, z0, z1, z2, z3]) rfl ⟨_, _, _, _, _, _, K', rfl, ?_, ?_⟩
      · refine FoU.widen (FoU.kept HF.out (l := w.heap.size + 1) (u := w.heap.size + 2) ?_ (by omega)) (by omega) (by simp)
        refine Kept.setCell (Kept.setCell (Kept.setCell (Kept.setCell (Kept.refl _ _ _) ?_ ?_ _) ?_ ?_ _) ?_ ?_ _) ?_ ?_ _ <;> simp
      · refine Below.setCell (Below.setCell (Below.setCell (Below.setCell B ?_ _) ?_ _) ?_ _) ?_ _ <;> simp
  · obtain ⟨c, hcc⟩ : ∃ c, treeCode f root 0 = c := ⟨_, rfl⟩
    have t0 : shareTCode f root = c := by rw [shareTCode, if_neg h0, hcc]
    rw [hcc] at h0
    have t1 : shareFo f root = ([], []) := by rw [shareFo, t0, foIf, if_neg h0]
    rw [t0] at hc hr
    rw [t1] at hf
    subst hc
    subst hf
    obtain rfl : rt = 0 := by rw [← hr, atIf, if_neg h0]
    have HC : Hid _ := hcc
    have hne : (c != 0) = true := by simp [h0]
    clear h0 hcc t0 t1 hr
    go_enter Try.func57, Try.ntmps57
    go_wp2_with fail
    refine (l4Asked_is w.heap.size an nn cn ab nb cb K f _ (by exact r) g0 g1 hn hb hK root 0 c HC.out).mono ?_
    rintro e w1 ⟨rfl, hb1⟩
    replace z0 := cell_later hb1 z0
    replace z1 := cell_later hb1 z1
    replace z2 := cell_later hb1 z2
    replace z3 := cell_later hb1 z3
    replace y0 := frozen_later hb1 hz y0
    replace y1 := frozen_later hb1 hz y1
    replace y2 := frozen_later hb1 hz y2
    replace y3 := frozen_later hb1 hz y3
    replace g0 := cell_later hb1 g0
    replace g1 := cell_later hb1 g1
    replace r := r.below hb1
    replace hz := Nat.lt_of_lt_of_le hz hb1.size
    replace B := below_next B hb1
    clear hb1
    go_wp2_with fail
    refine (l4Bad_any c _).mono ?_
    rintro e wb ⟨rfl, hb1⟩
    replace z0 := cell_later hb1 z0
    replace z1 := cell_later hb1 z1
    replace z2 := cell_later hb1 z2
    replace z3 := cell_later hb1 z3
    replace y0 := frozen_later hb1 hz y0
    replace y1 := frozen_later hb1 hz y1
    replace y2 := frozen_later hb1 hz y2
    replace y3 := frozen_later hb1 hz y3
    replace g0 := cell_later hb1 g0
    replace g1 := cell_later hb1 g1
    replace r := r.below hb1
    replace hz := Nat.lt_of_lt_of_le hz hb1.size
    replace B := below_next B hb1
    clear hb1
    go_wp2
    refine bodyPost_ret (v := .agg #[.int .i64 c, .int .i64 0, .slice none 0 0, .slice none 0 0]) (by simp [results, Try.results57, go_sem, z0, z1, z2, z3]) rfl ⟨_, _, _, _, _, _, _, rfl, FoU.nil _ _ _, ?_⟩
    refine Below.setCell (Below.setCell (Below.setCell (Below.setCell B ?_ _) ?_ _) ?_ _) ?_ _ <;> simp

end Go.Proofs.Ytkdaphfmhdkhfaa

/- Chapter 4: the model's answer, told with where it may be written. -/
namespace Go.Proofs.Ytkdaphfmhdkhfaa
open Go.RowKit

set_option maxRecDepth 20000 in
set_option maxHeartbeats 4000000 in
theorem specDropT_u {o : Bool} {l u : Nat} (an : Option Addr) (nn cn : Nat) (ab : Option Addr) (nb cb : Nat) (K : Nat → KS) (f : Fo) (w : World) (h : FoAt w o l u an nn cn ab nb cb K f) (hn : nn ≤ 2097152) (hb : nb ≤ 2097152) (hK : ∀ i, i < nn → (K i).2.1 ≤ 2097152) (root : Int) (cd rt : Int) (g : Fo) (hc : treeCode f root 0 = cd) (hr : dropRoot f root = rt) (hf : dropFo f root = g) : Calls Try.prog 119 #[.agg #[.slice an nn cn, .slice ab nb cb], .int .i64 root] w fun e w' => FoResU w w' e cd rt g := by
  have B : Below w.heap.size w ((w.alloc (.cells #[.slice an nn cn, .slice ab nb cb] 60)).alloc (.cells #[.int .i64 0, .int .i64 0, .slice none 0 0, .slice none 0 0] 64)) := ((Below.refl _ _).alloc (Nat.le_refl _) _).alloc (by simp) _
  have g0 : ((w.alloc (.cells #[.slice an nn cn, .slice ab nb cb] 60)).alloc (.cells #[.int .i64 0, .int .i64 0, .slice none 0 0, .slice none 0 0] 64)).cell? ⟨w.heap.size, 0, none⟩ = some (.slice an nn cn) := by simp
  have g1 : ((w.alloc (.cells #[.slice an nn cn, .slice ab nb cb] 60)).alloc (.cells #[.int .i64 0, .int .i64 0, .slice none 0 0, .slice none 0 0] 64)).cell? ⟨w.heap.size, 1, none⟩ = some (.slice ab nb cb) := by simp
  have z0 : ((w.alloc (.cells #[.slice an nn cn, .slice ab nb cb] 60)).alloc (.cells #[.int .i64 0, .int .i64 0, .slice none 0 0, .slice none 0 0] 64)).cell? ⟨w.heap.size + 1, 0, none⟩ = some (.int .i64 0) := by simp
  have z1 : ((w.alloc (.cells #[.slice an nn cn, .slice ab nb cb] 60)).alloc (.cells #[.int .i64 0, .int .i64 0, .slice none 0 0, .slice none 0 0] 64)).cell? ⟨w.heap.size + 1, 1, none⟩ = some (.int .i64 0) := by simp
  have z2 : ((w.alloc (.cells #[.slice an nn cn, .slice ab nb cb] 60)).alloc (.cells #[.int .i64 0, .int .i64 0, .slice none 0 0, .slice none 0 0] 64)).cell? ⟨w.heap.size + 1, 2, none⟩ = some (.slice none 0 0) := by simp
  have z3 : ((w.alloc (.cells #[.slice an nn cn, .slice ab nb cb] 60)).alloc (.cells #[.int .i64 0, .int .i64 0, .slice none 0 0, .slice none 0 0] 64)).cell? ⟨w.heap.size + 1, 3, none⟩ = some (.slice none 0 0) := by simp
  have y0 : ((w.alloc (.cells #[.slice an nn cn, .slice ab nb cb] 60)).alloc (.cells #[.int .i64 0, .int .i64 0, .slice none 0 0, .slice none 0 0] 64)).frozen? ⟨w.heap.size + 1, 0, none⟩ = false := by simp
  have y1 : ((w.alloc (.cells #[.slice an nn cn, .slice ab nb cb] 60)).alloc (.cells #[.int .i64 0, .int .i64 0, .slice none 0 0, .slice none 0 0] 64)).frozen? ⟨w.heap.size + 1, 1, none⟩ = false := by simp
  have y2 : ((w.alloc (.cells #[.slice an nn cn, .slice ab nb cb] 60)).alloc (.cells #[.int .i64 0, .int .i64 0, .slice none 0 0, .slice none 0 0] 64)).frozen? ⟨w.heap.size + 1, 2, none⟩ = false := by simp
  have y3 : ((w.alloc (.cells #[.slice an nn cn, .slice ab nb cb] 60)).alloc (.cells #[.int .i64 0, .int .i64 0, .slice none 0 0, .slice none 0 0] 64)).frozen? ⟨w.heap.size + 1, 3, none⟩ = false := by simp
  have hz : w.heap.size + 1 < ((w.alloc (.cells #[.slice an nn cn, .slice ab nb cb] 60)).alloc (.cells #[.int .i64 0, .int .i64 0, .slice none 0 0, .slice none 0 0] 64)).heap.size := by simp
  have r := h.below B
  have hl := h.nodes.len
  by_cases h0 : treeCode f root 0 = 0
  · have H0 : Hid _ := h0
    have T := tree_of h0
    have HN : Hid _ := fo_small h T.right.inv
    have t1 : dropFo f root = dropF f root := by rw [dropFo, h0]; rfl
    have t2 : dropRoot f root = -1 := by rw [dropRoot, h0]; rfl
    rw [h0] at hc
    rw [t1] at hf
    rw [t2] at hr
    subst hc
    subst hr
    by_cases hr0 : 0 ≤ root
    · obtain ⟨_, r1, r2⟩ := T.ro.resolve_left (by omega)
      obtain ⟨k, rfl⟩ : ∃ k : Nat, root = k := ⟨root.toNat, by omega⟩
      rw [Int.toNat_natCast] at r1 r2
      have HP : Hid _ := rootPre_of T.right.inv (fun j => by rw [extB_zero T.right]; decide) (ext_pos T.right) r1 r2
      have HG : Hid (lessRoot f k = g) := by show _ = _; rw [← hf, dropF, if_pos hr0, Int.toNat_natCast]
      have HL : Hid _ := (lessRoot_ok T.right.inv (fun j => by rw [extB_zero T.right]; decide) (ext_pos T.right) r1 r2).1.ln
      rw [HG.out] at HL
      clear h0 T t1 t2 hf r1 r2
      go_enter Try.func119, Try.ntmps119
      go_wp2_with fail
      refine (l4Asked_is w.heap.size an nn cn ab nb cb K f _ (by exact r) g0 g1 hn hb hK (k : Int) 0 0 H0.out).mono ?_
      rintro e w1 ⟨rfl, hb1⟩
      replace z0 := cell_later hb1 z0
      replace z1 := cell_later hb1 z1
      replace z2 := cell_later hb1 z2
      replace z3 := cell_later hb1 z3
      replace y0 := frozen_later hb1 hz y0
      replace y1 := frozen_later hb1 hz y1
      replace y2 := frozen_later hb1 hz y2
      replace y3 := frozen_later hb1 hz y3
      replace g0 := cell_later hb1 g0
      replace g1 := cell_later hb1 g1
      replace r := r.below hb1
      replace hz := Nat.lt_of_lt_of_le hz hb1.size
      replace B := below_next B hb1
      clear hb1
      have hz0 := hz
      go_wp2_with fail
      refine (l4Copy_any an nn cn ab nb cb K f _ (by exact r) HN.out.1 HN.out.2.1 HN.out.2.2).mono ?_
      rintro e w2 ⟨va, vc, bb, bc, K', rfl, I, hb1⟩
      replace z0 := cell_later hb1 z0
      replace z1 := cell_later hb1 z1
      replace z2 := cell_later hb1 z2
      replace z3 := cell_later hb1 z3
      replace y0 := frozen_later hb1 hz y0
      replace y1 := frozen_later hb1 hz y1
      replace y2 := frozen_later hb1 hz y2
      replace y3 := frozen_later hb1 hz y3
      replace g0 := cell_later hb1 g0
      replace g1 := cell_later hb1 g1
      replace r := r.below hb1
      replace hz := Nat.lt_of_lt_of_le hz hb1.size
      replace B := below_next B hb1
      clear hb1
      have A : Below w2.heap.size w2 (w2.alloc (.cells #[.slice va nn vc, .slice bb nb bc] 60)) := (Below.refl _ _).alloc (Nat.le_refl _) _
      replace z0 := cell_later A z0
      replace z1 := cell_later A z1
      replace z2 := cell_later A z2
      replace z3 := cell_later A z3
      replace y0 := frozen_later A hz y0
      replace y1 := frozen_later A hz y1
      replace y2 := frozen_later A hz y2
      replace y3 := frozen_later A hz y3
      replace g0 := cell_later A g0
      replace g1 := cell_later A g1
      replace r := r.below A
      replace hz := Nat.lt_of_lt_of_le hz A.size
      replace B := below_next B A
      clear A
      have hlo := hz0
      have hnb : nb ≤ 24 := HN.out.2.1
      have c0 := I.c0
      have c1 := I.c1
      have hP := I.hP
      go_wp2_with fail
      refine (l4Less_root I hnb HP.out g HG.out).mono ?_
      rintro e w3 ⟨⟨v, rfl⟩, ⟨K3, I3⟩, S3⟩
      have hbl := I.bel S3
      replace z0 := (hbl.cell (p := ⟨w.heap.size + 1, 0, none⟩) (by show w.heap.size + 1 < _; omega)).trans z0
      replace z1 := (hbl.cell (p := ⟨w.heap.size + 1, 1, none⟩) (by show w.heap.size + 1 < _; omega)).trans z1
      replace z2 := (hbl.cell (p := ⟨w.heap.size + 1, 2, none⟩) (by show w.heap.size + 1 < _; omega)).trans z2
      replace z3 := (hbl.cell (p := ⟨w.heap.size + 1, 3, none⟩) (by show w.heap.size + 1 < _; omega)).trans z3
      replace y0 := (hbl.frozen (p := ⟨w.heap.size + 1, 0, none⟩) (by show w.heap.size + 1 < _; omega)).trans y0
      replace y1 := (hbl.frozen (p := ⟨w.heap.size + 1, 1, none⟩) (by show w.heap.size + 1 < _; omega)).trans y1
      replace y2 := (hbl.frozen (p := ⟨w.heap.size + 1, 2, none⟩) (by show w.heap.size + 1 < _; omega)).trans y2
      replace y3 := (hbl.frozen (p := ⟨w.heap.size + 1, 3, none⟩) (by show w.heap.size + 1 < _; omega)).trans y3
      replace B := B.trans (hbl.mono (by omega))
      replace c0 := I3.c0
      replace c1 := I3.c1
      obtain ⟨_, _, ev2, RF⟩ := I3.readU
      injection ev2 with ea2 en2 ec2
      clear en2
      subst ea2
      subst ec2
      rw [HL.out, hl] at RF
      have HF : Hid _ := RF
      clear RF I I3 r S3 hbl
      go_wp2
      refine bodyPost_ret (v := .agg #[.int .i64 0, .int .i64 (-1), .slice va nn vc, .slice bb nb bc]) (by simp [results, Try.results119, go_sem, z0, z1, z2, z3]) rfl ⟨_, _, _, _, _, _, K3, rfl, ?_, ?_⟩
      · refine FoU.widen (FoU.kept HF.out (l := w.heap.size + 1) (u := w.heap.size + 2) ?_ (by omega)) (by omega) (by simp)
        refine Kept.setCell (Kept.setCell (Kept.setCell (Kept.setCell (Kept.refl _ _ _) ?_ ?_ _) ?_ ?_ _) ?_ ?_ _) ?_ ?_ _ <;> simp
      · refine Below.setCell (Below.setCell (Below.setCell (Below.setCell B ?_ _) ?_ _) ?_ _) ?_ _ <;> simp
    · have t3 : f = g := by rw [← hf, dropF, if_neg hr0]
      subst t3
      clear h0 T t1 t2 hf
      go_enter Try.func119, Try.ntmps119
      go_wp2_with fail
      refine (l4Asked_is w.heap.size an nn cn ab nb cb K f _ (by exact r) g0 g1 hn hb hK root 0 0 H0.out).mono ?_
      rintro e w1 ⟨rfl, hb1⟩
      replace z0 := cell_later hb1 z0
      replace z1 := cell_later hb1 z1
      replace z2 := cell_later hb1 z2
      replace z3 := cell_later hb1 z3
      replace y0 := frozen_later hb1 hz y0
      replace y1 := frozen_later hb1 hz y1
      replace y2 := frozen_later hb1 hz y2
      replace y3 := frozen_later hb1 hz y3
      replace g0 := cell_later hb1 g0
      replace g1 := cell_later hb1 g1
      replace r := r.below hb1
      replace hz := Nat.lt_of_lt_of_le hz hb1.size
      replace B := below_next B hb1
      clear hb1
      have hz0 := hz
      go_wp2_with fail
      refine (l4Copy_any an nn cn ab nb cb K f _ (by exact r) HN.out.1 HN.out.2.1 HN.out.2.2).mono ?_
      rintro e w2 ⟨va, vc, bb, bc, K', rfl, I, hb1⟩
      replace z0 := cell_later hb1 z0
      replace z1 := cell_later hb1 z1
      replace z2 := cell_later hb1 z2
      replace z3 := cell_later hb1 z3
      replace y0 := frozen_later hb1 hz y0
      replace y1 := frozen_later hb1 hz y1
      replace y2 := frozen_later hb1 hz y2
      replace y3 := frozen_later hb1 hz y3
      replace g0 := cell_later hb1 g0
      replace g1 := cell_later hb1 g1
      replace r := r.below hb1
      replace hz := Nat.lt_of_lt_of_le hz hb1.size
      replace B := below_next B hb1
      clear hb1
      have A : Below w2.heap.size w2 (w2.alloc (.cells #[.slice va nn vc, .slice bb nb bc] 60)) := (Below.refl _ _).alloc (Nat.le_refl _) _
      replace z0 := cell_later A z0
      replace z1 := cell_later A z1
      replace z2 := cell_later A z2
      replace z3 := cell_later A z3
      replace y0 := frozen_later A hz y0
      replace y1 := frozen_later A hz y1
      replace y2 := frozen_later A hz y2
      replace y3 := frozen_later A hz y3
      replace g0 := cell_later A g0
      replace g1 := cell_later A g1
      replace r := r.below A
      replace hz := Nat.lt_of_lt_of_le hz A.size
      replace B := below_next B A
      clear A
      have hlo := hz0
      have c0 := I.c0
      have c1 := I.c1
      have hP := I.hP
      obtain ⟨_, _, ev2, RF⟩ := I.readU
      injection ev2 with ea2 en2 ec2
      clear en2
      subst ea2
      subst ec2
      rw [hl] at RF
      have HF : Hid _ := RF
      clear RF I r
      go_wp2
      refine bodyPost_ret (v := .agg #[.int .i64 0, .int .i64 (-1), .slice va nn vc, .slice bb nb bc]) (by simp [results, Try.results119, go_sem, z0, z1, z2, z3]) rfl ⟨_, _, _, _, _, _, K', rfl, ?_, ?_⟩
      · refine FoU.widen (FoU.kept HF.out (l := w.heap.size + 1) (u := w.heap.size + 2) ?_ (by omega)) (by omega) (by simp)
        refine Kept.setCell (Kept.setCell (Kept.setCell (Kept.setCell (Kept.refl _ _ _) ?_ ?_ _) ?_ ?_ _) ?_ ?_ _) ?_ ?_ _ <;> simp
      · refine Below.setCell (Below.setCell (Below.setCell (Below.setCell B ?_ _) ?_ _) ?_ _) ?_ _ <;> simp
  · obtain ⟨c, hcc⟩ : ∃ c, treeCode f root 0 = c := ⟨_, rfl⟩
    rw [hcc] at h0 hc
    have t1 : dropFo f root = ([], []) := by rw [dropFo, hcc, foIf, if_neg h0]
    have t2 : dropRoot f root = 0 := by rw [dropRoot, hcc, atIf, if_neg h0]
    rw [t1] at hf
    rw [t2] at hr
    subst hc
    subst hr
    subst hf
    have HC : Hid _ := hcc
    have hne : (c != 0) = true := by simp [h0]
    clear h0 hcc t1 t2
    go_enter Try.func119, Try.ntmps119
    go_wp2_with fail
    refine (l4Asked_is w.heap.size an nn cn ab nb cb K f _ (by exact r) g0 g1 hn hb hK root 0 c HC.out).mono ?_
    rintro e w1 ⟨rfl, hb1⟩
    replace z0 := cell_later hb1 z0
    replace z1 := cell_later hb1 z1
    replace z2 := cell_later hb1 z2
    replace z3 := cell_later hb1 z3
    replace y0 := frozen_later hb1 hz y0
    replace y1 := frozen_later hb1 hz y1
    replace y2 := frozen_later hb1 hz y2
    replace y3 := frozen_later hb1 hz y3
    replace g0 := cell_later hb1 g0
    replace g1 := cell_later hb1 g1
    replace r := r.below hb1
    replace hz := Nat.lt_of_lt_of_le hz hb1.size
    replace B := below_next B hb1
    clear hb1
    go_wp2_with fail
    refine (l4Bad_any c _).mono ?_
    rintro e wb ⟨rfl, hb1⟩
    replace z0 := cell_later hb1 z0
    replace z1 := cell_later hb1 z1
    replace z2 := cell_later hb1 z2
    replace z3 := cell_later hb1 z3
    replace y0 := frozen_later hb1 hz y0
    replace y1 := frozen_later hb1 hz y1
    replace y2 := frozen_later hb1 hz y2
    replace y3 := frozen_later hb1 hz y3
    replace g0 := cell_later hb1 g0
    replace g1 := cell_later hb1 g1
    replace r := r.below hb1
    replace hz := Nat.lt_of_lt_of_le hz hb1.size
    replace B := below_next B hb1
    clear hb1
    go_wp2
    refine bodyPost_ret (v := .agg #[.int .i64 c, .int .i64 0, .slice none 0 0, .slice none 0 0]) (by simp [results, Try.results119, go_sem, z0, z1, z2, z3]) rfl ⟨_, _, _, _, _, _, _, rfl, FoU.nil _ _ _, ?_⟩
    refine Below.setCell (Below.setCell (Below.setCell (Below.setCell B ?_ _) ?_ _) ?_ _) ?_ _ <;> simp

end Go.Proofs.Ytkdaphfmhdkhfaa

/- Chapter 4: the model's answer, told with where it may be written. -/
namespace Go.Proofs.Ytkdaphfmhdkhfaa
open Go.RowKit

set_option maxRecDepth 20000 in
set_option maxHeartbeats 4000000 in
theorem specClearT_u {o : Bool} {l u : Nat} (an : Option Addr) (nn cn : Nat) (ab : Option Addr) (nb cb : Nat) (K : Nat → KS) (f : Fo) (w : World) (h : FoAt w o l u an nn cn ab nb cb K f) (hn : nn ≤ 2097152) (hb : nb ≤ 2097152) (hK : ∀ i, i < nn → (K i).2.1 ≤ 2097152) (root : Int) (at' : Int) (cd rt : Int) (g : Fo) (hc : clearTCode f root at' = cd) (hr : clearRootT f root at' = rt) (hf : clearFo f root at' = g) : Calls Try.prog 67 #[.agg #[.slice an nn cn, .slice ab nb cb], .int .i64 root, .int .i64 at'] w fun e w' => FoResU w w' e cd rt g := by
  have B : Below w.heap.size w ((w.alloc (.cells #[.slice an nn cn, .slice ab nb cb] 60)).alloc (.cells #[.int .i64 0, .int .i64 0, .slice none 0 0, .slice none 0 0] 64)) := ((Below.refl _ _).alloc (Nat.le_refl _) _).alloc (by simp) _
  have g0 : ((w.alloc (.cells #[.slice an nn cn, .slice ab nb cb] 60)).alloc (.cells #[.int .i64 0, .int .i64 0, .slice none 0 0, .slice none 0 0] 64)).cell? ⟨w.heap.size, 0, none⟩ = some (.slice an nn cn) := by simp
  have g1 : ((w.alloc (.cells #[.slice an nn cn, .slice ab nb cb] 60)).alloc (.cells #[.int .i64 0, .int .i64 0, .slice none 0 0, .slice none 0 0] 64)).cell? ⟨w.heap.size, 1, none⟩ = some (.slice ab nb cb) := by simp
  have z0 : ((w.alloc (.cells #[.slice an nn cn, .slice ab nb cb] 60)).alloc (.cells #[.int .i64 0, .int .i64 0, .slice none 0 0, .slice none 0 0] 64)).cell? ⟨w.heap.size + 1, 0, none⟩ = some (.int .i64 0) := by simp
  have z1 : ((w.alloc (.cells #[.slice an nn cn, .slice ab nb cb] 60)).alloc (.cells #[.int .i64 0, .int .i64 0, .slice none 0 0, .slice none 0 0] 64)).cell? ⟨w.heap.size + 1, 1, none⟩ = some (.int .i64 0) := by simp
  have z2 : ((w.alloc (.cells #[.slice an nn cn, .slice ab nb cb] 60)).alloc (.cells #[.int .i64 0, .int .i64 0, .slice none 0 0, .slice none 0 0] 64)).cell? ⟨w.heap.size + 1, 2, none⟩ = some (.slice none 0 0) := by simp
  have z3 : ((w.alloc (.cells #[.slice an nn cn, .slice ab nb cb] 60)).alloc (.cells #[.int .i64 0, .int .i64 0, .slice none 0 0, .slice none 0 0] 64)).cell? ⟨w.heap.size + 1, 3, none⟩ = some (.slice none 0 0) := by simp
  have y0 : ((w.alloc (.cells #[.slice an nn cn, .slice ab nb cb] 60)).alloc (.cells #[.int .i64 0, .int .i64 0, .slice none 0 0, .slice none 0 0] 64)).frozen? ⟨w.heap.size + 1, 0, none⟩ = false := by simp
  have y1 : ((w.alloc (.cells #[.slice an nn cn, .slice ab nb cb] 60)).alloc (.cells #[.int .i64 0, .int .i64 0, .slice none 0 0, .slice none 0 0] 64)).frozen? ⟨w.heap.size + 1, 1, none⟩ = false := by simp
  have y2 : ((w.alloc (.cells #[.slice an nn cn, .slice ab nb cb] 60)).alloc (.cells #[.int .i64 0, .int .i64 0, .slice none 0 0, .slice none 0 0] 64)).frozen? ⟨w.heap.size + 1, 2, none⟩ = false := by simp
  have y3 : ((w.alloc (.cells #[.slice an nn cn, .slice ab nb cb] 60)).alloc (.cells #[.int .i64 0, .int .i64 0, .slice none 0 0, .slice none 0 0] 64)).frozen? ⟨w.heap.size + 1, 3, none⟩ = false := by simp
  have hz : w.heap.size + 1 < ((w.alloc (.cells #[.slice an nn cn, .slice ab nb cb] 60)).alloc (.cells #[.int .i64 0, .int .i64 0, .slice none 0 0, .slice none 0 0] 64)).heap.size := by simp
  have r := h.below B
  have hl := h.nodes.len
  by_cases h0 : treeCode f root at' = 0
  · have H0 : Hid _ := h0
    have T := tree_of h0
    have HN : Hid _ := fo_small h T.right.inv
    have HT : Hid _ := T
    have ha0 := T.at0
    have ha1 := T.at1
    obtain ⟨a, rfl⟩ : ∃ a : Nat, at' = a := ⟨at'.toNat, by omega⟩
    have ha : a ≤ 15 := by omega
    have H1 : Hid _ := rootAt_of T.right.inv T.ro
    have H2 : Hid (RootAt f (leafAt f root (a : Int))) := leafRoot_of T.right.inv T.ro ha0 ha1
    rw [clearTCode, if_pos h0] at hc
    rw [clearRootT, clearTCode, if_pos h0] at hr
    rw [clearFo, clearTCode, if_pos h0] at hf
    obtain ⟨y, hy⟩ : ∃ y, blockAt f root (a : Int) = y := ⟨_, rfl⟩
    rw [hy] at hc hr hf
    have HY : Hid _ := hy
    by_cases hy0 : y < 0
    · rw [if_pos hy0] at hc hr hf
      obtain rfl : rt = 0 := hr.symm
      obtain rfl : g = ([], []) := hf.symm
      subst hc
      clear h0 T hr hf hy
      go_enter Try.func67, Try.ntmps67
      go_wp2_with fail
      refine (l4Asked_is w.heap.size an nn cn ab nb cb K f _ (by exact r) g0 g1 hn hb hK root (a : Int) 0 H0.out).mono ?_
      rintro e w1 ⟨rfl, hb1⟩
      replace z0 := cell_later hb1 z0
      replace z1 := cell_later hb1 z1
      replace z2 := cell_later hb1 z2
      replace z3 := cell_later hb1 z3
      replace y0 := frozen_later hb1 hz y0
      replace y1 := frozen_later hb1 hz y1
      replace y2 := frozen_later hb1 hz y2
      replace y3 := frozen_later hb1 hz y3
      replace g0 := cell_later hb1 g0
      replace g1 := cell_later hb1 g1
      replace r := r.below hb1
      replace hz := Nat.lt_of_lt_of_le hz hb1.size
      replace B := below_next B hb1
      clear hb1
      go_wp2_with fail
      refine (l4Block_is w.heap.size an nn cn ab nb cb K f _ (by exact r) g0 hn root a ha H1.out H2.out y HY.out).mono ?_
      rintro e w9 ⟨rfl, rfl⟩
      go_wp2_with fail
      refine (l4Bad_any 4 _).mono ?_
      rintro e wb ⟨rfl, hb1⟩
      replace z0 := cell_later hb1 z0
      replace z1 := cell_later hb1 z1
      replace z2 := cell_later hb1 z2
      replace z3 := cell_later hb1 z3
      replace y0 := frozen_later hb1 hz y0
      replace y1 := frozen_later hb1 hz y1
      replace y2 := frozen_later hb1 hz y2
      replace y3 := frozen_later hb1 hz y3
      replace g0 := cell_later hb1 g0
      replace g1 := cell_later hb1 g1
      replace r := r.below hb1
      replace hz := Nat.lt_of_lt_of_le hz hb1.size
      replace B := below_next B hb1
      clear hb1
      go_wp2
      refine bodyPost_ret (v := .agg #[.int .i64 4, .int .i64 0, .slice none 0 0, .slice none 0 0]) (by simp [results, Try.results67, go_sem, z0, z1, z2, z3]) rfl ⟨_, _, _, _, _, _, _, rfl, FoU.nil _ _ _, ?_⟩
      refine Below.setCell (Below.setCell (Below.setCell (Below.setCell B ?_ _) ?_ _) ?_ _) ?_ _ <;> simp
    · rw [if_neg hy0] at hc hr hf
      obtain ⟨⟨x, c, g2⟩, hs⟩ : ∃ s, setPlace f root (a : Int) (-1) = s := ⟨_, rfl⟩
      rw [hs] at hc hr hf
      simp only at hc hr hf
      subst hc
      have HP : Hid _ := hs
      have HR : Hid _ := hr
      have HFF : Hid _ := hf
      clear h0 T hy hs hr hf
      go_enter Try.func67, Try.ntmps67
      go_wp2_with fail
      refine (l4Asked_is w.heap.size an nn cn ab nb cb K f _ (by exact r) g0 g1 hn hb hK root (a : Int) 0 H0.out).mono ?_
      rintro e w1 ⟨rfl, hb1⟩
      replace z0 := cell_later hb1 z0
      replace z1 := cell_later hb1 z1
      replace z2 := cell_later hb1 z2
      replace z3 := cell_later hb1 z3
      replace y0 := frozen_later hb1 hz y0
      replace y1 := frozen_later hb1 hz y1
      replace y2 := frozen_later hb1 hz y2
      replace y3 := frozen_later hb1 hz y3
      replace g0 := cell_later hb1 g0
      replace g1 := cell_later hb1 g1
      replace r := r.below hb1
      replace hz := Nat.lt_of_lt_of_le hz hb1.size
      replace B := below_next B hb1
      clear hb1
      go_wp2_with fail
      refine (l4Block_is w.heap.size an nn cn ab nb cb K f _ (by exact r) g0 hn root a ha H1.out H2.out y HY.out).mono ?_
      rintro e w9 ⟨rfl, rfl⟩
      have hz0 := hz
      go_wp2_with fail
      refine (l4Copy_any an nn cn ab nb cb K f _ (by exact r) HN.out.1 HN.out.2.1 HN.out.2.2).mono ?_
      rintro e w2 ⟨va, vc, bb, bc, K', rfl, I, hb1⟩
      replace z0 := cell_later hb1 z0
      replace z1 := cell_later hb1 z1
      replace z2 := cell_later hb1 z2
      replace z3 := cell_later hb1 z3
      replace y0 := frozen_later hb1 hz y0
      replace y1 := frozen_later hb1 hz y1
      replace y2 := frozen_later hb1 hz y2
      replace y3 := frozen_later hb1 hz y3
      replace g0 := cell_later hb1 g0
      replace g1 := cell_later hb1 g1
      replace r := r.below hb1
      replace hz := Nat.lt_of_lt_of_le hz hb1.size
      replace B := below_next B hb1
      clear hb1
      have A : Below w2.heap.size w2 (w2.alloc (.cells #[.slice va nn vc, .slice bb nb bc] 60)) := (Below.refl _ _).alloc (Nat.le_refl _) _
      replace z0 := cell_later A z0
      replace z1 := cell_later A z1
      replace z2 := cell_later A z2
      replace z3 := cell_later A z3
      replace y0 := frozen_later A hz y0
      replace y1 := frozen_later A hz y1
      replace y2 := frozen_later A hz y2
      replace y3 := frozen_later A hz y3
      replace g0 := cell_later A g0
      replace g1 := cell_later A g1
      replace r := r.below A
      replace hz := Nat.lt_of_lt_of_le hz A.size
      replace B := below_next B A
      clear A
      have hlo := hz0
      have c0 := I.c0
      have c1 := I.c1
      have hP := I.hP
      go_wp2_with fail
      refine (l4Set_any (by exact I) root a (-1) (ask_clear HT.out) _ HP.out).mono ?_
      have hr := HR.out
      have hf := HFF.out
      clear HR HFF c0 c1
      rintro e w3 (⟨hc3, rfl, hb3⟩ | ⟨hc3, rfl, ⟨vn3, K3, I3⟩, hb3⟩)
      · simp only at hc3
        replace z0 := (hb3.cell (p := ⟨w.heap.size + 1, 0, none⟩) (by show w.heap.size + 1 < _; omega)).trans z0
        replace z1 := (hb3.cell (p := ⟨w.heap.size + 1, 1, none⟩) (by show w.heap.size + 1 < _; omega)).trans z1
        replace z2 := (hb3.cell (p := ⟨w.heap.size + 1, 2, none⟩) (by show w.heap.size + 1 < _; omega)).trans z2
        replace z3 := (hb3.cell (p := ⟨w.heap.size + 1, 3, none⟩) (by show w.heap.size + 1 < _; omega)).trans z3
        replace y0 := (hb3.frozen (p := ⟨w.heap.size + 1, 0, none⟩) (by show w.heap.size + 1 < _; omega)).trans y0
        replace y1 := (hb3.frozen (p := ⟨w.heap.size + 1, 1, none⟩) (by show w.heap.size + 1 < _; omega)).trans y1
        replace y2 := (hb3.frozen (p := ⟨w.heap.size + 1, 2, none⟩) (by show w.heap.size + 1 < _; omega)).trans y2
        replace y3 := (hb3.frozen (p := ⟨w.heap.size + 1, 3, none⟩) (by show w.heap.size + 1 < _; omega)).trans y3
        have hsz3 := hb3.size
        replace hz : w.heap.size + 1 < w3.heap.size := by omega
        replace B := B.trans (hb3.mono (by omega))
        rw [atIf, if_neg hc3] at hr
        rw [foIf, if_neg hc3] at hf
        subst hr
        subst hf
        have hne : (c != 0) = true := by simp [hc3]
        clear hb3 hc3 I r g0 g1
        go_wp2_with fail
        refine (l4Bad_any c _).mono ?_
        rintro e wb ⟨rfl, hb1⟩
        replace z0 := cell_later hb1 z0
        replace z1 := cell_later hb1 z1
        replace z2 := cell_later hb1 z2
        replace z3 := cell_later hb1 z3
        replace y0 := frozen_later hb1 hz y0
        replace y1 := frozen_later hb1 hz y1
        replace y2 := frozen_later hb1 hz y2
        replace y3 := frozen_later hb1 hz y3
        replace hz := Nat.lt_of_lt_of_le hz hb1.size
        replace B := below_next B hb1
        clear hb1
        go_wp2
        refine bodyPost_ret (v := .agg #[.int .i64 c, .int .i64 0, .slice none 0 0, .slice none 0 0]) (by simp [results, Try.results67, go_sem, z0, z1, z2, z3]) rfl ⟨_, _, _, _, _, _, _, rfl, FoU.nil _ _ _, ?_⟩
        refine Below.setCell (Below.setCell (Below.setCell (Below.setCell B ?_ _) ?_ _) ?_ _) ?_ _ <;> simp
      · simp only at hc3
        subst hc3
        replace z0 := (hb3.cell (p := ⟨w.heap.size + 1, 0, none⟩) (by show w.heap.size + 1 < _; omega)).trans z0
        replace z1 := (hb3.cell (p := ⟨w.heap.size + 1, 1, none⟩) (by show w.heap.size + 1 < _; omega)).trans z1
        replace z2 := (hb3.cell (p := ⟨w.heap.size + 1, 2, none⟩) (by show w.heap.size + 1 < _; omega)).trans z2
        replace z3 := (hb3.cell (p := ⟨w.heap.size + 1, 3, none⟩) (by show w.heap.size + 1 < _; omega)).trans z3
        replace y0 := (hb3.frozen (p := ⟨w.heap.size + 1, 0, none⟩) (by show w.heap.size + 1 < _; omega)).trans y0
        replace y1 := (hb3.frozen (p := ⟨w.heap.size + 1, 1, none⟩) (by show w.heap.size + 1 < _; omega)).trans y1
        replace y2 := (hb3.frozen (p := ⟨w.heap.size + 1, 2, none⟩) (by show w.heap.size + 1 < _; omega)).trans y2
        replace y3 := (hb3.frozen (p := ⟨w.heap.size + 1, 3, none⟩) (by show w.heap.size + 1 < _; omega)).trans y3
        have hsz3 := hb3.size
        replace B := B.trans (hb3.mono (by omega))
        rw [atIf, if_pos rfl] at hr
        rw [foIf, if_pos rfl] at hf
        subst hr
        subst hf
        obtain ⟨an2, cn2, ev2, RF⟩ := I3.readU
        subst ev2
        have c0 := I3.c0
        have c1 := I3.c1
        obtain ⟨n2, hn2⟩ : ∃ n2, g2.1.length = n2 := ⟨_, rfl⟩
        rw [hn2] at RF c0
        have HF : Hid _ := RF
        clear RF I I3 r hb3 hn2 g0 g1
        go_wp2
        refine bodyPost_ret (v := .agg #[.int .i64 0, .int .i64 x, .slice an2 n2 cn2, .slice bb nb bc]) (by simp [results, Try.results67, go_sem, z0, z1, z2, z3]) rfl ⟨_, _, _, _, _, _, K3, rfl, ?_, ?_⟩
        · refine FoU.widen (FoU.kept HF.out (l := w.heap.size + 1) (u := w.heap.size + 2) ?_ (by omega)) (by omega) (by simp)
          refine Kept.setCell (Kept.setCell (Kept.setCell (Kept.setCell (Kept.refl _ _ _) ?_ ?_ _) ?_ ?_ _) ?_ ?_ _) ?_ ?_ _ <;> simp
        · refine Below.setCell (Below.setCell (Below.setCell (Below.setCell B ?_ _) ?_ _) ?_ _) ?_ _ <;> simp
  · obtain ⟨c, hcc⟩ : ∃ c, treeCode f root at' = c := ⟨_, rfl⟩
    have t0 : clearTCode f root at' = c := by rw [clearTCode, if_neg h0, hcc]
    rw [hcc] at h0
    rw [t0] at hc
    rw [clearRootT, t0, atIf, if_neg h0] at hr
    rw [clearFo, t0, foIf, if_neg h0] at hf
    subst hc
    subst hr
    subst hf
    have HC : Hid _ := hcc
    have hne : (c != 0) = true := by simp [h0]
    clear h0 hcc t0
    go_enter Try.func67, Try.ntmps67
    go_wp2_with fail
    refine (l4Asked_is w.heap.size an nn cn ab nb cb K f _ (by exact r) g0 g1 hn hb hK root at' c HC.out).mono ?_
    rintro e w1 ⟨rfl, hb1⟩
    replace z0 := cell_later hb1 z0
    replace z1 := cell_later hb1 z1
    replace z2 := cell_later hb1 z2
    replace z3 := cell_later hb1 z3
    replace y0 := frozen_later hb1 hz y0
    replace y1 := frozen_later hb1 hz y1
    replace y2 := frozen_later hb1 hz y2
    replace y3 := frozen_later hb1 hz y3
    replace g0 := cell_later hb1 g0
    replace g1 := cell_later hb1 g1
    replace r := r.below hb1
    replace hz := Nat.lt_of_lt_of_le hz hb1.size
    replace B := below_next B hb1
    clear hb1
    go_wp2_with fail
    refine (l4Bad_any c _).mono ?_
    rintro e wb ⟨rfl, hb1⟩
    replace z0 := cell_later hb1 z0
    replace z1 := cell_later hb1 z1
    replace z2 := cell_later hb1 z2
    replace z3 := cell_later hb1 z3
    replace y0 := frozen_later hb1 hz y0
    replace y1 := frozen_later hb1 hz y1
    replace y2 := frozen_later hb1 hz y2
    replace y3 := frozen_later hb1 hz y3
    replace g0 := cell_later hb1 g0
    replace g1 := cell_later hb1 g1
    replace r := r.below hb1
    replace hz := Nat.lt_of_lt_of_le hz hb1.size
    replace B := below_next B hb1
    clear hb1
    go_wp2
    refine bodyPost_ret (v := .agg #[.int .i64 c, .int .i64 0, .slice none 0 0, .slice none 0 0]) (by simp [results, Try.results67, go_sem, z0, z1, z2, z3]) rfl ⟨_, _, _, _, _, _, _, rfl, FoU.nil _ _ _, ?_⟩
    refine Below.setCell (Below.setCell (Below.setCell (Below.setCell B ?_ _) ?_ _) ?_ _) ?_ _ <;> simp

end Go.Proofs.Ytkdaphfmhdkhfaa

/- Chapter 4: the model's answer, told with where it may be written. -/
namespace Go.Proofs.Ytkdaphfmhdkhfaa
open Go.RowKit

set_option maxRecDepth 20000 in
set_option maxHeartbeats 4000000 in
theorem specSetT_u {o : Bool} {l u : Nat} (an : Option Addr) (nn cn : Nat) (ab : Option Addr) (nb cb : Nat) (K : Nat → KS) (f : Fo) (w : World) (h : FoAt w o l u an nn cn ab nb cb K f) (hn : nn ≤ 2097152) (hb : nb ≤ 2097152) (hK : ∀ i, i < nn → (K i).2.1 ≤ 2097152) (root : Int) (at' : Int) (dv : Int) (cd rt : Int) (g : Fo) (hc : setTCode f root at' dv = cd) (hr : setRootT f root at' dv = rt) (hf : setFo f root at' dv = g) : Calls Try.prog 59 #[.agg #[.slice an nn cn, .slice ab nb cb], .int .i64 root, .int .i64 at', .int .i64 dv] w fun e w' => FoResU w w' e cd rt g := by
  have B : Below w.heap.size w ((w.alloc (.cells #[.slice an nn cn, .slice ab nb cb] 60)).alloc (.cells #[.int .i64 0, .int .i64 0, .slice none 0 0, .slice none 0 0] 64)) := ((Below.refl _ _).alloc (Nat.le_refl _) _).alloc (by simp) _
  have g0 : ((w.alloc (.cells #[.slice an nn cn, .slice ab nb cb] 60)).alloc (.cells #[.int .i64 0, .int .i64 0, .slice none 0 0, .slice none 0 0] 64)).cell? ⟨w.heap.size, 0, none⟩ = some (.slice an nn cn) := by simp
  have g1 : ((w.alloc (.cells #[.slice an nn cn, .slice ab nb cb] 60)).alloc (.cells #[.int .i64 0, .int .i64 0, .slice none 0 0, .slice none 0 0] 64)).cell? ⟨w.heap.size, 1, none⟩ = some (.slice ab nb cb) := by simp
  have z0 : ((w.alloc (.cells #[.slice an nn cn, .slice ab nb cb] 60)).alloc (.cells #[.int .i64 0, .int .i64 0, .slice none 0 0, .slice none 0 0] 64)).cell? ⟨w.heap.size + 1, 0, none⟩ = some (.int .i64 0) := by simp
  have z1 : ((w.alloc (.cells #[.slice an nn cn, .slice ab nb cb] 60)).alloc (.cells #[.int .i64 0, .int .i64 0, .slice none 0 0, .slice none 0 0] 64)).cell? ⟨w.heap.size + 1, 1, none⟩ = some (.int .i64 0) := by simp
  have z2 : ((w.alloc (.cells #[.slice an nn cn, .slice ab nb cb] 60)).alloc (.cells #[.int .i64 0, .int .i64 0, .slice none 0 0, .slice none 0 0] 64)).cell? ⟨w.heap.size + 1, 2, none⟩ = some (.slice none 0 0) := by simp
  have z3 : ((w.alloc (.cells #[.slice an nn cn, .slice ab nb cb] 60)).alloc (.cells #[.int .i64 0, .int .i64 0, .slice none 0 0, .slice none 0 0] 64)).cell? ⟨w.heap.size + 1, 3, none⟩ = some (.slice none 0 0) := by simp
  have y0 : ((w.alloc (.cells #[.slice an nn cn, .slice ab nb cb] 60)).alloc (.cells #[.int .i64 0, .int .i64 0, .slice none 0 0, .slice none 0 0] 64)).frozen? ⟨w.heap.size + 1, 0, none⟩ = false := by simp
  have y1 : ((w.alloc (.cells #[.slice an nn cn, .slice ab nb cb] 60)).alloc (.cells #[.int .i64 0, .int .i64 0, .slice none 0 0, .slice none 0 0] 64)).frozen? ⟨w.heap.size + 1, 1, none⟩ = false := by simp
  have y2 : ((w.alloc (.cells #[.slice an nn cn, .slice ab nb cb] 60)).alloc (.cells #[.int .i64 0, .int .i64 0, .slice none 0 0, .slice none 0 0] 64)).frozen? ⟨w.heap.size + 1, 2, none⟩ = false := by simp
  have y3 : ((w.alloc (.cells #[.slice an nn cn, .slice ab nb cb] 60)).alloc (.cells #[.int .i64 0, .int .i64 0, .slice none 0 0, .slice none 0 0] 64)).frozen? ⟨w.heap.size + 1, 3, none⟩ = false := by simp
  have hz : w.heap.size + 1 < ((w.alloc (.cells #[.slice an nn cn, .slice ab nb cb] 60)).alloc (.cells #[.int .i64 0, .int .i64 0, .slice none 0 0, .slice none 0 0] 64)).heap.size := by simp
  have r := h.below B
  have hl := h.nodes.len
  by_cases h0 : treeCode f root at' = 0
  · have H0 : Hid _ := h0
    have T := tree_of h0
    have HN : Hid _ := fo_small h T.right.inv
    have HT : Hid _ := T
    have ha0 := T.at0
    have ha1 := T.at1
    obtain ⟨a, rfl⟩ : ∃ a : Nat, at' = a := ⟨at'.toNat, by omega⟩
    have ha : a ≤ 15 := by omega
    rw [setTCode, if_pos h0] at hc
    rw [setRootT, setTCode, if_pos h0] at hr
    rw [setFo, setTCode, if_pos h0] at hf
    by_cases hd : dataB dv = true
    · rw [if_pos hd] at hc hr hf
      have HD : Hid _ := hd
      have hd' : 0 ≤ dv ∧ dv ≤ 255 := of_decide_eq_true hd
      cases hfa : freeAt f.2 with
      | none =>
        rw [hfa] at hc hr hf
        simp only at hc hr hf
        obtain rfl : rt = 0 := hr.symm
        obtain rfl : g = ([], []) := hf.symm
        subst hc
        have HFA : Hid _ := hfa
        clear h0 T hr hf hfa hd
        go_enter Try.func59, Try.ntmps59
        go_wp2_with fail
        refine (l4Asked_is w.heap.size an nn cn ab nb cb K f _ (by exact r) g0 g1 hn hb hK root (a : Int) 0 H0.out).mono ?_
        rintro e w1 ⟨rfl, hb1⟩
        replace z0 := cell_later hb1 z0
        replace z1 := cell_later hb1 z1
        replace z2 := cell_later hb1 z2
        replace z3 := cell_later hb1 z3
        replace y0 := frozen_later hb1 hz y0
        replace y1 := frozen_later hb1 hz y1
        replace y2 := frozen_later hb1 hz y2
        replace y3 := frozen_later hb1 hz y3
        replace g0 := cell_later hb1 g0
        replace g1 := cell_later hb1 g1
        replace r := r.below hb1
        replace hz := Nat.lt_of_lt_of_le hz hb1.size
        replace B := below_next B hb1
        clear hb1
        go_wp2_with fail
        refine (l3Data_is dv _ true HD.out).mono ?_
        rintro e w9 ⟨rfl, rfl⟩
        have hz0 := hz
        go_wp2_with fail
        refine (l4Copy_any an nn cn ab nb cb K f _ (by exact r) HN.out.1 HN.out.2.1 HN.out.2.2).mono ?_
        rintro e w2 ⟨va, vc, bb, bc, K', rfl, I, hb1⟩
        replace z0 := cell_later hb1 z0
        replace z1 := cell_later hb1 z1
        replace z2 := cell_later hb1 z2
        replace z3 := cell_later hb1 z3
        replace y0 := frozen_later hb1 hz y0
        replace y1 := frozen_later hb1 hz y1
        replace y2 := frozen_later hb1 hz y2
        replace y3 := frozen_later hb1 hz y3
        replace g0 := cell_later hb1 g0
        replace g1 := cell_later hb1 g1
        replace r := r.below hb1
        replace hz := Nat.lt_of_lt_of_le hz hb1.size
        replace B := below_next B hb1
        clear hb1
        have A : Below w2.heap.size w2 (w2.alloc (.cells #[.slice va nn vc, .slice bb nb bc] 60)) := (Below.refl _ _).alloc (Nat.le_refl _) _
        replace z0 := cell_later A z0
        replace z1 := cell_later A z1
        replace z2 := cell_later A z2
        replace z3 := cell_later A z3
        replace y0 := frozen_later A hz y0
        replace y1 := frozen_later A hz y1
        replace y2 := frozen_later A hz y2
        replace y3 := frozen_later A hz y3
        replace g0 := cell_later A g0
        replace g1 := cell_later A g1
        replace r := r.below A
        replace hz := Nat.lt_of_lt_of_le hz A.size
        replace B := below_next B A
        clear A
        have hlo := hz0
        have c0 := I.c0
        have c1 := I.c1
        have hP := I.hP
        have hnb24 := HN.out.2.1
        go_wp2_with fail
        refine (l3Free_any bb nb bc f.2 _ I.blk (by omega)).mono ?_
        rintro e w9 ⟨hfr, rfl⟩
        obtain ⟨_, rfl⟩ := hfr.resolve_left (fun ⟨k, hk, _⟩ => by rw [HFA.out] at hk; cases hk)
        clear r g0 g1 I
        go_wp2_with fail
        refine (l4Bad_any 8 _).mono ?_
        rintro e wb ⟨rfl, hb1⟩
        replace z0 := cell_later hb1 z0
        replace z1 := cell_later hb1 z1
        replace z2 := cell_later hb1 z2
        replace z3 := cell_later hb1 z3
        replace y0 := frozen_later hb1 hz y0
        replace y1 := frozen_later hb1 hz y1
        replace y2 := frozen_later hb1 hz y2
        replace y3 := frozen_later hb1 hz y3
        replace hz := Nat.lt_of_lt_of_le hz hb1.size
        replace B := below_next B hb1
        clear hb1
        go_wp2
        refine bodyPost_ret (v := .agg #[.int .i64 8, .int .i64 0, .slice none 0 0, .slice none 0 0]) (by simp [results, Try.results59, go_sem, z0, z1, z2, z3]) rfl ⟨_, _, _, _, _, _, _, rfl, FoU.nil _ _ _, ?_⟩
        refine Below.setCell (Below.setCell (Below.setCell (Below.setCell B ?_ _) ?_ _) ?_ _) ?_ _ <;> simp
      | some b =>
        rw [setTF, hfa] at hr hf
        rw [hfa] at hc
        simp only at hc hr hf
        obtain ⟨⟨x, c, g2⟩, hs⟩ : ∃ s, setPlace (f.1, f.2.set b (1, dv)) root (a : Int) b = s := ⟨_, rfl⟩
        rw [hs] at hc hr hf
        simp only at hc hr hf
        subst hc
        have HP : Hid _ := hs
        have HR : Hid _ := hr
        have HFF : Hid _ := hf
        have HASK : Hid _ := ask_take T hfa hd'.1 hd'.2
        have hbl := (freeAt_is hfa).1
        have HFA : Hid _ := hfa
        clear h0 T hs hr hf hfa hd
        go_enter Try.func59, Try.ntmps59
        go_wp2_with fail
        refine (l4Asked_is w.heap.size an nn cn ab nb cb K f _ (by exact r) g0 g1 hn hb hK root (a : Int) 0 H0.out).mono ?_
        rintro e w1 ⟨rfl, hb1⟩
        replace z0 := cell_later hb1 z0
        replace z1 := cell_later hb1 z1
        replace z2 := cell_later hb1 z2
        replace z3 := cell_later hb1 z3
        replace y0 := frozen_later hb1 hz y0
        replace y1 := frozen_later hb1 hz y1
        replace y2 := frozen_later hb1 hz y2
        replace y3 := frozen_later hb1 hz y3
        replace g0 := cell_later hb1 g0
        replace g1 := cell_later hb1 g1
        replace r := r.below hb1
        replace hz := Nat.lt_of_lt_of_le hz hb1.size
        replace B := below_next B hb1
        clear hb1
        go_wp2_with fail
        refine (l3Data_is dv _ true HD.out).mono ?_
        rintro e w9 ⟨rfl, rfl⟩
        have hz0 := hz
        go_wp2_with fail
        refine (l4Copy_any an nn cn ab nb cb K f _ (by exact r) HN.out.1 HN.out.2.1 HN.out.2.2).mono ?_
        rintro e w2 ⟨va, vc, bb, bc, K', rfl, I, hb1⟩
        replace z0 := cell_later hb1 z0
        replace z1 := cell_later hb1 z1
        replace z2 := cell_later hb1 z2
        replace z3 := cell_later hb1 z3
        replace y0 := frozen_later hb1 hz y0
        replace y1 := frozen_later hb1 hz y1
        replace y2 := frozen_later hb1 hz y2
        replace y3 := frozen_later hb1 hz y3
        replace g0 := cell_later hb1 g0
        replace g1 := cell_later hb1 g1
        replace r := r.below hb1
        replace hz := Nat.lt_of_lt_of_le hz hb1.size
        replace B := below_next B hb1
        clear hb1
        have A : Below w2.heap.size w2 (w2.alloc (.cells #[.slice va nn vc, .slice bb nb bc] 60)) := (Below.refl _ _).alloc (Nat.le_refl _) _
        replace z0 := cell_later A z0
        replace z1 := cell_later A z1
        replace z2 := cell_later A z2
        replace z3 := cell_later A z3
        replace y0 := frozen_later A hz y0
        replace y1 := frozen_later A hz y1
        replace y2 := frozen_later A hz y2
        replace y3 := frozen_later A hz y3
        replace g0 := cell_later A g0
        replace g1 := cell_later A g1
        replace r := r.below A
        replace hz := Nat.lt_of_lt_of_le hz A.size
        replace B := below_next B A
        clear A
        have hlo := hz0
        have c0 := I.c0
        have c1 := I.c1
        have hP := I.hP
        have hnb24 := HN.out.2.1
        go_wp2_with fail
        refine (l3Free_any bb nb bc f.2 _ I.blk (by omega)).mono ?_
        rintro e w9 ⟨hfr, rfl⟩
        obtain ⟨_, hk, _, rfl⟩ := hfr.resolve_right (fun hx => by rw [HFA.out] at hx; cases hx.1)
        rw [HFA.out] at hk
        cases hk
        have hbn : b < nb := by have := I.blk.nPairs; omega
        have hbi : (b : Int) < nb := by omega
        have hne : nb ≠ 0 := by omega
        obtain ⟨gB, rfl⟩ := I.bf hne
        obtain ⟨_, _, e', _, _, hgs, b1, b2, bf⟩ := I.blk.pair hbn
        cases e'
        obtain ⟨bf1, bf2⟩ := bf rfl
        rw [Nat.zero_add] at b1 b2 bf1 bf2
        have hgB := (I.blk.block_lt hne).1
        simp only [sb] at hgB
        have K3 : Kept gB (gB + 1) (w2.alloc (.cells #[.slice va nn vc, .slice (some ⟨gB, 0, none⟩) nb bc] 60)) (((w2.alloc (.cells #[.slice va nn vc, .slice (some ⟨gB, 0, none⟩) nb bc] 60)).setCell ⟨gB, b * 2, none⟩ (.int .i64 1)).setCell ⟨gB, b * 2 + 1, none⟩ (.int .i64 dv)) := by refine Kept.setCell (Kept.setCell (Kept.refl _ _ _) ?_ ?_ _) ?_ ?_ _ <;> simp
        have RS : RowAt (((w2.alloc (.cells #[.slice va nn vc, .slice (some ⟨gB, 0, none⟩) nb bc] 60)).setCell ⟨gB, b * 2, none⟩ (.int .i64 1)).setCell ⟨gB, b * 2 + 1, none⟩ (.int .i64 dv)) true gB (gB + 1) 2 (some ⟨gB, 0, none⟩) nb bc (pairs (f.2.set b (1, dv))) := by
          have := (I.blk.pin.stored (i := b * 2) (by omega) (.int .i64 1)).stored (i := b * 2 + 1) (by omega) (.int .i64 dv)
          rw [Nat.zero_add, Nat.zero_add, pairs_set f.2 b (1, dv)] at this
          exact this
        have I2 := I.blocks hne K3 RS
        replace hgB : w.heap.size + 1 < gB := by omega
        replace z0 := K3.cell z0 (by omega)
        replace z1 := K3.cell z1 (by omega)
        replace z2 := K3.cell z2 (by omega)
        replace z3 := K3.cell z3 (by omega)
        replace y0 := K3.frozen hz (by omega) y0
        replace y1 := K3.frozen hz (by omega) y1
        replace y2 := K3.frozen hz (by omega) y2
        replace y3 := K3.frozen hz (by omega) y3
        replace B := (B.setCell (p := ⟨gB, b * 2, none⟩) (by show w.heap.size ≤ gB; omega) (.int .i64 1)).setCell (p := ⟨gB, b * 2 + 1, none⟩) (by show w.heap.size ≤ gB; omega) (.int .i64 dv)
        replace hz : w.heap.size + 1 < (((w2.alloc (.cells #[.slice va nn vc, .slice (some ⟨gB, 0, none⟩) nb bc] 60)).setCell ⟨gB, b * 2, none⟩ (.int .i64 1)).setCell ⟨gB, b * 2 + 1, none⟩ (.int .i64 dv)).heap.size := Nat.lt_of_lt_of_le hz K3.size
        have HI2 : Hid _ := I2
        clear K3 RS I2
        go_wp2_with fail
        refine (l4Set_any (by exact HI2.out) root a b HASK.out _ HP.out).mono ?_
        have hr := HR.out
        have hf := HFF.out
        clear HR HFF c0 c1 b1 b2 bf1 bf2
        rintro e w3 (⟨hc3, rfl, hb3⟩ | ⟨hc3, rfl, ⟨vn3, K3, I3⟩, hb3⟩)
        · simp only at hc3
          replace z0 := (hb3.cell (p := ⟨w.heap.size + 1, 0, none⟩) (by show w.heap.size + 1 < _; omega)).trans z0
          replace z1 := (hb3.cell (p := ⟨w.heap.size + 1, 1, none⟩) (by show w.heap.size + 1 < _; omega)).trans z1
          replace z2 := (hb3.cell (p := ⟨w.heap.size + 1, 2, none⟩) (by show w.heap.size + 1 < _; omega)).trans z2
          replace z3 := (hb3.cell (p := ⟨w.heap.size + 1, 3, none⟩) (by show w.heap.size + 1 < _; omega)).trans z3
          replace y0 := (hb3.frozen (p := ⟨w.heap.size + 1, 0, none⟩) (by show w.heap.size + 1 < _; omega)).trans y0
          replace y1 := (hb3.frozen (p := ⟨w.heap.size + 1, 1, none⟩) (by show w.heap.size + 1 < _; omega)).trans y1
          replace y2 := (hb3.frozen (p := ⟨w.heap.size + 1, 2, none⟩) (by show w.heap.size + 1 < _; omega)).trans y2
          replace y3 := (hb3.frozen (p := ⟨w.heap.size + 1, 3, none⟩) (by show w.heap.size + 1 < _; omega)).trans y3
          have hsz3 := hb3.size
          replace hz : w.heap.size + 1 < w3.heap.size := by omega
          replace B := B.trans (hb3.mono (by omega))
          rw [atIf, if_neg hc3] at hr
          rw [foIf, if_neg hc3] at hf
          subst hr
          subst hf
          have hne : (c != 0) = true := by simp [hc3]
          clear hb3 hc3 I r g0 g1
          go_wp2_with fail
          refine (l4Bad_any c _).mono ?_
          rintro e wb ⟨rfl, hb1⟩
          replace z0 := cell_later hb1 z0
          replace z1 := cell_later hb1 z1
          replace z2 := cell_later hb1 z2
          replace z3 := cell_later hb1 z3
          replace y0 := frozen_later hb1 hz y0
          replace y1 := frozen_later hb1 hz y1
          replace y2 := frozen_later hb1 hz y2
          replace y3 := frozen_later hb1 hz y3
          replace hz := Nat.lt_of_lt_of_le hz hb1.size
          replace B := below_next B hb1
          clear hb1
          go_wp2
          refine bodyPost_ret (v := .agg #[.int .i64 c, .int .i64 0, .slice none 0 0, .slice none 0 0]) (by simp [results, Try.results59, go_sem, z0, z1, z2, z3]) rfl ⟨_, _, _, _, _, _, _, rfl, FoU.nil _ _ _, ?_⟩
          refine Below.setCell (Below.setCell (Below.setCell (Below.setCell B ?_ _) ?_ _) ?_ _) ?_ _ <;> simp
        · simp only at hc3
          subst hc3
          replace z0 := (hb3.cell (p := ⟨w.heap.size + 1, 0, none⟩) (by show w.heap.size + 1 < _; omega)).trans z0
          replace z1 := (hb3.cell (p := ⟨w.heap.size + 1, 1, none⟩) (by show w.heap.size + 1 < _; omega)).trans z1
          replace z2 := (hb3.cell (p := ⟨w.heap.size + 1, 2, none⟩) (by show w.heap.size + 1 < _; omega)).trans z2
          replace z3 := (hb3.cell (p := ⟨w.heap.size + 1, 3, none⟩) (by show w.heap.size + 1 < _; omega)).trans z3
          replace y0 := (hb3.frozen (p := ⟨w.heap.size + 1, 0, none⟩) (by show w.heap.size + 1 < _; omega)).trans y0
          replace y1 := (hb3.frozen (p := ⟨w.heap.size + 1, 1, none⟩) (by show w.heap.size + 1 < _; omega)).trans y1
          replace y2 := (hb3.frozen (p := ⟨w.heap.size + 1, 2, none⟩) (by show w.heap.size + 1 < _; omega)).trans y2
          replace y3 := (hb3.frozen (p := ⟨w.heap.size + 1, 3, none⟩) (by show w.heap.size + 1 < _; omega)).trans y3
          have hsz3 := hb3.size
          replace B := B.trans (hb3.mono (by omega))
          rw [atIf, if_pos rfl] at hr
          rw [foIf, if_pos rfl] at hf
          subst hr
          subst hf
          obtain ⟨an2, cn2, ev2, RF⟩ := I3.readU
          subst ev2
          have c0 := I3.c0
          have c1 := I3.c1
          obtain ⟨n2, hn2⟩ : ∃ n2, g2.1.length = n2 := ⟨_, rfl⟩
          rw [hn2] at RF c0
          have HF : Hid _ := RF
          clear RF I I3 r hb3 hn2 g0 g1
          go_wp2
          refine bodyPost_ret (v := .agg #[.int .i64 0, .int .i64 x, .slice an2 n2 cn2, .slice (some ⟨gB, 0, none⟩) nb bc]) (by simp [results, Try.results59, go_sem, z0, z1, z2, z3]) rfl ⟨_, _, _, _, _, _, K3, rfl, ?_, ?_⟩
          · refine FoU.widen (FoU.kept HF.out (l := w.heap.size + 1) (u := w.heap.size + 2) ?_ (by omega)) (by omega) (by simp)
            refine Kept.setCell (Kept.setCell (Kept.setCell (Kept.setCell (Kept.refl _ _ _) ?_ ?_ _) ?_ ?_ _) ?_ ?_ _) ?_ ?_ _ <;> simp
          · refine Below.setCell (Below.setCell (Below.setCell (Below.setCell B ?_ _) ?_ _) ?_ _) ?_ _ <;> simp
    · rw [if_neg hd] at hc hr hf
      have HD : Hid (dataB dv = false) := by show _ = _; simpa using hd
      obtain rfl : rt = 0 := hr.symm
      obtain rfl : g = ([], []) := hf.symm
      subst hc
      clear h0 T hr hf hd
      go_enter Try.func59, Try.ntmps59
      go_wp2_with fail
      refine (l4Asked_is w.heap.size an nn cn ab nb cb K f _ (by exact r) g0 g1 hn hb hK root (a : Int) 0 H0.out).mono ?_
      rintro e w1 ⟨rfl, hb1⟩
      replace z0 := cell_later hb1 z0
      replace z1 := cell_later hb1 z1
      replace z2 := cell_later hb1 z2
      replace z3 := cell_later hb1 z3
      replace y0 := frozen_later hb1 hz y0
      replace y1 := frozen_later hb1 hz y1
      replace y2 := frozen_later hb1 hz y2
      replace y3 := frozen_later hb1 hz y3
      replace g0 := cell_later hb1 g0
      replace g1 := cell_later hb1 g1
      replace r := r.below hb1
      replace hz := Nat.lt_of_lt_of_le hz hb1.size
      replace B := below_next B hb1
      clear hb1
      go_wp2_with fail
      refine (l3Data_is dv _ false HD.out).mono ?_
      rintro e w9 ⟨rfl, rfl⟩
      go_wp2_with fail
      refine (l4Bad_any 3 _).mono ?_
      rintro e wb ⟨rfl, hb1⟩
      replace z0 := cell_later hb1 z0
      replace z1 := cell_later hb1 z1
      replace z2 := cell_later hb1 z2
      replace z3 := cell_later hb1 z3
      replace y0 := frozen_later hb1 hz y0
      replace y1 := frozen_later hb1 hz y1
      replace y2 := frozen_later hb1 hz y2
      replace y3 := frozen_later hb1 hz y3
      replace g0 := cell_later hb1 g0
      replace g1 := cell_later hb1 g1
      replace r := r.below hb1
      replace hz := Nat.lt_of_lt_of_le hz hb1.size
      replace B := below_next B hb1
      clear hb1
      go_wp2
      refine bodyPost_ret (v := .agg #[.int .i64 3, .int .i64 0, .slice none 0 0, .slice none 0 0]) (by simp [results, Try.results59, go_sem, z0, z1, z2, z3]) rfl ⟨_, _, _, _, _, _, _, rfl, FoU.nil _ _ _, ?_⟩
      refine Below.setCell (Below.setCell (Below.setCell (Below.setCell B ?_ _) ?_ _) ?_ _) ?_ _ <;> simp
  · obtain ⟨c, hcc⟩ : ∃ c, treeCode f root at' = c := ⟨_, rfl⟩
    have t0 : setTCode f root at' dv = c := by rw [setTCode, if_neg h0, hcc]
    rw [hcc] at h0
    rw [t0] at hc
    rw [setRootT, t0, atIf, if_neg h0] at hr
    rw [setFo, t0, foIf, if_neg h0] at hf
    subst hc
    subst hr
    subst hf
    have HC : Hid _ := hcc
    have hne : (c != 0) = true := by simp [h0]
    clear h0 hcc t0
    go_enter Try.func59, Try.ntmps59
    go_wp2_with fail
    refine (l4Asked_is w.heap.size an nn cn ab nb cb K f _ (by exact r) g0 g1 hn hb hK root at' c HC.out).mono ?_
    rintro e w1 ⟨rfl, hb1⟩
    replace z0 := cell_later hb1 z0
    replace z1 := cell_later hb1 z1
    replace z2 := cell_later hb1 z2
    replace z3 := cell_later hb1 z3
    replace y0 := frozen_later hb1 hz y0
    replace y1 := frozen_later hb1 hz y1
    replace y2 := frozen_later hb1 hz y2
    replace y3 := frozen_later hb1 hz y3
    replace g0 := cell_later hb1 g0
    replace g1 := cell_later hb1 g1
    replace r := r.below hb1
    replace hz := Nat.lt_of_lt_of_le hz hb1.size
    replace B := below_next B hb1
    clear hb1
    go_wp2_with fail
    refine (l4Bad_any c _).mono ?_
    rintro e wb ⟨rfl, hb1⟩
    replace z0 := cell_later hb1 z0
    replace z1 := cell_later hb1 z1
    replace z2 := cell_later hb1 z2
    replace z3 := cell_later hb1 z3
    replace y0 := frozen_later hb1 hz y0
    replace y1 := frozen_later hb1 hz y1
    replace y2 := frozen_later hb1 hz y2
    replace y3 := frozen_later hb1 hz y3
    replace g0 := cell_later hb1 g0
    replace g1 := cell_later hb1 g1
    replace r := r.below hb1
    replace hz := Nat.lt_of_lt_of_le hz hb1.size
    replace B := below_next B hb1
    clear hb1
    go_wp2
    refine bodyPost_ret (v := .agg #[.int .i64 c, .int .i64 0, .slice none 0 0, .slice none 0 0]) (by simp [results, Try.results59, go_sem, z0, z1, z2, z3]) rfl ⟨_, _, _, _, _, _, _, rfl, FoU.nil _ _ _, ?_⟩
    refine Below.setCell (Below.setCell (Below.setCell (Below.setCell B ?_ _) ?_ _) ?_ _) ?_ _ <;> simp

end Go.Proofs.Ytkdaphfmhdkhfaa
