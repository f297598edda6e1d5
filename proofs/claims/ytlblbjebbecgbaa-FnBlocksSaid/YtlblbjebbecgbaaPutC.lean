/- What the model's copy of a disk answers. -/
import Derived.Test.YtlblbjebbecgbaaPutS
namespace Go.Proofs.Ytlblbjebbecgbaa
open Go.RowKit

/-- What the copy's own memory keeps while its parts are made: the box of the result is there, nothing old has turned. -/
def CS (w w' : World) : Prop := w'.there (w.heap.size + 1) 0 2 ∧ Below w.heap.size w w' ∧ w.heap.size + 1 < w'.heap.size
def CpS (w : World) (v0 v1 : Value) (w' : World) : Prop := w'.cell? ⟨w.heap.size, 0, none⟩ = some v0 ∧ w'.cell? ⟨w.heap.size, 1, none⟩ = some v1 ∧ CS w w'
theorem CpS.drew {w W : World} {v0 v1 : Value} (h : CpS w v0 v1 W) : CpS w v0 v1 W.drew := ⟨h.1, h.2.1, (World.there_drew _ _ _ _).2 h.2.2.1, h.2.2.2.1.drew, h.2.2.2.2⟩
theorem there_below {W w1 : World} {b o n : Nat} (hb : Below W.heap.size W w1) (h : W.there b o n) : w1.there b o n := fun j hj => by
  obtain ⟨h1, h2⟩ := h j hj
  obtain ⟨u, hu⟩ := Option.isSome_iff_exists.1 h1
  have hlt := World.block_lt_of_cell? W _ hu
  exact ⟨by rw [hb.cell (p := ⟨b, o + j, none⟩) hlt]; exact h1, by rw [hb.frozen (p := ⟨b, o + j, none⟩) hlt]; exact h2⟩
theorem CpS.below {w W w1 : World} {v0 v1 : Value} (h : CpS w v0 v1 W) (hb : Below W.heap.size W w1) : CpS w v0 v1 w1 :=
  ⟨cell_later hb h.1, cell_later hb h.2.1, there_below hb h.2.2.1, below_next h.2.2.2.1 hb, Nat.lt_of_lt_of_le h.2.2.2.2 hb.size⟩
theorem CpS.alloc {w W : World} {v0 v1 : Value} (h : CpS w v0 v1 W) (o : Obj) : CpS w v0 v1 (W.alloc o) := h.below ((Below.refl _ _).alloc (Nat.le_refl _) o)
theorem CpS.set {w W : World} {v0 v1 : Value} (h : CpS w v0 v1 W) (j : Nat) (u : Value) : CpS w v0 v1 (W.setCell ⟨w.heap.size + 1, j, none⟩ u) := by
  refine ⟨?_, ?_, ?_, h.2.2.2.1.setCell (p := ⟨w.heap.size + 1, j, none⟩) (Nat.le_succ _) _, by simpa [World.setCell] using h.2.2.2.2⟩
  · rw [World.cell?_setCell_other _ _ _ _ (by intro e; simp at e)]; exact h.1
  · rw [World.cell?_setCell_other _ _ _ _ (by intro e; simp at e)]; exact h.2.1
  · exact World.there_setCells h.2.2.1 (w.heap.size + 1) j [u]
theorem CpS.bel {w W : World} {v0 v1 : Value} (h : CpS w v0 v1 W) : Below w.heap.size w W := h.2.2.2.1
theorem CpS.at {w W : World} {v0 v1 : Value} (h : CpS w v0 v1 W) (j : Nat) (hj : j < 2) : ∃ v, W.cell? ⟨w.heap.size + 1, j, none⟩ = some v ∧ W.frozen? ⟨w.heap.size + 1, j, none⟩ = false := by
  obtain ⟨h1, h2⟩ := h.2.2.1 j hj
  rw [Nat.zero_add] at h1 h2
  obtain ⟨v, hv⟩ := Option.isSome_iff_exists.1 h1
  exact ⟨v, hv, h2⟩

set_option maxRecDepth 20000 in
set_option maxHeartbeats 2000000 in
theorem l1Copy_any {o0 o1 : Bool} {l0 u0 l1 u1 : Nat} (a0 a1 : Option Addr) (n0 c0 n1 c1 : Nat) (xs : List Int) (ys : List (Int × Int)) (w : World) (h0 : RowAt w o0 l0 u0 1 a0 n0 c0 (ints xs)) (h1 : RowAt w o1 l1 u1 2 a1 n1 c1 (pairs ys)) (hn : n0 ≤ 1048576) (hm : n1 ≤ 1048576) :
    Calls Try.prog 105 #[.agg #[.slice a0 n0 c0, .slice a1 n1 c1]] w fun e w' => ∃ b0 d0 b1 d1 mid, e = .returned (.agg #[.slice (some b0) n0 d0, .slice (some b1) n1 d1]) ∧ w.heap.size ≤ mid ∧ mid ≤ w'.heap.size ∧ RowAt w' true w.heap.size mid 1 (some b0) n0 d0 (ints xs) ∧ Fresh w' mid w'.heap.size 41 2 (.slice (some b1) n1 d1) n1 (pairs ys) ∧ Below w.heap.size w w' := by
  obtain ⟨i0, hi0, hz0, hz1, hz2⟩ := info_parts Try.info2'
  obtain ⟨j0, hj0, hy0, hy1, hy2⟩ := info_parts Try.infoPut
  have hS0 : CpS w (.slice a0 n0 c0) (.slice a1 n1 c1) ((w.alloc (.cells #[.slice a0 n0 c0, .slice a1 n1 c1] 27)).alloc (.cells #[.slice none 0 0, .slice none 0 0] 27)) := by
    refine ⟨by simp, by simp, fun j hj => ?_, ((Below.refl _ _).alloc (Nat.le_refl _) _).alloc (by simp) _, by simp⟩
    match j, hj with
    | 0, _ => simp
    | 1, _ => simp
  go_enter Try.func105, Try.ntmps105
  go_wp2_with fail
  generalize hW : (w.alloc (.cells #[.slice a0 n0 c0, .slice a1 n1 c1] 27)).alloc _ = W at *
  clear hW
  have hi1 : ∀ x ∈ ints xs, x.oneCell' = true := ints_oneCell .i64 xs
  have hb8 : 8 ≤ 1048576 := by omega
  have hb16 : 16 ≤ 1048576 := by omega
  have hp1 := pairs_one ys
  have hzi : (Value.int .i64 0).cells.size = i0.size := by rw [hz1]; rfl
  have hyj : (Value.agg #[.int .i64 0, .int .i64 0]).cells.size = j0.size := by rw [hy1]; rfl
  have hS0 := hS0.drew
  go_region_held3 (fun w' => w'.cell? ⟨w.heap.size, 0, none⟩ = some (.slice a0 n0 c0) ∧ w'.cell? ⟨w.heap.size, 1, none⟩ = some (.slice a1 n1 c1) ∧ CS w w') (first | exact hS0 | exact hSn | exact CpS.alloc ‹_ ∧ _ ∧ CS w _› _ | exact (CpS.set (CpS.set hSn _ _) _ _))
    (first | (have hC : CpS w (.slice a0 n0 c0) (.slice a1 n1 c1) _ := ‹_ ∧ _ ∧ CS w _›; have hB := h0.below hC.bel; (with_reducible refine step_append_fresh 24 2 i0 (.int .i64 0) 1 8 Try.underlying24 hi0 hz0 hz1 hz2 hzi a0 n0 c0 (ints xs) hB hi1 hn hb8 ?_ ?_ ?_); exact ⟨_, rfl⟩; rfl; intro b0 d0 w1 r0 hb1 _; have hSn := CpS.below hC hb1; have r0 := r0.widen (lo' := w.heap.size + 2) hC.2.2.2.2 (Nat.le_refl _)) | (have hC : CpS w (.slice a0 n0 c0) (.slice a1 n1 c1) _ := ‹_ ∧ _ ∧ CS w _›; have hB := h1.below hC.bel; (with_reducible refine step_append_fresh 25 41 j0 (.agg #[.int .i64 0, .int .i64 0]) 2 16 Try.underlying25 hj0 hy0 hy1 hy2 hyj a1 n1 c1 (pairs ys) hB hp1 hm hb16 ?_ ?_ ?_); exact ⟨_, rfl⟩; rfl; intro b1 d1 w2 _ hb2 hF; have hSn := CpS.below hC hb2; obtain ⟨u0, z0, y0⟩ := CpS.at hSn 0 (by omega); obtain ⟨u1, z1, y1⟩ := CpS.at hSn 1 (by omega)))
  all_goals
    have r0' : RowAt w2 true (w.heap.size + 2) w1.heap.size 1 (some b0) n0 d0 (ints xs) := by first | exact r0.below hb2 | exact (r0.below ((Below.refl _ _).alloc (Nat.le_refl _) _)).below hb2
    have r1' : Fresh w2 w1.heap.size w2.heap.size 41 2 (.slice (some b1) n1 d1) n1 (pairs ys) := by first | exact hF | exact hF.widen (by simp) (Nat.le_refl _)
    have hs2 : w1.heap.size ≤ w2.heap.size := by have := hb2.size; first | exact this | (simp at this; omega)
    have hs1 : w.heap.size + 2 ≤ w1.heap.size := by have := hb1.size; have h2 := hS0.2.2.2.2; simp at this h2; omega
    have hB := hSn.bel
    clear r0 hF hb1 hb2
    go_wp2
    refine bodyPost_ret (v := .agg #[.slice (some b0) n0 d0, .slice (some b1) n1 d1]) (by simp [results, Try.results105, go_sem, z0, z1]) rfl ⟨_, _, _, _, w1.heap.size, rfl, by omega, ?_, RowAt.widen (RowAt.kept r0' (l := w.heap.size + 1) (u := w.heap.size + 2) ?_ (by omega)) (by omega) (Nat.le_refl _), Fresh.widen (Fresh.kept r1' (l := w.heap.size + 1) (u := w.heap.size + 2) ?_ (by omega)) (Nat.le_refl _) ?_, ?_⟩
    · simp; omega
    · refine Kept.setCell (Kept.setCell (Kept.refl _ _ _) ?_ ?_ _) ?_ ?_ _ <;> simp
    · refine Kept.setCell (Kept.setCell (Kept.refl _ _ _) ?_ ?_ _) ?_ ?_ _ <;> simp
    · simp
    · refine Below.setCell (Below.setCell hB ?_ _) ?_ _ <;> simp

end Go.Proofs.Ytlblbjebbecgbaa
