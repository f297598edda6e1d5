/- What the laws' copies answer: a slice of numbers, of pairs, a disk, copied into new memory. -/
import Derived.Test.YtkdaphfmhdkhfaaChecked
import Derived.Test.YtkdaphfmhdkhfaaBase
import Derived.WalkLawsBesides
namespace Go.Proofs.Ytkdaphfmhdkhfaa
open Go.RowKit

theorem Try.info2' : (Try.prog.info? 2).map (fun i => (i.zero, i.size, i.bytes)) = some (some (.int .i64 0), 1, 8) := by kernel_rfl

set_option maxHeartbeats 400000 in
theorem toInts_any {own : Bool} {lo hi : Nat} (ao : Option Addr) (n cap : Nat) (xs : List Int) (w : World) (h : RowAt w own lo hi 1 ao n cap (ints xs)) (hn : n ≤ 1048576) :
    Calls Try.prog 78 #[.slice ao n cap] w fun e w' => e = .returned (.slice (some ⟨w.heap.size, 0, none⟩) n n) ∧ RowAt w' true w.heap.size w'.heap.size 1 (some ⟨w.heap.size, 0, none⟩) n n (ints xs) ∧ Below w.heap.size w w' := by
  have hx := h.nInts
  obtain ⟨i0, hi0, hz0, hz1, hz2⟩ := info_parts Try.info2'
  go_enter Try.func78, Try.ntmps78
  go_wp2_with (first | (at_make; refine wpList_make_full _ rfl _ _ 24 rfl w.heap.size 2 i0 (.int .i64 0) 1 Try.underlying24 hi0 hz0 hz1 _ _ _ _ n rfl rfl rfl rfl ?b1 ?b2 ?b3 ?_))
  case b1 => rw [hz2]; omega
  case b2 => unfold maxLen; omega
  case b3 => exact Nat.le_refl _
  intro w1 hown hgrow
  have hb1 : Below w.heap.size w w1 := (Below.refl _ _).grown hgrow (Nat.le_refl _) (fun k hk => by cases hk)
  have hown0 : w1.ownsRow w.heap.size 2 1 (.slice (some ⟨w.heap.size, 0, none⟩) n n) n (cop (ints xs) (.int .i64 0) 0) := by
    rw [cop_zero, ints_length, hx]; simpa [Value.cells, toList_madeCells_one] using hown
  clear hown hgrow
  go_wp2
  go_loopw [4] (fun i wr => ∃ k : Nat, k ≤ n ∧ i = .int .i64 k ∧ wr.ownsRow w.heap.size 2 1 (.slice (some ⟨w.heap.size, 0, none⟩) n n) n (cop (ints xs) (.int .i64 0) k) ∧ Below w.heap.size w wr) (fun i _ => n - (intOf i).toNat)
  case atStart => exact ⟨0, Nat.zero_le _, rfl, hown0, hb1⟩
  case round =>
    obtain ⟨k, hk, rfl, hown, hb⟩ := hrel
    clear hown0 hb1
    by_cases hlt : k < n
    · obtain ⟨b, off, rfl, _, _, hbs, hc, _⟩ := h.int hlt
      have hcr : wr.cell? ⟨b, off + k, none⟩ = some (.int .i64 (xs.getD k 0)) := (hb.cell (p := ⟨b, off + k, none⟩) hbs).trans hc
      have hcw : wr.cell? ⟨w.heap.size, k, none⟩ = some (.int .i64 0) := by
        rw [hown.cellAt k (by omega), cop_get _ _ _ _ (Nat.le_refl _) (by rw [ints_length]; omega)]
      have hfw : wr.frozen? ⟨w.heap.size, k, none⟩ = false := hown.frozenAt k
      have R := hown.stored k (.int .i64 (xs.getD k 0))
      rw [cop_set _ _ _ k (by rw [ints_length]; omega) (ints_getD xs k (by omega))] at R
      have hb2 : Below w.heap.size w (wr.setCell ⟨w.heap.size, k, none⟩ (.int .i64 (xs.getD k 0))) := hb.setCell (p := ⟨w.heap.size, k, none⟩) (Nat.le_refl _) _
      have R2 := R.1
      clear hc R hown hb
      generalize xs.getD k 0 = x at *
      go_wp2
      go_roundw
      case rel => exact ⟨k + 1, by omega, by go_num, R2, hb2⟩
      case measure => simp [intOf]; omega
    · go_wp2
      go_ret
      have hkn : k = (ints xs).length := by rw [ints_length]; omega
      rw [hkn, cop_all] at hown
      exact ⟨rfl, RowAt.of_owns hown (Nat.le_refl _), hb⟩

theorem toPut_any (x y : Int) (w : World) :
    Calls Try.prog 257 #[.agg #[.int .i64 x, .int .i64 y]] w fun e w' => e = .returned (.agg #[.int .i64 x, .int .i64 y]) ∧ Below w.heap.size w w' := by
  go_enter Try.func257, Try.ntmps257
  go_wp2
  refine bodyPost_ret (v := .agg #[.int .i64 x, .int .i64 y]) (by simp [results, Try.results257, go_sem]) rfl ⟨rfl, ?_⟩
  exact ((((Below.refl _ _).alloc (Nat.le_refl _) _).alloc (by simp) _).alloc (by simp; omega) _)

theorem Try.infoPut : (Try.prog.info? 41).map (fun i => (i.zero, i.size, i.bytes)) = some (some (.agg #[.int .i64 0, .int .i64 0]), 2, 16) := by kernel_rfl
theorem made2 (n : Nat) : (madeCells #[.int .i64 0, .int .i64 0] (n * 2)).toList = List.replicate (n * 2) (.int .i64 0) := by
  apply List.ext_getElem?
  intro j
  by_cases hj : j < n * 2
  · have : j % 2 = 0 ∨ j % 2 = 1 := by omega
    rcases this with e | e <;> simp [madeCells, hj, e]
  · simp [madeCells, hj]

set_option maxHeartbeats 400000 in
theorem toPuts_any {own : Bool} {lo hi : Nat} (ao : Option Addr) (n cap : Nat) (xs : List (Int × Int)) (w : World) (h : RowAt w own lo hi 2 ao n cap (pairs xs)) (hn : n ≤ 1048576) :
    Calls Try.prog 186 #[.slice ao n cap] w fun e w' => e = .returned (.slice (some ⟨w.heap.size, 0, none⟩) n n) ∧ RowAt w' true w.heap.size w'.heap.size 2 (some ⟨w.heap.size, 0, none⟩) n n (pairs xs) ∧ Below w.heap.size w w' := by
  have hx := h.nPairs
  obtain ⟨i0, hi0, hz0, hz1, hz2⟩ := info_parts Try.infoPut
  go_enter Try.func186, Try.ntmps186
  go_wp2_with (first | (at_make; refine wpList_make_full _ rfl _ _ 25 rfl w.heap.size 41 i0 (.agg #[.int .i64 0, .int .i64 0]) 2 Try.underlying25 hi0 hz0 hz1 _ _ _ _ n rfl rfl rfl rfl ?b1 ?b2 ?b3 ?_))
  case b1 => rw [hz2]; omega
  case b2 => unfold maxLen; omega
  case b3 => exact Nat.le_refl _
  intro w1 hown hgrow
  have hb1 : Below w.heap.size w w1 := (Below.refl _ _).grown hgrow (Nat.le_refl _) (fun k hk => by cases hk)
  have hown0 : w1.ownsRow w.heap.size 41 2 (.slice (some ⟨w.heap.size, 0, none⟩) n n) n (cop (pairs xs) (.int .i64 0) (0 * 2)) := by
    rw [Nat.zero_mul, cop_zero, pairs_length, hx]; simpa [Value.cells, made2] using hown
  clear hown hgrow
  go_wp2
  go_loopw [4] (fun i wr => ∃ k : Nat, k ≤ n ∧ i = .int .i64 k ∧ wr.ownsRow w.heap.size 41 2 (.slice (some ⟨w.heap.size, 0, none⟩) n n) n (cop (pairs xs) (.int .i64 0) (k * 2)) ∧ Below w.heap.size w wr) (fun i _ => n - (intOf i).toNat)
  case atStart => exact ⟨0, Nat.zero_le _, rfl, hown0, hb1⟩
  case round =>
    obtain ⟨k, hk, rfl, hown, hb⟩ := hrel
    clear hown0 hb1
    by_cases hlt : k < n
    · obtain ⟨b, off, rfl, _, _, hbs, hc0, hc1, _⟩ := h.pair hlt
      have hcr0 : wr.cell? ⟨b, off + k * 2, none⟩ = some (.int .i64 (xs.getD k (0, 0)).1) := (hb.cell (p := ⟨b, off + k * 2, none⟩) hbs).trans hc0
      have hcr1 : wr.cell? ⟨b, off + k * 2 + 1, none⟩ = some (.int .i64 (xs.getD k (0, 0)).2) := (hb.cell (p := ⟨b, off + k * 2 + 1, none⟩) hbs).trans hc1
      have R : ∀ w1, Below wr.heap.size wr w1 → w1.cell? ⟨w.heap.size, k * 2, none⟩ = some (.int .i64 0) ∧ w1.cell? ⟨w.heap.size, k * 2 + 1, none⟩ = some (.int .i64 0) ∧ w1.frozen? ⟨w.heap.size, k * 2, none⟩ = false ∧ w1.frozen? ⟨w.heap.size, k * 2 + 1, none⟩ = false ∧
          ((w1.setCell ⟨w.heap.size, k * 2, none⟩ (.int .i64 (xs.getD k (0, 0)).1)).setCell ⟨w.heap.size, k * 2 + 1, none⟩ (.int .i64 (xs.getD k (0, 0)).2)).ownsRow w.heap.size 41 2 (.slice (some ⟨w.heap.size, 0, none⟩) n n) n (cop (pairs xs) (.int .i64 0) ((k + 1) * 2)) ∧
          Below w.heap.size w ((w1.setCell ⟨w.heap.size, k * 2, none⟩ (.int .i64 (xs.getD k (0, 0)).1)).setCell ⟨w.heap.size, k * 2 + 1, none⟩ (.int .i64 (xs.getD k (0, 0)).2)) := by
        intro w1 hb1
        have ho := owns_below hown hb1
        have hl : (pairs xs).length = n * 2 := by rw [pairs_length, hx]
        refine ⟨?_, ?_, ho.frozenAt _, ho.frozenAt _, ?_, ?_⟩
        · rw [ho.cellAt _ (by omega), cop_get _ _ _ _ (by omega) (by omega)]
        · rw [ho.cellAt _ (by omega), cop_get _ _ _ _ (by omega) (by omega)]
        · have r := ((ho.stored (k * 2) (.int .i64 (xs.getD k (0, 0)).1)).1.stored (k * 2 + 1) (.int .i64 (xs.getD k (0, 0)).2)).1
          rwa [cop_set _ _ _ (k * 2) (by omega) (pairs_getD0 xs k (by omega)), cop_set _ _ _ (k * 2 + 1) (by omega) (pairs_getD1 xs k (by omega)), show k * 2 + 1 + 1 = (k + 1) * 2 by omega] at r
        · exact ((below_step hb hb.size hb1).setCell (p := ⟨w.heap.size, k * 2, none⟩) (Nat.le_refl _) _).setCell (p := ⟨w.heap.size, k * 2 + 1, none⟩) (Nat.le_refl _) _
      clear hc0 hc1 hown hb
      generalize (xs.getD k (0, 0)).1 = x at *
      generalize (xs.getD k (0, 0)).2 = y at *
      have HR : Hid _ := R
      clear R
      go_wp2_with fail
      refine (toPut_any _ _ _).mono ?_
      rintro e w1 ⟨rfl, hb1⟩
      obtain ⟨a0, a1, a2, a3, a4, a5⟩ := HR.out w1 hb1
      clear HR hb1 hcr0 hcr1
      go_wp2
      go_roundw
      case rel => exact ⟨k + 1, by omega, by go_num, a4, a5⟩
      case measure => simp [intOf]; omega
    · go_wp2
      go_ret
      have hkn : k * 2 = (pairs xs).length := by rw [pairs_length]; omega
      rw [hkn, cop_all] at hown
      exact ⟨rfl, RowAt.of_owns hown (Nat.le_refl _), hb⟩

/-- A disk in new memory: its words and its cache lie in blocks of their own. -/
structure DiskAt (w : World) (lo hi : Nat) (a0 : Option Addr) (n0 c0 : Nat) (a1 : Option Addr) (n1 c1 : Nat) (xs : List Int) (ys : List (Int × Int)) : Prop where
  parts : ∃ mid, lo ≤ mid ∧ mid ≤ hi ∧ RowAt w true lo mid 1 a0 n0 c0 (ints xs) ∧ RowAt w true mid hi 2 a1 n1 c1 (pairs ys)

theorem DiskAt.kept {w w' : World} {lo hi : Nat} {a0 : Option Addr} {n0 c0 : Nat} {a1 : Option Addr} {n1 c1 : Nat} {xs : List Int} {ys : List (Int × Int)} (h : DiskAt w lo hi a0 n0 c0 a1 n1 c1 xs ys) {l u : Nat} (hk : Kept l u w w') (hd : hi ≤ l ∨ u ≤ lo) : DiskAt w' lo hi a0 n0 c0 a1 n1 c1 xs ys := by
  obtain ⟨mid, m1, m2, r1, r2⟩ := h.parts
  exact ⟨mid, m1, m2, r1.kept hk (by omega), r2.kept hk (by omega)⟩
theorem DiskAt.below {w w' : World} {lo hi : Nat} {a0 : Option Addr} {n0 c0 : Nat} {a1 : Option Addr} {n1 c1 : Nat} {xs : List Int} {ys : List (Int × Int)} (h : DiskAt w lo hi a0 n0 c0 a1 n1 c1 xs ys) (hk : Below w.heap.size w w') : DiskAt w' lo hi a0 n0 c0 a1 n1 c1 xs ys :=
  h.kept (l := hi) (u := hi) (Kept.of_below hk) (Or.inl (Nat.le_refl _))

set_option maxHeartbeats 400000 in
theorem toDisk_any {o0 o1 : Bool} {l0 u0 l1 u1 : Nat} (a0 a1 : Option Addr) (n0 c0 n1 c1 : Nat) (xs : List Int) (ys : List (Int × Int)) (w : World) (h0 : RowAt w o0 l0 u0 1 a0 n0 c0 (ints xs)) (h1 : RowAt w o1 l1 u1 2 a1 n1 c1 (pairs ys)) (hn : n0 + n1 ≤ 1048576) :
    Calls Try.prog 75 #[.agg #[.slice a0 n0 c0, .slice a1 n1 c1]] w fun e w' => ∃ b0 b1, e = .returned (.agg #[.slice b0 n0 n0, .slice b1 n1 n1]) ∧ DiskAt w' w.heap.size w'.heap.size b0 n0 n0 b1 n1 n1 xs ys ∧ Below w.heap.size w w' := by
  have B1 : Below w.heap.size w (w.alloc (.cells #[.slice a0 n0 c0, .slice a1 n1 c1] 88)) := (Below.refl _ _).alloc (Nat.le_refl _) _
  have B2 : Below w.heap.size w ((w.alloc (.cells #[.slice a0 n0 c0, .slice a1 n1 c1] 88)).alloc (.cells #[.slice none 0 0, .slice none 0 0] 27)) := B1.alloc (by simp) _
  have B3 : Below w.heap.size w (((w.alloc (.cells #[.slice a0 n0 c0, .slice a1 n1 c1] 88)).alloc (.cells #[.slice none 0 0, .slice none 0 0] 27)).alloc (.cells #[.slice none 0 0, .slice none 0 0] 27)) := B2.alloc (by simp; omega) _
  go_enter Try.func75, Try.ntmps75
  go_wp2_with fail
  refine (toInts_any _ _ _ xs _ (by exact h0.below B3) (by omega)).mono ?_
  rintro e w1 ⟨rfl, r1, hb1⟩
  have B4 := below_next B3 hb1
  obtain ⟨hc, hf⟩ := bcell hb1
  have hz : w.heap.size + 1 + 1 < w1.heap.size := by have := hb1.size; simp at this; omega
  have hz' : w.heap.size + 1 < w1.heap.size := by omega
  have hz'' : w.heap.size < w1.heap.size := by omega
  go_wp2_with fail
  have B5 : Below w.heap.size w (w1.setCell ⟨w.heap.size + 1 + 1, 0, none⟩ (.slice (some ⟨w.heap.size + 1 + 1 + 1, 0, none⟩) n0 n0)) := B4.setCell (by simp; omega) _
  refine (toPuts_any _ _ _ ys _ (by exact h1.below B5) (by omega)).mono ?_
  rintro e w2 ⟨rfl, r2, hb2⟩
  have B6 := below_next B5 hb2
  obtain ⟨hc2, hf2⟩ := bcell hb2
  have hz2 : w1.heap.size ≤ w2.heap.size := by have := hb2.size; simpa using this
  go_wp2
  refine bodyPost_ret (v := .agg #[.slice (some ⟨w.heap.size + 1 + 1 + 1, 0, none⟩) n0 n0, .slice (some ⟨w1.heap.size, 0, none⟩) n1 n1]) (by simp [results, Try.results75, go_sem, hc, hc2, hz']) rfl ?_
  have K1 : Kept w.heap.size (w.heap.size + 3) w1 w2 := by
    refine Kept.next (Kept.setCell (Kept.refl _ _ _) ?_ ?_ _) hb2 <;> simp <;> omega
  have r1' : RowAt w1 true (w.heap.size + 3) w1.heap.size 1 (some ⟨w.heap.size + 1 + 1 + 1, 0, none⟩) n0 n0 (ints xs) := by simpa using r1
  have r2' : RowAt w2 true w1.heap.size w2.heap.size 2 (some ⟨w1.heap.size, 0, none⟩) n1 n1 (pairs ys) := by simpa using r2
  refine ⟨_, _, rfl, ⟨w1.heap.size, by omega, ?_, ?_, ?_⟩, ?_⟩
  · simpa using hz2
  · refine RowAt.widen (RowAt.kept (l := w.heap.size) (u := w.heap.size + 3) r1' ?_ (by omega)) (by omega) (Nat.le_refl _)
    refine Kept.setCell (Kept.setCell (Kept.setCell K1 ?_ ?_ _) ?_ ?_ _) ?_ ?_ _ <;> simp <;> omega
  · refine RowAt.widen (RowAt.kept (l := w.heap.size) (u := w.heap.size + 3) r2' ?_ (by omega)) (Nat.le_refl _) (by simp)
    refine Kept.setCell (Kept.setCell (Kept.setCell (Kept.refl _ _ _) ?_ ?_ _) ?_ ?_ _) ?_ ?_ _ <;> simp <;> omega
  · refine Below.setCell (Below.setCell (Below.setCell B6 ?_ _) ?_ _) ?_ _ <;> simp <;> omega

end Go.Proofs.Ytkdaphfmhdkhfaa
