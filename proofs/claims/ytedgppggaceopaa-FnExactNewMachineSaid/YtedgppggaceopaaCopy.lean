/- What the laws' copies answer: a slice of numbers, of pairs, a disk, copied into new memory. -/
import Derived.Test.YtedgppggaceopaaChecked
import Derived.Test.YtedgppggaceopaaBase
import Derived.WalkLawsBesides
namespace Go.Proofs.Ytedgppggaceopaa
open Go.RowKit

theorem Try.info2' : (Try.prog.info? 2).map (fun i => (i.zero, i.size, i.bytes)) = some (some (.int .i64 0), 1, 8) := by kernel_rfl

set_option maxHeartbeats 400000 in
theorem toInts_any {own : Bool} {lo hi : Nat} (ao : Option Addr) (n cap : Nat) (xs : List Int) (w : World) (h : RowAt w own lo hi 1 ao n cap (ints xs)) (hn : n ≤ 1048576) :
    Calls Try.prog 126 #[.slice ao n cap] w fun e w' => e = .returned (.slice (some ⟨w.heap.size, 0, none⟩) n n) ∧ RowAt w' true w.heap.size w'.heap.size 1 (some ⟨w.heap.size, 0, none⟩) n n (ints xs) ∧ Below w.heap.size w w' := by
  have hx := h.nInts
  obtain ⟨i0, hi0, hz0, hz1, hz2⟩ := info_parts Try.info2'
  go_enter Try.func126, Try.ntmps126
  go_wp2_with (first | (at_make; refine wpList_make_full _ rfl _ _ 107 rfl w.heap.size 2 i0 (.int .i64 0) 1 Try.underlying107 hi0 hz0 hz1 _ _ _ _ n rfl rfl rfl rfl ?b1 ?b2 ?b3 ?_))
  case b1 => rw [hz2]; omega
  case b2 => unfold maxLen; omega
  case b3 => exact Nat.le_refl _
  intro w1 hown hgrow
  have hb1 : Below w.heap.size w w1 := (Below.refl _ _).grown hgrow (Nat.le_refl _) (fun k hk => by cases hk)
  have hown0 : w1.ownsRow w.heap.size 2 1 (.slice (some ⟨w.heap.size, 0, none⟩) n n) n (cop (ints xs) (.int .i64 0) 0) := by
    rw [cop_zero, ints_length, hx]; simpa [Value.cells, toList_madeCells_one] using hown
  clear hown hgrow
  go_wp2
  go_loopw [4] (fun i wr => ∃ k : Nat, k ≤ n ∧ i = .int .i64 k ∧ wr.ownsRow w.heap.size 2 1 (.slice (some ⟨w.heap.size, 0, none⟩) n n) n (cop (ints xs) (.int .i64 0) k) ∧ Below w.heap.size w wr) (fun i _ => n - (intOf i).toNat)
  case atStart => exact ⟨0, Nat.zero_le _, rfl, hown0, hb1⟩
  case round =>
    obtain ⟨k, hk, rfl, hown, hb⟩ := hrel
    clear hown0 hb1
    by_cases hlt : k < n
    · obtain ⟨b, off, rfl, _, _, hbs, hc, _⟩ := h.int hlt
      have hcr : wr.cell? ⟨b, off + k, none⟩ = some (.int .i64 (xs.getD k 0)) := (hb.cell (p := ⟨b, off + k, none⟩) hbs).trans hc
      have hcw : wr.cell? ⟨w.heap.size, k, none⟩ = some (.int .i64 0) := by
        rw [hown.cellAt k (by omega), cop_get _ _ _ _ (Nat.le_refl _) (by rw [ints_length]; omega)]
      have hfw : wr.frozen? ⟨w.heap.size, k, none⟩ = false := hown.frozenAt k
      have R := hown.stored k (.int .i64 (xs.getD k 0))
      rw [cop_set _ _ _ k (by rw [ints_length]; omega) (ints_getD xs k (by omega))] at R
      have hb2 : Below w.heap.size w (wr.setCell ⟨w.heap.size, k, none⟩ (.int .i64 (xs.getD k 0))) := hb.setCell (p := ⟨w.heap.size, k, none⟩) (Nat.le_refl _) _
      have R2 := R.1
      clear hc R hown hb
      generalize xs.getD k 0 = x at *
      go_wp2
      go_roundw
      case rel => exact ⟨k + 1, by omega, by go_num, R2, hb2⟩
      case measure => simp [intOf]; omega
    · go_wp2
      go_ret
      have hkn : k = (ints xs).length := by rw [ints_length]; omega
      rw [hkn, cop_all] at hown
      exact ⟨rfl, RowAt.of_owns hown (Nat.le_refl _), hb⟩

theorem made2 (n : Nat) : (madeCells #[.int .i64 0, .int .i64 0] (n * 2)).toList = List.replicate (n * 2) (.int .i64 0) := by
  apply List.ext_getElem?
  intro j
  by_cases hj : j < n * 2
  · have : j % 2 = 0 ∨ j % 2 = 1 := by omega
    rcases this with e | e <;> simp [madeCells, hj, e]
  · simp [madeCells, hj]

/-- A disk in new memory: its words and its cache lie in blocks of their own. -/
structure DiskAt (w : World) (lo hi : Nat) (a0 : Option Addr) (n0 c0 : Nat) (a1 : Option Addr) (n1 c1 : Nat) (xs : List Int) (ys : List (Int × Int)) : Prop where
  parts : ∃ mid, lo ≤ mid ∧ mid ≤ hi ∧ RowAt w true lo mid 1 a0 n0 c0 (ints xs) ∧ RowAt w true mid hi 2 a1 n1 c1 (pairs ys)

theorem DiskAt.kept {w w' : World} {lo hi : Nat} {a0 : Option Addr} {n0 c0 : Nat} {a1 : Option Addr} {n1 c1 : Nat} {xs : List Int} {ys : List (Int × Int)} (h : DiskAt w lo hi a0 n0 c0 a1 n1 c1 xs ys) {l u : Nat} (hk : Kept l u w w') (hd : hi ≤ l ∨ u ≤ lo) : DiskAt w' lo hi a0 n0 c0 a1 n1 c1 xs ys := by
  obtain ⟨mid, m1, m2, r1, r2⟩ := h.parts
  exact ⟨mid, m1, m2, r1.kept hk (by omega), r2.kept hk (by omega)⟩
theorem DiskAt.below {w w' : World} {lo hi : Nat} {a0 : Option Addr} {n0 c0 : Nat} {a1 : Option Addr} {n1 c1 : Nat} {xs : List Int} {ys : List (Int × Int)} (h : DiskAt w lo hi a0 n0 c0 a1 n1 c1 xs ys) (hk : Below w.heap.size w w') : DiskAt w' lo hi a0 n0 c0 a1 n1 c1 xs ys :=
  h.kept (l := hi) (u := hi) (Kept.of_below hk) (Or.inl (Nat.le_refl _))

end Go.Proofs.Ytedgppggaceopaa
