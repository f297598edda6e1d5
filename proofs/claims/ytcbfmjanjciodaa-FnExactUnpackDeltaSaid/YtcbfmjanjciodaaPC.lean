/- Chapter 6: cells copied, compared and counted by the laws. -/
import Derived.Test.YtcbfmjanjciodaaYP
namespace Go.Proofs.Ytcbfmjanjciodaa
open Go.RowKit

theorem toCell_any (x y z : Int) (w : World) :
    Calls Try.prog 157 #[.agg #[.int .i64 x, .int .i64 y, .int .i64 z]] w fun e w' => e = .returned (.agg #[.int .i64 x, .int .i64 y, .int .i64 z]) ∧ Below w.heap.size w w' := by
  go_enter Try.func157, Try.ntmps157
  go_wp2
  refine bodyPost_ret (v := .agg #[.int .i64 x, .int .i64 y, .int .i64 z]) (by simp [results, Try.results157, go_sem]) rfl ⟨rfl, ?_⟩
  exact ((((Below.refl _ _).alloc (Nat.le_refl _) _).alloc (by simp) _).alloc (by simp; omega) _)
theorem Try.infoCell : (Try.prog.info? 130).map (fun i => (i.zero, i.size, i.bytes)) = some (some (.agg #[.int .i64 0, .int .i64 0, .int .i64 0]), 3, 24) := by kernel_rfl

set_option maxHeartbeats 800000 in
theorem toCells_any {own : Bool} {lo hi : Nat} (ao : Option Addr) (n cap : Nat) (xs : List Vo) (w : World) (h : RowAt w own lo hi 3 ao n cap (trips xs)) (hn : n ≤ 1048576) :
    Calls Try.prog 80 #[.slice ao n cap] w fun e w' => e = .returned (.slice (some ⟨w.heap.size, 0, none⟩) n n) ∧ RowAt w' true w.heap.size w'.heap.size 3 (some ⟨w.heap.size, 0, none⟩) n n (trips xs) ∧ Below w.heap.size w w' := by
  have hx := h.nTrips
  obtain ⟨i0, hi0, hz0, hz1, hz2⟩ := info_parts Try.infoCell
  go_enter Try.func80, Try.ntmps80
  go_wp2_with (first | (at_make; refine wpList_make_full _ rfl _ _ 31 rfl w.heap.size 130 i0 (.agg #[.int .i64 0, .int .i64 0, .int .i64 0]) 3 Try.underlying31 hi0 hz0 hz1 _ _ _ _ n rfl rfl rfl rfl ?b1 ?b2 ?b3 ?_))
  case b1 => rw [hz2]; omega
  case b2 => unfold maxLen; omega
  case b3 => exact Nat.le_refl _
  intro w1 hown hgrow
  have hb1 : Below w.heap.size w w1 := (Below.refl _ _).grown hgrow (Nat.le_refl _) (fun k hk => by cases hk)
  have hown0 : w1.ownsRow w.heap.size 130 3 (.slice (some ⟨w.heap.size, 0, none⟩) n n) n (cop (trips xs) (.int .i64 0) (0 * 3)) := by
    rw [Nat.zero_mul, cop_zero, trips_len, hx]; simpa [Value.cells, made3] using hown
  clear hown hgrow
  go_wp2
  go_loopw [4] (fun i wr => ∃ k : Nat, k ≤ n ∧ i = .int .i64 k ∧ wr.ownsRow w.heap.size 130 3 (.slice (some ⟨w.heap.size, 0, none⟩) n n) n (cop (trips xs) (.int .i64 0) (k * 3)) ∧ Below w.heap.size w wr) (fun i _ => n - (intOf i).toNat)
  case atStart => exact ⟨0, Nat.zero_le _, rfl, hown0, hb1⟩
  case round =>
    obtain ⟨k, hk, rfl, hown, hb⟩ := hrel
    clear hown0 hb1
    by_cases hlt : k < n
    · obtain ⟨b, off, rfl, _, _, hbs, hc0, hc1, hc2, _⟩ := h.trip hlt
      have hcr0 := (hb.cell (p := ⟨b, off + k * 3, none⟩) hbs).trans hc0
      have hcr1 := (hb.cell (p := ⟨b, off + k * 3 + 1, none⟩) hbs).trans hc1
      have hcr2 := (hb.cell (p := ⟨b, off + k * 3 + 2, none⟩) hbs).trans hc2
      have R : ∀ w1, Below wr.heap.size wr w1 → w1.cell? ⟨w.heap.size, k * 3, none⟩ = some (.int .i64 0) ∧ w1.cell? ⟨w.heap.size, k * 3 + 1, none⟩ = some (.int .i64 0) ∧ w1.cell? ⟨w.heap.size, k * 3 + 2, none⟩ = some (.int .i64 0) ∧ w1.frozen? ⟨w.heap.size, k * 3, none⟩ = false ∧ w1.frozen? ⟨w.heap.size, k * 3 + 1, none⟩ = false ∧ w1.frozen? ⟨w.heap.size, k * 3 + 2, none⟩ = false ∧
          (((w1.setCell ⟨w.heap.size, k * 3, none⟩ (.int .i64 (xs.getD k vo0).1)).setCell ⟨w.heap.size, k * 3 + 1, none⟩ (.int .i64 (xs.getD k vo0).2.1)).setCell ⟨w.heap.size, k * 3 + 2, none⟩ (.int .i64 (xs.getD k vo0).2.2)).ownsRow w.heap.size 130 3 (.slice (some ⟨w.heap.size, 0, none⟩) n n) n (cop (trips xs) (.int .i64 0) ((k + 1) * 3)) ∧
          Below w.heap.size w (((w1.setCell ⟨w.heap.size, k * 3, none⟩ (.int .i64 (xs.getD k vo0).1)).setCell ⟨w.heap.size, k * 3 + 1, none⟩ (.int .i64 (xs.getD k vo0).2.1)).setCell ⟨w.heap.size, k * 3 + 2, none⟩ (.int .i64 (xs.getD k vo0).2.2)) := by
        intro w1 hb1
        have ho := owns_below hown hb1
        have hl : (trips xs).length = n * 3 := by rw [trips_len, hx]
        refine ⟨?_, ?_, ?_, ho.frozenAt _, ho.frozenAt _, ho.frozenAt _, ?_, ?_⟩
        · rw [ho.cellAt _ (by omega), cop_get _ _ _ _ (by omega) (by omega)]
        · rw [ho.cellAt _ (by omega), cop_get _ _ _ _ (by omega) (by omega)]
        · rw [ho.cellAt _ (by omega), cop_get _ _ _ _ (by omega) (by omega)]
        · have r := (((ho.stored (k * 3) (.int .i64 (xs.getD k vo0).1)).1.stored (k * 3 + 1) (.int .i64 (xs.getD k vo0).2.1)).1.stored (k * 3 + 2) (.int .i64 (xs.getD k vo0).2.2)).1
          rwa [cop_set _ _ _ (k * 3) (by omega) (trips_getD0 xs k (by omega)), cop_set _ _ _ (k * 3 + 1) (by omega) (trips_getD1 xs k (by omega)), cop_set _ _ _ (k * 3 + 2) (by omega) (trips_getD2 xs k (by omega)), show k * 3 + 2 + 1 = (k + 1) * 3 by omega] at r
        · exact (((below_step hb hb.size hb1).setCell (p := ⟨w.heap.size, k * 3, none⟩) (Nat.le_refl _) _).setCell (p := ⟨w.heap.size, k * 3 + 1, none⟩) (Nat.le_refl _) _).setCell (p := ⟨w.heap.size, k * 3 + 2, none⟩) (Nat.le_refl _) _
      clear hc0 hc1 hc2 hown hb
      generalize (xs.getD k vo0).1 = x at *
      generalize (xs.getD k vo0).2.1 = y at *
      generalize (xs.getD k vo0).2.2 = z at *
      have HR : Hid _ := R
      clear R
      go_wp2_with fail
      refine (toCell_any _ _ _ _).mono ?_
      rintro e w1 ⟨rfl, hb1⟩
      obtain ⟨a0, a1, a2, a3, a4, a5, a6, a7⟩ := HR.out w1 hb1
      clear HR hb1 hcr0 hcr1 hcr2
      go_wp2
      go_roundw
      case rel => exact ⟨k + 1, by omega, by go_num, a6, a7⟩
      case measure => simp [intOf]; omega
    · go_wp2
      go_ret
      have hkn : k * 3 = (trips xs).length := by rw [trips_len]; omega
      rw [hkn, cop_all] at hown
      exact ⟨rfl, RowAt.of_owns hown (Nat.le_refl _), hb⟩

theorem eqCell_yes (x y z : Int) (w : World) :
    Calls Try.prog 163 #[.agg #[.int .i64 x, .int .i64 y, .int .i64 z], .agg #[.int .i64 x, .int .i64 y, .int .i64 z]] w fun e w' => e = .returned (.bool true) ∧ Below w.heap.size w w' := by
  have e1 : (x != x) = false := by simp
  have e2 : (y != y) = false := by simp
  have e3 : (z != z) = false := by simp
  go_enter Try.func163, Try.ntmps163
  go_wp2
  go_ret
  exact ⟨rfl, (((Below.refl _ _).alloc (Nat.le_refl _) _).alloc (by simp) _)⟩

set_option maxRecDepth 20000 in
set_option maxHeartbeats 1600000 in
theorem eqCells_yes {o1 o2 : Bool} {l1 u1 l2 u2 : Nat} (a1 a2 : Option Addr) (n c1 m c2 : Nat) (xs : List Vo) (w : World) (h1 : RowAt w o1 l1 u1 3 a1 n c1 (trips xs)) (h2 : RowAt w o2 l2 u2 3 a2 m c2 (trips xs)) (hn : n ≤ 2097152) :
    Calls Try.prog 85 #[.slice a1 n c1, .slice a2 m c2] w fun e w' => e = .returned (.bool true) ∧ Below w.heap.size w w' := by
  obtain rfl : n = m := by rw [← h1.nTrips, ← h2.nTrips]
  have hb0 : ((n : Int) != (n : Int)) = false := by simp
  go_enter Try.func85, Try.ntmps85
  go_wp2
  go_loopw [5] (fun i wr => ∃ k : Nat, k ≤ n ∧ i = .int .i64 k ∧ Below w.heap.size w wr) (fun i _ => n - (intOf i).toNat)
  case atStart => exact ⟨0, Nat.zero_le _, rfl, Below.refl _ _⟩
  case round =>
    obtain ⟨k, hk, rfl, hb⟩ := hrel
    by_cases hlt : k < n
    · obtain ⟨b1, o1, rfl, _, _, hs1, e1, e2, e3, _⟩ := h1.trip hlt
      obtain ⟨b2, o2, rfl, _, _, hs2, f1, f2, f3, _⟩ := h2.trip hlt
      replace e1 := (hb.cell (p := ⟨b1, o1 + k * 3, none⟩) hs1).trans e1
      replace e2 := (hb.cell (p := ⟨b1, o1 + k * 3 + 1, none⟩) hs1).trans e2
      replace e3 := (hb.cell (p := ⟨b1, o1 + k * 3 + 2, none⟩) hs1).trans e3
      replace f1 := (hb.cell (p := ⟨b2, o2 + k * 3, none⟩) hs2).trans f1
      replace f2 := (hb.cell (p := ⟨b2, o2 + k * 3 + 1, none⟩) hs2).trans f2
      replace f3 := (hb.cell (p := ⟨b2, o2 + k * 3 + 2, none⟩) hs2).trans f3
      have hl : (k : Int) < (n : Int) := by omega
      generalize (xs.getD k vo0).1 = x at *
      generalize (xs.getD k vo0).2.1 = y at *
      generalize (xs.getD k vo0).2.2 = z at *
      go_wp2_with fail
      have D : Below wr.heap.size wr wr.drew := (Below.refl _ _).drew
      replace e1 := cell_later D e1
      replace e2 := cell_later D e2
      replace e3 := cell_later D e3
      replace f1 := cell_later D f1
      replace f2 := cell_later D f2
      replace f3 := cell_later D f3
      replace hb := below_step hb hb.size D
      clear D
      go_region_held3 (fun w' => w'.cell? ⟨b1, o1 + k * 3, none⟩ = some (.int .i64 x) ∧ w'.cell? ⟨b1, o1 + k * 3 + 1, none⟩ = some (.int .i64 y) ∧ w'.cell? ⟨b1, o1 + k * 3 + 2, none⟩ = some (.int .i64 z) ∧ w'.cell? ⟨b2, o2 + k * 3, none⟩ = some (.int .i64 x) ∧ w'.cell? ⟨b2, o2 + k * 3 + 1, none⟩ = some (.int .i64 y) ∧ w'.cell? ⟨b2, o2 + k * 3 + 2, none⟩ = some (.int .i64 z)) (exact ⟨e1, e2, e3, f1, f2, f3⟩) (first | (go_at_call 163; refine (eqCell_yes x y z _).mono ?_; rintro e w1 ⟨rfl, B1⟩; replace e1 := cell_later B1 e1; replace e2 := cell_later B1 e2; replace e3 := cell_later B1 e3; replace f1 := cell_later B1 f1; replace f2 := cell_later B1 f2; replace f3 := cell_later B1 f3; replace hb := below_step hb hb.size B1; clear B1))
      clear e1 e2 e3 f1 f2 f3
      go_wp2
      go_roundw
      case rel => exact ⟨k + 1, by omega, by go_num, hb⟩
      case measure => simp [intOf]; omega
    · go_wp2
      go_ret
      exact ⟨rfl, hb⟩

theorem szCells_left (ao : Option Addr) (n c : Nat) (lt : Int) (w : World) (hn : n ≤ maxLen) (h0 : 0 ≤ lt) (h1 : lt ≤ 1048576) :
    Calls Try.prog 77 #[.slice ao n c, .int .i64 lt] w fun e w' => e = .returned (.int .i64 (if lt < n then -1 else lt - n)) ∧ w' = w := by
  unfold maxLen at hn
  by_cases h : lt < n
  all_goals
    go_enter Try.func77, Try.ntmps77
    go_wp2
    go_ret
    exact ⟨by simp, rfl⟩


end Go.Proofs.Ytcbfmjanjciodaa
