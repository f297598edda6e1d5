/- Chapter 3: the program's answer out of numbers; what sharing and dropping ask. -/
import Derived.Test.YtlblbjebbecgbaaQ1c
import Derived.Test.YtlblbjebbecgbaaP3
namespace Go.Proofs.Ytlblbjebbecgbaa
open Go.RowKit

set_option maxRecDepth 20000 in
set_option maxHeartbeats 2000000 in
theorem blocksAnswer_any {o : Bool} {l u : Nat} (x : Int) (ao : Option Addr) (n cap : Nat) (bs : List (Int × Int)) (w : World) (h : RowAt w o l u 1 ao n cap (nums bs)) (hs : ∀ p ∈ bs, Small p) (hn : n ≤ 24) :
    Calls Try.prog 91 #[.int .i64 x, .slice ao n cap] w fun e w' => BlkRes w w' e 0 x bs := by
  have hl := h.nNums
  have hpl := pairs_length bs
  have B : Below w.heap.size w (w.alloc (.cells #[.int .i64 0, .int .i64 0, .slice none 0 0] 51)) := (Below.refl _ _).alloc (Nat.le_refl _) _
  have z0 : (w.alloc (.cells #[.int .i64 0, .int .i64 0, .slice none 0 0] 51)).cell? ⟨w.heap.size, 0, none⟩ = some (.int .i64 0) := by simp
  have z1 : (w.alloc (.cells #[.int .i64 0, .int .i64 0, .slice none 0 0] 51)).cell? ⟨w.heap.size, 1, none⟩ = some (.int .i64 0) := by simp
  have z2 : (w.alloc (.cells #[.int .i64 0, .int .i64 0, .slice none 0 0] 51)).cell? ⟨w.heap.size, 2, none⟩ = some (.slice none 0 0) := by simp
  have y0 : (w.alloc (.cells #[.int .i64 0, .int .i64 0, .slice none 0 0] 51)).frozen? ⟨w.heap.size, 0, none⟩ = false := by simp
  have y1 : (w.alloc (.cells #[.int .i64 0, .int .i64 0, .slice none 0 0] 51)).frozen? ⟨w.heap.size, 1, none⟩ = false := by simp
  have y2 : (w.alloc (.cells #[.int .i64 0, .int .i64 0, .slice none 0 0] 51)).frozen? ⟨w.heap.size, 2, none⟩ = false := by simp
  have hz : w.heap.size < (w.alloc (.cells #[.int .i64 0, .int .i64 0, .slice none 0 0] 51)).heap.size := by simp
  obtain ⟨j0, hj0, hq0, hq1, hq2⟩ := info_parts Try.infoBlk
  go_enter Try.func91, Try.ntmps91
  go_wp2_with (first | (at_make; refine wpList_make_full _ rfl _ _ 47 rfl (w.heap.size + 1) 55 j0 (.agg #[.int .i64 0, .int .i64 0]) 2 Try.underlying47 hj0 hq0 hq1 _ _ _ _ n rfl rfl rfl rfl ?b1 ?b2 ?b3 ?_))
  case b1 => rw [hq2]; omega
  case b2 => unfold maxLen; omega
  case b3 => simp
  intro w2 hown hgrow
  have hb : Below (w.alloc (.cells #[.int .i64 0, .int .i64 0, .slice none 0 0] 51)).heap.size (w.alloc (.cells #[.int .i64 0, .int .i64 0, .slice none 0 0] 51)) w2 := (Below.refl _ _).grown hgrow (Nat.le_refl _) (fun k hk => by cases hk)
  replace z0 := cell_later hb z0
  replace z1 := cell_later hb z1
  replace z2 := cell_later hb z2
  replace y0 := frozen_later hb hz y0
  replace y1 := frozen_later hb hz y1
  replace y2 := frozen_later hb hz y2
  replace hz := Nat.lt_of_lt_of_le hz hb.size
  replace B := below_next B hb
  have hs1 : (w.alloc (.cells #[.int .i64 0, .int .i64 0, .slice none 0 0] 51)).heap.size = w.heap.size + 1 := by simp
  replace hown : w2.ownsRow (w.heap.size + 1) 55 2 (.slice (some ⟨w.heap.size + 1, 0, none⟩) n n) n (cop (pairs bs) (.int .i64 0) (0 * 2)) := by
    rw [Nat.zero_mul, cop_zero, hpl, hl]; simpa [Value.cells, made2] using hown
  have hlt2 : w.heap.size + 1 < w2.heap.size := (owns_lt hown).2
  have R0 : RowAt w2 true (w.heap.size + 1) (w.heap.size + 2) 2 (some ⟨w.heap.size + 1, 0, none⟩) n n (cop (pairs bs) (.int .i64 0) (0 * 2)) := (RowAt.of_owns hown (Nat.le_refl _)).pin
  clear hgrow hown hb hs1
  go_wp2
  go_loopw [13] (fun i wr => ∃ k : Nat, k ≤ n ∧ i = .int .i64 k ∧ RowAt wr true (w.heap.size + 1) (w.heap.size + 2) 2 (some ⟨w.heap.size + 1, 0, none⟩) n n (cop (pairs bs) (.int .i64 0) (k * 2)) ∧ Kept (w.heap.size + 1) (w.heap.size + 2) w2 wr) (fun i _ => n - (intOf i).toNat)
  case atStart => exact ⟨0, Nat.zero_le _, rfl, R0, Kept.refl _ _ _⟩
  case round =>
    obtain ⟨k, hk, rfl, R, K⟩ := hrel
    clear R0
    by_cases hlt : k < n
    · obtain ⟨b, f, rfl, _, _, hbs, e1, _⟩ := h.one hlt
      replace e1 := K.cell ((B.cell (p := ⟨b, f + k, none⟩) hbs).trans e1) (by omega)
      have hlk : (k : Int) < (n : Int) := by omega
      have hsm := hs (bs.getD k (0, 0)) (by rw [List.getD_eq_getElem?_getD, List.getElem?_eq_getElem (by omega)]; exact List.getElem_mem (by omega))
      have hg0 := pairs_getD0 bs k (by omega)
      have hg1 := pairs_getD1 bs k (by omega)
      rw [nums_getD bs k (by omega), numOf] at e1
      obtain ⟨⟨p, q⟩, hxy⟩ : ∃ p, bs.getD k (0, 0) = p := ⟨_, rfl⟩
      rw [hxy] at e1 hsm hg0 hg1
      simp only at e1 hg0 hg1
      have HP : Hid _ := fb_back hsm.1.1 hsm.1.2
      have HQ : Hid _ := fb_back hsm.2.1 hsm.2.2
      simp only at HP HQ
      obtain ⟨_, _, e', _, _, _, gc, gf⟩ := R.cells (by omega)
      cases e'
      have c0 := gc (k * 2) (by omega)
      have c1 := gc (k * 2 + 1) (by omega)
      have f0 := gf rfl (k * 2) (by omega)
      have f1 := gf rfl (k * 2 + 1) (by omega)
      have R2 := (R.stored (i := k * 2) (by omega) (.int .i64 p)).stored (i := k * 2 + 1) (by omega) (.int .i64 q)
      rw [cop_set _ _ _ (k * 2) (by omega) hg0, cop_set _ _ _ (k * 2 + 1) (by omega) hg1, show k * 2 + 1 + 1 = (k + 1) * 2 by omega] at R2
      rw [Nat.zero_add] at c0 c1 f0 f1
      rw [Nat.zero_add, Nat.zero_add] at R2
      have K2 : Kept (w.heap.size + 1) (w.heap.size + 2) w2 ((wr.setCell ⟨w.heap.size + 1, k * 2, none⟩ (.int .i64 p)).setCell ⟨w.heap.size + 1, k * 2 + 1, none⟩ (.int .i64 q)) := by
        refine Kept.setCell (Kept.setCell K ?_ ?_ _) ?_ ?_ _ <;> simp
      clear hxy hsm hg0 hg1 R K gc gf
      go_wp2_with fail
      refine (refs_is _ _ p _ HP.out).mono ?_
      rintro e w1 ⟨rfl, rfl⟩
      go_wp2_with fail
      refine (data_is _ _ q _ HQ.out).mono ?_
      rintro e w1 ⟨rfl, rfl⟩
      go_wp2
      go_roundw
      case rel => exact ⟨k + 1, by omega, by go_num, R2, K2⟩
      case measure => simp [intOf]; omega
    · obtain rfl : k = n := by omega
      rw [show cop (pairs bs) (.int .i64 0) (k * 2) = pairs bs by rw [← hl, ← hpl, cop_all]] at R
      replace z0 := K.cell z0 (by simp)
      replace z1 := K.cell z1 (by simp)
      replace z2 := K.cell z2 (by simp)
      replace y0 := K.frozen hz (by omega) y0
      replace y1 := K.frozen hz (by omega) y1
      replace y2 := K.frozen hz (by omega) y2
      replace B := B.trans (K.below _ (by omega) (by omega))
      have hs2 := K.size
      clear K
      go_wp2
      refine bodyPost_ret (v := .agg #[.int .i64 0, .int .i64 x, .slice (some ⟨w.heap.size + 1, 0, none⟩) k k]) (by simp [results, Try.results91, go_sem, z0, z1, z2]) rfl ⟨_, _, _, rfl, ?_, ?_⟩
      · refine RowAt.widen (RowAt.kept R (l := w.heap.size) (u := w.heap.size + 1) ?_ (by omega)) (by omega) ?_
        · refine Kept.setCell (Kept.setCell (Kept.setCell (Kept.refl _ _ _) ?_ ?_ _) ?_ ?_ _) ?_ ?_ _ <;> simp
        · simp; omega
      · refine Below.setCell (Below.setCell (Below.setCell B ?_ _) ?_ _) ?_ _ <;> simp

end Go.Proofs.Ytlblbjebbecgbaa
