/- Chapter 3: blocks taken, shared and dropped: what the model answers. -/
import Derived.Test.YtkdaphfmhdkhfaaP2
namespace Go.Proofs.Ytkdaphfmhdkhfaa
open Go.RowKit

theorem ask_zero {bs : List (Int × Int)} {x : Int} (h : askCode bs x = 0) : ∃ k : Nat, x = k ∧ k < bs.length ∧ blkFault bs = 0 ∧ (bs.getD k (0, 0)).1 ≠ 0 := by
  unfold askCode at h
  by_cases h0 : blkFault bs = 0
  · rw [if_pos h0] at h
    by_cases hx : 0 ≤ x ∧ x ≤ (bs.length : Int) - 1
    · rw [if_pos hx] at h
      by_cases hz : (bs.getD x.toNat (0, 0)).1 = 0
      · rw [if_pos hz] at h; exact absurd h (by decide)
      · exact ⟨x.toNat, by omega, by omega, h0, hz⟩
    · rw [if_neg hx] at h; exact absurd h (by decide)
  · rw [if_neg h0] at h; exact absurd h h0

set_option maxRecDepth 20000 in
set_option maxHeartbeats 2000000 in
theorem specTake_any {o : Bool} {l u : Nat} (ao : Option Addr) (n cap : Nat) (bs : List (Int × Int)) (x : Int) (w : World) (h : RowAt w o l u 2 ao n cap (pairs bs)) (hn : n ≤ 2097152)  :
    Calls Try.prog 49 #[.slice ao n cap, .int .i64 x] w fun e w' => BlkRes w w' e (takeCode bs x) (takeAt bs x : Int) (takeList bs x) := by
  have B : Below w.heap.size w (w.alloc (.cells #[.int .i64 0, .int .i64 0, .slice none 0 0] 51)) := (Below.refl _ _).alloc (Nat.le_refl _) _
  have hl := h.nPairs
  by_cases h0 : blkFault bs = 0
  · have H0 : Hid _ := h0
    have h24 := (blkFault_zero h0).1
    cases hx : dataB x with
    | false =>
      have hc : takeCode bs x = 3 := by simp [takeCode, h0, hx]
      have e1 : takeAt bs x = 0 := by simp [takeAt, hc]
      have e2 : takeList bs x = [] := by simp [takeList, hc]
      rw [hc, e1, e2]
      have HX : Hid _ := hx
      clear h0 hx hc e1 e2
      go_enter Try.func49, Try.ntmps49
      go_wp2_with fail
      refine (specBF_is _ n cap bs _ (by exact h.below B) hn 0 H0.out).mono ?_
      rintro e w1 ⟨rfl, rfl⟩
      go_wp2_with fail
      refine (l3Data_is x _ false HX.out).mono ?_
      rintro e w1 ⟨rfl, rfl⟩
      have z0 : (w.alloc (.cells #[.int .i64 0, .int .i64 0, .slice none 0 0] 51)).cell? ⟨w.heap.size, 0, none⟩ = some (.int .i64 0) := by simp
      have z1 : (w.alloc (.cells #[.int .i64 0, .int .i64 0, .slice none 0 0] 51)).cell? ⟨w.heap.size, 1, none⟩ = some (.int .i64 0) := by simp
      have z2 : (w.alloc (.cells #[.int .i64 0, .int .i64 0, .slice none 0 0] 51)).cell? ⟨w.heap.size, 2, none⟩ = some (.slice none 0 0) := by simp
      have y0 : (w.alloc (.cells #[.int .i64 0, .int .i64 0, .slice none 0 0] 51)).frozen? ⟨w.heap.size, 0, none⟩ = false := by simp
      have y1 : (w.alloc (.cells #[.int .i64 0, .int .i64 0, .slice none 0 0] 51)).frozen? ⟨w.heap.size, 1, none⟩ = false := by simp
      have y2 : (w.alloc (.cells #[.int .i64 0, .int .i64 0, .slice none 0 0] 51)).frozen? ⟨w.heap.size, 2, none⟩ = false := by simp
      have hz : w.heap.size < (w.alloc (.cells #[.int .i64 0, .int .i64 0, .slice none 0 0] 51)).heap.size := by simp
      go_wp2_with fail
      refine (l3Bad_any 3 _).mono ?_
      rintro e w2 ⟨rfl, hb⟩
      replace z0 := cell_later hb z0
      replace z1 := cell_later hb z1
      replace z2 := cell_later hb z2
      replace y0 := frozen_later hb hz y0
      replace y1 := frozen_later hb hz y1
      replace y2 := frozen_later hb hz y2
      replace hz := Nat.lt_of_lt_of_le hz hb.size
      replace B := below_next B hb
      clear hb
      go_wp2
      refine bodyPost_ret (v := .agg #[.int .i64 3, .int .i64 0, .slice none 0 0]) (by simp [results, Try.results49, go_sem, z0, z1, z2]) rfl ⟨_, _, _, rfl, RowAt.nil _ _ _ _ _, ?_⟩
      refine Below.setCell (Below.setCell (Below.setCell B ?_ _) ?_ _) ?_ _ <;> simp
    | true =>
      have HX : Hid _ := hx
      cases hf : freeAt bs with
      | none =>
        have hc : takeCode bs x = 8 := by simp [takeCode, h0, hx, hf]
        have e1 : takeAt bs x = 0 := by simp [takeAt, hc]
        have e2 : takeList bs x = [] := by simp [takeList, hc]
        rw [hc, e1, e2]
        have HF : Hid _ := hf
        clear h0 hx hc e1 e2 hf
        go_enter Try.func49, Try.ntmps49
        go_wp2_with fail
        refine (specBF_is _ n cap bs _ (by exact h.below B) hn 0 H0.out).mono ?_
        rintro e w1 ⟨rfl, rfl⟩
        go_wp2_with fail
        refine (l3Data_is x _ true HX.out).mono ?_
        rintro e w1 ⟨rfl, rfl⟩
        go_wp2_with fail
        refine (l3Free_any _ n cap bs _ (by exact h.below B) hn).mono ?_
        rintro e w1 ⟨hq, rfl⟩
        rcases hq with ⟨k, hk, _, _⟩ | ⟨_, rfl⟩
        · rw [HF.out] at hk; cases hk
        have z0 : (w.alloc (.cells #[.int .i64 0, .int .i64 0, .slice none 0 0] 51)).cell? ⟨w.heap.size, 0, none⟩ = some (.int .i64 0) := by simp
        have z1 : (w.alloc (.cells #[.int .i64 0, .int .i64 0, .slice none 0 0] 51)).cell? ⟨w.heap.size, 1, none⟩ = some (.int .i64 0) := by simp
        have z2 : (w.alloc (.cells #[.int .i64 0, .int .i64 0, .slice none 0 0] 51)).cell? ⟨w.heap.size, 2, none⟩ = some (.slice none 0 0) := by simp
        have y0 : (w.alloc (.cells #[.int .i64 0, .int .i64 0, .slice none 0 0] 51)).frozen? ⟨w.heap.size, 0, none⟩ = false := by simp
        have y1 : (w.alloc (.cells #[.int .i64 0, .int .i64 0, .slice none 0 0] 51)).frozen? ⟨w.heap.size, 1, none⟩ = false := by simp
        have y2 : (w.alloc (.cells #[.int .i64 0, .int .i64 0, .slice none 0 0] 51)).frozen? ⟨w.heap.size, 2, none⟩ = false := by simp
        have hz : w.heap.size < (w.alloc (.cells #[.int .i64 0, .int .i64 0, .slice none 0 0] 51)).heap.size := by simp
        go_wp2_with fail
        refine (l3Bad_any 8 _).mono ?_
        rintro e w2 ⟨rfl, hb⟩
        replace z0 := cell_later hb z0
        replace z1 := cell_later hb z1
        replace z2 := cell_later hb z2
        replace y0 := frozen_later hb hz y0
        replace y1 := frozen_later hb hz y1
        replace y2 := frozen_later hb hz y2
        replace hz := Nat.lt_of_lt_of_le hz hb.size
        replace B := below_next B hb
        clear hb
        go_wp2
        refine bodyPost_ret (v := .agg #[.int .i64 8, .int .i64 0, .slice none 0 0]) (by simp [results, Try.results49, go_sem, z0, z1, z2]) rfl ⟨_, _, _, rfl, RowAt.nil _ _ _ _ _, ?_⟩
        refine Below.setCell (Below.setCell (Below.setCell B ?_ _) ?_ _) ?_ _ <;> simp
      | some k =>
        have hc : takeCode bs x = 0 := by simp [takeCode, h0, hx, hf]
        have e1 : takeAt bs x = k := by simp [takeAt, hc, hf]
        have e2 : takeList bs x = bs.set k (1, x) := by simp [takeList, hc, hf]
        rw [hc, e1, e2]
        have hkl := (freeAt_is hf).1
        have hlt : k < n := by omega
        have hlk : (k : Int) < n := by omega
        obtain ⟨b, f, rfl, _, _, _, _, _, _⟩ := h.pair hlt
        have HF : Hid _ := hf
        clear h0 hx hc e1 e2 hf
        go_enter Try.func49, Try.ntmps49
        go_wp2_with fail
        refine (specBF_is _ n cap bs _ (by exact h.below B) hn 0 H0.out).mono ?_
        rintro e w1 ⟨rfl, rfl⟩
        go_wp2_with fail
        refine (l3Data_is x _ true HX.out).mono ?_
        rintro e w1 ⟨rfl, rfl⟩
        go_wp2_with fail
        refine (l3Free_any _ n cap bs _ (by exact h.below B) hn).mono ?_
        rintro e w1 ⟨hq, rfl⟩
        obtain rfl : e = .returned (.int .i64 (k : Int)) := by
          rcases hq with ⟨k', hk, _, rfl⟩ | ⟨hk, _⟩
          · rw [HF.out] at hk; cases hk; rfl
          · rw [HF.out] at hk; cases hk
        clear hq
        obtain ⟨j0, hj0, hq0, hq1, hq2⟩ := info_parts Try.infoBlk
        have O0 : ((w.alloc (.cells #[.int .i64 0, .int .i64 0, .slice none 0 0] 51)).alloc (.cells #[] 55)).ownsRow (w.alloc (.cells #[.int .i64 0, .int .i64 0, .slice none 0 0] 51)).heap.size 55 2 (.slice (some ⟨(w.alloc (.cells #[.int .i64 0, .int .i64 0, .slice none 0 0] 51)).heap.size, 0, none⟩) 0 0) 0 [] := World.ownsRow_lit _ #[] 0 (Nat.le_refl _) (Nat.zero_le _) rfl
        have A1 : Below (w.alloc (.cells #[.int .i64 0, .int .i64 0, .slice none 0 0] 51)).heap.size (w.alloc (.cells #[.int .i64 0, .int .i64 0, .slice none 0 0] 51)) ((w.alloc (.cells #[.int .i64 0, .int .i64 0, .slice none 0 0] 51)).alloc (.cells #[] 55)) := (Below.refl _ _).alloc (Nat.le_refl _) _
        have z0 : (w.alloc (.cells #[.int .i64 0, .int .i64 0, .slice none 0 0] 51)).cell? ⟨w.heap.size, 0, none⟩ = some (.int .i64 0) := by simp
        have z1 : (w.alloc (.cells #[.int .i64 0, .int .i64 0, .slice none 0 0] 51)).cell? ⟨w.heap.size, 1, none⟩ = some (.int .i64 0) := by simp
        have z2 : (w.alloc (.cells #[.int .i64 0, .int .i64 0, .slice none 0 0] 51)).cell? ⟨w.heap.size, 2, none⟩ = some (.slice none 0 0) := by simp
        have y0 : (w.alloc (.cells #[.int .i64 0, .int .i64 0, .slice none 0 0] 51)).frozen? ⟨w.heap.size, 0, none⟩ = false := by simp
        have y1 : (w.alloc (.cells #[.int .i64 0, .int .i64 0, .slice none 0 0] 51)).frozen? ⟨w.heap.size, 1, none⟩ = false := by simp
        have y2 : (w.alloc (.cells #[.int .i64 0, .int .i64 0, .slice none 0 0] 51)).frozen? ⟨w.heap.size, 2, none⟩ = false := by simp
        have hz : w.heap.size < (w.alloc (.cells #[.int .i64 0, .int .i64 0, .slice none 0 0] 51)).heap.size := by simp
        have hzs : (w.alloc (.cells #[.int .i64 0, .int .i64 0, .slice none 0 0] 51)).heap.size = w.heap.size + 1 := by simp
        have R1 := (h.below B).below A1
        rw [hzs] at O0
        go_wp2_with (first | (at_builtin; refine wpList_append_own _ rfl _ _ 47 rfl (w.heap.size + 1) 55 j0 (.agg #[.int .i64 0, .int .i64 0]) 2 16 Try.underlying47 hj0 hq0 hq1 hq2 rfl (by decide) _ _ _ rfl O0 ⟨b, f, none⟩ n cap (pairs bs) rfl ?d0 ?d1 ?d2 ?d3 ?d4 ?d5 ?_))
        case d0 => exact R1.len
        case d1 => exact R1.news (by omega)
        case d2 => exact pairs_one _
        case d3 => unfold maxLen; omega
        case d4 => omega
        case d5 => simp
        intro v1 w2 O1 hg1 _
        have hb1 : Below (w.heap.size + 1) (w.alloc (.cells #[.int .i64 0, .int .i64 0, .slice none 0 0] 51)) w2 := (((Below.refl _ _).alloc (by simp) _ : Below (w.heap.size + 1) (w.alloc (.cells #[.int .i64 0, .int .i64 0, .slice none 0 0] 51)) _)).grown hg1 (by simp) (fun g hg => (O0.lt g hg).1)
        rw [← hzs] at hb1
        replace z0 := cell_later hb1 z0
        replace z1 := cell_later hb1 z1
        replace z2 := cell_later hb1 z2
        replace y0 := frozen_later hb1 hz y0
        replace y1 := frozen_later hb1 hz y1
        replace y2 := frozen_later hb1 hz y2
        replace hz := Nat.lt_of_lt_of_le hz hb1.size
        replace B := below_next B hb1
        have O2 : w2.ownsRow (w.heap.size + 1) 55 2 v1 n (pairs bs) := by simpa using O1
        obtain ⟨g1, cp1, rfl, hg1', hg1'', RR⟩ := own_block O2 (by omega)
        clear O0 O1 O2 hg1 hb1 A1 R1 hzs
        obtain ⟨_, _, e', _, _, _, gc, gf⟩ := RR.cells (by omega)
        cases e'
        have q0 := gc (k * 2) (by omega)
        have q1 := gc (k * 2 + 1) (by omega)
        have p0 := gf rfl (k * 2) (by omega)
        have p1 := gf rfl (k * 2 + 1) (by omega)
        rw [Nat.zero_add] at q0 q1 p0 p1
        clear gc gf
        have K : Kept g1 (g1 + 1) w2 ((w2.setCell ⟨g1, k * 2, none⟩ (.int .i64 1)).setCell ⟨g1, k * 2 + 1, none⟩ (.int .i64 x)) := by refine Kept.setCell (Kept.setCell (Kept.refl _ _ _) ?_ ?_ _) ?_ ?_ _ <;> simp
        have z0' := K.cell z0 (by omega)
        have z1' := K.cell z1 (by omega)
        have z2' := K.cell z2 (by omega)
        have y0' := K.frozen hz (by omega) y0
        have y1' := K.frozen hz (by omega) y1
        have y2' := K.frozen hz (by omega) y2
        have B' : Below w.heap.size w ((w2.setCell ⟨g1, k * 2, none⟩ (.int .i64 1)).setCell ⟨g1, k * 2 + 1, none⟩ (.int .i64 x)) := B.trans (K.below _ (by omega) (by omega))
        have hs' := K.size
        have RS : RowAt ((w2.setCell ⟨g1, k * 2, none⟩ (.int .i64 1)).setCell ⟨g1, k * 2 + 1, none⟩ (.int .i64 x)) true g1 (g1 + 1) 2 (some ⟨g1, 0, none⟩) n cp1 (pairs (bs.set k (1, x))) := by
          have := (RR.stored (i := k * 2) (by omega) (.int .i64 1)).stored (i := k * 2 + 1) (by omega) (.int .i64 x)
          rw [Nat.zero_add, Nat.zero_add, pairs_set bs k (1, x)] at this
          exact this
        clear K
        go_wp2
        refine bodyPost_ret (v := .agg #[.int .i64 0, .int .i64 (k : Int), .slice (some ⟨g1, 0, none⟩) n cp1]) (by simp [results, Try.results49, go_sem, z0', z1', z2']) rfl ⟨_, _, _, rfl, ?_, ?_⟩
        · refine RowAt.widen (RowAt.kept RS (l := w.heap.size) (u := w.heap.size + 1) ?_ (by omega)) (by omega) ?_
          · refine Kept.setCell (Kept.setCell (Kept.setCell (Kept.refl _ _ _) ?_ ?_ _) ?_ ?_ _) ?_ ?_ _ <;> simp
          · simp at *; omega
        · refine Below.setCell (Below.setCell (Below.setCell B' ?_ _) ?_ _) ?_ _ <;> simp
  · obtain ⟨cd, hcd⟩ : ∃ cd, blkFault bs = cd := ⟨_, rfl⟩
    have hc : takeCode bs x = cd := by rw [takeCode, if_neg h0, hcd]
    rw [hcd] at h0
    have e1 : takeAt bs x = 0 := by simp [takeAt, hc, h0]
    have e2 : takeList bs x = [] := by simp [takeList, hc, h0]
    rw [hc, e1, e2]
    have HC : Hid _ := hcd
    have hne : (cd != 0) = true := by simp [h0]
    clear h0 hc e1 e2 hcd
    go_enter Try.func49, Try.ntmps49
    go_wp2_with fail
    refine (specBF_is _ n cap bs _ (by exact h.below B) hn cd HC.out).mono ?_
    rintro e w1 ⟨rfl, rfl⟩
    have z0 : (w.alloc (.cells #[.int .i64 0, .int .i64 0, .slice none 0 0] 51)).cell? ⟨w.heap.size, 0, none⟩ = some (.int .i64 0) := by simp
    have z1 : (w.alloc (.cells #[.int .i64 0, .int .i64 0, .slice none 0 0] 51)).cell? ⟨w.heap.size, 1, none⟩ = some (.int .i64 0) := by simp
    have z2 : (w.alloc (.cells #[.int .i64 0, .int .i64 0, .slice none 0 0] 51)).cell? ⟨w.heap.size, 2, none⟩ = some (.slice none 0 0) := by simp
    have y0 : (w.alloc (.cells #[.int .i64 0, .int .i64 0, .slice none 0 0] 51)).frozen? ⟨w.heap.size, 0, none⟩ = false := by simp
    have y1 : (w.alloc (.cells #[.int .i64 0, .int .i64 0, .slice none 0 0] 51)).frozen? ⟨w.heap.size, 1, none⟩ = false := by simp
    have y2 : (w.alloc (.cells #[.int .i64 0, .int .i64 0, .slice none 0 0] 51)).frozen? ⟨w.heap.size, 2, none⟩ = false := by simp
    have hz : w.heap.size < (w.alloc (.cells #[.int .i64 0, .int .i64 0, .slice none 0 0] 51)).heap.size := by simp
    go_wp2_with fail
    refine (l3Bad_any cd _).mono ?_
    rintro e w2 ⟨rfl, hb⟩
    replace z0 := cell_later hb z0
    replace z1 := cell_later hb z1
    replace z2 := cell_later hb z2
    replace y0 := frozen_later hb hz y0
    replace y1 := frozen_later hb hz y1
    replace y2 := frozen_later hb hz y2
    replace hz := Nat.lt_of_lt_of_le hz hb.size
    replace B := below_next B hb
    clear hb
    go_wp2
    refine bodyPost_ret (v := .agg #[.int .i64 cd, .int .i64 0, .slice none 0 0]) (by simp [results, Try.results49, go_sem, z0, z1, z2]) rfl ⟨_, _, _, rfl, RowAt.nil _ _ _ _ _, ?_⟩
    refine Below.setCell (Below.setCell (Below.setCell B ?_ _) ?_ _) ?_ _ <;> simp

set_option maxRecDepth 20000 in
set_option maxHeartbeats 2000000 in
theorem specShare_any {o : Bool} {l u : Nat} (ao : Option Addr) (n cap : Nat) (bs : List (Int × Int)) (x : Int) (w : World) (h : RowAt w o l u 2 ao n cap (pairs bs)) (hn : n ≤ 2097152)  :
    Calls Try.prog 106 #[.slice ao n cap, .int .i64 x] w fun e w' => BlkRes w w' e (shareCode bs x) (atIf (shareCode bs x) x) (shareList bs x) := by
  have B : Below w.heap.size w (w.alloc (.cells #[.int .i64 0, .int .i64 0, .slice none 0 0] 51)) := (Below.refl _ _).alloc (Nat.le_refl _) _
  have hl := h.nPairs
  by_cases h0 : askCode bs x = 0
  · have H0 : Hid _ := h0
    obtain ⟨k, rfl, hkl, hb0, hnz⟩ := ask_zero h0
    have h24 := (blkFault_zero hb0).1
    have hlt : k < n := by omega
    have hlk : (k : Int) < n := by omega
    have h200 := (blkOne_zero (blkGo_all (blkFault_zero hb0).2 (bs.getD k (0, 0)) (by rw [List.getD_eq_getElem?_getD, List.getElem?_eq_getElem hkl]; exact List.getElem_mem hkl))).2.1
    obtain ⟨b, f, rfl, _, _, _, _, _, _⟩ := h.pair hlt
    obtain ⟨y, hy⟩ : ∃ y, (bs.getD k (0, 0)).1 = y := ⟨_, rfl⟩
    obtain ⟨v, hv⟩ : ∃ v, (bs.getD k (0, 0)).2 = v := ⟨_, rfl⟩
    obtain ⟨_, _, e', _, _, _, e1, _, _⟩ := (h.below B).pair hlt
    cases e'
    rw [hy] at e1 h200 hnz
    by_cases h2 : 200 ≤ y
    · have hc : shareCode bs (k : Int) = 2 := by rw [shareCode, if_pos h0, Int.toNat_natCast, hy, if_pos h2]
      have e2 : shareList bs (k : Int) = [] := by rw [shareList, hc]; rfl
      have e3 : atIf (shareCode bs (k : Int)) (k : Int) = 0 := by rw [hc]; rfl
      rw [e3, hc, e2]
      clear h0 hc e2 e3 hy hv hb0 hnz
      go_enter Try.func106, Try.ntmps106
      go_wp2_with fail
      refine (l3Asked_is _ n cap bs _ _ (by exact h.below B) hn 0 H0.out).mono ?_
      rintro e w1 ⟨rfl, rfl⟩
      have z0 : (w.alloc (.cells #[.int .i64 0, .int .i64 0, .slice none 0 0] 51)).cell? ⟨w.heap.size, 0, none⟩ = some (.int .i64 0) := by simp
      have z1 : (w.alloc (.cells #[.int .i64 0, .int .i64 0, .slice none 0 0] 51)).cell? ⟨w.heap.size, 1, none⟩ = some (.int .i64 0) := by simp
      have z2 : (w.alloc (.cells #[.int .i64 0, .int .i64 0, .slice none 0 0] 51)).cell? ⟨w.heap.size, 2, none⟩ = some (.slice none 0 0) := by simp
      have y0 : (w.alloc (.cells #[.int .i64 0, .int .i64 0, .slice none 0 0] 51)).frozen? ⟨w.heap.size, 0, none⟩ = false := by simp
      have y1 : (w.alloc (.cells #[.int .i64 0, .int .i64 0, .slice none 0 0] 51)).frozen? ⟨w.heap.size, 1, none⟩ = false := by simp
      have y2 : (w.alloc (.cells #[.int .i64 0, .int .i64 0, .slice none 0 0] 51)).frozen? ⟨w.heap.size, 2, none⟩ = false := by simp
      have hz : w.heap.size < (w.alloc (.cells #[.int .i64 0, .int .i64 0, .slice none 0 0] 51)).heap.size := by simp
      go_wp2_with fail
      refine (l3Bad_any 2 _).mono ?_
      rintro e w2 ⟨rfl, hb⟩
      replace z0 := cell_later hb z0
      replace z1 := cell_later hb z1
      replace z2 := cell_later hb z2
      replace y0 := frozen_later hb hz y0
      replace y1 := frozen_later hb hz y1
      replace y2 := frozen_later hb hz y2
      replace hz := Nat.lt_of_lt_of_le hz hb.size
      replace B := below_next B hb
      clear hb
      go_wp2
      refine bodyPost_ret (v := .agg #[.int .i64 2, .int .i64 0, .slice none 0 0]) (by simp [results, Try.results106, go_sem, z0, z1, z2]) rfl ⟨_, _, _, rfl, RowAt.nil _ _ _ _ _, ?_⟩
      refine Below.setCell (Below.setCell (Below.setCell B ?_ _) ?_ _) ?_ _ <;> simp
    · have hc : shareCode bs (k : Int) = 0 := by rw [shareCode, if_pos h0, Int.toNat_natCast, hy, if_neg h2]
      have e2 : shareList bs (k : Int) = bs.set k (y + 1, v) := by rw [shareList, if_pos hc, Int.toNat_natCast, more1, hy, hv]
      have e3 : atIf (shareCode bs (k : Int)) (k : Int) = k := by rw [hc]; rfl
      rw [e3, hc, e2]
      have HY : Hid _ := hy
      have HV : Hid _ := hv
      have h0y : 0 ≤ y := by rw [← hy]; exact (blkOne_zero (blkGo_all (blkFault_zero hb0).2 (bs.getD k (0, 0)) (by rw [List.getD_eq_getElem?_getD, List.getElem?_eq_getElem hkl]; exact List.getElem_mem hkl))).1
      clear h0 hc e2 e3 hy hv hb0 hnz
      go_enter Try.func106, Try.ntmps106
      go_wp2_with fail
      refine (l3Asked_is _ n cap bs _ _ (by exact h.below B) hn 0 H0.out).mono ?_
      rintro e w1 ⟨rfl, rfl⟩
      obtain ⟨j0, hj0, hq0, hq1, hq2⟩ := info_parts Try.infoBlk
      have O0 : ((w.alloc (.cells #[.int .i64 0, .int .i64 0, .slice none 0 0] 51)).alloc (.cells #[] 55)).ownsRow (w.alloc (.cells #[.int .i64 0, .int .i64 0, .slice none 0 0] 51)).heap.size 55 2 (.slice (some ⟨(w.alloc (.cells #[.int .i64 0, .int .i64 0, .slice none 0 0] 51)).heap.size, 0, none⟩) 0 0) 0 [] := World.ownsRow_lit _ #[] 0 (Nat.le_refl _) (Nat.zero_le _) rfl
      have A1 : Below (w.alloc (.cells #[.int .i64 0, .int .i64 0, .slice none 0 0] 51)).heap.size (w.alloc (.cells #[.int .i64 0, .int .i64 0, .slice none 0 0] 51)) ((w.alloc (.cells #[.int .i64 0, .int .i64 0, .slice none 0 0] 51)).alloc (.cells #[] 55)) := (Below.refl _ _).alloc (Nat.le_refl _) _
      have z0 : (w.alloc (.cells #[.int .i64 0, .int .i64 0, .slice none 0 0] 51)).cell? ⟨w.heap.size, 0, none⟩ = some (.int .i64 0) := by simp
      have z1 : (w.alloc (.cells #[.int .i64 0, .int .i64 0, .slice none 0 0] 51)).cell? ⟨w.heap.size, 1, none⟩ = some (.int .i64 0) := by simp
      have z2 : (w.alloc (.cells #[.int .i64 0, .int .i64 0, .slice none 0 0] 51)).cell? ⟨w.heap.size, 2, none⟩ = some (.slice none 0 0) := by simp
      have y0 : (w.alloc (.cells #[.int .i64 0, .int .i64 0, .slice none 0 0] 51)).frozen? ⟨w.heap.size, 0, none⟩ = false := by simp
      have y1 : (w.alloc (.cells #[.int .i64 0, .int .i64 0, .slice none 0 0] 51)).frozen? ⟨w.heap.size, 1, none⟩ = false := by simp
      have y2 : (w.alloc (.cells #[.int .i64 0, .int .i64 0, .slice none 0 0] 51)).frozen? ⟨w.heap.size, 2, none⟩ = false := by simp
      have hz : w.heap.size < (w.alloc (.cells #[.int .i64 0, .int .i64 0, .slice none 0 0] 51)).heap.size := by simp
      have hzs : (w.alloc (.cells #[.int .i64 0, .int .i64 0, .slice none 0 0] 51)).heap.size = w.heap.size + 1 := by simp
      have R1 := (h.below B).below A1
      rw [hzs] at O0
      go_wp2_with (first | (at_builtin; refine wpList_append_own _ rfl _ _ 47 rfl (w.heap.size + 1) 55 j0 (.agg #[.int .i64 0, .int .i64 0]) 2 16 Try.underlying47 hj0 hq0 hq1 hq2 rfl (by decide) _ _ _ rfl O0 ⟨b, f, none⟩ n cap (pairs bs) rfl ?d0 ?d1 ?d2 ?d3 ?d4 ?d5 ?_))
      case d0 => exact R1.len
      case d1 => exact R1.news (by omega)
      case d2 => exact pairs_one _
      case d3 => unfold maxLen; omega
      case d4 => omega
      case d5 => simp
      intro v1 w2 O1 hg1 _
      have hb1 : Below (w.heap.size + 1) (w.alloc (.cells #[.int .i64 0, .int .i64 0, .slice none 0 0] 51)) w2 := (((Below.refl _ _).alloc (by simp) _ : Below (w.heap.size + 1) (w.alloc (.cells #[.int .i64 0, .int .i64 0, .slice none 0 0] 51)) _)).grown hg1 (by simp) (fun g hg => (O0.lt g hg).1)
      rw [← hzs] at hb1
      replace z0 := cell_later hb1 z0
      replace z1 := cell_later hb1 z1
      replace z2 := cell_later hb1 z2
      replace y0 := frozen_later hb1 hz y0
      replace y1 := frozen_later hb1 hz y1
      replace y2 := frozen_later hb1 hz y2
      replace hz := Nat.lt_of_lt_of_le hz hb1.size
      replace B := below_next B hb1
      have O2 : w2.ownsRow (w.heap.size + 1) 55 2 v1 n (pairs bs) := by simpa using O1
      obtain ⟨g1, cp1, rfl, hg1', hg1'', RR⟩ := own_block O2 (by omega)
      clear O0 O1 O2 hg1 hb1 A1 R1 hzs
      obtain ⟨_, _, e', _, _, _, gc, gf⟩ := RR.cells (by omega)
      cases e'
      have q0 := gc (k * 2) (by omega)
      have q1 := gc (k * 2 + 1) (by omega)
      have p0 := gf rfl (k * 2) (by omega)
      have p1 := gf rfl (k * 2 + 1) (by omega)
      rw [Nat.zero_add] at q0 q1 p0 p1
      clear gc gf
      have q0' : w2.cell? ⟨g1, k * 2, none⟩ = some (.int .i64 y) := by
        obtain ⟨_, _, e', _, _, _, e1, _, _⟩ := RR.pair hlt
        cases e'
        rw [HY.out, Nat.zero_add] at e1
        exact e1
      clear q0
      have K : Kept g1 (g1 + 1) w2 (w2.setCell ⟨g1, k * 2, none⟩ (.int .i64 (y + 1))) := by refine Kept.setCell (Kept.refl _ _ _) ?_ ?_ _ <;> simp
      have z0' := K.cell z0 (by omega)
      have z1' := K.cell z1 (by omega)
      have z2' := K.cell z2 (by omega)
      have y0' := K.frozen hz (by omega) y0
      have y1' := K.frozen hz (by omega) y1
      have y2' := K.frozen hz (by omega) y2
      have B' : Below w.heap.size w (w2.setCell ⟨g1, k * 2, none⟩ (.int .i64 (y + 1))) := B.trans (K.below _ (by omega) (by omega))
      have hs' := K.size
      have RS : RowAt (w2.setCell ⟨g1, k * 2, none⟩ (.int .i64 (y + 1))) true g1 (g1 + 1) 2 (some ⟨g1, 0, none⟩) n cp1 (pairs (bs.set k (y + 1, v))) := by
        have := RR.stored (i := k * 2) (by omega) (.int .i64 (y + 1))
        rw [Nat.zero_add, pairs_set1 bs k (y + 1), HV.out] at this
        exact this
      clear K
      go_wp2
      refine bodyPost_ret (v := .agg #[.int .i64 0, .int .i64 (k : Int), .slice (some ⟨g1, 0, none⟩) n cp1]) (by simp [results, Try.results106, go_sem, z0', z1', z2']) rfl ⟨_, _, _, rfl, ?_, ?_⟩
      · refine RowAt.widen (RowAt.kept RS (l := w.heap.size) (u := w.heap.size + 1) ?_ (by omega)) (by omega) ?_
        · refine Kept.setCell (Kept.setCell (Kept.setCell (Kept.refl _ _ _) ?_ ?_ _) ?_ ?_ _) ?_ ?_ _ <;> simp
        · simp at *; omega
      · refine Below.setCell (Below.setCell (Below.setCell B' ?_ _) ?_ _) ?_ _ <;> simp
  · obtain ⟨cd, hcd⟩ : ∃ cd, askCode bs x = cd := ⟨_, rfl⟩
    have hc : shareCode bs x = cd := by rw [shareCode, if_neg h0, hcd]
    rw [hcd] at h0
    have e3 : atIf (shareCode bs x) x = 0 := by rw [hc, atIf, if_neg h0]
    have e2 : shareList bs x = [] := by rw [shareList, hc, if_neg h0]
    rw [e3, hc, e2]
    clear hc e2 e3
    have HC : Hid _ := hcd
    have hne : (cd != 0) = true := by simp [h0]
    clear h0 hcd
    go_enter Try.func106, Try.ntmps106
    go_wp2_with fail
    refine (l3Asked_is _ n cap bs _ _ (by exact h.below B) hn cd HC.out).mono ?_
    rintro e w1 ⟨rfl, rfl⟩
    have z0 : (w.alloc (.cells #[.int .i64 0, .int .i64 0, .slice none 0 0] 51)).cell? ⟨w.heap.size, 0, none⟩ = some (.int .i64 0) := by simp
    have z1 : (w.alloc (.cells #[.int .i64 0, .int .i64 0, .slice none 0 0] 51)).cell? ⟨w.heap.size, 1, none⟩ = some (.int .i64 0) := by simp
    have z2 : (w.alloc (.cells #[.int .i64 0, .int .i64 0, .slice none 0 0] 51)).cell? ⟨w.heap.size, 2, none⟩ = some (.slice none 0 0) := by simp
    have y0 : (w.alloc (.cells #[.int .i64 0, .int .i64 0, .slice none 0 0] 51)).frozen? ⟨w.heap.size, 0, none⟩ = false := by simp
    have y1 : (w.alloc (.cells #[.int .i64 0, .int .i64 0, .slice none 0 0] 51)).frozen? ⟨w.heap.size, 1, none⟩ = false := by simp
    have y2 : (w.alloc (.cells #[.int .i64 0, .int .i64 0, .slice none 0 0] 51)).frozen? ⟨w.heap.size, 2, none⟩ = false := by simp
    have hz : w.heap.size < (w.alloc (.cells #[.int .i64 0, .int .i64 0, .slice none 0 0] 51)).heap.size := by simp
    go_wp2_with fail
    refine (l3Bad_any cd _).mono ?_
    rintro e w2 ⟨rfl, hb⟩
    replace z0 := cell_later hb z0
    replace z1 := cell_later hb z1
    replace z2 := cell_later hb z2
    replace y0 := frozen_later hb hz y0
    replace y1 := frozen_later hb hz y1
    replace y2 := frozen_later hb hz y2
    replace hz := Nat.lt_of_lt_of_le hz hb.size
    replace B := below_next B hb
    clear hb
    go_wp2
    refine bodyPost_ret (v := .agg #[.int .i64 cd, .int .i64 0, .slice none 0 0]) (by simp [results, Try.results106, go_sem, z0, z1, z2]) rfl ⟨_, _, _, rfl, RowAt.nil _ _ _ _ _, ?_⟩
    refine Below.setCell (Below.setCell (Below.setCell B ?_ _) ?_ _) ?_ _ <;> simp

set_option maxRecDepth 20000 in
set_option maxHeartbeats 2000000 in
theorem l3Drop_any {lo hi : Nat} (g n cap : Nat) (bs : List (Int × Int)) (k : Nat) (w : World) (h : RowAt w true lo hi 2 (some ⟨g, 0, none⟩) n cap (pairs bs)) (hlt : k < n) (h0 : 0 ≤ (bs.getD k (0, 0)).1) (h2 : (bs.getD k (0, 0)).1 ≤ 200) (L : List (Int × Int)) (hL : bs.set k (less1 (bs.getD k (0, 0))) = L) :
    Calls Try.prog 201 #[.slice (some ⟨g, 0, none⟩) n cap, .int .i64 (k : Int)] w fun e w' => (∃ v, e = .returned v) ∧ RowAt w' true lo hi 2 (some ⟨g, 0, none⟩) n cap (pairs L) ∧ Kept g (g + 1) w w' := by
  have hlk : (k : Int) < n := by omega
  obtain ⟨_, _, e', _, _, _, c0, c1, _⟩ := h.pair hlt
  cases e'
  obtain ⟨_, _, e', _, _, _, _, gf⟩ := h.cells (by omega)
  cases e'
  have p0 := gf rfl (k * 2) (by omega)
  have p1 := gf rfl (k * 2 + 1) (by omega)
  rw [Nat.zero_add] at c0 c1 p0 p1
  clear gf
  obtain ⟨y, hy⟩ : ∃ y, (bs.getD k (0, 0)).1 = y := ⟨_, rfl⟩
  obtain ⟨v, hv⟩ : ∃ v, (bs.getD k (0, 0)).2 = v := ⟨_, rfl⟩
  rw [hy] at c0 h0 h2
  rw [hv] at c1
  by_cases hz : y - 1 = 0
  · have K : Kept g (g + 1) w ((w.setCell ⟨g, k * 2, none⟩ (.int .i64 0)).setCell ⟨g, k * 2 + 1, none⟩ (.int .i64 0)) := by refine Kept.setCell (Kept.setCell (Kept.refl _ _ _) ?_ ?_ _) ?_ ?_ _ <;> simp
    have RS : RowAt ((w.setCell ⟨g, k * 2, none⟩ (.int .i64 0)).setCell ⟨g, k * 2 + 1, none⟩ (.int .i64 0)) true lo hi 2 (some ⟨g, 0, none⟩) n cap (pairs L) := by
      have := (h.stored (i := k * 2) (by omega) (.int .i64 0)).stored (i := k * 2 + 1) (by omega) (.int .i64 0)
      rw [Nat.zero_add, Nat.zero_add, pairs_set bs k (0, 0)] at this
      rw [← hL, less1, hy, if_pos hz, hz]; exact this
    obtain rfl : y = 1 := by omega
    clear hy hv hz hL
    go_enter Try.func201, Try.ntmps201
    go_wp2
    exact bodyPost_end (v := .tuple #[]) (by simp [results, Try.results201, go_sem]) rfl ⟨⟨_, rfl⟩, RS, K⟩
  · have K : Kept g (g + 1) w (w.setCell ⟨g, k * 2, none⟩ (.int .i64 (y - 1))) := by refine Kept.setCell (Kept.refl _ _ _) ?_ ?_ _ <;> simp
    have RS : RowAt (w.setCell ⟨g, k * 2, none⟩ (.int .i64 (y - 1))) true lo hi 2 (some ⟨g, 0, none⟩) n cap (pairs L) := by
      have := h.stored (i := k * 2) (by omega) (.int .i64 (y - 1))
      rw [Nat.zero_add, pairs_set1 bs k (y - 1)] at this
      rw [← hL, less1, hy, if_neg hz]; exact this
    clear hy hv hL
    go_enter Try.func201, Try.ntmps201
    go_wp2
    exact bodyPost_end (v := .tuple #[]) (by simp [results, Try.results201, go_sem]) rfl ⟨⟨_, rfl⟩, RS, K⟩

set_option maxRecDepth 20000 in
set_option maxHeartbeats 2000000 in
theorem specDrop_any {o : Bool} {l u : Nat} (ao : Option Addr) (n cap : Nat) (bs : List (Int × Int)) (x : Int) (w : World) (h : RowAt w o l u 2 ao n cap (pairs bs)) (hn : n ≤ 2097152)  :
    Calls Try.prog 107 #[.slice ao n cap, .int .i64 x] w fun e w' => BlkRes w w' e (askCode bs x) (atIf (askCode bs x) x) (dropList bs x) := by
  have B : Below w.heap.size w (w.alloc (.cells #[.int .i64 0, .int .i64 0, .slice none 0 0] 51)) := (Below.refl _ _).alloc (Nat.le_refl _) _
  have hl := h.nPairs
  by_cases h0 : askCode bs x = 0
  · have H0 : Hid _ := h0
    obtain ⟨k, rfl, hkl, hb0, hnz⟩ := ask_zero h0
    have h24 := (blkFault_zero hb0).1
    have hlt : k < n := by omega
    have hlk : (k : Int) < n := by omega
    have h200 := (blkOne_zero (blkGo_all (blkFault_zero hb0).2 (bs.getD k (0, 0)) (by rw [List.getD_eq_getElem?_getD, List.getElem?_eq_getElem hkl]; exact List.getElem_mem hkl))).2.1
    obtain ⟨b, f, rfl, _, _, _, _, _, _⟩ := h.pair hlt
    have hc : askCode bs (k : Int) = 0 := h0
    obtain ⟨L, hL⟩ : ∃ L, bs.set k (less1 (bs.getD k (0, 0))) = L := ⟨_, rfl⟩
    have e2 : dropList bs (k : Int) = L := by rw [dropList, if_pos hc, Int.toNat_natCast, hL]
    have e3 : atIf (askCode bs (k : Int)) (k : Int) = k := by rw [hc]; rfl
    rw [e3, hc, e2]
    have H0y : Hid (0 ≤ (bs.getD k (0, 0)).1) := (blkOne_zero (blkGo_all (blkFault_zero hb0).2 (bs.getD k (0, 0)) (by rw [List.getD_eq_getElem?_getD, List.getElem?_eq_getElem hkl]; exact List.getElem_mem hkl))).1
    have H2y : Hid _ := h200
    have HL : Hid _ := hL
    clear h0 hc e2 e3 hb0 hnz h200 hL
    go_enter Try.func107, Try.ntmps107
    go_wp2_with fail
    refine (l3Asked_is _ n cap bs _ _ (by exact h.below B) hn 0 H0.out).mono ?_
    rintro e w1 ⟨rfl, rfl⟩
    obtain ⟨j0, hj0, hq0, hq1, hq2⟩ := info_parts Try.infoBlk
    have O0 : ((w.alloc (.cells #[.int .i64 0, .int .i64 0, .slice none 0 0] 51)).alloc (.cells #[] 55)).ownsRow (w.alloc (.cells #[.int .i64 0, .int .i64 0, .slice none 0 0] 51)).heap.size 55 2 (.slice (some ⟨(w.alloc (.cells #[.int .i64 0, .int .i64 0, .slice none 0 0] 51)).heap.size, 0, none⟩) 0 0) 0 [] := World.ownsRow_lit _ #[] 0 (Nat.le_refl _) (Nat.zero_le _) rfl
    have A1 : Below (w.alloc (.cells #[.int .i64 0, .int .i64 0, .slice none 0 0] 51)).heap.size (w.alloc (.cells #[.int .i64 0, .int .i64 0, .slice none 0 0] 51)) ((w.alloc (.cells #[.int .i64 0, .int .i64 0, .slice none 0 0] 51)).alloc (.cells #[] 55)) := (Below.refl _ _).alloc (Nat.le_refl _) _
    have z0 : (w.alloc (.cells #[.int .i64 0, .int .i64 0, .slice none 0 0] 51)).cell? ⟨w.heap.size, 0, none⟩ = some (.int .i64 0) := by simp
    have z1 : (w.alloc (.cells #[.int .i64 0, .int .i64 0, .slice none 0 0] 51)).cell? ⟨w.heap.size, 1, none⟩ = some (.int .i64 0) := by simp
    have z2 : (w.alloc (.cells #[.int .i64 0, .int .i64 0, .slice none 0 0] 51)).cell? ⟨w.heap.size, 2, none⟩ = some (.slice none 0 0) := by simp
    have y0 : (w.alloc (.cells #[.int .i64 0, .int .i64 0, .slice none 0 0] 51)).frozen? ⟨w.heap.size, 0, none⟩ = false := by simp
    have y1 : (w.alloc (.cells #[.int .i64 0, .int .i64 0, .slice none 0 0] 51)).frozen? ⟨w.heap.size, 1, none⟩ = false := by simp
    have y2 : (w.alloc (.cells #[.int .i64 0, .int .i64 0, .slice none 0 0] 51)).frozen? ⟨w.heap.size, 2, none⟩ = false := by simp
    have hz : w.heap.size < (w.alloc (.cells #[.int .i64 0, .int .i64 0, .slice none 0 0] 51)).heap.size := by simp
    have hzs : (w.alloc (.cells #[.int .i64 0, .int .i64 0, .slice none 0 0] 51)).heap.size = w.heap.size + 1 := by simp
    have R1 := (h.below B).below A1
    rw [hzs] at O0
    go_wp2_with (first | (at_builtin; refine wpList_append_own _ rfl _ _ 47 rfl (w.heap.size + 1) 55 j0 (.agg #[.int .i64 0, .int .i64 0]) 2 16 Try.underlying47 hj0 hq0 hq1 hq2 rfl (by decide) _ _ _ rfl O0 ⟨b, f, none⟩ n cap (pairs bs) rfl ?d0 ?d1 ?d2 ?d3 ?d4 ?d5 ?_))
    case d0 => exact R1.len
    case d1 => exact R1.news (by omega)
    case d2 => exact pairs_one _
    case d3 => unfold maxLen; omega
    case d4 => omega
    case d5 => simp
    intro v1 w2 O1 hg1 _
    have hb1 : Below (w.heap.size + 1) (w.alloc (.cells #[.int .i64 0, .int .i64 0, .slice none 0 0] 51)) w2 := (((Below.refl _ _).alloc (by simp) _ : Below (w.heap.size + 1) (w.alloc (.cells #[.int .i64 0, .int .i64 0, .slice none 0 0] 51)) _)).grown hg1 (by simp) (fun g hg => (O0.lt g hg).1)
    rw [← hzs] at hb1
    replace z0 := cell_later hb1 z0
    replace z1 := cell_later hb1 z1
    replace z2 := cell_later hb1 z2
    replace y0 := frozen_later hb1 hz y0
    replace y1 := frozen_later hb1 hz y1
    replace y2 := frozen_later hb1 hz y2
    replace hz := Nat.lt_of_lt_of_le hz hb1.size
    replace B := below_next B hb1
    have O2 : w2.ownsRow (w.heap.size + 1) 55 2 v1 n (pairs bs) := by simpa using O1
    obtain ⟨g1, cp1, rfl, hg1', hg1'', RR⟩ := own_block O2 (by omega)
    clear O0 O1 O2 hg1 hb1 A1 R1 hzs
    go_wp2_with fail
    refine (l3Drop_any g1 n cp1 bs k _ RR hlt H0y.out H2y.out L HL.out).mono ?_
    rintro e w3 ⟨⟨v, rfl⟩, RS, K⟩
    have z0' := K.cell z0 (by omega)
    have z1' := K.cell z1 (by omega)
    have z2' := K.cell z2 (by omega)
    have y0' := K.frozen hz (by omega) y0
    have y1' := K.frozen hz (by omega) y1
    have y2' := K.frozen hz (by omega) y2
    have B' : Below w.heap.size w w3 := B.trans (K.below _ (by omega) (by omega))
    have hs' := K.size
    clear K RR
    go_wp2
    refine bodyPost_ret (v := .agg #[.int .i64 0, .int .i64 (k : Int), .slice (some ⟨g1, 0, none⟩) n cp1]) (by simp [results, Try.results107, go_sem, z0', z1', z2']) rfl ⟨_, _, _, rfl, ?_, ?_⟩
    · refine RowAt.widen (RowAt.kept RS (l := w.heap.size) (u := w.heap.size + 1) ?_ (by omega)) (by omega) ?_
      · refine Kept.setCell (Kept.setCell (Kept.setCell (Kept.refl _ _ _) ?_ ?_ _) ?_ ?_ _) ?_ ?_ _ <;> simp
      · simp at *; omega
    · refine Below.setCell (Below.setCell (Below.setCell B' ?_ _) ?_ _) ?_ _ <;> simp
  · obtain ⟨cd, hcd⟩ : ∃ cd, askCode bs x = cd := ⟨_, rfl⟩
    have hc : askCode bs x = cd := hcd
    rw [hcd] at h0
    have e3 : atIf (askCode bs x) x = 0 := by rw [hc, atIf, if_neg h0]
    have e2 : dropList bs x = [] := by rw [dropList, hc, if_neg h0]
    rw [e3, hc, e2]
    clear hc e2 e3
    have HC : Hid _ := hcd
    have hne : (cd != 0) = true := by simp [h0]
    clear h0 hcd
    go_enter Try.func107, Try.ntmps107
    go_wp2_with fail
    refine (l3Asked_is _ n cap bs _ _ (by exact h.below B) hn cd HC.out).mono ?_
    rintro e w1 ⟨rfl, rfl⟩
    have z0 : (w.alloc (.cells #[.int .i64 0, .int .i64 0, .slice none 0 0] 51)).cell? ⟨w.heap.size, 0, none⟩ = some (.int .i64 0) := by simp
    have z1 : (w.alloc (.cells #[.int .i64 0, .int .i64 0, .slice none 0 0] 51)).cell? ⟨w.heap.size, 1, none⟩ = some (.int .i64 0) := by simp
    have z2 : (w.alloc (.cells #[.int .i64 0, .int .i64 0, .slice none 0 0] 51)).cell? ⟨w.heap.size, 2, none⟩ = some (.slice none 0 0) := by simp
    have y0 : (w.alloc (.cells #[.int .i64 0, .int .i64 0, .slice none 0 0] 51)).frozen? ⟨w.heap.size, 0, none⟩ = false := by simp
    have y1 : (w.alloc (.cells #[.int .i64 0, .int .i64 0, .slice none 0 0] 51)).frozen? ⟨w.heap.size, 1, none⟩ = false := by simp
    have y2 : (w.alloc (.cells #[.int .i64 0, .int .i64 0, .slice none 0 0] 51)).frozen? ⟨w.heap.size, 2, none⟩ = false := by simp
    have hz : w.heap.size < (w.alloc (.cells #[.int .i64 0, .int .i64 0, .slice none 0 0] 51)).heap.size := by simp
    go_wp2_with fail
    refine (l3Bad_any cd _).mono ?_
    rintro e w2 ⟨rfl, hb⟩
    replace z0 := cell_later hb z0
    replace z1 := cell_later hb z1
    replace z2 := cell_later hb z2
    replace y0 := frozen_later hb hz y0
    replace y1 := frozen_later hb hz y1
    replace y2 := frozen_later hb hz y2
    replace hz := Nat.lt_of_lt_of_le hz hb.size
    replace B := below_next B hb
    clear hb
    go_wp2
    refine bodyPost_ret (v := .agg #[.int .i64 cd, .int .i64 0, .slice none 0 0]) (by simp [results, Try.results107, go_sem, z0, z1, z2]) rfl ⟨_, _, _, rfl, RowAt.nil _ _ _ _ _, ?_⟩
    refine Below.setCell (Below.setCell (Below.setCell B ?_ _) ?_ _) ?_ _ <;> simp

end Go.Proofs.Ytkdaphfmhdkhfaa
