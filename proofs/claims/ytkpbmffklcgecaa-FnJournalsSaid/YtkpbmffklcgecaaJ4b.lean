/- Chapter 2: what the model's append answers where it tells a code, and in all. -/
import Derived.Test.YtkpbmffklcgecaaJ4
namespace Go.Proofs.Ytkpbmffklcgecaa
open Go.RowKit

set_option maxRecDepth 20000 in
set_option maxHeartbeats 2000000 in
theorem specApp_fault {o0 o1 o2 : Bool} {l0 u0 l1 u1 l2 u2 : Nat} (a0 a1 : Option Addr) (n0 c0 n1 c1 : Nat) (xs : List Int) (ys : List (Int × Int)) (a2 : Option Addr) (n2 c2 : Nat) (ws : List Int) (w : World) (h0 : RowAt w o0 l0 u0 1 a0 n0 c0 (ints xs)) (h1 : RowAt w o1 l1 u1 2 a1 n1 c1 (pairs ys)) (h2 : RowAt w o2 l2 u2 1 a2 n2 c2 (ints ws)) (hn : n0 ≤ 1048576) (hm : n1 ≤ 1048576) (hq : n2 ≤ 1048576) (h0f : faultOf xs ys ≠ 0) :
    Calls Try.prog 55 #[.agg #[.slice a0 n0 c0, .slice a1 n1 c1], .slice a2 n2 c2] w fun e w' => DiskRes w w' e (appCode xs ys ws) (appX xs ys ws) (appY xs ys ws) := by
  have _ := hq
  have hl2 := h2.nInts
  have hl1 := h1.nPairs
  have B1 : Below w.heap.size w ((w.alloc (.cells #[.slice a0 n0 c0, .slice a1 n1 c1] 27)).alloc (.cells #[.int .i64 0, .slice none 0 0, .slice none 0 0] 32)) := ((Below.refl _ _).alloc (Nat.le_refl _) _).alloc (by simp) _
  have hc : appCode xs ys ws = faultOf xs ys := if_neg h0f
  obtain ⟨e1, e2⟩ := app_no (ws := ws) (by rw [hc]; exact h0f)
  rw [hc, e1, e2]
  obtain ⟨f, hf⟩ : ∃ f, faultOf xs ys = f := ⟨_, rfl⟩
  rw [hf] at h0f ⊢
  have hne : (f != 0) = true := by simp [h0f]
  have HF : Hid _ := hf
  clear h0f hf hc e1 e2
  go_enter Try.func55, Try.ntmps55
  go_wp2_with fail
  refine (l1Fault_is _ _ _ _ _ _ _ xs ys _ (by exact h0.below B1) (by exact h1.below B1) (by omega) (by omega) (by simp) (by simp) f HF.out).mono ?_
  rintro e w1 ⟨rfl, hW⟩
  have k0 : w1.cell? ⟨w.heap.size, 0, none⟩ = some (.slice a0 n0 c0) := by rw [hW]; simp
  have k1 : w1.cell? ⟨w.heap.size, 1, none⟩ = some (.slice a1 n1 c1) := by rw [hW]; simp
  have z0 : w1.cell? ⟨w.heap.size + 1, 0, none⟩ = some (.int .i64 0) := by rw [hW]; simp
  have z1 : w1.cell? ⟨w.heap.size + 1, 1, none⟩ = some (.slice none 0 0) := by rw [hW]; simp
  have z2 : w1.cell? ⟨w.heap.size + 1, 2, none⟩ = some (.slice none 0 0) := by rw [hW]; simp
  have y0 : w1.frozen? ⟨w.heap.size + 1, 0, none⟩ = false := by rw [hW]; simp
  have y1 : w1.frozen? ⟨w.heap.size + 1, 1, none⟩ = false := by rw [hW]; simp
  have y2 : w1.frozen? ⟨w.heap.size + 1, 2, none⟩ = false := by rw [hW]; simp
  have hres : w1.heap[w.heap.size + 1]? = some (.cells #[.int .i64 0, .slice none 0 0, .slice none 0 0] 32 (0, 0)) := by rw [hW]; simpa using heap_alloc2_new _ _ _
  have hz : w.heap.size + 1 < w1.heap.size := by rw [hW]; simp
  have B := B1
  rw [← hW] at B
  clear hW
  go_wp2
  refine bodyPost_ret (v := .agg #[.int .i64 f, .slice none 0 0, .slice none 0 0]) (by simp [results, Try.results55, go_sem, z0, z1, z2]) rfl ⟨_, _, _, _, _, _, rfl, ⟨w.heap.size, Nat.le_refl _, ?_, RowAt.nil _ _ _ _ _, RowAt.nil _ _ _ _ _⟩, ?_⟩
  · simp; omega
  · refine Below.setCell (Below.setCell (Below.setCell B ?_ _) ?_ _) ?_ _ <;> simp

set_option maxRecDepth 20000 in
set_option maxHeartbeats 2000000 in
theorem specApp_rec {o0 o1 o2 : Bool} {l0 u0 l1 u1 l2 u2 : Nat} (a0 a1 : Option Addr) (n0 c0 n1 c1 : Nat) (xs : List Int) (ys : List (Int × Int)) (a2 : Option Addr) (n2 c2 : Nat) (ws : List Int) (w : World) (h0 : RowAt w o0 l0 u0 1 a0 n0 c0 (ints xs)) (h1 : RowAt w o1 l1 u1 2 a1 n1 c1 (pairs ys)) (h2 : RowAt w o2 l2 u2 1 a2 n2 c2 (ints ws)) (hn : n0 ≤ 1048576) (hm : n1 ≤ 1048576) (hq : n2 ≤ 1048576) (h0f : faultOf xs ys = 0) (h0r : recFault ws ≠ 0) :
    Calls Try.prog 55 #[.agg #[.slice a0 n0 c0, .slice a1 n1 c1], .slice a2 n2 c2] w fun e w' => DiskRes w w' e (appCode xs ys ws) (appX xs ys ws) (appY xs ys ws) := by
  have hl2 := h2.nInts
  have hl1 := h1.nPairs
  have B1 : Below w.heap.size w ((w.alloc (.cells #[.slice a0 n0 c0, .slice a1 n1 c1] 27)).alloc (.cells #[.int .i64 0, .slice none 0 0, .slice none 0 0] 32)) := ((Below.refl _ _).alloc (Nat.le_refl _) _).alloc (by simp) _
  have HF : Hid _ := h0f
  have hc : appCode xs ys ws = recFault ws := by rw [appCode, if_pos h0f, if_neg h0r]
  obtain ⟨e1, e2⟩ := app_no (ws := ws) (by rw [hc]; exact h0r)
  rw [hc, e1, e2]
  obtain ⟨f, hf⟩ : ∃ f, recFault ws = f := ⟨_, rfl⟩
  rw [hf] at h0r ⊢
  have hne : (f != 0) = true := by simp [h0r]
  have HR : Hid _ := hf
  clear h0f h0r hf hc e1 e2
  go_enter Try.func55, Try.ntmps55
  go_wp2_with fail
  refine (l1Fault_is _ _ _ _ _ _ _ xs ys _ (by exact h0.below B1) (by exact h1.below B1) (by omega) (by omega) (by simp) (by simp) 0 HF.out).mono ?_
  rintro e w1 ⟨rfl, hW⟩
  have k0 : w1.cell? ⟨w.heap.size, 0, none⟩ = some (.slice a0 n0 c0) := by rw [hW]; simp
  have k1 : w1.cell? ⟨w.heap.size, 1, none⟩ = some (.slice a1 n1 c1) := by rw [hW]; simp
  have z0 : w1.cell? ⟨w.heap.size + 1, 0, none⟩ = some (.int .i64 0) := by rw [hW]; simp
  have z1 : w1.cell? ⟨w.heap.size + 1, 1, none⟩ = some (.slice none 0 0) := by rw [hW]; simp
  have z2 : w1.cell? ⟨w.heap.size + 1, 2, none⟩ = some (.slice none 0 0) := by rw [hW]; simp
  have y0 : w1.frozen? ⟨w.heap.size + 1, 0, none⟩ = false := by rw [hW]; simp
  have y1 : w1.frozen? ⟨w.heap.size + 1, 1, none⟩ = false := by rw [hW]; simp
  have y2 : w1.frozen? ⟨w.heap.size + 1, 2, none⟩ = false := by rw [hW]; simp
  have hres : w1.heap[w.heap.size + 1]? = some (.cells #[.int .i64 0, .slice none 0 0, .slice none 0 0] 32 (0, 0)) := by rw [hW]; simpa using heap_alloc2_new _ _ _
  have hz : w.heap.size + 1 < w1.heap.size := by rw [hW]; simp
  have B := B1
  rw [← hW] at B
  clear hW
  go_wp2_with fail
  refine (specRec_is _ _ _ ws _ (by exact h2.below B) (by omega) f HR.out).mono ?_
  rintro e w2 ⟨rfl, hb⟩
  replace k0 := cell_later hb k0
  replace k1 := cell_later hb k1
  replace z0 := cell_later hb z0
  replace z1 := cell_later hb z1
  replace z2 := cell_later hb z2
  replace y0 := frozen_later hb hz y0
  replace y1 := frozen_later hb hz y1
  replace y2 := frozen_later hb hz y2
  replace hres := (hb.block _ hz).trans hres
  replace hz := Nat.lt_of_lt_of_le hz hb.size
  replace B := below_next B hb
  clear hb
  go_wp2
  refine bodyPost_ret (v := .agg #[.int .i64 f, .slice none 0 0, .slice none 0 0]) (by simp [results, Try.results55, go_sem, z0, z1, z2]) rfl ⟨_, _, _, _, _, _, rfl, ⟨w.heap.size, Nat.le_refl _, ?_, RowAt.nil _ _ _ _ _, RowAt.nil _ _ _ _ _⟩, ?_⟩
  · simp; omega
  · refine Below.setCell (Below.setCell (Below.setCell B ?_ _) ?_ _) ?_ _ <;> simp

set_option maxRecDepth 20000 in
set_option maxHeartbeats 2000000 in
theorem specApp_full {o0 o1 o2 : Bool} {l0 u0 l1 u1 l2 u2 : Nat} (a0 a1 : Option Addr) (n0 c0 n1 c1 : Nat) (xs : List Int) (ys : List (Int × Int)) (a2 : Option Addr) (n2 c2 : Nat) (ws : List Int) (w : World) (h0 : RowAt w o0 l0 u0 1 a0 n0 c0 (ints xs)) (h1 : RowAt w o1 l1 u1 2 a1 n1 c1 (pairs ys)) (h2 : RowAt w o2 l2 u2 1 a2 n2 c2 (ints ws)) (hn : n0 ≤ 1048576) (hm : n1 ≤ 1048576) (hq : n2 ≤ 1048576) (h0f : faultOf xs ys = 0) (h0r : recFault ws = 0) (hfull : 64 < usedOf xs ys + 2 + ws.length ∨ 200 < ys.length + 3 + ws.length) :
    Calls Try.prog 55 #[.agg #[.slice a0 n0 c0, .slice a1 n1 c1], .slice a2 n2 c2] w fun e w' => DiskRes w w' e (appCode xs ys ws) (appX xs ys ws) (appY xs ys ws) := by
  have hl2 := h2.nInts
  have hl1 := h1.nPairs
  have B1 : Below w.heap.size w ((w.alloc (.cells #[.slice a0 n0 c0, .slice a1 n1 c1] 27)).alloc (.cells #[.int .i64 0, .slice none 0 0, .slice none 0 0] 32)) := ((Below.refl _ _).alloc (Nat.le_refl _) _).alloc (by simp) _
  obtain ⟨hx, hy, hpl⟩ := fault_zero h0f
  have HF : Hid _ := h0f
  obtain ⟨hok, -⟩ := rec_zero h0r
  have HR : Hid _ := h0r
  have hu := used_le (ys := ys) hx
  unfold okRec at hok
  have hn2 : n2 ≤ 8 := by omega
  have hn1 : 1 ≤ n2 := by omega
  have hc : appCode xs ys ws = 8 := by rw [appCode, if_pos h0f, if_pos h0r, if_pos hfull]
  obtain ⟨e1, e2⟩ := app_no (ws := ws) (by rw [hc]; decide)
  rw [hc, e1, e2]
  clear hc e1 e2 h0f h0r
  go_enter Try.func55, Try.ntmps55
  go_wp2_with fail
  refine (l1Fault_is _ _ _ _ _ _ _ xs ys _ (by exact h0.below B1) (by exact h1.below B1) (by omega) (by omega) (by simp) (by simp) 0 HF.out).mono ?_
  rintro e w1 ⟨rfl, hW⟩
  have k0 : w1.cell? ⟨w.heap.size, 0, none⟩ = some (.slice a0 n0 c0) := by rw [hW]; simp
  have k1 : w1.cell? ⟨w.heap.size, 1, none⟩ = some (.slice a1 n1 c1) := by rw [hW]; simp
  have z0 : w1.cell? ⟨w.heap.size + 1, 0, none⟩ = some (.int .i64 0) := by rw [hW]; simp
  have z1 : w1.cell? ⟨w.heap.size + 1, 1, none⟩ = some (.slice none 0 0) := by rw [hW]; simp
  have z2 : w1.cell? ⟨w.heap.size + 1, 2, none⟩ = some (.slice none 0 0) := by rw [hW]; simp
  have y0 : w1.frozen? ⟨w.heap.size + 1, 0, none⟩ = false := by rw [hW]; simp
  have y1 : w1.frozen? ⟨w.heap.size + 1, 1, none⟩ = false := by rw [hW]; simp
  have y2 : w1.frozen? ⟨w.heap.size + 1, 2, none⟩ = false := by rw [hW]; simp
  have hres : w1.heap[w.heap.size + 1]? = some (.cells #[.int .i64 0, .slice none 0 0, .slice none 0 0] 32 (0, 0)) := by rw [hW]; simpa using heap_alloc2_new _ _ _
  have hz : w.heap.size + 1 < w1.heap.size := by rw [hW]; simp
  have B := B1
  rw [← hW] at B
  clear hW
  go_wp2_with fail
  refine (specRec_is _ _ _ ws _ (by exact h2.below B) (by omega) 0 HR.out).mono ?_
  rintro e w2 ⟨rfl, hb⟩
  replace k0 := cell_later hb k0
  replace k1 := cell_later hb k1
  replace z0 := cell_later hb z0
  replace z1 := cell_later hb z1
  replace z2 := cell_later hb z2
  replace y0 := frozen_later hb hz y0
  replace y1 := frozen_later hb hz y1
  replace y2 := frozen_later hb hz y2
  replace hres := (hb.block _ hz).trans hres
  replace hz := Nat.lt_of_lt_of_le hz hb.size
  replace B := below_next B hb
  clear hb
  go_wp2_with fail
  refine (l1All_any _ _ _ _ _ _ _ xs ys _ (by exact h0.below B) (by exact h1.below B) hx (by omega) hpl k0 k1).mono ?_
  rintro e w3 ⟨ao, cap, rfl, r2, hb⟩
  replace k0 := cell_later hb k0
  replace k1 := cell_later hb k1
  replace z0 := cell_later hb z0
  replace z1 := cell_later hb z1
  replace z2 := cell_later hb z2
  replace y0 := frozen_later hb hz y0
  replace y1 := frozen_later hb hz y1
  replace y2 := frozen_later hb hz y2
  replace hres := (hb.block _ hz).trans hres
  replace hz := Nat.lt_of_lt_of_le hz hb.size
  replace B := below_next B hb
  clear hb
  go_wp2_with fail
  refine (l2Scan_any ao cap (putAll xs ys) _ r2).mono ?_
  rintro e w4 ⟨sa, sn, sc, vs, rfl, hsn, -, -, hb⟩
  replace k0 := cell_later hb k0
  replace k1 := cell_later hb k1
  replace z0 := cell_later hb z0
  replace z1 := cell_later hb z1
  replace z2 := cell_later hb z2
  replace y0 := frozen_later hb hz y0
  replace y1 := frozen_later hb hz y1
  replace y2 := frozen_later hb hz y2
  replace hres := (hb.block _ hz).trans hres
  replace hz := Nat.lt_of_lt_of_le hz hb.size
  replace B := below_next B hb
  clear hb
  have hsn' : sn = (recsOf xs ys).length := hsn
  have hU : (scanOf (putAll xs ys)).2 = usedOf xs ys := rfl
  rw [hU]
  clear hU hsn r2
  obtain ⟨uu, huu⟩ : ∃ uu, usedOf xs ys = uu := ⟨_, rfl⟩
  rw [huu] at hu ⊢
  rw [huu] at hfull
  clear huu hsn'
  by_cases hfa : 64 < uu + 2 + n2
  · have hi : (64 : Int) < uu + 2 + n2 := by omega
    clear hfull hfa
    go_wp2
    refine bodyPost_ret (v := .agg #[.int .i64 8, .slice none 0 0, .slice none 0 0]) (by simp [results, Try.results55, go_sem, z0, z1, z2]) rfl ⟨_, _, _, _, _, _, rfl, ⟨w.heap.size, Nat.le_refl _, ?_, RowAt.nil _ _ _ _ _, RowAt.nil _ _ _ _ _⟩, ?_⟩
    · simp; omega
    · refine Below.setCell (Below.setCell (Below.setCell B ?_ _) ?_ _) ?_ _ <;> simp
  · have hi : ¬ (64 : Int) < uu + 2 + n2 := by omega
    have hi2 : (200 : Int) < n1 + 3 + n2 := by omega
    clear hfull hfa
    go_wp2
    refine bodyPost_ret (v := .agg #[.int .i64 8, .slice none 0 0, .slice none 0 0]) (by simp [results, Try.results55, go_sem, z0, z1, z2]) rfl ⟨_, _, _, _, _, _, rfl, ⟨w.heap.size, Nat.le_refl _, ?_, RowAt.nil _ _ _ _ _, RowAt.nil _ _ _ _ _⟩, ?_⟩
    · simp; omega
    · refine Below.setCell (Below.setCell (Below.setCell B ?_ _) ?_ _) ?_ _ <;> simp

theorem specApp_any {o0 o1 o2 : Bool} {l0 u0 l1 u1 l2 u2 : Nat} (a0 a1 : Option Addr) (n0 c0 n1 c1 : Nat) (xs : List Int) (ys : List (Int × Int)) (a2 : Option Addr) (n2 c2 : Nat) (ws : List Int) (w : World) (h0 : RowAt w o0 l0 u0 1 a0 n0 c0 (ints xs)) (h1 : RowAt w o1 l1 u1 2 a1 n1 c1 (pairs ys)) (h2 : RowAt w o2 l2 u2 1 a2 n2 c2 (ints ws)) (hn : n0 ≤ 1048576) (hm : n1 ≤ 1048576) (hq : n2 ≤ 1048576) :
    Calls Try.prog 55 #[.agg #[.slice a0 n0 c0, .slice a1 n1 c1], .slice a2 n2 c2] w fun e w' => DiskRes w w' e (appCode xs ys ws) (appX xs ys ws) (appY xs ys ws) := by
  by_cases h0f : faultOf xs ys = 0
  · by_cases h0r : recFault ws = 0
    · by_cases hfull : 64 < usedOf xs ys + 2 + ws.length ∨ 200 < ys.length + 3 + ws.length
      · exact specApp_full a0 a1 n0 c0 n1 c1 xs ys a2 n2 c2 ws w h0 h1 h2 hn hm hq h0f h0r hfull
      · exact specApp_ok a0 a1 n0 c0 n1 c1 xs ys a2 n2 c2 ws w h0 h1 h2 hn hm hq h0f h0r hfull
    · exact specApp_rec a0 a1 n0 c0 n1 c1 xs ys a2 n2 c2 ws w h0 h1 h2 hn hm hq h0f h0r
  · exact specApp_fault a0 a1 n0 c0 n1 c1 xs ys a2 n2 c2 ws w h0 h1 h2 hn hm hq h0f

end Go.Proofs.Ytkpbmffklcgecaa
