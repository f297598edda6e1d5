/- Chapter 2: what the program's append answers where it tells a code. -/
import Derived.Test.YtkpbmffklcgecaaK5
namespace Go.Proofs.Ytkpbmffklcgecaa
open Go.RowKit

theorem implRec_is {o : Bool} {l u : Nat} (ao : Option Addr) (n cap : Nat) (xs : List Int) (w : World) (h : RowAt w o l u 1 ao n cap (ints xs)) (hn : n ≤ 2097152) (r : Int) (hr : recFault xs = r) :
    Calls Try.prog 56 #[.slice ao n cap] w fun e w' => e = .returned (.int .i64 r) ∧ w' = w := by
  rw [← hr]; exact implRec_any ao n cap xs w h hn

set_option maxRecDepth 20000 in
set_option maxHeartbeats 2000000 in
theorem implApp_fault {o0 o1 o2 : Bool} {l0 u0 l1 u1 l2 u2 : Nat} (a0 a1 : Option Addr) (n0 c0 n1 c1 : Nat) (xs : List Int) (ys : List (Int × Int)) (a2 : Option Addr) (n2 c2 : Nat) (ws : List Int) (w : World) (h0 : RowAt w o0 l0 u0 1 a0 n0 c0 (ints xs)) (h1 : RowAt w o1 l1 u1 2 a1 n1 c1 (pairs ys)) (h2 : RowAt w o2 l2 u2 1 a2 n2 c2 (ints ws)) (hn : n0 ≤ 1048576) (hm : n1 ≤ 1048576) (hq : n2 ≤ 1048576) (h0f : faultOf xs ys ≠ 0) :
    Calls Try.prog 54 #[.agg #[.slice a0 n0 c0, .slice a1 n1 c1], .slice a2 n2 c2] w fun e w' => DiskRes w w' e (appCode xs ys ws) (appX xs ys ws) (appY xs ys ws) := by
  have _ := hq
  have _ := h2
  have B1 : Below w.heap.size w ((w.alloc (.cells #[.slice a0 n0 c0, .slice a1 n1 c1] 27)).alloc (.cells #[.int .i64 0, .slice none 0 0, .slice none 0 0] 32)) := ((Below.refl _ _).alloc (Nat.le_refl _) _).alloc (by simp) _
  have hc : appCode xs ys ws = faultOf xs ys := if_neg h0f
  obtain ⟨e1, e2⟩ := app_no (ws := ws) (by rw [hc]; exact h0f)
  rw [hc, e1, e2]
  obtain ⟨f, hf⟩ : ∃ f, faultOf xs ys = f := ⟨_, rfl⟩
  rw [hf] at h0f ⊢
  have hne : (f != 0) = true := by simp [h0f]
  have HF : Hid _ := hf
  clear h0f hf hc e1 e2
  go_enter Try.func54, Try.ntmps54
  go_wp2_with fail
  refine (implFault_is _ _ _ _ _ _ xs ys _ (by exact h0.below B1) (by exact h1.below B1) (by omega) (by omega) _ HF.out).mono ?_
  rintro e w1 ⟨rfl, hb⟩
  have k0 : w1.cell? ⟨w.heap.size, 0, none⟩ = some (.slice a0 n0 c0) := cell_later hb (by simp)
  have k1 : w1.cell? ⟨w.heap.size, 1, none⟩ = some (.slice a1 n1 c1) := cell_later hb (by simp)
  have z0 : w1.cell? ⟨w.heap.size + 1, 0, none⟩ = some (.int .i64 0) := cell_later hb (by simp)
  have y0 : w1.frozen? ⟨w.heap.size + 1, 0, none⟩ = false := frozen_later hb (by simp) (by simp)
  have z1 : w1.cell? ⟨w.heap.size + 1, 1, none⟩ = some (.slice none 0 0) := cell_later hb (by simp)
  have y1 : w1.frozen? ⟨w.heap.size + 1, 1, none⟩ = false := frozen_later hb (by simp) (by simp)
  have z2 : w1.cell? ⟨w.heap.size + 1, 2, none⟩ = some (.slice none 0 0) := cell_later hb (by simp)
  have y2 : w1.frozen? ⟨w.heap.size + 1, 2, none⟩ = false := frozen_later hb (by simp) (by simp)
  have hz : w.heap.size + 1 < w1.heap.size := by have := hb.size; simp at this; omega
  have B := below_next B1 hb
  clear hb B1
  go_wp2
  refine bodyPost_ret (v := .agg #[.int .i64 f, .slice none 0 0, .slice none 0 0]) (by simp [results, Try.results54, go_sem, z0, z1, z2]) rfl ⟨_, _, _, _, _, _, rfl, ⟨w.heap.size, Nat.le_refl _, ?_, RowAt.nil _ _ _ _ _, RowAt.nil _ _ _ _ _⟩, ?_⟩
  · have := B.size; simpa using this
  · refine Below.setCell (Below.setCell (Below.setCell B ?_ _) ?_ _) ?_ _ <;> simp

set_option maxRecDepth 20000 in
set_option maxHeartbeats 2000000 in
theorem implApp_rec {o0 o1 o2 : Bool} {l0 u0 l1 u1 l2 u2 : Nat} (a0 a1 : Option Addr) (n0 c0 n1 c1 : Nat) (xs : List Int) (ys : List (Int × Int)) (a2 : Option Addr) (n2 c2 : Nat) (ws : List Int) (w : World) (h0 : RowAt w o0 l0 u0 1 a0 n0 c0 (ints xs)) (h1 : RowAt w o1 l1 u1 2 a1 n1 c1 (pairs ys)) (h2 : RowAt w o2 l2 u2 1 a2 n2 c2 (ints ws)) (hn : n0 ≤ 1048576) (hm : n1 ≤ 1048576) (hq : n2 ≤ 1048576) (h0f : faultOf xs ys = 0) (h0r : recFault ws ≠ 0) :
    Calls Try.prog 54 #[.agg #[.slice a0 n0 c0, .slice a1 n1 c1], .slice a2 n2 c2] w fun e w' => DiskRes w w' e (appCode xs ys ws) (appX xs ys ws) (appY xs ys ws) := by
  have B1 : Below w.heap.size w ((w.alloc (.cells #[.slice a0 n0 c0, .slice a1 n1 c1] 27)).alloc (.cells #[.int .i64 0, .slice none 0 0, .slice none 0 0] 32)) := ((Below.refl _ _).alloc (Nat.le_refl _) _).alloc (by simp) _
  have HF : Hid _ := h0f
  have hc : appCode xs ys ws = recFault ws := by rw [appCode, if_pos h0f, if_neg h0r]
  obtain ⟨e1, e2⟩ := app_no (ws := ws) (by rw [hc]; exact h0r)
  rw [hc, e1, e2]
  obtain ⟨f, hf⟩ : ∃ f, recFault ws = f := ⟨_, rfl⟩
  rw [hf] at h0r ⊢
  have hne : (f != 0) = true := by simp [h0r]
  have HR : Hid _ := hf
  clear h0f h0r hf hc e1 e2
  go_enter Try.func54, Try.ntmps54
  go_wp2_with fail
  refine (implFault_is _ _ _ _ _ _ xs ys _ (by exact h0.below B1) (by exact h1.below B1) (by omega) (by omega) _ HF.out).mono ?_
  rintro e w1 ⟨rfl, hb⟩
  have k0 : w1.cell? ⟨w.heap.size, 0, none⟩ = some (.slice a0 n0 c0) := cell_later hb (by simp)
  have k1 : w1.cell? ⟨w.heap.size, 1, none⟩ = some (.slice a1 n1 c1) := cell_later hb (by simp)
  have z0 : w1.cell? ⟨w.heap.size + 1, 0, none⟩ = some (.int .i64 0) := cell_later hb (by simp)
  have y0 : w1.frozen? ⟨w.heap.size + 1, 0, none⟩ = false := frozen_later hb (by simp) (by simp)
  have z1 : w1.cell? ⟨w.heap.size + 1, 1, none⟩ = some (.slice none 0 0) := cell_later hb (by simp)
  have y1 : w1.frozen? ⟨w.heap.size + 1, 1, none⟩ = false := frozen_later hb (by simp) (by simp)
  have z2 : w1.cell? ⟨w.heap.size + 1, 2, none⟩ = some (.slice none 0 0) := cell_later hb (by simp)
  have y2 : w1.frozen? ⟨w.heap.size + 1, 2, none⟩ = false := frozen_later hb (by simp) (by simp)
  have hz : w.heap.size + 1 < w1.heap.size := by have := hb.size; simp at this; omega
  have B := below_next B1 hb
  clear hb B1
  go_wp2_with fail
  refine (implRec_is _ _ _ ws _ (by exact h2.below B) (by omega) _ HR.out).mono ?_
  rintro e w2 ⟨rfl, rfl⟩
  go_wp2
  refine bodyPost_ret (v := .agg #[.int .i64 f, .slice none 0 0, .slice none 0 0]) (by simp [results, Try.results54, go_sem, z0, z1, z2]) rfl ⟨_, _, _, _, _, _, rfl, ⟨w.heap.size, Nat.le_refl _, ?_, RowAt.nil _ _ _ _ _, RowAt.nil _ _ _ _ _⟩, ?_⟩
  · have := B.size; simpa using this
  · refine Below.setCell (Below.setCell (Below.setCell B ?_ _) ?_ _) ?_ _ <;> simp

set_option maxRecDepth 20000 in
set_option maxHeartbeats 2000000 in
theorem implApp_full {o0 o1 o2 : Bool} {l0 u0 l1 u1 l2 u2 : Nat} (a0 a1 : Option Addr) (n0 c0 n1 c1 : Nat) (xs : List Int) (ys : List (Int × Int)) (a2 : Option Addr) (n2 c2 : Nat) (ws : List Int) (w : World) (h0 : RowAt w o0 l0 u0 1 a0 n0 c0 (ints xs)) (h1 : RowAt w o1 l1 u1 2 a1 n1 c1 (pairs ys)) (h2 : RowAt w o2 l2 u2 1 a2 n2 c2 (ints ws)) (hn : n0 ≤ 1048576) (hm : n1 ≤ 1048576) (hq : n2 ≤ 1048576) (h0f : faultOf xs ys = 0) (h0r : recFault ws = 0) (hfull : 64 < usedOf xs ys + 2 + ws.length ∨ 200 < ys.length + 3 + ws.length) :
    Calls Try.prog 54 #[.agg #[.slice a0 n0 c0, .slice a1 n1 c1], .slice a2 n2 c2] w fun e w' => DiskRes w w' e (appCode xs ys ws) (appX xs ys ws) (appY xs ys ws) := by
  have hl2 := h2.nInts
  have hl1 := h1.nPairs
  have B1 : Below w.heap.size w ((w.alloc (.cells #[.slice a0 n0 c0, .slice a1 n1 c1] 27)).alloc (.cells #[.int .i64 0, .slice none 0 0, .slice none 0 0] 32)) := ((Below.refl _ _).alloc (Nat.le_refl _) _).alloc (by simp) _
  obtain ⟨hx, hy, hpl⟩ := fault_zero h0f
  have HF : Hid _ := h0f
  obtain ⟨hok, -⟩ := rec_zero h0r
  have HR : Hid _ := h0r
  have hu := used_le (ys := ys) hx
  unfold okRec at hok
  have hn2 : n2 ≤ 8 := by omega
  have hn1 : 1 ≤ n2 := by omega
  have hc : appCode xs ys ws = 8 := by rw [appCode, if_pos h0f, if_pos h0r, if_pos hfull]
  obtain ⟨e1, e2⟩ := app_no (ws := ws) (by rw [hc]; decide)
  rw [hc, e1, e2]
  clear hc e1 e2 h0f h0r
  go_enter Try.func54, Try.ntmps54
  go_wp2_with fail
  refine (implFault_is _ _ _ _ _ _ xs ys _ (by exact h0.below B1) (by exact h1.below B1) (by omega) (by omega) _ HF.out).mono ?_
  rintro e w1 ⟨rfl, hb⟩
  have k0 : w1.cell? ⟨w.heap.size, 0, none⟩ = some (.slice a0 n0 c0) := cell_later hb (by simp)
  have k1 : w1.cell? ⟨w.heap.size, 1, none⟩ = some (.slice a1 n1 c1) := cell_later hb (by simp)
  have z0 : w1.cell? ⟨w.heap.size + 1, 0, none⟩ = some (.int .i64 0) := cell_later hb (by simp)
  have y0 : w1.frozen? ⟨w.heap.size + 1, 0, none⟩ = false := frozen_later hb (by simp) (by simp)
  have z1 : w1.cell? ⟨w.heap.size + 1, 1, none⟩ = some (.slice none 0 0) := cell_later hb (by simp)
  have y1 : w1.frozen? ⟨w.heap.size + 1, 1, none⟩ = false := frozen_later hb (by simp) (by simp)
  have z2 : w1.cell? ⟨w.heap.size + 1, 2, none⟩ = some (.slice none 0 0) := cell_later hb (by simp)
  have y2 : w1.frozen? ⟨w.heap.size + 1, 2, none⟩ = false := frozen_later hb (by simp) (by simp)
  have hz : w.heap.size + 1 < w1.heap.size := by have := hb.size; simp at this; omega
  have B := below_next B1 hb
  clear hb B1
  go_wp2_with fail
  refine (implRec_is _ _ _ ws _ (by exact h2.below B) (by omega) _ HR.out).mono ?_
  rintro e w2 ⟨rfl, rfl⟩
  go_wp2_with fail
  refine (seenOf_any _ _ _ _ _ _ xs ys _ (by exact h0.below B) (by exact h1.below B) hx (by omega) hpl).mono ?_
  rintro e w3 ⟨rfl, hb⟩
  replace k0 := cell_later hb k0
  replace k1 := cell_later hb k1
  replace z0 := cell_later hb z0
  replace z1 := cell_later hb z1
  replace z2 := cell_later hb z2
  replace y0 := frozen_later hb hz y0
  replace y1 := frozen_later hb hz y1
  replace y2 := frozen_later hb hz y2
  replace hz := Nat.lt_of_lt_of_le hz hb.size
  replace B := below_next B hb
  clear hb
  go_wp2_with fail
  refine (scanOf_any (putAll xs ys) (by rw [putAll_len, hx]) _).mono ?_
  rintro e w4 ⟨sa, sc, vs, rfl, -, -, -, hb⟩
  replace k0 := cell_later hb k0
  replace k1 := cell_later hb k1
  replace z0 := cell_later hb z0
  replace z1 := cell_later hb z1
  replace z2 := cell_later hb z2
  replace y0 := frozen_later hb hz y0
  replace y1 := frozen_later hb hz y1
  replace y2 := frozen_later hb hz y2
  replace hz := Nat.lt_of_lt_of_le hz hb.size
  replace B := below_next B hb
  clear hb
  have hU : (scanOf (putAll xs ys)).2 = usedOf xs ys := rfl
  have hS : (scanOf (putAll xs ys)).1 = recsOf xs ys := rfl
  rw [hU, hS]
  clear hU hS
  obtain ⟨uu, huu⟩ : ∃ uu, usedOf xs ys = uu := ⟨_, rfl⟩
  obtain ⟨sn, hsn⟩ : ∃ sn, (recsOf xs ys).length = sn := ⟨_, rfl⟩
  rw [huu] at hu hfull ⊢
  rw [hsn]
  have hz4b := hz
  have A4 : Below w4.heap.size w4 (w4.alloc (.cells #[.int .i64 0, .int .i64 (uu : Int), .slice sa sn sc] 73)) := (Below.refl _ _).alloc (Nat.le_refl _) _
  replace k0 := cell_later A4 k0
  replace k1 := cell_later A4 k1
  replace z0 := cell_later A4 z0
  replace z1 := cell_later A4 z1
  replace z2 := cell_later A4 z2
  replace y0 := frozen_later A4 hz y0
  replace y1 := frozen_later A4 hz y1
  replace y2 := frozen_later A4 hz y2
  replace hz := Nat.lt_of_lt_of_le hz A4.size
  replace B := below_next B A4
  clear A4
  have s0 : (w4.alloc (.cells #[.int .i64 0, .int .i64 (uu : Int), .slice sa sn sc] 73)).cell? ⟨w4.heap.size, 0, none⟩ = some (.int .i64 0) := by simp
  have s1 : (w4.alloc (.cells #[.int .i64 0, .int .i64 (uu : Int), .slice sa sn sc] 73)).cell? ⟨w4.heap.size, 1, none⟩ = some (.int .i64 (uu : Int)) := by simp
  have s2 : (w4.alloc (.cells #[.int .i64 0, .int .i64 (uu : Int), .slice sa sn sc] 73)).cell? ⟨w4.heap.size, 2, none⟩ = some (.slice sa sn sc) := by simp
  have hz4 : w4.heap.size < (w4.alloc (.cells #[.int .i64 0, .int .i64 (uu : Int), .slice sa sn sc] 73)).heap.size := by simp
  have hw4 : w.heap.size < w4.heap.size := Nat.lt_trans (Nat.lt_succ_self _) hz4b
  have HD : Hid (decide (uu + 2 + n2 ≤ 64 ∧ n1 + 3 + n2 ≤ 200) = false) := by show _ = _; simp; omega
  clear hfull huu hsn
  go_wp2_with fail
  refine (hasRoom_any _ a1 n1 c1 uu a2 n2 c2 _ hu hn2 a0 n0 c0 rfl false HD.out).mono ?_
  rintro e w5 ⟨rfl, hb⟩
  replace k0 := cell_later hb k0
  replace k1 := cell_later hb k1
  replace z0 := cell_later hb z0
  replace z1 := cell_later hb z1
  replace z2 := cell_later hb z2
  replace s0 := cell_later hb s0
  replace s1 := cell_later hb s1
  replace s2 := cell_later hb s2
  replace y0 := frozen_later hb hz y0
  replace y1 := frozen_later hb hz y1
  replace y2 := frozen_later hb hz y2
  replace hz := Nat.lt_of_lt_of_le hz hb.size
  replace hz4 := Nat.lt_of_lt_of_le hz4 hb.size
  replace B := below_next B hb
  clear hb
  go_wp2
  refine bodyPost_ret (v := .agg #[.int .i64 8, .slice none 0 0, .slice none 0 0]) (by simp [results, Try.results54, go_sem, z0, z1, z2]) rfl ⟨_, _, _, _, _, _, rfl, ⟨w.heap.size, Nat.le_refl _, ?_, RowAt.nil _ _ _ _ _, RowAt.nil _ _ _ _ _⟩, ?_⟩
  · have := B.size; simpa using this
  · refine Below.setCell (Below.setCell (Below.setCell B ?_ _) ?_ _) ?_ _ <;> simp

end Go.Proofs.Ytkpbmffklcgecaa
