/- Chapter 2: what the program's append answers. -/
import Derived.Test.YtkpbmffklcgecaaK6
namespace Go.Proofs.Ytkpbmffklcgecaa
open Go.RowKit

theorem concatP2 {o1 o2 : Bool} {l1 u1 l2 u2 : Nat} (W : World) (a1 : Option Addr) (n1 c1 : Nat) (ys : List (Int × Int)) (pa : Option Addr) (m pc : Nat) (zs : List (Int × Int)) (h1 : RowAt W o1 l1 u1 2 a1 n1 c1 (pairs ys)) (h2 : RowAt W o2 l2 u2 2 pa m pc (pairs zs)) (hN : 0 < n1 + m) (hB : n1 + m ≤ 1048577) :
    Calls Try.prog 81 #[.slice (some ⟨W.heap.size, 0, none⟩) 2 2] (W.alloc (.cells #[.slice a1 n1 c1, .slice pa m pc] 25)) fun e w' => ∃ ao cap, e = .returned (.slice ao (n1 + m) cap) ∧ RowAt w' true W.heap.size w'.heap.size 2 ao (n1 + m) cap (pairs (ys ++ zs)) ∧ Below W.heap.size W w' := by
  have A : Below W.heap.size W (W.alloc (.cells #[.slice a1 n1 c1, .slice pa m pc] 25)) := (Below.refl _ _).alloc (Nat.le_refl _) _
  have ht : totOf [⟨a1, n1, c1, pairs ys⟩, ⟨pa, m, pc, pairs zs⟩] 2 = n1 + m := by simp [totOf]
  have hg : gotOf [⟨a1, n1, c1, pairs ys⟩, ⟨pa, m, pc, pairs zs⟩] 2 = pairs (ys ++ zs) := by simp [gotOf, pairs]
  refine (concatP ⟨W.heap.size, 0, none⟩ 2 [⟨a1, n1, c1, pairs ys⟩, ⟨pa, m, pc, pairs zs⟩] _ rfl (by omega) (by omega) (row_lit W [.slice a1 n1 c1, .slice pa m pc] 25 2 1 rfl) ?_ ?_ (by rw [ht]; exact hN) (by rw [ht]; exact hB)).mono ?_
  · intro p hp
    simp at hp
    rcases hp with rfl | rfl
    · exact ⟨_, _, _, h1.below A⟩
    · exact ⟨_, _, _, h2.below A⟩
  · intro p hp
    simp at hp
    rcases hp with rfl | rfl <;> exact pairs_one _
  · rintro e w' ⟨ao, cap, rfl, R, hb⟩
    rw [ht, hg] at R
    rw [ht]
    exact ⟨ao, cap, rfl, R.widen A.size (Nat.le_refl _), below_next A hb⟩

set_option maxRecDepth 20000 in
set_option maxHeartbeats 2000000 in
theorem implApp_ok {o0 o1 o2 : Bool} {l0 u0 l1 u1 l2 u2 : Nat} (a0 a1 : Option Addr) (n0 c0 n1 c1 : Nat) (xs : List Int) (ys : List (Int × Int)) (a2 : Option Addr) (n2 c2 : Nat) (ws : List Int) (w : World) (h0 : RowAt w o0 l0 u0 1 a0 n0 c0 (ints xs)) (h1 : RowAt w o1 l1 u1 2 a1 n1 c1 (pairs ys)) (h2 : RowAt w o2 l2 u2 1 a2 n2 c2 (ints ws)) (hn : n0 ≤ 1048576) (hm : n1 ≤ 1048576) (hq : n2 ≤ 1048576) (h0f : faultOf xs ys = 0) (h0r : recFault ws = 0) (hfull : ¬ (64 < usedOf xs ys + 2 + ws.length ∨ 200 < ys.length + 3 + ws.length)) :
    Calls Try.prog 54 #[.agg #[.slice a0 n0 c0, .slice a1 n1 c1], .slice a2 n2 c2] w fun e w' => DiskRes w w' e (appCode xs ys ws) (appX xs ys ws) (appY xs ys ws) := by
  have hl2 := h2.nInts
  have hl1 := h1.nPairs
  have B1 : Below w.heap.size w ((w.alloc (.cells #[.slice a0 n0 c0, .slice a1 n1 c1] 27)).alloc (.cells #[.int .i64 0, .slice none 0 0, .slice none 0 0] 32)) := ((Below.refl _ _).alloc (Nat.le_refl _) _).alloc (by simp) _
  obtain ⟨hx, hy, hpl⟩ := fault_zero h0f
  have HF : Hid _ := h0f
  obtain ⟨hok, -⟩ := rec_zero h0r
  have HR : Hid _ := h0r
  have hu := used_le (ys := ys) hx
  unfold okRec at hok
  have hn2 : n2 ≤ 8 := by omega
  have hn1 : 1 ≤ n2 := by omega
  have hc : appCode xs ys ws = 0 := by rw [appCode, if_pos h0f, if_pos h0r, if_neg hfull]
  obtain ⟨e1, e2⟩ := app_lists hc
  rw [hc, e1, e2]
  clear hc e1 e2 h0f h0r
  obtain rfl : n0 = 64 := by rw [← h0.nInts]; exact hx
  go_enter Try.func54, Try.ntmps54
  go_wp2_with fail
  refine (implFault_is _ _ _ _ _ _ xs ys _ (by exact h0.below B1) (by exact h1.below B1) (by omega) (by omega) _ HF.out).mono ?_
  rintro e w1 ⟨rfl, hb⟩
  have k0 : w1.cell? ⟨w.heap.size, 0, none⟩ = some (.slice a0 64 c0) := cell_later hb (by simp)
  have k1 : w1.cell? ⟨w.heap.size, 1, none⟩ = some (.slice a1 n1 c1) := cell_later hb (by simp)
  have z0 : w1.cell? ⟨w.heap.size + 1, 0, none⟩ = some (.int .i64 0) := cell_later hb (by simp)
  have y0 : w1.frozen? ⟨w.heap.size + 1, 0, none⟩ = false := frozen_later hb (by simp) (by simp)
  have z1 : w1.cell? ⟨w.heap.size + 1, 1, none⟩ = some (.slice none 0 0) := cell_later hb (by simp)
  have y1 : w1.frozen? ⟨w.heap.size + 1, 1, none⟩ = false := frozen_later hb (by simp) (by simp)
  have z2 : w1.cell? ⟨w.heap.size + 1, 2, none⟩ = some (.slice none 0 0) := cell_later hb (by simp)
  have y2 : w1.frozen? ⟨w.heap.size + 1, 2, none⟩ = false := frozen_later hb (by simp) (by simp)
  have hz : w.heap.size + 1 < w1.heap.size := by have := hb.size; simp at this; omega
  have B := below_next B1 hb
  clear hb B1
  go_wp2_with fail
  refine (implRec_is _ _ _ ws _ (by exact h2.below B) (by omega) _ HR.out).mono ?_
  rintro e w2 ⟨rfl, rfl⟩
  go_wp2_with fail
  refine (seenOf_any _ _ _ _ _ _ xs ys _ (by exact h0.below B) (by exact h1.below B) hx (by omega) hpl).mono ?_
  rintro e w3 ⟨rfl, hb⟩
  replace k0 := cell_later hb k0
  replace k1 := cell_later hb k1
  replace z0 := cell_later hb z0
  replace z1 := cell_later hb z1
  replace z2 := cell_later hb z2
  replace y0 := frozen_later hb hz y0
  replace y1 := frozen_later hb hz y1
  replace y2 := frozen_later hb hz y2
  replace hz := Nat.lt_of_lt_of_le hz hb.size
  replace B := below_next B hb
  clear hb
  go_wp2_with fail
  refine (scanOf_any (putAll xs ys) (by rw [putAll_len, hx]) _).mono ?_
  rintro e w4 ⟨sa, sc, vs, rfl, -, -, -, hb⟩
  replace k0 := cell_later hb k0
  replace k1 := cell_later hb k1
  replace z0 := cell_later hb z0
  replace z1 := cell_later hb z1
  replace z2 := cell_later hb z2
  replace y0 := frozen_later hb hz y0
  replace y1 := frozen_later hb hz y1
  replace y2 := frozen_later hb hz y2
  replace hz := Nat.lt_of_lt_of_le hz hb.size
  replace B := below_next B hb
  clear hb
  have hU : (scanOf (putAll xs ys)).2 = usedOf xs ys := rfl
  have hS : (scanOf (putAll xs ys)).1 = recsOf xs ys := rfl
  rw [hU, hS]
  clear hU hS
  obtain ⟨uu, huu⟩ : ∃ uu, usedOf xs ys = uu := ⟨_, rfl⟩
  obtain ⟨sn, hsn⟩ : ∃ sn, (recsOf xs ys).length = sn := ⟨_, rfl⟩
  rw [huu] at hu hfull ⊢
  rw [hsn]
  have hz4b := hz
  have A4 : Below w4.heap.size w4 (w4.alloc (.cells #[.int .i64 0, .int .i64 (uu : Int), .slice sa sn sc] 73)) := (Below.refl _ _).alloc (Nat.le_refl _) _
  replace k0 := cell_later A4 k0
  replace k1 := cell_later A4 k1
  replace z0 := cell_later A4 z0
  replace z1 := cell_later A4 z1
  replace z2 := cell_later A4 z2
  replace y0 := frozen_later A4 hz y0
  replace y1 := frozen_later A4 hz y1
  replace y2 := frozen_later A4 hz y2
  replace hz := Nat.lt_of_lt_of_le hz A4.size
  replace B := below_next B A4
  clear A4
  have s0 : (w4.alloc (.cells #[.int .i64 0, .int .i64 (uu : Int), .slice sa sn sc] 73)).cell? ⟨w4.heap.size, 0, none⟩ = some (.int .i64 0) := by simp
  have s1 : (w4.alloc (.cells #[.int .i64 0, .int .i64 (uu : Int), .slice sa sn sc] 73)).cell? ⟨w4.heap.size, 1, none⟩ = some (.int .i64 (uu : Int)) := by simp
  have s2 : (w4.alloc (.cells #[.int .i64 0, .int .i64 (uu : Int), .slice sa sn sc] 73)).cell? ⟨w4.heap.size, 2, none⟩ = some (.slice sa sn sc) := by simp
  have hz4 : w4.heap.size < (w4.alloc (.cells #[.int .i64 0, .int .i64 (uu : Int), .slice sa sn sc] 73)).heap.size := by simp
  have hw4 : w.heap.size < w4.heap.size := Nat.lt_trans (Nat.lt_succ_self _) hz4b
  have HD : Hid (decide (uu + 2 + n2 ≤ 64 ∧ n1 + 3 + n2 ≤ 200) = true) := by show _ = _; simp; omega
  have hfit : uu + 2 + n2 ≤ 64 := by omega
  have hcap : n1 + 3 + n2 ≤ 200 := by omega
  obtain ⟨aw, haw⟩ : ∃ aw, appWords xs ys ws = aw := ⟨_, rfl⟩
  have HAW : Hid (((n2 : Int) :: sumOf ((sn : Int) :: ws) :: ws) ++ (if uu + 2 + n2 < 64 then [0] else []) = aw) := by
    show _ = aw
    rw [← haw, appWords, huu, hsn, hl2]
  have hal : aw.length ≤ 3 + n2 := by rw [← haw, ← hl2]; exact appWords_len.1
  have HU : Hid _ := huu
  have HA : Hid _ := haw
  clear hfull huu hsn haw
  go_wp2_with fail
  refine (hasRoom_any _ a1 n1 c1 uu a2 n2 c2 _ hu hn2 a0 64 c0 rfl true HD.out).mono ?_
  rintro e w5 ⟨rfl, hb⟩
  replace k0 := cell_later hb k0
  replace k1 := cell_later hb k1
  replace z0 := cell_later hb z0
  replace z1 := cell_later hb z1
  replace z2 := cell_later hb z2
  replace s0 := cell_later hb s0
  replace s1 := cell_later hb s1
  replace s2 := cell_later hb s2
  replace y0 := frozen_later hb hz y0
  replace y1 := frozen_later hb hz y1
  replace y2 := frozen_later hb hz y2
  replace hz := Nat.lt_of_lt_of_le hz hb.size
  replace hz4 := Nat.lt_of_lt_of_le hz4 hb.size
  replace B := below_next B hb
  clear hb
  go_wp2_with fail
  refine (sectorsOf_full _ _ _ xs _ (by exact h0.below B) hx).mono ?_
  rintro e w6 ⟨rfl, hb⟩
  replace k0 := cell_later hb k0
  replace k1 := cell_later hb k1
  replace z0 := cell_later hb z0
  replace z1 := cell_later hb z1
  replace z2 := cell_later hb z2
  replace s0 := cell_later hb s0
  replace s1 := cell_later hb s1
  replace s2 := cell_later hb s2
  replace y0 := frozen_later hb hz y0
  replace y1 := frozen_later hb hz y1
  replace y2 := frozen_later hb hz y2
  replace hz := Nat.lt_of_lt_of_le hz hb.size
  replace hz4 := Nat.lt_of_lt_of_le hz4 hb.size
  replace B := below_next B hb
  clear hb
  have hz6 := hz
  have hzz6 : w4.heap.size < w6.heap.size := hz4
  go_wp2_with fail
  refine (cleanDisk_any xs hx _).mono ?_
  rintro e w7 ⟨rfl, r0, hb⟩
  replace k0 := cell_later hb k0
  replace k1 := cell_later hb k1
  replace z0 := cell_later hb z0
  replace z1 := cell_later hb z1
  replace z2 := cell_later hb z2
  replace s0 := cell_later hb s0
  replace s1 := cell_later hb s1
  replace s2 := cell_later hb s2
  replace y0 := frozen_later hb hz y0
  replace y1 := frozen_later hb hz y1
  replace y2 := frozen_later hb hz y2
  replace hz := Nat.lt_of_lt_of_le hz hb.size
  replace hz4 := Nat.lt_of_lt_of_le hz4 hb.size
  replace B := below_next B hb
  have hs7 := hb.size
  clear hb
  have A7 : Below w7.heap.size w7 (w7.alloc (.cells #[.int .i64 0, .slice (some ⟨w6.heap.size, 0, none⟩) 64 64, .slice none 0 0] 32)) := (Below.refl _ _).alloc (Nat.le_refl _) _
  replace k0 := cell_later A7 k0
  replace k1 := cell_later A7 k1
  replace z0 := cell_later A7 z0
  replace z1 := cell_later A7 z1
  replace z2 := cell_later A7 z2
  replace s0 := cell_later A7 s0
  replace s1 := cell_later A7 s1
  replace s2 := cell_later A7 s2
  replace y0 := frozen_later A7 hz y0
  replace y1 := frozen_later A7 hz y1
  replace y2 := frozen_later A7 hz y2
  replace r0 := r0.below A7
  replace hz := Nat.lt_of_lt_of_le hz A7.size
  replace hz4 := Nat.lt_of_lt_of_le hz4 A7.size
  replace B := below_next B A7
  clear A7
  have b0 : (w7.alloc (.cells #[.int .i64 0, .slice (some ⟨w6.heap.size, 0, none⟩) 64 64, .slice none 0 0] 32)).cell? ⟨w7.heap.size, 0, none⟩ = some (.int .i64 0) := by simp
  have b1 : (w7.alloc (.cells #[.int .i64 0, .slice (some ⟨w6.heap.size, 0, none⟩) 64 64, .slice none 0 0] 32)).cell? ⟨w7.heap.size, 1, none⟩ = some (.slice (some ⟨w6.heap.size, 0, none⟩) 64 64) := by simp
  have b2 : (w7.alloc (.cells #[.int .i64 0, .slice (some ⟨w6.heap.size, 0, none⟩) 64 64, .slice none 0 0] 32)).cell? ⟨w7.heap.size, 2, none⟩ = some (.slice none 0 0) := by simp
  have f2 : (w7.alloc (.cells #[.int .i64 0, .slice (some ⟨w6.heap.size, 0, none⟩) 64 64, .slice none 0 0] 32)).frozen? ⟨w7.heap.size, 2, none⟩ = false := by simp
  have lb : w7.heap.size < (w7.alloc (.cells #[.int .i64 0, .slice (some ⟨w6.heap.size, 0, none⟩) 64 64, .slice none 0 0] 32)).heap.size := by simp
  have L1 : w.heap.size < w4.heap.size := hw4
  have D8 : Below (w7.alloc (.cells #[.int .i64 0, .slice (some ⟨w6.heap.size, 0, none⟩) 64 64, .slice none 0 0] 32)).heap.size (w7.alloc (.cells #[.int .i64 0, .slice (some ⟨w6.heap.size, 0, none⟩) 64 64, .slice none 0 0] 32)) (w7.alloc (.cells #[.int .i64 0, .slice (some ⟨w6.heap.size, 0, none⟩) 64 64, .slice none 0 0] 32)).drew := (Below.refl _ _).drew
  replace k0 := cell_later D8 k0
  replace k1 := cell_later D8 k1
  replace z0 := cell_later D8 z0
  replace z1 := cell_later D8 z1
  replace z2 := cell_later D8 z2
  replace s0 := cell_later D8 s0
  replace s1 := cell_later D8 s1
  replace s2 := cell_later D8 s2
  replace b0 := cell_later D8 b0
  replace b1 := cell_later D8 b1
  replace b2 := cell_later D8 b2
  replace y0 := frozen_later D8 hz y0
  replace y1 := frozen_later D8 hz y1
  replace y2 := frozen_later D8 hz y2
  replace f2 := frozen_later D8 lb f2
  replace r0 := r0.below D8
  replace hz := Nat.lt_of_lt_of_le hz D8.size
  replace hz4 := Nat.lt_of_lt_of_le hz4 D8.size
  replace lb := Nat.lt_of_lt_of_le lb D8.size
  replace B := below_next B D8
  clear D8
  have g1 := h1.below B
  have g2 := h2.below B
  have n1p : 0 < n1 + aw.length := by have := (appWords_len (xs := xs) (ys := ys) (ws := ws)).2; rw [HA.out] at this; omega
  have n1b : n1 + aw.length ≤ 1048577 := by omega
  have hso : ∀ (W' : World) (v : Value) (b i : Nat), b ≠ w7.heap.size → (W'.setCell ⟨w7.heap.size, 2, none⟩ v).cell? ⟨b, i, none⟩ = W'.cell? ⟨b, i, none⟩ := fun W' v b i hb => World.cell?_setCell_other _ _ _ _ (by intro e; injection e with e _; exact hb e.symm)
  have ne0 : w.heap.size ≠ w7.heap.size := by omega
  have ne4 : w4.heap.size ≠ w7.heap.size := by omega
  go_wp2_with fail
  go_region_held3 (fun w' => w'.cell? ⟨w.heap.size, 1, none⟩ = some (.slice a1 n1 c1) ∧ w'.cell? ⟨w4.heap.size, 0, none⟩ = some (.int .i64 0) ∧ w'.cell? ⟨w4.heap.size, 1, none⟩ = some (.int .i64 (uu : Int)) ∧ w'.cell? ⟨w4.heap.size, 2, none⟩ = some (.slice sa sn sc)) (first | exact ⟨k1, s0, s1, s2⟩ | exact ⟨cell_later A9 k1, cell_later A9 s0, cell_later A9 s1, cell_later A9 s2⟩ | exact ⟨(hso _ _ _ _ ne0).trans k1, (hso _ _ _ _ ne4).trans s0, (hso _ _ _ _ ne4).trans s1, (hso _ _ _ _ ne4).trans s2⟩)
    (first | (go_at_call 99; refine (recordPuts_is 0 uu sa sn sc a2 n2 c2 ws _ g2 hn1 hn2 hfit aw HAW.out).mono ?_; rintro e w9 ⟨pa, pc, rfl, rp, hb⟩; replace k0 := cell_later hb k0; replace k1 := cell_later hb k1; replace z0 := cell_later hb z0; replace z1 := cell_later hb z1; replace z2 := cell_later hb z2; replace s0 := cell_later hb s0; replace s1 := cell_later hb s1; replace s2 := cell_later hb s2; replace b0 := cell_later hb b0; replace b1 := cell_later hb b1; replace b2 := cell_later hb b2; replace y0 := frozen_later hb hz y0; replace y1 := frozen_later hb hz y1; replace y2 := frozen_later hb hz y2; replace f2 := frozen_later hb lb f2; replace r0 := r0.below hb; replace hz := Nat.lt_of_lt_of_le hz hb.size; replace hz4 := Nat.lt_of_lt_of_le hz4 hb.size; replace lb := Nat.lt_of_lt_of_le lb hb.size; replace B := below_next B hb; replace g1 := g1.below hb; have lb9 : w7.heap.size < w9.heap.size := lb; clear hb; have A9 : Below w9.heap.size w9 (w9.alloc (.cells #[.slice a1 n1 c1, .slice pa aw.length pc] 25)) := (Below.refl _ _).alloc (Nat.le_refl _) _) | (go_at_call 81; refine (concatP2 w9 a1 n1 c1 ys pa aw.length pc (puts uu aw) g1 rp n1p n1b).mono ?_; rintro e w10 ⟨ca, cc, rfl, rc, hb⟩; replace k0 := cell_later hb k0; replace k1 := cell_later hb k1; replace z0 := cell_later hb z0; replace z1 := cell_later hb z1; replace z2 := cell_later hb z2; replace s0 := cell_later hb s0; replace s1 := cell_later hb s1; replace s2 := cell_later hb s2; replace b0 := cell_later hb b0; replace b1 := cell_later hb b1; replace b2 := cell_later hb b2; replace y0 := frozen_later hb hz y0; replace y1 := frozen_later hb hz y1; replace y2 := frozen_later hb hz y2; replace f2 := frozen_later hb lb f2; replace r0 := r0.below hb; replace hz := Nat.lt_of_lt_of_le hz hb.size; replace hz4 := Nat.lt_of_lt_of_le hz4 hb.size; replace lb := Nat.lt_of_lt_of_le lb hb.size; replace B := below_next B hb; have S10 : w9.heap.size ≤ w10.heap.size := hb.size; clear hb A9))
  all_goals
    have K11 : Kept w7.heap.size (w7.heap.size + 1) w10 (w10.setCell ⟨w7.heap.size, 2, none⟩ (.slice ca (n1 + aw.length) cc)) := Kept.setCell (p := ⟨w7.heap.size, 2, none⟩) (Kept.refl _ _ _) (Nat.le_refl _) (Nat.lt_succ_self _) _
    have ne1 : w.heap.size + 1 ≠ w7.heap.size := by omega
    have z0' := (hso w10 (.slice ca (n1 + aw.length) cc) _ 0 ne1).trans z0
    have z1' := (hso w10 (.slice ca (n1 + aw.length) cc) _ 1 ne1).trans z1
    have z2' := (hso w10 (.slice ca (n1 + aw.length) cc) _ 2 ne1).trans z2
    have y0' := K11.frozen hz (by omega) y0
    have y1' := K11.frozen hz (by omega) y1
    have y2' := K11.frozen hz (by omega) y2
    have b0' : (w10.setCell ⟨w7.heap.size, 2, none⟩ (.slice ca (n1 + aw.length) cc)).cell? ⟨w7.heap.size, 0, none⟩ = _ := (World.cell?_setCell_other _ _ _ _ (by intro e; simp at e)).trans b0
    have b1' : (w10.setCell ⟨w7.heap.size, 2, none⟩ (.slice ca (n1 + aw.length) cc)).cell? ⟨w7.heap.size, 1, none⟩ = _ := (World.cell?_setCell_other _ _ _ _ (by intro e; simp at e)).trans b1
    have b2' : (w10.setCell ⟨w7.heap.size, 2, none⟩ (.slice ca (n1 + aw.length) cc)).cell? ⟨w7.heap.size, 2, none⟩ = some (.slice ca (n1 + aw.length) cc) := by first | exact World.cell?_setCell_same b2 | exact World.cell?_setCell_same _ _ _ b2
    have r0' := r0.kept K11 (by omega)
    have rc' := rc.kept K11 (by omega)
    have B11 : Below w.heap.size w (w10.setCell ⟨w7.heap.size, 2, none⟩ (.slice ca (n1 + aw.length) cc)) := B.setCell (p := ⟨w7.heap.size, 2, none⟩) (by show _ ≤ w7.heap.size; omega) _
    have hs11 : w10.heap.size ≤ (w10.setCell ⟨w7.heap.size, 2, none⟩ (.slice ca (n1 + aw.length) cc)).heap.size := K11.size
    generalize (w10.setCell ⟨w7.heap.size, 2, none⟩ (.slice ca (n1 + aw.length) cc)) = W at *
    clear K11 hso b0 b1 b2 f2 z0 z1 z2 y0 y1 y2 k0 k1 s0 s1 s2 r0 rc rp B g1 g2
    go_wp2
    refine bodyPost_ret (v := .agg #[.int .i64 0, .slice (some ⟨w6.heap.size, 0, none⟩) 64 64, .slice ca (n1 + aw.length) cc]) (by simp [results, Try.results54, go_sem, z0', z1', z2']) rfl ⟨_, _, _, _, _, _, rfl, ⟨w9.heap.size, ?_, ?_, RowAt.widen (RowAt.kept r0' (l := w.heap.size + 1) (u := w.heap.size + 2) ?_ ?_) ?_ ?_, ?_⟩, ?_⟩
    · omega
    · simp; omega
    · refine Kept.setCell (Kept.setCell (Kept.setCell (Kept.refl _ _ _) ?_ ?_ _) ?_ ?_ _) ?_ ?_ _ <;> simp
    · omega
    · omega
    · omega
    · rw [HU.out, HA.out]
      refine RowAt.widen (RowAt.kept rc' (l := w.heap.size + 1) (u := w.heap.size + 2) ?_ ?_) ?_ ?_
      · refine Kept.setCell (Kept.setCell (Kept.setCell (Kept.refl _ _ _) ?_ ?_ _) ?_ ?_ _) ?_ ?_ _ <;> simp
      · omega
      · omega
      · simp; omega
    · refine Below.setCell (Below.setCell (Below.setCell B11 ?_ _) ?_ _) ?_ _ <;> simp

theorem implApp_any {o0 o1 o2 : Bool} {l0 u0 l1 u1 l2 u2 : Nat} (a0 a1 : Option Addr) (n0 c0 n1 c1 : Nat) (xs : List Int) (ys : List (Int × Int)) (a2 : Option Addr) (n2 c2 : Nat) (ws : List Int) (w : World) (h0 : RowAt w o0 l0 u0 1 a0 n0 c0 (ints xs)) (h1 : RowAt w o1 l1 u1 2 a1 n1 c1 (pairs ys)) (h2 : RowAt w o2 l2 u2 1 a2 n2 c2 (ints ws)) (hn : n0 ≤ 1048576) (hm : n1 ≤ 1048576) (hq : n2 ≤ 1048576) :
    Calls Try.prog 54 #[.agg #[.slice a0 n0 c0, .slice a1 n1 c1], .slice a2 n2 c2] w fun e w' => DiskRes w w' e (appCode xs ys ws) (appX xs ys ws) (appY xs ys ws) := by
  by_cases h0f : faultOf xs ys = 0
  · by_cases h0r : recFault ws = 0
    · by_cases hfull : 64 < usedOf xs ys + 2 + ws.length ∨ 200 < ys.length + 3 + ws.length
      · exact implApp_full a0 a1 n0 c0 n1 c1 xs ys a2 n2 c2 ws w h0 h1 h2 hn hm hq h0f h0r hfull
      · exact implApp_ok a0 a1 n0 c0 n1 c1 xs ys a2 n2 c2 ws w h0 h1 h2 hn hm hq h0f h0r hfull
    · exact implApp_rec a0 a1 n0 c0 n1 c1 xs ys a2 n2 c2 ws w h0 h1 h2 hn hm hq h0f h0r
  · exact implApp_fault a0 a1 n0 c0 n1 c1 xs ys a2 n2 c2 ws w h0 h1 h2 hn hm hq h0f

end Go.Proofs.Ytkpbmffklcgecaa
