/- At every disk and list of words the program's AppendJournal answers as its model does, field by field, writes into no argument and owns what it answers: the law FnExactAppendJournal is true at every argument, with no condition. -/
import Derived.Test.YtkpbmffklcgecaaRows
import Derived.Test.YtkpbmffklcgecaaK7
import Derived.Test.YtkpbmffklcgecaaJ4b
import Derived.Test.YtkpbmffklcgecaaMark2
import Derived.Test.YtkpbmffklcgecaaRow
namespace Go.Proofs.Ytkpbmffklcgecaa
open Go.RowKit

theorem toInts_ex {own : Bool} {lo hi : Nat} (ao : Option Addr) (n cap : Nat) (xs : List Int) (w : World) (h : RowAt w own lo hi 1 ao n cap (ints xs)) (hn : n ≤ 1048576) :
    Calls Try.prog 33 #[.slice ao n cap] w fun e w' => ∃ ad : Addr, e = .returned (.slice (some ad) n n) ∧ RowAt w' true w.heap.size w'.heap.size 1 (some ad) n n (ints xs) ∧ Below w.heap.size w w' :=
  (toInts_any ao n cap xs w h hn).mono fun _ _ h => ⟨_, h⟩
theorem appX_len (xs : List Int) (ys : List (Int × Int)) (ws : List Int) (h : xs.length ≤ 1048576) : (appX xs ys ws).length ≤ 2097152 := by
  unfold appX
  split
  · omega
  · simp
theorem appY_len (xs : List Int) (ys : List (Int × Int)) (ws : List Int) : (appY xs ys ws).length ≤ 2097152 := by
  unfold appY
  split
  · rename_i h
    have h1 := (app_zero h).2.2.2
    have h2 := (appWords_len (xs := xs) (ys := ys) (ws := ws)).1
    rw [List.length_append, puts_length]; omega
  · simp

set_option maxRecDepth 20000 in
set_option maxHeartbeats 4000000 in
theorem lawAppendJournal {o0 o1 : Bool} (a0 a1 : Option Addr) (n0 c0 n1 c1 : Nat) (xs : List Int) (ys : List (Int × Int)) (a2 : Option Addr) (n2 c2 : Nat) (bs : List Int) (w : World) (h0 : RowAt w o0 0 w.heap.size 1 a0 n0 c0 (ints xs)) (h1 : RowAt w o1 0 w.heap.size 2 a1 n1 c1 (pairs ys)) (h2 : RowAt w false 0 w.heap.size 1 a2 n2 c2 (ints bs)) (hp : n2 ≤ maxLen) (hn : n0 ≤ maxLen) (hm : n1 ≤ maxLen) :
    Calls Try.prog 15 #[.agg #[.slice a0 n0 c0, .slice a1 n1 c1], .slice a2 n2 c2] w fun e w' => e = .returned (.bool true) ∧ Below w.heap.size w w' := by
  have B : Below w.heap.size w (w.alloc (.cells #[.slice a0 n0 c0, .slice a1 n1 c1] 49)) := (Below.refl _ _).alloc (Nat.le_refl _) _
  unfold maxLen at hp
  by_cases hbig : (1048576 : Int) < n2
  · go_enter Try.func15, Try.ntmps15
    go_wp2
    go_ret
    exact ⟨rfl, B⟩
  have hq1 : n2 ≤ 1048576 := by omega
  have hq2 : n2 ≤ 2097152 := by omega
  go_enter Try.func15, Try.ntmps15
  go_wp2_with fail
  refine (szDisk_any _ _ _ _ _ _ _ hn hm).mono ?_
  rintro e w1 ⟨r, rfl, hb1, hr⟩
  have B := below_next B hb1
  have S0 : w.heap.size + 1 ≤ w1.heap.size := by have := hb1.size; simp at this; exact this
  have k0 : w1.cell? ⟨w.heap.size, 0, none⟩ = some (.slice a0 n0 c0) := cell_later hb1 (by simp)
  have k1 : w1.cell? ⟨w.heap.size, 1, none⟩ = some (.slice a1 n1 c1) := cell_later hb1 (by simp)
  clear hb1
  have lk : w.heap.size < w1.heap.size := by omega
  rcases hr with hr | ⟨hr, hsz⟩
  · go_wp2
    go_ret
    exact ⟨rfl, B⟩
  have hr' : ¬ r < 0 := by omega
  have HR : Hid _ := hr'
  clear hr
  have hb0 : (appX xs ys bs).length ≤ 2097152 := appX_len xs ys bs (by rw [h0.nInts]; omega)
  have hb1 : (appY xs ys bs).length ≤ 2097152 := appY_len xs ys bs
  have hn0 : n0 ≤ 2097152 := by omega
  have hn1 : n1 ≤ 2097152 := by omega
  have hz0 : n0 ≤ 1048576 := by omega
  have hz1 : n1 ≤ 1048576 := by omega
  go_wp2_with fail
  refine (toDisk_any _ _ _ _ _ _ xs ys _ (by exact h0.below B) (by exact h1.below B) hsz).mono ?_
  rintro e w2 ⟨b0, b1, rfl, dT, hb⟩
  have k0 := cell_later hb k0
  have k1 := cell_later hb k1
  have lk := Nat.lt_of_lt_of_le lk hb.size
  have B := below_next B hb
  have S1 := hb.size
  clear hb
  go_wp2_with fail
  refine (toInts_ex _ _ _ bs _ (by exact h2.below B) hq1).mono ?_
  rintro e w2b ⟨ba, rfl, rB, hb⟩
  have k0 := cell_later hb k0
  have k1 := cell_later hb k1
  have dT := dT.below hb
  have lk := Nat.lt_of_lt_of_le lk hb.size
  have B := below_next B hb
  have S2 := hb.size
  clear hb
  obtain ⟨mid, _, _, t0, t1⟩ := dT.parts
  go_wp2_with fail
  refine (specApp_any _ _ _ _ _ _ xs ys _ _ _ bs _ t0 t1 rB hz0 hz1 hq1).mono ?_
  rintro e w3 ⟨p0, pn0, pc0, p1, pn1, pc1, rfl, dP, hb⟩
  have pL0 : pn0 ≤ 2097152 := by obtain ⟨_, _, _, t0, _⟩ := dP.parts; rw [← t0.nInts]; exact hb0
  have pL1 : pn1 ≤ 2097152 := by obtain ⟨_, _, _, _, t1⟩ := dP.parts; rw [← t1.nPairs]; exact hb1
  have k0 := cell_later hb k0
  have k1 := cell_later hb k1
  have lk := Nat.lt_of_lt_of_le lk hb.size
  have B := below_next B hb
  have S3 := hb.size
  clear hb
  clear t0 t1 dT
  go_wp2_with fail
  have A4 : Below w3.heap.size w3 (w3.alloc (.cells #[.int .i64 (appCode xs ys bs), .slice p0 pn0 pc0, .slice p1 pn1 pc1] 32)) := (Below.refl _ _).alloc (Nat.le_refl _) _
  have k0 := cell_later A4 k0
  have k1 := cell_later A4 k1
  have dP := dP.below A4
  have lk := Nat.lt_of_lt_of_le lk A4.size
  have B := below_next B A4
  have S5 := A4.size
  have E5 : (w3.alloc (.cells #[.int .i64 (appCode xs ys bs), .slice p0 pn0 pc0, .slice p1 pn1 pc1] 32)).heap.size = w3.heap.size + 1 := by simp
  have pb0 : (w3.alloc (.cells #[.int .i64 (appCode xs ys bs), .slice p0 pn0 pc0, .slice p1 pn1 pc1] 32)).cell? ⟨w3.heap.size, 0, none⟩ = some (.int .i64 (appCode xs ys bs)) := by simp
  have pb1 : (w3.alloc (.cells #[.int .i64 (appCode xs ys bs), .slice p0 pn0 pc0, .slice p1 pn1 pc1] 32)).cell? ⟨w3.heap.size, 1, none⟩ = some (.slice p0 pn0 pc0) := by simp
  have pb2 : (w3.alloc (.cells #[.int .i64 (appCode xs ys bs), .slice p0 pn0 pc0, .slice p1 pn1 pc1] 32)).cell? ⟨w3.heap.size, 2, none⟩ = some (.slice p1 pn1 pc1) := by simp
  have lpb : w3.heap.size < (w3.alloc (.cells #[.int .i64 (appCode xs ys bs), .slice p0 pn0 pc0, .slice p1 pn1 pc1] 32)).heap.size := by simp
  clear A4
  go_wp2_with fail
  refine (toDisk_any _ _ _ _ _ _ xs ys _ (by exact h0.below B) (by exact h1.below B) hsz).mono ?_
  rintro e w4 ⟨x0, x1, rfl, dX, hb⟩
  have k0 := cell_later hb k0
  have k1 := cell_later hb k1
  have pb0 := cell_later hb pb0
  have pb1 := cell_later hb pb1
  have pb2 := cell_later hb pb2
  have dP := dP.below hb
  have lk := Nat.lt_of_lt_of_le lk hb.size
  have lpb := Nat.lt_of_lt_of_le lpb hb.size
  have B := below_next B hb
  have S6 := hb.size
  clear hb
  go_wp2_with fail
  have A7 : Below w4.heap.size w4 (w4.alloc (.cells #[.slice x0 n0 n0, .slice x1 n1 n1] 27)) := (Below.refl _ _).alloc (Nat.le_refl _) _
  have k0 := cell_later A7 k0
  have k1 := cell_later A7 k1
  have pb0 := cell_later A7 pb0
  have pb1 := cell_later A7 pb1
  have pb2 := cell_later A7 pb2
  have dP := dP.below A7
  have dX := dX.below A7
  have lk := Nat.lt_of_lt_of_le lk A7.size
  have lpb := Nat.lt_of_lt_of_le lpb A7.size
  have B := below_next B A7
  have S8 := A7.size
  have E8 : (w4.alloc (.cells #[.slice x0 n0 n0, .slice x1 n1 n1] 27)).heap.size = w4.heap.size + 1 := by simp
  have xb0 : (w4.alloc (.cells #[.slice x0 n0 n0, .slice x1 n1 n1] 27)).cell? ⟨w4.heap.size, 0, none⟩ = some (.slice x0 n0 n0) := by simp
  have xb1 : (w4.alloc (.cells #[.slice x0 n0 n0, .slice x1 n1 n1] 27)).cell? ⟨w4.heap.size, 1, none⟩ = some (.slice x1 n1 n1) := by simp
  have lxb : w4.heap.size < (w4.alloc (.cells #[.slice x0 n0 n0, .slice x1 n1 n1] 27)).heap.size := by simp
  clear A7
  go_wp2_with fail
  refine (toInts_ex _ _ _ bs _ (by exact h2.below B) hq1).mono ?_
  rintro e w4b ⟨xb1a, rfl, rX1, hb⟩
  have k0 := cell_later hb k0
  have k1 := cell_later hb k1
  have pb0 := cell_later hb pb0
  have pb1 := cell_later hb pb1
  have pb2 := cell_later hb pb2
  have xb0 := cell_later hb xb0
  have xb1 := cell_later hb xb1
  have dP := dP.below hb
  have dX := dX.below hb
  have lk := Nat.lt_of_lt_of_le lk hb.size
  have lpb := Nat.lt_of_lt_of_le lpb hb.size
  have lxb := Nat.lt_of_lt_of_le lxb hb.size
  have B := below_next B hb
  have S9 := hb.size
  clear hb
  obtain ⟨midx, _, _, t0, t1⟩ := dX.parts
  have rB := rX1
  go_wp2_with fail
  refine (implApp_any _ _ _ _ _ _ xs ys _ _ _ bs _ t0 t1 rB hz0 hz1 hq1).mono ?_
  rintro e w5 ⟨q0, qn0, qc0, q1, qn1, qc1, rfl, dQ, hb⟩
  have qL0 : qn0 ≤ 2097152 := by obtain ⟨_, _, _, t0, _⟩ := dQ.parts; rw [← t0.nInts]; exact hb0
  have qL1 : qn1 ≤ 2097152 := by obtain ⟨_, _, _, _, t1⟩ := dQ.parts; rw [← t1.nPairs]; exact hb1
  have k0 := cell_later hb k0
  have k1 := cell_later hb k1
  have pb0 := cell_later hb pb0
  have pb1 := cell_later hb pb1
  have pb2 := cell_later hb pb2
  have xb0 := cell_later hb xb0
  have xb1 := cell_later hb xb1
  have dP := dP.below hb
  have dX := dX.below hb
  have rX1 := rX1.below hb
  have lk := Nat.lt_of_lt_of_le lk hb.size
  have lpb := Nat.lt_of_lt_of_le lpb hb.size
  have lxb := Nat.lt_of_lt_of_le lxb hb.size
  have B := below_next B hb
  have S10 := hb.size
  clear hb
  clear t0 t1
  go_wp2_with fail
  have A11 : Below w5.heap.size w5 (w5.alloc (.cells #[.int .i64 (appCode xs ys bs), .slice q0 qn0 qc0, .slice q1 qn1 qc1] 32)) := (Below.refl _ _).alloc (Nat.le_refl _) _
  have k0 := cell_later A11 k0
  have k1 := cell_later A11 k1
  have pb0 := cell_later A11 pb0
  have pb1 := cell_later A11 pb1
  have pb2 := cell_later A11 pb2
  have xb0 := cell_later A11 xb0
  have xb1 := cell_later A11 xb1
  have dP := dP.below A11
  have dX := dX.below A11
  have dQ := dQ.below A11
  have rX1 := rX1.below A11
  have lk := Nat.lt_of_lt_of_le lk A11.size
  have lpb := Nat.lt_of_lt_of_le lpb A11.size
  have lxb := Nat.lt_of_lt_of_le lxb A11.size
  have B := below_next B A11
  have S12 := A11.size
  have E12 : (w5.alloc (.cells #[.int .i64 (appCode xs ys bs), .slice q0 qn0 qc0, .slice q1 qn1 qc1] 32)).heap.size = w5.heap.size + 1 := by simp
  have qb0 : (w5.alloc (.cells #[.int .i64 (appCode xs ys bs), .slice q0 qn0 qc0, .slice q1 qn1 qc1] 32)).cell? ⟨w5.heap.size, 0, none⟩ = some (.int .i64 (appCode xs ys bs)) := by simp
  have qb1 : (w5.alloc (.cells #[.int .i64 (appCode xs ys bs), .slice q0 qn0 qc0, .slice q1 qn1 qc1] 32)).cell? ⟨w5.heap.size, 1, none⟩ = some (.slice q0 qn0 qc0) := by simp
  have qb2 : (w5.alloc (.cells #[.int .i64 (appCode xs ys bs), .slice q0 qn0 qc0, .slice q1 qn1 qc1] 32)).cell? ⟨w5.heap.size, 2, none⟩ = some (.slice q1 qn1 qc1) := by simp
  have lqb : w5.heap.size < (w5.alloc (.cells #[.int .i64 (appCode xs ys bs), .slice q0 qn0 qc0, .slice q1 qn1 qc1] 32)).heap.size := by simp
  clear A11
  go_wp2_with fail
  refine (eqRes_yes _ _ _ _ _ _ _ _ _ _ _ _ _ _ _ _ dQ dP qL0 qL1).mono ?_
  rintro e w6 ⟨rfl, hb⟩
  have k0 := cell_later hb k0
  have k1 := cell_later hb k1
  have pb0 := cell_later hb pb0
  have pb1 := cell_later hb pb1
  have pb2 := cell_later hb pb2
  have xb0 := cell_later hb xb0
  have xb1 := cell_later hb xb1
  have qb0 := cell_later hb qb0
  have qb1 := cell_later hb qb1
  have qb2 := cell_later hb qb2
  have dP := dP.below hb
  have dX := dX.below hb
  have dQ := dQ.below hb
  have rX1 := rX1.below hb
  have lk := Nat.lt_of_lt_of_le lk hb.size
  have lpb := Nat.lt_of_lt_of_le lpb hb.size
  have lxb := Nat.lt_of_lt_of_le lxb hb.size
  have lqb := Nat.lt_of_lt_of_le lqb hb.size
  have B := below_next B hb
  have S13 := hb.size
  clear hb
  have D7 : Below w6.heap.size w6 w6.drew := (Below.refl _ _).drew
  have k0 := cell_later D7 k0
  have k1 := cell_later D7 k1
  have pb0 := cell_later D7 pb0
  have pb1 := cell_later D7 pb1
  have pb2 := cell_later D7 pb2
  have xb0 := cell_later D7 xb0
  have xb1 := cell_later D7 xb1
  have qb0 := cell_later D7 qb0
  have qb1 := cell_later D7 qb1
  have qb2 := cell_later D7 qb2
  have dP := dP.below D7
  have dX := dX.below D7
  have dQ := dQ.below D7
  have rX1 := rX1.below D7
  have lk := Nat.lt_of_lt_of_le lk D7.size
  have lpb := Nat.lt_of_lt_of_le lpb D7.size
  have lxb := Nat.lt_of_lt_of_le lxb D7.size
  have lqb := Nat.lt_of_lt_of_le lqb D7.size
  have B := below_next B D7
  have S14 := D7.size
  clear D7
  obtain ⟨midx, _, _, t0, t1⟩ := dX.parts
  have g0 := h0.below B
  have g1 := h1.below B
  go_wp2_with fail
  go_region_held3 (fun w' => w'.cell? ⟨w.heap.size, 0, none⟩ = some (.slice a0 n0 c0) ∧ w'.cell? ⟨w.heap.size, 1, none⟩ = some (.slice a1 n1 c1) ∧ w'.cell? ⟨w4.heap.size, 0, none⟩ = some (.slice x0 n0 n0) ∧ w'.cell? ⟨w4.heap.size, 1, none⟩ = some (.slice x1 n1 n1)) (exact ⟨k0, k1, xb0, xb1⟩)
    (first | (go_at_call 30; refine (toDisk_any _ _ _ _ _ _ xs ys _ g0 g1 hsz).mono ?_; rintro e w7 ⟨f0, f1, rfl, hd6, hb⟩; have k0 := cell_later hb k0; have k1 := cell_later hb k1; have pb0 := cell_later hb pb0; have pb1 := cell_later hb pb1; have pb2 := cell_later hb pb2; have xb0 := cell_later hb xb0; have xb1 := cell_later hb xb1; have qb0 := cell_later hb qb0; have qb1 := cell_later hb qb1; have qb2 := cell_later hb qb2; have dP := dP.below hb; have dX := dX.below hb; have dQ := dQ.below hb; have rX1 := rX1.below hb; have lk := Nat.lt_of_lt_of_le lk hb.size; have lpb := Nat.lt_of_lt_of_le lpb hb.size; have lxb := Nat.lt_of_lt_of_le lxb hb.size; have lqb := Nat.lt_of_lt_of_le lqb hb.size; have B := below_next B hb; have t0 := t0.below hb; have t1 := t1.below hb; have S70 : w6.heap.size ≤ w7.heap.size := hb.size; clear hb; obtain ⟨m6, _, _, s0, s1⟩ := hd6.parts) | (go_at_call 31; refine (eqDisk_yes _ _ _ _ _ _ _ _ _ _ _ _ xs ys _ t0 t1 s0 s1 hn0 hn1).mono ?_; rintro e w8 ⟨rfl, hb⟩; have k0 := cell_later hb k0; have k1 := cell_later hb k1; have pb0 := cell_later hb pb0; have pb1 := cell_later hb pb1; have pb2 := cell_later hb pb2; have xb0 := cell_later hb xb0; have xb1 := cell_later hb xb1; have qb0 := cell_later hb qb0; have qb1 := cell_later hb qb1; have qb2 := cell_later hb qb2; have dP := dP.below hb; have dX := dX.below hb; have dQ := dQ.below hb; have rX1 := rX1.below hb; have lk := Nat.lt_of_lt_of_le lk hb.size; have lpb := Nat.lt_of_lt_of_le lpb hb.size; have lxb := Nat.lt_of_lt_of_le lxb hb.size; have lqb := Nat.lt_of_lt_of_le lqb hb.size; have B := below_next B hb; have S71 := hb.size; clear hb t0 t1 s0 s1 hd6))
  go_wp2_with fail
  refine (toInts_ex _ _ _ bs _ (by exact h2.below B) hq1).mono ?_
  rintro e w8a ⟨ya, rfl, rY, hb⟩
  have k0 := cell_later hb k0
  have k1 := cell_later hb k1
  have pb0 := cell_later hb pb0
  have pb1 := cell_later hb pb1
  have pb2 := cell_later hb pb2
  have xb0 := cell_later hb xb0
  have xb1 := cell_later hb xb1
  have qb0 := cell_later hb qb0
  have qb1 := cell_later hb qb1
  have qb2 := cell_later hb qb2
  have dP := dP.below hb
  have dX := dX.below hb
  have dQ := dQ.below hb
  have rX1 := rX1.below hb
  have lk := Nat.lt_of_lt_of_le lk hb.size
  have lpb := Nat.lt_of_lt_of_le lpb hb.size
  have lxb := Nat.lt_of_lt_of_le lxb hb.size
  have lqb := Nat.lt_of_lt_of_le lqb hb.size
  have B := below_next B hb
  have S15 := hb.size
  clear hb
  go_wp2_with fail
  refine (eqInts_is _ _ _ _ _ _ bs bs _ rX1 rY hq2 hq2 true (by simp)).mono ?_
  rintro e w8b ⟨rfl, hb⟩
  have k0 := cell_later hb k0
  have k1 := cell_later hb k1
  have pb0 := cell_later hb pb0
  have pb1 := cell_later hb pb1
  have pb2 := cell_later hb pb2
  have xb0 := cell_later hb xb0
  have xb1 := cell_later hb xb1
  have qb0 := cell_later hb qb0
  have qb1 := cell_later hb qb1
  have qb2 := cell_later hb qb2
  have dP := dP.below hb
  have dX := dX.below hb
  have dQ := dQ.below hb
  have rX1 := rX1.below hb
  have lk := Nat.lt_of_lt_of_le lk hb.size
  have lpb := Nat.lt_of_lt_of_le lpb hb.size
  have lxb := Nat.lt_of_lt_of_le lxb hb.size
  have lqb := Nat.lt_of_lt_of_le lqb hb.size
  have B := below_next B hb
  have S16 := hb.size
  clear hb rY
  go_wp2_with fail
  refine (markDisk_any _ _ _ _ _ _ xs ys _ dX (by omega) (by omega) (by omega)).mono ?_
  rintro e w9 ⟨rfl, dX', K⟩
  have k0 := K.cell k0 (by omega)
  have k1 := K.cell k1 (by omega)
  have pb0 := K.cell pb0 (by omega)
  have pb1 := K.cell pb1 (by omega)
  have pb2 := K.cell pb2 (by omega)
  have xb0 := K.cell xb0 (by omega)
  have xb1 := K.cell xb1 (by omega)
  have qb0 := K.cell qb0 (by omega)
  have qb1 := K.cell qb1 (by omega)
  have qb2 := K.cell qb2 (by omega)
  have dP := dP.kept K (by omega)
  have dQ := dQ.kept K (by omega)
  have rX1 := rX1.kept K (by omega)
  have lk := Nat.lt_of_lt_of_le lk K.size
  have lpb := Nat.lt_of_lt_of_le lpb K.size
  have lxb := Nat.lt_of_lt_of_le lxb K.size
  have lqb := Nat.lt_of_lt_of_le lqb K.size
  have B := B.trans (K.below _ (by omega) (by omega))
  have S17 := K.size
  clear dX dX' K
  go_wp2_with fail
  refine (markInts_any _ _ _ bs _ _ rX1 (by omega) (by omega) (by omega)).mono ?_
  rintro e w9b ⟨rfl, -, K⟩
  have k0 := K.cell k0 (by omega)
  have k1 := K.cell k1 (by omega)
  have pb0 := K.cell pb0 (by omega)
  have pb1 := K.cell pb1 (by omega)
  have pb2 := K.cell pb2 (by omega)
  have qb0 := K.cell qb0 (by omega)
  have qb1 := K.cell qb1 (by omega)
  have qb2 := K.cell qb2 (by omega)
  have dP := dP.kept K (by omega)
  have dQ := dQ.kept K (by omega)
  have lk := Nat.lt_of_lt_of_le lk K.size
  have lpb := Nat.lt_of_lt_of_le lpb K.size
  have lxb := Nat.lt_of_lt_of_le lxb K.size
  have lqb := Nat.lt_of_lt_of_le lqb K.size
  have B := B.trans (K.below _ (by omega) (by omega))
  have S18 := K.size
  clear rX1 K
  have hk : ¬ ((1 : Int) + n0 + 2 * n1 + n2 < 0) := by omega
  go_wp2_with fail
  refine (eqRes_yes _ _ _ _ _ _ _ _ _ _ _ _ _ _ _ _ dQ dP qL0 qL1).mono ?_
  rintro e w10 ⟨rfl, hb⟩
  have k0 := cell_later hb k0
  have k1 := cell_later hb k1
  have pb0 := cell_later hb pb0
  have pb1 := cell_later hb pb1
  have pb2 := cell_later hb pb2
  have qb0 := cell_later hb qb0
  have qb1 := cell_later hb qb1
  have qb2 := cell_later hb qb2
  have dP := dP.below hb
  have dQ := dQ.below hb
  have lk := Nat.lt_of_lt_of_le lk hb.size
  have lpb := Nat.lt_of_lt_of_le lpb hb.size
  have lxb := Nat.lt_of_lt_of_le lxb hb.size
  have lqb := Nat.lt_of_lt_of_le lqb hb.size
  have B := below_next B hb
  have S19 := hb.size
  clear hb
  go_wp2_with fail
  refine (markRes_any _ _ _ _ _ _ _ _ _ _ dQ (by omega) (by omega) (by omega)).mono ?_
  rintro e w11 ⟨rfl, dM, K⟩
  have k0 := K.cell k0 (by omega)
  have k1 := K.cell k1 (by omega)
  have pb0 := K.cell pb0 (by omega)
  have pb1 := K.cell pb1 (by omega)
  have pb2 := K.cell pb2 (by omega)
  have qb0 := K.cell qb0 (by omega)
  have qb1 := K.cell qb1 (by omega)
  have qb2 := K.cell qb2 (by omega)
  have dP := dP.kept K (by omega)
  have lk := Nat.lt_of_lt_of_le lk K.size
  have lpb := Nat.lt_of_lt_of_le lpb K.size
  have lxb := Nat.lt_of_lt_of_le lxb K.size
  have lqb := Nat.lt_of_lt_of_le lqb K.size
  have B := B.trans (K.below _ (by omega) (by omega))
  have S20 := K.size
  clear dQ K
  go_wp2_with fail
  refine (heldRes_any _ _ _ _ _ _ _ _ dM (by omega) (by omega)).mono ?_
  rintro e w12 ⟨rfl, hb⟩
  have k0 := cell_later hb k0
  have k1 := cell_later hb k1
  have pb0 := cell_later hb pb0
  have pb1 := cell_later hb pb1
  have pb2 := cell_later hb pb2
  have qb0 := cell_later hb qb0
  have qb1 := cell_later hb qb1
  have qb2 := cell_later hb qb2
  have dP := dP.below hb
  have dM := dM.below hb
  have lk := Nat.lt_of_lt_of_le lk hb.size
  have lpb := Nat.lt_of_lt_of_le lpb hb.size
  have lxb := Nat.lt_of_lt_of_le lxb hb.size
  have lqb := Nat.lt_of_lt_of_le lqb hb.size
  have B := below_next B hb
  have S21 := hb.size
  clear hb
  have hq : ¬ ((1 : Int) + qn0 + 2 * qn1 < 0) := by omega
  have he : (((1 : Int) + qn0 + 2 * qn1) != ((1 : Int) + qn0 + 2 * qn1)) = false := by simp
  go_wp2_with fail
  refine (toDisk_any _ _ _ _ _ _ xs ys _ (by exact h0.below B) (by exact h1.below B) hsz).mono ?_
  rintro e w13 ⟨b0, b1, rfl, dT, hb⟩
  have k0 := cell_later hb k0
  have k1 := cell_later hb k1
  have pb0 := cell_later hb pb0
  have pb1 := cell_later hb pb1
  have pb2 := cell_later hb pb2
  have qb0 := cell_later hb qb0
  have qb1 := cell_later hb qb1
  have qb2 := cell_later hb qb2
  have dP := dP.below hb
  have dM := dM.below hb
  have lk := Nat.lt_of_lt_of_le lk hb.size
  have lpb := Nat.lt_of_lt_of_le lpb hb.size
  have lxb := Nat.lt_of_lt_of_le lxb hb.size
  have lqb := Nat.lt_of_lt_of_le lqb hb.size
  have B := below_next B hb
  have S22 := hb.size
  clear hb
  go_wp2_with fail
  refine (toInts_ex _ _ _ bs _ (by exact h2.below B) hq1).mono ?_
  rintro e w13b ⟨bb, rfl, rB, hb⟩
  have k0 := cell_later hb k0
  have k1 := cell_later hb k1
  have pb0 := cell_later hb pb0
  have pb1 := cell_later hb pb1
  have pb2 := cell_later hb pb2
  have qb0 := cell_later hb qb0
  have qb1 := cell_later hb qb1
  have qb2 := cell_later hb qb2
  have dP := dP.below hb
  have dM := dM.below hb
  have dT := dT.below hb
  have lk := Nat.lt_of_lt_of_le lk hb.size
  have lpb := Nat.lt_of_lt_of_le lpb hb.size
  have lxb := Nat.lt_of_lt_of_le lxb hb.size
  have lqb := Nat.lt_of_lt_of_le lqb hb.size
  have B := below_next B hb
  have S23 := hb.size
  clear hb
  obtain ⟨midt, _, _, t0, t1⟩ := dT.parts
  go_wp2_with fail
  refine (implApp_any _ _ _ _ _ _ xs ys _ _ _ bs _ t0 t1 rB hz0 hz1 hq1).mono ?_
  rintro e w14 ⟨h0, hn0, hc0, h1, hn1, hc1, rfl, dH, hb⟩
  have hL0 : hn0 ≤ 2097152 := by obtain ⟨_, _, _, t0, _⟩ := dH.parts; rw [← t0.nInts]; exact hb0
  have hL1 : hn1 ≤ 2097152 := by obtain ⟨_, _, _, _, t1⟩ := dH.parts; rw [← t1.nPairs]; exact hb1
  have k0 := cell_later hb k0
  have k1 := cell_later hb k1
  have pb0 := cell_later hb pb0
  have pb1 := cell_later hb pb1
  have pb2 := cell_later hb pb2
  have qb0 := cell_later hb qb0
  have qb1 := cell_later hb qb1
  have qb2 := cell_later hb qb2
  have dP := dP.below hb
  have dM := dM.below hb
  have lk := Nat.lt_of_lt_of_le lk hb.size
  have lpb := Nat.lt_of_lt_of_le lpb hb.size
  have lxb := Nat.lt_of_lt_of_le lxb hb.size
  have lqb := Nat.lt_of_lt_of_le lqb hb.size
  have B := below_next B hb
  have S24 := hb.size
  clear hb
  clear t0 t1 dT
  go_wp2_with fail
  have A25 : Below w14.heap.size w14 (w14.alloc (.cells #[.int .i64 (appCode xs ys bs), .slice h0 hn0 hc0, .slice h1 hn1 hc1] 32)) := (Below.refl _ _).alloc (Nat.le_refl _) _
  have k0 := cell_later A25 k0
  have k1 := cell_later A25 k1
  have pb0 := cell_later A25 pb0
  have pb1 := cell_later A25 pb1
  have pb2 := cell_later A25 pb2
  have qb0 := cell_later A25 qb0
  have qb1 := cell_later A25 qb1
  have qb2 := cell_later A25 qb2
  have dP := dP.below A25
  have dM := dM.below A25
  have dH := dH.below A25
  have lk := Nat.lt_of_lt_of_le lk A25.size
  have lpb := Nat.lt_of_lt_of_le lpb A25.size
  have lxb := Nat.lt_of_lt_of_le lxb A25.size
  have lqb := Nat.lt_of_lt_of_le lqb A25.size
  have B := below_next B A25
  have S26 := A25.size
  have E26 : (w14.alloc (.cells #[.int .i64 (appCode xs ys bs), .slice h0 hn0 hc0, .slice h1 hn1 hc1] 32)).heap.size = w14.heap.size + 1 := by simp
  have hb0 : (w14.alloc (.cells #[.int .i64 (appCode xs ys bs), .slice h0 hn0 hc0, .slice h1 hn1 hc1] 32)).cell? ⟨w14.heap.size, 0, none⟩ = some (.int .i64 (appCode xs ys bs)) := by simp
  have hb1 : (w14.alloc (.cells #[.int .i64 (appCode xs ys bs), .slice h0 hn0 hc0, .slice h1 hn1 hc1] 32)).cell? ⟨w14.heap.size, 1, none⟩ = some (.slice h0 hn0 hc0) := by simp
  have hb2 : (w14.alloc (.cells #[.int .i64 (appCode xs ys bs), .slice h0 hn0 hc0, .slice h1 hn1 hc1] 32)).cell? ⟨w14.heap.size, 2, none⟩ = some (.slice h1 hn1 hc1) := by simp
  have lhb : w14.heap.size < (w14.alloc (.cells #[.int .i64 (appCode xs ys bs), .slice h0 hn0 hc0, .slice h1 hn1 hc1] 32)).heap.size := by simp
  clear A25
  go_wp2_with fail
  refine (eqRes_yes _ _ _ _ _ _ _ _ _ _ _ _ _ _ _ _ dH dP hL0 hL1).mono ?_
  rintro e w15 ⟨rfl, hb⟩
  have k0 := cell_later hb k0
  have k1 := cell_later hb k1
  have pb0 := cell_later hb pb0
  have pb1 := cell_later hb pb1
  have pb2 := cell_later hb pb2
  have qb0 := cell_later hb qb0
  have qb1 := cell_later hb qb1
  have qb2 := cell_later hb qb2
  have hb0 := cell_later hb hb0
  have hb1 := cell_later hb hb1
  have hb2 := cell_later hb hb2
  have dP := dP.below hb
  have dM := dM.below hb
  have dH := dH.below hb
  have lk := Nat.lt_of_lt_of_le lk hb.size
  have lpb := Nat.lt_of_lt_of_le lpb hb.size
  have lxb := Nat.lt_of_lt_of_le lxb hb.size
  have lqb := Nat.lt_of_lt_of_le lqb hb.size
  have lhb := Nat.lt_of_lt_of_le lhb hb.size
  have B := below_next B hb
  have S27 := hb.size
  clear hb
  go_wp2_with fail
  refine (heldRes_any _ _ _ _ _ _ _ _ dM (by omega) (by omega)).mono ?_
  rintro e w16 ⟨rfl, hb⟩
  have k0 := cell_later hb k0
  have k1 := cell_later hb k1
  have pb0 := cell_later hb pb0
  have pb1 := cell_later hb pb1
  have pb2 := cell_later hb pb2
  have qb0 := cell_later hb qb0
  have qb1 := cell_later hb qb1
  have qb2 := cell_later hb qb2
  have hb0 := cell_later hb hb0
  have hb1 := cell_later hb hb1
  have hb2 := cell_later hb hb2
  have dP := dP.below hb
  have dM := dM.below hb
  have dH := dH.below hb
  have lk := Nat.lt_of_lt_of_le lk hb.size
  have lpb := Nat.lt_of_lt_of_le lpb hb.size
  have lxb := Nat.lt_of_lt_of_le lxb hb.size
  have lqb := Nat.lt_of_lt_of_le lqb hb.size
  have lhb := Nat.lt_of_lt_of_le lhb hb.size
  have B := below_next B hb
  have S28 := hb.size
  clear hb
  go_wp2
  go_ret
  exact ⟨rfl, B⟩

open Go.ChangeShapes Go.WideShapes Go.ChangeAt Go.Joins

set_option maxRecDepth 100000 in
theorem liftedAppendJournal (os : Os) (started : os.Started) (H : Type) (enc : TypeId × Value → H) :
    ReturnsInHanded {} Try.checked os 15 .any (Rows.fnExactAppendJournalSpec.pre6 enc Try.prog Try.f15 Rows.fnExactAppendJournalRow.domain false) (Rows.fnExactAppendJournalSpec.post enc Try.prog Try.f15 false true false false) := by
  refine returnsInHanded_of_change (C := Try.checked) Try.own started (by kernel_rfl) Try.func15
    (ChangeSpec.witness6 (enc := enc) (C := Try.checked) false ⟨#[], #[.agg #[.slice none 0 0, .slice none 0 0], .slice none 0 0], []⟩ 8 (by kernel_rfl) (by kernel_rfl) (by kernel_rfl) (by kernel_rfl)) ?_
  intro W base args ds gs before hval0 hW hcnd _
  have hval : ∀ (j : Nat) t v, Try.f15.params[j]? = some t → args[j]? = some v → Value.okWide Try.prog W .any base t v := hval0
  have hW' := hW
  obtain ⟨p, q, hA0, hV, rfl, hfz, hnd⟩ := hW
  have hA : DataW.TrodAll enc Try.prog W 0 (fun _ => true) true Try.f15.params.toList args.toList ds p := hA0
  rw [Try.params15] at hA hval
  obtain ⟨v0, vs0, d0, ds0, p0, q0, hargs, rfl, rfl, h0, r0⟩ := trodAll_cons hA
  obtain ⟨v1, vs1, d1, ds1, p1, q1, rfl, rfl, rfl, h1, r1⟩ := trodAll_cons r0
  obtain ⟨rfl, rfl, rfl⟩ := trodAll_nil r1
  obtain rfl : args = #[v0, v1] := by cases args; simp_all
  obtain ⟨rfl, rfl⟩ := trodVars_none hV
  have lt0 : ∀ x ∈ p0, x.block < W.heap.size := by obtain ⟨m, hm⟩ := h0; exact DataW.trod_lt m _ _ _ hm
  have k0 := h0
  obtain ⟨e0, e1, y0, y1, m, rfl, _, _, hy0, hy1⟩ := open_agg2 Try.underlying49 (by kernel_rfl) Try.cellsDisk (hval 0 49 v0 rfl rfl) h0
  obtain ⟨a0, n0, c0, xs, rfl, hn0, s0⟩ := read_ints Try.underlying24 Try.underlying2 Try.cellsInt hy0
  obtain ⟨a1, n1, c1, ys, rfl, hn1, s1⟩ := read_pairs Try.underlying47 Try.underlying125 Try.cellsPut rfl rfl Try.underlying2 Try.underlying2 Try.cellsInt Try.cellsInt hy1
  have lt1 : ∀ x ∈ p1, x.block < W.heap.size := by obtain ⟨m, hm⟩ := h1; exact DataW.trod_lt m _ _ _ hm
  have k1 := h1
  obtain ⟨fuel, hf⟩ := h1
  obtain ⟨av, lv, cv, rfl⟩ := okWide_slice Try.underlying24 (hval 1 24 v1 rfl rfl)
  obtain ⟨a2, n2, c2, zs, hv, hn2, s2⟩ := read_ints Try.underlying24 Try.underlying2 Try.cellsInt (v := .slice av lv cv) (by simpa [Value.cells] using hf)
  obtain ⟨rfl, rfl, rfl⟩ := Value.slice.inj hv
  clear hA0 hval0
  refine (lawAppendJournal a0 a1 n0 c0 n1 c1 xs ys _ _ _ zs W s0 s1 s2 hn2 hn0 hn1).mono fun e W' ⟨he, bel⟩ => ?_
  subst he
  exact ⟨_, rfl, _, _, _, [], _, [], hW', trodAll_mk1 (shut_bool Try.underlying4 _), (trodAll_cons_mk (Below.trod Try.laidOut (by kernel_rfl) (of_decide_eq_true (by kernel_rfl)) k0 bel lt0) (trodAll_cons_mk (Below.trod Try.laidOut (by kernel_rfl) (of_decide_eq_true (by kernel_rfl)) k1 bel lt1) trodAll_mk0)), rfl, bel.frame _, fun h => by cases h⟩

theorem appendJournal_holds : Rows.FnExactAppendJournalSaid :=
  OpenClaim.holds_of_wide 15 Try.f15 rfl rfl rfl rfl rfl rfl rfl ⟨rfl, rfl, rfl, rfl, rfl⟩ rfl rfl rfl rfl rfl (by kernel_rfl) Try.func15 (by kernel_rfl)
    (of_decide_eq_true (by kernel_rfl)) (by unfold Func.isWrapper; first | (rw [if_pos (by decide +kernel)]; kernel_rfl) | (rw [if_neg (by decide +kernel)]; exact ⟨rfl, rfl⟩))
    (fun os started H enc _ => liftedAppendJournal os started H enc)

#print axioms appendJournal_holds
end Go.Proofs.Ytkpbmffklcgecaa
