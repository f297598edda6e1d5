/- What was put last is read, what was flushed stays: the law FnDisks is true at every code, with no condition. -/
import Derived.Test.YtnhkfoedbhfjgaaRows
import Derived.Test.YtnhkfoedbhfjgaaDisksQ
import Derived.Test.YtnhkfoedbhfjgaaRow
namespace Go.Proofs.Ytnhkfoedbhfjgaa
open Go.RowKit

theorem at5c {xs : List Int} {ys : List (Int × Int)} (h : faultOf xs ys = 0) (hl : ys.length < 200) : atCode xs (ys ++ [(5, 77)]) 5 = 0 := by
  rw [atCode, if_pos (put5_fault h hl)]; rfl
theorem field_val (x y : Int) (w : World) : (Instr.field 43 (.agg #[.int .i64 x, .int .i64 y]) 1).run Try.prog w = .ok (.int .i64 y) w := by kernel_rfl
theorem at_nat {xs : List Int} {ys : List (Int × Int)} (h : faultOf xs ys = 0) {k : Nat} (hk : k < 64) : atCode xs ys k = 0 ∧ atVal xs ys k = (putAll xs ys).getD k 0 := by
  have : placeB (k : Int) = true := by simp [placeB]; omega
  rw [atCode, atVal, if_pos h, if_pos h, if_pos this, if_pos this, Int.toNat_natCast]; exact ⟨rfl, rfl⟩
theorem want_next {xs : List Int} {ys : List (Int × Int)} {bs : List Bool} {m k j : Nat} (hx : m < xs.length) (h1 : k < ys.length) (h2 : k < bs.length) (hj : (ys.getD k (0, 0)).1 = (j : Int)) :
    wantAt xs ys bs m (k + 1) = if bs.getD k false = true ∧ j = m then (ys.getD k (0, 0)).2 else wantAt xs ys bs m k := by
  by_cases hm : j = m
  · by_cases hb : bs.getD k false = true
    · rw [if_pos ⟨hb, hm⟩]; exact want_hit hx h1 h2 hb (by rw [hj, hm])
    · rw [if_neg (by simp at hb; simp [hb])]; exact want_no h1 h2 (by simpa using hb)
  · rw [if_neg (by simp [hm])]; exact want_far h1 h2 hj hm

set_option maxRecDepth 20000 in
set_option maxHeartbeats 8000000 in
theorem lawDisks (ac : Option Addr) (nc cc : Nat) (cs : List Nat) (w : World) (h : RowAt w false 0 w.heap.size 1 ac nc cc (bys cs)) (hcs : ∀ i, cs.getD i 0 < 256) (hn : nc ≤ maxLen) :
    Calls Try.prog 3 #[.slice ac nc cc] w fun e w' => e = .returned (.bool true) ∧ Below w.heap.size w w' := by
  unfold maxLen at hn
  have B : Below w.heap.size w w := Below.refl _ _
  by_cases hbig : 1048576 < nc
  · go_enter Try.func3, Try.ntmps3
    go_wp2_with fail
    refine (lwBig_is _ _ _ _ true (decide_eq_true hbig)).mono ?_
    rintro e w' ⟨rfl, rfl⟩
    go_wp2
    go_ret
    exact ⟨rfl, B⟩
  have hc : nc ≤ 1048576 := by omega
  go_enter Try.func3, Try.ntmps3
  go_wp2_with fail
  refine (lwBig_is _ _ _ _ false (decide_eq_false hbig)).mono ?_
  rintro e w' ⟨rfl, rfl⟩
  clear hbig hn
  go_wp2_with fail
  refine (drawCrash_any ac nc cc cs _ h hcs (Nat.le_refl _) hc).mono ?_
  rintro e w1 ⟨a0, n0, c0, a1, n1, c1, xs, ys, a2, n2, c2, ps, rfl, hn0, hn1, hn2, dD, rP, hb⟩
  replace B := below_next B hb
  have S0 := hb.size
  clear hb h hcs hc
  have m0 : n0 ≤ 2097152 := by omega
  have m1 : n1 ≤ 2097152 := by omega
  have m2 : n2 ≤ 2097152 := by omega
  have hxl : xs.length = n0 := by obtain ⟨_, _, _, t0, _⟩ := dD.parts; exact t0.nInts
  have hyl : ys.length = n1 := by obtain ⟨_, _, _, _, t1⟩ := dD.parts; exact t1.nPairs
  have hpl : ps.length = n2 := rP.nBools
  obtain ⟨mid, _, _, t0, t1⟩ := dD.parts
  clear dD
  go_wp2_with fail
  have A1 : Below w1.heap.size w1 (w1.alloc (.cells #[.slice a0 n0 c0, .slice a1 n1 c1] 27)) := (Below.refl _ _).alloc (Nat.le_refl _) _
  replace rP := rP.below A1
  replace t0 := t0.below A1
  replace t1 := t1.below A1
  replace B := below_next B A1
  have S2 := A1.size
  have E2 : (w1.alloc (.cells #[.slice a0 n0 c0, .slice a1 n1 c1] 27)).heap.size = w1.heap.size + 1 := by simp
  have db0 : (w1.alloc (.cells #[.slice a0 n0 c0, .slice a1 n1 c1] 27)).cell? ⟨w1.heap.size, 0, none⟩ = some (.slice a0 n0 c0) := by simp
  have db1 : (w1.alloc (.cells #[.slice a0 n0 c0, .slice a1 n1 c1] 27)).cell? ⟨w1.heap.size, 1, none⟩ = some (.slice a1 n1 c1) := by simp
  have ldb : w1.heap.size < (w1.alloc (.cells #[.slice a0 n0 c0, .slice a1 n1 c1] 27)).heap.size := by simp
  clear A1
  by_cases hf : faultOf xs ys = 0
  rotate_left 1
  · obtain ⟨f, hfe⟩ : ∃ f, faultOf xs ys = f := ⟨_, rfl⟩
    have hf0 : f ≠ 0 := by rw [← hfe]; exact hf
    have hne : (f != 0) = true := by simp [hf0]
    have heq : (f == f) = true := by simp
    have HF : Hid _ := hfe
    have HC : Hid (crashRes xs ys ps = []) := if_neg hf
    have HL : Hid (flushRes xs ys = []) := if_neg hf
    clear hf hfe hf0
    go_wp2_with fail
    refine (implCrash_f _ _ _ _ _ _ xs ys _ t0 t1 m0 m1 _ _ _ ps rP m2 f [] HF.out HC.out).mono ?_
    rintro e w2 ⟨p0, pn0, pc0, p1, pn1, pc1, rfl, dC, hb⟩
    replace db0 := cell_later hb db0
    replace db1 := cell_later hb db1
    replace rP := rP.below hb
    replace t0 := t0.below hb
    replace t1 := t1.below hb
    replace ldb := Nat.lt_of_lt_of_le ldb hb.size
    replace B := below_next B hb
    have S3 := hb.size
    clear hb
    go_wp2_with fail
    have A4 : Below w2.heap.size w2 (w2.alloc (.cells #[.int .i64 f, .slice p0 pn0 pc0, .slice p1 pn1 pc1] 32)) := (Below.refl _ _).alloc (Nat.le_refl _) _
    replace db0 := cell_later A4 db0
    replace db1 := cell_later A4 db1
    replace dC := dC.below A4
    replace rP := rP.below A4
    replace t0 := t0.below A4
    replace t1 := t1.below A4
    replace ldb := Nat.lt_of_lt_of_le ldb A4.size
    replace B := below_next B A4
    have S5 := A4.size
    have E5 : (w2.alloc (.cells #[.int .i64 f, .slice p0 pn0 pc0, .slice p1 pn1 pc1] 32)).heap.size = w2.heap.size + 1 := by simp
    have cb0 : (w2.alloc (.cells #[.int .i64 f, .slice p0 pn0 pc0, .slice p1 pn1 pc1] 32)).cell? ⟨w2.heap.size, 0, none⟩ = some (.int .i64 f) := by simp
    have cb1 : (w2.alloc (.cells #[.int .i64 f, .slice p0 pn0 pc0, .slice p1 pn1 pc1] 32)).cell? ⟨w2.heap.size, 1, none⟩ = some (.slice p0 pn0 pc0) := by simp
    have cb2 : (w2.alloc (.cells #[.int .i64 f, .slice p0 pn0 pc0, .slice p1 pn1 pc1] 32)).cell? ⟨w2.heap.size, 2, none⟩ = some (.slice p1 pn1 pc1) := by simp
    have lcb : w2.heap.size < (w2.alloc (.cells #[.int .i64 f, .slice p0 pn0 pc0, .slice p1 pn1 pc1] 32)).heap.size := by simp
    clear A4
    go_wp2_with fail
    refine (implFlush_f _ _ _ _ _ _ xs ys _ t0 t1 m0 m1 f [] HF.out HL.out).mono ?_
    rintro e w3 ⟨q0, qn0, qc0, q1, qn1, qc1, rfl, dF, hb⟩
    replace db0 := cell_later hb db0
    replace db1 := cell_later hb db1
    replace cb0 := cell_later hb cb0
    replace cb1 := cell_later hb cb1
    replace cb2 := cell_later hb cb2
    replace dC := dC.below hb
    replace rP := rP.below hb
    replace t0 := t0.below hb
    replace t1 := t1.below hb
    replace ldb := Nat.lt_of_lt_of_le ldb hb.size
    replace lcb := Nat.lt_of_lt_of_le lcb hb.size
    replace B := below_next B hb
    have S6 := hb.size
    clear hb
    go_wp2_with fail
    have A7 : Below w3.heap.size w3 (w3.alloc (.cells #[.int .i64 f, .slice q0 qn0 qc0, .slice q1 qn1 qc1] 32)) := (Below.refl _ _).alloc (Nat.le_refl _) _
    replace db0 := cell_later A7 db0
    replace db1 := cell_later A7 db1
    replace cb0 := cell_later A7 cb0
    replace cb1 := cell_later A7 cb1
    replace cb2 := cell_later A7 cb2
    replace dC := dC.below A7
    replace dF := dF.below A7
    replace rP := rP.below A7
    replace t0 := t0.below A7
    replace t1 := t1.below A7
    replace ldb := Nat.lt_of_lt_of_le ldb A7.size
    replace lcb := Nat.lt_of_lt_of_le lcb A7.size
    replace B := below_next B A7
    have S8 := A7.size
    have E8 : (w3.alloc (.cells #[.int .i64 f, .slice q0 qn0 qc0, .slice q1 qn1 qc1] 32)).heap.size = w3.heap.size + 1 := by simp
    have fb0 : (w3.alloc (.cells #[.int .i64 f, .slice q0 qn0 qc0, .slice q1 qn1 qc1] 32)).cell? ⟨w3.heap.size, 0, none⟩ = some (.int .i64 f) := by simp
    have fb1 : (w3.alloc (.cells #[.int .i64 f, .slice q0 qn0 qc0, .slice q1 qn1 qc1] 32)).cell? ⟨w3.heap.size, 1, none⟩ = some (.slice q0 qn0 qc0) := by simp
    have fb2 : (w3.alloc (.cells #[.int .i64 f, .slice q0 qn0 qc0, .slice q1 qn1 qc1] 32)).cell? ⟨w3.heap.size, 2, none⟩ = some (.slice q1 qn1 qc1) := by simp
    have lfb : w3.heap.size < (w3.alloc (.cells #[.int .i64 f, .slice q0 qn0 qc0, .slice q1 qn1 qc1] 32)).heap.size := by simp
    clear A7
    go_wp2_with fail
    have D9 : Below (w3.alloc (.cells #[.int .i64 f, .slice q0 qn0 qc0, .slice q1 qn1 qc1] 32)).heap.size (w3.alloc (.cells #[.int .i64 f, .slice q0 qn0 qc0, .slice q1 qn1 qc1] 32)) (w3.alloc (.cells #[.int .i64 f, .slice q0 qn0 qc0, .slice q1 qn1 qc1] 32)).drew := (Below.refl _ _).drew
    replace db0 := cell_later D9 db0
    replace db1 := cell_later D9 db1
    replace cb0 := cell_later D9 cb0
    replace cb1 := cell_later D9 cb1
    replace cb2 := cell_later D9 cb2
    replace fb0 := cell_later D9 fb0
    replace fb1 := cell_later D9 fb1
    replace fb2 := cell_later D9 fb2
    replace dC := dC.below D9
    replace dF := dF.below D9
    replace rP := rP.below D9
    replace t0 := t0.below D9
    replace t1 := t1.below D9
    replace ldb := Nat.lt_of_lt_of_le ldb D9.size
    replace lcb := Nat.lt_of_lt_of_le lcb D9.size
    replace lfb := Nat.lt_of_lt_of_le lfb D9.size
    replace B := below_next B D9
    have S9 := D9.size
    clear D9
    go_region_held3 (fun w' => w'.cell? ⟨w1.heap.size, 0, none⟩ = some (.slice a0 n0 c0) ∧ w'.cell? ⟨w1.heap.size, 1, none⟩ = some (.slice a1 n1 c1) ∧ w'.cell? ⟨w2.heap.size, 0, none⟩ = some (.int .i64 f) ∧ w'.cell? ⟨w3.heap.size, 0, none⟩ = some (.int .i64 f)) (exact ⟨db0, db1, cb0, fb0⟩) (first | (go_at_call 15; refine (specFault_f _ _ _ _ _ _ xs ys _ t0 t1 m0 m1 f HF.out).mono ?_; rintro e w4 ⟨rfl, hb⟩; replace db0 := cell_later hb db0; replace db1 := cell_later hb db1; replace cb0 := cell_later hb cb0; replace cb1 := cell_later hb cb1; replace cb2 := cell_later hb cb2; replace fb0 := cell_later hb fb0; replace fb1 := cell_later hb fb1; replace fb2 := cell_later hb fb2; replace dC := dC.below hb; replace dF := dF.below hb; replace rP := rP.below hb; replace t0 := t0.below hb; replace t1 := t1.below hb; replace ldb := Nat.lt_of_lt_of_le ldb hb.size; replace lcb := Nat.lt_of_lt_of_le lcb hb.size; replace lfb := Nat.lt_of_lt_of_le lfb hb.size; replace B := below_next B hb; clear hb) | (go_at_call 16; refine (implFault_is _ _ _ _ _ _ xs ys _ t0 t1 m0 m1 f HF.out).mono ?_; rintro e w5 ⟨rfl, hb⟩; replace db0 := cell_later hb db0; replace db1 := cell_later hb db1; replace cb0 := cell_later hb cb0; replace cb1 := cell_later hb cb1; replace cb2 := cell_later hb cb2; replace fb0 := cell_later hb fb0; replace fb1 := cell_later hb fb1; replace fb2 := cell_later hb fb2; replace dC := dC.below hb; replace dF := dF.below hb; replace rP := rP.below hb; replace t0 := t0.below hb; replace t1 := t1.below hb; replace ldb := Nat.lt_of_lt_of_le ldb hb.size; replace lcb := Nat.lt_of_lt_of_le lcb hb.size; replace lfb := Nat.lt_of_lt_of_le lfb hb.size; replace B := below_next B hb; clear hb))
    go_wp2
    go_ret
    exact ⟨rfl, B⟩
  have HF : Hid _ := hf
  have HC : Hid (crashRes xs ys ps = putAll xs (picked ys ps)) := if_pos hf
  have HL : Hid (flushRes xs ys = putAll xs ys) := if_pos hf
  obtain ⟨hx64, hy200, hpl'⟩ := fault_zero hf
  have HP : Hid _ := hpl'
  clear hpl' hf
  obtain rfl : n0 = 64 := by omega
  go_wp2_with fail
  refine (implCrash_f _ _ _ _ _ _ xs ys _ t0 t1 m0 m1 _ _ _ ps rP m2 0 (putAll xs (picked ys ps)) HF.out HC.out).mono ?_
  rintro e w2 ⟨p0, pn0, pc0, p1, pn1, pc1, rfl, dC, hb⟩
  replace db0 := cell_later hb db0
  replace db1 := cell_later hb db1
  replace rP := rP.below hb
  replace t0 := t0.below hb
  replace t1 := t1.below hb
  replace ldb := Nat.lt_of_lt_of_le ldb hb.size
  replace B := below_next B hb
  have S3 := hb.size
  clear hb
  go_wp2_with fail
  have A4 : Below w2.heap.size w2 (w2.alloc (.cells #[.int .i64 0, .slice p0 pn0 pc0, .slice p1 pn1 pc1] 32)) := (Below.refl _ _).alloc (Nat.le_refl _) _
  replace db0 := cell_later A4 db0
  replace db1 := cell_later A4 db1
  replace dC := dC.below A4
  replace rP := rP.below A4
  replace t0 := t0.below A4
  replace t1 := t1.below A4
  replace ldb := Nat.lt_of_lt_of_le ldb A4.size
  replace B := below_next B A4
  have S5 := A4.size
  have E5 : (w2.alloc (.cells #[.int .i64 0, .slice p0 pn0 pc0, .slice p1 pn1 pc1] 32)).heap.size = w2.heap.size + 1 := by simp
  have cb0 : (w2.alloc (.cells #[.int .i64 0, .slice p0 pn0 pc0, .slice p1 pn1 pc1] 32)).cell? ⟨w2.heap.size, 0, none⟩ = some (.int .i64 0) := by simp
  have cb1 : (w2.alloc (.cells #[.int .i64 0, .slice p0 pn0 pc0, .slice p1 pn1 pc1] 32)).cell? ⟨w2.heap.size, 1, none⟩ = some (.slice p0 pn0 pc0) := by simp
  have cb2 : (w2.alloc (.cells #[.int .i64 0, .slice p0 pn0 pc0, .slice p1 pn1 pc1] 32)).cell? ⟨w2.heap.size, 2, none⟩ = some (.slice p1 pn1 pc1) := by simp
  have lcb : w2.heap.size < (w2.alloc (.cells #[.int .i64 0, .slice p0 pn0 pc0, .slice p1 pn1 pc1] 32)).heap.size := by simp
  clear A4
  go_wp2_with fail
  refine (implFlush_f _ _ _ _ _ _ xs ys _ t0 t1 m0 m1 0 (putAll xs ys) HF.out HL.out).mono ?_
  rintro e w3 ⟨q0, qn0, qc0, q1, qn1, qc1, rfl, dF, hb⟩
  replace db0 := cell_later hb db0
  replace db1 := cell_later hb db1
  replace cb0 := cell_later hb cb0
  replace cb1 := cell_later hb cb1
  replace cb2 := cell_later hb cb2
  replace dC := dC.below hb
  replace rP := rP.below hb
  replace t0 := t0.below hb
  replace t1 := t1.below hb
  replace ldb := Nat.lt_of_lt_of_le ldb hb.size
  replace lcb := Nat.lt_of_lt_of_le lcb hb.size
  replace B := below_next B hb
  have S6 := hb.size
  clear hb
  go_wp2_with fail
  have A7 : Below w3.heap.size w3 (w3.alloc (.cells #[.int .i64 0, .slice q0 qn0 qc0, .slice q1 qn1 qc1] 32)) := (Below.refl _ _).alloc (Nat.le_refl _) _
  replace db0 := cell_later A7 db0
  replace db1 := cell_later A7 db1
  replace cb0 := cell_later A7 cb0
  replace cb1 := cell_later A7 cb1
  replace cb2 := cell_later A7 cb2
  replace dC := dC.below A7
  replace dF := dF.below A7
  replace rP := rP.below A7
  replace t0 := t0.below A7
  replace t1 := t1.below A7
  replace ldb := Nat.lt_of_lt_of_le ldb A7.size
  replace lcb := Nat.lt_of_lt_of_le lcb A7.size
  replace B := below_next B A7
  have S8 := A7.size
  have E8 : (w3.alloc (.cells #[.int .i64 0, .slice q0 qn0 qc0, .slice q1 qn1 qc1] 32)).heap.size = w3.heap.size + 1 := by simp
  have fb0 : (w3.alloc (.cells #[.int .i64 0, .slice q0 qn0 qc0, .slice q1 qn1 qc1] 32)).cell? ⟨w3.heap.size, 0, none⟩ = some (.int .i64 0) := by simp
  have fb1 : (w3.alloc (.cells #[.int .i64 0, .slice q0 qn0 qc0, .slice q1 qn1 qc1] 32)).cell? ⟨w3.heap.size, 1, none⟩ = some (.slice q0 qn0 qc0) := by simp
  have fb2 : (w3.alloc (.cells #[.int .i64 0, .slice q0 qn0 qc0, .slice q1 qn1 qc1] 32)).cell? ⟨w3.heap.size, 2, none⟩ = some (.slice q1 qn1 qc1) := by simp
  have lfb : w3.heap.size < (w3.alloc (.cells #[.int .i64 0, .slice q0 qn0 qc0, .slice q1 qn1 qc1] 32)).heap.size := by simp
  clear A7
  obtain ⟨midc, _, _, x0, x1⟩ := dC.parts
  obtain ⟨midf, _, _, y0, y1⟩ := dF.parts
  have pL0 : pn0 = 64 := by rw [← x0.nInts, putAll_len, hx64]
  have pL1 : pn1 = 0 := by rw [← x1.nPairs]; rfl
  have qL0 : qn0 = 64 := by rw [← y0.nInts, putAll_len, hx64]
  have qL1 : qn1 = 0 := by rw [← y1.nPairs]; rfl
  subst pL0 pL1 qL0 qL1
  clear dC dF
  go_wp2_with fail
  refine (implAll_f _ _ _ _ _ _ xs ys _ t0 t1 m0 m1 0 (putAll xs ys) HF.out HL.out).mono ?_
  rintro e w4 ⟨g0, gn0, gc0, rfl, z0, hb⟩
  replace db0 := cell_later hb db0
  replace db1 := cell_later hb db1
  replace cb0 := cell_later hb cb0
  replace cb1 := cell_later hb cb1
  replace cb2 := cell_later hb cb2
  replace fb0 := cell_later hb fb0
  replace fb1 := cell_later hb fb1
  replace fb2 := cell_later hb fb2
  replace rP := rP.below hb
  replace t0 := t0.below hb
  replace t1 := t1.below hb
  replace x0 := x0.below hb
  replace x1 := x1.below hb
  replace y0 := y0.below hb
  replace ldb := Nat.lt_of_lt_of_le ldb hb.size
  replace lcb := Nat.lt_of_lt_of_le lcb hb.size
  replace lfb := Nat.lt_of_lt_of_le lfb hb.size
  replace B := below_next B hb
  have S9 := hb.size
  clear hb
  have gL0 : gn0 = 64 := by rw [← z0.nInts, putAll_len, hx64]
  subst gL0
  go_wp2_with fail
  have A10 : Below w4.heap.size w4 (w4.alloc (.cells #[.int .i64 0, .slice g0 64 gc0] 37)) := (Below.refl _ _).alloc (Nat.le_refl _) _
  replace db0 := cell_later A10 db0
  replace db1 := cell_later A10 db1
  replace cb0 := cell_later A10 cb0
  replace cb1 := cell_later A10 cb1
  replace cb2 := cell_later A10 cb2
  replace fb0 := cell_later A10 fb0
  replace fb1 := cell_later A10 fb1
  replace fb2 := cell_later A10 fb2
  replace rP := rP.below A10
  replace t0 := t0.below A10
  replace t1 := t1.below A10
  replace x0 := x0.below A10
  replace x1 := x1.below A10
  replace y0 := y0.below A10
  replace z0 := z0.below A10
  replace ldb := Nat.lt_of_lt_of_le ldb A10.size
  replace lcb := Nat.lt_of_lt_of_le lcb A10.size
  replace lfb := Nat.lt_of_lt_of_le lfb A10.size
  replace B := below_next B A10
  have S11 := A10.size
  have E11 : (w4.alloc (.cells #[.int .i64 0, .slice g0 64 gc0] 37)).heap.size = w4.heap.size + 1 := by simp
  have ab0 : (w4.alloc (.cells #[.int .i64 0, .slice g0 64 gc0] 37)).cell? ⟨w4.heap.size, 0, none⟩ = some (.int .i64 0) := by simp
  have ab1 : (w4.alloc (.cells #[.int .i64 0, .slice g0 64 gc0] 37)).cell? ⟨w4.heap.size, 1, none⟩ = some (.slice g0 64 gc0) := by simp
  have lab : w4.heap.size < (w4.alloc (.cells #[.int .i64 0, .slice g0 64 gc0] 37)).heap.size := by simp
  clear A10
  go_wp2_with fail
  refine (lwNums_yes _ _ _ _ _ (putAll xs ys) _ y0 z0 (by omega)).mono ?_
  rintro e w5 ⟨rfl, hb⟩
  replace db0 := cell_later hb db0
  replace db1 := cell_later hb db1
  replace cb0 := cell_later hb cb0
  replace cb1 := cell_later hb cb1
  replace cb2 := cell_later hb cb2
  replace fb0 := cell_later hb fb0
  replace fb1 := cell_later hb fb1
  replace fb2 := cell_later hb fb2
  replace ab0 := cell_later hb ab0
  replace ab1 := cell_later hb ab1
  replace rP := rP.below hb
  replace t0 := t0.below hb
  replace t1 := t1.below hb
  replace x0 := x0.below hb
  replace x1 := x1.below hb
  replace y0 := y0.below hb
  replace z0 := z0.below hb
  replace ldb := Nat.lt_of_lt_of_le ldb hb.size
  replace lcb := Nat.lt_of_lt_of_le lcb hb.size
  replace lfb := Nat.lt_of_lt_of_le lfb hb.size
  replace lab := Nat.lt_of_lt_of_le lab hb.size
  replace B := below_next B hb
  have S12 := hb.size
  clear hb
  go_wp2_with fail
  refine (implFault_is _ _ _ _ _ _ (putAll xs (picked ys ps)) [] _ x0 x1 (by omega) (by omega) 0 (crash_fault HF.out ps)).mono ?_
  rintro e w6 ⟨rfl, hb⟩
  replace db0 := cell_later hb db0
  replace db1 := cell_later hb db1
  replace cb0 := cell_later hb cb0
  replace cb1 := cell_later hb cb1
  replace cb2 := cell_later hb cb2
  replace fb0 := cell_later hb fb0
  replace fb1 := cell_later hb fb1
  replace fb2 := cell_later hb fb2
  replace ab0 := cell_later hb ab0
  replace ab1 := cell_later hb ab1
  replace rP := rP.below hb
  replace t0 := t0.below hb
  replace t1 := t1.below hb
  replace x0 := x0.below hb
  replace x1 := x1.below hb
  replace y0 := y0.below hb
  replace z0 := z0.below hb
  replace ldb := Nat.lt_of_lt_of_le ldb hb.size
  replace lcb := Nat.lt_of_lt_of_le lcb hb.size
  replace lfb := Nat.lt_of_lt_of_le lfb hb.size
  replace lab := Nat.lt_of_lt_of_le lab hb.size
  replace B := below_next B hb
  have S13 := hb.size
  clear hb
  go_wp2_with fail
  go_loopw [8] (fun i wr => ∃ k : Nat, k ≤ 64 ∧ i = .int .i64 k ∧ Below w6.heap.size w6 wr) (fun i _ => 64 - (intOf i).toNat)
  case atStart => exact ⟨0, by omega, rfl, Below.refl _ _⟩
  case round =>
    obtain ⟨k, hk, rfl, hb⟩ := hrel
    obtain ⟨wo, rfl⟩ : ∃ wo : World, wo = wr := ⟨_, rfl⟩
    have HB : Hid _ := hb
    replace db0 := cell_later hb db0
    replace db1 := cell_later hb db1
    replace cb0 := cell_later hb cb0
    replace cb1 := cell_later hb cb1
    replace cb2 := cell_later hb cb2
    replace fb0 := cell_later hb fb0
    replace fb1 := cell_later hb fb1
    replace fb2 := cell_later hb fb2
    replace ab0 := cell_later hb ab0
    replace ab1 := cell_later hb ab1
    replace rP := rP.below hb
    replace t0 := t0.below hb
    replace t1 := t1.below hb
    replace x0 := x0.below hb
    replace x1 := x1.below hb
    replace y0 := y0.below hb
    replace z0 := z0.below hb
    replace ldb := Nat.lt_of_lt_of_le ldb hb.size
    replace lcb := Nat.lt_of_lt_of_le lcb hb.size
    replace lfb := Nat.lt_of_lt_of_le lfb hb.size
    replace lab := Nat.lt_of_lt_of_le lab hb.size
    replace B := below_next B hb
    have S14 := hb.size
    clear hb
    by_cases hlt : k < 64
    rotate_left 1
    · obtain rfl : k = 64 := by omega
      clear hlt hk HB x0 x1 y0 z0
      have hfd : ∀ w : World, (Instr.field 43 (.agg #[.int .i64 0, .int .i64 77]) 1).run Try.prog w = .ok (.int .i64 77) w := field_val _ _
      by_cases h200 : ys.length = 200
      · have hpc := (put5_code HF.out).trans (if_pos h200)
        obtain rfl : n1 = 200 := by omega
        have HPC : Hid _ := hpc
        clear hpc h200
        go_wp2_with fail
        refine (implPut_f _ _ _ _ _ _ xs ys _ t0 t1 (by omega) (by omega) 5 77 2 [] [] HPC.out (put_no HPC.out (by decide)).1 (put_no HPC.out (by decide)).2).mono ?_
        rintro e w7 ⟨u0, un0, uc0, u1, un1, uc1, rfl, dU, hb⟩
        replace db0 := cell_later hb db0
        replace db1 := cell_later hb db1
        replace cb0 := cell_later hb cb0
        replace cb1 := cell_later hb cb1
        replace cb2 := cell_later hb cb2
        replace fb0 := cell_later hb fb0
        replace fb1 := cell_later hb fb1
        replace fb2 := cell_later hb fb2
        replace ab0 := cell_later hb ab0
        replace ab1 := cell_later hb ab1
        replace rP := rP.below hb
        replace t0 := t0.below hb
        replace t1 := t1.below hb
        replace ldb := Nat.lt_of_lt_of_le ldb hb.size
        replace lcb := Nat.lt_of_lt_of_le lcb hb.size
        replace lfb := Nat.lt_of_lt_of_le lfb hb.size
        replace lab := Nat.lt_of_lt_of_le lab hb.size
        replace B := below_next B hb
        have S15 := hb.size
        clear hb dU
        go_wp2_with fail
        have A16 : Below w7.heap.size w7 (w7.alloc (.cells #[.int .i64 2, .slice u0 un0 uc0, .slice u1 un1 uc1] 32)) := (Below.refl _ _).alloc (Nat.le_refl _) _
        replace db0 := cell_later A16 db0
        replace db1 := cell_later A16 db1
        replace cb0 := cell_later A16 cb0
        replace cb1 := cell_later A16 cb1
        replace cb2 := cell_later A16 cb2
        replace fb0 := cell_later A16 fb0
        replace fb1 := cell_later A16 fb1
        replace fb2 := cell_later A16 fb2
        replace ab0 := cell_later A16 ab0
        replace ab1 := cell_later A16 ab1
        replace rP := rP.below A16
        replace t0 := t0.below A16
        replace t1 := t1.below A16
        replace ldb := Nat.lt_of_lt_of_le ldb A16.size
        replace lcb := Nat.lt_of_lt_of_le lcb A16.size
        replace lfb := Nat.lt_of_lt_of_le lfb A16.size
        replace lab := Nat.lt_of_lt_of_le lab A16.size
        replace B := below_next B A16
        have S17 := A16.size
        have E17 : (w7.alloc (.cells #[.int .i64 2, .slice u0 un0 uc0, .slice u1 un1 uc1] 32)).heap.size = w7.heap.size + 1 := by simp
        have ub0 : (w7.alloc (.cells #[.int .i64 2, .slice u0 un0 uc0, .slice u1 un1 uc1] 32)).cell? ⟨w7.heap.size, 0, none⟩ = some (.int .i64 2) := by simp
        have ub1 : (w7.alloc (.cells #[.int .i64 2, .slice u0 un0 uc0, .slice u1 un1 uc1] 32)).cell? ⟨w7.heap.size, 1, none⟩ = some (.slice u0 un0 uc0) := by simp
        have ub2 : (w7.alloc (.cells #[.int .i64 2, .slice u0 un0 uc0, .slice u1 un1 uc1] 32)).cell? ⟨w7.heap.size, 2, none⟩ = some (.slice u1 un1 uc1) := by simp
        have lub : w7.heap.size < (w7.alloc (.cells #[.int .i64 2, .slice u0 un0 uc0, .slice u1 un1 uc1] 32)).heap.size := by simp
        clear A16
        go_wp2_with fail
        refine (implNew_f _ _ _ xs _ t0 m0 0 xs (new_same HF.out).1 (new_same HF.out).2).mono ?_
        rintro e w8 ⟨v0, vn0, vc0, v1, vn1, vc1, rfl, dN, hb⟩
        replace db0 := cell_later hb db0
        replace db1 := cell_later hb db1
        replace cb0 := cell_later hb cb0
        replace cb1 := cell_later hb cb1
        replace cb2 := cell_later hb cb2
        replace fb0 := cell_later hb fb0
        replace fb1 := cell_later hb fb1
        replace fb2 := cell_later hb fb2
        replace ab0 := cell_later hb ab0
        replace ab1 := cell_later hb ab1
        replace ub0 := cell_later hb ub0
        replace ub1 := cell_later hb ub1
        replace ub2 := cell_later hb ub2
        replace rP := rP.below hb
        replace t0 := t0.below hb
        replace t1 := t1.below hb
        replace ldb := Nat.lt_of_lt_of_le ldb hb.size
        replace lcb := Nat.lt_of_lt_of_le lcb hb.size
        replace lfb := Nat.lt_of_lt_of_le lfb hb.size
        replace lab := Nat.lt_of_lt_of_le lab hb.size
        replace lub := Nat.lt_of_lt_of_le lub hb.size
        replace B := below_next B hb
        have S18 := hb.size
        clear hb
        go_wp2_with fail
        have A19 : Below w8.heap.size w8 (w8.alloc (.cells #[.int .i64 0, .slice v0 vn0 vc0, .slice v1 vn1 vc1] 32)) := (Below.refl _ _).alloc (Nat.le_refl _) _
        replace db0 := cell_later A19 db0
        replace db1 := cell_later A19 db1
        replace cb0 := cell_later A19 cb0
        replace cb1 := cell_later A19 cb1
        replace cb2 := cell_later A19 cb2
        replace fb0 := cell_later A19 fb0
        replace fb1 := cell_later A19 fb1
        replace fb2 := cell_later A19 fb2
        replace ab0 := cell_later A19 ab0
        replace ab1 := cell_later A19 ab1
        replace ub0 := cell_later A19 ub0
        replace ub1 := cell_later A19 ub1
        replace ub2 := cell_later A19 ub2
        replace rP := rP.below A19
        replace t0 := t0.below A19
        replace t1 := t1.below A19
        replace ldb := Nat.lt_of_lt_of_le ldb A19.size
        replace lcb := Nat.lt_of_lt_of_le lcb A19.size
        replace lfb := Nat.lt_of_lt_of_le lfb A19.size
        replace lab := Nat.lt_of_lt_of_le lab A19.size
        replace lub := Nat.lt_of_lt_of_le lub A19.size
        replace B := below_next B A19
        have S20 := A19.size
        have E20 : (w8.alloc (.cells #[.int .i64 0, .slice v0 vn0 vc0, .slice v1 vn1 vc1] 32)).heap.size = w8.heap.size + 1 := by simp
        have nb0 : (w8.alloc (.cells #[.int .i64 0, .slice v0 vn0 vc0, .slice v1 vn1 vc1] 32)).cell? ⟨w8.heap.size, 0, none⟩ = some (.int .i64 0) := by simp
        have nb1 : (w8.alloc (.cells #[.int .i64 0, .slice v0 vn0 vc0, .slice v1 vn1 vc1] 32)).cell? ⟨w8.heap.size, 1, none⟩ = some (.slice v0 vn0 vc0) := by simp
        have nb2 : (w8.alloc (.cells #[.int .i64 0, .slice v0 vn0 vc0, .slice v1 vn1 vc1] 32)).cell? ⟨w8.heap.size, 2, none⟩ = some (.slice v1 vn1 vc1) := by simp
        have lnb : w8.heap.size < (w8.alloc (.cells #[.int .i64 0, .slice v0 vn0 vc0, .slice v1 vn1 vc1] 32)).heap.size := by simp
        clear A19
        obtain ⟨midn, _, _, r0, _⟩ := dN.parts
        have vL0 : vn0 = 64 := by rw [← r0.nInts, hx64]
        subst vL0
        clear dN
        replace r0 := r0.below ((Below.refl _ _).alloc (Nat.le_refl _) (.cells #[.int .i64 0, .slice v0 64 vc0, .slice v1 vn1 vc1] 32))
        go_wp2_with fail
        refine (lwNums_yes _ _ _ _ _ xs _ r0 t0 (by omega)).mono ?_
        rintro e w10 ⟨rfl, hb⟩
        replace db0 := cell_later hb db0
        replace db1 := cell_later hb db1
        replace cb0 := cell_later hb cb0
        replace cb1 := cell_later hb cb1
        replace cb2 := cell_later hb cb2
        replace fb0 := cell_later hb fb0
        replace fb1 := cell_later hb fb1
        replace fb2 := cell_later hb fb2
        replace ab0 := cell_later hb ab0
        replace ab1 := cell_later hb ab1
        replace ub0 := cell_later hb ub0
        replace ub1 := cell_later hb ub1
        replace ub2 := cell_later hb ub2
        replace nb0 := cell_later hb nb0
        replace nb1 := cell_later hb nb1
        replace nb2 := cell_later hb nb2
        replace rP := rP.below hb
        replace t0 := t0.below hb
        replace t1 := t1.below hb
        replace r0 := r0.below hb
        replace ldb := Nat.lt_of_lt_of_le ldb hb.size
        replace lcb := Nat.lt_of_lt_of_le lcb hb.size
        replace lfb := Nat.lt_of_lt_of_le lfb hb.size
        replace lab := Nat.lt_of_lt_of_le lab hb.size
        replace lub := Nat.lt_of_lt_of_le lub hb.size
        replace lnb := Nat.lt_of_lt_of_le lnb hb.size
        replace B := below_next B hb
        have S21 := hb.size
        clear hb
        go_wp2
        go_ret
        exact ⟨rfl, B⟩
      · have hpc := (put5_code HF.out).trans (if_neg h200)
        have hl : ys.length < 200 := by omega
        have hne : ((n1 : Int) == 200) = false := by simp; omega
        have HPC : Hid _ := hpc
        clear hpc h200
        go_wp2_with fail
        refine (implPut_f _ _ _ _ _ _ xs ys _ t0 t1 (by omega) (by omega) 5 77 0 xs (ys ++ [(5, 77)]) HPC.out (put_yes HPC.out).1 (put_yes HPC.out).2).mono ?_
        rintro e w7 ⟨u0, un0, uc0, u1, un1, uc1, rfl, dU, hb⟩
        replace db0 := cell_later hb db0
        replace db1 := cell_later hb db1
        replace cb0 := cell_later hb cb0
        replace cb1 := cell_later hb cb1
        replace cb2 := cell_later hb cb2
        replace fb0 := cell_later hb fb0
        replace fb1 := cell_later hb fb1
        replace fb2 := cell_later hb fb2
        replace ab0 := cell_later hb ab0
        replace ab1 := cell_later hb ab1
        replace rP := rP.below hb
        replace t0 := t0.below hb
        replace t1 := t1.below hb
        replace ldb := Nat.lt_of_lt_of_le ldb hb.size
        replace lcb := Nat.lt_of_lt_of_le lcb hb.size
        replace lfb := Nat.lt_of_lt_of_le lfb hb.size
        replace lab := Nat.lt_of_lt_of_le lab hb.size
        replace B := below_next B hb
        have S15 := hb.size
        clear hb
        obtain ⟨midu, _, _, r2, r3⟩ := dU.parts
        have uL0 : un0 = 64 := by rw [← r2.nInts, hx64]
        have uL1 : un1 = n1 + 1 := by rw [← r3.nPairs, List.length_append, hyl]; rfl
        subst uL0 uL1
        clear dU
        go_wp2_with fail
        have A16 : Below w7.heap.size w7 (w7.alloc (.cells #[.int .i64 0, .slice u0 64 uc0, .slice u1 (n1 + 1) uc1] 32)) := (Below.refl _ _).alloc (Nat.le_refl _) _
        replace db0 := cell_later A16 db0
        replace db1 := cell_later A16 db1
        replace cb0 := cell_later A16 cb0
        replace cb1 := cell_later A16 cb1
        replace cb2 := cell_later A16 cb2
        replace fb0 := cell_later A16 fb0
        replace fb1 := cell_later A16 fb1
        replace fb2 := cell_later A16 fb2
        replace ab0 := cell_later A16 ab0
        replace ab1 := cell_later A16 ab1
        replace rP := rP.below A16
        replace t0 := t0.below A16
        replace t1 := t1.below A16
        replace r2 := r2.below A16
        replace r3 := r3.below A16
        replace ldb := Nat.lt_of_lt_of_le ldb A16.size
        replace lcb := Nat.lt_of_lt_of_le lcb A16.size
        replace lfb := Nat.lt_of_lt_of_le lfb A16.size
        replace lab := Nat.lt_of_lt_of_le lab A16.size
        replace B := below_next B A16
        have S17 := A16.size
        have E17 : (w7.alloc (.cells #[.int .i64 0, .slice u0 64 uc0, .slice u1 (n1 + 1) uc1] 32)).heap.size = w7.heap.size + 1 := by simp
        have ub0 : (w7.alloc (.cells #[.int .i64 0, .slice u0 64 uc0, .slice u1 (n1 + 1) uc1] 32)).cell? ⟨w7.heap.size, 0, none⟩ = some (.int .i64 0) := by simp
        have ub1 : (w7.alloc (.cells #[.int .i64 0, .slice u0 64 uc0, .slice u1 (n1 + 1) uc1] 32)).cell? ⟨w7.heap.size, 1, none⟩ = some (.slice u0 64 uc0) := by simp
        have ub2 : (w7.alloc (.cells #[.int .i64 0, .slice u0 64 uc0, .slice u1 (n1 + 1) uc1] 32)).cell? ⟨w7.heap.size, 2, none⟩ = some (.slice u1 (n1 + 1) uc1) := by simp
        have lub : w7.heap.size < (w7.alloc (.cells #[.int .i64 0, .slice u0 64 uc0, .slice u1 (n1 + 1) uc1] 32)).heap.size := by simp
        clear A16
        go_wp2_with fail
        refine (implNew_f _ _ _ xs _ t0 m0 0 xs (new_same HF.out).1 (new_same HF.out).2).mono ?_
        rintro e w8 ⟨v0, vn0, vc0, v1, vn1, vc1, rfl, dN, hb⟩
        replace db0 := cell_later hb db0
        replace db1 := cell_later hb db1
        replace cb0 := cell_later hb cb0
        replace cb1 := cell_later hb cb1
        replace cb2 := cell_later hb cb2
        replace fb0 := cell_later hb fb0
        replace fb1 := cell_later hb fb1
        replace fb2 := cell_later hb fb2
        replace ab0 := cell_later hb ab0
        replace ab1 := cell_later hb ab1
        replace ub0 := cell_later hb ub0
        replace ub1 := cell_later hb ub1
        replace ub2 := cell_later hb ub2
        replace rP := rP.below hb
        replace t0 := t0.below hb
        replace t1 := t1.below hb
        replace r2 := r2.below hb
        replace r3 := r3.below hb
        replace ldb := Nat.lt_of_lt_of_le ldb hb.size
        replace lcb := Nat.lt_of_lt_of_le lcb hb.size
        replace lfb := Nat.lt_of_lt_of_le lfb hb.size
        replace lab := Nat.lt_of_lt_of_le lab hb.size
        replace lub := Nat.lt_of_lt_of_le lub hb.size
        replace B := below_next B hb
        have S18 := hb.size
        clear hb
        go_wp2_with fail
        have A19 : Below w8.heap.size w8 (w8.alloc (.cells #[.int .i64 0, .slice v0 vn0 vc0, .slice v1 vn1 vc1] 32)) := (Below.refl _ _).alloc (Nat.le_refl _) _
        replace db0 := cell_later A19 db0
        replace db1 := cell_later A19 db1
        replace cb0 := cell_later A19 cb0
        replace cb1 := cell_later A19 cb1
        replace cb2 := cell_later A19 cb2
        replace fb0 := cell_later A19 fb0
        replace fb1 := cell_later A19 fb1
        replace fb2 := cell_later A19 fb2
        replace ab0 := cell_later A19 ab0
        replace ab1 := cell_later A19 ab1
        replace ub0 := cell_later A19 ub0
        replace ub1 := cell_later A19 ub1
        replace ub2 := cell_later A19 ub2
        replace rP := rP.below A19
        replace t0 := t0.below A19
        replace t1 := t1.below A19
        replace r2 := r2.below A19
        replace r3 := r3.below A19
        replace ldb := Nat.lt_of_lt_of_le ldb A19.size
        replace lcb := Nat.lt_of_lt_of_le lcb A19.size
        replace lfb := Nat.lt_of_lt_of_le lfb A19.size
        replace lab := Nat.lt_of_lt_of_le lab A19.size
        replace lub := Nat.lt_of_lt_of_le lub A19.size
        replace B := below_next B A19
        have S20 := A19.size
        have E20 : (w8.alloc (.cells #[.int .i64 0, .slice v0 vn0 vc0, .slice v1 vn1 vc1] 32)).heap.size = w8.heap.size + 1 := by simp
        have nb0 : (w8.alloc (.cells #[.int .i64 0, .slice v0 vn0 vc0, .slice v1 vn1 vc1] 32)).cell? ⟨w8.heap.size, 0, none⟩ = some (.int .i64 0) := by simp
        have nb1 : (w8.alloc (.cells #[.int .i64 0, .slice v0 vn0 vc0, .slice v1 vn1 vc1] 32)).cell? ⟨w8.heap.size, 1, none⟩ = some (.slice v0 vn0 vc0) := by simp
        have nb2 : (w8.alloc (.cells #[.int .i64 0, .slice v0 vn0 vc0, .slice v1 vn1 vc1] 32)).cell? ⟨w8.heap.size, 2, none⟩ = some (.slice v1 vn1 vc1) := by simp
        have lnb : w8.heap.size < (w8.alloc (.cells #[.int .i64 0, .slice v0 vn0 vc0, .slice v1 vn1 vc1] 32)).heap.size := by simp
        clear A19
        obtain ⟨midn, _, _, r0, _⟩ := dN.parts
        have vL0 : vn0 = 64 := by rw [← r0.nInts, hx64]
        subst vL0
        clear dN
        replace r0 := r0.below ((Below.refl _ _).alloc (Nat.le_refl _) (.cells #[.int .i64 0, .slice v0 64 vc0, .slice v1 vn1 vc1] 32))
        go_wp2_with fail
        refine (implAt_f _ _ _ _ _ _ xs (ys ++ [(5, 77)]) _ r2 r3 (by omega) (by omega) 5 0 77 (at5c HF.out (by omega)) (at5 HF.out (by omega))).mono ?_
        rintro e w9 ⟨rfl, hb⟩
        replace db0 := cell_later hb db0
        replace db1 := cell_later hb db1
        replace cb0 := cell_later hb cb0
        replace cb1 := cell_later hb cb1
        replace cb2 := cell_later hb cb2
        replace fb0 := cell_later hb fb0
        replace fb1 := cell_later hb fb1
        replace fb2 := cell_later hb fb2
        replace ab0 := cell_later hb ab0
        replace ab1 := cell_later hb ab1
        replace ub0 := cell_later hb ub0
        replace ub1 := cell_later hb ub1
        replace ub2 := cell_later hb ub2
        replace nb0 := cell_later hb nb0
        replace nb1 := cell_later hb nb1
        replace nb2 := cell_later hb nb2
        replace rP := rP.below hb
        replace t0 := t0.below hb
        replace t1 := t1.below hb
        replace r2 := r2.below hb
        replace r3 := r3.below hb
        replace r0 := r0.below hb
        replace ldb := Nat.lt_of_lt_of_le ldb hb.size
        replace lcb := Nat.lt_of_lt_of_le lcb hb.size
        replace lfb := Nat.lt_of_lt_of_le lfb hb.size
        replace lab := Nat.lt_of_lt_of_le lab hb.size
        replace lub := Nat.lt_of_lt_of_le lub hb.size
        replace lnb := Nat.lt_of_lt_of_le lnb hb.size
        replace B := below_next B hb
        have S21 := hb.size
        clear hb
        go_wp2_with fail
        refine (lwNums_yes _ _ _ _ _ xs _ r0 t0 (by omega)).mono ?_
        rintro e w10 ⟨rfl, hb⟩
        replace db0 := cell_later hb db0
        replace db1 := cell_later hb db1
        replace cb0 := cell_later hb cb0
        replace cb1 := cell_later hb cb1
        replace cb2 := cell_later hb cb2
        replace fb0 := cell_later hb fb0
        replace fb1 := cell_later hb fb1
        replace fb2 := cell_later hb fb2
        replace ab0 := cell_later hb ab0
        replace ab1 := cell_later hb ab1
        replace ub0 := cell_later hb ub0
        replace ub1 := cell_later hb ub1
        replace ub2 := cell_later hb ub2
        replace nb0 := cell_later hb nb0
        replace nb1 := cell_later hb nb1
        replace nb2 := cell_later hb nb2
        replace rP := rP.below hb
        replace t0 := t0.below hb
        replace t1 := t1.below hb
        replace r2 := r2.below hb
        replace r3 := r3.below hb
        replace r0 := r0.below hb
        replace ldb := Nat.lt_of_lt_of_le ldb hb.size
        replace lcb := Nat.lt_of_lt_of_le lcb hb.size
        replace lfb := Nat.lt_of_lt_of_le lfb hb.size
        replace lab := Nat.lt_of_lt_of_le lab hb.size
        replace lub := Nat.lt_of_lt_of_le lub hb.size
        replace lnb := Nat.lt_of_lt_of_le lnb hb.size
        replace B := below_next B hb
        have S22 := hb.size
        clear hb
        go_wp2
        go_ret
        exact ⟨rfl, B⟩
    have hki : (k : Int) < 64 := by omega
    have hfd : ∀ w : World, (Instr.field 43 (.agg #[.int .i64 0, .int .i64 ((putAll xs ys).getD k 0)]) 1).run Try.prog w = .ok (.int .i64 ((putAll xs ys).getD k 0)) w := field_val _ _
    obtain ⟨bd, fd, rfl, _, _, _, gd, _⟩ := t0.int hlt
    obtain ⟨bp, fp, rfl, _, _, _, gp, _⟩ := x0.int hlt
    obtain ⟨bg, fg, rfl, _, _, _, gg, _⟩ := z0.int hlt
    obtain ⟨hat, hav⟩ := at_nat HF.out hlt
    have HA : Hid _ := hat
    have HV : Hid _ := hav
    have hw0 := want_zero xs ys ps k
    have hw1 := want_end xs ys ps k (min n1 n2) (by rw [hyl, hpl])
    rw [← hw0] at gd
    rw [← hw1] at gp
    clear hat hav hw0 hw1
    generalize (putAll xs ys).getD k 0 = Z at gg HV hfd
    generalize hWe : wantAt xs ys ps k (min n1 n2) = We at gp
    generalize hWs : wantAt xs ys ps k 0 = Ws at gd
    have HWe : Hid _ := hWe
    have HWs : Hid _ := hWs
    clear hWe hWs
    go_wp2_with fail
    go_loop [9, 10] (fun v i => ∃ j : Nat, j ≤ min n1 n2 ∧ i = .int .i64 j ∧ v = .int .i64 (wantAt xs ys ps k j)) (fun _ i => min n1 n2 - (intOf i).toNat)
    case atStart => exact ⟨0, by omega, rfl, by rw [HWs.out]⟩
    case round =>
      obtain ⟨j, hj, rfl, rfl⟩ := hrel
      by_cases hjl : j < min n1 n2
      rotate_left 1
      · obtain rfl : j = min n1 n2 := by omega
        rw [HWe.out]
        have hex : ¬ (((min n1 n2 : Nat) : Int) < n1 ∧ ((min n1 n2 : Nat) : Int) < n2) := by omega
        have hWW : (We != We) = false := by simp
        have hZZ : (Z != Z) = false := by simp
        generalize min n1 n2 = mm at hex ⊢
        rcases Nat.lt_or_ge mm n1 with hm1 | hm1
        · have hm2 : ¬ (mm : Int) < n2 := by omega
          have hm1 : (mm : Int) < n1 := by omega
          clear hex
          go_wp2_with fail
          have D : Below wo.heap.size wo wo.drew := (Below.refl _ _).drew
          replace db0 := cell_later D db0
          replace db1 := cell_later D db1
          replace cb0 := cell_later D cb0
          replace cb1 := cell_later D cb1
          replace cb2 := cell_later D cb2
          replace fb0 := cell_later D fb0
          replace fb1 := cell_later D fb1
          replace fb2 := cell_later D fb2
          replace ab0 := cell_later D ab0
          replace ab1 := cell_later D ab1
          replace gp := cell_later D gp
          replace gg := cell_later D gg
          replace rP := rP.below D
          replace t0 := t0.below D
          replace t1 := t1.below D
          replace x0 := x0.below D
          replace x1 := x1.below D
          replace y0 := y0.below D
          replace z0 := z0.below D
          replace B := below_next B D
          replace HB : Hid _ := HB.out.drew
          clear D
          go_region_held3 (fun w' => w'.cell? ⟨w1.heap.size, 0, none⟩ = some (.slice (some ⟨bd, fd, none⟩) 64 c0) ∧ w'.cell? ⟨w1.heap.size, 1, none⟩ = some (.slice a1 n1 c1) ∧ w'.cell? ⟨w2.heap.size, 1, none⟩ = some (.slice (some ⟨bp, fp, none⟩) 64 pc0) ∧ w'.cell? ⟨w4.heap.size, 1, none⟩ = some (.slice (some ⟨bg, fg, none⟩) 64 gc0) ∧ w'.cell? ⟨bp, fp + k, none⟩ = some (.int .i64 We) ∧ w'.cell? ⟨bg, fg + k, none⟩ = some (.int .i64 Z)) (exact ⟨db0, db1, cb1, ab1, gp, gg⟩) (first | (go_at_call 19; refine (implAt_f _ _ _ _ _ _ xs ys _ t0 t1 m0 m1 k 0 Z HA.out HV.out).mono ?_; rintro e w7 ⟨rfl, hb⟩; replace db0 := cell_later hb db0; replace db1 := cell_later hb db1; replace cb0 := cell_later hb cb0; replace cb1 := cell_later hb cb1; replace cb2 := cell_later hb cb2; replace fb0 := cell_later hb fb0; replace fb1 := cell_later hb fb1; replace fb2 := cell_later hb fb2; replace ab0 := cell_later hb ab0; replace ab1 := cell_later hb ab1; replace gp := cell_later hb gp; replace gg := cell_later hb gg; replace rP := rP.below hb; replace t0 := t0.below hb; replace t1 := t1.below hb; replace x0 := x0.below hb; replace x1 := x1.below hb; replace y0 := y0.below hb; replace z0 := z0.below hb; replace ldb := Nat.lt_of_lt_of_le ldb hb.size; replace lcb := Nat.lt_of_lt_of_le lcb hb.size; replace lfb := Nat.lt_of_lt_of_le lfb hb.size; replace lab := Nat.lt_of_lt_of_le lab hb.size; replace B := below_next B hb; replace HB : Hid _ := below_next HB.out hb; clear hb))
          go_wp2
          go_roundw
          case rel => exact ⟨k + 1, by omega, by go_num, HB.out⟩
          case measure => simp [intOf]; omega
        · have hm1 : ¬ (mm : Int) < n1 := by omega
          clear hex
          go_wp2_with fail
          have D : Below wo.heap.size wo wo.drew := (Below.refl _ _).drew
          replace db0 := cell_later D db0
          replace db1 := cell_later D db1
          replace cb0 := cell_later D cb0
          replace cb1 := cell_later D cb1
          replace cb2 := cell_later D cb2
          replace fb0 := cell_later D fb0
          replace fb1 := cell_later D fb1
          replace fb2 := cell_later D fb2
          replace ab0 := cell_later D ab0
          replace ab1 := cell_later D ab1
          replace gp := cell_later D gp
          replace gg := cell_later D gg
          replace rP := rP.below D
          replace t0 := t0.below D
          replace t1 := t1.below D
          replace x0 := x0.below D
          replace x1 := x1.below D
          replace y0 := y0.below D
          replace z0 := z0.below D
          replace B := below_next B D
          replace HB : Hid _ := HB.out.drew
          clear D
          go_region_held3 (fun w' => w'.cell? ⟨w1.heap.size, 0, none⟩ = some (.slice (some ⟨bd, fd, none⟩) 64 c0) ∧ w'.cell? ⟨w1.heap.size, 1, none⟩ = some (.slice a1 n1 c1) ∧ w'.cell? ⟨w2.heap.size, 1, none⟩ = some (.slice (some ⟨bp, fp, none⟩) 64 pc0) ∧ w'.cell? ⟨w4.heap.size, 1, none⟩ = some (.slice (some ⟨bg, fg, none⟩) 64 gc0) ∧ w'.cell? ⟨bp, fp + k, none⟩ = some (.int .i64 We) ∧ w'.cell? ⟨bg, fg + k, none⟩ = some (.int .i64 Z)) (exact ⟨db0, db1, cb1, ab1, gp, gg⟩) (first | (go_at_call 19; refine (implAt_f _ _ _ _ _ _ xs ys _ t0 t1 m0 m1 k 0 Z HA.out HV.out).mono ?_; rintro e w7 ⟨rfl, hb⟩; replace db0 := cell_later hb db0; replace db1 := cell_later hb db1; replace cb0 := cell_later hb cb0; replace cb1 := cell_later hb cb1; replace cb2 := cell_later hb cb2; replace fb0 := cell_later hb fb0; replace fb1 := cell_later hb fb1; replace fb2 := cell_later hb fb2; replace ab0 := cell_later hb ab0; replace ab1 := cell_later hb ab1; replace gp := cell_later hb gp; replace gg := cell_later hb gg; replace rP := rP.below hb; replace t0 := t0.below hb; replace t1 := t1.below hb; replace x0 := x0.below hb; replace x1 := x1.below hb; replace y0 := y0.below hb; replace z0 := z0.below hb; replace ldb := Nat.lt_of_lt_of_le ldb hb.size; replace lcb := Nat.lt_of_lt_of_le lcb hb.size; replace lfb := Nat.lt_of_lt_of_le lfb hb.size; replace lab := Nat.lt_of_lt_of_le lab hb.size; replace B := below_next B hb; replace HB : Hid _ := below_next HB.out hb; clear hb))
          go_wp2
          go_roundw
          case rel => exact ⟨k + 1, by omega, by go_num, HB.out⟩
          case measure => simp [intOf]; omega
      have hj1 : j < n1 := by omega
      have hj2 : j < n2 := by omega
      have hi1 : (j : Int) < n1 := by omega
      have hi2 : (j : Int) < n2 := by omega
      obtain ⟨bc, fc, rfl, _, _, _, e1, e1', _⟩ := t1.pair hj1
      obtain ⟨bq, fq, rfl, _, _, _, e2, _⟩ := rP.bool hj2
      obtain ⟨m, hm, hm64⟩ := places_at HP.out (k := j) (by omega)
      have hy' : j < ys.length := by omega
      have hp' : j < ps.length := by omega
      have hnext : Hid (wantAt xs ys ps k (j + 1) = if ps.getD j false = true ∧ m = k then (ys.getD j (0, 0)).2 else wantAt xs ys ps k j) := want_next (by omega) hy' hp' hm
      rw [hm] at e1
      clear hm hy' hp'
      generalize (ys.getD j (0, 0)).2 = y at e1' hnext
      generalize ps.getD j false = q at e2 hnext
      cases q with
      | false =>
        have he : Hid _ := hnext.out.trans (if_neg (by simp))
        clear hnext
        go_wp2
        go_round
        case rel => exact ⟨j + 1, by omega, by go_num, by rw [he.out]⟩
        case measure => simp [intOf]; omega
      | true =>
        by_cases hmk : m = k
        · have he : Hid _ := hnext.out.trans (if_pos ⟨rfl, hmk⟩)
          clear hnext
          subst hmk
          have hee : ((m : Int) == m) = true := by simp
          go_wp2
          go_round
          case rel => exact ⟨j + 1, by omega, by go_num, by rw [he.out]⟩
          case measure => simp [intOf]; omega
        · have he : Hid _ := hnext.out.trans (if_neg (by simp [hmk]))
          clear hnext
          have hee : ((m : Int) == k) = false := by simp; omega
          go_wp2
          go_round
          case rel => exact ⟨j + 1, by omega, by go_num, by rw [he.out]⟩
          case measure => simp [intOf]; omega

end Go.Proofs.Ytnhkfoedbhfjgaa
