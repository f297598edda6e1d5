/- What is appended is the last record, and what was committed is there behind a crash: the walk of FnJournals. -/
import Derived.Test.YtkpbmffklcgecaaJQ
import Derived.Test.YtkpbmffklcgecaaRow
namespace Go.Proofs.Ytkpbmffklcgecaa
open Go.RowKit

set_option maxRecDepth 20000 in
set_option maxHeartbeats 8000000 in
theorem lawJournals (ac : Option Addr) (nc cc : Nat) (cs : List Nat) (w : World) (h : RowAt w false 0 w.heap.size 1 ac nc cc (bys cs)) (hcs : ∀ i, cs.getD i 0 < 256) (hn : nc ≤ maxLen) :
    Calls Try.prog 11 #[.slice ac nc cc] w fun e w' => e = .returned (.bool true) ∧ Below w.heap.size w w' := by
  unfold maxLen at hn
  have B : Below w.heap.size w w := Below.refl _ _
  by_cases hbig : 1048576 < nc
  · go_enter Try.func11, Try.ntmps11
    go_wp2_with fail
    refine (lwBig_is ac nc cc _ true (by simp; exact hbig)).mono ?_
    rintro e w1 ⟨rfl, rfl⟩
    go_wp2
    go_ret
    exact ⟨rfl, B⟩
  have hc : nc ≤ 1048576 := by omega
  go_enter Try.func11, Try.ntmps11
  go_wp2_with fail
  refine (lwBig_is ac nc cc _ false (by simp; omega)).mono ?_
  rintro e w0 ⟨rfl, rfl⟩
  have hR := h
  clear h
  go_wp2_with fail
  refine (drawApp_any ac nc cc cs _ (by exact hR) hcs (Nat.le_refl _) hc).mono ?_
  rintro e w1 ⟨a0, n0, c0, a1, n1, c1, xs, ys, a2, n2, c2, ws, rfl, hn0, hn1, hn2, dD, RW, hb⟩
  replace hR := hR.below hb
  replace B := below_next B hb
  have S1 := hb.size
  clear hb
  obtain ⟨mid, _, _, t0, t1⟩ := dD.parts
  clear dD
  have hwl := RW.nInts
  have hn0' : n0 ≤ 1048576 := by omega
  have hn1' : n1 ≤ 1048576 := by omega
  have hn2' : n2 ≤ 1048576 := by omega
  go_wp2_with fail
  have A2 : Below w1.heap.size w1 (w1.alloc (.cells #[.slice a0 n0 c0, .slice a1 n1 c1] 27)) := (Below.refl _ _).alloc (Nat.le_refl _) _
  replace hR := hR.below A2
  replace RW := RW.below A2
  replace t0 := t0.below A2
  replace t1 := t1.below A2
  replace B := below_next B A2
  have S3 := A2.size
  clear A2
  have db0 : (w1.alloc (.cells #[.slice a0 n0 c0, .slice a1 n1 c1] 27)).cell? ⟨w1.heap.size, 0, none⟩ = some (.slice a0 n0 c0) := by simp
  have db1 : (w1.alloc (.cells #[.slice a0 n0 c0, .slice a1 n1 c1] 27)).cell? ⟨w1.heap.size, 1, none⟩ = some (.slice a1 n1 c1) := by simp
  have ldb : w1.heap.size < (w1.alloc (.cells #[.slice a0 n0 c0, .slice a1 n1 c1] 27)).heap.size := by simp
  by_cases hk : appCode xs ys ws = 0
  rotate_left 1
  · obtain ⟨cd, hcd⟩ : ∃ cd, faultOf xs ys = cd := ⟨_, rfl⟩
    obtain ⟨uu, huu⟩ : ∃ uu, scanUsed xs ys = uu := ⟨_, rfl⟩
    obtain ⟨rs, hrs⟩ : ∃ rs, scanRecs xs ys = rs := ⟨_, rfl⟩
    obtain ⟨N, hN⟩ : ∃ N, rs.length = N := ⟨_, rfl⟩
    obtain ⟨k, hkk⟩ : ∃ k, appCode xs ys ws = k := ⟨_, rfl⟩
    rw [hkk] at hk
    have hne : (k != 0) = true := by simp [hk]
    have HC : Hid _ := hcd
    have HU : Hid _ := huu
    have HR : Hid _ := hrs
    have HN : Hid _ := hN
    have HK : Hid _ := hkk
    clear hcd huu hrs hN hkk hk
    go_wp2_with fail
    refine (implScan_n _ _ _ _ _ _ xs ys _ t0 t1 hn0' hn1' cd uu rs N HC.out HU.out HR.out HN.out).mono ?_
    rintro e w2 ⟨q0, qc, qvs, rfl, -, -, hb⟩
    replace db0 := cell_later hb db0
    replace db1 := cell_later hb db1
    replace hR := hR.below hb
    replace RW := RW.below hb
    replace t0 := t0.below hb
    replace t1 := t1.below hb
    replace ldb := Nat.lt_of_lt_of_le ldb hb.size
    replace B := below_next B hb
    have S4 := hb.size
    clear hb
    go_wp2_with fail
    have A5 : Below w2.heap.size w2 (w2.alloc (.cells #[.int .i64 cd, .int .i64 (uu : Int), .slice q0 N qc] 73)) := (Below.refl _ _).alloc (Nat.le_refl _) _
    replace db0 := cell_later A5 db0
    replace db1 := cell_later A5 db1
    replace hR := hR.below A5
    replace RW := RW.below A5
    replace t0 := t0.below A5
    replace t1 := t1.below A5
    replace ldb := Nat.lt_of_lt_of_le ldb A5.size
    replace B := below_next B A5
    have S6 := A5.size
    clear A5
    have qb0 : (w2.alloc (.cells #[.int .i64 cd, .int .i64 (uu : Int), .slice q0 N qc] 73)).cell? ⟨w2.heap.size, 0, none⟩ = some (.int .i64 cd) := by simp
    have qb1 : (w2.alloc (.cells #[.int .i64 cd, .int .i64 (uu : Int), .slice q0 N qc] 73)).cell? ⟨w2.heap.size, 1, none⟩ = some (.int .i64 (uu : Int)) := by simp
    have qb2 : (w2.alloc (.cells #[.int .i64 cd, .int .i64 (uu : Int), .slice q0 N qc] 73)).cell? ⟨w2.heap.size, 2, none⟩ = some (.slice q0 N qc) := by simp
    have lqb : w2.heap.size < (w2.alloc (.cells #[.int .i64 cd, .int .i64 (uu : Int), .slice q0 N qc] 73)).heap.size := by simp
    go_wp2_with fail
    refine (implApp_is _ _ _ _ _ _ xs ys _ t0 t1 hn0' hn1' _ _ _ ws RW hn2' k _ _ HK.out rfl rfl).mono ?_
    rintro e w3 ⟨r0, rn0, rc0, r1, rn1, rc1, rfl, -, hb⟩
    replace db0 := cell_later hb db0
    replace db1 := cell_later hb db1
    replace qb0 := cell_later hb qb0
    replace qb1 := cell_later hb qb1
    replace qb2 := cell_later hb qb2
    replace hR := hR.below hb
    replace RW := RW.below hb
    replace t0 := t0.below hb
    replace t1 := t1.below hb
    replace ldb := Nat.lt_of_lt_of_le ldb hb.size
    replace lqb := Nat.lt_of_lt_of_le lqb hb.size
    replace B := below_next B hb
    have S7 := hb.size
    clear hb
    go_wp2_with fail
    have A8 : Below w3.heap.size w3 (w3.alloc (.cells #[.int .i64 k, .slice r0 rn0 rc0, .slice r1 rn1 rc1] 32)) := (Below.refl _ _).alloc (Nat.le_refl _) _
    replace db0 := cell_later A8 db0
    replace db1 := cell_later A8 db1
    replace qb0 := cell_later A8 qb0
    replace qb1 := cell_later A8 qb1
    replace qb2 := cell_later A8 qb2
    replace hR := hR.below A8
    replace RW := RW.below A8
    replace t0 := t0.below A8
    replace t1 := t1.below A8
    replace ldb := Nat.lt_of_lt_of_le ldb A8.size
    replace lqb := Nat.lt_of_lt_of_le lqb A8.size
    replace B := below_next B A8
    have S9 := A8.size
    clear A8
    have rb0 : (w3.alloc (.cells #[.int .i64 k, .slice r0 rn0 rc0, .slice r1 rn1 rc1] 32)).cell? ⟨w3.heap.size, 0, none⟩ = some (.int .i64 k) := by simp
    have rb1 : (w3.alloc (.cells #[.int .i64 k, .slice r0 rn0 rc0, .slice r1 rn1 rc1] 32)).cell? ⟨w3.heap.size, 1, none⟩ = some (.slice r0 rn0 rc0) := by simp
    have rb2 : (w3.alloc (.cells #[.int .i64 k, .slice r0 rn0 rc0, .slice r1 rn1 rc1] 32)).cell? ⟨w3.heap.size, 2, none⟩ = some (.slice r1 rn1 rc1) := by simp
    have lrb : w3.heap.size < (w3.alloc (.cells #[.int .i64 k, .slice r0 rn0 rc0, .slice r1 rn1 rc1] 32)).heap.size := by simp
    have D4 : Below (w3.alloc (.cells #[.int .i64 k, .slice r0 rn0 rc0, .slice r1 rn1 rc1] 32)).heap.size (w3.alloc (.cells #[.int .i64 k, .slice r0 rn0 rc0, .slice r1 rn1 rc1] 32)) (w3.alloc (.cells #[.int .i64 k, .slice r0 rn0 rc0, .slice r1 rn1 rc1] 32)).drew := (Below.refl _ _).drew
    replace db0 := cell_later D4 db0
    replace db1 := cell_later D4 db1
    replace qb0 := cell_later D4 qb0
    replace qb1 := cell_later D4 qb1
    replace qb2 := cell_later D4 qb2
    replace rb0 := cell_later D4 rb0
    replace rb1 := cell_later D4 rb1
    replace rb2 := cell_later D4 rb2
    replace hR := hR.below D4
    replace RW := RW.below D4
    replace t0 := t0.below D4
    replace t1 := t1.below D4
    replace ldb := Nat.lt_of_lt_of_le ldb D4.size
    replace lqb := Nat.lt_of_lt_of_le lqb D4.size
    replace lrb := Nat.lt_of_lt_of_le lrb D4.size
    replace B := below_next B D4
    have S10 := D4.size
    clear D4
    go_wp2_with fail
    go_region_held3 (fun w' => w'.cell? ⟨w1.heap.size, 0, none⟩ = some (.slice a0 n0 c0) ∧ w'.cell? ⟨w1.heap.size, 1, none⟩ = some (.slice a1 n1 c1) ∧ w'.cell? ⟨w3.heap.size, 0, none⟩ = some (.int .i64 k)) (exact ⟨db0, db1, rb0⟩)
      (first | (go_at_call 55; refine (specApp_is _ _ _ _ _ _ xs ys _ t0 t1 hn0' hn1' _ _ _ ws RW hn2' k _ _ HK.out rfl rfl).mono ?_; rintro e w4 ⟨p0, pn0, pc0, p1, pn1, pc1, rfl, -, hb⟩; replace db0 := cell_later hb db0; replace db1 := cell_later hb db1; replace qb0 := cell_later hb qb0; replace qb1 := cell_later hb qb1; replace qb2 := cell_later hb qb2; replace rb0 := cell_later hb rb0; replace rb1 := cell_later hb rb1; replace rb2 := cell_later hb rb2; replace hR := hR.below hb; replace RW := RW.below hb; replace t0 := t0.below hb; replace t1 := t1.below hb; replace ldb := Nat.lt_of_lt_of_le ldb hb.size; replace lqb := Nat.lt_of_lt_of_le lqb hb.size; replace lrb := Nat.lt_of_lt_of_le lrb hb.size; replace B := below_next B hb; clear hb; have hfld := dresCode k p0 pn0 pc0 p1 pn1 pc1))
    go_wp2
    go_ret
    exact ⟨by first | rfl | exact ret_bool (by simp), B⟩
  have A := appended hk
  obtain ⟨rs, hrs⟩ : ∃ rs, recsOf xs ys = rs := ⟨_, rfl⟩
  obtain ⟨uu, huu⟩ : ∃ uu, usedOf xs ys = uu := ⟨_, rfl⟩
  obtain ⟨Y, hY⟩ : ∃ Y, appY xs ys ws = Y := ⟨_, rfl⟩
  obtain ⟨zs, hzs⟩ : ∃ zs, putAll xs Y = zs := ⟨_, rfl⟩
  obtain ⟨N, hN⟩ : ∃ N, rs.length = N := ⟨_, rfl⟩
  rw [hrs, huu, hY, hzs] at A
  obtain ⟨h8, h64⟩ := scanRecs_ok xs ys
  rw [A.r0, hN] at h64
  have hu64 : uu ≤ 64 := by rw [← huu]; exact used_le (fault_zero A.f0).1
  have HK : Hid _ := hk
  have HY : Hid _ := hY
  have HN : Hid _ := hN
  have HF0 : Hid _ := A.f0
  have HRF : Hid _ := A.rf
  have HX : Hid _ := A.X
  have hF1 := A.f1
  have hR1 := A.r1
  have hU1 := A.u1
  have hFL := A.fl
  rw [hY] at hF1 hR1 hU1 hFL
  rw [hwl] at hU1
  have HR0 : Hid _ := A.r0
  have HU0 : Hid _ := A.u0
  have HF1 : Hid _ := hF1
  have HR1 : Hid _ := hR1
  have HU1 : Hid _ := hU1
  have HFL : Hid _ := hFL
  have HF2 : Hid _ := A.f2
  have HR2 : Hid _ := A.r2
  have hx64 := (fault_zero A.f0).1
  have hyl := (fault_zero hF1).2.1
  have hzl := (fault_zero A.f2).1
  obtain ⟨M, hM⟩ : ∃ M, M = N + 1 := ⟨_, rfl⟩
  have HN1 : Hid ((rs ++ [ws]).length = M) := by show _ = _; simp [hN, hM]
  have hMN : ((M : Int) != (N : Int) + 1) = false := by rw [hM]; simp
  have HM : Hid _ := hM
  have i1 : (N : Int) < (M : Int) := by omega
  have i2 : N < M := by omega
  clear hM
  have hl64 : ∀ j, ((rs ++ [ws]).getD j []).length ≤ 64 := fun j => by
    have h9 := (scanRecs_ok xs Y).1
    rw [hR1] at h9
    by_cases hj : j < (rs ++ [ws]).length
    · have := h9 ((rs ++ [ws]).getD j []) (by rw [List.getD_eq_getElem?_getD, List.getElem?_eq_getElem hj]; exact List.getElem_mem hj)
      omega
    · rw [List.getD_eq_getElem?_getD, List.getElem?_eq_none (by omega)]; simp
  clear A hrs huu hY hzs hN hF1 hR1 hU1 hFL h8 hk
  go_wp2_with fail
  refine (implScan_n _ _ _ _ _ _ xs ys _ t0 t1 hn0' hn1' 0 uu rs N HF0.out HU0.out HR0.out HN.out).mono ?_
  rintro e w2 ⟨q0, qc, qvs, rfl, -, -, hb⟩
  replace db0 := cell_later hb db0
  replace db1 := cell_later hb db1
  replace hR := hR.below hb
  replace RW := RW.below hb
  replace t0 := t0.below hb
  replace t1 := t1.below hb
  replace ldb := Nat.lt_of_lt_of_le ldb hb.size
  replace B := below_next B hb
  have S11 := hb.size
  clear hb
  go_wp2_with fail
  have A12 : Below w2.heap.size w2 (w2.alloc (.cells #[.int .i64 0, .int .i64 (uu : Int), .slice q0 N qc] 73)) := (Below.refl _ _).alloc (Nat.le_refl _) _
  replace db0 := cell_later A12 db0
  replace db1 := cell_later A12 db1
  replace hR := hR.below A12
  replace RW := RW.below A12
  replace t0 := t0.below A12
  replace t1 := t1.below A12
  replace ldb := Nat.lt_of_lt_of_le ldb A12.size
  replace B := below_next B A12
  have S13 := A12.size
  clear A12
  have qb0 : (w2.alloc (.cells #[.int .i64 0, .int .i64 (uu : Int), .slice q0 N qc] 73)).cell? ⟨w2.heap.size, 0, none⟩ = some (.int .i64 0) := by simp
  have qb1 : (w2.alloc (.cells #[.int .i64 0, .int .i64 (uu : Int), .slice q0 N qc] 73)).cell? ⟨w2.heap.size, 1, none⟩ = some (.int .i64 (uu : Int)) := by simp
  have qb2 : (w2.alloc (.cells #[.int .i64 0, .int .i64 (uu : Int), .slice q0 N qc] 73)).cell? ⟨w2.heap.size, 2, none⟩ = some (.slice q0 N qc) := by simp
  have lqb : w2.heap.size < (w2.alloc (.cells #[.int .i64 0, .int .i64 (uu : Int), .slice q0 N qc] 73)).heap.size := by simp
  go_wp2_with fail
  refine (implApp_is _ _ _ _ _ _ xs ys _ t0 t1 hn0' hn1' _ _ _ ws RW hn2' 0 xs Y HK.out HX.out HY.out).mono ?_
  rintro e w3 ⟨r0, rn0, rc0, r1, rn1, rc1, rfl, dR, hb⟩
  replace db0 := cell_later hb db0
  replace db1 := cell_later hb db1
  replace qb0 := cell_later hb qb0
  replace qb1 := cell_later hb qb1
  replace qb2 := cell_later hb qb2
  replace hR := hR.below hb
  replace RW := RW.below hb
  replace t0 := t0.below hb
  replace t1 := t1.below hb
  replace ldb := Nat.lt_of_lt_of_le ldb hb.size
  replace lqb := Nat.lt_of_lt_of_le lqb hb.size
  replace B := below_next B hb
  have S14 := hb.size
  clear hb
  have hrl := diskLen dR
  have hrn0 : rn0 ≤ 1048576 := by omega
  have hrn1 : rn1 ≤ 1048576 := by omega
  obtain ⟨midr, _, _, u0, u1⟩ := dR.parts
  clear dR hrl
  go_wp2_with fail
  have A15 : Below w3.heap.size w3 (w3.alloc (.cells #[.int .i64 0, .slice r0 rn0 rc0, .slice r1 rn1 rc1] 32)) := (Below.refl _ _).alloc (Nat.le_refl _) _
  replace db0 := cell_later A15 db0
  replace db1 := cell_later A15 db1
  replace qb0 := cell_later A15 qb0
  replace qb1 := cell_later A15 qb1
  replace qb2 := cell_later A15 qb2
  replace hR := hR.below A15
  replace RW := RW.below A15
  replace t0 := t0.below A15
  replace t1 := t1.below A15
  replace u0 := u0.below A15
  replace u1 := u1.below A15
  replace ldb := Nat.lt_of_lt_of_le ldb A15.size
  replace lqb := Nat.lt_of_lt_of_le lqb A15.size
  replace B := below_next B A15
  have S16 := A15.size
  clear A15
  have rb0 : (w3.alloc (.cells #[.int .i64 0, .slice r0 rn0 rc0, .slice r1 rn1 rc1] 32)).cell? ⟨w3.heap.size, 0, none⟩ = some (.int .i64 0) := by simp
  have rb1 : (w3.alloc (.cells #[.int .i64 0, .slice r0 rn0 rc0, .slice r1 rn1 rc1] 32)).cell? ⟨w3.heap.size, 1, none⟩ = some (.slice r0 rn0 rc0) := by simp
  have rb2 : (w3.alloc (.cells #[.int .i64 0, .slice r0 rn0 rc0, .slice r1 rn1 rc1] 32)).cell? ⟨w3.heap.size, 2, none⟩ = some (.slice r1 rn1 rc1) := by simp
  have lrb : w3.heap.size < (w3.alloc (.cells #[.int .i64 0, .slice r0 rn0 rc0, .slice r1 rn1 rc1] 32)).heap.size := by simp
  clear t0 t1 db0 db1
  go_wp2_with fail
  refine (implScan_n _ _ _ _ _ _ xs Y _ u0 u1 hrn0 hrn1 0 (uu + 2 + n2) (rs ++ [ws]) M HF1.out HU1.out HR1.out HN1.out).mono ?_
  rintro e w4 ⟨m0, mc, mvs, rfl, RN, QN, hb⟩
  replace qb0 := cell_later hb qb0
  replace qb1 := cell_later hb qb1
  replace qb2 := cell_later hb qb2
  replace rb0 := cell_later hb rb0
  replace rb1 := cell_later hb rb1
  replace rb2 := cell_later hb rb2
  replace hR := hR.below hb
  replace RW := RW.below hb
  replace u0 := u0.below hb
  replace u1 := u1.below hb
  replace ldb := Nat.lt_of_lt_of_le ldb hb.size
  replace lqb := Nat.lt_of_lt_of_le lqb hb.size
  replace lrb := Nat.lt_of_lt_of_le lrb hb.size
  replace B := below_next B hb
  have S17 := hb.size
  clear hb
  go_wp2_with fail
  have A18 : Below w4.heap.size w4 (w4.alloc (.cells #[.int .i64 0, .int .i64 ((uu : Int) + 2 + (n2 : Int)), .slice m0 M mc] 73)) := (Below.refl _ _).alloc (Nat.le_refl _) _
  replace qb0 := cell_later A18 qb0
  replace qb1 := cell_later A18 qb1
  replace qb2 := cell_later A18 qb2
  replace rb0 := cell_later A18 rb0
  replace rb1 := cell_later A18 rb1
  replace rb2 := cell_later A18 rb2
  replace hR := hR.below A18
  replace RW := RW.below A18
  replace u0 := u0.below A18
  replace u1 := u1.below A18
  replace RN := RN.below A18
  replace QN := QN.below A18
  replace ldb := Nat.lt_of_lt_of_le ldb A18.size
  replace lqb := Nat.lt_of_lt_of_le lqb A18.size
  replace lrb := Nat.lt_of_lt_of_le lrb A18.size
  replace B := below_next B A18
  have S19 := A18.size
  clear A18
  have nb0 : (w4.alloc (.cells #[.int .i64 0, .int .i64 ((uu : Int) + 2 + (n2 : Int)), .slice m0 M mc] 73)).cell? ⟨w4.heap.size, 0, none⟩ = some (.int .i64 0) := by simp
  have nb1 : (w4.alloc (.cells #[.int .i64 0, .int .i64 ((uu : Int) + 2 + (n2 : Int)), .slice m0 M mc] 73)).cell? ⟨w4.heap.size, 1, none⟩ = some (.int .i64 ((uu : Int) + 2 + (n2 : Int))) := by simp
  have nb2 : (w4.alloc (.cells #[.int .i64 0, .int .i64 ((uu : Int) + 2 + (n2 : Int)), .slice m0 M mc] 73)).cell? ⟨w4.heap.size, 2, none⟩ = some (.slice m0 M mc) := by simp
  have lnb : w4.heap.size < (w4.alloc (.cells #[.int .i64 0, .int .i64 ((uu : Int) + 2 + (n2 : Int)), .slice m0 M mc] 73)).heap.size := by simp
  obtain ⟨xa, xm, xc, xl, xu, ex, _, _, RX⟩ := QN.each N (by rw [HN1.out]; omega)
  have hlast : (rs ++ [ws]).getD N [] = ws := by rw [← HN.out]; simp [List.getD]
  rw [hlast] at RX
  obtain rfl : n2 = xm := by rw [← RX.nInts]; exact hwl.symm
  obtain ⟨bo, fo, rfl, _, cx⟩ := RN.elem (j := N) i2 ex
  clear ex hlast
  have hix : ∀ W : World, (Instr.indexAt 71 (.slice (some ⟨bo, fo, none⟩) M mc) (.int .i64 (N : Int))).run Try.prog W = .ok (.pointer (some ⟨bo, fo + N, none⟩)) W := fun W => by
    rw [run_indexAt_slice _ _ _ _ _ _ _ (by kernel_rfl)]
    have hsz : (sizeOf (Try.prog.elem 71)).run Try.prog W = .ok 1 W := by kernel_rfl
    simp [i1, hsz, Addr.add]
  go_wp2_with fail
  rw [hix]
  go_wp2_with fail
  refine (lwNums_yes _ _ n2 xc c2 ws _ RX RW (by omega)).mono ?_
  rintro e w5 ⟨rfl, hb⟩
  replace qb0 := cell_later hb qb0
  replace qb1 := cell_later hb qb1
  replace qb2 := cell_later hb qb2
  replace rb0 := cell_later hb rb0
  replace rb1 := cell_later hb rb1
  replace rb2 := cell_later hb rb2
  replace nb0 := cell_later hb nb0
  replace nb1 := cell_later hb nb1
  replace nb2 := cell_later hb nb2
  replace cx := cell_later hb cx
  replace hR := hR.below hb
  replace RW := RW.below hb
  replace u0 := u0.below hb
  replace u1 := u1.below hb
  replace RN := RN.below hb
  replace QN := QN.below hb
  replace RX := RX.below hb
  replace ldb := Nat.lt_of_lt_of_le ldb hb.size
  replace lqb := Nat.lt_of_lt_of_le lqb hb.size
  replace lrb := Nat.lt_of_lt_of_le lrb hb.size
  replace lnb := Nat.lt_of_lt_of_le lnb hb.size
  replace B := below_next B hb
  have S20 := hb.size
  clear hb
  clear RX
  go_wp2_with fail
  refine (implRec_is _ _ _ ws _ RW (by omega) 0 HRF.out).mono ?_
  rintro e w6 ⟨rfl, rfl⟩
  clear cx
  go_wp2_with fail
  refine (implCommit_is _ _ _ _ _ _ xs Y _ u0 u1 (by omega) (by omega) 0 zs HF1.out HFL.out).mono ?_
  rintro e w7 ⟨e0, en0, ec0, e1, en1, ec1, rfl, dC, hb⟩
  replace qb0 := cell_later hb qb0
  replace qb1 := cell_later hb qb1
  replace qb2 := cell_later hb qb2
  replace rb0 := cell_later hb rb0
  replace rb1 := cell_later hb rb1
  replace rb2 := cell_later hb rb2
  replace nb0 := cell_later hb nb0
  replace nb1 := cell_later hb nb1
  replace nb2 := cell_later hb nb2
  replace hR := hR.below hb
  replace RW := RW.below hb
  replace u0 := u0.below hb
  replace u1 := u1.below hb
  replace RN := RN.below hb
  replace QN := QN.below hb
  replace ldb := Nat.lt_of_lt_of_le ldb hb.size
  replace lqb := Nat.lt_of_lt_of_le lqb hb.size
  replace lrb := Nat.lt_of_lt_of_le lrb hb.size
  replace lnb := Nat.lt_of_lt_of_le lnb hb.size
  replace B := below_next B hb
  have S21 := hb.size
  clear hb
  have hel := diskLen dC
  have hen0 : en0 ≤ 1048576 := by omega
  have hen1 : en1 ≤ 1048576 := by have := hel.2; simp at this; omega
  obtain ⟨midc, _, _, v0, v1⟩ := dC.parts
  clear dC hel u0 u1
  go_wp2_with fail
  have A22 : Below w7.heap.size w7 (w7.alloc (.cells #[.int .i64 0, .slice e0 en0 ec0, .slice e1 en1 ec1] 32)) := (Below.refl _ _).alloc (Nat.le_refl _) _
  replace qb0 := cell_later A22 qb0
  replace qb1 := cell_later A22 qb1
  replace qb2 := cell_later A22 qb2
  replace rb0 := cell_later A22 rb0
  replace rb1 := cell_later A22 rb1
  replace rb2 := cell_later A22 rb2
  replace nb0 := cell_later A22 nb0
  replace nb1 := cell_later A22 nb1
  replace nb2 := cell_later A22 nb2
  replace hR := hR.below A22
  replace RW := RW.below A22
  replace RN := RN.below A22
  replace QN := QN.below A22
  replace v0 := v0.below A22
  replace v1 := v1.below A22
  replace ldb := Nat.lt_of_lt_of_le ldb A22.size
  replace lqb := Nat.lt_of_lt_of_le lqb A22.size
  replace lrb := Nat.lt_of_lt_of_le lrb A22.size
  replace lnb := Nat.lt_of_lt_of_le lnb A22.size
  replace B := below_next B A22
  have S23 := A22.size
  clear A22
  have cb0 : (w7.alloc (.cells #[.int .i64 0, .slice e0 en0 ec0, .slice e1 en1 ec1] 32)).cell? ⟨w7.heap.size, 0, none⟩ = some (.int .i64 0) := by simp
  have cb1 : (w7.alloc (.cells #[.int .i64 0, .slice e0 en0 ec0, .slice e1 en1 ec1] 32)).cell? ⟨w7.heap.size, 1, none⟩ = some (.slice e0 en0 ec0) := by simp
  have cb2 : (w7.alloc (.cells #[.int .i64 0, .slice e0 en0 ec0, .slice e1 en1 ec1] 32)).cell? ⟨w7.heap.size, 2, none⟩ = some (.slice e1 en1 ec1) := by simp
  have lcb : w7.heap.size < (w7.alloc (.cells #[.int .i64 0, .slice e0 en0 ec0, .slice e1 en1 ec1] 32)).heap.size := by simp
  obtain ⟨i4, hi4, hz0, hz1, hz2⟩ := info_parts Try.info4'
  have hs8 : (w7.alloc (.cells #[.int .i64 0, .slice e0 en0 ec0, .slice e1 en1 ec1] 32)).heap.size = w7.heap.size + 1 := by simp
  have A9 : Below (w7.alloc (.cells #[.int .i64 0, .slice e0 en0 ec0, .slice e1 en1 ec1] 32)).heap.size (w7.alloc (.cells #[.int .i64 0, .slice e0 en0 ec0, .slice e1 en1 ec1] 32)) ((w7.alloc (.cells #[.int .i64 0, .slice e0 en0 ec0, .slice e1 en1 ec1] 32)).alloc (.cells #[] 4)) := (Below.refl _ _).alloc (Nat.le_refl _) _
  have own0 : ((w7.alloc (.cells #[.int .i64 0, .slice e0 en0 ec0, .slice e1 en1 ec1] 32)).alloc (.cells #[] 4)).ownsRow (w7.heap.size + 1) 4 1 (.slice (some ⟨w7.heap.size + 1, 0, none⟩) 0 0) 0 [] := by
    rw [← hs8]; exact World.ownsRow_lit _ #[] 0 (Nat.le_refl _) (Nat.zero_le _) rfl
  have hs8a := Nat.le_of_eq hs8
  have hs8b := Nat.le_of_eq hs8.symm
  clear hs8
  go_wp2_with fail
  generalize (w7.alloc (.cells #[.int .i64 0, .slice e0 en0 ec0, .slice e1 en1 ec1] 32)) = w8 at *
  go_loopw [10, 11] (fun u i wq => ∃ (m : Nat) (ps : List Bool), m ≤ 20 ∧ i = .int .i64 m ∧ wq.ownsRow (w7.heap.size + 1) 4 1 u m (bls ps) ∧ Below w8.heap.size w8 wq) (fun _ i _ => 20 - (intOf i).toNat)
  case atStart => exact ⟨0, [], by omega, rfl, own0, A9⟩
  case round =>
    obtain ⟨m, ps, hm, rfl, hown, hq⟩ := hrel
    clear own0 A9
    by_cases hlt : m < 20
    · have hlk : (m : Int) < 20 := by omega
      go_wp2_with fail
      refine (lwAt_any ac nc cc cs m _ (by exact hR.below hq) hcs (by omega) hc).mono ?_
      rintro e w9 ⟨r, rfl, hb9⟩
      have hown2 := owns_below hown hb9
      have hq2 := below_next hq hb9
      have hs2 := hq2.size
      clear hown hq hb9
      have hownA := hown2.alloc (.cells #[.bool (r == 1)] 4)
      go_wp2_with (first | (at_builtin; refine wpList_append_own _ rfl _ _ 28 rfl (w7.heap.size + 1) 4 i4 (.bool false) 1 1 Try.underlying28 hi4 hz0 hz1 hz2 rfl (by decide) _ _ _ rfl hownA ⟨w9.heap.size, 0, none⟩ 1 1 [.bool (r == 1)] rfl rfl ?d1 ?d2 ?d3 ?d4 ?d5 ?_))
      case d1 =>
        intro i u hi
        match i, hi with
        | 0, hi => simp at hi; subst hi; simp [Addr.add]
      case d2 => intro u hu; simp at hu; subst hu; rfl
      case d3 => unfold maxLen; omega
      case d4 => omega
      case d5 => simp; omega
      intro v2 w10 hown3 hgrow _
      have B3 : Below w8.heap.size w9 w10 := (((Below.refl _ _).alloc hs2 _ : Below w8.heap.size w9 _)).grown hgrow (by simp; omega) (fun g hg => by have := (hownA.lt g hg).1; omega)
      have hq3 := hq2.trans B3
      have hown4 : w10.ownsRow (w7.heap.size + 1) 4 1 v2 (m + 1) (bls (ps ++ [(r == 1)])) := by simpa [bls] using hown3
      clear hown3 hgrow hownA B3 hown2 hq2
      go_wp2
      go_roundw
      case rel => exact ⟨m + 1, _, by omega, by go_num, hown4, hq3⟩
      case measure => simp [intOf]; omega
    · obtain rfl : m = 20 := by omega
      obtain ⟨pa, pc, rfl, RP⟩ := RowAt.of_owned hown
      clear hown
      replace qb0 := cell_later hq qb0
      replace qb1 := cell_later hq qb1
      replace qb2 := cell_later hq qb2
      replace rb0 := cell_later hq rb0
      replace rb1 := cell_later hq rb1
      replace rb2 := cell_later hq rb2
      replace nb0 := cell_later hq nb0
      replace nb1 := cell_later hq nb1
      replace nb2 := cell_later hq nb2
      replace cb0 := cell_later hq cb0
      replace cb1 := cell_later hq cb1
      replace cb2 := cell_later hq cb2
      replace hR := hR.below hq
      replace RW := RW.below hq
      replace RN := RN.below hq
      replace QN := QN.below hq
      replace v0 := v0.below hq
      replace v1 := v1.below hq
      replace ldb := Nat.lt_of_lt_of_le ldb hq.size
      replace lqb := Nat.lt_of_lt_of_le lqb hq.size
      replace lrb := Nat.lt_of_lt_of_le lrb hq.size
      replace lnb := Nat.lt_of_lt_of_le lnb hq.size
      replace lcb := Nat.lt_of_lt_of_le lcb hq.size
      replace B := below_next B hq
      have S24 := hq.size
      clear hq
      by_cases hk2 : appCode zs [] ws = 0
      rotate_left 1
      · have hk8 := app_again HF2.out HRF.out hk2
        have HK8 : Hid _ := hk8
        clear hk2 hk8
        go_wp2_with fail
        refine (implApp_is _ _ _ _ _ _ zs [] _ v0 v1 hen0 hen1 _ _ _ ws RW hn2' 8 _ _ HK8.out rfl rfl).mono ?_
        rintro e w11 ⟨x0, xn0, xc0, x1, xn1, xc1, rfl, -, hb⟩
        replace qb0 := cell_later hb qb0
        replace qb1 := cell_later hb qb1
        replace qb2 := cell_later hb qb2
        replace rb0 := cell_later hb rb0
        replace rb1 := cell_later hb rb1
        replace rb2 := cell_later hb rb2
        replace nb0 := cell_later hb nb0
        replace nb1 := cell_later hb nb1
        replace nb2 := cell_later hb nb2
        replace cb0 := cell_later hb cb0
        replace cb1 := cell_later hb cb1
        replace cb2 := cell_later hb cb2
        replace hR := hR.below hb
        replace RW := RW.below hb
        replace RN := RN.below hb
        replace QN := QN.below hb
        replace v0 := v0.below hb
        replace v1 := v1.below hb
        replace RP := RP.below hb
        replace ldb := Nat.lt_of_lt_of_le ldb hb.size
        replace lqb := Nat.lt_of_lt_of_le lqb hb.size
        replace lrb := Nat.lt_of_lt_of_le lrb hb.size
        replace lnb := Nat.lt_of_lt_of_le lnb hb.size
        replace lcb := Nat.lt_of_lt_of_le lcb hb.size
        replace B := below_next B hb
        have S25 := hb.size
        clear hb
        go_wp2_with fail
        have A26 : Below w11.heap.size w11 (w11.alloc (.cells #[.int .i64 8, .slice x0 xn0 xc0, .slice x1 xn1 xc1] 32)) := (Below.refl _ _).alloc (Nat.le_refl _) _
        replace qb0 := cell_later A26 qb0
        replace qb1 := cell_later A26 qb1
        replace qb2 := cell_later A26 qb2
        replace rb0 := cell_later A26 rb0
        replace rb1 := cell_later A26 rb1
        replace rb2 := cell_later A26 rb2
        replace nb0 := cell_later A26 nb0
        replace nb1 := cell_later A26 nb1
        replace nb2 := cell_later A26 nb2
        replace cb0 := cell_later A26 cb0
        replace cb1 := cell_later A26 cb1
        replace cb2 := cell_later A26 cb2
        replace hR := hR.below A26
        replace RW := RW.below A26
        replace RN := RN.below A26
        replace QN := QN.below A26
        replace v0 := v0.below A26
        replace v1 := v1.below A26
        replace RP := RP.below A26
        replace ldb := Nat.lt_of_lt_of_le ldb A26.size
        replace lqb := Nat.lt_of_lt_of_le lqb A26.size
        replace lrb := Nat.lt_of_lt_of_le lrb A26.size
        replace lnb := Nat.lt_of_lt_of_le lnb A26.size
        replace lcb := Nat.lt_of_lt_of_le lcb A26.size
        replace B := below_next B A26
        have S27 := A26.size
        clear A26
        have yb0 : (w11.alloc (.cells #[.int .i64 8, .slice x0 xn0 xc0, .slice x1 xn1 xc1] 32)).cell? ⟨w11.heap.size, 0, none⟩ = some (.int .i64 8) := by simp
        have yb1 : (w11.alloc (.cells #[.int .i64 8, .slice x0 xn0 xc0, .slice x1 xn1 xc1] 32)).cell? ⟨w11.heap.size, 1, none⟩ = some (.slice x0 xn0 xc0) := by simp
        have yb2 : (w11.alloc (.cells #[.int .i64 8, .slice x0 xn0 xc0, .slice x1 xn1 xc1] 32)).cell? ⟨w11.heap.size, 2, none⟩ = some (.slice x1 xn1 xc1) := by simp
        have lyb : w11.heap.size < (w11.alloc (.cells #[.int .i64 8, .slice x0 xn0 xc0, .slice x1 xn1 xc1] 32)).heap.size := by simp
        go_wp2
        go_ret
        exact ⟨rfl, B⟩
      obtain ⟨eX, eF, eC, eG, more, eR⟩ := app_back hk2 ps
      have hroom := app_room hk2
      obtain ⟨Y2, hY2⟩ : ∃ Y2, appY zs [] ws = Y2 := ⟨_, rfl⟩
      rw [hY2] at eF eC eG eR
      obtain ⟨cz, hcz⟩ : ∃ cz, putAll zs (picked Y2 ps) = cz := ⟨_, rfl⟩
      rw [hcz] at eC eG eR
      rw [HR2.out] at eR
      obtain ⟨u3, hu3⟩ : ∃ u3, scanUsed cz [] = u3 := ⟨_, rfl⟩
      obtain ⟨N3, hN3⟩ : ∃ N3, (rs ++ [ws] ++ more).length = N3 := ⟨_, rfl⟩
      obtain ⟨rv, hrv⟩ : ∃ rv, roomOf zs [] = rv := ⟨_, rfl⟩
      rw [hrv, hwl] at hroom
      have hN3' : N + 1 ≤ N3 := by have h1 := HN1.out; have h2 := HM.out; rw [List.length_append, h1] at hN3; omega
      have hNN : ¬ ((N3 : Int) < (N : Int) + 1) := by omega
      have hczl := (fault_zero eG).1
      have hy2l := (fault_zero eF).2.1
      have hN3b : N3 ≤ 64 := by have := (scanRecs_ok cz []).2; rw [eR, hN3] at this; exact this
      have HK2 : Hid _ := hk2
      have HX2 : Hid _ := eX
      have HY2 : Hid _ := hY2
      have HF3 : Hid _ := eF
      have HCR : Hid _ := eC
      have HF4 : Hid _ := eG
      have HR4 : Hid _ := eR
      have HU4 : Hid _ := hu3
      have HN3 : Hid _ := hN3
      have HRV : Hid _ := hrv
      clear hk2 eX hY2 eF eC eG eR hu3 hN3 hrv hcz
      go_wp2_with fail
      refine (implApp_is _ _ _ _ _ _ zs [] _ v0 v1 hen0 hen1 _ _ _ ws RW hn2' 0 zs Y2 HK2.out HX2.out HY2.out).mono ?_
      rintro e w11 ⟨x0, xn0, xc0, x1, xn1, xc1, rfl, dX, hb⟩
      replace qb0 := cell_later hb qb0
      replace qb1 := cell_later hb qb1
      replace qb2 := cell_later hb qb2
      replace rb0 := cell_later hb rb0
      replace rb1 := cell_later hb rb1
      replace rb2 := cell_later hb rb2
      replace nb0 := cell_later hb nb0
      replace nb1 := cell_later hb nb1
      replace nb2 := cell_later hb nb2
      replace cb0 := cell_later hb cb0
      replace cb1 := cell_later hb cb1
      replace cb2 := cell_later hb cb2
      replace hR := hR.below hb
      replace RW := RW.below hb
      replace RN := RN.below hb
      replace QN := QN.below hb
      replace v0 := v0.below hb
      replace v1 := v1.below hb
      replace RP := RP.below hb
      replace ldb := Nat.lt_of_lt_of_le ldb hb.size
      replace lqb := Nat.lt_of_lt_of_le lqb hb.size
      replace lrb := Nat.lt_of_lt_of_le lrb hb.size
      replace lnb := Nat.lt_of_lt_of_le lnb hb.size
      replace lcb := Nat.lt_of_lt_of_le lcb hb.size
      replace B := below_next B hb
      have S28 := hb.size
      clear hb
      have hxl := diskLen dX
      have hxn0 : xn0 ≤ 2097152 := by omega
      have hxn1 : xn1 ≤ 2097152 := by omega
      obtain ⟨midx, _, _, k0, k1⟩ := dX.parts
      clear dX hxl
      go_wp2_with fail
      have A29 : Below w11.heap.size w11 (w11.alloc (.cells #[.int .i64 0, .slice x0 xn0 xc0, .slice x1 xn1 xc1] 32)) := (Below.refl _ _).alloc (Nat.le_refl _) _
      replace qb0 := cell_later A29 qb0
      replace qb1 := cell_later A29 qb1
      replace qb2 := cell_later A29 qb2
      replace rb0 := cell_later A29 rb0
      replace rb1 := cell_later A29 rb1
      replace rb2 := cell_later A29 rb2
      replace nb0 := cell_later A29 nb0
      replace nb1 := cell_later A29 nb1
      replace nb2 := cell_later A29 nb2
      replace cb0 := cell_later A29 cb0
      replace cb1 := cell_later A29 cb1
      replace cb2 := cell_later A29 cb2
      replace hR := hR.below A29
      replace RW := RW.below A29
      replace RN := RN.below A29
      replace QN := QN.below A29
      replace v0 := v0.below A29
      replace v1 := v1.below A29
      replace RP := RP.below A29
      replace k0 := k0.below A29
      replace k1 := k1.below A29
      replace ldb := Nat.lt_of_lt_of_le ldb A29.size
      replace lqb := Nat.lt_of_lt_of_le lqb A29.size
      replace lrb := Nat.lt_of_lt_of_le lrb A29.size
      replace lnb := Nat.lt_of_lt_of_le lnb A29.size
      replace lcb := Nat.lt_of_lt_of_le lcb A29.size
      replace B := below_next B A29
      have S30 := A29.size
      clear A29
      have yb0 : (w11.alloc (.cells #[.int .i64 0, .slice x0 xn0 xc0, .slice x1 xn1 xc1] 32)).cell? ⟨w11.heap.size, 0, none⟩ = some (.int .i64 0) := by simp
      have yb1 : (w11.alloc (.cells #[.int .i64 0, .slice x0 xn0 xc0, .slice x1 xn1 xc1] 32)).cell? ⟨w11.heap.size, 1, none⟩ = some (.slice x0 xn0 xc0) := by simp
      have yb2 : (w11.alloc (.cells #[.int .i64 0, .slice x0 xn0 xc0, .slice x1 xn1 xc1] 32)).cell? ⟨w11.heap.size, 2, none⟩ = some (.slice x1 xn1 xc1) := by simp
      have lyb : w11.heap.size < (w11.alloc (.cells #[.int .i64 0, .slice x0 xn0 xc0, .slice x1 xn1 xc1] 32)).heap.size := by simp
      go_wp2_with fail
      refine (implCrash_is _ _ _ _ _ _ zs Y2 _ k0 k1 hxn0 hxn1 _ _ _ ps RP (by omega) 0 cz HF3.out HCR.out).mono ?_
      rintro e w12 ⟨z0, zn0, zc0, z1, zn1, zc1, rfl, dZ, hb⟩
      replace qb0 := cell_later hb qb0
      replace qb1 := cell_later hb qb1
      replace qb2 := cell_later hb qb2
      replace rb0 := cell_later hb rb0
      replace rb1 := cell_later hb rb1
      replace rb2 := cell_later hb rb2
      replace nb0 := cell_later hb nb0
      replace nb1 := cell_later hb nb1
      replace nb2 := cell_later hb nb2
      replace cb0 := cell_later hb cb0
      replace cb1 := cell_later hb cb1
      replace cb2 := cell_later hb cb2
      replace yb0 := cell_later hb yb0
      replace yb1 := cell_later hb yb1
      replace yb2 := cell_later hb yb2
      replace hR := hR.below hb
      replace RW := RW.below hb
      replace RN := RN.below hb
      replace QN := QN.below hb
      replace v0 := v0.below hb
      replace v1 := v1.below hb
      replace RP := RP.below hb
      replace k0 := k0.below hb
      replace k1 := k1.below hb
      replace ldb := Nat.lt_of_lt_of_le ldb hb.size
      replace lqb := Nat.lt_of_lt_of_le lqb hb.size
      replace lrb := Nat.lt_of_lt_of_le lrb hb.size
      replace lnb := Nat.lt_of_lt_of_le lnb hb.size
      replace lcb := Nat.lt_of_lt_of_le lcb hb.size
      replace lyb := Nat.lt_of_lt_of_le lyb hb.size
      replace B := below_next B hb
      have S31 := hb.size
      clear hb
      have hzzl := diskLen dZ
      have hzn0 : zn0 ≤ 1048576 := by omega
      have hzn1 : zn1 ≤ 1048576 := by have := hzzl.2; simp at this; omega
      obtain ⟨midz, _, _, j0, j1⟩ := dZ.parts
      clear dZ hzzl k0 k1 RP
      have hfld := dresField 0 z0 zn0 zc0 z1 zn1 zc1 w12
      go_wp2_with fail
      refine (implScan_n _ _ _ _ _ _ cz [] _ j0 j1 hzn0 hzn1 0 u3 (rs ++ [ws] ++ more) N3 HF4.out HU4.out HR4.out HN3.out).mono ?_
      rintro e w13 ⟨b0, bc, bvs, rfl, RB, QB, hb⟩
      replace qb0 := cell_later hb qb0
      replace qb1 := cell_later hb qb1
      replace qb2 := cell_later hb qb2
      replace rb0 := cell_later hb rb0
      replace rb1 := cell_later hb rb1
      replace rb2 := cell_later hb rb2
      replace nb0 := cell_later hb nb0
      replace nb1 := cell_later hb nb1
      replace nb2 := cell_later hb nb2
      replace cb0 := cell_later hb cb0
      replace cb1 := cell_later hb cb1
      replace cb2 := cell_later hb cb2
      replace yb0 := cell_later hb yb0
      replace yb1 := cell_later hb yb1
      replace yb2 := cell_later hb yb2
      replace hR := hR.below hb
      replace RW := RW.below hb
      replace RN := RN.below hb
      replace QN := QN.below hb
      replace v0 := v0.below hb
      replace v1 := v1.below hb
      replace j0 := j0.below hb
      replace j1 := j1.below hb
      replace ldb := Nat.lt_of_lt_of_le ldb hb.size
      replace lqb := Nat.lt_of_lt_of_le lqb hb.size
      replace lrb := Nat.lt_of_lt_of_le lrb hb.size
      replace lnb := Nat.lt_of_lt_of_le lnb hb.size
      replace lcb := Nat.lt_of_lt_of_le lcb hb.size
      replace lyb := Nat.lt_of_lt_of_le lyb hb.size
      replace B := below_next B hb
      have S32 := hb.size
      clear hb
      clear j0 j1 hfld
      go_wp2_with fail
      have A33 : Below w13.heap.size w13 (w13.alloc (.cells #[.int .i64 0, .int .i64 (u3 : Int), .slice b0 N3 bc] 73)) := (Below.refl _ _).alloc (Nat.le_refl _) _
      replace qb0 := cell_later A33 qb0
      replace qb1 := cell_later A33 qb1
      replace qb2 := cell_later A33 qb2
      replace rb0 := cell_later A33 rb0
      replace rb1 := cell_later A33 rb1
      replace rb2 := cell_later A33 rb2
      replace nb0 := cell_later A33 nb0
      replace nb1 := cell_later A33 nb1
      replace nb2 := cell_later A33 nb2
      replace cb0 := cell_later A33 cb0
      replace cb1 := cell_later A33 cb1
      replace cb2 := cell_later A33 cb2
      replace yb0 := cell_later A33 yb0
      replace yb1 := cell_later A33 yb1
      replace yb2 := cell_later A33 yb2
      replace hR := hR.below A33
      replace RW := RW.below A33
      replace RN := RN.below A33
      replace QN := QN.below A33
      replace v0 := v0.below A33
      replace v1 := v1.below A33
      replace RB := RB.below A33
      replace QB := QB.below A33
      replace ldb := Nat.lt_of_lt_of_le ldb A33.size
      replace lqb := Nat.lt_of_lt_of_le lqb A33.size
      replace lrb := Nat.lt_of_lt_of_le lrb A33.size
      replace lnb := Nat.lt_of_lt_of_le lnb A33.size
      replace lcb := Nat.lt_of_lt_of_le lcb A33.size
      replace lyb := Nat.lt_of_lt_of_le lyb A33.size
      replace B := below_next B A33
      have S34 := A33.size
      clear A33
      have bb0 : (w13.alloc (.cells #[.int .i64 0, .int .i64 (u3 : Int), .slice b0 N3 bc] 73)).cell? ⟨w13.heap.size, 0, none⟩ = some (.int .i64 0) := by simp
      have bb1 : (w13.alloc (.cells #[.int .i64 0, .int .i64 (u3 : Int), .slice b0 N3 bc] 73)).cell? ⟨w13.heap.size, 1, none⟩ = some (.int .i64 (u3 : Int)) := by simp
      have bb2 : (w13.alloc (.cells #[.int .i64 0, .int .i64 (u3 : Int), .slice b0 N3 bc] 73)).cell? ⟨w13.heap.size, 2, none⟩ = some (.slice b0 N3 bc) := by simp
      have lbb : w13.heap.size < (w13.alloc (.cells #[.int .i64 0, .int .i64 (u3 : Int), .slice b0 N3 bc] 73)).heap.size := by simp
      generalize (w13.alloc (.cells #[.int .i64 0, .int .i64 (u3 : Int), .slice b0 N3 bc] 73)) = w14 at *
      go_wp2
      go_loopw [14] (fun i wq => ∃ j : Nat, j ≤ N + 1 ∧ i = .int .i64 j ∧ Below w14.heap.size w14 wq) (fun i _ => N + 1 - (intOf i).toNat)
      case atStart => exact ⟨0, by omega, rfl, Below.refl _ _⟩
      case round =>
        obtain ⟨j, hj, rfl, hq⟩ := hrel
        by_cases hlt : j ≤ N
        · have hlk : (j : Int) ≤ (N : Int) := by omega
          have hq2 := below_next hq ((Below.refl _ _).drew : Below wr.heap.size wr wr.drew)
          have hjM : j < M := by have := HM.out; omega
          have hj3 : j < N3 := by omega
          have hjMi : (j : Int) < (M : Int) := by omega
          have hj3i : (j : Int) < (N3 : Int) := by omega
          obtain ⟨y1, m1, d1, ly1, uy1, e1, _, _, g1⟩ := QN.each j (by rw [HN1.out]; exact hjM)
          obtain ⟨y2, m2, d2, ly2, uy2, e2, _, _, g2⟩ := QB.each j (by rw [HN3.out]; exact hj3)
          have hsame : (rs ++ [ws] ++ more).getD j [] = (rs ++ [ws]).getD j [] := by
            have : j < (rs ++ [ws]).length := by rw [HN1.out]; exact hjM
            simp only [List.getD, List.getElem?_append_left this]
          rw [hsame] at g2
          obtain ⟨bn, fn, en, _, k1⟩ := (RN.below hq2).elem hjM e1
          obtain ⟨b2, f2, eb, _, k2⟩ := (RB.below hq2).elem hj3 e2
          cases en
          subst eb
          replace g1 := g1.below hq2
          replace g2 := g2.below hq2
          have hlen8 : ((rs ++ [ws]).getD j []).length ≤ 64 := hl64 j
          obtain rfl : m1 = m2 := by rw [← g1.nInts, ← g2.nInts]
          have hm1 : m1 ≤ 2097152 := by rw [← g1.nInts]; omega
          have c1 := cell_later hq2 nb2
          have c2' := cell_later hq2 bb2
          generalize (rs ++ [ws]).getD j [] = rr at *
          go_wp2_with fail
          go_region_held3 (fun w' => w'.cell? ⟨w13.heap.size, 2, none⟩ = some (.slice (some ⟨b2, f2, none⟩) N3 bc) ∧ w'.cell? ⟨w4.heap.size, 2, none⟩ = some (.slice (some ⟨bo, fo, none⟩) M mc) ∧ w'.cell? ⟨b2, f2 + j, none⟩ = some (.slice y2 m1 d2) ∧ w'.cell? ⟨bo, fo + j, none⟩ = some (.slice y1 m1 d1)) (exact ⟨c2', c1, k2, k1⟩)
            (first | (go_at_call 25; refine (lwNums_yes _ _ m1 d2 d1 rr _ g2 g1 hm1).mono ?_; rintro e w15 ⟨rfl, hb⟩; replace hq2 := below_next hq2 hb; replace c1 := cell_later hb c1; replace c2' := cell_later hb c2'; replace k1 := cell_later hb k1; replace k2 := cell_later hb k2; clear hb))
          go_wp2
          go_roundw
          case rel => exact ⟨j + 1, by omega, by go_num, hq2⟩
          case measure => simp [intOf]; omega
        · obtain rfl : j = N + 1 := by omega
          have hlk : ¬ (((N + 1 : Nat) : Int) ≤ (N : Int)) := by omega
          replace qb0 := cell_later hq qb0
          replace qb1 := cell_later hq qb1
          replace qb2 := cell_later hq qb2
          replace rb0 := cell_later hq rb0
          replace rb1 := cell_later hq rb1
          replace rb2 := cell_later hq rb2
          replace nb0 := cell_later hq nb0
          replace nb1 := cell_later hq nb1
          replace nb2 := cell_later hq nb2
          replace cb0 := cell_later hq cb0
          replace cb1 := cell_later hq cb1
          replace cb2 := cell_later hq cb2
          replace yb0 := cell_later hq yb0
          replace yb1 := cell_later hq yb1
          replace yb2 := cell_later hq yb2
          replace bb0 := cell_later hq bb0
          replace bb1 := cell_later hq bb1
          replace bb2 := cell_later hq bb2
          replace hR := hR.below hq
          replace RW := RW.below hq
          replace RN := RN.below hq
          replace QN := QN.below hq
          replace v0 := v0.below hq
          replace v1 := v1.below hq
          replace RB := RB.below hq
          replace QB := QB.below hq
          replace ldb := Nat.lt_of_lt_of_le ldb hq.size
          replace lqb := Nat.lt_of_lt_of_le lqb hq.size
          replace lrb := Nat.lt_of_lt_of_le lrb hq.size
          replace lnb := Nat.lt_of_lt_of_le lnb hq.size
          replace lcb := Nat.lt_of_lt_of_le lcb hq.size
          replace lyb := Nat.lt_of_lt_of_le lyb hq.size
          replace lbb := Nat.lt_of_lt_of_le lbb hq.size
          replace B := below_next B hq
          have S35 := hq.size
          clear hq
          go_wp2_with fail
          refine (implRoom_is _ _ _ _ _ _ zs [] _ v0 v1 (by omega) (by omega) 0 rv HF2.out HRV.out).mono ?_
          rintro e w16 ⟨rfl, hb⟩
          replace qb0 := cell_later hb qb0
          replace qb1 := cell_later hb qb1
          replace qb2 := cell_later hb qb2
          replace rb0 := cell_later hb rb0
          replace rb1 := cell_later hb rb1
          replace rb2 := cell_later hb rb2
          replace nb0 := cell_later hb nb0
          replace nb1 := cell_later hb nb1
          replace nb2 := cell_later hb nb2
          replace cb0 := cell_later hb cb0
          replace cb1 := cell_later hb cb1
          replace cb2 := cell_later hb cb2
          replace yb0 := cell_later hb yb0
          replace yb1 := cell_later hb yb1
          replace yb2 := cell_later hb yb2
          replace bb0 := cell_later hb bb0
          replace bb1 := cell_later hb bb1
          replace bb2 := cell_later hb bb2
          replace hR := hR.below hb
          replace RW := RW.below hb
          replace RN := RN.below hb
          replace QN := QN.below hb
          replace v0 := v0.below hb
          replace v1 := v1.below hb
          replace RB := RB.below hb
          replace QB := QB.below hb
          replace ldb := Nat.lt_of_lt_of_le ldb hb.size
          replace lqb := Nat.lt_of_lt_of_le lqb hb.size
          replace lrb := Nat.lt_of_lt_of_le lrb hb.size
          replace lnb := Nat.lt_of_lt_of_le lnb hb.size
          replace lcb := Nat.lt_of_lt_of_le lcb hb.size
          replace lyb := Nat.lt_of_lt_of_le lyb hb.size
          replace lbb := Nat.lt_of_lt_of_le lbb hb.size
          replace B := below_next B hb
          have S36 := hb.size
          clear hb
          have hfld := nresField 0 rv w16
          go_wp2_with fail
          refine (implSum_any _ _ _ ws _ RW (by omega)).mono ?_
          rintro e w17 ⟨rfl, rfl⟩
          go_wp2_with fail
          refine (specSum_any _ _ _ ws _ RW (by omega)).mono ?_
          rintro e w18 ⟨rfl, hb⟩
          replace qb0 := cell_later hb qb0
          replace qb1 := cell_later hb qb1
          replace qb2 := cell_later hb qb2
          replace rb0 := cell_later hb rb0
          replace rb1 := cell_later hb rb1
          replace rb2 := cell_later hb rb2
          replace nb0 := cell_later hb nb0
          replace nb1 := cell_later hb nb1
          replace nb2 := cell_later hb nb2
          replace cb0 := cell_later hb cb0
          replace cb1 := cell_later hb cb1
          replace cb2 := cell_later hb cb2
          replace yb0 := cell_later hb yb0
          replace yb1 := cell_later hb yb1
          replace yb2 := cell_later hb yb2
          replace bb0 := cell_later hb bb0
          replace bb1 := cell_later hb bb1
          replace bb2 := cell_later hb bb2
          replace hR := hR.below hb
          replace RW := RW.below hb
          replace RN := RN.below hb
          replace QN := QN.below hb
          replace v0 := v0.below hb
          replace v1 := v1.below hb
          replace RB := RB.below hb
          replace QB := QB.below hb
          replace ldb := Nat.lt_of_lt_of_le ldb hb.size
          replace lqb := Nat.lt_of_lt_of_le lqb hb.size
          replace lrb := Nat.lt_of_lt_of_le lrb hb.size
          replace lnb := Nat.lt_of_lt_of_le lnb hb.size
          replace lcb := Nat.lt_of_lt_of_le lcb hb.size
          replace lyb := Nat.lt_of_lt_of_le lyb hb.size
          replace lbb := Nat.lt_of_lt_of_le lbb hb.size
          replace B := below_next B hb
          have S37 := hb.size
          clear hb
          go_wp2
          go_ret
          exact ⟨by first | rfl | exact ret_bool (by simp), B⟩

end Go.Proofs.Ytkpbmffklcgecaa
