/- What is taken is free no more, and what nobody refers to is free: the walk of FnBlocks. -/
import Derived.Test.YtlblbjebbecgbaaQ1
import Derived.Test.YtlblbjebbecgbaaF2
import Derived.Test.YtlblbjebbecgbaaP0b
import Derived.Test.YtlblbjebbecgbaaFacts2
import Derived.Test.YtlblbjebbecgbaaRow
namespace Go.Proofs.Ytlblbjebbecgbaa
open Go.RowKit

theorem nresField (c v : Int) (w : World) : (Instr.field 43 (.agg #[.int .i64 c, .int .i64 v]) 1).run Try.prog w = .ok (.int .i64 v) w := by kernel_rfl
theorem bresCode (c a : Int) (b0 : Option Addr) (m0 d0 : Nat) (w : World) : (Instr.field 51 (.agg #[.int .i64 c, .int .i64 a, .slice b0 m0 d0]) 0).run Try.prog w = .ok (.int .i64 c) w := by kernel_rfl

set_option maxRecDepth 20000 in
set_option maxHeartbeats 8000000 in
theorem lawBlocks (ac : Option Addr) (nc cc : Nat) (cs : List Nat) (w : World) (h : RowAt w false 0 w.heap.size 1 ac nc cc (bys cs)) (hcs : ∀ i, cs.getD i 0 < 256) (hn : nc ≤ maxLen) :
    Calls Try.prog 4 #[.slice ac nc cc] w fun e w' => e = .returned (.bool true) ∧ Below w.heap.size w w' := by
  unfold maxLen at hn
  have B : Below w.heap.size w w := Below.refl _ _
  by_cases hbig : 1048576 < nc
  · go_enter Try.func4, Try.ntmps4
    go_wp2_with fail
    refine (lwBig_is ac nc cc _ true (by simp; exact hbig)).mono ?_
    rintro e w1 ⟨rfl, rfl⟩
    go_wp2
    go_ret
    exact ⟨rfl, B⟩
  have hc : nc ≤ 1048576 := by omega
  go_enter Try.func4, Try.ntmps4
  go_wp2_with fail
  refine (lwBig_is ac nc cc _ false (by simp; omega)).mono ?_
  rintro e w0 ⟨rfl, rfl⟩
  go_wp2_with fail
  refine (drawTake_any ac nc cc cs _ (by exact h) hcs (Nat.le_refl _) hc).mono ?_
  rintro e w1 ⟨a0, n0, c0, bl, x, rfl, hn0, t0, hb⟩
  replace B := below_next B hb
  have S1 := hb.size
  clear hb
  have hbl := t0.nPairs
  have hm : n0 ≤ 2097152 := by omega
  by_cases hk : takeCode bl x = 0
  rotate_left 1
  · obtain ⟨k, hkk⟩ : ∃ k, takeCode bl x = k := ⟨_, rfl⟩
    rw [hkk] at hk
    have hne : (k != 0) = true := by simp [hk]
    have HK : Hid _ := hkk
    obtain ⟨at', hat⟩ : ∃ at', (takeAt bl x : Int) = at' := ⟨_, rfl⟩
    have HAT : Hid _ := hat
    clear hkk hk hat hbl
    go_wp2_with fail
    refine (implTakeBlock_is _ _ _ bl _ t0 hm x k at' _ HK.out HAT.out rfl).mono ?_
    rintro e w2 ⟨r0, rn, rc, rfl, -, hb⟩
    replace t0 := t0.below hb
    replace B := below_next B hb
    have S2 := hb.size
    clear hb
    go_wp2_with fail
    have A3 : Below w2.heap.size w2 (w2.alloc (.cells #[.int .i64 k, .int .i64 at', .slice r0 rn rc] 51)) := (Below.refl _ _).alloc (Nat.le_refl _) _
    replace t0 := t0.below A3
    replace B := below_next B A3
    have S4 := A3.size
    clear A3
    have rb0 : (w2.alloc (.cells #[.int .i64 k, .int .i64 at', .slice r0 rn rc] 51)).cell? ⟨w2.heap.size, 0, none⟩ = some (.int .i64 k) := by simp
    have rb1 : (w2.alloc (.cells #[.int .i64 k, .int .i64 at', .slice r0 rn rc] 51)).cell? ⟨w2.heap.size, 1, none⟩ = some (.int .i64 at') := by simp
    have rb2 : (w2.alloc (.cells #[.int .i64 k, .int .i64 at', .slice r0 rn rc] 51)).cell? ⟨w2.heap.size, 2, none⟩ = some (.slice r0 rn rc) := by simp
    have lrb : w2.heap.size < (w2.alloc (.cells #[.int .i64 k, .int .i64 at', .slice r0 rn rc] 51)).heap.size := by simp
    have D4 : Below (w2.alloc (.cells #[.int .i64 k, .int .i64 at', .slice r0 rn rc] 51)).heap.size (w2.alloc (.cells #[.int .i64 k, .int .i64 at', .slice r0 rn rc] 51)) (w2.alloc (.cells #[.int .i64 k, .int .i64 at', .slice r0 rn rc] 51)).drew := (Below.refl _ _).drew
    replace rb0 := cell_later D4 rb0
    replace rb1 := cell_later D4 rb1
    replace rb2 := cell_later D4 rb2
    replace t0 := t0.below D4
    replace lrb := Nat.lt_of_lt_of_le lrb D4.size
    replace B := below_next B D4
    have S5 := D4.size
    clear D4
    go_wp2_with fail
    go_region_held3 (fun w' => w'.cell? ⟨w2.heap.size, 0, none⟩ = some (.int .i64 k)) (exact rb0)
      (first | (go_at_call 31; refine (specTakeBlock_is _ _ _ bl _ t0 hm x k at' _ HK.out HAT.out rfl).mono ?_; rintro e w4 ⟨p0, pn, pc, rfl, -, hb⟩; replace rb0 := cell_later hb rb0; replace rb1 := cell_later hb rb1; replace rb2 := cell_later hb rb2; replace t0 := t0.below hb; replace lrb := Nat.lt_of_lt_of_le lrb hb.size; replace B := below_next B hb; clear hb; have hfld := bresCode k at' p0 pn pc))
    go_wp2
    go_ret
    exact ⟨by first | rfl | exact ret_bool (by simp), B⟩
  obtain ⟨k, T⟩ := taken hk
  obtain ⟨b1, hb1⟩ : ∃ b1, bl.set k (1, x) = b1 := ⟨_, rfl⟩
  obtain ⟨b2, hb2⟩ : ∃ b2, bl.set k (2, x) = b2 := ⟨_, rfl⟩
  have hl1 : b1.length = n0 := by rw [← hb1, List.length_set]; exact hbl
  have hl2 : b2.length = n0 := by rw [← hb2, List.length_set]; exact hbl
  obtain ⟨fv, hfv⟩ : ∃ fv, (freeN bl : Int) = fv := ⟨_, rfl⟩
  have hkn : k < n0 := by have := T.lt; omega
  have hki : (k : Int) < n0 := by omega
  have f0 := T.f0
  have f1 := T.f1
  have sc := T.sc
  have sl := T.sl
  have ac' := T.ac
  have dl := T.dl
  have ad := T.ad
  have el := T.el
  have fn := T.fn
  have li := T.li
  rw [hb1] at f1 sc sl dl ad el fn li
  rw [hb2] at sl ac' dl
  rw [hfv] at fn
  have HK : Hid _ := hk
  have HAT : Hid ((takeAt bl x : Int) = (k : Int)) := by show _ = _; rw [T.at']
  have HLI : Hid _ := li
  have HF0 : Hid _ := f0
  have HF1 : Hid _ := f1
  have HSC : Hid _ := sc
  have HSA : Hid (atIf (shareCode b1 (k : Int)) (k : Int) = (k : Int)) := by show _ = _; rw [sc]; rfl
  have HSL : Hid _ := sl
  have HAC : Hid _ := ac'
  have HAA : Hid (atIf (askCode b2 (k : Int)) (k : Int) = (k : Int)) := by show _ = _; rw [ac']; rfl
  have HDL : Hid _ := dl
  have HAD : Hid _ := ad
  have HAB : Hid (atIf (askCode b1 (k : Int)) (k : Int) = (k : Int)) := by show _ = _; rw [ad]; rfl
  have HEL : Hid _ := el
  have HV0 : Hid (freeVal bl = fv) := by show _ = _; rw [freeVal, if_pos f0, hfv]
  have HV1 : Hid (freeVal b1 = fv - 1) := by show _ = _; rw [freeVal, if_pos f1, fn]
  have hfv0 : 0 ≤ fv ∧ fv ≤ 1000 := by have := freeN_le bl; omega
  have HWK : Hid _ := T.was
  have HN0 : Hid _ := T.n0
  have HN1 : Hid _ := T.n1
  have HB1 : Hid _ := hb1
  clear T hk f0 f1 sc sl ac' dl ad el fn li hb1 hb2 hfv
  go_wp2_with fail
  refine (implTakeBlock_is _ _ _ bl _ t0 hm x 0 k b1 HK.out HAT.out HLI.out).mono ?_
  rintro e w2 ⟨ra, rn, rc, rfl, t1, hb⟩
  replace t0 := t0.below hb
  replace B := below_next B hb
  have S6 := hb.size
  clear hb
  obtain rfl : n0 = rn := by rw [← t1.nPairs]; exact hl1.symm
  go_wp2_with fail
  have A7 : Below w2.heap.size w2 (w2.alloc (.cells #[.int .i64 0, .int .i64 (k : Int), .slice ra n0 rc] 51)) := (Below.refl _ _).alloc (Nat.le_refl _) _
  replace t0 := t0.below A7
  replace t1 := t1.below A7
  replace B := below_next B A7
  have S8 := A7.size
  clear A7
  have rb0 : (w2.alloc (.cells #[.int .i64 0, .int .i64 (k : Int), .slice ra n0 rc] 51)).cell? ⟨w2.heap.size, 0, none⟩ = some (.int .i64 0) := by simp
  have rb1 : (w2.alloc (.cells #[.int .i64 0, .int .i64 (k : Int), .slice ra n0 rc] 51)).cell? ⟨w2.heap.size, 1, none⟩ = some (.int .i64 (k : Int)) := by simp
  have rb2 : (w2.alloc (.cells #[.int .i64 0, .int .i64 (k : Int), .slice ra n0 rc] 51)).cell? ⟨w2.heap.size, 2, none⟩ = some (.slice ra n0 rc) := by simp
  have lrb : w2.heap.size < (w2.alloc (.cells #[.int .i64 0, .int .i64 (k : Int), .slice ra n0 rc] 51)).heap.size := by simp
  go_wp2_with fail
  refine (implFree_is _ _ _ bl _ t0 hm 0 fv HF0.out HV0.out).mono ?_
  rintro e w3 ⟨rfl, hb⟩
  replace rb0 := cell_later hb rb0
  replace rb1 := cell_later hb rb1
  replace rb2 := cell_later hb rb2
  replace t0 := t0.below hb
  replace t1 := t1.below hb
  replace lrb := Nat.lt_of_lt_of_le lrb hb.size
  replace B := below_next B hb
  have S9 := hb.size
  clear hb
  go_wp2_with fail
  have A10 : Below w3.heap.size w3 (w3.alloc (.cells #[.int .i64 0, .int .i64 fv] 43)) := (Below.refl _ _).alloc (Nat.le_refl _) _
  replace rb0 := cell_later A10 rb0
  replace rb1 := cell_later A10 rb1
  replace rb2 := cell_later A10 rb2
  replace t0 := t0.below A10
  replace t1 := t1.below A10
  replace lrb := Nat.lt_of_lt_of_le lrb A10.size
  replace B := below_next B A10
  have S11 := A10.size
  clear A10
  have fb0 : (w3.alloc (.cells #[.int .i64 0, .int .i64 fv] 43)).cell? ⟨w3.heap.size, 0, none⟩ = some (.int .i64 0) := by simp
  have fb1 : (w3.alloc (.cells #[.int .i64 0, .int .i64 fv] 43)).cell? ⟨w3.heap.size, 1, none⟩ = some (.int .i64 fv) := by simp
  have lfb : w3.heap.size < (w3.alloc (.cells #[.int .i64 0, .int .i64 fv] 43)).heap.size := by simp
  go_wp2_with fail
  refine (implShareBlock_is _ _ _ b1 _ t1 hm (k : Int) 0 k b2 HSC.out HSA.out HSL.out).mono ?_
  rintro e w4 ⟨sa, sn, sc, rfl, t2, hb⟩
  replace rb0 := cell_later hb rb0
  replace rb1 := cell_later hb rb1
  replace rb2 := cell_later hb rb2
  replace fb0 := cell_later hb fb0
  replace fb1 := cell_later hb fb1
  replace t0 := t0.below hb
  replace t1 := t1.below hb
  replace lrb := Nat.lt_of_lt_of_le lrb hb.size
  replace lfb := Nat.lt_of_lt_of_le lfb hb.size
  replace B := below_next B hb
  have S12 := hb.size
  clear hb
  obtain rfl : n0 = sn := by rw [← t2.nPairs]; exact hl2.symm
  go_wp2_with fail
  have A13 : Below w4.heap.size w4 (w4.alloc (.cells #[.int .i64 0, .int .i64 (k : Int), .slice sa n0 sc] 51)) := (Below.refl _ _).alloc (Nat.le_refl _) _
  replace rb0 := cell_later A13 rb0
  replace rb1 := cell_later A13 rb1
  replace rb2 := cell_later A13 rb2
  replace fb0 := cell_later A13 fb0
  replace fb1 := cell_later A13 fb1
  replace t0 := t0.below A13
  replace t1 := t1.below A13
  replace t2 := t2.below A13
  replace lrb := Nat.lt_of_lt_of_le lrb A13.size
  replace lfb := Nat.lt_of_lt_of_le lfb A13.size
  replace B := below_next B A13
  have S14 := A13.size
  clear A13
  have sb0 : (w4.alloc (.cells #[.int .i64 0, .int .i64 (k : Int), .slice sa n0 sc] 51)).cell? ⟨w4.heap.size, 0, none⟩ = some (.int .i64 0) := by simp
  have sb1 : (w4.alloc (.cells #[.int .i64 0, .int .i64 (k : Int), .slice sa n0 sc] 51)).cell? ⟨w4.heap.size, 1, none⟩ = some (.int .i64 (k : Int)) := by simp
  have sb2 : (w4.alloc (.cells #[.int .i64 0, .int .i64 (k : Int), .slice sa n0 sc] 51)).cell? ⟨w4.heap.size, 2, none⟩ = some (.slice sa n0 sc) := by simp
  have lsb : w4.heap.size < (w4.alloc (.cells #[.int .i64 0, .int .i64 (k : Int), .slice sa n0 sc] 51)).heap.size := by simp
  go_wp2_with fail
  refine (implDropBlock_is _ _ _ b2 _ t2 hm (k : Int) 0 k b1 HAC.out HAA.out HDL.out).mono ?_
  rintro e w5 ⟨da, dn, dc, rfl, t3, hb⟩
  replace rb0 := cell_later hb rb0
  replace rb1 := cell_later hb rb1
  replace rb2 := cell_later hb rb2
  replace fb0 := cell_later hb fb0
  replace fb1 := cell_later hb fb1
  replace sb0 := cell_later hb sb0
  replace sb1 := cell_later hb sb1
  replace sb2 := cell_later hb sb2
  replace t0 := t0.below hb
  replace t1 := t1.below hb
  replace t2 := t2.below hb
  replace lrb := Nat.lt_of_lt_of_le lrb hb.size
  replace lfb := Nat.lt_of_lt_of_le lfb hb.size
  replace lsb := Nat.lt_of_lt_of_le lsb hb.size
  replace B := below_next B hb
  have S15 := hb.size
  clear hb
  obtain rfl : n0 = dn := by rw [← t3.nPairs]; exact hl1.symm
  go_wp2_with fail
  have A16 : Below w5.heap.size w5 (w5.alloc (.cells #[.int .i64 0, .int .i64 (k : Int), .slice da n0 dc] 51)) := (Below.refl _ _).alloc (Nat.le_refl _) _
  replace rb0 := cell_later A16 rb0
  replace rb1 := cell_later A16 rb1
  replace rb2 := cell_later A16 rb2
  replace fb0 := cell_later A16 fb0
  replace fb1 := cell_later A16 fb1
  replace sb0 := cell_later A16 sb0
  replace sb1 := cell_later A16 sb1
  replace sb2 := cell_later A16 sb2
  replace t0 := t0.below A16
  replace t1 := t1.below A16
  replace t2 := t2.below A16
  replace t3 := t3.below A16
  replace lrb := Nat.lt_of_lt_of_le lrb A16.size
  replace lfb := Nat.lt_of_lt_of_le lfb A16.size
  replace lsb := Nat.lt_of_lt_of_le lsb A16.size
  replace B := below_next B A16
  have S17 := A16.size
  clear A16
  have db0 : (w5.alloc (.cells #[.int .i64 0, .int .i64 (k : Int), .slice da n0 dc] 51)).cell? ⟨w5.heap.size, 0, none⟩ = some (.int .i64 0) := by simp
  have db1 : (w5.alloc (.cells #[.int .i64 0, .int .i64 (k : Int), .slice da n0 dc] 51)).cell? ⟨w5.heap.size, 1, none⟩ = some (.int .i64 (k : Int)) := by simp
  have db2 : (w5.alloc (.cells #[.int .i64 0, .int .i64 (k : Int), .slice da n0 dc] 51)).cell? ⟨w5.heap.size, 2, none⟩ = some (.slice da n0 dc) := by simp
  have ldb : w5.heap.size < (w5.alloc (.cells #[.int .i64 0, .int .i64 (k : Int), .slice da n0 dc] 51)).heap.size := by simp
  go_wp2_with fail
  refine (implDropBlock_is _ _ _ b1 _ t3 hm (k : Int) 0 k bl HAD.out HAB.out HEL.out).mono ?_
  rintro e w6 ⟨ea, en, ec, rfl, t4, hb⟩
  replace rb0 := cell_later hb rb0
  replace rb1 := cell_later hb rb1
  replace rb2 := cell_later hb rb2
  replace fb0 := cell_later hb fb0
  replace fb1 := cell_later hb fb1
  replace sb0 := cell_later hb sb0
  replace sb1 := cell_later hb sb1
  replace sb2 := cell_later hb sb2
  replace db0 := cell_later hb db0
  replace db1 := cell_later hb db1
  replace db2 := cell_later hb db2
  replace t0 := t0.below hb
  replace t1 := t1.below hb
  replace t2 := t2.below hb
  replace t3 := t3.below hb
  replace lrb := Nat.lt_of_lt_of_le lrb hb.size
  replace lfb := Nat.lt_of_lt_of_le lfb hb.size
  replace lsb := Nat.lt_of_lt_of_le lsb hb.size
  replace ldb := Nat.lt_of_lt_of_le ldb hb.size
  replace B := below_next B hb
  have S18 := hb.size
  clear hb
  obtain rfl : n0 = en := by rw [← t4.nPairs]; exact hbl.symm
  go_wp2_with fail
  have A19 : Below w6.heap.size w6 (w6.alloc (.cells #[.int .i64 0, .int .i64 (k : Int), .slice ea n0 ec] 51)) := (Below.refl _ _).alloc (Nat.le_refl _) _
  replace rb0 := cell_later A19 rb0
  replace rb1 := cell_later A19 rb1
  replace rb2 := cell_later A19 rb2
  replace fb0 := cell_later A19 fb0
  replace fb1 := cell_later A19 fb1
  replace sb0 := cell_later A19 sb0
  replace sb1 := cell_later A19 sb1
  replace sb2 := cell_later A19 sb2
  replace db0 := cell_later A19 db0
  replace db1 := cell_later A19 db1
  replace db2 := cell_later A19 db2
  replace t0 := t0.below A19
  replace t1 := t1.below A19
  replace t2 := t2.below A19
  replace t3 := t3.below A19
  replace t4 := t4.below A19
  replace lrb := Nat.lt_of_lt_of_le lrb A19.size
  replace lfb := Nat.lt_of_lt_of_le lfb A19.size
  replace lsb := Nat.lt_of_lt_of_le lsb A19.size
  replace ldb := Nat.lt_of_lt_of_le ldb A19.size
  replace B := below_next B A19
  have S20 := A19.size
  clear A19
  have eb0 : (w6.alloc (.cells #[.int .i64 0, .int .i64 (k : Int), .slice ea n0 ec] 51)).cell? ⟨w6.heap.size, 0, none⟩ = some (.int .i64 0) := by simp
  have eb1 : (w6.alloc (.cells #[.int .i64 0, .int .i64 (k : Int), .slice ea n0 ec] 51)).cell? ⟨w6.heap.size, 1, none⟩ = some (.int .i64 (k : Int)) := by simp
  have eb2 : (w6.alloc (.cells #[.int .i64 0, .int .i64 (k : Int), .slice ea n0 ec] 51)).cell? ⟨w6.heap.size, 2, none⟩ = some (.slice ea n0 ec) := by simp
  have leb : w6.heap.size < (w6.alloc (.cells #[.int .i64 0, .int .i64 (k : Int), .slice ea n0 ec] 51)).heap.size := by simp
  have D7 : Below (w6.alloc (.cells #[.int .i64 0, .int .i64 (k : Int), .slice ea n0 ec] 51)).heap.size (w6.alloc (.cells #[.int .i64 0, .int .i64 (k : Int), .slice ea n0 ec] 51)) (w6.alloc (.cells #[.int .i64 0, .int .i64 (k : Int), .slice ea n0 ec] 51)).drew := (Below.refl _ _).drew
  replace rb0 := cell_later D7 rb0
  replace rb1 := cell_later D7 rb1
  replace rb2 := cell_later D7 rb2
  replace fb0 := cell_later D7 fb0
  replace fb1 := cell_later D7 fb1
  replace sb0 := cell_later D7 sb0
  replace sb1 := cell_later D7 sb1
  replace sb2 := cell_later D7 sb2
  replace db0 := cell_later D7 db0
  replace db1 := cell_later D7 db1
  replace db2 := cell_later D7 db2
  replace eb0 := cell_later D7 eb0
  replace eb1 := cell_later D7 eb1
  replace eb2 := cell_later D7 eb2
  replace t0 := t0.below D7
  replace t1 := t1.below D7
  replace t2 := t2.below D7
  replace t3 := t3.below D7
  replace t4 := t4.below D7
  replace lrb := Nat.lt_of_lt_of_le lrb D7.size
  replace lfb := Nat.lt_of_lt_of_le lfb D7.size
  replace lsb := Nat.lt_of_lt_of_le lsb D7.size
  replace ldb := Nat.lt_of_lt_of_le ldb D7.size
  replace leb := Nat.lt_of_lt_of_le leb D7.size
  replace B := below_next B D7
  have S21 := D7.size
  clear D7
  have q9 : IntKind.i64.wrap (fv - 1) = fv - 1 := wrapI_same _ (by omega)
  have hfe : ((fv - 1) != (fv - 1)) = false := by simp
  have hnn : ((n0 : Int) != (n0 : Int)) = false := by simp
  have hfld := nresField 0 (fv - 1)
  go_wp2_with fail
  go_region_held3 (fun w' => w'.cell? ⟨w3.heap.size, 0, none⟩ = some (.int .i64 0) ∧ w'.cell? ⟨w3.heap.size, 1, none⟩ = some (.int .i64 fv) ∧ w'.cell? ⟨w4.heap.size, 0, none⟩ = some (.int .i64 0) ∧ w'.cell? ⟨w5.heap.size, 0, none⟩ = some (.int .i64 0) ∧ w'.cell? ⟨w6.heap.size, 0, none⟩ = some (.int .i64 0) ∧ w'.cell? ⟨w2.heap.size, 2, none⟩ = some (.slice ra n0 rc) ∧ w'.cell? ⟨w5.heap.size, 2, none⟩ = some (.slice da n0 dc)) (exact ⟨fb0, fb1, sb0, db0, eb0, rb2, db2⟩)
    (first | (go_at_call 32; (with_reducible refine (implFree_is ra n0 rc b1 _ t1 hm 0 (fv - 1) HF1.out HV1.out).mono ?_); rintro e w8 ⟨rfl, hb⟩; replace rb0 := cell_later hb rb0; replace rb1 := cell_later hb rb1; replace rb2 := cell_later hb rb2; replace fb0 := cell_later hb fb0; replace fb1 := cell_later hb fb1; replace sb0 := cell_later hb sb0; replace sb1 := cell_later hb sb1; replace sb2 := cell_later hb sb2; replace db0 := cell_later hb db0; replace db1 := cell_later hb db1; replace db2 := cell_later hb db2; replace eb0 := cell_later hb eb0; replace eb1 := cell_later hb eb1; replace eb2 := cell_later hb eb2; replace t0 := t0.below hb; replace t1 := t1.below hb; replace t2 := t2.below hb; replace t3 := t3.below hb; replace t4 := t4.below hb; replace lrb := Nat.lt_of_lt_of_le lrb hb.size; replace lfb := Nat.lt_of_lt_of_le lfb hb.size; replace lsb := Nat.lt_of_lt_of_le lsb hb.size; replace ldb := Nat.lt_of_lt_of_le ldb hb.size; replace leb := Nat.lt_of_lt_of_le leb hb.size; replace B := below_next B hb; clear hb) | (go_at_call 32; (with_reducible refine (implFree_is da n0 dc b1 _ t3 hm 0 (fv - 1) HF1.out HV1.out).mono ?_); rintro e w9 ⟨rfl, hb⟩; replace rb0 := cell_later hb rb0; replace rb1 := cell_later hb rb1; replace rb2 := cell_later hb rb2; replace fb0 := cell_later hb fb0; replace fb1 := cell_later hb fb1; replace sb0 := cell_later hb sb0; replace sb1 := cell_later hb sb1; replace sb2 := cell_later hb sb2; replace db0 := cell_later hb db0; replace db1 := cell_later hb db1; replace db2 := cell_later hb db2; replace eb0 := cell_later hb eb0; replace eb1 := cell_later hb eb1; replace eb2 := cell_later hb eb2; replace t0 := t0.below hb; replace t1 := t1.below hb; replace t2 := t2.below hb; replace t3 := t3.below hb; replace t4 := t4.below hb; replace lrb := Nat.lt_of_lt_of_le lrb hb.size; replace lfb := Nat.lt_of_lt_of_le lfb hb.size; replace lsb := Nat.lt_of_lt_of_le lsb hb.size; replace ldb := Nat.lt_of_lt_of_le ldb hb.size; replace leb := Nat.lt_of_lt_of_le leb hb.size; replace B := below_next B hb; clear hb))
  clear q9
  go_wp2
  go_loopw [10] (fun i wq => ∃ j : Nat, j ≤ n0 ∧ i = .int .i64 j ∧ Below w9.heap.size w9 wq) (fun i _ => n0 - (intOf i).toNat)
  case atStart => exact ⟨0, by omega, rfl, Below.refl _ _⟩
  case round =>
    obtain ⟨j, hj, rfl, hq⟩ := hrel
    by_cases hlt : j < n0
    · have hlk : (j : Int) < n0 := by omega
      have hq2 := below_next hq ((Below.refl _ _).drew : Below wr.heap.size wr wr.drew)
      obtain ⟨bA, fA, rfl, _, _, _, cA, dA, _⟩ := (t0.below hq2).pair hlt
      obtain ⟨bE, fE, rfl, _, _, _, cE, dE, _⟩ := (t4.below hq2).pair hlt
      obtain ⟨bR, fR, rfl, _, _, _, cR, dR, _⟩ := (t1.below hq2).pair hlt
      obtain ⟨bD, fD, rfl, _, _, _, cD, dD, _⟩ := (t3.below hq2).pair hlt
      obtain ⟨x1, hx1⟩ : ∃ x1, (bl.getD j (0, 0)).1 = x1 := ⟨_, rfl⟩
      obtain ⟨y1, hy1⟩ : ∃ y1, (bl.getD j (0, 0)).2 = y1 := ⟨_, rfl⟩
      obtain ⟨x2, hx2⟩ : ∃ x2, (b1.getD j (0, 0)).1 = x2 := ⟨_, rfl⟩
      obtain ⟨y2, hy2⟩ : ∃ y2, (b1.getD j (0, 0)).2 = y2 := ⟨_, rfl⟩
      rw [hx1] at cA cE
      rw [hy1] at dA dE
      rw [hx2] at cR cD
      rw [hy2] at dR dD
      clear hx1 hy1 hx2 hy2
      have g1 := cell_later hq2 eb2
      have g2 := cell_later hq2 db2
      have g3 := cell_later hq2 rb2
      go_wp2_with fail
      go_region_held3 (fun w' => w'.cell? ⟨w6.heap.size, 2, none⟩ = some (.slice (some ⟨bE, fE, none⟩) n0 ec) ∧ w'.cell? ⟨w5.heap.size, 2, none⟩ = some (.slice (some ⟨bD, fD, none⟩) n0 dc) ∧ w'.cell? ⟨w2.heap.size, 2, none⟩ = some (.slice (some ⟨bR, fR, none⟩) n0 rc) ∧ w'.cell? ⟨bA, fA + j * 2, none⟩ = some (.int .i64 x1) ∧ w'.cell? ⟨bA, fA + j * 2 + 1, none⟩ = some (.int .i64 y1) ∧ w'.cell? ⟨bE, fE + j * 2, none⟩ = some (.int .i64 x1) ∧ w'.cell? ⟨bE, fE + j * 2 + 1, none⟩ = some (.int .i64 y1) ∧ w'.cell? ⟨bR, fR + j * 2, none⟩ = some (.int .i64 x2) ∧ w'.cell? ⟨bR, fR + j * 2 + 1, none⟩ = some (.int .i64 y2) ∧ w'.cell? ⟨bD, fD + j * 2, none⟩ = some (.int .i64 x2) ∧ w'.cell? ⟨bD, fD + j * 2 + 1, none⟩ = some (.int .i64 y2)) (exact ⟨g1, g2, g3, cA, dA, cE, dE, cR, dR, cD, dD⟩) (fail)
      go_wp2
      go_roundw
      case rel => exact ⟨j + 1, by omega, by go_num, hq2⟩
      case measure => simp [intOf]; omega
    · obtain rfl : j = n0 := by omega
      have hlk : ¬ ((j : Int) < (j : Int)) := by omega
      replace rb0 := cell_later hq rb0
      replace rb1 := cell_later hq rb1
      replace rb2 := cell_later hq rb2
      replace fb0 := cell_later hq fb0
      replace fb1 := cell_later hq fb1
      replace sb0 := cell_later hq sb0
      replace sb1 := cell_later hq sb1
      replace sb2 := cell_later hq sb2
      replace db0 := cell_later hq db0
      replace db1 := cell_later hq db1
      replace db2 := cell_later hq db2
      replace eb0 := cell_later hq eb0
      replace eb1 := cell_later hq eb1
      replace eb2 := cell_later hq eb2
      replace t0 := t0.below hq
      replace t1 := t1.below hq
      replace t2 := t2.below hq
      replace t3 := t3.below hq
      replace t4 := t4.below hq
      replace lrb := Nat.lt_of_lt_of_le lrb hq.size
      replace lfb := Nat.lt_of_lt_of_le lfb hq.size
      replace lsb := Nat.lt_of_lt_of_le lsb hq.size
      replace ldb := Nat.lt_of_lt_of_le ldb hq.size
      replace leb := Nat.lt_of_lt_of_le leb hq.size
      replace B := below_next B hq
      have S22 := hq.size
      clear hq
      have HN0' : Hid (newBCode (j : Int) = 0) := by show _ = _; rw [← hbl]; exact HN0.out
      obtain ⟨nl, hnl⟩ : ∃ nl, newBList (j : Int) = nl := ⟨_, rfl⟩
      have hnll : nl.length = j := by rw [← hnl, ← hbl]; exact HN1.out
      have HNL : Hid _ := hnl
      clear hnl
      go_wp2_with fail
      refine (implNewBlocks_is (j : Int) _ 0 nl HN0'.out HNL.out).mono ?_
      rintro e w12 ⟨ya, yn, yc, rfl, t9, hb⟩
      replace rb0 := cell_later hb rb0
      replace rb1 := cell_later hb rb1
      replace rb2 := cell_later hb rb2
      replace fb0 := cell_later hb fb0
      replace fb1 := cell_later hb fb1
      replace sb0 := cell_later hb sb0
      replace sb1 := cell_later hb sb1
      replace sb2 := cell_later hb sb2
      replace db0 := cell_later hb db0
      replace db1 := cell_later hb db1
      replace db2 := cell_later hb db2
      replace eb0 := cell_later hb eb0
      replace eb1 := cell_later hb eb1
      replace eb2 := cell_later hb eb2
      replace t0 := t0.below hb
      replace t1 := t1.below hb
      replace t2 := t2.below hb
      replace t3 := t3.below hb
      replace t4 := t4.below hb
      replace lrb := Nat.lt_of_lt_of_le lrb hb.size
      replace lfb := Nat.lt_of_lt_of_le lfb hb.size
      replace lsb := Nat.lt_of_lt_of_le lsb hb.size
      replace ldb := Nat.lt_of_lt_of_le ldb hb.size
      replace leb := Nat.lt_of_lt_of_le leb hb.size
      replace B := below_next B hb
      have S23 := hb.size
      clear hb
      obtain rfl : j = yn := by rw [← t9.nPairs]; exact hnll.symm
      clear t9
      go_wp2_with fail
      have A24 : Below w12.heap.size w12 (w12.alloc (.cells #[.int .i64 0, .int .i64 0, .slice ya j yc] 51)) := (Below.refl _ _).alloc (Nat.le_refl _) _
      replace rb0 := cell_later A24 rb0
      replace rb1 := cell_later A24 rb1
      replace rb2 := cell_later A24 rb2
      replace fb0 := cell_later A24 fb0
      replace fb1 := cell_later A24 fb1
      replace sb0 := cell_later A24 sb0
      replace sb1 := cell_later A24 sb1
      replace sb2 := cell_later A24 sb2
      replace db0 := cell_later A24 db0
      replace db1 := cell_later A24 db1
      replace db2 := cell_later A24 db2
      replace eb0 := cell_later A24 eb0
      replace eb1 := cell_later A24 eb1
      replace eb2 := cell_later A24 eb2
      replace t0 := t0.below A24
      replace t1 := t1.below A24
      replace t2 := t2.below A24
      replace t3 := t3.below A24
      replace t4 := t4.below A24
      replace lrb := Nat.lt_of_lt_of_le lrb A24.size
      replace lfb := Nat.lt_of_lt_of_le lfb A24.size
      replace lsb := Nat.lt_of_lt_of_le lsb A24.size
      replace ldb := Nat.lt_of_lt_of_le ldb A24.size
      replace leb := Nat.lt_of_lt_of_le leb A24.size
      replace B := below_next B A24
      have S25 := A24.size
      clear A24
      have yb0 : (w12.alloc (.cells #[.int .i64 0, .int .i64 0, .slice ya j yc] 51)).cell? ⟨w12.heap.size, 0, none⟩ = some (.int .i64 0) := by simp
      have yb1 : (w12.alloc (.cells #[.int .i64 0, .int .i64 0, .slice ya j yc] 51)).cell? ⟨w12.heap.size, 1, none⟩ = some (.int .i64 0) := by simp
      have yb2 : (w12.alloc (.cells #[.int .i64 0, .int .i64 0, .slice ya j yc] 51)).cell? ⟨w12.heap.size, 2, none⟩ = some (.slice ya j yc) := by simp
      have lyb : w12.heap.size < (w12.alloc (.cells #[.int .i64 0, .int .i64 0, .slice ya j yc] 51)).heap.size := by simp
      obtain ⟨bA, fA, rfl, _, _, _, cA, dA, _⟩ := t0.pair hkn
      obtain ⟨bR, fR, rfl, _, _, _, cR, dR, _⟩ := t1.pair hkn
      have hw1 : (bl.getD k (0, 0)).1 = 0 := by rw [HWK.out]
      have hw2 : (b1.getD k (0, 0)).2 = x := by rw [← HB1.out, set_getD (by rw [hbl]; exact hkn)]
      rw [hw1] at cA
      rw [hw2] at dR
      clear hw1 hw2 dA cR
      go_wp2_with fail
      refine (implBF_b _ _ _ b1 _ t1 hm 0 HF1.out).mono ?_
      rintro e w13 ⟨rfl, hb⟩
      replace rb0 := cell_later hb rb0
      replace rb1 := cell_later hb rb1
      replace rb2 := cell_later hb rb2
      replace fb0 := cell_later hb fb0
      replace fb1 := cell_later hb fb1
      replace sb0 := cell_later hb sb0
      replace sb1 := cell_later hb sb1
      replace sb2 := cell_later hb sb2
      replace db0 := cell_later hb db0
      replace db1 := cell_later hb db1
      replace db2 := cell_later hb db2
      replace eb0 := cell_later hb eb0
      replace eb1 := cell_later hb eb1
      replace eb2 := cell_later hb eb2
      replace yb0 := cell_later hb yb0
      replace yb1 := cell_later hb yb1
      replace yb2 := cell_later hb yb2
      replace t0 := t0.below hb
      replace t1 := t1.below hb
      replace t2 := t2.below hb
      replace t3 := t3.below hb
      replace t4 := t4.below hb
      replace lrb := Nat.lt_of_lt_of_le lrb hb.size
      replace lfb := Nat.lt_of_lt_of_le lfb hb.size
      replace lsb := Nat.lt_of_lt_of_le lsb hb.size
      replace ldb := Nat.lt_of_lt_of_le ldb hb.size
      replace leb := Nat.lt_of_lt_of_le leb hb.size
      replace lyb := Nat.lt_of_lt_of_le lyb hb.size
      replace B := below_next B hb
      have S26 := hb.size
      clear hb
      go_wp2
      go_ret
      exact ⟨by first | rfl | exact ret_bool (by simp), B⟩

end Go.Proofs.Ytlblbjebbecgbaa
