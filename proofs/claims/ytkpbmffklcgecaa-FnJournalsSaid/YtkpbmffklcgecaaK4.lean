/- Chapter 2: what the program answers of a disk's journal: its records, its room; and what a commit answers. -/
import Derived.Test.YtkpbmffklcgecaaK3
import Derived.Test.YtkpbmffklcgecaaJ3
namespace Go.Proofs.Ytkpbmffklcgecaa
open Go.RowKit

set_option maxHeartbeats 400000 in
theorem implCommit_any {o0 o1 : Bool} {l0 u0 l1 u1 : Nat} (a0 a1 : Option Addr) (n0 c0 n1 c1 : Nat) (xs : List Int) (ys : List (Int × Int)) (w : World) (h0 : RowAt w o0 l0 u0 1 a0 n0 c0 (ints xs)) (h1 : RowAt w o1 l1 u1 2 a1 n1 c1 (pairs ys)) (hn : n0 ≤ 2097152) (hm : n1 ≤ 2097152) :
    Calls Try.prog 57 #[.agg #[.slice a0 n0 c0, .slice a1 n1 c1]] w fun e w' => DiskRes w w' e (faultOf xs ys) (flushRes xs ys) [] := by
  have B1 : Below w.heap.size w ((w.alloc (.cells #[.slice a0 n0 c0, .slice a1 n1 c1] 27)).alloc (.cells #[.int .i64 0, .slice none 0 0, .slice none 0 0] 32)) := ((Below.refl _ _).alloc (Nat.le_refl _) _).alloc (by simp) _
  go_enter Try.func57, Try.ntmps57
  go_wp2_with fail
  refine (implFlush_any a0 a1 n0 c0 n1 c1 xs ys _ (by exact h0.below B1) (by exact h1.below B1) hn hm).mono ?_
  rintro e w1 ⟨b0, m0, d0, b1, m1, d1, rfl, dA, hb⟩
  have B2 := below_next B1 hb
  have z0 : w1.cell? ⟨w.heap.size + 1, 0, none⟩ = some (.int .i64 0) := cell_later hb (by simp)
  have z1 : w1.cell? ⟨w.heap.size + 1, 1, none⟩ = some (.slice none 0 0) := cell_later hb (by simp)
  have z2 : w1.cell? ⟨w.heap.size + 1, 2, none⟩ = some (.slice none 0 0) := cell_later hb (by simp)
  have y0 : w1.frozen? ⟨w.heap.size + 1, 0, none⟩ = false := frozen_later hb (by simp) (by simp)
  have y1 : w1.frozen? ⟨w.heap.size + 1, 1, none⟩ = false := frozen_later hb (by simp) (by simp)
  have y2 : w1.frozen? ⟨w.heap.size + 1, 2, none⟩ = false := frozen_later hb (by simp) (by simp)
  have hz : w.heap.size + 2 ≤ w1.heap.size := by have := hb.size; simp at this; omega
  have dA' : DiskAt w1 (w.heap.size + 2) w1.heap.size b0 m0 d0 b1 m1 d1 (flushRes xs ys) [] := by simpa using dA
  clear hb dA
  go_wp2
  refine bodyPost_ret (v := .agg #[.int .i64 (faultOf xs ys), .slice b0 m0 d0, .slice b1 m1 d1]) (by simp [results, Try.results57, go_sem, z0, z1, z2]) rfl ⟨_, _, _, _, _, _, rfl, ?_, ?_⟩
  · refine DiskAt.widen (lo := w.heap.size + 2) (hi := w1.heap.size) (DiskAt.kept dA' (l := w.heap.size + 1) (u := w.heap.size + 2) ?_ (Or.inr (Nat.le_refl _))) (by omega) (by simp)
    refine Kept.setCell (Kept.setCell (Kept.setCell (Kept.refl _ _ _) ?_ ?_ _) ?_ ?_ _) ?_ ?_ _ <;> simp
  · refine Below.setCell (Below.setCell (Below.setCell B2 ?_ _) ?_ _) ?_ _ <;> simp


set_option maxRecDepth 20000 in
set_option maxHeartbeats 1000000 in
theorem implScan_any {o0 o1 : Bool} {l0 u0 l1 u1 : Nat} (a0 a1 : Option Addr) (n0 c0 n1 c1 : Nat) (xs : List Int) (ys : List (Int × Int)) (w : World) (h0 : RowAt w o0 l0 u0 1 a0 n0 c0 (ints xs)) (h1 : RowAt w o1 l1 u1 2 a1 n1 c1 (pairs ys)) (hn : n0 ≤ 2097152) (hm : n1 ≤ 2097152) :
    Calls Try.prog 53 #[.agg #[.slice a0 n0 c0, .slice a1 n1 c1]] w fun e w' => OwnRes w w' e (faultOf xs ys) (scanUsed xs ys) (scanRecs xs ys) := by
  have B1 : Below w.heap.size w ((w.alloc (.cells #[.slice a0 n0 c0, .slice a1 n1 c1] 27)).alloc (.cells #[.int .i64 0, .int .i64 0, .slice none 0 0] 73)) := ((Below.refl _ _).alloc (Nat.le_refl _) _).alloc (by simp) _
  by_cases h0f : faultOf xs ys = 0
  · obtain ⟨hx, hy, hpl⟩ := fault_zero h0f
    have hr : scanUsed xs ys = usedOf xs ys := if_pos h0f
    have hr2 : scanRecs xs ys = recsOf xs ys := if_pos h0f
    have HF : Hid _ := h0f
    rw [hr, hr2, h0f]
    clear hr hr2 h0f
    go_enter Try.func53, Try.ntmps53
    go_wp2_with fail
    refine (implFault_is _ _ _ _ _ _ xs ys _ (by exact h0.below B1) (by exact h1.below B1) hn hm _ HF.out).mono ?_
    rintro e w1 ⟨rfl, hb1⟩
    have B2 := below_next B1 hb1
    have k0 : w1.cell? ⟨w.heap.size, 0, none⟩ = some (.slice a0 n0 c0) := cell_later hb1 (by simp)
    have k1 : w1.cell? ⟨w.heap.size, 1, none⟩ = some (.slice a1 n1 c1) := cell_later hb1 (by simp)
    have z0 : w1.cell? ⟨w.heap.size + 1, 0, none⟩ = some (.int .i64 0) := cell_later hb1 (by simp)
    have y0 : w1.frozen? ⟨w.heap.size + 1, 0, none⟩ = false := frozen_later hb1 (by simp) (by simp)
    have z1 : w1.cell? ⟨w.heap.size + 1, 1, none⟩ = some (.int .i64 0) := cell_later hb1 (by simp)
    have y1 : w1.frozen? ⟨w.heap.size + 1, 1, none⟩ = false := frozen_later hb1 (by simp) (by simp)
    have z2 : w1.cell? ⟨w.heap.size + 1, 2, none⟩ = some (.slice none 0 0) := cell_later hb1 (by simp)
    have y2 : w1.frozen? ⟨w.heap.size + 1, 2, none⟩ = false := frozen_later hb1 (by simp) (by simp)
    have hz : w.heap.size + 2 ≤ w1.heap.size := by have := hb1.size; simp at this; omega
    clear hb1
    go_wp2_with fail
    refine (seenOf_any _ _ _ _ _ _ xs ys _ (by exact h0.below B2) (by exact h1.below B2) hx hm hpl).mono ?_
    rintro e w2 ⟨rfl, hb2⟩
    replace B2 := below_next B2 hb2
    replace k0 := cell_later hb2 k0
    replace k1 := cell_later hb2 k1
    replace z0 := cell_later hb2 z0
    replace y0 := frozen_later hb2 (by omega) y0
    replace z1 := cell_later hb2 z1
    replace y1 := frozen_later hb2 (by omega) y1
    replace z2 := cell_later hb2 z2
    replace y2 := frozen_later hb2 (by omega) y2
    have Shb2 := hb2.size
    replace hz := Nat.le_trans hz hb2.size
    clear hb2
    have hz0 := hz
    go_wp2_with fail
    refine (scanOf_any (putAll xs ys) (by rw [putAll_len, hx]) _).mono ?_
    rintro e w3 ⟨sa, sc, vs, rfl, r3, rc3, ri3, hb3⟩
    replace B2 := below_next B2 hb3
    replace k0 := cell_later hb3 k0
    replace k1 := cell_later hb3 k1
    replace z0 := cell_later hb3 z0
    replace y0 := frozen_later hb3 (by omega) y0
    replace z1 := cell_later hb3 z1
    replace y1 := frozen_later hb3 (by omega) y1
    replace z2 := cell_later hb3 z2
    replace y2 := frozen_later hb3 (by omega) y2
    have Shb3 := hb3.size
    replace hz := Nat.le_trans hz hb3.size
    clear hb3
    go_wp2
    refine bodyPost_ret (v := .agg #[.int .i64 0, .int .i64 (usedOf xs ys : Int), .slice sa (recsOf xs ys).length sc]) (by simp [results, Try.results53, go_sem, z0, z1, z2]; exact ⟨rfl, rfl⟩) rfl ⟨sa, sc, vs, rfl, ?_, ?_, ri3, ?_⟩
    · refine owns_widen (owns_kept r3 (l := w.heap.size + 1) (u := w.heap.size + 2) ?_ ?_) (by omega)
      · refine Kept.setCell (Kept.setCell (Kept.setCell (Kept.refl _ _ _) ?_ ?_ _) ?_ ?_ _) ?_ ?_ _ <;> simp
      · intro g hg; have := (r3.lt g hg).1; omega
    · refine (RecsBut.kept rc3 (x := w.heap.size + 1) (y := w.heap.size + 2) ?_ (by omega)).widen (by omega)
      refine Kept.setCell (Kept.setCell (Kept.setCell (Kept.refl _ _ _) ?_ ?_ _) ?_ ?_ _) ?_ ?_ _ <;> simp
    · refine Below.setCell (Below.setCell (Below.setCell B2 ?_ _) ?_ _) ?_ _ <;> simp
  · have hr : scanUsed xs ys = 0 := if_neg h0f
    have hr2 : scanRecs xs ys = [] := if_neg h0f
    rw [hr, hr2]
    obtain ⟨f, hf⟩ : ∃ f, faultOf xs ys = f := ⟨_, rfl⟩
    rw [hf] at h0f ⊢
    have hne : (f != 0) = true := by simp [h0f]
    have HF : Hid _ := hf
    clear hr hr2 h0f hf
    go_enter Try.func53, Try.ntmps53
    go_wp2_with fail
    refine (implFault_is _ _ _ _ _ _ xs ys _ (by exact h0.below B1) (by exact h1.below B1) hn hm _ HF.out).mono ?_
    rintro e w1 ⟨rfl, hb1⟩
    have B2 := below_next B1 hb1
    have k0 : w1.cell? ⟨w.heap.size, 0, none⟩ = some (.slice a0 n0 c0) := cell_later hb1 (by simp)
    have k1 : w1.cell? ⟨w.heap.size, 1, none⟩ = some (.slice a1 n1 c1) := cell_later hb1 (by simp)
    have z0 : w1.cell? ⟨w.heap.size + 1, 0, none⟩ = some (.int .i64 0) := cell_later hb1 (by simp)
    have y0 : w1.frozen? ⟨w.heap.size + 1, 0, none⟩ = false := frozen_later hb1 (by simp) (by simp)
    have z1 : w1.cell? ⟨w.heap.size + 1, 1, none⟩ = some (.int .i64 0) := cell_later hb1 (by simp)
    have y1 : w1.frozen? ⟨w.heap.size + 1, 1, none⟩ = false := frozen_later hb1 (by simp) (by simp)
    have z2 : w1.cell? ⟨w.heap.size + 1, 2, none⟩ = some (.slice none 0 0) := cell_later hb1 (by simp)
    have y2 : w1.frozen? ⟨w.heap.size + 1, 2, none⟩ = false := frozen_later hb1 (by simp) (by simp)
    have hz : w.heap.size + 2 ≤ w1.heap.size := by have := hb1.size; simp at this; omega
    clear hb1
    go_wp2
    refine bodyPost_ret (v := .agg #[.int .i64 f, .int .i64 0, .slice none 0 0]) (by simp [results, Try.results53, go_sem, z0, z1, z2]) rfl ⟨none, 0, [], rfl, ⟨rfl, Or.inl ⟨rfl, rfl⟩⟩, ⟨rfl, fun i hi => absurd hi (by simp)⟩, Inc.nil, ?_⟩
    refine Below.setCell (Below.setCell (Below.setCell B2 ?_ _) ?_ _) ?_ _ <;> simp

theorem recField (c u : Int) (a : Option Addr) (n k : Nat) (w : World) : (Instr.field 73 (.agg #[.int .i64 c, .int .i64 u, .slice a n k]) 1).run Try.prog w = .ok (.int .i64 u) w := by kernel_rfl

set_option maxRecDepth 20000 in
set_option maxHeartbeats 1000000 in
theorem implRoom_any {o0 o1 : Bool} {l0 u0 l1 u1 : Nat} (a0 a1 : Option Addr) (n0 c0 n1 c1 : Nat) (xs : List Int) (ys : List (Int × Int)) (w : World) (h0 : RowAt w o0 l0 u0 1 a0 n0 c0 (ints xs)) (h1 : RowAt w o1 l1 u1 2 a1 n1 c1 (pairs ys)) (hn : n0 ≤ 2097152) (hm : n1 ≤ 2097152) :
    Calls Try.prog 59 #[.agg #[.slice a0 n0 c0, .slice a1 n1 c1]] w fun e w' => e = .returned (.agg #[.int .i64 (faultOf xs ys), .int .i64 (roomOf xs ys)]) ∧ Below w.heap.size w w' := by
  have B1 : Below w.heap.size w ((w.alloc (.cells #[.slice a0 n0 c0, .slice a1 n1 c1] 27)).alloc (.cells #[.int .i64 0, .int .i64 0] 43)) := ((Below.refl _ _).alloc (Nat.le_refl _) _).alloc (by simp) _
  by_cases h0f : faultOf xs ys = 0
  · obtain ⟨hx, hy, hpl⟩ := fault_zero h0f
    have hr : roomOf xs ys = max 0 (64 - (usedOf xs ys : Int) - 2) := if_pos h0f
    have HF : Hid _ := h0f
    rw [hr, h0f]
    clear hr h0f
    have hu := used_le (ys := ys) hx
    go_enter Try.func59, Try.ntmps59
    go_wp2_with fail
    refine (implFault_is _ _ _ _ _ _ xs ys _ (by exact h0.below B1) (by exact h1.below B1) hn hm _ HF.out).mono ?_
    rintro e w1 ⟨rfl, hb1⟩
    have B2 := below_next B1 hb1
    have k0 : w1.cell? ⟨w.heap.size, 0, none⟩ = some (.slice a0 n0 c0) := cell_later hb1 (by simp)
    have k1 : w1.cell? ⟨w.heap.size, 1, none⟩ = some (.slice a1 n1 c1) := cell_later hb1 (by simp)
    have z0 : w1.cell? ⟨w.heap.size + 1, 0, none⟩ = some (.int .i64 0) := cell_later hb1 (by simp)
    have y0 : w1.frozen? ⟨w.heap.size + 1, 0, none⟩ = false := frozen_later hb1 (by simp) (by simp)
    have z1 : w1.cell? ⟨w.heap.size + 1, 1, none⟩ = some (.int .i64 0) := cell_later hb1 (by simp)
    have y1 : w1.frozen? ⟨w.heap.size + 1, 1, none⟩ = false := frozen_later hb1 (by simp) (by simp)
    have hz : w.heap.size + 2 ≤ w1.heap.size := by have := hb1.size; simp at this; omega
    clear hb1
    go_wp2_with fail
    refine (seenOf_any _ _ _ _ _ _ xs ys _ (by exact h0.below B2) (by exact h1.below B2) hx hm hpl).mono ?_
    rintro e w2 ⟨rfl, hb2⟩
    replace B2 := below_next B2 hb2
    replace k0 := cell_later hb2 k0
    replace k1 := cell_later hb2 k1
    replace z0 := cell_later hb2 z0
    replace y0 := frozen_later hb2 (by omega) y0
    replace z1 := cell_later hb2 z1
    replace y1 := frozen_later hb2 (by omega) y1
    have Shb2 := hb2.size
    replace hz := Nat.le_trans hz hb2.size
    clear hb2
    have hz0 := hz
    go_wp2_with fail
    refine (scanOf_any (putAll xs ys) (by rw [putAll_len, hx]) _).mono ?_
    rintro e w3 ⟨sa, sc, vs, rfl, r3, rc3, ri3, hb3⟩
    replace B2 := below_next B2 hb3
    replace k0 := cell_later hb3 k0
    replace k1 := cell_later hb3 k1
    replace z0 := cell_later hb3 z0
    replace y0 := frozen_later hb3 (by omega) y0
    replace z1 := cell_later hb3 z1
    replace y1 := frozen_later hb3 (by omega) y1
    have Shb3 := hb3.size
    replace hz := Nat.le_trans hz hb3.size
    clear hb3
    clear r3 rc3 ri3 k0 k1
    generalize (scanOf (putAll xs ys)).1.length = sn at *
    have hu' : (scanOf (putAll xs ys)).2 ≤ 64 := hu
    have HU : Hid (((scanOf (putAll xs ys)).2 : Int) = (usedOf xs ys : Int)) := rfl
    generalize (scanOf (putAll xs ys)).2 = uu at *
    have hfld := recField 0 (uu : Int) sa sn sc w3
    go_wp2
    all_goals
      refine bodyPost_ret (v := .agg #[.int .i64 0, .int .i64 (max 0 (64 - (uu : Int) - 2))]) (by simp [results, Try.results59, go_sem, z0, z1]; omega) rfl ⟨by rw [HU.out], ?_⟩
      refine Below.setCell (Below.setCell B2 ?_ _) ?_ _ <;> simp
  · have hr : roomOf xs ys = 0 := if_neg h0f
    rw [hr]
    obtain ⟨f, hf⟩ : ∃ f, faultOf xs ys = f := ⟨_, rfl⟩
    rw [hf] at h0f ⊢
    have hne : (f != 0) = true := by simp [h0f]
    have HF : Hid _ := hf
    clear hr h0f hf
    go_enter Try.func59, Try.ntmps59
    go_wp2_with fail
    refine (implFault_is _ _ _ _ _ _ xs ys _ (by exact h0.below B1) (by exact h1.below B1) hn hm _ HF.out).mono ?_
    rintro e w1 ⟨rfl, hb1⟩
    have B2 := below_next B1 hb1
    have k0 : w1.cell? ⟨w.heap.size, 0, none⟩ = some (.slice a0 n0 c0) := cell_later hb1 (by simp)
    have k1 : w1.cell? ⟨w.heap.size, 1, none⟩ = some (.slice a1 n1 c1) := cell_later hb1 (by simp)
    have z0 : w1.cell? ⟨w.heap.size + 1, 0, none⟩ = some (.int .i64 0) := cell_later hb1 (by simp)
    have y0 : w1.frozen? ⟨w.heap.size + 1, 0, none⟩ = false := frozen_later hb1 (by simp) (by simp)
    have z1 : w1.cell? ⟨w.heap.size + 1, 1, none⟩ = some (.int .i64 0) := cell_later hb1 (by simp)
    have y1 : w1.frozen? ⟨w.heap.size + 1, 1, none⟩ = false := frozen_later hb1 (by simp) (by simp)
    have hz : w.heap.size + 2 ≤ w1.heap.size := by have := hb1.size; simp at this; omega
    clear hb1
    go_wp2
    refine bodyPost_ret (v := .agg #[.int .i64 f, .int .i64 0]) (by simp [results, Try.results59, go_sem, z0, z1]) rfl ⟨rfl, ?_⟩
    refine Below.setCell (Below.setCell B2 ?_ _) ?_ _ <;> simp

end Go.Proofs.Ytkpbmffklcgecaa
