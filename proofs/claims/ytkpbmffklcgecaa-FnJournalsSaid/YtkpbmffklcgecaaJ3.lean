/- Chapter 2: what the model answers of a disk's journal: its records, its room; and what a commit answers. -/
import Derived.Test.YtkpbmffklcgecaaJ2
import Derived.Test.YtkpbmffklcgecaaSFlush
import Derived.Test.YtkpbmffklcgecaaAll
import Derived.Test.YtkpbmffklcgecaaPutC
import Derived.Test.YtkpbmffklcgecaaFacts
namespace Go.Proofs.Ytkpbmffklcgecaa
open Go.RowKit

def scanUsed (xs : List Int) (ys : List (Int × Int)) : Nat := if faultOf xs ys = 0 then usedOf xs ys else 0
def scanRecs (xs : List Int) (ys : List (Int × Int)) : List (List Int) := if faultOf xs ys = 0 then recsOf xs ys else []
def roomOf (xs : List Int) (ys : List (Int × Int)) : Int := if faultOf xs ys = 0 then max 0 (64 - (usedOf xs ys : Int) - 2) else 0
/-- an answer with records -/
def RecsRes (w w' : World) (e : Ending) (code : Int) (used : Nat) (rs : List (List Int)) : Prop :=
  ∃ a n c vs, e = .returned (.agg #[.int .i64 code, .int .i64 (used : Int), .slice a n c]) ∧ n = rs.length ∧ RowAt w' true w.heap.size w'.heap.size 1 a n c vs ∧ RecsAt w' w.heap.size vs rs ∧ Below w.heap.size w w'
theorem used_le {xs : List Int} {ys : List (Int × Int)} (h : xs.length = 64) : usedOf xs ys ≤ 64 := by
  have := (scan_inv (putAll xs ys)).2.1
  rw [putAll_len, h] at this; exact this

theorem l1Max_any (x y : Int) (w : World) : Calls Try.prog 107 #[.int .i64 x, .int .i64 y] w fun e w' => e = .returned (.int .i64 (max x y)) ∧ w' = w := by
  by_cases h : y < x
  · have h' : max x y = x := by omega
    rw [h']
    go_enter Try.func107, Try.ntmps107
    go_wp2
    go_ret
    exact ⟨rfl, rfl⟩
  · have h' : max x y = y := by omega
    rw [h']
    go_enter Try.func107, Try.ntmps107
    go_wp2
    go_ret
    exact ⟨rfl, rfl⟩

set_option maxHeartbeats 400000 in
theorem specCommit_any {o0 o1 : Bool} {l0 u0 l1 u1 : Nat} (a0 a1 : Option Addr) (n0 c0 n1 c1 : Nat) (xs : List Int) (ys : List (Int × Int)) (w : World) (h0 : RowAt w o0 l0 u0 1 a0 n0 c0 (ints xs)) (h1 : RowAt w o1 l1 u1 2 a1 n1 c1 (pairs ys)) (hn : n0 ≤ 2097152) (hm : n1 ≤ 2097152) :
    Calls Try.prog 67 #[.agg #[.slice a0 n0 c0, .slice a1 n1 c1]] w fun e w' => DiskRes w w' e (faultOf xs ys) (flushRes xs ys) [] := by
  have B1 : Below w.heap.size w ((w.alloc (.cells #[.slice a0 n0 c0, .slice a1 n1 c1] 27)).alloc (.cells #[.int .i64 0, .slice none 0 0, .slice none 0 0] 32)) := ((Below.refl _ _).alloc (Nat.le_refl _) _).alloc (by simp) _
  go_enter Try.func67, Try.ntmps67
  go_wp2_with fail
  refine (specFlush_any a0 a1 n0 c0 n1 c1 xs ys _ (by exact h0.below B1) (by exact h1.below B1) hn hm).mono ?_
  rintro e w1 ⟨b0, m0, d0, b1, m1, d1, rfl, dA, hb⟩
  have B2 := below_next B1 hb
  have z0 : w1.cell? ⟨w.heap.size + 1, 0, none⟩ = some (.int .i64 0) := cell_later hb (by simp)
  have z1 : w1.cell? ⟨w.heap.size + 1, 1, none⟩ = some (.slice none 0 0) := cell_later hb (by simp)
  have z2 : w1.cell? ⟨w.heap.size + 1, 2, none⟩ = some (.slice none 0 0) := cell_later hb (by simp)
  have y0 : w1.frozen? ⟨w.heap.size + 1, 0, none⟩ = false := frozen_later hb (by simp) (by simp)
  have y1 : w1.frozen? ⟨w.heap.size + 1, 1, none⟩ = false := frozen_later hb (by simp) (by simp)
  have y2 : w1.frozen? ⟨w.heap.size + 1, 2, none⟩ = false := frozen_later hb (by simp) (by simp)
  have hz : w.heap.size + 2 ≤ w1.heap.size := by have := hb.size; simp at this; omega
  have dA' : DiskAt w1 (w.heap.size + 2) w1.heap.size b0 m0 d0 b1 m1 d1 (flushRes xs ys) [] := by simpa using dA
  clear hb dA
  go_wp2
  refine bodyPost_ret (v := .agg #[.int .i64 (faultOf xs ys), .slice b0 m0 d0, .slice b1 m1 d1]) (by simp [results, Try.results67, go_sem, z0, z1, z2]) rfl ⟨_, _, _, _, _, _, rfl, ?_, ?_⟩
  · refine DiskAt.widen (lo := w.heap.size + 2) (hi := w1.heap.size) (DiskAt.kept dA' (l := w.heap.size + 1) (u := w.heap.size + 2) ?_ (Or.inr (Nat.le_refl _))) (by omega) (by simp)
    refine Kept.setCell (Kept.setCell (Kept.setCell (Kept.refl _ _ _) ?_ ?_ _) ?_ ?_ _) ?_ ?_ _ <;> simp
  · refine Below.setCell (Below.setCell (Below.setCell B2 ?_ _) ?_ _) ?_ _ <;> simp

set_option maxRecDepth 20000 in
set_option maxHeartbeats 1000000 in
theorem specScan_any {o0 o1 : Bool} {l0 u0 l1 u1 : Nat} (a0 a1 : Option Addr) (n0 c0 n1 c1 : Nat) (xs : List Int) (ys : List (Int × Int)) (w : World) (h0 : RowAt w o0 l0 u0 1 a0 n0 c0 (ints xs)) (h1 : RowAt w o1 l1 u1 2 a1 n1 c1 (pairs ys)) (hn : n0 ≤ 2097152) (hm : n1 ≤ 2097152) :
    Calls Try.prog 63 #[.agg #[.slice a0 n0 c0, .slice a1 n1 c1]] w fun e w' => RecsRes w w' e (faultOf xs ys) (scanUsed xs ys) (scanRecs xs ys) := by
  have B1 : Below w.heap.size w ((w.alloc (.cells #[.slice a0 n0 c0, .slice a1 n1 c1] 27)).alloc (.cells #[.int .i64 0, .int .i64 0, .slice none 0 0] 73)) := ((Below.refl _ _).alloc (Nat.le_refl _) _).alloc (by simp) _
  by_cases h0f : faultOf xs ys = 0
  · obtain ⟨hx, hy, hpl⟩ := fault_zero h0f
    have hr : scanUsed xs ys = usedOf xs ys := if_pos h0f
    have hr2 : scanRecs xs ys = recsOf xs ys := if_pos h0f
    have HF : Hid _ := h0f
    rw [hr, hr2, h0f]
    clear hr hr2 h0f
    go_enter Try.func63, Try.ntmps63
    go_wp2_with fail
    refine (l1Fault_is _ a0 a1 n0 c0 n1 c1 xs ys _ (by exact h0.below B1) (by exact h1.below B1) hn hm (by simp) (by simp) _ HF.out).mono ?_
    rintro e w1 ⟨rfl, rfl⟩
    go_wp2_with fail
    refine (l1All_any _ a0 a1 n0 c0 n1 c1 xs ys _ (by exact h0.below B1) (by exact h1.below B1) hx hm hpl (by simp) (by simp)).mono ?_
    rintro e w2 ⟨ao, cap, rfl, r2, hb2⟩
    have B2 := below_next B1 hb2
    have z0 : w2.cell? ⟨w.heap.size + 1, 0, none⟩ = some (.int .i64 0) := cell_later hb2 (by simp)
    have z1 : w2.cell? ⟨w.heap.size + 1, 1, none⟩ = some (.int .i64 0) := cell_later hb2 (by simp)
    have z2 : w2.cell? ⟨w.heap.size + 1, 2, none⟩ = some (.slice none 0 0) := cell_later hb2 (by simp)
    have y0 : w2.frozen? ⟨w.heap.size + 1, 0, none⟩ = false := frozen_later hb2 (by simp) (by simp)
    have y1 : w2.frozen? ⟨w.heap.size + 1, 1, none⟩ = false := frozen_later hb2 (by simp) (by simp)
    have y2 : w2.frozen? ⟨w.heap.size + 1, 2, none⟩ = false := frozen_later hb2 (by simp) (by simp)
    have hz : w.heap.size + 2 ≤ w2.heap.size := by have := hb2.size; simp at this; omega
    clear hb2
    go_wp2_with fail
    refine (l2Scan_any ao cap (putAll xs ys) _ r2).mono ?_
    rintro e w3 ⟨sa, sn, sc, vs, rfl, hsn, r3, rc3, hb3⟩
    have B3 := below_next B2 hb3
    replace z0 := cell_later hb3 z0
    replace z1 := cell_later hb3 z1
    replace z2 := cell_later hb3 z2
    replace y0 := frozen_later hb3 (by omega) y0
    replace y1 := frozen_later hb3 (by omega) y1
    replace y2 := frozen_later hb3 (by omega) y2
    have hz3 := hb3.size
    clear hb3 r2
    go_wp2
    refine bodyPost_ret (v := .agg #[.int .i64 0, .int .i64 (usedOf xs ys : Int), .slice sa sn sc]) (by simp [results, Try.results63, go_sem, z0, z1, z2]; exact ⟨rfl, hsn.symm⟩) rfl ⟨_, _, _, vs, rfl, hsn, RowAt.widen (RowAt.kept r3 (l := w.heap.size + 1) (u := w.heap.size + 2) ?_ (by omega)) (by omega) ?_, (RecsAt.kept rc3 (x := w.heap.size + 1) (y := w.heap.size + 2) ?_ (by omega)).widen (by omega), ?_⟩
    · refine Kept.setCell (Kept.setCell (Kept.setCell (Kept.refl _ _ _) ?_ ?_ _) ?_ ?_ _) ?_ ?_ _ <;> simp
    · simp
    · refine Kept.setCell (Kept.setCell (Kept.setCell (Kept.refl _ _ _) ?_ ?_ _) ?_ ?_ _) ?_ ?_ _ <;> simp
    · refine Below.setCell (Below.setCell (Below.setCell B3 ?_ _) ?_ _) ?_ _ <;> simp
  · have hr : scanUsed xs ys = 0 := if_neg h0f
    have hr2 : scanRecs xs ys = [] := if_neg h0f
    rw [hr, hr2]
    obtain ⟨f, hf⟩ : ∃ f, faultOf xs ys = f := ⟨_, rfl⟩
    rw [hf] at h0f ⊢
    have hne : (f != 0) = true := by simp [h0f]
    have HF : Hid _ := hf
    clear hr hr2 h0f hf
    go_enter Try.func63, Try.ntmps63
    go_wp2_with fail
    refine (l1Fault_is _ a0 a1 n0 c0 n1 c1 xs ys _ (by exact h0.below B1) (by exact h1.below B1) hn hm (by simp) (by simp) _ HF.out).mono ?_
    rintro e w1 ⟨rfl, rfl⟩
    go_wp2
    refine bodyPost_ret (v := .agg #[.int .i64 f, .int .i64 0, .slice none 0 0]) (by simp [results, Try.results63, go_sem]) rfl ⟨_, _, _, [], rfl, rfl, RowAt.nil _ _ _ _ _, RecsAt.nil _ _, ?_⟩
    exact ((Below.refl _ _).alloc (Nat.le_refl _) _).alloc (by simp) _

set_option maxRecDepth 20000 in
set_option maxHeartbeats 1000000 in
theorem specRoom_any {o0 o1 : Bool} {l0 u0 l1 u1 : Nat} (a0 a1 : Option Addr) (n0 c0 n1 c1 : Nat) (xs : List Int) (ys : List (Int × Int)) (w : World) (h0 : RowAt w o0 l0 u0 1 a0 n0 c0 (ints xs)) (h1 : RowAt w o1 l1 u1 2 a1 n1 c1 (pairs ys)) (hn : n0 ≤ 2097152) (hm : n1 ≤ 2097152) :
    Calls Try.prog 68 #[.agg #[.slice a0 n0 c0, .slice a1 n1 c1]] w fun e w' => e = .returned (.agg #[.int .i64 (faultOf xs ys), .int .i64 (roomOf xs ys)]) ∧ Below w.heap.size w w' := by
  have B1 : Below w.heap.size w ((w.alloc (.cells #[.slice a0 n0 c0, .slice a1 n1 c1] 27)).alloc (.cells #[.int .i64 0, .int .i64 0] 43)) := ((Below.refl _ _).alloc (Nat.le_refl _) _).alloc (by simp) _
  by_cases h0f : faultOf xs ys = 0
  · obtain ⟨hx, hy, hpl⟩ := fault_zero h0f
    have hr : roomOf xs ys = max 0 (64 - (usedOf xs ys : Int) - 2) := if_pos h0f
    have HF : Hid _ := h0f
    rw [hr, h0f]
    clear hr h0f
    have hu := used_le (ys := ys) hx
    go_enter Try.func68, Try.ntmps68
    go_wp2_with fail
    refine (l1Fault_is _ a0 a1 n0 c0 n1 c1 xs ys _ (by exact h0.below B1) (by exact h1.below B1) hn hm (by simp) (by simp) _ HF.out).mono ?_
    rintro e w1 ⟨rfl, rfl⟩
    go_wp2_with fail
    refine (l1All_any _ a0 a1 n0 c0 n1 c1 xs ys _ (by exact h0.below B1) (by exact h1.below B1) hx hm hpl (by simp) (by simp)).mono ?_
    rintro e w2 ⟨ao, cap, rfl, r2, hb2⟩
    have B2 := below_next B1 hb2
    have z0 : w2.cell? ⟨w.heap.size + 1, 0, none⟩ = some (.int .i64 0) := cell_later hb2 (by simp)
    have z1 : w2.cell? ⟨w.heap.size + 1, 1, none⟩ = some (.int .i64 0) := cell_later hb2 (by simp)
    have y0 : w2.frozen? ⟨w.heap.size + 1, 0, none⟩ = false := frozen_later hb2 (by simp) (by simp)
    have y1 : w2.frozen? ⟨w.heap.size + 1, 1, none⟩ = false := frozen_later hb2 (by simp) (by simp)
    have hz : w.heap.size + 2 ≤ w2.heap.size := by have := hb2.size; simp at this; omega
    clear hb2
    go_wp2_with fail
    refine (l2Scan_any ao cap (putAll xs ys) _ r2).mono ?_
    rintro e w3 ⟨sa, sn, sc, vs, rfl, hsn, r3, rc3, hb3⟩
    have B3 := below_next B2 hb3
    replace z0 := cell_later hb3 z0
    replace z1 := cell_later hb3 z1
    replace y0 := frozen_later hb3 (by omega) y0
    replace y1 := frozen_later hb3 (by omega) y1
    clear hb3 r2 r3 rc3
    have hu' : (scanOf (putAll xs ys)).2 ≤ 64 := hu
    have HU : Hid (((scanOf (putAll xs ys)).2 : Int) = (usedOf xs ys : Int)) := rfl
    generalize (scanOf (putAll xs ys)).2 = uu at *
    go_wp2_with fail
    refine (l1Max_any _ _ _).mono ?_
    rintro e w4 ⟨rfl, rfl⟩
    go_wp2
    refine bodyPost_ret (v := .agg #[.int .i64 0, .int .i64 (max 0 (64 - (uu : Int) - 2))]) (by simp [results, Try.results68, go_sem, z0, z1]) rfl ⟨by rw [HU.out], ?_⟩
    refine Below.setCell (Below.setCell B3 ?_ _) ?_ _ <;> simp
  · have hr : roomOf xs ys = 0 := if_neg h0f
    rw [hr]
    obtain ⟨f, hf⟩ : ∃ f, faultOf xs ys = f := ⟨_, rfl⟩
    rw [hf] at h0f ⊢
    have hne : (f != 0) = true := by simp [h0f]
    have HF : Hid _ := hf
    clear hr h0f hf
    go_enter Try.func68, Try.ntmps68
    go_wp2_with fail
    refine (l1Fault_is _ a0 a1 n0 c0 n1 c1 xs ys _ (by exact h0.below B1) (by exact h1.below B1) hn hm (by simp) (by simp) _ HF.out).mono ?_
    rintro e w1 ⟨rfl, rfl⟩
    go_wp2
    refine bodyPost_ret (v := .agg #[.int .i64 f, .int .i64 0]) (by simp [results, Try.results68, go_sem]) rfl ⟨rfl, ?_⟩
    exact ((Below.refl _ _).alloc (Nat.le_refl _) _).alloc (by simp) _

end Go.Proofs.Ytkpbmffklcgecaa
