/- What the program's and the model's PutWord answer. -/
import Derived.Test.YtkpbmffklcgecaaPutG
namespace Go.Proofs.Ytkpbmffklcgecaa
open Go.RowKit

def putCode (xs : List Int) (ys : List (Int × Int)) (x y : Int) : Int := if faultOf xs ys = 0 then (if placeB x && wordB y then (if ys.length = 200 then 2 else 0) else 3) else faultOf xs ys
def putX (xs : List Int) (ys : List (Int × Int)) (x y : Int) : List Int := if putCode xs ys x y = 0 then xs else []
def putY (xs : List Int) (ys : List (Int × Int)) (x y : Int) : List (Int × Int) := if putCode xs ys x y = 0 then ys ++ [(x, y)] else []

/-- no code, no lists -/
theorem put_no {xs : List Int} {ys : List (Int × Int)} {x y c : Int} (h : putCode xs ys x y = c) (hc : c ≠ 0) : putX xs ys x y = [] ∧ putY xs ys x y = [] := by
  rw [putX, putY, h]; exact ⟨if_neg hc, if_neg hc⟩
theorem put_yes {xs : List Int} {ys : List (Int × Int)} {x y : Int} (h : putCode xs ys x y = 0) : putX xs ys x y = xs ∧ putY xs ys x y = ys ++ [(x, y)] := by
  rw [putX, putY, h]; exact ⟨if_pos rfl, if_pos rfl⟩

set_option maxRecDepth 20000 in
set_option maxHeartbeats 4000000 in
theorem implPut_any {o0 o1 : Bool} {l0 u0 l1 u1 : Nat} (a0 a1 : Option Addr) (n0 c0 n1 c1 : Nat) (xs : List Int) (ys : List (Int × Int)) (x y : Int) (w : World) (h0 : RowAt w o0 l0 u0 1 a0 n0 c0 (ints xs)) (h1 : RowAt w o1 l1 u1 2 a1 n1 c1 (pairs ys)) (hn : n0 ≤ 1048576) (hm : n1 ≤ 1048576) :
    Calls Try.prog 27 #[.agg #[.slice a0 n0 c0, .slice a1 n1 c1], .int .i64 x, .int .i64 y] w fun e w' => DiskRes w w' e (putCode xs ys x y) (putX xs ys x y) (putY xs ys x y) := by
  have B1 : Below w.heap.size w ((w.alloc (.cells #[.slice a0 n0 c0, .slice a1 n1 c1] 27)).alloc (.cells #[.int .i64 0, .slice none 0 0, .slice none 0 0] 32)) := ((Below.refl _ _).alloc (Nat.le_refl _) _).alloc (by simp) _
  have hy := h1.nPairs
  have hn : n0 ≤ 2097152 := by omega
  have hm : n1 ≤ 2097152 := by omega
  by_cases h0f : faultOf xs ys = 0
  · obtain ⟨hx, hy2, hpl⟩ := fault_zero h0f
    have HF : Hid _ := h0f
    cases hp : placeB x with
    | false =>
      have hc : putCode xs ys x y = 3 := by simp [putCode, h0f, hp]
      obtain ⟨e1, e2⟩ := put_no hc (by decide)
      rw [hc, e1, e2]
      have HP : Hid _ := hp
      clear hc e1 e2 hp h0f
      go_enter Try.func27, Try.ntmps27
      go_wp2_with fail
      refine (implFault_is _ _ _ _ _ _ xs ys _ (by exact h0.below B1) (by exact h1.below B1) hn hm _ HF.out).mono ?_
      rintro e w1 ⟨rfl, hb1⟩
      have B2 := below_next B1 hb1
      have k0 : w1.cell? ⟨w.heap.size, 0, none⟩ = some (.slice a0 n0 c0) := cell_later hb1 (by simp)
      have k1 : w1.cell? ⟨w.heap.size, 1, none⟩ = some (.slice a1 n1 c1) := cell_later hb1 (by simp)
      have z0 : w1.cell? ⟨w.heap.size + 1, 0, none⟩ = some (.int .i64 0) := cell_later hb1 (by simp)
      have z1 : w1.cell? ⟨w.heap.size + 1, 1, none⟩ = some (.slice none 0 0) := cell_later hb1 (by simp)
      have z2 : w1.cell? ⟨w.heap.size + 1, 2, none⟩ = some (.slice none 0 0) := cell_later hb1 (by simp)
      have y0 : w1.frozen? ⟨w.heap.size + 1, 0, none⟩ = false := frozen_later hb1 (by simp) (by simp)
      have y1 : w1.frozen? ⟨w.heap.size + 1, 1, none⟩ = false := frozen_later hb1 (by simp) (by simp)
      have y2 : w1.frozen? ⟨w.heap.size + 1, 2, none⟩ = false := frozen_later hb1 (by simp) (by simp)
      have hz : w.heap.size + 1 < w1.heap.size := by have := hb1.size; simp at this; omega
      clear hb1
      go_wp2_with fail
      refine (isSector_is _ _ false HP.out).mono ?_
      rintro e w' ⟨rfl, rfl⟩
      go_wp2
      refine bodyPost_ret (v := .agg #[.int .i64 3, .slice none 0 0, .slice none 0 0]) (by simp [results, Try.results27, go_sem, z0, z1, z2]) rfl ⟨_, _, _, _, _, _, rfl, ⟨w.heap.size, Nat.le_refl _, ?_, RowAt.nil _ _ _ _ _, RowAt.nil _ _ _ _ _⟩, ?_⟩
      · simp; omega
      · refine Below.setCell (Below.setCell (Below.setCell B2 ?_ _) ?_ _) ?_ _ <;> simp
    | true =>
      have HP : Hid _ := hp
      cases hw : wordB y with
      | false =>
        have hc : putCode xs ys x y = 3 := by simp [putCode, h0f, hw]
        obtain ⟨e1, e2⟩ := put_no hc (by decide)
        rw [hc, e1, e2]
        have HW : Hid _ := hw
        clear hc e1 e2 hp h0f hw
        go_enter Try.func27, Try.ntmps27
        go_wp2_with fail
        refine (implFault_is _ _ _ _ _ _ xs ys _ (by exact h0.below B1) (by exact h1.below B1) hn hm _ HF.out).mono ?_
        rintro e w1 ⟨rfl, hb1⟩
        have B2 := below_next B1 hb1
        have k0 : w1.cell? ⟨w.heap.size, 0, none⟩ = some (.slice a0 n0 c0) := cell_later hb1 (by simp)
        have k1 : w1.cell? ⟨w.heap.size, 1, none⟩ = some (.slice a1 n1 c1) := cell_later hb1 (by simp)
        have z0 : w1.cell? ⟨w.heap.size + 1, 0, none⟩ = some (.int .i64 0) := cell_later hb1 (by simp)
        have z1 : w1.cell? ⟨w.heap.size + 1, 1, none⟩ = some (.slice none 0 0) := cell_later hb1 (by simp)
        have z2 : w1.cell? ⟨w.heap.size + 1, 2, none⟩ = some (.slice none 0 0) := cell_later hb1 (by simp)
        have y0 : w1.frozen? ⟨w.heap.size + 1, 0, none⟩ = false := frozen_later hb1 (by simp) (by simp)
        have y1 : w1.frozen? ⟨w.heap.size + 1, 1, none⟩ = false := frozen_later hb1 (by simp) (by simp)
        have y2 : w1.frozen? ⟨w.heap.size + 1, 2, none⟩ = false := frozen_later hb1 (by simp) (by simp)
        have hz : w.heap.size + 1 < w1.heap.size := by have := hb1.size; simp at this; omega
        clear hb1
        go_wp2_with fail
        refine (isSector_is _ _ true HP.out).mono ?_
        rintro e w' ⟨rfl, rfl⟩
        go_wp2_with fail
        refine (isWord_is _ _ false HW.out).mono ?_
        rintro e w' ⟨rfl, rfl⟩
        go_wp2
        refine bodyPost_ret (v := .agg #[.int .i64 3, .slice none 0 0, .slice none 0 0]) (by simp [results, Try.results27, go_sem, z0, z1, z2]) rfl ⟨_, _, _, _, _, _, rfl, ⟨w.heap.size, Nat.le_refl _, ?_, RowAt.nil _ _ _ _ _, RowAt.nil _ _ _ _ _⟩, ?_⟩
        · simp; omega
        · refine Below.setCell (Below.setCell (Below.setCell B2 ?_ _) ?_ _) ?_ _ <;> simp
      | true =>
        have HW : Hid _ := hw
        by_cases hlen : n1 = 200
        · have t1 : ((n1 : Int) == 200) = true := by simp; omega
          have t2 : (200 : Int) ≤ n1 := by omega
          have hc : putCode xs ys x y = 2 := by simp [putCode, h0f, hp, hw, hy, hlen]
          obtain ⟨e1, e2⟩ := put_no hc (by decide)
          rw [hc, e1, e2]
          clear hc e1 e2 hp h0f hw hlen
          go_enter Try.func27, Try.ntmps27
          go_wp2_with fail
          refine (implFault_is _ _ _ _ _ _ xs ys _ (by exact h0.below B1) (by exact h1.below B1) hn hm _ HF.out).mono ?_
          rintro e w1 ⟨rfl, hb1⟩
          have B2 := below_next B1 hb1
          have k0 : w1.cell? ⟨w.heap.size, 0, none⟩ = some (.slice a0 n0 c0) := cell_later hb1 (by simp)
          have k1 : w1.cell? ⟨w.heap.size, 1, none⟩ = some (.slice a1 n1 c1) := cell_later hb1 (by simp)
          have z0 : w1.cell? ⟨w.heap.size + 1, 0, none⟩ = some (.int .i64 0) := cell_later hb1 (by simp)
          have z1 : w1.cell? ⟨w.heap.size + 1, 1, none⟩ = some (.slice none 0 0) := cell_later hb1 (by simp)
          have z2 : w1.cell? ⟨w.heap.size + 1, 2, none⟩ = some (.slice none 0 0) := cell_later hb1 (by simp)
          have y0 : w1.frozen? ⟨w.heap.size + 1, 0, none⟩ = false := frozen_later hb1 (by simp) (by simp)
          have y1 : w1.frozen? ⟨w.heap.size + 1, 1, none⟩ = false := frozen_later hb1 (by simp) (by simp)
          have y2 : w1.frozen? ⟨w.heap.size + 1, 2, none⟩ = false := frozen_later hb1 (by simp) (by simp)
          have hz : w.heap.size + 1 < w1.heap.size := by have := hb1.size; simp at this; omega
          clear hb1
          go_wp2_with fail
          refine (isSector_is _ _ true HP.out).mono ?_
          rintro e w' ⟨rfl, rfl⟩
          go_wp2_with fail
          refine (isWord_is _ _ true HW.out).mono ?_
          rintro e w' ⟨rfl, rfl⟩
          go_wp2
          refine bodyPost_ret (v := .agg #[.int .i64 2, .slice none 0 0, .slice none 0 0]) (by simp [results, Try.results27, go_sem, z0, z1, z2]) rfl ⟨_, _, _, _, _, _, rfl, ⟨w.heap.size, Nat.le_refl _, ?_, RowAt.nil _ _ _ _ _, RowAt.nil _ _ _ _ _⟩, ?_⟩
          · simp; omega
          · refine Below.setCell (Below.setCell (Below.setCell B2 ?_ _) ?_ _) ?_ _ <;> simp
        · have hlt : n1 < 200 := by omega
          have hc : putCode xs ys x y = 0 := by
            have : ¬ ys.length = 200 := by omega
            simp [putCode, h0f, hp, hw, this]
          obtain ⟨e1, e2⟩ := put_yes hc
          rw [hc, e1, e2]
          clear hc e1 e2 hp h0f hw
          have t1 : ((n1 : Int) == 200) = false := by simp; omega
          have t2 : ¬ ((200 : Int) ≤ n1) := by omega
          go_enter Try.func27, Try.ntmps27
          go_wp2_with fail
          refine (implFault_is _ _ _ _ _ _ xs ys _ (by exact h0.below B1) (by exact h1.below B1) hn hm _ HF.out).mono ?_
          rintro e w1 ⟨rfl, hb1⟩
          have B2 := below_next B1 hb1
          have k0 : w1.cell? ⟨w.heap.size, 0, none⟩ = some (.slice a0 n0 c0) := cell_later hb1 (by simp)
          have k1 : w1.cell? ⟨w.heap.size, 1, none⟩ = some (.slice a1 n1 c1) := cell_later hb1 (by simp)
          have z0 : w1.cell? ⟨w.heap.size + 1, 0, none⟩ = some (.int .i64 0) := cell_later hb1 (by simp)
          have z1 : w1.cell? ⟨w.heap.size + 1, 1, none⟩ = some (.slice none 0 0) := cell_later hb1 (by simp)
          have z2 : w1.cell? ⟨w.heap.size + 1, 2, none⟩ = some (.slice none 0 0) := cell_later hb1 (by simp)
          have y0 : w1.frozen? ⟨w.heap.size + 1, 0, none⟩ = false := frozen_later hb1 (by simp) (by simp)
          have y1 : w1.frozen? ⟨w.heap.size + 1, 1, none⟩ = false := frozen_later hb1 (by simp) (by simp)
          have y2 : w1.frozen? ⟨w.heap.size + 1, 2, none⟩ = false := frozen_later hb1 (by simp) (by simp)
          have hz : w.heap.size + 1 < w1.heap.size := by have := hb1.size; simp at this; omega
          clear hb1
          go_wp2_with fail
          refine (isSector_is _ _ true HP.out).mono ?_
          rintro e w' ⟨rfl, rfl⟩
          go_wp2_with fail
          refine (isWord_is _ _ true HW.out).mono ?_
          rintro e w' ⟨rfl, rfl⟩
          have B := B2
          go_wp2_with fail
          refine (sectorsOf_full _ _ _ xs _ (by exact h0.below B) hx).mono ?_
          rintro e w2 ⟨rfl, hb⟩
          have B := below_next B hb
          have z0 := cell_later hb z0
          have z1 := cell_later hb z1
          have z2 := cell_later hb z2
          have y0 := frozen_later hb hz y0
          have y1 := frozen_later hb hz y1
          have y2 := frozen_later hb hz y2
          have k1 := cell_later hb k1
          have hz := Nat.lt_of_lt_of_le hz hb.size
          clear hb
          go_wp2_with fail
          refine (cleanDisk_any xs hx _).mono ?_
          rintro e w3 ⟨rfl, r3, hb⟩
          have hz2 := hz
          have B := below_next B hb
          have z0 := cell_later hb z0
          have z1 := cell_later hb z1
          have z2 := cell_later hb z2
          have y0 := frozen_later hb hz y0
          have y1 := frozen_later hb hz y1
          have y2 := frozen_later hb hz y2
          have k1 := cell_later hb k1
          have hz := Nat.lt_of_lt_of_le hz hb.size
          have S3 := hb.size
          have lw : w.heap.size < w3.heap.size := by omega
          clear hb
          go_wp2_with fail
          have A1 : Below w3.heap.size w3 (((w3.alloc (.cells #[.int .i64 0, .slice (some ⟨w2.heap.size, 0, none⟩) 64 64, .slice none 0 0] 32)).alloc (.cells #[.int .i64 x, .int .i64 y] 41)).alloc (.cells #[.slice a1 n1 c1, .slice (some ⟨w3.heap.size + 1, 0, none⟩) 1 1] 25)) := (((Below.refl _ _).alloc (Nat.le_refl _) _).alloc (by simp) _).alloc (by simp; omega) _
          have BA := below_next B A1
          refine (concat_two _ (w3.heap.size + 1) a1 n1 c1 ys x y _ (by exact h1.below BA) (by omega) (by simp [go_sem]) (by simp [go_sem]) (by simp [go_sem]) (by simp [go_sem])).mono ?_
          rintro e w4 ⟨ao, cap, rfl, r4, hb⟩
          have m0 : w4.cell? ⟨w3.heap.size, 0, none⟩ = some (.int .i64 0) := cell_later hb (by simp [go_sem])
          have m1 : w4.cell? ⟨w3.heap.size, 1, none⟩ = some (.slice (some ⟨w2.heap.size, 0, none⟩) 64 64) := cell_later hb (by simp [go_sem])
          have m2 : w4.cell? ⟨w3.heap.size, 2, none⟩ = some (.slice none 0 0) := cell_later hb (by simp [go_sem])
          have f2 : w4.frozen? ⟨w3.heap.size, 2, none⟩ = false := frozen_later hb (by simp; omega) (by simp [go_sem])
          have z0 := cell_later hb (cell_later A1 z0)
          have z1 := cell_later hb (cell_later A1 z1)
          have z2 := cell_later hb (cell_later A1 z2)
          have hzA := Nat.lt_of_lt_of_le hz A1.size
          have y0 := frozen_later hb hzA (frozen_later A1 hz y0)
          have y1 := frozen_later hb hzA (frozen_later A1 hz y1)
          have y2 := frozen_later hb hzA (frozen_later A1 hz y2)
          have B4 := below_next BA hb
          have r5 := (r3.below A1).below hb
          have r4' : RowAt w4 true (w3.heap.size + 3) w4.heap.size 2 ao (n1 + 1) cap (pairs (ys ++ [(x, y)])) := by simpa using r4
          have S4 : w3.heap.size + 3 ≤ w4.heap.size := by have := hb.size; simp at this; omega
          have lw4 : w.heap.size + 1 < w4.heap.size := by omega
          have lw5 : w3.heap.size < w4.heap.size := by omega
          have K4 : Kept w3.heap.size (w3.heap.size + 1) w4 (w4.setCell ⟨w3.heap.size, 2, none⟩ (.slice ao (n1 + 1) cap)) := Kept.setCell (Kept.refl _ _ _) (show w3.heap.size ≤ w3.heap.size from Nat.le_refl _) (show w3.heap.size < w3.heap.size + 1 by omega) _
          have r6 := r5.kept K4 (by omega)
          have r7 := r4'.kept K4 (by omega)
          clear hb A1 BA r3 r4 hzA k0 k1 r5 r4' K4
          go_wp2
          refine bodyPost_ret (v := .agg #[.int .i64 0, .slice (some ⟨w2.heap.size, 0, none⟩) 64 64, .slice ao (n1 + 1) cap]) (by simp [results, Try.results27, go_sem, z0, z1, z2]) rfl ⟨_, _, _, _, _, _, rfl, ⟨w3.heap.size, by omega, ?_, RowAt.widen (RowAt.kept r6 (l := w.heap.size + 1) (u := w.heap.size + 2) ?_ (by omega)) (by omega) (Nat.le_refl _), RowAt.widen (RowAt.kept r7 (l := w.heap.size + 1) (u := w.heap.size + 2) ?_ (by omega)) (by omega) ?_⟩, ?_⟩
          · simp; omega
          · refine Kept.setCell (Kept.setCell (Kept.setCell (Kept.refl _ _ _) ?_ ?_ _) ?_ ?_ _) ?_ ?_ _ <;> simp
          · refine Kept.setCell (Kept.setCell (Kept.setCell (Kept.refl _ _ _) ?_ ?_ _) ?_ ?_ _) ?_ ?_ _ <;> simp
          · simp
          · refine Below.setCell (Below.setCell (Below.setCell (Below.setCell B4 ?_ _) ?_ _) ?_ _) ?_ _ <;> simp <;> omega
  · obtain ⟨f, hf⟩ : ∃ f, faultOf xs ys = f := ⟨_, rfl⟩
    have hc : putCode xs ys x y = f := by rw [putCode, if_neg h0f, hf]
    have hf0 : f ≠ 0 := by rw [← hf]; exact h0f
    obtain ⟨e1, e2⟩ := put_no hc hf0
    rw [hc, e1, e2]
    have hne : (f != 0) = true := by simp [hf0]
    have HF : Hid _ := hf
    clear hc e1 e2 hf h0f hf0
    go_enter Try.func27, Try.ntmps27
    go_wp2_with fail
    refine (implFault_is _ _ _ _ _ _ xs ys _ (by exact h0.below B1) (by exact h1.below B1) hn hm _ HF.out).mono ?_
    rintro e w1 ⟨rfl, hb1⟩
    have B2 := below_next B1 hb1
    have k0 : w1.cell? ⟨w.heap.size, 0, none⟩ = some (.slice a0 n0 c0) := cell_later hb1 (by simp)
    have k1 : w1.cell? ⟨w.heap.size, 1, none⟩ = some (.slice a1 n1 c1) := cell_later hb1 (by simp)
    have z0 : w1.cell? ⟨w.heap.size + 1, 0, none⟩ = some (.int .i64 0) := cell_later hb1 (by simp)
    have z1 : w1.cell? ⟨w.heap.size + 1, 1, none⟩ = some (.slice none 0 0) := cell_later hb1 (by simp)
    have z2 : w1.cell? ⟨w.heap.size + 1, 2, none⟩ = some (.slice none 0 0) := cell_later hb1 (by simp)
    have y0 : w1.frozen? ⟨w.heap.size + 1, 0, none⟩ = false := frozen_later hb1 (by simp) (by simp)
    have y1 : w1.frozen? ⟨w.heap.size + 1, 1, none⟩ = false := frozen_later hb1 (by simp) (by simp)
    have y2 : w1.frozen? ⟨w.heap.size + 1, 2, none⟩ = false := frozen_later hb1 (by simp) (by simp)
    have hz : w.heap.size + 1 < w1.heap.size := by have := hb1.size; simp at this; omega
    clear hb1
    go_wp2
    refine bodyPost_ret (v := .agg #[.int .i64 f, .slice none 0 0, .slice none 0 0]) (by simp [results, Try.results27, go_sem, z0, z1, z2]) rfl ⟨_, _, _, _, _, _, rfl, ⟨w.heap.size, Nat.le_refl _, ?_, RowAt.nil _ _ _ _ _, RowAt.nil _ _ _ _ _⟩, ?_⟩
    · simp; omega
    · refine Below.setCell (Below.setCell (Below.setCell B2 ?_ _) ?_ _) ?_ _ <;> simp

end Go.Proofs.Ytkpbmffklcgecaa
