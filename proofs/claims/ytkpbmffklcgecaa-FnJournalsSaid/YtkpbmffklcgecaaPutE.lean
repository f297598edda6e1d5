/- What the program's and the model's PutWord answer. -/
import Derived.Test.YtkpbmffklcgecaaPutD
namespace Go.Proofs.Ytkpbmffklcgecaa
open Go.RowKit


set_option maxRecDepth 20000 in
set_option maxHeartbeats 4000000 in
theorem specPut_any {o0 o1 : Bool} {l0 u0 l1 u1 : Nat} (a0 a1 : Option Addr) (n0 c0 n1 c1 : Nat) (xs : List Int) (ys : List (Int × Int)) (x y : Int) (w : World) (h0 : RowAt w o0 l0 u0 1 a0 n0 c0 (ints xs)) (h1 : RowAt w o1 l1 u1 2 a1 n1 c1 (pairs ys)) (hn : n0 ≤ 1048576) (hm : n1 ≤ 1048576) :
    Calls Try.prog 39 #[.agg #[.slice a0 n0 c0, .slice a1 n1 c1], .int .i64 x, .int .i64 y] w fun e w' => DiskRes w w' e (putCode xs ys x y) (putX xs ys x y) (putY xs ys x y) := by
  have B1 : Below w.heap.size w ((w.alloc (.cells #[.slice a0 n0 c0, .slice a1 n1 c1] 27)).alloc (.cells #[.int .i64 0, .slice none 0 0, .slice none 0 0] 32)) := ((Below.refl _ _).alloc (Nat.le_refl _) _).alloc (by simp) _
  have hy := h1.nPairs
  have hn : n0 ≤ 2097152 := by omega
  have hm : n1 ≤ 2097152 := by omega
  by_cases h0f : faultOf xs ys = 0
  · obtain ⟨hx, hy2, hpl⟩ := fault_zero h0f
    have HF : Hid _ := h0f
    cases hp : placeB x with
    | false =>
      have hc : putCode xs ys x y = 3 := by simp [putCode, h0f, hp]
      obtain ⟨e1, e2⟩ := put_no hc (by decide)
      rw [hc, e1, e2]
      have HP : Hid _ := hp
      clear hc e1 e2 hp h0f
      go_enter Try.func39, Try.ntmps39
      go_wp2_with fail
      refine (l1Fault_is _ a0 a1 n0 c0 n1 c1 xs ys _ (by exact h0.below B1) (by exact h1.below B1) hn hm (by simp) (by simp) _ HF.out).mono ?_
      rintro e w1 ⟨rfl, hW⟩
      have k0 : w1.cell? ⟨w.heap.size, 0, none⟩ = some (.slice a0 n0 c0) := by rw [hW]; simp
      have k1 : w1.cell? ⟨w.heap.size, 1, none⟩ = some (.slice a1 n1 c1) := by rw [hW]; simp
      have z0 : w1.cell? ⟨w.heap.size + 1, 0, none⟩ = some (.int .i64 0) := by rw [hW]; simp
      have z1 : w1.cell? ⟨w.heap.size + 1, 1, none⟩ = some (.slice none 0 0) := by rw [hW]; simp
      have z2 : w1.cell? ⟨w.heap.size + 1, 2, none⟩ = some (.slice none 0 0) := by rw [hW]; simp
      have y0 : w1.frozen? ⟨w.heap.size + 1, 0, none⟩ = false := by rw [hW]; simp
      have y1 : w1.frozen? ⟨w.heap.size + 1, 1, none⟩ = false := by rw [hW]; simp
      have y2 : w1.frozen? ⟨w.heap.size + 1, 2, none⟩ = false := by rw [hW]; simp
      have hz : w.heap.size + 1 < w1.heap.size := by rw [hW]; simp
      have B2 := B1
      rw [← hW] at B2
      clear hW
      go_wp2_with fail
      refine (l1Place_is _ _ false HP.out).mono ?_
      rintro e w' ⟨rfl, rfl⟩
      go_wp2
      refine bodyPost_ret (v := .agg #[.int .i64 3, .slice none 0 0, .slice none 0 0]) (by simp [results, Try.results39, go_sem, z0, z1, z2]) rfl ⟨_, _, _, _, _, _, rfl, ⟨w.heap.size, Nat.le_refl _, ?_, RowAt.nil _ _ _ _ _, RowAt.nil _ _ _ _ _⟩, ?_⟩
      · simp; omega
      · refine Below.setCell (Below.setCell (Below.setCell B2 ?_ _) ?_ _) ?_ _ <;> simp
    | true =>
      have HP : Hid _ := hp
      cases hw : wordB y with
      | false =>
        have hc : putCode xs ys x y = 3 := by simp [putCode, h0f, hw]
        obtain ⟨e1, e2⟩ := put_no hc (by decide)
        rw [hc, e1, e2]
        have HW : Hid _ := hw
        clear hc e1 e2 hp h0f hw
        go_enter Try.func39, Try.ntmps39
        go_wp2_with fail
        refine (l1Fault_is _ a0 a1 n0 c0 n1 c1 xs ys _ (by exact h0.below B1) (by exact h1.below B1) hn hm (by simp) (by simp) _ HF.out).mono ?_
        rintro e w1 ⟨rfl, hW⟩
        have k0 : w1.cell? ⟨w.heap.size, 0, none⟩ = some (.slice a0 n0 c0) := by rw [hW]; simp
        have k1 : w1.cell? ⟨w.heap.size, 1, none⟩ = some (.slice a1 n1 c1) := by rw [hW]; simp
        have z0 : w1.cell? ⟨w.heap.size + 1, 0, none⟩ = some (.int .i64 0) := by rw [hW]; simp
        have z1 : w1.cell? ⟨w.heap.size + 1, 1, none⟩ = some (.slice none 0 0) := by rw [hW]; simp
        have z2 : w1.cell? ⟨w.heap.size + 1, 2, none⟩ = some (.slice none 0 0) := by rw [hW]; simp
        have y0 : w1.frozen? ⟨w.heap.size + 1, 0, none⟩ = false := by rw [hW]; simp
        have y1 : w1.frozen? ⟨w.heap.size + 1, 1, none⟩ = false := by rw [hW]; simp
        have y2 : w1.frozen? ⟨w.heap.size + 1, 2, none⟩ = false := by rw [hW]; simp
        have hz : w.heap.size + 1 < w1.heap.size := by rw [hW]; simp
        have B2 := B1
        rw [← hW] at B2
        clear hW
        go_wp2_with fail
        refine (l1Place_is _ _ true HP.out).mono ?_
        rintro e w' ⟨rfl, rfl⟩
        go_wp2_with fail
        refine (l1Word_is _ _ false HW.out).mono ?_
        rintro e w' ⟨rfl, rfl⟩
        go_wp2
        refine bodyPost_ret (v := .agg #[.int .i64 3, .slice none 0 0, .slice none 0 0]) (by simp [results, Try.results39, go_sem, z0, z1, z2]) rfl ⟨_, _, _, _, _, _, rfl, ⟨w.heap.size, Nat.le_refl _, ?_, RowAt.nil _ _ _ _ _, RowAt.nil _ _ _ _ _⟩, ?_⟩
        · simp; omega
        · refine Below.setCell (Below.setCell (Below.setCell B2 ?_ _) ?_ _) ?_ _ <;> simp
      | true =>
        have HW : Hid _ := hw
        by_cases hlen : n1 = 200
        · have t1 : ((n1 : Int) == 200) = true := by simp; omega
          have t2 : (200 : Int) ≤ n1 := by omega
          have hc : putCode xs ys x y = 2 := by simp [putCode, h0f, hp, hw, hy, hlen]
          obtain ⟨e1, e2⟩ := put_no hc (by decide)
          rw [hc, e1, e2]
          clear hc e1 e2 hp h0f hw hlen
          go_enter Try.func39, Try.ntmps39
          go_wp2_with fail
          refine (l1Fault_is _ a0 a1 n0 c0 n1 c1 xs ys _ (by exact h0.below B1) (by exact h1.below B1) hn hm (by simp) (by simp) _ HF.out).mono ?_
          rintro e w1 ⟨rfl, hW⟩
          have k0 : w1.cell? ⟨w.heap.size, 0, none⟩ = some (.slice a0 n0 c0) := by rw [hW]; simp
          have k1 : w1.cell? ⟨w.heap.size, 1, none⟩ = some (.slice a1 n1 c1) := by rw [hW]; simp
          have z0 : w1.cell? ⟨w.heap.size + 1, 0, none⟩ = some (.int .i64 0) := by rw [hW]; simp
          have z1 : w1.cell? ⟨w.heap.size + 1, 1, none⟩ = some (.slice none 0 0) := by rw [hW]; simp
          have z2 : w1.cell? ⟨w.heap.size + 1, 2, none⟩ = some (.slice none 0 0) := by rw [hW]; simp
          have y0 : w1.frozen? ⟨w.heap.size + 1, 0, none⟩ = false := by rw [hW]; simp
          have y1 : w1.frozen? ⟨w.heap.size + 1, 1, none⟩ = false := by rw [hW]; simp
          have y2 : w1.frozen? ⟨w.heap.size + 1, 2, none⟩ = false := by rw [hW]; simp
          have hz : w.heap.size + 1 < w1.heap.size := by rw [hW]; simp
          have B2 := B1
          rw [← hW] at B2
          clear hW
          go_wp2_with fail
          refine (l1Place_is _ _ true HP.out).mono ?_
          rintro e w' ⟨rfl, rfl⟩
          go_wp2_with fail
          refine (l1Word_is _ _ true HW.out).mono ?_
          rintro e w' ⟨rfl, rfl⟩
          go_wp2
          refine bodyPost_ret (v := .agg #[.int .i64 2, .slice none 0 0, .slice none 0 0]) (by simp [results, Try.results39, go_sem, z0, z1, z2]) rfl ⟨_, _, _, _, _, _, rfl, ⟨w.heap.size, Nat.le_refl _, ?_, RowAt.nil _ _ _ _ _, RowAt.nil _ _ _ _ _⟩, ?_⟩
          · simp; omega
          · refine Below.setCell (Below.setCell (Below.setCell B2 ?_ _) ?_ _) ?_ _ <;> simp
        · have hlt : n1 < 200 := by omega
          have hc : putCode xs ys x y = 0 := by
            have : ¬ ys.length = 200 := by omega
            simp [putCode, h0f, hp, hw, this]
          obtain ⟨e1, e2⟩ := put_yes hc
          rw [hc, e1, e2]
          clear hc e1 e2 hp h0f hw
          have t1 : ((n1 : Int) == 200) = false := by simp; omega
          have t2 : ¬ ((200 : Int) ≤ n1) := by omega
          go_enter Try.func39, Try.ntmps39
          go_wp2_with fail
          refine (l1Fault_is _ a0 a1 n0 c0 n1 c1 xs ys _ (by exact h0.below B1) (by exact h1.below B1) hn hm (by simp) (by simp) _ HF.out).mono ?_
          rintro e w1 ⟨rfl, hW⟩
          have k0 : w1.cell? ⟨w.heap.size, 0, none⟩ = some (.slice a0 n0 c0) := by rw [hW]; simp
          have k1 : w1.cell? ⟨w.heap.size, 1, none⟩ = some (.slice a1 n1 c1) := by rw [hW]; simp
          have z0 : w1.cell? ⟨w.heap.size + 1, 0, none⟩ = some (.int .i64 0) := by rw [hW]; simp
          have z1 : w1.cell? ⟨w.heap.size + 1, 1, none⟩ = some (.slice none 0 0) := by rw [hW]; simp
          have z2 : w1.cell? ⟨w.heap.size + 1, 2, none⟩ = some (.slice none 0 0) := by rw [hW]; simp
          have y0 : w1.frozen? ⟨w.heap.size + 1, 0, none⟩ = false := by rw [hW]; simp
          have y1 : w1.frozen? ⟨w.heap.size + 1, 1, none⟩ = false := by rw [hW]; simp
          have y2 : w1.frozen? ⟨w.heap.size + 1, 2, none⟩ = false := by rw [hW]; simp
          have hz : w.heap.size + 1 < w1.heap.size := by rw [hW]; simp
          have B2 := B1
          rw [← hW] at B2
          clear hW
          go_wp2_with fail
          refine (l1Place_is _ _ true HP.out).mono ?_
          rintro e w' ⟨rfl, rfl⟩
          go_wp2_with fail
          refine (l1Word_is _ _ true HW.out).mono ?_
          rintro e w' ⟨rfl, rfl⟩
          have B := B2
          go_wp2_with fail
          refine (l1Copy_any _ _ _ _ _ _ xs ys _ (by exact h0.below B) (by exact h1.below B) (by omega) (by omega)).mono ?_
          rintro e w2 ⟨b0, d0, b1, d1, mid, rfl, m1, m2, r0, hF, hb⟩
          have B := below_next B hb
          have z0 := cell_later hb z0
          have z1 := cell_later hb z1
          have z2 := cell_later hb z2
          have y0 := frozen_later hb hz y0
          have y1 := frozen_later hb hz y1
          have y2 := frozen_later hb hz y2
          have k1 := cell_later hb k1
          have hz := Nat.lt_of_lt_of_le hz hb.size
          clear hb
          obtain ⟨j0, hj0, hy0, hy1, hy3⟩ := info_parts Try.infoPut
          have A2 : Below w2.heap.size w2 ((w2.alloc (.cells #[.slice (some b0) n0 d0, .slice (some b1) n1 d1] 27)).alloc (.cells #[.int .i64 x, .int .i64 y] 41)) := ((Below.refl _ _).alloc (Nat.le_refl _) _).alloc (by simp) _
          have FA := hF.below A2
          obtain ⟨WA, hWA⟩ : ∃ WA, WA = (w2.alloc (.cells #[.slice (some b0) n0 d0, .slice (some b1) n1 d1] 27)).alloc (.cells #[.int .i64 x, .int .i64 y] 41) := ⟨_, rfl⟩
          have sA : WA.heap.size = w2.heap.size + 2 := by rw [hWA]; simp
          have src : RowAt WA true (w2.heap.size + 1) (w2.heap.size + 1 + 1) 2 (some ⟨w2.heap.size + 1, 0, none⟩) 1 1 [.int .i64 x, .int .i64 y] := RowAt.of_front (rest := #[]) (t := 41) (by rw [hWA]; simpa using heap_alloc2_new _ _ _) rfl (Nat.le_refl _)
          have x0 : WA.cell? ⟨w2.heap.size, 0, none⟩ = some (.slice (some b0) n0 d0) := by rw [hWA]; simp
          have x1 : WA.cell? ⟨w2.heap.size, 1, none⟩ = some (.slice (some b1) n1 d1) := by rw [hWA]; simp
          have x2 : WA.frozen? ⟨w2.heap.size, 1, none⟩ = false := by rw [hWA]; simp
          rw [← hWA] at A2 FA
          have h1c : ∀ u ∈ [Value.int .i64 x, Value.int .i64 y], u.oneCell' = true := by intro u hu; simp at hu; rcases hu with rfl | rfl <;> rfl
          have hz5 : (Value.agg #[.int .i64 0, .int .i64 0]).cells.size = j0.size := by rw [hy1]; rfl
          obtain ⟨ao, cap, w3, l3, u3, hr, r3, K3, g1, g2, g3⟩ := run_append_more (P := Try.prog) WA 25 25 41 j0 (.agg #[.int .i64 0, .int .i64 0]) 2 16 Try.underlying25 hj0 hy0 hy1 hy3 hz5 (by omega) mid w2.heap.size _ _ _ FA (by omega) _ _ _ _ src (by omega) h1c (by omega) (by omega)
          have HR : Hid _ := hr
          clear hr
          have zA := Nat.lt_of_lt_of_le hz A2.size
          have z0 := K3.cell (cell_later A2 z0) (by omega)
          have z1 := K3.cell (cell_later A2 z1) (by omega)
          have z2 := K3.cell (cell_later A2 z2) (by omega)
          have y0 := K3.frozen zA (by omega) (frozen_later A2 hz y0)
          have y1 := K3.frozen zA (by omega) (frozen_later A2 hz y1)
          have y2 := K3.frozen zA (by omega) (frozen_later A2 hz y2)
          have x0 := K3.cell x0 (by omega)
          have x1 := K3.cell x1 (by omega)
          have x2 := K3.frozen (by omega) (by omega) x2
          have r4 := (r0.below A2).kept K3 (by omega)
          have B3 := below_next B A2
          have S3 := K3.size
          have B4 : Below w.heap.size w w3 := B3.trans (K3.below w.heap.size (by omega) (by omega))
          have r3 : RowAt w3 true l3 u3 2 ao (n1 + 1) cap (pairs (ys ++ [(x, y)])) := by simpa [pairs] using r3
          have K4 : Kept w2.heap.size (w2.heap.size + 1) w3 (w3.setCell ⟨w2.heap.size, 1, none⟩ (.slice ao (n1 + 1) cap)) := Kept.setCell (Kept.refl _ _ _) (show w2.heap.size ≤ w2.heap.size from Nat.le_refl _) (show w2.heap.size < w2.heap.size + 1 by omega) _
          have r6 := r4.kept K4 (by omega)
          have r7 := r3.kept K4 (by omega)
          have lw4 : w.heap.size + 1 < w3.heap.size := by omega
          have lw5 : w2.heap.size < w3.heap.size := by omega
          rw [hWA] at HR
          clear hWA FA hF src A2 hz5
          go_wp2_with (first | (at_builtin; (with_reducible refine append_run1 25 25 _ _ _ _ HR.out ?_ ?_ ?_); rfl; rfl))
          refine bodyPost_ret (v := .agg #[.int .i64 0, .slice (some b0) n0 d0, .slice ao (n1 + 1) cap]) (by simp [results, Try.results39, go_sem, z0, z1, z2]) rfl ⟨_, _, _, _, _, _, rfl, ⟨mid, by omega, ?_, RowAt.widen (RowAt.kept r6 (l := w.heap.size + 1) (u := w.heap.size + 2) ?_ (by omega)) (by omega) (Nat.le_refl _), RowAt.widen (RowAt.kept r7 (l := w.heap.size + 1) (u := w.heap.size + 2) ?_ (by omega)) (by omega) ?_⟩, ?_⟩
          · simp; omega
          · refine Kept.setCell (Kept.setCell (Kept.setCell (Kept.refl _ _ _) ?_ ?_ _) ?_ ?_ _) ?_ ?_ _ <;> simp
          · refine Kept.setCell (Kept.setCell (Kept.setCell (Kept.refl _ _ _) ?_ ?_ _) ?_ ?_ _) ?_ ?_ _ <;> simp
          · simp; omega
          · refine Below.setCell (Below.setCell (Below.setCell (Below.setCell B4 ?_ _) ?_ _) ?_ _) ?_ _ <;> simp <;> omega
  · obtain ⟨f, hf⟩ : ∃ f, faultOf xs ys = f := ⟨_, rfl⟩
    have hc : putCode xs ys x y = f := by rw [putCode, if_neg h0f, hf]
    have hf0 : f ≠ 0 := by rw [← hf]; exact h0f
    obtain ⟨e1, e2⟩ := put_no hc hf0
    rw [hc, e1, e2]
    have hne : (f != 0) = true := by simp [hf0]
    have HF : Hid _ := hf
    clear hc e1 e2 hf h0f hf0
    go_enter Try.func39, Try.ntmps39
    go_wp2_with fail
    refine (l1Fault_is _ a0 a1 n0 c0 n1 c1 xs ys _ (by exact h0.below B1) (by exact h1.below B1) hn hm (by simp) (by simp) _ HF.out).mono ?_
    rintro e w1 ⟨rfl, hW⟩
    have k0 : w1.cell? ⟨w.heap.size, 0, none⟩ = some (.slice a0 n0 c0) := by rw [hW]; simp
    have k1 : w1.cell? ⟨w.heap.size, 1, none⟩ = some (.slice a1 n1 c1) := by rw [hW]; simp
    have z0 : w1.cell? ⟨w.heap.size + 1, 0, none⟩ = some (.int .i64 0) := by rw [hW]; simp
    have z1 : w1.cell? ⟨w.heap.size + 1, 1, none⟩ = some (.slice none 0 0) := by rw [hW]; simp
    have z2 : w1.cell? ⟨w.heap.size + 1, 2, none⟩ = some (.slice none 0 0) := by rw [hW]; simp
    have y0 : w1.frozen? ⟨w.heap.size + 1, 0, none⟩ = false := by rw [hW]; simp
    have y1 : w1.frozen? ⟨w.heap.size + 1, 1, none⟩ = false := by rw [hW]; simp
    have y2 : w1.frozen? ⟨w.heap.size + 1, 2, none⟩ = false := by rw [hW]; simp
    have hz : w.heap.size + 1 < w1.heap.size := by rw [hW]; simp
    have B2 := B1
    rw [← hW] at B2
    clear hW
    go_wp2
    refine bodyPost_ret (v := .agg #[.int .i64 f, .slice none 0 0, .slice none 0 0]) (by simp [results, Try.results39, go_sem, z0, z1, z2]) rfl ⟨_, _, _, _, _, _, rfl, ⟨w.heap.size, Nat.le_refl _, ?_, RowAt.nil _ _ _ _ _, RowAt.nil _ _ _ _ _⟩, ?_⟩
    · simp; omega
    · refine Below.setCell (Below.setCell (Below.setCell B2 ?_ _) ?_ _) ?_ _ <;> simp

end Go.Proofs.Ytkpbmffklcgecaa
