/- Chapter 3: the program's smaller functions: blocks as complex numbers. -/
import Derived.Test.YtlblbjebbecgbaaFL
import Derived.Test.YtlblbjebbecgbaaP2
import Derived.Laws.ComplexArith
namespace Go.Proofs.Ytlblbjebbecgbaa
open Go.RowKit

theorem isRefs_is (x : Int) (w : World) (d : Bool) (h : refsB x = d) : Calls Try.prog 121 #[.int .i64 x] w fun e w' => e = .returned (.bool d) ∧ w' = w := by
  subst h
  unfold refsB
  by_cases h0 : 0 ≤ x
  · by_cases h1 : x ≤ 200
    · go_enter Try.func121, Try.ntmps121
      go_wp2
      go_ret
      exact ⟨ret_bool (by simp; omega), rfl⟩
    · go_enter Try.func121, Try.ntmps121
      go_wp2
      go_ret
      exact ⟨ret_bool (by simp; omega), rfl⟩
  · go_enter Try.func121, Try.ntmps121
    go_wp2
    go_ret
    exact ⟨ret_bool (by simp; omega), rfl⟩
theorem isData_is (x : Int) (w : World) (d : Bool) (h : dataB x = d) : Calls Try.prog 87 #[.int .i64 x] w fun e w' => e = .returned (.bool d) ∧ w' = w := by
  subst h
  unfold dataB
  by_cases h0 : 0 ≤ x
  · by_cases h1 : x ≤ 255
    · go_enter Try.func87, Try.ntmps87
      go_wp2
      go_ret
      exact ⟨ret_bool (by simp; omega), rfl⟩
    · go_enter Try.func87, Try.ntmps87
      go_wp2
      go_ret
      exact ⟨ret_bool (by simp; omega), rfl⟩
  · go_enter Try.func87, Try.ntmps87
    go_wp2
    go_ret
    exact ⟨ret_bool (by simp; omega), rfl⟩

theorem conv_back (b : Nat) (x : Int) (h : floatToIntVal .f64 b .i64 = some x) (w : World) : (convert 134 2 (.float .f64 b)).run Try.prog w = .ok (.int .i64 x) w :=
  run_convert_float_int w 134 2 .f64 .i64 b x (by rw [Try.underlying134]; rfl) Try.underlying2 h
theorem conv_num (a b : Nat) (w : World) : (convert 110 111 (.complex .f64 a b)).run Try.prog w = .ok (.complex .f64 a b) w :=
  run_convert_complex w 110 111 .f64 .f64 a b a b (by rw [Try.underlying110]; rfl) Try.underlying111 (by simp [cConvBits, floatToFloatBits])

theorem refs_is (a b : Nat) (x : Int) (w : World) (h : floatToIntVal .f64 a .i64 = some x) : Calls Try.prog 119 #[.complex .f64 a b] w fun e w' => e = .returned (.int .i64 x) ∧ w' = w := by
  have hc := conv_back a x h
  go_enter Try.func119, Try.ntmps119
  go_wp2_with (simp only [hc])
  all_goals (go_ret; exact ⟨rfl, rfl⟩)
theorem data_is (a b : Nat) (x : Int) (w : World) (h : floatToIntVal .f64 b .i64 = some x) : Calls Try.prog 120 #[.complex .f64 a b] w fun e w' => e = .returned (.int .i64 x) ∧ w' = w := by
  have hc := conv_back b x h
  go_enter Try.func120, Try.ntmps120
  go_wp2_with (simp only [hc])
  all_goals (go_ret; exact ⟨rfl, rfl⟩)
theorem takenBlock_is (x : Int) (w : World) (h0 : 0 ≤ x) (h1 : x ≤ 256) : Calls Try.prog 90 #[.int .i64 x] w fun e w' => e = .returned (numOf (1, x)) ∧ w' = w := by
  have hop := fun t w => run_complex_sum (P := Try.prog) w .add (Or.inl rfl) t .f64 _ _ _ _ _ _ (num_taken h0 h1)
  have hc := conv_num
  go_enter Try.func90, Try.ntmps90
  go_wp2_with (simp only [hop, hc])
  all_goals (go_ret; exact ⟨rfl, rfl⟩)
theorem dropped_is (p : Int × Int) (w : World) (h : Small p) (hz : p.1 ≠ 0) : Calls Try.prog 96 #[numOf p] w fun e w' => e = .returned (numOf (less1 p)) ∧ w' = w := by
  obtain ⟨x, y⟩ := p
  obtain ⟨⟨h0, h1⟩, h2, h3⟩ := h
  simp only at h0 h1 h2 h3 hz
  unfold numOf
  simp only
  by_cases e : x = 1
  · subst e
    have he : (numOf (less1 (1, y))) = .complex .f64 0 0 := by simp [numOf, less1, fb_zero]
    unfold numOf at he
    rw [he]
    have HB : Hid _ := fb_back h0 h1
    clear he
    go_enter Try.func96, Try.ntmps96
    go_wp2_with fail
    refine (refs_is _ _ 1 _ HB.out).mono ?_
    rintro e w1 ⟨rfl, rfl⟩
    go_wp2
    go_ret
    exact ⟨rfl, rfl⟩
  · have he : (numOf (less1 (x, y))) = .complex .f64 (floatOfInt .f64 (x - 1)) (floatOfInt .f64 y) := by rw [less1, if_neg (by simp; omega)]; rfl
    unfold numOf at he
    rw [he]
    have HB : Hid _ := fb_back h0 h1
    have hop := fun t w => run_complex_sum (P := Try.prog) w .sub (Or.inr rfl) t .f64 _ _ _ _ _ _ (num_less (x := x - 1) (y := y) ⟨⟨by simp; omega, by simp; omega⟩, h2, h3⟩)
    rw [show x - 1 + 1 = x by omega] at hop
    clear he
    go_enter Try.func96, Try.ntmps96
    go_wp2_with fail
    refine (refs_is _ _ x _ HB.out).mono ?_
    rintro e w1 ⟨rfl, rfl⟩
    go_wp2
    go_ret
    exact ⟨rfl, rfl⟩

theorem blockFault_is (x y : Int) (w : World) (r : Int) (h : blkOne (x, y) = r) : Calls Try.prog 97 #[.agg #[.int .i64 x, .int .i64 y]] w fun e w' => e = .returned (.int .i64 r) ∧ Below w.heap.size w w' := by
  have A : Below w.heap.size w (w.alloc (.cells #[.int .i64 x, .int .i64 y] 55)) := (Below.refl _ _).alloc (Nat.le_refl _) _
  cases hx : refsB x with
  | false =>
    have H1 : Hid _ := hx
    have hr : r = 3 := by rw [← h]; simp [blkOne, hx]
    subst hr
    clear hx h
    go_enter Try.func97, Try.ntmps97
    go_wp2_with fail
    refine (isRefs_is x _ false H1.out).mono ?_
    rintro e w1 ⟨rfl, rfl⟩
    go_wp2
    go_ret
    exact ⟨rfl, A⟩
  | true =>
    have H1 : Hid _ := hx
    cases hy : dataB y with
    | false =>
      have H2 : Hid _ := hy
      have hr : r = 3 := by rw [← h]; simp [blkOne, hy]
      subst hr
      clear hx hy h
      go_enter Try.func97, Try.ntmps97
      go_wp2_with fail
      refine (isRefs_is x _ true H1.out).mono ?_
      rintro e w1 ⟨rfl, rfl⟩
      go_wp2_with fail
      refine (isData_is y _ false H2.out).mono ?_
      rintro e w1 ⟨rfl, rfl⟩
      go_wp2
      go_ret
      exact ⟨rfl, A⟩
    | true =>
      have H2 : Hid _ := hy
      have HR : Hid ((if x = 0 ∧ y ≠ 0 then 1 else 0) = r) := by show _ = _; rw [← h]; simp [blkOne, hx, hy]
      clear hx hy h
      by_cases hz : x = 0
      · subst hz
        by_cases hz2 : y = 0
        · subst hz2
          have hr : r = 0 := by rw [← HR.out]; rfl
          subst hr
          go_enter Try.func97, Try.ntmps97
          go_wp2_with fail
          refine (isRefs_is 0 _ true H1.out).mono ?_
          rintro e w1 ⟨rfl, rfl⟩
          go_wp2_with fail
          refine (isData_is 0 _ true H2.out).mono ?_
          rintro e w1 ⟨rfl, rfl⟩
          go_wp2
          go_ret
          exact ⟨rfl, A⟩
        · have hr : r = 1 := by rw [← HR.out]; simp [hz2]
          subst hr
          have hne : (y != 0) = true := by simp [hz2]
          go_enter Try.func97, Try.ntmps97
          go_wp2_with fail
          refine (isRefs_is 0 _ true H1.out).mono ?_
          rintro e w1 ⟨rfl, rfl⟩
          go_wp2_with fail
          refine (isData_is y _ true H2.out).mono ?_
          rintro e w1 ⟨rfl, rfl⟩
          go_wp2
          go_ret
          exact ⟨rfl, A⟩
      · have hr : r = 0 := by rw [← HR.out]; simp [hz]
        subst hr
        go_enter Try.func97, Try.ntmps97
        go_wp2_with fail
        refine (isRefs_is x _ true H1.out).mono ?_
        rintro e w1 ⟨rfl, rfl⟩
        go_wp2_with fail
        refine (isData_is y _ true H2.out).mono ?_
        rintro e w1 ⟨rfl, rfl⟩
        go_wp2
        go_ret
        exact ⟨rfl, A⟩

end Go.Proofs.Ytlblbjebbecgbaa
