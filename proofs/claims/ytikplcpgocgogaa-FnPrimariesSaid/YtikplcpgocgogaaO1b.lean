/- Chapter 5: the fault of an operation, of the model and of the program. -/
import Derived.Test.YtikplcpgocgogaaYP
namespace Go.Proofs.Ytikplcpgocgogaa
open Go.RowKit

theorem l1In_is' (x a b : Int) (w : World) (d : Bool) (h : decide (a ≤ x ∧ x ≤ b) = d) : Calls Try.prog 104 #[.int .i64 x, .int .i64 a, .int .i64 b] w fun e w' => e = .returned (.bool d) ∧ w' = w := by rw [← h]; exact l1In_any x a b w

set_option maxRecDepth 20000 in
set_option maxHeartbeats 4000000 in
theorem specOpF_is (k v a x : Int) (w : World) (d : Int) (hd : opF k v a x = d) : Calls Try.prog 121 #[.agg #[.int .i64 k, .int .i64 v, .int .i64 a, .int .i64 x]] w fun e w' => e = .returned (.int .i64 d) ∧ Below w.heap.size w w' := by
  have HD : Hid _ := hd
  clear hd
  have B : Below w.heap.size w (w.alloc (.cells #[.int .i64 k, .int .i64 v, .int .i64 a, .int .i64 x] 31)) := (Below.refl _ _).alloc (Nat.le_refl _) _
  have c0 : (w.alloc (.cells #[.int .i64 k, .int .i64 v, .int .i64 a, .int .i64 x] 31)).cell? ⟨w.heap.size, 0, none⟩ = some (.int .i64 k) := by simp
  have c1 : (w.alloc (.cells #[.int .i64 k, .int .i64 v, .int .i64 a, .int .i64 x] 31)).cell? ⟨w.heap.size, 1, none⟩ = some (.int .i64 v) := by simp
  have c2 : (w.alloc (.cells #[.int .i64 k, .int .i64 v, .int .i64 a, .int .i64 x] 31)).cell? ⟨w.heap.size, 2, none⟩ = some (.int .i64 a) := by simp
  have c3 : (w.alloc (.cells #[.int .i64 k, .int .i64 v, .int .i64 a, .int .i64 x] 31)).cell? ⟨w.heap.size, 3, none⟩ = some (.int .i64 x) := by simp
  obtain ⟨b1, h1⟩ : ∃ b, volIdB v = b := ⟨_, rfl⟩
  obtain ⟨b2, h2⟩ : ∃ b, spotB a = b := ⟨_, rfl⟩
  go_enter Try.func121, Try.ntmps121
  by_cases k1 : k = 1
  · subst k1
    go_wp2_with fail
    refine (l1In_is' 1 1 6 _ true (by decide)).mono ?_
    rintro e _ ⟨rfl, rfl⟩
    go_wp2_with fail
    refine (l5Id_is v _ b1 h1).mono ?_
    rintro e _ ⟨rfl, rfl⟩
    cases b1 with
    | false =>
      go_wp2
      go_ret
      refine ⟨ret_int (by rw [← HD.out]; simp [opF, opAt, opValB, h1]), B⟩
    | true =>
      go_wp2_with fail
      refine (l1In_is' x 1 16 _ (quotaB x) rfl).mono ?_
      rintro e _ ⟨rfl, rfl⟩
      cases h3 : quotaB x with
      | false =>
        go_wp2
        go_ret
        refine ⟨ret_int (by rw [← HD.out]; simp [opF, opAt, opValB, h1, h2, h3]), B⟩
      | true =>
        by_cases za : a = 0
        · subst za
          go_wp2
          go_ret
          refine ⟨ret_int (by rw [← HD.out]; simp [opF, opAt, opVal, opValB, h1, h2, h3]), B⟩
        have za' : (a != 0) = true := by simp [za]
        go_wp2
        go_ret
        refine ⟨ret_int (by rw [← HD.out]; simp [opF, opAt, opVal, opValB, h1, h2, h3, za]), B⟩
  by_cases k2 : k = 2
  · subst k2
    go_wp2_with fail
    refine (l1In_is' 2 1 6 _ true (by decide)).mono ?_
    rintro e _ ⟨rfl, rfl⟩
    go_wp2_with fail
    refine (l5Id_is v _ b1 h1).mono ?_
    rintro e _ ⟨rfl, rfl⟩
    cases b1 with
    | false =>
      go_wp2
      go_ret
      refine ⟨ret_int (by rw [← HD.out]; simp [opF, opAt, opValB, h1]), B⟩
    | true =>
      go_wp2_with fail
      refine (l4Place_is a _ b2 h2).mono ?_
      rintro e _ ⟨rfl, rfl⟩
      cases b2 with
      | false =>
        go_wp2
        go_ret
        refine ⟨ret_int (by rw [← HD.out]; simp [opF, opAt, opValB, h1, h2]), B⟩
      | true =>
        go_wp2_with fail
        refine (l3Data_is x _ (dataB x) rfl).mono ?_
        rintro e _ ⟨rfl, rfl⟩
        cases h3 : dataB x with
        | false =>
          go_wp2
          go_ret
          refine ⟨ret_int (by rw [← HD.out]; simp [opF, opAt, opValB, h1, h2, h3]), B⟩
        | true =>
          go_wp2
          go_ret
          refine ⟨ret_int (by rw [← HD.out]; simp [opF, opAt, opVal, opValB, h1, h2, h3]), B⟩
  by_cases k3 : k = 3
  · subst k3
    go_wp2_with fail
    refine (l1In_is' 3 1 6 _ true (by decide)).mono ?_
    rintro e _ ⟨rfl, rfl⟩
    go_wp2_with fail
    refine (l5Id_is v _ b1 h1).mono ?_
    rintro e _ ⟨rfl, rfl⟩
    cases b1 with
    | false =>
      go_wp2
      go_ret
      refine ⟨ret_int (by rw [← HD.out]; simp [opF, opAt, opValB, h1]), B⟩
    | true =>
      go_wp2_with fail
      refine (l4Place_is a _ b2 h2).mono ?_
      rintro e _ ⟨rfl, rfl⟩
      cases b2 with
      | false =>
        go_wp2
        go_ret
        refine ⟨ret_int (by rw [← HD.out]; simp [opF, opAt, opValB, h1, h2]), B⟩
      | true =>
        by_cases zx : x = 0
        · subst zx
          go_wp2
          go_ret
          refine ⟨ret_int (by rw [← HD.out]; simp [opF, opAt, opVal, opValB, h1, h2]), B⟩
        have zx' : (x != 0) = true := by simp [zx]
        go_wp2
        go_ret
        refine ⟨ret_int (by rw [← HD.out]; simp [opF, opAt, opVal, opValB, h1, h2, zx]), B⟩
  by_cases k4 : k = 4
  · subst k4
    go_wp2_with fail
    refine (l1In_is' 4 1 6 _ true (by decide)).mono ?_
    rintro e _ ⟨rfl, rfl⟩
    go_wp2_with fail
    refine (l5Id_is v _ b1 h1).mono ?_
    rintro e _ ⟨rfl, rfl⟩
    cases b1 with
    | false =>
      go_wp2
      go_ret
      refine ⟨ret_int (by rw [← HD.out]; simp [opF, opAt, opValB, h1]), B⟩
    | true =>
      go_wp2_with fail
      refine (l4Place_is a _ b2 h2).mono ?_
      rintro e _ ⟨rfl, rfl⟩
      cases b2 with
      | false =>
        go_wp2
        go_ret
        refine ⟨ret_int (by rw [← HD.out]; simp [opF, opAt, opValB, h1, h2]), B⟩
      | true =>
        by_cases zx : x = 0
        · subst zx
          go_wp2
          go_ret
          refine ⟨ret_int (by rw [← HD.out]; simp [opF, opAt, opVal, opValB, h1, h2]), B⟩
        have zx' : (x != 0) = true := by simp [zx]
        go_wp2
        go_ret
        refine ⟨ret_int (by rw [← HD.out]; simp [opF, opAt, opVal, opValB, h1, h2, zx]), B⟩
  by_cases k5 : k = 5
  · subst k5
    go_wp2_with fail
    refine (l1In_is' 5 1 6 _ true (by decide)).mono ?_
    rintro e _ ⟨rfl, rfl⟩
    go_wp2_with fail
    refine (l5Id_is v _ b1 h1).mono ?_
    rintro e _ ⟨rfl, rfl⟩
    cases b1 with
    | false =>
      go_wp2
      go_ret
      refine ⟨ret_int (by rw [← HD.out]; simp [opF, opAt, opValB, h1]), B⟩
    | true =>
      go_wp2_with fail
      refine (l5Id_is x _ (volIdB x) rfl).mono ?_
      rintro e _ ⟨rfl, rfl⟩
      cases h3 : volIdB x with
      | false =>
        go_wp2
        go_ret
        refine ⟨ret_int (by rw [← HD.out]; simp [opF, opAt, opValB, h1, h2, h3]), B⟩
      | true =>
        by_cases za : a = 0
        · subst za
          go_wp2
          go_ret
          refine ⟨ret_int (by rw [← HD.out]; simp [opF, opAt, opVal, opValB, h1, h2, h3]), B⟩
        have za' : (a != 0) = true := by simp [za]
        go_wp2
        go_ret
        refine ⟨ret_int (by rw [← HD.out]; simp [opF, opAt, opVal, opValB, h1, h2, h3, za]), B⟩
  by_cases k6 : k = 6
  · subst k6
    go_wp2_with fail
    refine (l1In_is' 6 1 6 _ true (by decide)).mono ?_
    rintro e _ ⟨rfl, rfl⟩
    go_wp2_with fail
    refine (l5Id_is v _ b1 h1).mono ?_
    rintro e _ ⟨rfl, rfl⟩
    cases b1 with
    | false =>
      go_wp2
      go_ret
      refine ⟨ret_int (by rw [← HD.out]; simp [opF, opAt, opValB, h1]), B⟩
    | true =>
      by_cases za : a = 0
      · subst za
        by_cases zx : x = 0
        · subst zx
          go_wp2
          go_ret
          refine ⟨ret_int (by rw [← HD.out]; simp [opF, opAt, opVal, opValB, h1, h2]), B⟩
        have zx' : (x != 0) = true := by simp [zx]
        go_wp2
        go_ret
        refine ⟨ret_int (by rw [← HD.out]; simp [opF, opAt, opVal, opValB, h1, h2, zx]), B⟩
      have za' : (a != 0) = true := by simp [za]
      go_wp2
      go_ret
      refine ⟨ret_int (by rw [← HD.out]; simp [opF, opAt, opVal, opValB, h1, h2, za]), B⟩
  have hk : decide (1 ≤ k ∧ k ≤ 6) = false := decide_eq_false (by omega)
  go_wp2_with fail
  refine (l1In_is' k 1 6 _ false hk).mono ?_
  rintro e _ ⟨rfl, rfl⟩
  go_wp2
  go_ret
  exact ⟨ret_int (by rw [← HD.out, opF, if_neg (by omega)]), B⟩

end Go.Proofs.Ytikplcpgocgogaa
