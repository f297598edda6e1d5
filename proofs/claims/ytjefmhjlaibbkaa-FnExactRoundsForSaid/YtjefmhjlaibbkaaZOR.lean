/- Chapter 5: the fault of an operation, of the model and of the program. -/
import Derived.Test.YtjefmhjlaibbkaaQACR
import Derived.Laws.Tables
import Derived.Deep.WholeRow
set_option maxRecDepth 20000
set_option maxHeartbeats 16000000
namespace Go.Proofs.Ytjefmhjlaibbkaa
open Go.RowKit
theorem l1In_is' (x a b : Int) (w : World) (d : Bool) (h : decide (a ≤ x ∧ x ≤ b) = d) : Calls Try.prog 62 #[.int .i64 x, .int .i64 a, .int .i64 b] w fun e w' => e = .returned (.bool d) ∧ w' = w := by rw [← h]; exact l1In_any x a b w
theorem specOpF_is (k v a x : Int) (w : World) (d : Int) (hd : opF k v a x = d) : Calls Try.prog 115 #[.agg #[.int .i64 k, .int .i64 v, .int .i64 a, .int .i64 x]] w fun e w' => e = .returned (.int .i64 d) ∧ Below w.heap.size w w' := by
 have HD : Hid _ := hd
 clear hd
 have B : Below w.heap.size w (w.alloc (.cells #[.int .i64 k, .int .i64 v, .int .i64 a, .int .i64 x] 95)) := (Below.refl _ _).alloc (Nat.le_refl _) _
 have c0 : (w.alloc (.cells #[.int .i64 k, .int .i64 v, .int .i64 a, .int .i64 x] 95)).cell? ⟨w.heap.size, 0, none⟩ = some (.int .i64 k) := by simp
 have c1 : (w.alloc (.cells #[.int .i64 k, .int .i64 v, .int .i64 a, .int .i64 x] 95)).cell? ⟨w.heap.size, 1, none⟩ = some (.int .i64 v) := by simp
 have c2 : (w.alloc (.cells #[.int .i64 k, .int .i64 v, .int .i64 a, .int .i64 x] 95)).cell? ⟨w.heap.size, 2, none⟩ = some (.int .i64 a) := by simp
 have c3 : (w.alloc (.cells #[.int .i64 k, .int .i64 v, .int .i64 a, .int .i64 x] 95)).cell? ⟨w.heap.size, 3, none⟩ = some (.int .i64 x) := by simp
 obtain ⟨b1, h1⟩ : ∃ b, volIdB v = b := ⟨_, rfl⟩
 obtain ⟨b2, h2⟩ : ∃ b, spotB a = b := ⟨_, rfl⟩
 go_enter Try.func115, Try.ntmps115
 by_cases k1 : k = 1
 ·subst k1
  go_wp2_with fail
  refine (l1In_is' 1 1 6 _ true (by decide)).mono ?_
  rintro e _ ⟨rfl, rfl⟩
  go_wp2_with fail
  refine (l5Id_is v _ b1 h1).mono ?_
  rintro e _ ⟨rfl, rfl⟩
  cases b1 with
  | false =>
   go_wp2
   go_ret
   refine ⟨ret_int (by rw [← HD.out]; simp [opF, opAt, opValB, h1]), B⟩
  | true =>
   go_wp2_with fail
   refine (l1In_is' x 1 16 _ (quotaB x) rfl).mono ?_
   rintro e _ ⟨rfl, rfl⟩
   cases h3 : quotaB x with
   | false =>
    go_wp2
    go_ret
    refine ⟨ret_int (by rw [← HD.out]; simp [opF, opAt, opValB, h1, h2, h3]), B⟩
   | true =>
    by_cases za : a = 0
    ·subst za
     go_wp2
     go_ret
     refine ⟨ret_int (by rw [← HD.out]; simp [opF, opAt, opVal, opValB, h1, h2, h3]), B⟩
    have za' : (a != 0) = true := by simp [za]
    go_wp2
    go_ret
    refine ⟨ret_int (by rw [← HD.out]; simp [opF, opAt, opVal, opValB, h1, h2, h3, za]), B⟩
 by_cases k2 : k = 2
 ·subst k2
  go_wp2_with fail
  refine (l1In_is' 2 1 6 _ true (by decide)).mono ?_
  rintro e _ ⟨rfl, rfl⟩
  go_wp2_with fail
  refine (l5Id_is v _ b1 h1).mono ?_
  rintro e _ ⟨rfl, rfl⟩
  cases b1 with
  | false =>
   go_wp2
   go_ret
   refine ⟨ret_int (by rw [← HD.out]; simp [opF, opAt, opValB, h1]), B⟩
  | true =>
   go_wp2_with fail
   refine (l4Place_is a _ b2 h2).mono ?_
   rintro e _ ⟨rfl, rfl⟩
   cases b2 with
   | false =>
    go_wp2
    go_ret
    refine ⟨ret_int (by rw [← HD.out]; simp [opF, opAt, opValB, h1, h2]), B⟩
   | true =>
    go_wp2_with fail
    refine (l3Data_is x _ (dataB x) rfl).mono ?_
    rintro e _ ⟨rfl, rfl⟩
    cases h3 : dataB x with
    | false =>
     go_wp2
     go_ret
     refine ⟨ret_int (by rw [← HD.out]; simp [opF, opAt, opValB, h1, h2, h3]), B⟩
    | true =>
     go_wp2
     go_ret
     refine ⟨ret_int (by rw [← HD.out]; simp [opF, opAt, opVal, opValB, h1, h2, h3]), B⟩
 by_cases k3 : k = 3
 ·subst k3
  go_wp2_with fail
  refine (l1In_is' 3 1 6 _ true (by decide)).mono ?_
  rintro e _ ⟨rfl, rfl⟩
  go_wp2_with fail
  refine (l5Id_is v _ b1 h1).mono ?_
  rintro e _ ⟨rfl, rfl⟩
  cases b1 with
  | false =>
   go_wp2
   go_ret
   refine ⟨ret_int (by rw [← HD.out]; simp [opF, opAt, opValB, h1]), B⟩
  | true =>
   go_wp2_with fail
   refine (l4Place_is a _ b2 h2).mono ?_
   rintro e _ ⟨rfl, rfl⟩
   cases b2 with
   | false =>
    go_wp2
    go_ret
    refine ⟨ret_int (by rw [← HD.out]; simp [opF, opAt, opValB, h1, h2]), B⟩
   | true =>
    by_cases zx : x = 0
    ·subst zx
     go_wp2
     go_ret
     refine ⟨ret_int (by rw [← HD.out]; simp [opF, opAt, opVal, opValB, h1, h2]), B⟩
    have zx' : (x != 0) = true := by simp [zx]
    go_wp2
    go_ret
    refine ⟨ret_int (by rw [← HD.out]; simp [opF, opAt, opVal, opValB, h1, h2, zx]), B⟩
 by_cases k4 : k = 4
 ·subst k4
  go_wp2_with fail
  refine (l1In_is' 4 1 6 _ true (by decide)).mono ?_
  rintro e _ ⟨rfl, rfl⟩
  go_wp2_with fail
  refine (l5Id_is v _ b1 h1).mono ?_
  rintro e _ ⟨rfl, rfl⟩
  cases b1 with
  | false =>
   go_wp2
   go_ret
   refine ⟨ret_int (by rw [← HD.out]; simp [opF, opAt, opValB, h1]), B⟩
  | true =>
   go_wp2_with fail
   refine (l4Place_is a _ b2 h2).mono ?_
   rintro e _ ⟨rfl, rfl⟩
   cases b2 with
   | false =>
    go_wp2
    go_ret
    refine ⟨ret_int (by rw [← HD.out]; simp [opF, opAt, opValB, h1, h2]), B⟩
   | true =>
    by_cases zx : x = 0
    ·subst zx
     go_wp2
     go_ret
     refine ⟨ret_int (by rw [← HD.out]; simp [opF, opAt, opVal, opValB, h1, h2]), B⟩
    have zx' : (x != 0) = true := by simp [zx]
    go_wp2
    go_ret
    refine ⟨ret_int (by rw [← HD.out]; simp [opF, opAt, opVal, opValB, h1, h2, zx]), B⟩
 by_cases k5 : k = 5
 ·subst k5
  go_wp2_with fail
  refine (l1In_is' 5 1 6 _ true (by decide)).mono ?_
  rintro e _ ⟨rfl, rfl⟩
  go_wp2_with fail
  refine (l5Id_is v _ b1 h1).mono ?_
  rintro e _ ⟨rfl, rfl⟩
  cases b1 with
  | false =>
   go_wp2
   go_ret
   refine ⟨ret_int (by rw [← HD.out]; simp [opF, opAt, opValB, h1]), B⟩
  | true =>
   go_wp2_with fail
   refine (l5Id_is x _ (volIdB x) rfl).mono ?_
   rintro e _ ⟨rfl, rfl⟩
   cases h3 : volIdB x with
   | false =>
    go_wp2
    go_ret
    refine ⟨ret_int (by rw [← HD.out]; simp [opF, opAt, opValB, h1, h2, h3]), B⟩
   | true =>
    by_cases za : a = 0
    ·subst za
     go_wp2
     go_ret
     refine ⟨ret_int (by rw [← HD.out]; simp [opF, opAt, opVal, opValB, h1, h2, h3]), B⟩
    have za' : (a != 0) = true := by simp [za]
    go_wp2
    go_ret
    refine ⟨ret_int (by rw [← HD.out]; simp [opF, opAt, opVal, opValB, h1, h2, h3, za]), B⟩
 by_cases k6 : k = 6
 ·subst k6
  go_wp2_with fail
  refine (l1In_is' 6 1 6 _ true (by decide)).mono ?_
  rintro e _ ⟨rfl, rfl⟩
  go_wp2_with fail
  refine (l5Id_is v _ b1 h1).mono ?_
  rintro e _ ⟨rfl, rfl⟩
  cases b1 with
  | false =>
   go_wp2
   go_ret
   refine ⟨ret_int (by rw [← HD.out]; simp [opF, opAt, opValB, h1]), B⟩
  | true =>
   by_cases za : a = 0
   ·subst za
    by_cases zx : x = 0
    ·subst zx
     go_wp2
     go_ret
     refine ⟨ret_int (by rw [← HD.out]; simp [opF, opAt, opVal, opValB, h1, h2]), B⟩
    have zx' : (x != 0) = true := by simp [zx]
    go_wp2
    go_ret
    refine ⟨ret_int (by rw [← HD.out]; simp [opF, opAt, opVal, opValB, h1, h2, zx]), B⟩
   have za' : (a != 0) = true := by simp [za]
   go_wp2
   go_ret
   refine ⟨ret_int (by rw [← HD.out]; simp [opF, opAt, opVal, opValB, h1, h2, za]), B⟩
 have hk : decide (1 ≤ k ∧ k ≤ 6) = false := decide_eq_false (by omega)
 go_wp2_with fail
 refine (l1In_is' k 1 6 _ false hk).mono ?_
 rintro e _ ⟨rfl, rfl⟩
 go_wp2
 go_ret
 exact ⟨ret_int (by rw [← HD.out, opF, if_neg (by omega)]), B⟩
theorem wpList_built {P : Program} {ops : Array Oper} {Q : Exit → Act → World → Prop} {rest : List Oper} {o : Oper} {a : Act} {w : World} (hg : o.guard = none) (t : TypeId) (parts : Array (Nat × Operand)) (cells : Array Value) (ho : o.op = .build t parts) (hf : P.built t (parts.map fun (i, x) => (i, a.eval x)).toList = some cells) (h : wpList P ops Q rest (a.put o.dst (.agg cells)) w) : wpList P ops Q (o :: rest) a w := by
 refine wpList_plain hg fun K hK => ?_
 refine wp_build t parts ho (by rw [hf]; rfl) ?_
 rw [hf]
 exact hK _ _ h
theorem wpList_storeNew {P : Program} {ops : Array Oper} {Q : Exit → Act → World → Prop} {rest : List Oper} {op : Oper} {a : Act} (w : World) (b : Nat) (hb : w.heap.size = b) (hgd : op.guard = none) (ty : TypeId) (x y : Operand) (ho : op.op = .store ty x y) (c c' : Array Value) (hx : a.eval x = .pointer (some ⟨b, 0, none⟩)) (hy : a.eval y = .agg c') (hi : (P.info? ty).map (·.size) = some c'.size) (hs : c.size = c'.size) (h1 : c'.all (·.oneCell') = true) (h : wpList P ops Q rest (a.put op.dst undef) (w.alloc (.cells c' ty))) : wpList P ops Q (op :: rest) a (w.alloc (.cells c ty)) := by
 subst hb
 refine wpList_plain hgd fun K hK => ?_
 unfold Oper.wp execOp
 simp only [ho, hx, hy, Instr.storeAt, Instr.sureAddr, Sem.run_bind, Sem.run_pure, Result.andThen_ok, run_storeVar_new w ty c c' hi hs h1]
 exact hK _ _ h
theorem formOf1 (w : World) : Calls Try.prog 132 #[.int .i64 1] w fun e w' => e = .returned (.agg #[.bool false, .bool true, .int .i64 1, .int .i64 16]) ∧ Below w.heap.size w w' := by
 go_enter Try.func132, Try.ntmps132
 go_wp2_with (first | (refine wpList_built rfl 171 _ #[.bool false, .bool false, .int .i64 0, .int .i64 0, .bool false, .bool true, .int .i64 1, .int .i64 16, .bool true, .bool true, .int .i64 0, .int .i64 255, .bool true, .bool false, .int .i64 0, .int .i64 0, .bool true, .bool false, .int .i64 0, .int .i64 0, .bool false, .bool true, .int .i64 1, .int .i64 99, .bool false, .bool false, .int .i64 0, .int .i64 0] rfl (by as_aux_lemma => kernel_rfl) ?_) | (refine wpList_storeNew (w.alloc (.cells #[.bool false, .bool false, .int .i64 0, .int .i64 0] 168)) (w.heap.size + 1) (by simp) rfl 171 _ _ rfl _ #[.bool false, .bool false, .int .i64 0, .int .i64 0, .bool false, .bool true, .int .i64 1, .int .i64 16, .bool true, .bool true, .int .i64 0, .int .i64 255, .bool true, .bool false, .int .i64 0, .int .i64 0, .bool true, .bool false, .int .i64 0, .int .i64 0, .bool false, .bool true, .int .i64 1, .int .i64 99, .bool false, .bool false, .int .i64 0, .int .i64 0] rfl rfl (by as_aux_lemma => kernel_rfl) rfl (by as_aux_lemma => kernel_rfl) ?_))
 refine bodyPost_ret (v := .agg #[.bool false, .bool true, .int .i64 1, .int .i64 16]) (by simp [results, Try.results132, go_sem]) rfl ?_
 exact ⟨rfl, ((Below.refl _ _).alloc (Nat.le_refl _) _).alloc (by simp) _⟩
theorem formOf2 (w : World) : Calls Try.prog 132 #[.int .i64 2] w fun e w' => e = .returned (.agg #[.bool true, .bool true, .int .i64 0, .int .i64 255]) ∧ Below w.heap.size w w' := by
 go_enter Try.func132, Try.ntmps132
 go_wp2_with (first | (refine wpList_built rfl 171 _ #[.bool false, .bool false, .int .i64 0, .int .i64 0, .bool false, .bool true, .int .i64 1, .int .i64 16, .bool true, .bool true, .int .i64 0, .int .i64 255, .bool true, .bool false, .int .i64 0, .int .i64 0, .bool true, .bool false, .int .i64 0, .int .i64 0, .bool false, .bool true, .int .i64 1, .int .i64 99, .bool false, .bool false, .int .i64 0, .int .i64 0] rfl (by as_aux_lemma => kernel_rfl) ?_) | (refine wpList_storeNew (w.alloc (.cells #[.bool false, .bool false, .int .i64 0, .int .i64 0] 168)) (w.heap.size + 1) (by simp) rfl 171 _ _ rfl _ #[.bool false, .bool false, .int .i64 0, .int .i64 0, .bool false, .bool true, .int .i64 1, .int .i64 16, .bool true, .bool true, .int .i64 0, .int .i64 255, .bool true, .bool false, .int .i64 0, .int .i64 0, .bool true, .bool false, .int .i64 0, .int .i64 0, .bool false, .bool true, .int .i64 1, .int .i64 99, .bool false, .bool false, .int .i64 0, .int .i64 0] rfl rfl (by as_aux_lemma => kernel_rfl) rfl (by as_aux_lemma => kernel_rfl) ?_))
 refine bodyPost_ret (v := .agg #[.bool true, .bool true, .int .i64 0, .int .i64 255]) (by simp [results, Try.results132, go_sem]) rfl ?_
 exact ⟨rfl, ((Below.refl _ _).alloc (Nat.le_refl _) _).alloc (by simp) _⟩
theorem formOf3 (w : World) : Calls Try.prog 132 #[.int .i64 3] w fun e w' => e = .returned (.agg #[.bool true, .bool false, .int .i64 0, .int .i64 0]) ∧ Below w.heap.size w w' := by
 go_enter Try.func132, Try.ntmps132
 go_wp2_with (first | (refine wpList_built rfl 171 _ #[.bool false, .bool false, .int .i64 0, .int .i64 0, .bool false, .bool true, .int .i64 1, .int .i64 16, .bool true, .bool true, .int .i64 0, .int .i64 255, .bool true, .bool false, .int .i64 0, .int .i64 0, .bool true, .bool false, .int .i64 0, .int .i64 0, .bool false, .bool true, .int .i64 1, .int .i64 99, .bool false, .bool false, .int .i64 0, .int .i64 0] rfl (by as_aux_lemma => kernel_rfl) ?_) | (refine wpList_storeNew (w.alloc (.cells #[.bool false, .bool false, .int .i64 0, .int .i64 0] 168)) (w.heap.size + 1) (by simp) rfl 171 _ _ rfl _ #[.bool false, .bool false, .int .i64 0, .int .i64 0, .bool false, .bool true, .int .i64 1, .int .i64 16, .bool true, .bool true, .int .i64 0, .int .i64 255, .bool true, .bool false, .int .i64 0, .int .i64 0, .bool true, .bool false, .int .i64 0, .int .i64 0, .bool false, .bool true, .int .i64 1, .int .i64 99, .bool false, .bool false, .int .i64 0, .int .i64 0] rfl rfl (by as_aux_lemma => kernel_rfl) rfl (by as_aux_lemma => kernel_rfl) ?_))
 refine bodyPost_ret (v := .agg #[.bool true, .bool false, .int .i64 0, .int .i64 0]) (by simp [results, Try.results132, go_sem]) rfl ?_
 exact ⟨rfl, ((Below.refl _ _).alloc (Nat.le_refl _) _).alloc (by simp) _⟩
theorem formOf4 (w : World) : Calls Try.prog 132 #[.int .i64 4] w fun e w' => e = .returned (.agg #[.bool true, .bool false, .int .i64 0, .int .i64 0]) ∧ Below w.heap.size w w' := by
 go_enter Try.func132, Try.ntmps132
 go_wp2_with (first | (refine wpList_built rfl 171 _ #[.bool false, .bool false, .int .i64 0, .int .i64 0, .bool false, .bool true, .int .i64 1, .int .i64 16, .bool true, .bool true, .int .i64 0, .int .i64 255, .bool true, .bool false, .int .i64 0, .int .i64 0, .bool true, .bool false, .int .i64 0, .int .i64 0, .bool false, .bool true, .int .i64 1, .int .i64 99, .bool false, .bool false, .int .i64 0, .int .i64 0] rfl (by as_aux_lemma => kernel_rfl) ?_) | (refine wpList_storeNew (w.alloc (.cells #[.bool false, .bool false, .int .i64 0, .int .i64 0] 168)) (w.heap.size + 1) (by simp) rfl 171 _ _ rfl _ #[.bool false, .bool false, .int .i64 0, .int .i64 0, .bool false, .bool true, .int .i64 1, .int .i64 16, .bool true, .bool true, .int .i64 0, .int .i64 255, .bool true, .bool false, .int .i64 0, .int .i64 0, .bool true, .bool false, .int .i64 0, .int .i64 0, .bool false, .bool true, .int .i64 1, .int .i64 99, .bool false, .bool false, .int .i64 0, .int .i64 0] rfl rfl (by as_aux_lemma => kernel_rfl) rfl (by as_aux_lemma => kernel_rfl) ?_))
 refine bodyPost_ret (v := .agg #[.bool true, .bool false, .int .i64 0, .int .i64 0]) (by simp [results, Try.results132, go_sem]) rfl ?_
 exact ⟨rfl, ((Below.refl _ _).alloc (Nat.le_refl _) _).alloc (by simp) _⟩
theorem formOf5 (w : World) : Calls Try.prog 132 #[.int .i64 5] w fun e w' => e = .returned (.agg #[.bool false, .bool true, .int .i64 1, .int .i64 99]) ∧ Below w.heap.size w w' := by
 go_enter Try.func132, Try.ntmps132
 go_wp2_with (first | (refine wpList_built rfl 171 _ #[.bool false, .bool false, .int .i64 0, .int .i64 0, .bool false, .bool true, .int .i64 1, .int .i64 16, .bool true, .bool true, .int .i64 0, .int .i64 255, .bool true, .bool false, .int .i64 0, .int .i64 0, .bool true, .bool false, .int .i64 0, .int .i64 0, .bool false, .bool true, .int .i64 1, .int .i64 99, .bool false, .bool false, .int .i64 0, .int .i64 0] rfl (by as_aux_lemma => kernel_rfl) ?_) | (refine wpList_storeNew (w.alloc (.cells #[.bool false, .bool false, .int .i64 0, .int .i64 0] 168)) (w.heap.size + 1) (by simp) rfl 171 _ _ rfl _ #[.bool false, .bool false, .int .i64 0, .int .i64 0, .bool false, .bool true, .int .i64 1, .int .i64 16, .bool true, .bool true, .int .i64 0, .int .i64 255, .bool true, .bool false, .int .i64 0, .int .i64 0, .bool true, .bool false, .int .i64 0, .int .i64 0, .bool false, .bool true, .int .i64 1, .int .i64 99, .bool false, .bool false, .int .i64 0, .int .i64 0] rfl rfl (by as_aux_lemma => kernel_rfl) rfl (by as_aux_lemma => kernel_rfl) ?_))
 refine bodyPost_ret (v := .agg #[.bool false, .bool true, .int .i64 1, .int .i64 99]) (by simp [results, Try.results132, go_sem]) rfl ?_
 exact ⟨rfl, ((Below.refl _ _).alloc (Nat.le_refl _) _).alloc (by simp) _⟩
theorem formOf6 (w : World) : Calls Try.prog 132 #[.int .i64 6] w fun e w' => e = .returned (.agg #[.bool false, .bool false, .int .i64 0, .int .i64 0]) ∧ Below w.heap.size w w' := by
 go_enter Try.func132, Try.ntmps132
 go_wp2_with (first | (refine wpList_built rfl 171 _ #[.bool false, .bool false, .int .i64 0, .int .i64 0, .bool false, .bool true, .int .i64 1, .int .i64 16, .bool true, .bool true, .int .i64 0, .int .i64 255, .bool true, .bool false, .int .i64 0, .int .i64 0, .bool true, .bool false, .int .i64 0, .int .i64 0, .bool false, .bool true, .int .i64 1, .int .i64 99, .bool false, .bool false, .int .i64 0, .int .i64 0] rfl (by as_aux_lemma => kernel_rfl) ?_) | (refine wpList_storeNew (w.alloc (.cells #[.bool false, .bool false, .int .i64 0, .int .i64 0] 168)) (w.heap.size + 1) (by simp) rfl 171 _ _ rfl _ #[.bool false, .bool false, .int .i64 0, .int .i64 0, .bool false, .bool true, .int .i64 1, .int .i64 16, .bool true, .bool true, .int .i64 0, .int .i64 255, .bool true, .bool false, .int .i64 0, .int .i64 0, .bool true, .bool false, .int .i64 0, .int .i64 0, .bool false, .bool true, .int .i64 1, .int .i64 99, .bool false, .bool false, .int .i64 0, .int .i64 0] rfl rfl (by as_aux_lemma => kernel_rfl) rfl (by as_aux_lemma => kernel_rfl) ?_))
 refine bodyPost_ret (v := .agg #[.bool false, .bool false, .int .i64 0, .int .i64 0]) (by simp [results, Try.results132, go_sem]) rfl ?_
 exact ⟨rfl, ((Below.refl _ _).alloc (Nat.le_refl _) _).alloc (by simp) _⟩
theorem implOpF_is (k v a x : Int) (w : World) (d : Int) (hd : opF k v a x = d) : Calls Try.prog 124 #[.agg #[.int .i64 k, .int .i64 v, .int .i64 a, .int .i64 x]] w fun e w' => e = .returned (.int .i64 d) ∧ Below w.heap.size w w' := by
 have HD : Hid _ := hd
 clear hd
 have B : Below w.heap.size w (w.alloc (.cells #[.int .i64 k, .int .i64 v, .int .i64 a, .int .i64 x] 95)) := (Below.refl _ _).alloc (Nat.le_refl _) _
 have c0 : (w.alloc (.cells #[.int .i64 k, .int .i64 v, .int .i64 a, .int .i64 x] 95)).cell? ⟨w.heap.size, 0, none⟩ = some (.int .i64 k) := by simp
 have c1 : (w.alloc (.cells #[.int .i64 k, .int .i64 v, .int .i64 a, .int .i64 x] 95)).cell? ⟨w.heap.size, 1, none⟩ = some (.int .i64 v) := by simp
 have c2 : (w.alloc (.cells #[.int .i64 k, .int .i64 v, .int .i64 a, .int .i64 x] 95)).cell? ⟨w.heap.size, 2, none⟩ = some (.int .i64 a) := by simp
 have c3 : (w.alloc (.cells #[.int .i64 k, .int .i64 v, .int .i64 a, .int .i64 x] 95)).cell? ⟨w.heap.size, 3, none⟩ = some (.int .i64 x) := by simp
 obtain ⟨b1, h1⟩ : ∃ b, volIdB v = b := ⟨_, rfl⟩
 obtain ⟨b2, h2⟩ : ∃ b, spotB a = b := ⟨_, rfl⟩
 go_enter Try.func124, Try.ntmps124
 by_cases k1 : k = 1
 ·subst k1
  go_wp2_with fail
  refine (formOf1 _).mono ?_
  rintro e w1 ⟨rfl, B1⟩
  replace c0 := cell_later ((Below.refl w1.heap.size w1).alloc (Nat.le_refl _) (.cells #[.bool false, .bool true, .int .i64 1, .int .i64 16] 168)) (cell_later B1 c0)
  replace c1 := cell_later ((Below.refl w1.heap.size w1).alloc (Nat.le_refl _) (.cells #[.bool false, .bool true, .int .i64 1, .int .i64 16] 168)) (cell_later B1 c1)
  replace c2 := cell_later ((Below.refl w1.heap.size w1).alloc (Nat.le_refl _) (.cells #[.bool false, .bool true, .int .i64 1, .int .i64 16] 168)) (cell_later B1 c2)
  replace c3 := cell_later ((Below.refl w1.heap.size w1).alloc (Nat.le_refl _) (.cells #[.bool false, .bool true, .int .i64 1, .int .i64 16] 168)) (cell_later B1 c3)
  replace B := below_next (below_next B B1) ((Below.refl w1.heap.size w1).alloc (Nat.le_refl _) (.cells #[.bool false, .bool true, .int .i64 1, .int .i64 16] 168))
  have f0 : (w1.alloc (.cells #[.bool false, .bool true, .int .i64 1, .int .i64 16] 168)).cell? ⟨w1.heap.size, 0, none⟩ = some (.bool false) := by simp
  have f1 : (w1.alloc (.cells #[.bool false, .bool true, .int .i64 1, .int .i64 16] 168)).cell? ⟨w1.heap.size, 1, none⟩ = some (.bool true) := by simp
  have f2 : (w1.alloc (.cells #[.bool false, .bool true, .int .i64 1, .int .i64 16] 168)).cell? ⟨w1.heap.size, 2, none⟩ = some (.int .i64 1) := by simp
  have f3 : (w1.alloc (.cells #[.bool false, .bool true, .int .i64 1, .int .i64 16] 168)).cell? ⟨w1.heap.size, 3, none⟩ = some (.int .i64 16) := by simp
  clear B1
  go_wp2_with fail
  refine (isVolId_is v _ b1 h1).mono ?_
  rintro e _ ⟨rfl, rfl⟩
  cases b1 with
  | false =>
   go_wp2
   go_ret
   refine ⟨ret_int (by rw [← HD.out]; simp [opF, opAt, opValB, h1]), B⟩
  | true =>
   by_cases lo : x < 1
   ·have h3 : quotaB x = false := decide_eq_false (by omega)
    go_wp2
    go_ret
    refine ⟨ret_int (by rw [← HD.out]; simp [opF, opAt, opValB, h1, h2, h3]), B⟩
   by_cases hi : 16 < x
   ·have h3 : quotaB x = false := decide_eq_false (by omega)
    go_wp2
    go_ret
    refine ⟨ret_int (by rw [← HD.out]; simp [opF, opAt, opValB, h1, h2, h3]), B⟩
   have h3 : quotaB x = true := decide_eq_true (by omega)
   by_cases za : a = 0
   ·subst za
    go_wp2
    go_ret
    refine ⟨ret_int (by rw [← HD.out]; simp [opF, opAt, opVal, opValB, h1, h2, h3]), B⟩
   have za' : (a != 0) = true := by simp [za]
   go_wp2
   go_ret
   refine ⟨ret_int (by rw [← HD.out]; simp [opF, opAt, opVal, opValB, h1, h2, h3, za]), B⟩
 by_cases k2 : k = 2
 ·subst k2
  go_wp2_with fail
  refine (formOf2 _).mono ?_
  rintro e w1 ⟨rfl, B1⟩
  replace c0 := cell_later ((Below.refl w1.heap.size w1).alloc (Nat.le_refl _) (.cells #[.bool true, .bool true, .int .i64 0, .int .i64 255] 168)) (cell_later B1 c0)
  replace c1 := cell_later ((Below.refl w1.heap.size w1).alloc (Nat.le_refl _) (.cells #[.bool true, .bool true, .int .i64 0, .int .i64 255] 168)) (cell_later B1 c1)
  replace c2 := cell_later ((Below.refl w1.heap.size w1).alloc (Nat.le_refl _) (.cells #[.bool true, .bool true, .int .i64 0, .int .i64 255] 168)) (cell_later B1 c2)
  replace c3 := cell_later ((Below.refl w1.heap.size w1).alloc (Nat.le_refl _) (.cells #[.bool true, .bool true, .int .i64 0, .int .i64 255] 168)) (cell_later B1 c3)
  replace B := below_next (below_next B B1) ((Below.refl w1.heap.size w1).alloc (Nat.le_refl _) (.cells #[.bool true, .bool true, .int .i64 0, .int .i64 255] 168))
  have f0 : (w1.alloc (.cells #[.bool true, .bool true, .int .i64 0, .int .i64 255] 168)).cell? ⟨w1.heap.size, 0, none⟩ = some (.bool true) := by simp
  have f1 : (w1.alloc (.cells #[.bool true, .bool true, .int .i64 0, .int .i64 255] 168)).cell? ⟨w1.heap.size, 1, none⟩ = some (.bool true) := by simp
  have f2 : (w1.alloc (.cells #[.bool true, .bool true, .int .i64 0, .int .i64 255] 168)).cell? ⟨w1.heap.size, 2, none⟩ = some (.int .i64 0) := by simp
  have f3 : (w1.alloc (.cells #[.bool true, .bool true, .int .i64 0, .int .i64 255] 168)).cell? ⟨w1.heap.size, 3, none⟩ = some (.int .i64 255) := by simp
  clear B1
  go_wp2_with fail
  refine (isVolId_is v _ b1 h1).mono ?_
  rintro e _ ⟨rfl, rfl⟩
  cases b1 with
  | false =>
   go_wp2
   go_ret
   refine ⟨ret_int (by rw [← HD.out]; simp [opF, opAt, opValB, h1]), B⟩
  | true =>
   go_wp2_with fail
   refine (isTreePlace_is a _ b2 h2).mono ?_
   rintro e _ ⟨rfl, rfl⟩
   cases b2 with
   | false =>
    go_wp2
    go_ret
    refine ⟨ret_int (by rw [← HD.out]; simp [opF, opAt, opValB, h1, h2]), B⟩
   | true =>
    by_cases lo : x < 0
    ·have h3 : dataB x = false := decide_eq_false (by omega)
     go_wp2
     go_ret
     refine ⟨ret_int (by rw [← HD.out]; simp [opF, opAt, opValB, h1, h2, h3]), B⟩
    by_cases hi : 255 < x
    ·have h3 : dataB x = false := decide_eq_false (by omega)
     go_wp2
     go_ret
     refine ⟨ret_int (by rw [← HD.out]; simp [opF, opAt, opValB, h1, h2, h3]), B⟩
    have h3 : dataB x = true := decide_eq_true (by omega)
    go_wp2
    go_ret
    refine ⟨ret_int (by rw [← HD.out]; simp [opF, opAt, opVal, opValB, h1, h2, h3]), B⟩
 by_cases k3 : k = 3
 ·subst k3
  go_wp2_with fail
  refine (formOf3 _).mono ?_
  rintro e w1 ⟨rfl, B1⟩
  replace c0 := cell_later ((Below.refl w1.heap.size w1).alloc (Nat.le_refl _) (.cells #[.bool true, .bool false, .int .i64 0, .int .i64 0] 168)) (cell_later B1 c0)
  replace c1 := cell_later ((Below.refl w1.heap.size w1).alloc (Nat.le_refl _) (.cells #[.bool true, .bool false, .int .i64 0, .int .i64 0] 168)) (cell_later B1 c1)
  replace c2 := cell_later ((Below.refl w1.heap.size w1).alloc (Nat.le_refl _) (.cells #[.bool true, .bool false, .int .i64 0, .int .i64 0] 168)) (cell_later B1 c2)
  replace c3 := cell_later ((Below.refl w1.heap.size w1).alloc (Nat.le_refl _) (.cells #[.bool true, .bool false, .int .i64 0, .int .i64 0] 168)) (cell_later B1 c3)
  replace B := below_next (below_next B B1) ((Below.refl w1.heap.size w1).alloc (Nat.le_refl _) (.cells #[.bool true, .bool false, .int .i64 0, .int .i64 0] 168))
  have f0 : (w1.alloc (.cells #[.bool true, .bool false, .int .i64 0, .int .i64 0] 168)).cell? ⟨w1.heap.size, 0, none⟩ = some (.bool true) := by simp
  have f1 : (w1.alloc (.cells #[.bool true, .bool false, .int .i64 0, .int .i64 0] 168)).cell? ⟨w1.heap.size, 1, none⟩ = some (.bool false) := by simp
  have f2 : (w1.alloc (.cells #[.bool true, .bool false, .int .i64 0, .int .i64 0] 168)).cell? ⟨w1.heap.size, 2, none⟩ = some (.int .i64 0) := by simp
  have f3 : (w1.alloc (.cells #[.bool true, .bool false, .int .i64 0, .int .i64 0] 168)).cell? ⟨w1.heap.size, 3, none⟩ = some (.int .i64 0) := by simp
  clear B1
  go_wp2_with fail
  refine (isVolId_is v _ b1 h1).mono ?_
  rintro e _ ⟨rfl, rfl⟩
  cases b1 with
  | false =>
   go_wp2
   go_ret
   refine ⟨ret_int (by rw [← HD.out]; simp [opF, opAt, opValB, h1]), B⟩
  | true =>
   go_wp2_with fail
   refine (isTreePlace_is a _ b2 h2).mono ?_
   rintro e _ ⟨rfl, rfl⟩
   cases b2 with
   | false =>
    go_wp2
    go_ret
    refine ⟨ret_int (by rw [← HD.out]; simp [opF, opAt, opValB, h1, h2]), B⟩
   | true =>
    by_cases zx : x = 0
    ·subst zx
     go_wp2
     go_ret
     refine ⟨ret_int (by rw [← HD.out]; simp [opF, opAt, opVal, opValB, h1, h2]), B⟩
    have zx' : (x != 0) = true := by simp [zx]
    go_wp2
    go_ret
    refine ⟨ret_int (by rw [← HD.out]; simp [opF, opAt, opVal, opValB, h1, h2, zx]), B⟩
 by_cases k4 : k = 4
 ·subst k4
  go_wp2_with fail
  refine (formOf4 _).mono ?_
  rintro e w1 ⟨rfl, B1⟩
  replace c0 := cell_later ((Below.refl w1.heap.size w1).alloc (Nat.le_refl _) (.cells #[.bool true, .bool false, .int .i64 0, .int .i64 0] 168)) (cell_later B1 c0)
  replace c1 := cell_later ((Below.refl w1.heap.size w1).alloc (Nat.le_refl _) (.cells #[.bool true, .bool false, .int .i64 0, .int .i64 0] 168)) (cell_later B1 c1)
  replace c2 := cell_later ((Below.refl w1.heap.size w1).alloc (Nat.le_refl _) (.cells #[.bool true, .bool false, .int .i64 0, .int .i64 0] 168)) (cell_later B1 c2)
  replace c3 := cell_later ((Below.refl w1.heap.size w1).alloc (Nat.le_refl _) (.cells #[.bool true, .bool false, .int .i64 0, .int .i64 0] 168)) (cell_later B1 c3)
  replace B := below_next (below_next B B1) ((Below.refl w1.heap.size w1).alloc (Nat.le_refl _) (.cells #[.bool true, .bool false, .int .i64 0, .int .i64 0] 168))
  have f0 : (w1.alloc (.cells #[.bool true, .bool false, .int .i64 0, .int .i64 0] 168)).cell? ⟨w1.heap.size, 0, none⟩ = some (.bool true) := by simp
  have f1 : (w1.alloc (.cells #[.bool true, .bool false, .int .i64 0, .int .i64 0] 168)).cell? ⟨w1.heap.size, 1, none⟩ = some (.bool false) := by simp
  have f2 : (w1.alloc (.cells #[.bool true, .bool false, .int .i64 0, .int .i64 0] 168)).cell? ⟨w1.heap.size, 2, none⟩ = some (.int .i64 0) := by simp
  have f3 : (w1.alloc (.cells #[.bool true, .bool false, .int .i64 0, .int .i64 0] 168)).cell? ⟨w1.heap.size, 3, none⟩ = some (.int .i64 0) := by simp
  clear B1
  go_wp2_with fail
  refine (isVolId_is v _ b1 h1).mono ?_
  rintro e _ ⟨rfl, rfl⟩
  cases b1 with
  | false =>
   go_wp2
   go_ret
   refine ⟨ret_int (by rw [← HD.out]; simp [opF, opAt, opValB, h1]), B⟩
  | true =>
   go_wp2_with fail
   refine (isTreePlace_is a _ b2 h2).mono ?_
   rintro e _ ⟨rfl, rfl⟩
   cases b2 with
   | false =>
    go_wp2
    go_ret
    refine ⟨ret_int (by rw [← HD.out]; simp [opF, opAt, opValB, h1, h2]), B⟩
   | true =>
    by_cases zx : x = 0
    ·subst zx
     go_wp2
     go_ret
     refine ⟨ret_int (by rw [← HD.out]; simp [opF, opAt, opVal, opValB, h1, h2]), B⟩
    have zx' : (x != 0) = true := by simp [zx]
    go_wp2
    go_ret
    refine ⟨ret_int (by rw [← HD.out]; simp [opF, opAt, opVal, opValB, h1, h2, zx]), B⟩
 by_cases k5 : k = 5
 ·subst k5
  go_wp2_with fail
  refine (formOf5 _).mono ?_
  rintro e w1 ⟨rfl, B1⟩
  replace c0 := cell_later ((Below.refl w1.heap.size w1).alloc (Nat.le_refl _) (.cells #[.bool false, .bool true, .int .i64 1, .int .i64 99] 168)) (cell_later B1 c0)
  replace c1 := cell_later ((Below.refl w1.heap.size w1).alloc (Nat.le_refl _) (.cells #[.bool false, .bool true, .int .i64 1, .int .i64 99] 168)) (cell_later B1 c1)
  replace c2 := cell_later ((Below.refl w1.heap.size w1).alloc (Nat.le_refl _) (.cells #[.bool false, .bool true, .int .i64 1, .int .i64 99] 168)) (cell_later B1 c2)
  replace c3 := cell_later ((Below.refl w1.heap.size w1).alloc (Nat.le_refl _) (.cells #[.bool false, .bool true, .int .i64 1, .int .i64 99] 168)) (cell_later B1 c3)
  replace B := below_next (below_next B B1) ((Below.refl w1.heap.size w1).alloc (Nat.le_refl _) (.cells #[.bool false, .bool true, .int .i64 1, .int .i64 99] 168))
  have f0 : (w1.alloc (.cells #[.bool false, .bool true, .int .i64 1, .int .i64 99] 168)).cell? ⟨w1.heap.size, 0, none⟩ = some (.bool false) := by simp
  have f1 : (w1.alloc (.cells #[.bool false, .bool true, .int .i64 1, .int .i64 99] 168)).cell? ⟨w1.heap.size, 1, none⟩ = some (.bool true) := by simp
  have f2 : (w1.alloc (.cells #[.bool false, .bool true, .int .i64 1, .int .i64 99] 168)).cell? ⟨w1.heap.size, 2, none⟩ = some (.int .i64 1) := by simp
  have f3 : (w1.alloc (.cells #[.bool false, .bool true, .int .i64 1, .int .i64 99] 168)).cell? ⟨w1.heap.size, 3, none⟩ = some (.int .i64 99) := by simp
  clear B1
  go_wp2_with fail
  refine (isVolId_is v _ b1 h1).mono ?_
  rintro e _ ⟨rfl, rfl⟩
  cases b1 with
  | false =>
   go_wp2
   go_ret
   refine ⟨ret_int (by rw [← HD.out]; simp [opF, opAt, opValB, h1]), B⟩
  | true =>
   by_cases lo : x < 1
   ·have h3 : volIdB x = false := decide_eq_false (by omega)
    go_wp2
    go_ret
    refine ⟨ret_int (by rw [← HD.out]; simp [opF, opAt, opValB, h1, h2, h3]), B⟩
   by_cases hi : 99 < x
   ·have h3 : volIdB x = false := decide_eq_false (by omega)
    go_wp2
    go_ret
    refine ⟨ret_int (by rw [← HD.out]; simp [opF, opAt, opValB, h1, h2, h3]), B⟩
   have h3 : volIdB x = true := decide_eq_true (by omega)
   by_cases za : a = 0
   ·subst za
    go_wp2
    go_ret
    refine ⟨ret_int (by rw [← HD.out]; simp [opF, opAt, opVal, opValB, h1, h2, h3]), B⟩
   have za' : (a != 0) = true := by simp [za]
   go_wp2
   go_ret
   refine ⟨ret_int (by rw [← HD.out]; simp [opF, opAt, opVal, opValB, h1, h2, h3, za]), B⟩
 by_cases k6 : k = 6
 ·subst k6
  go_wp2_with fail
  refine (formOf6 _).mono ?_
  rintro e w1 ⟨rfl, B1⟩
  replace c0 := cell_later ((Below.refl w1.heap.size w1).alloc (Nat.le_refl _) (.cells #[.bool false, .bool false, .int .i64 0, .int .i64 0] 168)) (cell_later B1 c0)
  replace c1 := cell_later ((Below.refl w1.heap.size w1).alloc (Nat.le_refl _) (.cells #[.bool false, .bool false, .int .i64 0, .int .i64 0] 168)) (cell_later B1 c1)
  replace c2 := cell_later ((Below.refl w1.heap.size w1).alloc (Nat.le_refl _) (.cells #[.bool false, .bool false, .int .i64 0, .int .i64 0] 168)) (cell_later B1 c2)
  replace c3 := cell_later ((Below.refl w1.heap.size w1).alloc (Nat.le_refl _) (.cells #[.bool false, .bool false, .int .i64 0, .int .i64 0] 168)) (cell_later B1 c3)
  replace B := below_next (below_next B B1) ((Below.refl w1.heap.size w1).alloc (Nat.le_refl _) (.cells #[.bool false, .bool false, .int .i64 0, .int .i64 0] 168))
  have f0 : (w1.alloc (.cells #[.bool false, .bool false, .int .i64 0, .int .i64 0] 168)).cell? ⟨w1.heap.size, 0, none⟩ = some (.bool false) := by simp
  have f1 : (w1.alloc (.cells #[.bool false, .bool false, .int .i64 0, .int .i64 0] 168)).cell? ⟨w1.heap.size, 1, none⟩ = some (.bool false) := by simp
  have f2 : (w1.alloc (.cells #[.bool false, .bool false, .int .i64 0, .int .i64 0] 168)).cell? ⟨w1.heap.size, 2, none⟩ = some (.int .i64 0) := by simp
  have f3 : (w1.alloc (.cells #[.bool false, .bool false, .int .i64 0, .int .i64 0] 168)).cell? ⟨w1.heap.size, 3, none⟩ = some (.int .i64 0) := by simp
  clear B1
  go_wp2_with fail
  refine (isVolId_is v _ b1 h1).mono ?_
  rintro e _ ⟨rfl, rfl⟩
  cases b1 with
  | false =>
   go_wp2
   go_ret
   refine ⟨ret_int (by rw [← HD.out]; simp [opF, opAt, opValB, h1]), B⟩
  | true =>
   by_cases za : a = 0
   ·subst za
    by_cases zx : x = 0
    ·subst zx
     go_wp2
     go_ret
     refine ⟨ret_int (by rw [← HD.out]; simp [opF, opAt, opVal, opValB, h1, h2]), B⟩
    have zx' : (x != 0) = true := by simp [zx]
    go_wp2
    go_ret
    refine ⟨ret_int (by rw [← HD.out]; simp [opF, opAt, opVal, opValB, h1, h2, zx]), B⟩
   have za' : (a != 0) = true := by simp [za]
   go_wp2
   go_ret
   refine ⟨ret_int (by rw [← HD.out]; simp [opF, opAt, opVal, opValB, h1, h2, za]), B⟩
 by_cases lo : k < 1
 ·go_wp2
  go_ret
  exact ⟨ret_int (by rw [← HD.out, opF, if_neg (by omega)]), B⟩
 have hi : 6 < k := by omega
 go_wp2
 go_ret
 exact ⟨ret_int (by rw [← HD.out, opF, if_neg (by omega)]), B⟩
end Go.Proofs.Ytjefmhjlaibbkaa
