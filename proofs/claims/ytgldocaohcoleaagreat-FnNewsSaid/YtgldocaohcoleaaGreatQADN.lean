/- Chapter 5: the fault of an operation, of the model and of the program. -/
import Derived.Test.YtgldocaohcoleaaGreatQACN
import Derived.Laws.Tables
import Derived.Deep.WholeRow
set_option maxRecDepth 20000
set_option maxHeartbeats 16000000
namespace Go.Proofs.YtgldocaohcoleaaGreat
open Go.RowKit
theorem l1In_is' (x a b : Int) (w : World) (d : Bool) (h : decide (a ≤ x ∧ x ≤ b) = d) : Calls Tryz.prog 101 #[.int .i64 x, .int .i64 a, .int .i64 b] w fun e w' => e = .returned (.bool d) ∧ w' = w := by rw [← h]; exact l1In_any x a b w
theorem wpList_built {P : Program} {ops : Array Oper} {Q : Exit → Act → World → Prop} {rest : List Oper} {o : Oper} {a : Act} {w : World} (hg : o.guard = none) (t : TypeId) (parts : Array (Nat × Operand)) (cells : Array Value) (ho : o.op = .build t parts) (hf : P.built t (parts.map fun (i, x) => (i, a.eval x)).toList = some cells) (h : wpList P ops Q rest (a.put o.dst (.agg cells)) w) : wpList P ops Q (o :: rest) a w := by
 refine wpList_plain hg fun K hK => ?_
 refine wp_build t parts ho (by rw [hf]; rfl) ?_
 rw [hf]
 exact hK _ _ h
theorem wpList_storeNew {P : Program} {ops : Array Oper} {Q : Exit → Act → World → Prop} {rest : List Oper} {op : Oper} {a : Act} (w : World) (b : Nat) (hb : w.heap.size = b) (hgd : op.guard = none) (ty : TypeId) (x y : Operand) (ho : op.op = .store ty x y) (c c' : Array Value) (hx : a.eval x = .pointer (some ⟨b, 0, none⟩)) (hy : a.eval y = .agg c') (hi : (P.info? ty).map (·.size) = some c'.size) (hs : c.size = c'.size) (h1 : c'.all (·.oneCell') = true) (h : wpList P ops Q rest (a.put op.dst undef) (w.alloc (.cells c' ty))) : wpList P ops Q (op :: rest) a (w.alloc (.cells c ty)) := by
 subst hb
 refine wpList_plain hgd fun K hK => ?_
 unfold Oper.wp execOp
 simp only [ho, hx, hy, Instr.storeAt, Instr.sureAddr, Sem.run_bind, Sem.run_pure, Result.andThen_ok, run_storeVar_new w ty c c' hi hs h1]
 exact hK _ _ h
theorem formOf1 (w : World) : Calls Tryz.prog 269 #[.int .i64 1] w fun e w' => e = .returned (.agg #[.bool false, .bool true, .int .i64 1, .int .i64 16]) ∧ Below w.heap.size w w' := by
 go_enter Tryz.func269, Tryz.ntmps269
 go_wp2_with (first | (refine wpList_built rfl 257 _ #[.bool false, .bool false, .int .i64 0, .int .i64 0, .bool false, .bool true, .int .i64 1, .int .i64 16, .bool true, .bool true, .int .i64 0, .int .i64 255, .bool true, .bool false, .int .i64 0, .int .i64 0, .bool true, .bool false, .int .i64 0, .int .i64 0, .bool false, .bool true, .int .i64 1, .int .i64 99, .bool false, .bool false, .int .i64 0, .int .i64 0] rfl (by as_aux_lemma => kernel_rfl) ?_) | (refine wpList_storeNew (w.alloc (.cells #[.bool false, .bool false, .int .i64 0, .int .i64 0] 252)) (w.heap.size + 1) (by simp) rfl 257 _ _ rfl _ #[.bool false, .bool false, .int .i64 0, .int .i64 0, .bool false, .bool true, .int .i64 1, .int .i64 16, .bool true, .bool true, .int .i64 0, .int .i64 255, .bool true, .bool false, .int .i64 0, .int .i64 0, .bool true, .bool false, .int .i64 0, .int .i64 0, .bool false, .bool true, .int .i64 1, .int .i64 99, .bool false, .bool false, .int .i64 0, .int .i64 0] rfl rfl (by as_aux_lemma => kernel_rfl) rfl (by as_aux_lemma => kernel_rfl) ?_))
 refine bodyPost_ret (v := .agg #[.bool false, .bool true, .int .i64 1, .int .i64 16]) (by simp [results, Tryz.results269, go_sem]) rfl ?_
 exact ⟨rfl, ((Below.refl _ _).alloc (Nat.le_refl _) _).alloc (by simp) _⟩
theorem formOf2 (w : World) : Calls Tryz.prog 269 #[.int .i64 2] w fun e w' => e = .returned (.agg #[.bool true, .bool true, .int .i64 0, .int .i64 255]) ∧ Below w.heap.size w w' := by
 go_enter Tryz.func269, Tryz.ntmps269
 go_wp2_with (first | (refine wpList_built rfl 257 _ #[.bool false, .bool false, .int .i64 0, .int .i64 0, .bool false, .bool true, .int .i64 1, .int .i64 16, .bool true, .bool true, .int .i64 0, .int .i64 255, .bool true, .bool false, .int .i64 0, .int .i64 0, .bool true, .bool false, .int .i64 0, .int .i64 0, .bool false, .bool true, .int .i64 1, .int .i64 99, .bool false, .bool false, .int .i64 0, .int .i64 0] rfl (by as_aux_lemma => kernel_rfl) ?_) | (refine wpList_storeNew (w.alloc (.cells #[.bool false, .bool false, .int .i64 0, .int .i64 0] 252)) (w.heap.size + 1) (by simp) rfl 257 _ _ rfl _ #[.bool false, .bool false, .int .i64 0, .int .i64 0, .bool false, .bool true, .int .i64 1, .int .i64 16, .bool true, .bool true, .int .i64 0, .int .i64 255, .bool true, .bool false, .int .i64 0, .int .i64 0, .bool true, .bool false, .int .i64 0, .int .i64 0, .bool false, .bool true, .int .i64 1, .int .i64 99, .bool false, .bool false, .int .i64 0, .int .i64 0] rfl rfl (by as_aux_lemma => kernel_rfl) rfl (by as_aux_lemma => kernel_rfl) ?_))
 refine bodyPost_ret (v := .agg #[.bool true, .bool true, .int .i64 0, .int .i64 255]) (by simp [results, Tryz.results269, go_sem]) rfl ?_
 exact ⟨rfl, ((Below.refl _ _).alloc (Nat.le_refl _) _).alloc (by simp) _⟩
theorem formOf3 (w : World) : Calls Tryz.prog 269 #[.int .i64 3] w fun e w' => e = .returned (.agg #[.bool true, .bool false, .int .i64 0, .int .i64 0]) ∧ Below w.heap.size w w' := by
 go_enter Tryz.func269, Tryz.ntmps269
 go_wp2_with (first | (refine wpList_built rfl 257 _ #[.bool false, .bool false, .int .i64 0, .int .i64 0, .bool false, .bool true, .int .i64 1, .int .i64 16, .bool true, .bool true, .int .i64 0, .int .i64 255, .bool true, .bool false, .int .i64 0, .int .i64 0, .bool true, .bool false, .int .i64 0, .int .i64 0, .bool false, .bool true, .int .i64 1, .int .i64 99, .bool false, .bool false, .int .i64 0, .int .i64 0] rfl (by as_aux_lemma => kernel_rfl) ?_) | (refine wpList_storeNew (w.alloc (.cells #[.bool false, .bool false, .int .i64 0, .int .i64 0] 252)) (w.heap.size + 1) (by simp) rfl 257 _ _ rfl _ #[.bool false, .bool false, .int .i64 0, .int .i64 0, .bool false, .bool true, .int .i64 1, .int .i64 16, .bool true, .bool true, .int .i64 0, .int .i64 255, .bool true, .bool false, .int .i64 0, .int .i64 0, .bool true, .bool false, .int .i64 0, .int .i64 0, .bool false, .bool true, .int .i64 1, .int .i64 99, .bool false, .bool false, .int .i64 0, .int .i64 0] rfl rfl (by as_aux_lemma => kernel_rfl) rfl (by as_aux_lemma => kernel_rfl) ?_))
 refine bodyPost_ret (v := .agg #[.bool true, .bool false, .int .i64 0, .int .i64 0]) (by simp [results, Tryz.results269, go_sem]) rfl ?_
 exact ⟨rfl, ((Below.refl _ _).alloc (Nat.le_refl _) _).alloc (by simp) _⟩
theorem formOf4 (w : World) : Calls Tryz.prog 269 #[.int .i64 4] w fun e w' => e = .returned (.agg #[.bool true, .bool false, .int .i64 0, .int .i64 0]) ∧ Below w.heap.size w w' := by
 go_enter Tryz.func269, Tryz.ntmps269
 go_wp2_with (first | (refine wpList_built rfl 257 _ #[.bool false, .bool false, .int .i64 0, .int .i64 0, .bool false, .bool true, .int .i64 1, .int .i64 16, .bool true, .bool true, .int .i64 0, .int .i64 255, .bool true, .bool false, .int .i64 0, .int .i64 0, .bool true, .bool false, .int .i64 0, .int .i64 0, .bool false, .bool true, .int .i64 1, .int .i64 99, .bool false, .bool false, .int .i64 0, .int .i64 0] rfl (by as_aux_lemma => kernel_rfl) ?_) | (refine wpList_storeNew (w.alloc (.cells #[.bool false, .bool false, .int .i64 0, .int .i64 0] 252)) (w.heap.size + 1) (by simp) rfl 257 _ _ rfl _ #[.bool false, .bool false, .int .i64 0, .int .i64 0, .bool false, .bool true, .int .i64 1, .int .i64 16, .bool true, .bool true, .int .i64 0, .int .i64 255, .bool true, .bool false, .int .i64 0, .int .i64 0, .bool true, .bool false, .int .i64 0, .int .i64 0, .bool false, .bool true, .int .i64 1, .int .i64 99, .bool false, .bool false, .int .i64 0, .int .i64 0] rfl rfl (by as_aux_lemma => kernel_rfl) rfl (by as_aux_lemma => kernel_rfl) ?_))
 refine bodyPost_ret (v := .agg #[.bool true, .bool false, .int .i64 0, .int .i64 0]) (by simp [results, Tryz.results269, go_sem]) rfl ?_
 exact ⟨rfl, ((Below.refl _ _).alloc (Nat.le_refl _) _).alloc (by simp) _⟩
theorem formOf5 (w : World) : Calls Tryz.prog 269 #[.int .i64 5] w fun e w' => e = .returned (.agg #[.bool false, .bool true, .int .i64 1, .int .i64 99]) ∧ Below w.heap.size w w' := by
 go_enter Tryz.func269, Tryz.ntmps269
 go_wp2_with (first | (refine wpList_built rfl 257 _ #[.bool false, .bool false, .int .i64 0, .int .i64 0, .bool false, .bool true, .int .i64 1, .int .i64 16, .bool true, .bool true, .int .i64 0, .int .i64 255, .bool true, .bool false, .int .i64 0, .int .i64 0, .bool true, .bool false, .int .i64 0, .int .i64 0, .bool false, .bool true, .int .i64 1, .int .i64 99, .bool false, .bool false, .int .i64 0, .int .i64 0] rfl (by as_aux_lemma => kernel_rfl) ?_) | (refine wpList_storeNew (w.alloc (.cells #[.bool false, .bool false, .int .i64 0, .int .i64 0] 252)) (w.heap.size + 1) (by simp) rfl 257 _ _ rfl _ #[.bool false, .bool false, .int .i64 0, .int .i64 0, .bool false, .bool true, .int .i64 1, .int .i64 16, .bool true, .bool true, .int .i64 0, .int .i64 255, .bool true, .bool false, .int .i64 0, .int .i64 0, .bool true, .bool false, .int .i64 0, .int .i64 0, .bool false, .bool true, .int .i64 1, .int .i64 99, .bool false, .bool false, .int .i64 0, .int .i64 0] rfl rfl (by as_aux_lemma => kernel_rfl) rfl (by as_aux_lemma => kernel_rfl) ?_))
 refine bodyPost_ret (v := .agg #[.bool false, .bool true, .int .i64 1, .int .i64 99]) (by simp [results, Tryz.results269, go_sem]) rfl ?_
 exact ⟨rfl, ((Below.refl _ _).alloc (Nat.le_refl _) _).alloc (by simp) _⟩
theorem formOf6 (w : World) : Calls Tryz.prog 269 #[.int .i64 6] w fun e w' => e = .returned (.agg #[.bool false, .bool false, .int .i64 0, .int .i64 0]) ∧ Below w.heap.size w w' := by
 go_enter Tryz.func269, Tryz.ntmps269
 go_wp2_with (first | (refine wpList_built rfl 257 _ #[.bool false, .bool false, .int .i64 0, .int .i64 0, .bool false, .bool true, .int .i64 1, .int .i64 16, .bool true, .bool true, .int .i64 0, .int .i64 255, .bool true, .bool false, .int .i64 0, .int .i64 0, .bool true, .bool false, .int .i64 0, .int .i64 0, .bool false, .bool true, .int .i64 1, .int .i64 99, .bool false, .bool false, .int .i64 0, .int .i64 0] rfl (by as_aux_lemma => kernel_rfl) ?_) | (refine wpList_storeNew (w.alloc (.cells #[.bool false, .bool false, .int .i64 0, .int .i64 0] 252)) (w.heap.size + 1) (by simp) rfl 257 _ _ rfl _ #[.bool false, .bool false, .int .i64 0, .int .i64 0, .bool false, .bool true, .int .i64 1, .int .i64 16, .bool true, .bool true, .int .i64 0, .int .i64 255, .bool true, .bool false, .int .i64 0, .int .i64 0, .bool true, .bool false, .int .i64 0, .int .i64 0, .bool false, .bool true, .int .i64 1, .int .i64 99, .bool false, .bool false, .int .i64 0, .int .i64 0] rfl rfl (by as_aux_lemma => kernel_rfl) rfl (by as_aux_lemma => kernel_rfl) ?_))
 refine bodyPost_ret (v := .agg #[.bool false, .bool false, .int .i64 0, .int .i64 0]) (by simp [results, Tryz.results269, go_sem]) rfl ?_
 exact ⟨rfl, ((Below.refl _ _).alloc (Nat.le_refl _) _).alloc (by simp) _⟩
theorem implOpF_is (k v a x : Int) (w : World) (d : Int) (hd : opF k v a x = d) : Calls Tryz.prog 237 #[.agg #[.int .i64 k, .int .i64 v, .int .i64 a, .int .i64 x]] w fun e w' => e = .returned (.int .i64 d) ∧ Below w.heap.size w w' := by
 have HD : Hid _ := hd
 clear hd
 have B : Below w.heap.size w (w.alloc (.cells #[.int .i64 k, .int .i64 v, .int .i64 a, .int .i64 x] 47)) := (Below.refl _ _).alloc (Nat.le_refl _) _
 have c0 : (w.alloc (.cells #[.int .i64 k, .int .i64 v, .int .i64 a, .int .i64 x] 47)).cell? ⟨w.heap.size, 0, none⟩ = some (.int .i64 k) := by simp
 have c1 : (w.alloc (.cells #[.int .i64 k, .int .i64 v, .int .i64 a, .int .i64 x] 47)).cell? ⟨w.heap.size, 1, none⟩ = some (.int .i64 v) := by simp
 have c2 : (w.alloc (.cells #[.int .i64 k, .int .i64 v, .int .i64 a, .int .i64 x] 47)).cell? ⟨w.heap.size, 2, none⟩ = some (.int .i64 a) := by simp
 have c3 : (w.alloc (.cells #[.int .i64 k, .int .i64 v, .int .i64 a, .int .i64 x] 47)).cell? ⟨w.heap.size, 3, none⟩ = some (.int .i64 x) := by simp
 obtain ⟨b1, h1⟩ : ∃ b, volIdB v = b := ⟨_, rfl⟩
 obtain ⟨b2, h2⟩ : ∃ b, spotB a = b := ⟨_, rfl⟩
 go_enter Tryz.func237, Tryz.ntmps237
 by_cases k1 : k = 1
 ·subst k1
  go_wp2_with fail
  refine (formOf1 _).mono ?_
  rintro e w1 ⟨rfl, B1⟩
  replace c0 := cell_later ((Below.refl w1.heap.size w1).alloc (Nat.le_refl _) (.cells #[.bool false, .bool true, .int .i64 1, .int .i64 16] 252)) (cell_later B1 c0)
  replace c1 := cell_later ((Below.refl w1.heap.size w1).alloc (Nat.le_refl _) (.cells #[.bool false, .bool true, .int .i64 1, .int .i64 16] 252)) (cell_later B1 c1)
  replace c2 := cell_later ((Below.refl w1.heap.size w1).alloc (Nat.le_refl _) (.cells #[.bool false, .bool true, .int .i64 1, .int .i64 16] 252)) (cell_later B1 c2)
  replace c3 := cell_later ((Below.refl w1.heap.size w1).alloc (Nat.le_refl _) (.cells #[.bool false, .bool true, .int .i64 1, .int .i64 16] 252)) (cell_later B1 c3)
  replace B := below_next (below_next B B1) ((Below.refl w1.heap.size w1).alloc (Nat.le_refl _) (.cells #[.bool false, .bool true, .int .i64 1, .int .i64 16] 252))
  have f0 : (w1.alloc (.cells #[.bool false, .bool true, .int .i64 1, .int .i64 16] 252)).cell? ⟨w1.heap.size, 0, none⟩ = some (.bool false) := by simp
  have f1 : (w1.alloc (.cells #[.bool false, .bool true, .int .i64 1, .int .i64 16] 252)).cell? ⟨w1.heap.size, 1, none⟩ = some (.bool true) := by simp
  have f2 : (w1.alloc (.cells #[.bool false, .bool true, .int .i64 1, .int .i64 16] 252)).cell? ⟨w1.heap.size, 2, none⟩ = some (.int .i64 1) := by simp
  have f3 : (w1.alloc (.cells #[.bool false, .bool true, .int .i64 1, .int .i64 16] 252)).cell? ⟨w1.heap.size, 3, none⟩ = some (.int .i64 16) := by simp
  clear B1
  go_wp2_with fail
  refine (isVolId_is v _ b1 h1).mono ?_
  rintro e _ ⟨rfl, rfl⟩
  cases b1 with
  | false =>
   go_wp2
   go_ret
   refine ⟨ret_int (by rw [← HD.out]; simp [opF, opAt, opValB, h1]), B⟩
  | true =>
   by_cases lo : x < 1
   ·have h3 : quotaB x = false := decide_eq_false (by omega)
    go_wp2
    go_ret
    refine ⟨ret_int (by rw [← HD.out]; simp [opF, opAt, opValB, h1, h2, h3]), B⟩
   by_cases hi : 16 < x
   ·have h3 : quotaB x = false := decide_eq_false (by omega)
    go_wp2
    go_ret
    refine ⟨ret_int (by rw [← HD.out]; simp [opF, opAt, opValB, h1, h2, h3]), B⟩
   have h3 : quotaB x = true := decide_eq_true (by omega)
   by_cases za : a = 0
   ·subst za
    go_wp2
    go_ret
    refine ⟨ret_int (by rw [← HD.out]; simp [opF, opAt, opVal, opValB, h1, h2, h3]), B⟩
   have za' : (a != 0) = true := by simp [za]
   go_wp2
   go_ret
   refine ⟨ret_int (by rw [← HD.out]; simp [opF, opAt, opVal, opValB, h1, h2, h3, za]), B⟩
 by_cases k2 : k = 2
 ·subst k2
  go_wp2_with fail
  refine (formOf2 _).mono ?_
  rintro e w1 ⟨rfl, B1⟩
  replace c0 := cell_later ((Below.refl w1.heap.size w1).alloc (Nat.le_refl _) (.cells #[.bool true, .bool true, .int .i64 0, .int .i64 255] 252)) (cell_later B1 c0)
  replace c1 := cell_later ((Below.refl w1.heap.size w1).alloc (Nat.le_refl _) (.cells #[.bool true, .bool true, .int .i64 0, .int .i64 255] 252)) (cell_later B1 c1)
  replace c2 := cell_later ((Below.refl w1.heap.size w1).alloc (Nat.le_refl _) (.cells #[.bool true, .bool true, .int .i64 0, .int .i64 255] 252)) (cell_later B1 c2)
  replace c3 := cell_later ((Below.refl w1.heap.size w1).alloc (Nat.le_refl _) (.cells #[.bool true, .bool true, .int .i64 0, .int .i64 255] 252)) (cell_later B1 c3)
  replace B := below_next (below_next B B1) ((Below.refl w1.heap.size w1).alloc (Nat.le_refl _) (.cells #[.bool true, .bool true, .int .i64 0, .int .i64 255] 252))
  have f0 : (w1.alloc (.cells #[.bool true, .bool true, .int .i64 0, .int .i64 255] 252)).cell? ⟨w1.heap.size, 0, none⟩ = some (.bool true) := by simp
  have f1 : (w1.alloc (.cells #[.bool true, .bool true, .int .i64 0, .int .i64 255] 252)).cell? ⟨w1.heap.size, 1, none⟩ = some (.bool true) := by simp
  have f2 : (w1.alloc (.cells #[.bool true, .bool true, .int .i64 0, .int .i64 255] 252)).cell? ⟨w1.heap.size, 2, none⟩ = some (.int .i64 0) := by simp
  have f3 : (w1.alloc (.cells #[.bool true, .bool true, .int .i64 0, .int .i64 255] 252)).cell? ⟨w1.heap.size, 3, none⟩ = some (.int .i64 255) := by simp
  clear B1
  go_wp2_with fail
  refine (isVolId_is v _ b1 h1).mono ?_
  rintro e _ ⟨rfl, rfl⟩
  cases b1 with
  | false =>
   go_wp2
   go_ret
   refine ⟨ret_int (by rw [← HD.out]; simp [opF, opAt, opValB, h1]), B⟩
  | true =>
   go_wp2_with fail
   refine (isTreePlace_is a _ b2 h2).mono ?_
   rintro e _ ⟨rfl, rfl⟩
   cases b2 with
   | false =>
    go_wp2
    go_ret
    refine ⟨ret_int (by rw [← HD.out]; simp [opF, opAt, opValB, h1, h2]), B⟩
   | true =>
    by_cases lo : x < 0
    ·have h3 : dataB x = false := decide_eq_false (by omega)
     go_wp2
     go_ret
     refine ⟨ret_int (by rw [← HD.out]; simp [opF, opAt, opValB, h1, h2, h3]), B⟩
    by_cases hi : 255 < x
    ·have h3 : dataB x = false := decide_eq_false (by omega)
     go_wp2
     go_ret
     refine ⟨ret_int (by rw [← HD.out]; simp [opF, opAt, opValB, h1, h2, h3]), B⟩
    have h3 : dataB x = true := decide_eq_true (by omega)
    go_wp2
    go_ret
    refine ⟨ret_int (by rw [← HD.out]; simp [opF, opAt, opVal, opValB, h1, h2, h3]), B⟩
 by_cases k3 : k = 3
 ·subst k3
  go_wp2_with fail
  refine (formOf3 _).mono ?_
  rintro e w1 ⟨rfl, B1⟩
  replace c0 := cell_later ((Below.refl w1.heap.size w1).alloc (Nat.le_refl _) (.cells #[.bool true, .bool false, .int .i64 0, .int .i64 0] 252)) (cell_later B1 c0)
  replace c1 := cell_later ((Below.refl w1.heap.size w1).alloc (Nat.le_refl _) (.cells #[.bool true, .bool false, .int .i64 0, .int .i64 0] 252)) (cell_later B1 c1)
  replace c2 := cell_later ((Below.refl w1.heap.size w1).alloc (Nat.le_refl _) (.cells #[.bool true, .bool false, .int .i64 0, .int .i64 0] 252)) (cell_later B1 c2)
  replace c3 := cell_later ((Below.refl w1.heap.size w1).alloc (Nat.le_refl _) (.cells #[.bool true, .bool false, .int .i64 0, .int .i64 0] 252)) (cell_later B1 c3)
  replace B := below_next (below_next B B1) ((Below.refl w1.heap.size w1).alloc (Nat.le_refl _) (.cells #[.bool true, .bool false, .int .i64 0, .int .i64 0] 252))
  have f0 : (w1.alloc (.cells #[.bool true, .bool false, .int .i64 0, .int .i64 0] 252)).cell? ⟨w1.heap.size, 0, none⟩ = some (.bool true) := by simp
  have f1 : (w1.alloc (.cells #[.bool true, .bool false, .int .i64 0, .int .i64 0] 252)).cell? ⟨w1.heap.size, 1, none⟩ = some (.bool false) := by simp
  have f2 : (w1.alloc (.cells #[.bool true, .bool false, .int .i64 0, .int .i64 0] 252)).cell? ⟨w1.heap.size, 2, none⟩ = some (.int .i64 0) := by simp
  have f3 : (w1.alloc (.cells #[.bool true, .bool false, .int .i64 0, .int .i64 0] 252)).cell? ⟨w1.heap.size, 3, none⟩ = some (.int .i64 0) := by simp
  clear B1
  go_wp2_with fail
  refine (isVolId_is v _ b1 h1).mono ?_
  rintro e _ ⟨rfl, rfl⟩
  cases b1 with
  | false =>
   go_wp2
   go_ret
   refine ⟨ret_int (by rw [← HD.out]; simp [opF, opAt, opValB, h1]), B⟩
  | true =>
   go_wp2_with fail
   refine (isTreePlace_is a _ b2 h2).mono ?_
   rintro e _ ⟨rfl, rfl⟩
   cases b2 with
   | false =>
    go_wp2
    go_ret
    refine ⟨ret_int (by rw [← HD.out]; simp [opF, opAt, opValB, h1, h2]), B⟩
   | true =>
    by_cases zx : x = 0
    ·subst zx
     go_wp2
     go_ret
     refine ⟨ret_int (by rw [← HD.out]; simp [opF, opAt, opVal, opValB, h1, h2]), B⟩
    have zx' : (x != 0) = true := by simp [zx]
    go_wp2
    go_ret
    refine ⟨ret_int (by rw [← HD.out]; simp [opF, opAt, opVal, opValB, h1, h2, zx]), B⟩
 by_cases k4 : k = 4
 ·subst k4
  go_wp2_with fail
  refine (formOf4 _).mono ?_
  rintro e w1 ⟨rfl, B1⟩
  replace c0 := cell_later ((Below.refl w1.heap.size w1).alloc (Nat.le_refl _) (.cells #[.bool true, .bool false, .int .i64 0, .int .i64 0] 252)) (cell_later B1 c0)
  replace c1 := cell_later ((Below.refl w1.heap.size w1).alloc (Nat.le_refl _) (.cells #[.bool true, .bool false, .int .i64 0, .int .i64 0] 252)) (cell_later B1 c1)
  replace c2 := cell_later ((Below.refl w1.heap.size w1).alloc (Nat.le_refl _) (.cells #[.bool true, .bool false, .int .i64 0, .int .i64 0] 252)) (cell_later B1 c2)
  replace c3 := cell_later ((Below.refl w1.heap.size w1).alloc (Nat.le_refl _) (.cells #[.bool true, .bool false, .int .i64 0, .int .i64 0] 252)) (cell_later B1 c3)
  replace B := below_next (below_next B B1) ((Below.refl w1.heap.size w1).alloc (Nat.le_refl _) (.cells #[.bool true, .bool false, .int .i64 0, .int .i64 0] 252))
  have f0 : (w1.alloc (.cells #[.bool true, .bool false, .int .i64 0, .int .i64 0] 252)).cell? ⟨w1.heap.size, 0, none⟩ = some (.bool true) := by simp
  have f1 : (w1.alloc (.cells #[.bool true, .bool false, .int .i64 0, .int .i64 0] 252)).cell? ⟨w1.heap.size, 1, none⟩ = some (.bool false) := by simp
  have f2 : (w1.alloc (.cells #[.bool true, .bool false, .int .i64 0, .int .i64 0] 252)).cell? ⟨w1.heap.size, 2, none⟩ = some (.int .i64 0) := by simp
  have f3 : (w1.alloc (.cells #[.bool true, .bool false, .int .i64 0, .int .i64 0] 252)).cell? ⟨w1.heap.size, 3, none⟩ = some (.int .i64 0) := by simp
  clear B1
  go_wp2_with fail
  refine (isVolId_is v _ b1 h1).mono ?_
  rintro e _ ⟨rfl, rfl⟩
  cases b1 with
  | false =>
   go_wp2
   go_ret
   refine ⟨ret_int (by rw [← HD.out]; simp [opF, opAt, opValB, h1]), B⟩
  | true =>
   go_wp2_with fail
   refine (isTreePlace_is a _ b2 h2).mono ?_
   rintro e _ ⟨rfl, rfl⟩
   cases b2 with
   | false =>
    go_wp2
    go_ret
    refine ⟨ret_int (by rw [← HD.out]; simp [opF, opAt, opValB, h1, h2]), B⟩
   | true =>
    by_cases zx : x = 0
    ·subst zx
     go_wp2
     go_ret
     refine ⟨ret_int (by rw [← HD.out]; simp [opF, opAt, opVal, opValB, h1, h2]), B⟩
    have zx' : (x != 0) = true := by simp [zx]
    go_wp2
    go_ret
    refine ⟨ret_int (by rw [← HD.out]; simp [opF, opAt, opVal, opValB, h1, h2, zx]), B⟩
 by_cases k5 : k = 5
 ·subst k5
  go_wp2_with fail
  refine (formOf5 _).mono ?_
  rintro e w1 ⟨rfl, B1⟩
  replace c0 := cell_later ((Below.refl w1.heap.size w1).alloc (Nat.le_refl _) (.cells #[.bool false, .bool true, .int .i64 1, .int .i64 99] 252)) (cell_later B1 c0)
  replace c1 := cell_later ((Below.refl w1.heap.size w1).alloc (Nat.le_refl _) (.cells #[.bool false, .bool true, .int .i64 1, .int .i64 99] 252)) (cell_later B1 c1)
  replace c2 := cell_later ((Below.refl w1.heap.size w1).alloc (Nat.le_refl _) (.cells #[.bool false, .bool true, .int .i64 1, .int .i64 99] 252)) (cell_later B1 c2)
  replace c3 := cell_later ((Below.refl w1.heap.size w1).alloc (Nat.le_refl _) (.cells #[.bool false, .bool true, .int .i64 1, .int .i64 99] 252)) (cell_later B1 c3)
  replace B := below_next (below_next B B1) ((Below.refl w1.heap.size w1).alloc (Nat.le_refl _) (.cells #[.bool false, .bool true, .int .i64 1, .int .i64 99] 252))
  have f0 : (w1.alloc (.cells #[.bool false, .bool true, .int .i64 1, .int .i64 99] 252)).cell? ⟨w1.heap.size, 0, none⟩ = some (.bool false) := by simp
  have f1 : (w1.alloc (.cells #[.bool false, .bool true, .int .i64 1, .int .i64 99] 252)).cell? ⟨w1.heap.size, 1, none⟩ = some (.bool true) := by simp
  have f2 : (w1.alloc (.cells #[.bool false, .bool true, .int .i64 1, .int .i64 99] 252)).cell? ⟨w1.heap.size, 2, none⟩ = some (.int .i64 1) := by simp
  have f3 : (w1.alloc (.cells #[.bool false, .bool true, .int .i64 1, .int .i64 99] 252)).cell? ⟨w1.heap.size, 3, none⟩ = some (.int .i64 99) := by simp
  clear B1
  go_wp2_with fail
  refine (isVolId_is v _ b1 h1).mono ?_
  rintro e _ ⟨rfl, rfl⟩
  cases b1 with
  | false =>
   go_wp2
   go_ret
   refine ⟨ret_int (by rw [← HD.out]; simp [opF, opAt, opValB, h1]), B⟩
  | true =>
   by_cases lo : x < 1
   ·have h3 : volIdB x = false := decide_eq_false (by omega)
    go_wp2
    go_ret
    refine ⟨ret_int (by rw [← HD.out]; simp [opF, opAt, opValB, h1, h2, h3]), B⟩
   by_cases hi : 99 < x
   ·have h3 : volIdB x = false := decide_eq_false (by omega)
    go_wp2
    go_ret
    refine ⟨ret_int (by rw [← HD.out]; simp [opF, opAt, opValB, h1, h2, h3]), B⟩
   have h3 : volIdB x = true := decide_eq_true (by omega)
   by_cases za : a = 0
   ·subst za
    go_wp2
    go_ret
    refine ⟨ret_int (by rw [← HD.out]; simp [opF, opAt, opVal, opValB, h1, h2, h3]), B⟩
   have za' : (a != 0) = true := by simp [za]
   go_wp2
   go_ret
   refine ⟨ret_int (by rw [← HD.out]; simp [opF, opAt, opVal, opValB, h1, h2, h3, za]), B⟩
 by_cases k6 : k = 6
 ·subst k6
  go_wp2_with fail
  refine (formOf6 _).mono ?_
  rintro e w1 ⟨rfl, B1⟩
  replace c0 := cell_later ((Below.refl w1.heap.size w1).alloc (Nat.le_refl _) (.cells #[.bool false, .bool false, .int .i64 0, .int .i64 0] 252)) (cell_later B1 c0)
  replace c1 := cell_later ((Below.refl w1.heap.size w1).alloc (Nat.le_refl _) (.cells #[.bool false, .bool false, .int .i64 0, .int .i64 0] 252)) (cell_later B1 c1)
  replace c2 := cell_later ((Below.refl w1.heap.size w1).alloc (Nat.le_refl _) (.cells #[.bool false, .bool false, .int .i64 0, .int .i64 0] 252)) (cell_later B1 c2)
  replace c3 := cell_later ((Below.refl w1.heap.size w1).alloc (Nat.le_refl _) (.cells #[.bool false, .bool false, .int .i64 0, .int .i64 0] 252)) (cell_later B1 c3)
  replace B := below_next (below_next B B1) ((Below.refl w1.heap.size w1).alloc (Nat.le_refl _) (.cells #[.bool false, .bool false, .int .i64 0, .int .i64 0] 252))
  have f0 : (w1.alloc (.cells #[.bool false, .bool false, .int .i64 0, .int .i64 0] 252)).cell? ⟨w1.heap.size, 0, none⟩ = some (.bool false) := by simp
  have f1 : (w1.alloc (.cells #[.bool false, .bool false, .int .i64 0, .int .i64 0] 252)).cell? ⟨w1.heap.size, 1, none⟩ = some (.bool false) := by simp
  have f2 : (w1.alloc (.cells #[.bool false, .bool false, .int .i64 0, .int .i64 0] 252)).cell? ⟨w1.heap.size, 2, none⟩ = some (.int .i64 0) := by simp
  have f3 : (w1.alloc (.cells #[.bool false, .bool false, .int .i64 0, .int .i64 0] 252)).cell? ⟨w1.heap.size, 3, none⟩ = some (.int .i64 0) := by simp
  clear B1
  go_wp2_with fail
  refine (isVolId_is v _ b1 h1).mono ?_
  rintro e _ ⟨rfl, rfl⟩
  cases b1 with
  | false =>
   go_wp2
   go_ret
   refine ⟨ret_int (by rw [← HD.out]; simp [opF, opAt, opValB, h1]), B⟩
  | true =>
   by_cases za : a = 0
   ·subst za
    by_cases zx : x = 0
    ·subst zx
     go_wp2
     go_ret
     refine ⟨ret_int (by rw [← HD.out]; simp [opF, opAt, opVal, opValB, h1, h2]), B⟩
    have zx' : (x != 0) = true := by simp [zx]
    go_wp2
    go_ret
    refine ⟨ret_int (by rw [← HD.out]; simp [opF, opAt, opVal, opValB, h1, h2, zx]), B⟩
   have za' : (a != 0) = true := by simp [za]
   go_wp2
   go_ret
   refine ⟨ret_int (by rw [← HD.out]; simp [opF, opAt, opVal, opValB, h1, h2, za]), B⟩
 by_cases lo : k < 1
 ·go_wp2
  go_ret
  exact ⟨ret_int (by rw [← HD.out, opF, if_neg (by omega)]), B⟩
 have hi : 6 < k := by omega
 go_wp2
 go_ret
 exact ⟨ret_int (by rw [← HD.out, opF, if_neg (by omega)]), B⟩
abbrev En := Int × Int × Int × Int × Int × Int
def en0 : En := (0, 0, 0, 0, 0, 0)
def enF (x : En) (j : Nat) : Int := if j = 0 then x.1 else if j = 1 then x.2.1 else if j = 2 then x.2.2.1 else if j = 3 then x.2.2.2.1 else if j = 4 then x.2.2.2.2.1 else x.2.2.2.2.2
def sixs (xs : List En) : List Value := (List.range (xs.length * 6)).map fun j => .int .i64 (enF (xs.getD (j / 6) en0) (j % 6))
theorem sixs_len (xs : List En) : (sixs xs).length = xs.length * 6 := by simp [sixs]
theorem sixs_get (xs : List En) (k j : Nat) (h : k < xs.length) (hj : j < 6) : (sixs xs).getD (k * 6 + j) default = .int .i64 (enF (xs.getD k en0) j) := by
 have h1 : k * 6 + j < xs.length * 6 := by omega
 have h2 : (k * 6 + j) / 6 = k := by omega
 have h3 : (k * 6 + j) % 6 = j := by omega
 have : (sixs xs).getD (k * 6 + j) default = .int .i64 (enF (xs.getD ((k * 6 + j) / 6) en0) ((k * 6 + j) % 6)) := by simp [sixs, List.getD, h1]
 rw [this, h2, h3]
theorem RowAt.nSixs {w : World} {own : Bool} {lo hi : Nat} {ao : Option Addr} {n cap : Nat} {vs : List En} (h : RowAt w own lo hi 6 ao n cap (sixs vs)) : vs.length = n := by
 have hl := h.len; rw [sixs_len] at hl; omega
theorem RowAt.six {w : World} {own : Bool} {lo hi : Nat} {ao : Option Addr} {n cap : Nat} {vs : List En} (h : RowAt w own lo hi 6 ao n cap (sixs vs)) {i : Nat} (hi' : i < n) :
  ∃ b off, ao = some ⟨b, off, none⟩ ∧ lo ≤ b ∧ b < hi ∧ b < w.heap.size ∧ w.cell? ⟨b, off + i * 6, none⟩ = some (.int .i64 (vs.getD i en0).1) ∧ w.cell? ⟨b, off + i * 6 + 1, none⟩ = some (.int .i64 (vs.getD i en0).2.1) ∧ w.cell? ⟨b, off + i * 6 + 2, none⟩ = some (.int .i64 (vs.getD i en0).2.2.1) ∧ w.cell? ⟨b, off + i * 6 + 3, none⟩ = some (.int .i64 (vs.getD i en0).2.2.2.1) ∧ w.cell? ⟨b, off + i * 6 + 4, none⟩ = some (.int .i64 (vs.getD i en0).2.2.2.2.1) ∧ w.cell? ⟨b, off + i * 6 + 5, none⟩ = some (.int .i64 (vs.getD i en0).2.2.2.2.2) ∧ (own = true → ∀ j, j < 6 → w.frozen? ⟨b, off + (i * 6 + j), none⟩ = false) := by
 obtain ⟨b, off, rfl, g1, g2, g3, g4, g5⟩ := h.cells (by omega)
 have hl := h.nSixs
 have G : ∀ j, j < 6 → w.cell? ⟨b, off + (i * 6 + j), none⟩ = some (.int .i64 (enF (vs.getD i en0) j)) := fun j hj => by
  rw [g4 (i * 6 + j) (by omega), sixs_get vs i j (by omega) hj]
 exact ⟨b, off, rfl, g1, g2, g3, G 0 (by omega), G 1 (by omega), G 2 (by omega), G 3 (by omega), G 4 (by omega), G 5 (by omega), fun ho j hj => g5 ho _ (by omega)⟩
theorem Tryz.infoEntry : (Tryz.prog.info? 49).map (fun i => (i.zero, i.size, i.bytes)) = some (some (.agg #[.int .i64 0, .int .i64 0, .int .i64 0, .int .i64 0, .int .i64 0, .int .i64 0]), 6, 48) := by kernel_rfl
def enFault (x : En) : Int := if (1 ≤ x.1 ∧ x.1 ≤ 99) ∧ (1 ≤ x.2.1 ∧ x.2.1 ≤ 999) then opF x.2.2.1 x.2.2.2.1 x.2.2.2.2.1 x.2.2.2.2.2 else 3
theorem decide_eq_false_eq {q : Prop} [Decidable q] : (decide q = false) = ¬ q := by simp
theorem isClient_is (x : Int) (w : World) (d : Bool) (h : decide (1 ≤ x ∧ x ≤ 99) = d) : Calls Tryz.prog 235 #[.int .i64 x] w fun e w' => e = .returned (.bool d) ∧ w' = w := by
 by_cases h1 : 1 ≤ x
 ·by_cases h2 : x ≤ 99
  ·have e : d = true := by rw [← h]; exact decide_eq_true ⟨h1, h2⟩
   subst e
   clear h
   go_enter Tryz.func235, Tryz.ntmps235
   go_wp2
   go_ret
   exact ⟨rfl, rfl⟩
  ·have e : d = false := by rw [← h]; exact decide_eq_false (by omega)
   subst e
   clear h
   go_enter Tryz.func235, Tryz.ntmps235
   go_wp2
   go_ret
   exact ⟨rfl, rfl⟩
 ·have e : d = false := by rw [← h]; exact decide_eq_false (by omega)
  subst e
  clear h
  go_enter Tryz.func235, Tryz.ntmps235
  go_wp2
  go_ret
  exact ⟨rfl, rfl⟩
theorem isSeq_is (x : Int) (w : World) (d : Bool) (h : decide (1 ≤ x ∧ x ≤ 999) = d) : Calls Tryz.prog 236 #[.int .i64 x] w fun e w' => e = .returned (.bool d) ∧ w' = w := by
 by_cases h1 : 1 ≤ x
 ·by_cases h2 : x ≤ 999
  ·have e : d = true := by rw [← h]; exact decide_eq_true ⟨h1, h2⟩
   subst e
   clear h
   go_enter Tryz.func236, Tryz.ntmps236
   go_wp2
   go_ret
   exact ⟨rfl, rfl⟩
  ·have e : d = false := by rw [← h]; exact decide_eq_false (by omega)
   subst e
   clear h
   go_enter Tryz.func236, Tryz.ntmps236
   go_wp2
   go_ret
   exact ⟨rfl, rfl⟩
 ·have e : d = false := by rw [← h]; exact decide_eq_false (by omega)
  subst e
  clear h
  go_enter Tryz.func236, Tryz.ntmps236
  go_wp2
  go_ret
  exact ⟨rfl, rfl⟩
theorem implEF_is (p q k v a x : Int) (w : World) (d : Int) (hd : enFault (p, q, k, v, a, x) = d) : Calls Tryz.prog 174 #[.agg #[.int .i64 p, .int .i64 q, .int .i64 k, .int .i64 v, .int .i64 a, .int .i64 x]] w fun e w' => e = .returned (.int .i64 d) ∧ Below w.heap.size w w' := by
 have HD : Hid _ := hd
 clear hd
 have B : Below w.heap.size w (w.alloc (.cells #[.int .i64 p, .int .i64 q, .int .i64 k, .int .i64 v, .int .i64 a, .int .i64 x] 49)) := (Below.refl _ _).alloc (Nat.le_refl _) _
 have c0 : (w.alloc (.cells #[.int .i64 p, .int .i64 q, .int .i64 k, .int .i64 v, .int .i64 a, .int .i64 x] 49)).cell? ⟨w.heap.size, 0, none⟩ = some (.int .i64 p) := by simp
 have c1 : (w.alloc (.cells #[.int .i64 p, .int .i64 q, .int .i64 k, .int .i64 v, .int .i64 a, .int .i64 x] 49)).cell? ⟨w.heap.size, 1, none⟩ = some (.int .i64 q) := by simp
 have c2 : (w.alloc (.cells #[.int .i64 p, .int .i64 q, .int .i64 k, .int .i64 v, .int .i64 a, .int .i64 x] 49)).cell? ⟨w.heap.size, 2, none⟩ = some (.int .i64 k) := by simp
 have c3 : (w.alloc (.cells #[.int .i64 p, .int .i64 q, .int .i64 k, .int .i64 v, .int .i64 a, .int .i64 x] 49)).cell? ⟨w.heap.size, 3, none⟩ = some (.int .i64 v) := by simp
 have c4 : (w.alloc (.cells #[.int .i64 p, .int .i64 q, .int .i64 k, .int .i64 v, .int .i64 a, .int .i64 x] 49)).cell? ⟨w.heap.size, 4, none⟩ = some (.int .i64 a) := by simp
 have c5 : (w.alloc (.cells #[.int .i64 p, .int .i64 q, .int .i64 k, .int .i64 v, .int .i64 a, .int .i64 x] 49)).cell? ⟨w.heap.size, 5, none⟩ = some (.int .i64 x) := by simp
 go_enter Tryz.func174, Tryz.ntmps174
 by_cases h1 : 1 ≤ p ∧ p ≤ 99
 ·by_cases h2 : 1 ≤ q ∧ q ≤ 999
  ·have H : Hid (opF k v a x = d) := by show _ = _; rw [← HD.out]; unfold enFault; rw [if_pos ⟨h1, h2⟩]
   go_wp2_with fail
   refine (isClient_is p _ true (by simp only [decide_eq_true_eq]; omega)).mono ?_
   rintro e1 W ⟨rfl, rfl⟩
   go_wp2_with fail
   refine (isSeq_is q _ true (by simp only [decide_eq_true_eq]; omega)).mono ?_
   rintro e1 W ⟨rfl, rfl⟩
   clear HD
   go_wp2_with fail
   refine (implOpF_is k v a x _ d H.out).mono ?_
   rintro e2 w2 ⟨rfl, hb⟩
   replace B := below_next B hb
   clear hb c0 c1 c2 c3 c4 c5
   go_wp2
   go_ret
   exact ⟨rfl, B⟩
  ·have H : d = 3 := by rw [← HD.out]; unfold enFault; rw [if_neg (fun h => h2 h.2)]
   subst H
   go_wp2_with fail
   refine (isClient_is p _ true (by simp only [decide_eq_true_eq]; omega)).mono ?_
   rintro e1 W ⟨rfl, rfl⟩
   go_wp2_with fail
   refine (isSeq_is q _ false (by simp only [decide_eq_false_eq]; omega)).mono ?_
   rintro e1 W ⟨rfl, rfl⟩
   go_wp2
   go_ret
   exact ⟨rfl, B⟩
 ·have H : d = 3 := by rw [← HD.out]; unfold enFault; rw [if_neg (fun h => h1 h.1)]
  subst H
  go_wp2_with fail
  refine (isClient_is p _ false (by simp only [decide_eq_false_eq]; omega)).mono ?_
  rintro e1 W ⟨rfl, rfl⟩
  go_wp2
  go_ret
  exact ⟨rfl, B⟩
end Go.Proofs.YtgldocaohcoleaaGreat
