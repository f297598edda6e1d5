/- Chapter 9: what a mail has that its kind has not, of the model. -/
import Derived.Test.YtjefmhjlaibbkaaQAGR
import Derived.Test.YtjefmhjlaibbkaaWHR
set_option maxRecDepth 20000
set_option maxHeartbeats 16000000
namespace Go.Proofs.Ytjefmhjlaibbkaa
open Go.RowKit
theorem l9Bare1_is (fr to view at_ : Int) (has : Bool) (en : En) (last : Int) (log : List En) (commit : Int) (hm : Hd) (hL : log.length = hm.2.1) (w : World) (d : Bool) (hd : decide (excF true true false false true ⟨1, fr, to, view, at_, has, en, last, log, commit⟩) = d) : Calls Try.prog 97 #[.agg #[.int .i64 1, .int .i64 fr, .int .i64 to, .int .i64 view, .int .i64 at_, .bool has, .int .i64 en.1, .int .i64 en.2.1, .int .i64 en.2.2.1, .int .i64 en.2.2.2.1, .int .i64 en.2.2.2.2.1, .int .i64 en.2.2.2.2.2, .int .i64 last, .slice hm.1 hm.2.1 hm.2.2, .int .i64 commit]] w fun e w' => e = .returned (.bool (!d)) ∧ Below w.heap.size w w' := by
 have HT : Hid (excF true true false false true ⟨1, fr, to, view, at_, has, en, last, log, commit⟩ → d = true) := fun y => by rw [← hd]; exact decide_eq_true y
 have HF : Hid (¬ excF true true false false true ⟨1, fr, to, view, at_, has, en, last, log, commit⟩ → d = false) := fun y => by rw [← hd]; exact decide_eq_false y
 clear hd
 unfold excF at HT HF
 simp only [hL] at HT HF
 clear hL
 have RG := run_guEn
 obtain ⟨x0, x1, x2, x3, x4, x5⟩ := en
 cases has
 ·by_cases q1 : ((x0, x1, x2, x3, x4, x5) : En) = en0
  rotate_left 1
  ·have RE := run_neEn x0 x1 x2 x3 x4 x5 0 0 0 0 0 0 false (by simp only [decide_eq_false_eq]; exact q1)
   have e : d = true := HT.out (Or.inr (Or.inl ⟨by first | trivial | rfl, q1⟩))
   subst e
   clear HT HF
   go_enter Try.func97, Try.ntmps97
   go_wp2_with (first | ((with_reducible refine sm 97 X1 0 [.int .i64 0, .int .i64 0, .int .i64 0, .int .i64 0, .int .i64 0, .int .i64 0] ?_); intro V1 S; replace X0 := X0.kp S.kept; replace c0 := X0.cell; replace X1 : Bx V1 b1 [.int .i64 0, .int .i64 0, .int .i64 0, .int .i64 0, .int .i64 0, .int .i64 0] := S.bx; replace c1 := X1.cell; replace f1 := X1.froz; replace B := bkp B S.kept; clear S) | ((have g := ob0); clear g; (with_reducible refine al 97 [.int .i64 0, .int .i64 0, .int .i64 0, .int .i64 0, .int .i64 0, .int .i64 0] ?_); intro b1 W1 N1; have ob1 := N1.o B; have o0_b1 := N1.u X0; replace X0 := N1.r X0; replace c0 := X0.cell; replace B := N1.n B; obtain ⟨X1, c1, f1⟩ := N1.a; clear N1) | ((with_reducible refine box_newX 99 [.int .i64 1, .int .i64 fr, .int .i64 to, .int .i64 view, .int .i64 at_, .bool false, .int .i64 x0, .int .i64 x1, .int .i64 x2, .int .i64 x3, .int .i64 x4, .int .i64 x5, .int .i64 last, .slice hm.1 hm.2.1 hm.2.2, .int .i64 commit] rfl ?_); intro b0 W0 N0; have ob0 := N0.ge; have B := N0.below; obtain ⟨X0, c0⟩ := N0.c; clear N0))
   go_ret
   exact ⟨rfl, B⟩
  have RE := run_neEn x0 x1 x2 x3 x4 x5 0 0 0 0 0 0 true (by simp only [decide_eq_true_eq]; exact q1)
  have Q1 : Hid _ := q1
  clear q1
  by_cases q4 : last = 0
  rotate_left 1
  ·have q4' : (last == 0) = false := by simp [q4]
   have e : d = true := HT.out (Or.inr (Or.inr (Or.inr (Or.inr (Or.inl ⟨by first | trivial | rfl, q4⟩)))))
   subst e
   clear HT HF
   go_enter Try.func97, Try.ntmps97
   go_wp2_with (first | ((with_reducible refine sm 97 X1 0 [.int .i64 0, .int .i64 0, .int .i64 0, .int .i64 0, .int .i64 0, .int .i64 0] ?_); intro V1 S; replace X0 := X0.kp S.kept; replace c0 := X0.cell; replace X1 : Bx V1 b1 [.int .i64 0, .int .i64 0, .int .i64 0, .int .i64 0, .int .i64 0, .int .i64 0] := S.bx; replace c1 := X1.cell; replace f1 := X1.froz; replace B := bkp B S.kept; clear S) | ((have g := ob0); clear g; (with_reducible refine al 97 [.int .i64 0, .int .i64 0, .int .i64 0, .int .i64 0, .int .i64 0, .int .i64 0] ?_); intro b1 W1 N1; have ob1 := N1.o B; have o0_b1 := N1.u X0; replace X0 := N1.r X0; replace c0 := X0.cell; replace B := N1.n B; obtain ⟨X1, c1, f1⟩ := N1.a; clear N1) | ((with_reducible refine box_newX 99 [.int .i64 1, .int .i64 fr, .int .i64 to, .int .i64 view, .int .i64 at_, .bool false, .int .i64 x0, .int .i64 x1, .int .i64 x2, .int .i64 x3, .int .i64 x4, .int .i64 x5, .int .i64 last, .slice hm.1 hm.2.1 hm.2.2, .int .i64 commit] rfl ?_); intro b0 W0 N0; have ob0 := N0.ge; have B := N0.below; obtain ⟨X0, c0⟩ := N0.c; clear N0))
   go_ret
   exact ⟨rfl, B⟩
  have q4' : (last == 0) = true := by simp [q4]
  have Q4 : Hid _ := q4
  clear q4
  by_cases q2 : hm.2.1 = 0
  rotate_left 1
  ·have q2' : ((hm.2.1 : Int) == 0) = false := by simp [q2]
   have e : d = true := HT.out (Or.inr (Or.inr (Or.inl ⟨by first | trivial | rfl, q2⟩)))
   subst e
   clear HT HF
   go_enter Try.func97, Try.ntmps97
   go_wp2_with (first | ((with_reducible refine sm 97 X1 0 [.int .i64 0, .int .i64 0, .int .i64 0, .int .i64 0, .int .i64 0, .int .i64 0] ?_); intro V1 S; replace X0 := X0.kp S.kept; replace c0 := X0.cell; replace X1 : Bx V1 b1 [.int .i64 0, .int .i64 0, .int .i64 0, .int .i64 0, .int .i64 0, .int .i64 0] := S.bx; replace c1 := X1.cell; replace f1 := X1.froz; replace B := bkp B S.kept; clear S) | ((have g := ob0); clear g; (with_reducible refine al 97 [.int .i64 0, .int .i64 0, .int .i64 0, .int .i64 0, .int .i64 0, .int .i64 0] ?_); intro b1 W1 N1; have ob1 := N1.o B; have o0_b1 := N1.u X0; replace X0 := N1.r X0; replace c0 := X0.cell; replace B := N1.n B; obtain ⟨X1, c1, f1⟩ := N1.a; clear N1) | ((with_reducible refine box_newX 99 [.int .i64 1, .int .i64 fr, .int .i64 to, .int .i64 view, .int .i64 at_, .bool false, .int .i64 x0, .int .i64 x1, .int .i64 x2, .int .i64 x3, .int .i64 x4, .int .i64 x5, .int .i64 last, .slice hm.1 hm.2.1 hm.2.2, .int .i64 commit] rfl ?_); intro b0 W0 N0; have ob0 := N0.ge; have B := N0.below; obtain ⟨X0, c0⟩ := N0.c; clear N0))
   go_ret
   exact ⟨rfl, B⟩
  have q2' : ((hm.2.1 : Int) == 0) = true := by simp [q2]
  have Q2 : Hid _ := q2
  clear q2
  have e : d = false := HF.out (fun z => z.elim (fun y => absurd y.2 (by simp)) (fun z => z.elim (fun y => y.2 Q1.out) (fun z => z.elim (fun y => y.2 Q2.out) (fun z => z.elim (fun y => absurd y.1 (by simp)) (fun z => z.elim (fun y => y.2 Q4.out) (fun y => absurd y.1 (by simp)))))))
  subst e
  clear HT HF
  go_enter Try.func97, Try.ntmps97
  go_wp2_with (first | ((with_reducible refine sm 97 X1 0 [.int .i64 0, .int .i64 0, .int .i64 0, .int .i64 0, .int .i64 0, .int .i64 0] ?_); intro V1 S; replace X0 := X0.kp S.kept; replace c0 := X0.cell; replace X1 : Bx V1 b1 [.int .i64 0, .int .i64 0, .int .i64 0, .int .i64 0, .int .i64 0, .int .i64 0] := S.bx; replace c1 := X1.cell; replace f1 := X1.froz; replace B := bkp B S.kept; clear S) | ((have g := ob0); clear g; (with_reducible refine al 97 [.int .i64 0, .int .i64 0, .int .i64 0, .int .i64 0, .int .i64 0, .int .i64 0] ?_); intro b1 W1 N1; have ob1 := N1.o B; have o0_b1 := N1.u X0; replace X0 := N1.r X0; replace c0 := X0.cell; replace B := N1.n B; obtain ⟨X1, c1, f1⟩ := N1.a; clear N1) | ((with_reducible refine box_newX 99 [.int .i64 1, .int .i64 fr, .int .i64 to, .int .i64 view, .int .i64 at_, .bool false, .int .i64 x0, .int .i64 x1, .int .i64 x2, .int .i64 x3, .int .i64 x4, .int .i64 x5, .int .i64 last, .slice hm.1 hm.2.1 hm.2.2, .int .i64 commit] rfl ?_); intro b0 W0 N0; have ob0 := N0.ge; have B := N0.below; obtain ⟨X0, c0⟩ := N0.c; clear N0))
  go_ret
  exact ⟨rfl, B⟩
 ·by_cases q4 : last = 0
  rotate_left 1
  ·have q4' : (last == 0) = false := by simp [q4]
   have e : d = true := HT.out (Or.inr (Or.inr (Or.inr (Or.inr (Or.inl ⟨by first | trivial | rfl, q4⟩)))))
   subst e
   clear HT HF
   go_enter Try.func97, Try.ntmps97
   go_wp2_with (first | ((with_reducible refine sm 97 X1 0 [.int .i64 0, .int .i64 0, .int .i64 0, .int .i64 0, .int .i64 0, .int .i64 0] ?_); intro V1 S; replace X0 := X0.kp S.kept; replace c0 := X0.cell; replace X1 : Bx V1 b1 [.int .i64 0, .int .i64 0, .int .i64 0, .int .i64 0, .int .i64 0, .int .i64 0] := S.bx; replace c1 := X1.cell; replace f1 := X1.froz; replace B := bkp B S.kept; clear S) | ((have g := ob0); clear g; (with_reducible refine al 97 [.int .i64 0, .int .i64 0, .int .i64 0, .int .i64 0, .int .i64 0, .int .i64 0] ?_); intro b1 W1 N1; have ob1 := N1.o B; have o0_b1 := N1.u X0; replace X0 := N1.r X0; replace c0 := X0.cell; replace B := N1.n B; obtain ⟨X1, c1, f1⟩ := N1.a; clear N1) | ((with_reducible refine box_newX 99 [.int .i64 1, .int .i64 fr, .int .i64 to, .int .i64 view, .int .i64 at_, .bool true, .int .i64 x0, .int .i64 x1, .int .i64 x2, .int .i64 x3, .int .i64 x4, .int .i64 x5, .int .i64 last, .slice hm.1 hm.2.1 hm.2.2, .int .i64 commit] rfl ?_); intro b0 W0 N0; have ob0 := N0.ge; have B := N0.below; obtain ⟨X0, c0⟩ := N0.c; clear N0))
   go_ret
   exact ⟨rfl, B⟩
  have q4' : (last == 0) = true := by simp [q4]
  have Q4 : Hid _ := q4
  clear q4
  by_cases q2 : hm.2.1 = 0
  rotate_left 1
  ·have q2' : ((hm.2.1 : Int) == 0) = false := by simp [q2]
   have e : d = true := HT.out (Or.inr (Or.inr (Or.inl ⟨by first | trivial | rfl, q2⟩)))
   subst e
   clear HT HF
   go_enter Try.func97, Try.ntmps97
   go_wp2_with (first | ((with_reducible refine sm 97 X1 0 [.int .i64 0, .int .i64 0, .int .i64 0, .int .i64 0, .int .i64 0, .int .i64 0] ?_); intro V1 S; replace X0 := X0.kp S.kept; replace c0 := X0.cell; replace X1 : Bx V1 b1 [.int .i64 0, .int .i64 0, .int .i64 0, .int .i64 0, .int .i64 0, .int .i64 0] := S.bx; replace c1 := X1.cell; replace f1 := X1.froz; replace B := bkp B S.kept; clear S) | ((have g := ob0); clear g; (with_reducible refine al 97 [.int .i64 0, .int .i64 0, .int .i64 0, .int .i64 0, .int .i64 0, .int .i64 0] ?_); intro b1 W1 N1; have ob1 := N1.o B; have o0_b1 := N1.u X0; replace X0 := N1.r X0; replace c0 := X0.cell; replace B := N1.n B; obtain ⟨X1, c1, f1⟩ := N1.a; clear N1) | ((with_reducible refine box_newX 99 [.int .i64 1, .int .i64 fr, .int .i64 to, .int .i64 view, .int .i64 at_, .bool true, .int .i64 x0, .int .i64 x1, .int .i64 x2, .int .i64 x3, .int .i64 x4, .int .i64 x5, .int .i64 last, .slice hm.1 hm.2.1 hm.2.2, .int .i64 commit] rfl ?_); intro b0 W0 N0; have ob0 := N0.ge; have B := N0.below; obtain ⟨X0, c0⟩ := N0.c; clear N0))
   go_ret
   exact ⟨rfl, B⟩
  have q2' : ((hm.2.1 : Int) == 0) = true := by simp [q2]
  have Q2 : Hid _ := q2
  clear q2
  have e : d = false := HF.out (fun z => z.elim (fun y => absurd y.1 (by simp)) (fun z => z.elim (fun y => absurd y.1 (by simp)) (fun z => z.elim (fun y => y.2 Q2.out) (fun z => z.elim (fun y => absurd y.1 (by simp)) (fun z => z.elim (fun y => y.2 Q4.out) (fun y => absurd y.1 (by simp)))))))
  subst e
  clear HT HF
  go_enter Try.func97, Try.ntmps97
  go_wp2_with (first | ((with_reducible refine sm 97 X1 0 [.int .i64 0, .int .i64 0, .int .i64 0, .int .i64 0, .int .i64 0, .int .i64 0] ?_); intro V1 S; replace X0 := X0.kp S.kept; replace c0 := X0.cell; replace X1 : Bx V1 b1 [.int .i64 0, .int .i64 0, .int .i64 0, .int .i64 0, .int .i64 0, .int .i64 0] := S.bx; replace c1 := X1.cell; replace f1 := X1.froz; replace B := bkp B S.kept; clear S) | ((have g := ob0); clear g; (with_reducible refine al 97 [.int .i64 0, .int .i64 0, .int .i64 0, .int .i64 0, .int .i64 0, .int .i64 0] ?_); intro b1 W1 N1; have ob1 := N1.o B; have o0_b1 := N1.u X0; replace X0 := N1.r X0; replace c0 := X0.cell; replace B := N1.n B; obtain ⟨X1, c1, f1⟩ := N1.a; clear N1) | ((with_reducible refine box_newX 99 [.int .i64 1, .int .i64 fr, .int .i64 to, .int .i64 view, .int .i64 at_, .bool true, .int .i64 x0, .int .i64 x1, .int .i64 x2, .int .i64 x3, .int .i64 x4, .int .i64 x5, .int .i64 last, .slice hm.1 hm.2.1 hm.2.2, .int .i64 commit] rfl ?_); intro b0 W0 N0; have ob0 := N0.ge; have B := N0.below; obtain ⟨X0, c0⟩ := N0.c; clear N0))
  go_ret
  exact ⟨rfl, B⟩
theorem l9Bare2_is (fr to view at_ : Int) (has : Bool) (en : En) (last : Int) (log : List En) (commit : Int) (hm : Hd) (hL : log.length = hm.2.1) (w : World) (d : Bool) (hd : decide (excF true false false false false ⟨2, fr, to, view, at_, has, en, last, log, commit⟩) = d) : Calls Try.prog 97 #[.agg #[.int .i64 2, .int .i64 fr, .int .i64 to, .int .i64 view, .int .i64 at_, .bool has, .int .i64 en.1, .int .i64 en.2.1, .int .i64 en.2.2.1, .int .i64 en.2.2.2.1, .int .i64 en.2.2.2.2.1, .int .i64 en.2.2.2.2.2, .int .i64 last, .slice hm.1 hm.2.1 hm.2.2, .int .i64 commit]] w fun e w' => e = .returned (.bool (!d)) ∧ Below w.heap.size w w' := by
 have HT : Hid (excF true false false false false ⟨2, fr, to, view, at_, has, en, last, log, commit⟩ → d = true) := fun y => by rw [← hd]; exact decide_eq_true y
 have HF : Hid (¬ excF true false false false false ⟨2, fr, to, view, at_, has, en, last, log, commit⟩ → d = false) := fun y => by rw [← hd]; exact decide_eq_false y
 clear hd
 unfold excF at HT HF
 simp only [hL] at HT HF
 clear hL
 have RG := run_guEn
 obtain ⟨x0, x1, x2, x3, x4, x5⟩ := en
 cases has
 ·by_cases q1 : ((x0, x1, x2, x3, x4, x5) : En) = en0
  rotate_left 1
  ·have RE := run_neEn x0 x1 x2 x3 x4 x5 0 0 0 0 0 0 false (by simp only [decide_eq_false_eq]; exact q1)
   have e : d = true := HT.out (Or.inr (Or.inl ⟨by first | trivial | rfl, q1⟩))
   subst e
   clear HT HF
   go_enter Try.func97, Try.ntmps97
   go_wp2_with (first | ((with_reducible refine sm 97 X1 0 [.int .i64 0, .int .i64 0, .int .i64 0, .int .i64 0, .int .i64 0, .int .i64 0] ?_); intro V1 S; replace X0 := X0.kp S.kept; replace c0 := X0.cell; replace X1 : Bx V1 b1 [.int .i64 0, .int .i64 0, .int .i64 0, .int .i64 0, .int .i64 0, .int .i64 0] := S.bx; replace c1 := X1.cell; replace f1 := X1.froz; replace B := bkp B S.kept; clear S) | ((have g := ob0); clear g; (with_reducible refine al 97 [.int .i64 0, .int .i64 0, .int .i64 0, .int .i64 0, .int .i64 0, .int .i64 0] ?_); intro b1 W1 N1; have ob1 := N1.o B; have o0_b1 := N1.u X0; replace X0 := N1.r X0; replace c0 := X0.cell; replace B := N1.n B; obtain ⟨X1, c1, f1⟩ := N1.a; clear N1) | ((with_reducible refine box_newX 99 [.int .i64 2, .int .i64 fr, .int .i64 to, .int .i64 view, .int .i64 at_, .bool false, .int .i64 x0, .int .i64 x1, .int .i64 x2, .int .i64 x3, .int .i64 x4, .int .i64 x5, .int .i64 last, .slice hm.1 hm.2.1 hm.2.2, .int .i64 commit] rfl ?_); intro b0 W0 N0; have ob0 := N0.ge; have B := N0.below; obtain ⟨X0, c0⟩ := N0.c; clear N0))
   go_ret
   exact ⟨rfl, B⟩
  have RE := run_neEn x0 x1 x2 x3 x4 x5 0 0 0 0 0 0 true (by simp only [decide_eq_true_eq]; exact q1)
  have Q1 : Hid _ := q1
  clear q1
  by_cases q4 : last = 0
  rotate_left 1
  ·have q4' : (last == 0) = false := by simp [q4]
   have e : d = true := HT.out (Or.inr (Or.inr (Or.inr (Or.inr (Or.inl ⟨by first | trivial | rfl, q4⟩)))))
   subst e
   clear HT HF
   go_enter Try.func97, Try.ntmps97
   go_wp2_with (first | ((with_reducible refine sm 97 X1 0 [.int .i64 0, .int .i64 0, .int .i64 0, .int .i64 0, .int .i64 0, .int .i64 0] ?_); intro V1 S; replace X0 := X0.kp S.kept; replace c0 := X0.cell; replace X1 : Bx V1 b1 [.int .i64 0, .int .i64 0, .int .i64 0, .int .i64 0, .int .i64 0, .int .i64 0] := S.bx; replace c1 := X1.cell; replace f1 := X1.froz; replace B := bkp B S.kept; clear S) | ((have g := ob0); clear g; (with_reducible refine al 97 [.int .i64 0, .int .i64 0, .int .i64 0, .int .i64 0, .int .i64 0, .int .i64 0] ?_); intro b1 W1 N1; have ob1 := N1.o B; have o0_b1 := N1.u X0; replace X0 := N1.r X0; replace c0 := X0.cell; replace B := N1.n B; obtain ⟨X1, c1, f1⟩ := N1.a; clear N1) | ((with_reducible refine box_newX 99 [.int .i64 2, .int .i64 fr, .int .i64 to, .int .i64 view, .int .i64 at_, .bool false, .int .i64 x0, .int .i64 x1, .int .i64 x2, .int .i64 x3, .int .i64 x4, .int .i64 x5, .int .i64 last, .slice hm.1 hm.2.1 hm.2.2, .int .i64 commit] rfl ?_); intro b0 W0 N0; have ob0 := N0.ge; have B := N0.below; obtain ⟨X0, c0⟩ := N0.c; clear N0))
   go_ret
   exact ⟨rfl, B⟩
  have q4' : (last == 0) = true := by simp [q4]
  have Q4 : Hid _ := q4
  clear q4
  by_cases q2 : hm.2.1 = 0
  rotate_left 1
  ·have q2' : ((hm.2.1 : Int) == 0) = false := by simp [q2]
   have e : d = true := HT.out (Or.inr (Or.inr (Or.inl ⟨by first | trivial | rfl, q2⟩)))
   subst e
   clear HT HF
   go_enter Try.func97, Try.ntmps97
   go_wp2_with (first | ((with_reducible refine sm 97 X1 0 [.int .i64 0, .int .i64 0, .int .i64 0, .int .i64 0, .int .i64 0, .int .i64 0] ?_); intro V1 S; replace X0 := X0.kp S.kept; replace c0 := X0.cell; replace X1 : Bx V1 b1 [.int .i64 0, .int .i64 0, .int .i64 0, .int .i64 0, .int .i64 0, .int .i64 0] := S.bx; replace c1 := X1.cell; replace f1 := X1.froz; replace B := bkp B S.kept; clear S) | ((have g := ob0); clear g; (with_reducible refine al 97 [.int .i64 0, .int .i64 0, .int .i64 0, .int .i64 0, .int .i64 0, .int .i64 0] ?_); intro b1 W1 N1; have ob1 := N1.o B; have o0_b1 := N1.u X0; replace X0 := N1.r X0; replace c0 := X0.cell; replace B := N1.n B; obtain ⟨X1, c1, f1⟩ := N1.a; clear N1) | ((with_reducible refine box_newX 99 [.int .i64 2, .int .i64 fr, .int .i64 to, .int .i64 view, .int .i64 at_, .bool false, .int .i64 x0, .int .i64 x1, .int .i64 x2, .int .i64 x3, .int .i64 x4, .int .i64 x5, .int .i64 last, .slice hm.1 hm.2.1 hm.2.2, .int .i64 commit] rfl ?_); intro b0 W0 N0; have ob0 := N0.ge; have B := N0.below; obtain ⟨X0, c0⟩ := N0.c; clear N0))
   go_ret
   exact ⟨rfl, B⟩
  have q2' : ((hm.2.1 : Int) == 0) = true := by simp [q2]
  have Q2 : Hid _ := q2
  clear q2
  by_cases q5 : commit = 0
  rotate_left 1
  ·have q5' : (commit == 0) = false := by simp [q5]
   have e : d = true := HT.out (Or.inr (Or.inr (Or.inr (Or.inr (Or.inr ⟨by first | trivial | rfl, q5⟩)))))
   subst e
   clear HT HF
   go_enter Try.func97, Try.ntmps97
   go_wp2_with (first | ((with_reducible refine sm 97 X1 0 [.int .i64 0, .int .i64 0, .int .i64 0, .int .i64 0, .int .i64 0, .int .i64 0] ?_); intro V1 S; replace X0 := X0.kp S.kept; replace c0 := X0.cell; replace X1 : Bx V1 b1 [.int .i64 0, .int .i64 0, .int .i64 0, .int .i64 0, .int .i64 0, .int .i64 0] := S.bx; replace c1 := X1.cell; replace f1 := X1.froz; replace B := bkp B S.kept; clear S) | ((have g := ob0); clear g; (with_reducible refine al 97 [.int .i64 0, .int .i64 0, .int .i64 0, .int .i64 0, .int .i64 0, .int .i64 0] ?_); intro b1 W1 N1; have ob1 := N1.o B; have o0_b1 := N1.u X0; replace X0 := N1.r X0; replace c0 := X0.cell; replace B := N1.n B; obtain ⟨X1, c1, f1⟩ := N1.a; clear N1) | ((with_reducible refine box_newX 99 [.int .i64 2, .int .i64 fr, .int .i64 to, .int .i64 view, .int .i64 at_, .bool false, .int .i64 x0, .int .i64 x1, .int .i64 x2, .int .i64 x3, .int .i64 x4, .int .i64 x5, .int .i64 last, .slice hm.1 hm.2.1 hm.2.2, .int .i64 commit] rfl ?_); intro b0 W0 N0; have ob0 := N0.ge; have B := N0.below; obtain ⟨X0, c0⟩ := N0.c; clear N0))
   go_ret
   exact ⟨rfl, B⟩
  have q5' : (commit == 0) = true := by simp [q5]
  have Q5 : Hid _ := q5
  clear q5
  have e : d = false := HF.out (fun z => z.elim (fun y => absurd y.2 (by simp)) (fun z => z.elim (fun y => y.2 Q1.out) (fun z => z.elim (fun y => y.2 Q2.out) (fun z => z.elim (fun y => absurd y.1 (by simp)) (fun z => z.elim (fun y => y.2 Q4.out) (fun y => y.2 Q5.out))))))
  subst e
  clear HT HF
  go_enter Try.func97, Try.ntmps97
  go_wp2_with (first | ((with_reducible refine sm 97 X1 0 [.int .i64 0, .int .i64 0, .int .i64 0, .int .i64 0, .int .i64 0, .int .i64 0] ?_); intro V1 S; replace X0 := X0.kp S.kept; replace c0 := X0.cell; replace X1 : Bx V1 b1 [.int .i64 0, .int .i64 0, .int .i64 0, .int .i64 0, .int .i64 0, .int .i64 0] := S.bx; replace c1 := X1.cell; replace f1 := X1.froz; replace B := bkp B S.kept; clear S) | ((have g := ob0); clear g; (with_reducible refine al 97 [.int .i64 0, .int .i64 0, .int .i64 0, .int .i64 0, .int .i64 0, .int .i64 0] ?_); intro b1 W1 N1; have ob1 := N1.o B; have o0_b1 := N1.u X0; replace X0 := N1.r X0; replace c0 := X0.cell; replace B := N1.n B; obtain ⟨X1, c1, f1⟩ := N1.a; clear N1) | ((with_reducible refine box_newX 99 [.int .i64 2, .int .i64 fr, .int .i64 to, .int .i64 view, .int .i64 at_, .bool false, .int .i64 x0, .int .i64 x1, .int .i64 x2, .int .i64 x3, .int .i64 x4, .int .i64 x5, .int .i64 last, .slice hm.1 hm.2.1 hm.2.2, .int .i64 commit] rfl ?_); intro b0 W0 N0; have ob0 := N0.ge; have B := N0.below; obtain ⟨X0, c0⟩ := N0.c; clear N0))
  go_ret
  exact ⟨rfl, B⟩
 ·have e : d = true := HT.out (Or.inl ⟨by first | trivial | rfl, by first | trivial | rfl⟩)
  subst e
  clear HT HF
  go_enter Try.func97, Try.ntmps97
  go_wp2_with (first | ((with_reducible refine sm 97 X1 0 [.int .i64 0, .int .i64 0, .int .i64 0, .int .i64 0, .int .i64 0, .int .i64 0] ?_); intro V1 S; replace X0 := X0.kp S.kept; replace c0 := X0.cell; replace X1 : Bx V1 b1 [.int .i64 0, .int .i64 0, .int .i64 0, .int .i64 0, .int .i64 0, .int .i64 0] := S.bx; replace c1 := X1.cell; replace f1 := X1.froz; replace B := bkp B S.kept; clear S) | ((have g := ob0); clear g; (with_reducible refine al 97 [.int .i64 0, .int .i64 0, .int .i64 0, .int .i64 0, .int .i64 0, .int .i64 0] ?_); intro b1 W1 N1; have ob1 := N1.o B; have o0_b1 := N1.u X0; replace X0 := N1.r X0; replace c0 := X0.cell; replace B := N1.n B; obtain ⟨X1, c1, f1⟩ := N1.a; clear N1) | ((with_reducible refine box_newX 99 [.int .i64 2, .int .i64 fr, .int .i64 to, .int .i64 view, .int .i64 at_, .bool true, .int .i64 x0, .int .i64 x1, .int .i64 x2, .int .i64 x3, .int .i64 x4, .int .i64 x5, .int .i64 last, .slice hm.1 hm.2.1 hm.2.2, .int .i64 commit] rfl ?_); intro b0 W0 N0; have ob0 := N0.ge; have B := N0.below; obtain ⟨X0, c0⟩ := N0.c; clear N0))
  go_ret
  exact ⟨rfl, B⟩
theorem l9Bare3_is (fr to view at_ : Int) (has : Bool) (en : En) (last : Int) (log : List En) (commit : Int) (hm : Hd) (hL : log.length = hm.2.1) (w : World) (d : Bool) (hd : decide (excF false false false false false ⟨3, fr, to, view, at_, has, en, last, log, commit⟩) = d) : Calls Try.prog 97 #[.agg #[.int .i64 3, .int .i64 fr, .int .i64 to, .int .i64 view, .int .i64 at_, .bool has, .int .i64 en.1, .int .i64 en.2.1, .int .i64 en.2.2.1, .int .i64 en.2.2.2.1, .int .i64 en.2.2.2.2.1, .int .i64 en.2.2.2.2.2, .int .i64 last, .slice hm.1 hm.2.1 hm.2.2, .int .i64 commit]] w fun e w' => e = .returned (.bool (!d)) ∧ Below w.heap.size w w' := by
 have HT : Hid (excF false false false false false ⟨3, fr, to, view, at_, has, en, last, log, commit⟩ → d = true) := fun y => by rw [← hd]; exact decide_eq_true y
 have HF : Hid (¬ excF false false false false false ⟨3, fr, to, view, at_, has, en, last, log, commit⟩ → d = false) := fun y => by rw [← hd]; exact decide_eq_false y
 clear hd
 unfold excF at HT HF
 simp only [hL] at HT HF
 clear hL
 have RG := run_guEn
 obtain ⟨x0, x1, x2, x3, x4, x5⟩ := en
 cases has
 ·by_cases q3 : at_ = 0
  rotate_left 1
  ·have q3' : (at_ != 0) = true := by simp [q3]
   have e : d = true := HT.out (Or.inr (Or.inr (Or.inr (Or.inl ⟨by first | trivial | rfl, q3⟩))))
   subst e
   clear HT HF
   go_enter Try.func97, Try.ntmps97
   go_wp2_with (first | ((with_reducible refine sm 97 X1 0 [.int .i64 0, .int .i64 0, .int .i64 0, .int .i64 0, .int .i64 0, .int .i64 0] ?_); intro V1 S; replace X0 := X0.kp S.kept; replace c0 := X0.cell; replace X1 : Bx V1 b1 [.int .i64 0, .int .i64 0, .int .i64 0, .int .i64 0, .int .i64 0, .int .i64 0] := S.bx; replace c1 := X1.cell; replace f1 := X1.froz; replace B := bkp B S.kept; clear S) | ((have g := ob0); clear g; (with_reducible refine al 97 [.int .i64 0, .int .i64 0, .int .i64 0, .int .i64 0, .int .i64 0, .int .i64 0] ?_); intro b1 W1 N1; have ob1 := N1.o B; have o0_b1 := N1.u X0; replace X0 := N1.r X0; replace c0 := X0.cell; replace B := N1.n B; obtain ⟨X1, c1, f1⟩ := N1.a; clear N1) | ((with_reducible refine box_newX 99 [.int .i64 3, .int .i64 fr, .int .i64 to, .int .i64 view, .int .i64 at_, .bool false, .int .i64 x0, .int .i64 x1, .int .i64 x2, .int .i64 x3, .int .i64 x4, .int .i64 x5, .int .i64 last, .slice hm.1 hm.2.1 hm.2.2, .int .i64 commit] rfl ?_); intro b0 W0 N0; have ob0 := N0.ge; have B := N0.below; obtain ⟨X0, c0⟩ := N0.c; clear N0))
   go_ret
   exact ⟨rfl, B⟩
  have q3' : (at_ != 0) = false := by simp [q3]
  have Q3 : Hid _ := q3
  clear q3
  by_cases q1 : ((x0, x1, x2, x3, x4, x5) : En) = en0
  rotate_left 1
  ·have RE := run_neEn x0 x1 x2 x3 x4 x5 0 0 0 0 0 0 false (by simp only [decide_eq_false_eq]; exact q1)
   have e : d = true := HT.out (Or.inr (Or.inl ⟨by first | trivial | rfl, q1⟩))
   subst e
   clear HT HF
   go_enter Try.func97, Try.ntmps97
   go_wp2_with (first | ((with_reducible refine sm 97 X1 0 [.int .i64 0, .int .i64 0, .int .i64 0, .int .i64 0, .int .i64 0, .int .i64 0] ?_); intro V1 S; replace X0 := X0.kp S.kept; replace c0 := X0.cell; replace X1 : Bx V1 b1 [.int .i64 0, .int .i64 0, .int .i64 0, .int .i64 0, .int .i64 0, .int .i64 0] := S.bx; replace c1 := X1.cell; replace f1 := X1.froz; replace B := bkp B S.kept; clear S) | ((have g := ob0); clear g; (with_reducible refine al 97 [.int .i64 0, .int .i64 0, .int .i64 0, .int .i64 0, .int .i64 0, .int .i64 0] ?_); intro b1 W1 N1; have ob1 := N1.o B; have o0_b1 := N1.u X0; replace X0 := N1.r X0; replace c0 := X0.cell; replace B := N1.n B; obtain ⟨X1, c1, f1⟩ := N1.a; clear N1) | ((with_reducible refine box_newX 99 [.int .i64 3, .int .i64 fr, .int .i64 to, .int .i64 view, .int .i64 at_, .bool false, .int .i64 x0, .int .i64 x1, .int .i64 x2, .int .i64 x3, .int .i64 x4, .int .i64 x5, .int .i64 last, .slice hm.1 hm.2.1 hm.2.2, .int .i64 commit] rfl ?_); intro b0 W0 N0; have ob0 := N0.ge; have B := N0.below; obtain ⟨X0, c0⟩ := N0.c; clear N0))
   go_ret
   exact ⟨rfl, B⟩
  have RE := run_neEn x0 x1 x2 x3 x4 x5 0 0 0 0 0 0 true (by simp only [decide_eq_true_eq]; exact q1)
  have Q1 : Hid _ := q1
  clear q1
  by_cases q4 : last = 0
  rotate_left 1
  ·have q4' : (last == 0) = false := by simp [q4]
   have e : d = true := HT.out (Or.inr (Or.inr (Or.inr (Or.inr (Or.inl ⟨by first | trivial | rfl, q4⟩)))))
   subst e
   clear HT HF
   go_enter Try.func97, Try.ntmps97
   go_wp2_with (first | ((with_reducible refine sm 97 X1 0 [.int .i64 0, .int .i64 0, .int .i64 0, .int .i64 0, .int .i64 0, .int .i64 0] ?_); intro V1 S; replace X0 := X0.kp S.kept; replace c0 := X0.cell; replace X1 : Bx V1 b1 [.int .i64 0, .int .i64 0, .int .i64 0, .int .i64 0, .int .i64 0, .int .i64 0] := S.bx; replace c1 := X1.cell; replace f1 := X1.froz; replace B := bkp B S.kept; clear S) | ((have g := ob0); clear g; (with_reducible refine al 97 [.int .i64 0, .int .i64 0, .int .i64 0, .int .i64 0, .int .i64 0, .int .i64 0] ?_); intro b1 W1 N1; have ob1 := N1.o B; have o0_b1 := N1.u X0; replace X0 := N1.r X0; replace c0 := X0.cell; replace B := N1.n B; obtain ⟨X1, c1, f1⟩ := N1.a; clear N1) | ((with_reducible refine box_newX 99 [.int .i64 3, .int .i64 fr, .int .i64 to, .int .i64 view, .int .i64 at_, .bool false, .int .i64 x0, .int .i64 x1, .int .i64 x2, .int .i64 x3, .int .i64 x4, .int .i64 x5, .int .i64 last, .slice hm.1 hm.2.1 hm.2.2, .int .i64 commit] rfl ?_); intro b0 W0 N0; have ob0 := N0.ge; have B := N0.below; obtain ⟨X0, c0⟩ := N0.c; clear N0))
   go_ret
   exact ⟨rfl, B⟩
  have q4' : (last == 0) = true := by simp [q4]
  have Q4 : Hid _ := q4
  clear q4
  by_cases q2 : hm.2.1 = 0
  rotate_left 1
  ·have q2' : ((hm.2.1 : Int) == 0) = false := by simp [q2]
   have e : d = true := HT.out (Or.inr (Or.inr (Or.inl ⟨by first | trivial | rfl, q2⟩)))
   subst e
   clear HT HF
   go_enter Try.func97, Try.ntmps97
   go_wp2_with (first | ((with_reducible refine sm 97 X1 0 [.int .i64 0, .int .i64 0, .int .i64 0, .int .i64 0, .int .i64 0, .int .i64 0] ?_); intro V1 S; replace X0 := X0.kp S.kept; replace c0 := X0.cell; replace X1 : Bx V1 b1 [.int .i64 0, .int .i64 0, .int .i64 0, .int .i64 0, .int .i64 0, .int .i64 0] := S.bx; replace c1 := X1.cell; replace f1 := X1.froz; replace B := bkp B S.kept; clear S) | ((have g := ob0); clear g; (with_reducible refine al 97 [.int .i64 0, .int .i64 0, .int .i64 0, .int .i64 0, .int .i64 0, .int .i64 0] ?_); intro b1 W1 N1; have ob1 := N1.o B; have o0_b1 := N1.u X0; replace X0 := N1.r X0; replace c0 := X0.cell; replace B := N1.n B; obtain ⟨X1, c1, f1⟩ := N1.a; clear N1) | ((with_reducible refine box_newX 99 [.int .i64 3, .int .i64 fr, .int .i64 to, .int .i64 view, .int .i64 at_, .bool false, .int .i64 x0, .int .i64 x1, .int .i64 x2, .int .i64 x3, .int .i64 x4, .int .i64 x5, .int .i64 last, .slice hm.1 hm.2.1 hm.2.2, .int .i64 commit] rfl ?_); intro b0 W0 N0; have ob0 := N0.ge; have B := N0.below; obtain ⟨X0, c0⟩ := N0.c; clear N0))
   go_ret
   exact ⟨rfl, B⟩
  have q2' : ((hm.2.1 : Int) == 0) = true := by simp [q2]
  have Q2 : Hid _ := q2
  clear q2
  by_cases q5 : commit = 0
  rotate_left 1
  ·have q5' : (commit == 0) = false := by simp [q5]
   have e : d = true := HT.out (Or.inr (Or.inr (Or.inr (Or.inr (Or.inr ⟨by first | trivial | rfl, q5⟩)))))
   subst e
   clear HT HF
   go_enter Try.func97, Try.ntmps97
   go_wp2_with (first | ((with_reducible refine sm 97 X1 0 [.int .i64 0, .int .i64 0, .int .i64 0, .int .i64 0, .int .i64 0, .int .i64 0] ?_); intro V1 S; replace X0 := X0.kp S.kept; replace c0 := X0.cell; replace X1 : Bx V1 b1 [.int .i64 0, .int .i64 0, .int .i64 0, .int .i64 0, .int .i64 0, .int .i64 0] := S.bx; replace c1 := X1.cell; replace f1 := X1.froz; replace B := bkp B S.kept; clear S) | ((have g := ob0); clear g; (with_reducible refine al 97 [.int .i64 0, .int .i64 0, .int .i64 0, .int .i64 0, .int .i64 0, .int .i64 0] ?_); intro b1 W1 N1; have ob1 := N1.o B; have o0_b1 := N1.u X0; replace X0 := N1.r X0; replace c0 := X0.cell; replace B := N1.n B; obtain ⟨X1, c1, f1⟩ := N1.a; clear N1) | ((with_reducible refine box_newX 99 [.int .i64 3, .int .i64 fr, .int .i64 to, .int .i64 view, .int .i64 at_, .bool false, .int .i64 x0, .int .i64 x1, .int .i64 x2, .int .i64 x3, .int .i64 x4, .int .i64 x5, .int .i64 last, .slice hm.1 hm.2.1 hm.2.2, .int .i64 commit] rfl ?_); intro b0 W0 N0; have ob0 := N0.ge; have B := N0.below; obtain ⟨X0, c0⟩ := N0.c; clear N0))
   go_ret
   exact ⟨rfl, B⟩
  have q5' : (commit == 0) = true := by simp [q5]
  have Q5 : Hid _ := q5
  clear q5
  have e : d = false := HF.out (fun z => z.elim (fun y => absurd y.2 (by simp)) (fun z => z.elim (fun y => y.2 Q1.out) (fun z => z.elim (fun y => y.2 Q2.out) (fun z => z.elim (fun y => y.2 Q3.out) (fun z => z.elim (fun y => y.2 Q4.out) (fun y => y.2 Q5.out))))))
  subst e
  clear HT HF
  go_enter Try.func97, Try.ntmps97
  go_wp2_with (first | ((with_reducible refine sm 97 X1 0 [.int .i64 0, .int .i64 0, .int .i64 0, .int .i64 0, .int .i64 0, .int .i64 0] ?_); intro V1 S; replace X0 := X0.kp S.kept; replace c0 := X0.cell; replace X1 : Bx V1 b1 [.int .i64 0, .int .i64 0, .int .i64 0, .int .i64 0, .int .i64 0, .int .i64 0] := S.bx; replace c1 := X1.cell; replace f1 := X1.froz; replace B := bkp B S.kept; clear S) | ((have g := ob0); clear g; (with_reducible refine al 97 [.int .i64 0, .int .i64 0, .int .i64 0, .int .i64 0, .int .i64 0, .int .i64 0] ?_); intro b1 W1 N1; have ob1 := N1.o B; have o0_b1 := N1.u X0; replace X0 := N1.r X0; replace c0 := X0.cell; replace B := N1.n B; obtain ⟨X1, c1, f1⟩ := N1.a; clear N1) | ((with_reducible refine box_newX 99 [.int .i64 3, .int .i64 fr, .int .i64 to, .int .i64 view, .int .i64 at_, .bool false, .int .i64 x0, .int .i64 x1, .int .i64 x2, .int .i64 x3, .int .i64 x4, .int .i64 x5, .int .i64 last, .slice hm.1 hm.2.1 hm.2.2, .int .i64 commit] rfl ?_); intro b0 W0 N0; have ob0 := N0.ge; have B := N0.below; obtain ⟨X0, c0⟩ := N0.c; clear N0))
  go_ret
  exact ⟨rfl, B⟩
 ·by_cases q3 : at_ = 0
  rotate_left 1
  ·have q3' : (at_ != 0) = true := by simp [q3]
   have e : d = true := HT.out (Or.inr (Or.inr (Or.inr (Or.inl ⟨by first | trivial | rfl, q3⟩))))
   subst e
   clear HT HF
   go_enter Try.func97, Try.ntmps97
   go_wp2_with (first | ((with_reducible refine sm 97 X1 0 [.int .i64 0, .int .i64 0, .int .i64 0, .int .i64 0, .int .i64 0, .int .i64 0] ?_); intro V1 S; replace X0 := X0.kp S.kept; replace c0 := X0.cell; replace X1 : Bx V1 b1 [.int .i64 0, .int .i64 0, .int .i64 0, .int .i64 0, .int .i64 0, .int .i64 0] := S.bx; replace c1 := X1.cell; replace f1 := X1.froz; replace B := bkp B S.kept; clear S) | ((have g := ob0); clear g; (with_reducible refine al 97 [.int .i64 0, .int .i64 0, .int .i64 0, .int .i64 0, .int .i64 0, .int .i64 0] ?_); intro b1 W1 N1; have ob1 := N1.o B; have o0_b1 := N1.u X0; replace X0 := N1.r X0; replace c0 := X0.cell; replace B := N1.n B; obtain ⟨X1, c1, f1⟩ := N1.a; clear N1) | ((with_reducible refine box_newX 99 [.int .i64 3, .int .i64 fr, .int .i64 to, .int .i64 view, .int .i64 at_, .bool true, .int .i64 x0, .int .i64 x1, .int .i64 x2, .int .i64 x3, .int .i64 x4, .int .i64 x5, .int .i64 last, .slice hm.1 hm.2.1 hm.2.2, .int .i64 commit] rfl ?_); intro b0 W0 N0; have ob0 := N0.ge; have B := N0.below; obtain ⟨X0, c0⟩ := N0.c; clear N0))
   go_ret
   exact ⟨rfl, B⟩
  have q3' : (at_ != 0) = false := by simp [q3]
  have Q3 : Hid _ := q3
  clear q3
  have e : d = true := HT.out (Or.inl ⟨by first | trivial | rfl, by first | trivial | rfl⟩)
  subst e
  clear HT HF
  go_enter Try.func97, Try.ntmps97
  go_wp2_with (first | ((with_reducible refine sm 97 X1 0 [.int .i64 0, .int .i64 0, .int .i64 0, .int .i64 0, .int .i64 0, .int .i64 0] ?_); intro V1 S; replace X0 := X0.kp S.kept; replace c0 := X0.cell; replace X1 : Bx V1 b1 [.int .i64 0, .int .i64 0, .int .i64 0, .int .i64 0, .int .i64 0, .int .i64 0] := S.bx; replace c1 := X1.cell; replace f1 := X1.froz; replace B := bkp B S.kept; clear S) | ((have g := ob0); clear g; (with_reducible refine al 97 [.int .i64 0, .int .i64 0, .int .i64 0, .int .i64 0, .int .i64 0, .int .i64 0] ?_); intro b1 W1 N1; have ob1 := N1.o B; have o0_b1 := N1.u X0; replace X0 := N1.r X0; replace c0 := X0.cell; replace B := N1.n B; obtain ⟨X1, c1, f1⟩ := N1.a; clear N1) | ((with_reducible refine box_newX 99 [.int .i64 3, .int .i64 fr, .int .i64 to, .int .i64 view, .int .i64 at_, .bool true, .int .i64 x0, .int .i64 x1, .int .i64 x2, .int .i64 x3, .int .i64 x4, .int .i64 x5, .int .i64 last, .slice hm.1 hm.2.1 hm.2.2, .int .i64 commit] rfl ?_); intro b0 W0 N0; have ob0 := N0.ge; have B := N0.below; obtain ⟨X0, c0⟩ := N0.c; clear N0))
  go_ret
  exact ⟨rfl, B⟩
theorem l9Bare4_is (fr to view at_ : Int) (has : Bool) (en : En) (last : Int) (log : List En) (commit : Int) (hm : Hd) (hL : log.length = hm.2.1) (w : World) (d : Bool) (hd : decide (excF false false true true true ⟨4, fr, to, view, at_, has, en, last, log, commit⟩) = d) : Calls Try.prog 97 #[.agg #[.int .i64 4, .int .i64 fr, .int .i64 to, .int .i64 view, .int .i64 at_, .bool has, .int .i64 en.1, .int .i64 en.2.1, .int .i64 en.2.2.1, .int .i64 en.2.2.2.1, .int .i64 en.2.2.2.2.1, .int .i64 en.2.2.2.2.2, .int .i64 last, .slice hm.1 hm.2.1 hm.2.2, .int .i64 commit]] w fun e w' => e = .returned (.bool (!d)) ∧ Below w.heap.size w w' := by
 have HT : Hid (excF false false true true true ⟨4, fr, to, view, at_, has, en, last, log, commit⟩ → d = true) := fun y => by rw [← hd]; exact decide_eq_true y
 have HF : Hid (¬ excF false false true true true ⟨4, fr, to, view, at_, has, en, last, log, commit⟩ → d = false) := fun y => by rw [← hd]; exact decide_eq_false y
 clear hd
 unfold excF at HT HF
 simp only [hL] at HT HF
 clear hL
 have RG := run_guEn
 obtain ⟨x0, x1, x2, x3, x4, x5⟩ := en
 cases has
 ·by_cases q3 : at_ = 0
  rotate_left 1
  ·have q3' : (at_ != 0) = true := by simp [q3]
   have e : d = true := HT.out (Or.inr (Or.inr (Or.inr (Or.inl ⟨by first | trivial | rfl, q3⟩))))
   subst e
   clear HT HF
   go_enter Try.func97, Try.ntmps97
   go_wp2_with (first | ((with_reducible refine sm 97 X1 0 [.int .i64 0, .int .i64 0, .int .i64 0, .int .i64 0, .int .i64 0, .int .i64 0] ?_); intro V1 S; replace X0 := X0.kp S.kept; replace c0 := X0.cell; replace X1 : Bx V1 b1 [.int .i64 0, .int .i64 0, .int .i64 0, .int .i64 0, .int .i64 0, .int .i64 0] := S.bx; replace c1 := X1.cell; replace f1 := X1.froz; replace B := bkp B S.kept; clear S) | ((have g := ob0); clear g; (with_reducible refine al 97 [.int .i64 0, .int .i64 0, .int .i64 0, .int .i64 0, .int .i64 0, .int .i64 0] ?_); intro b1 W1 N1; have ob1 := N1.o B; have o0_b1 := N1.u X0; replace X0 := N1.r X0; replace c0 := X0.cell; replace B := N1.n B; obtain ⟨X1, c1, f1⟩ := N1.a; clear N1) | ((with_reducible refine box_newX 99 [.int .i64 4, .int .i64 fr, .int .i64 to, .int .i64 view, .int .i64 at_, .bool false, .int .i64 x0, .int .i64 x1, .int .i64 x2, .int .i64 x3, .int .i64 x4, .int .i64 x5, .int .i64 last, .slice hm.1 hm.2.1 hm.2.2, .int .i64 commit] rfl ?_); intro b0 W0 N0; have ob0 := N0.ge; have B := N0.below; obtain ⟨X0, c0⟩ := N0.c; clear N0))
   go_ret
   exact ⟨rfl, B⟩
  have q3' : (at_ != 0) = false := by simp [q3]
  have Q3 : Hid _ := q3
  clear q3
  by_cases q1 : ((x0, x1, x2, x3, x4, x5) : En) = en0
  rotate_left 1
  ·have RE := run_neEn x0 x1 x2 x3 x4 x5 0 0 0 0 0 0 false (by simp only [decide_eq_false_eq]; exact q1)
   have e : d = true := HT.out (Or.inr (Or.inl ⟨by first | trivial | rfl, q1⟩))
   subst e
   clear HT HF
   go_enter Try.func97, Try.ntmps97
   go_wp2_with (first | ((with_reducible refine sm 97 X1 0 [.int .i64 0, .int .i64 0, .int .i64 0, .int .i64 0, .int .i64 0, .int .i64 0] ?_); intro V1 S; replace X0 := X0.kp S.kept; replace c0 := X0.cell; replace X1 : Bx V1 b1 [.int .i64 0, .int .i64 0, .int .i64 0, .int .i64 0, .int .i64 0, .int .i64 0] := S.bx; replace c1 := X1.cell; replace f1 := X1.froz; replace B := bkp B S.kept; clear S) | ((have g := ob0); clear g; (with_reducible refine al 97 [.int .i64 0, .int .i64 0, .int .i64 0, .int .i64 0, .int .i64 0, .int .i64 0] ?_); intro b1 W1 N1; have ob1 := N1.o B; have o0_b1 := N1.u X0; replace X0 := N1.r X0; replace c0 := X0.cell; replace B := N1.n B; obtain ⟨X1, c1, f1⟩ := N1.a; clear N1) | ((with_reducible refine box_newX 99 [.int .i64 4, .int .i64 fr, .int .i64 to, .int .i64 view, .int .i64 at_, .bool false, .int .i64 x0, .int .i64 x1, .int .i64 x2, .int .i64 x3, .int .i64 x4, .int .i64 x5, .int .i64 last, .slice hm.1 hm.2.1 hm.2.2, .int .i64 commit] rfl ?_); intro b0 W0 N0; have ob0 := N0.ge; have B := N0.below; obtain ⟨X0, c0⟩ := N0.c; clear N0))
   go_ret
   exact ⟨rfl, B⟩
  have RE := run_neEn x0 x1 x2 x3 x4 x5 0 0 0 0 0 0 true (by simp only [decide_eq_true_eq]; exact q1)
  have Q1 : Hid _ := q1
  clear q1
  have e : d = false := HF.out (fun z => z.elim (fun y => absurd y.2 (by simp)) (fun z => z.elim (fun y => y.2 Q1.out) (fun z => z.elim (fun y => absurd y.1 (by simp)) (fun z => z.elim (fun y => y.2 Q3.out) (fun z => z.elim (fun y => absurd y.1 (by simp)) (fun y => absurd y.1 (by simp)))))))
  subst e
  clear HT HF
  go_enter Try.func97, Try.ntmps97
  go_wp2_with (first | ((with_reducible refine sm 97 X1 0 [.int .i64 0, .int .i64 0, .int .i64 0, .int .i64 0, .int .i64 0, .int .i64 0] ?_); intro V1 S; replace X0 := X0.kp S.kept; replace c0 := X0.cell; replace X1 : Bx V1 b1 [.int .i64 0, .int .i64 0, .int .i64 0, .int .i64 0, .int .i64 0, .int .i64 0] := S.bx; replace c1 := X1.cell; replace f1 := X1.froz; replace B := bkp B S.kept; clear S) | ((have g := ob0); clear g; (with_reducible refine al 97 [.int .i64 0, .int .i64 0, .int .i64 0, .int .i64 0, .int .i64 0, .int .i64 0] ?_); intro b1 W1 N1; have ob1 := N1.o B; have o0_b1 := N1.u X0; replace X0 := N1.r X0; replace c0 := X0.cell; replace B := N1.n B; obtain ⟨X1, c1, f1⟩ := N1.a; clear N1) | ((with_reducible refine box_newX 99 [.int .i64 4, .int .i64 fr, .int .i64 to, .int .i64 view, .int .i64 at_, .bool false, .int .i64 x0, .int .i64 x1, .int .i64 x2, .int .i64 x3, .int .i64 x4, .int .i64 x5, .int .i64 last, .slice hm.1 hm.2.1 hm.2.2, .int .i64 commit] rfl ?_); intro b0 W0 N0; have ob0 := N0.ge; have B := N0.below; obtain ⟨X0, c0⟩ := N0.c; clear N0))
  go_ret
  exact ⟨rfl, B⟩
 ·by_cases q3 : at_ = 0
  rotate_left 1
  ·have q3' : (at_ != 0) = true := by simp [q3]
   have e : d = true := HT.out (Or.inr (Or.inr (Or.inr (Or.inl ⟨by first | trivial | rfl, q3⟩))))
   subst e
   clear HT HF
   go_enter Try.func97, Try.ntmps97
   go_wp2_with (first | ((with_reducible refine sm 97 X1 0 [.int .i64 0, .int .i64 0, .int .i64 0, .int .i64 0, .int .i64 0, .int .i64 0] ?_); intro V1 S; replace X0 := X0.kp S.kept; replace c0 := X0.cell; replace X1 : Bx V1 b1 [.int .i64 0, .int .i64 0, .int .i64 0, .int .i64 0, .int .i64 0, .int .i64 0] := S.bx; replace c1 := X1.cell; replace f1 := X1.froz; replace B := bkp B S.kept; clear S) | ((have g := ob0); clear g; (with_reducible refine al 97 [.int .i64 0, .int .i64 0, .int .i64 0, .int .i64 0, .int .i64 0, .int .i64 0] ?_); intro b1 W1 N1; have ob1 := N1.o B; have o0_b1 := N1.u X0; replace X0 := N1.r X0; replace c0 := X0.cell; replace B := N1.n B; obtain ⟨X1, c1, f1⟩ := N1.a; clear N1) | ((with_reducible refine box_newX 99 [.int .i64 4, .int .i64 fr, .int .i64 to, .int .i64 view, .int .i64 at_, .bool true, .int .i64 x0, .int .i64 x1, .int .i64 x2, .int .i64 x3, .int .i64 x4, .int .i64 x5, .int .i64 last, .slice hm.1 hm.2.1 hm.2.2, .int .i64 commit] rfl ?_); intro b0 W0 N0; have ob0 := N0.ge; have B := N0.below; obtain ⟨X0, c0⟩ := N0.c; clear N0))
   go_ret
   exact ⟨rfl, B⟩
  have q3' : (at_ != 0) = false := by simp [q3]
  have Q3 : Hid _ := q3
  clear q3
  have e : d = true := HT.out (Or.inl ⟨by first | trivial | rfl, by first | trivial | rfl⟩)
  subst e
  clear HT HF
  go_enter Try.func97, Try.ntmps97
  go_wp2_with (first | ((with_reducible refine sm 97 X1 0 [.int .i64 0, .int .i64 0, .int .i64 0, .int .i64 0, .int .i64 0, .int .i64 0] ?_); intro V1 S; replace X0 := X0.kp S.kept; replace c0 := X0.cell; replace X1 : Bx V1 b1 [.int .i64 0, .int .i64 0, .int .i64 0, .int .i64 0, .int .i64 0, .int .i64 0] := S.bx; replace c1 := X1.cell; replace f1 := X1.froz; replace B := bkp B S.kept; clear S) | ((have g := ob0); clear g; (with_reducible refine al 97 [.int .i64 0, .int .i64 0, .int .i64 0, .int .i64 0, .int .i64 0, .int .i64 0] ?_); intro b1 W1 N1; have ob1 := N1.o B; have o0_b1 := N1.u X0; replace X0 := N1.r X0; replace c0 := X0.cell; replace B := N1.n B; obtain ⟨X1, c1, f1⟩ := N1.a; clear N1) | ((with_reducible refine box_newX 99 [.int .i64 4, .int .i64 fr, .int .i64 to, .int .i64 view, .int .i64 at_, .bool true, .int .i64 x0, .int .i64 x1, .int .i64 x2, .int .i64 x3, .int .i64 x4, .int .i64 x5, .int .i64 last, .slice hm.1 hm.2.1 hm.2.2, .int .i64 commit] rfl ?_); intro b0 W0 N0; have ob0 := N0.ge; have B := N0.below; obtain ⟨X0, c0⟩ := N0.c; clear N0))
  go_ret
  exact ⟨rfl, B⟩
theorem l9Bare5_is (fr to view at_ : Int) (has : Bool) (en : En) (last : Int) (log : List En) (commit : Int) (hm : Hd) (hL : log.length = hm.2.1) (w : World) (d : Bool) (hd : decide (excF false false false true true ⟨5, fr, to, view, at_, has, en, last, log, commit⟩) = d) : Calls Try.prog 97 #[.agg #[.int .i64 5, .int .i64 fr, .int .i64 to, .int .i64 view, .int .i64 at_, .bool has, .int .i64 en.1, .int .i64 en.2.1, .int .i64 en.2.2.1, .int .i64 en.2.2.2.1, .int .i64 en.2.2.2.2.1, .int .i64 en.2.2.2.2.2, .int .i64 last, .slice hm.1 hm.2.1 hm.2.2, .int .i64 commit]] w fun e w' => e = .returned (.bool (!d)) ∧ Below w.heap.size w w' := by
 have HT : Hid (excF false false false true true ⟨5, fr, to, view, at_, has, en, last, log, commit⟩ → d = true) := fun y => by rw [← hd]; exact decide_eq_true y
 have HF : Hid (¬ excF false false false true true ⟨5, fr, to, view, at_, has, en, last, log, commit⟩ → d = false) := fun y => by rw [← hd]; exact decide_eq_false y
 clear hd
 unfold excF at HT HF
 simp only [hL] at HT HF
 clear hL
 have RG := run_guEn
 obtain ⟨x0, x1, x2, x3, x4, x5⟩ := en
 cases has
 ·by_cases q3 : at_ = 0
  rotate_left 1
  ·have q3' : (at_ != 0) = true := by simp [q3]
   have e : d = true := HT.out (Or.inr (Or.inr (Or.inr (Or.inl ⟨by first | trivial | rfl, q3⟩))))
   subst e
   clear HT HF
   go_enter Try.func97, Try.ntmps97
   go_wp2_with (first | ((with_reducible refine sm 97 X1 0 [.int .i64 0, .int .i64 0, .int .i64 0, .int .i64 0, .int .i64 0, .int .i64 0] ?_); intro V1 S; replace X0 := X0.kp S.kept; replace c0 := X0.cell; replace X1 : Bx V1 b1 [.int .i64 0, .int .i64 0, .int .i64 0, .int .i64 0, .int .i64 0, .int .i64 0] := S.bx; replace c1 := X1.cell; replace f1 := X1.froz; replace B := bkp B S.kept; clear S) | ((have g := ob0); clear g; (with_reducible refine al 97 [.int .i64 0, .int .i64 0, .int .i64 0, .int .i64 0, .int .i64 0, .int .i64 0] ?_); intro b1 W1 N1; have ob1 := N1.o B; have o0_b1 := N1.u X0; replace X0 := N1.r X0; replace c0 := X0.cell; replace B := N1.n B; obtain ⟨X1, c1, f1⟩ := N1.a; clear N1) | ((with_reducible refine box_newX 99 [.int .i64 5, .int .i64 fr, .int .i64 to, .int .i64 view, .int .i64 at_, .bool false, .int .i64 x0, .int .i64 x1, .int .i64 x2, .int .i64 x3, .int .i64 x4, .int .i64 x5, .int .i64 last, .slice hm.1 hm.2.1 hm.2.2, .int .i64 commit] rfl ?_); intro b0 W0 N0; have ob0 := N0.ge; have B := N0.below; obtain ⟨X0, c0⟩ := N0.c; clear N0))
   go_ret
   exact ⟨rfl, B⟩
  have q3' : (at_ != 0) = false := by simp [q3]
  have Q3 : Hid _ := q3
  clear q3
  by_cases q1 : ((x0, x1, x2, x3, x4, x5) : En) = en0
  rotate_left 1
  ·have RE := run_neEn x0 x1 x2 x3 x4 x5 0 0 0 0 0 0 false (by simp only [decide_eq_false_eq]; exact q1)
   have e : d = true := HT.out (Or.inr (Or.inl ⟨by first | trivial | rfl, q1⟩))
   subst e
   clear HT HF
   go_enter Try.func97, Try.ntmps97
   go_wp2_with (first | ((with_reducible refine sm 97 X1 0 [.int .i64 0, .int .i64 0, .int .i64 0, .int .i64 0, .int .i64 0, .int .i64 0] ?_); intro V1 S; replace X0 := X0.kp S.kept; replace c0 := X0.cell; replace X1 : Bx V1 b1 [.int .i64 0, .int .i64 0, .int .i64 0, .int .i64 0, .int .i64 0, .int .i64 0] := S.bx; replace c1 := X1.cell; replace f1 := X1.froz; replace B := bkp B S.kept; clear S) | ((have g := ob0); clear g; (with_reducible refine al 97 [.int .i64 0, .int .i64 0, .int .i64 0, .int .i64 0, .int .i64 0, .int .i64 0] ?_); intro b1 W1 N1; have ob1 := N1.o B; have o0_b1 := N1.u X0; replace X0 := N1.r X0; replace c0 := X0.cell; replace B := N1.n B; obtain ⟨X1, c1, f1⟩ := N1.a; clear N1) | ((with_reducible refine box_newX 99 [.int .i64 5, .int .i64 fr, .int .i64 to, .int .i64 view, .int .i64 at_, .bool false, .int .i64 x0, .int .i64 x1, .int .i64 x2, .int .i64 x3, .int .i64 x4, .int .i64 x5, .int .i64 last, .slice hm.1 hm.2.1 hm.2.2, .int .i64 commit] rfl ?_); intro b0 W0 N0; have ob0 := N0.ge; have B := N0.below; obtain ⟨X0, c0⟩ := N0.c; clear N0))
   go_ret
   exact ⟨rfl, B⟩
  have RE := run_neEn x0 x1 x2 x3 x4 x5 0 0 0 0 0 0 true (by simp only [decide_eq_true_eq]; exact q1)
  have Q1 : Hid _ := q1
  clear q1
  by_cases q4 : last = 0
  rotate_left 1
  ·have q4' : (last == 0) = false := by simp [q4]
   have e : d = true := HT.out (Or.inr (Or.inr (Or.inr (Or.inr (Or.inl ⟨by first | trivial | rfl, q4⟩)))))
   subst e
   clear HT HF
   go_enter Try.func97, Try.ntmps97
   go_wp2_with (first | ((with_reducible refine sm 97 X1 0 [.int .i64 0, .int .i64 0, .int .i64 0, .int .i64 0, .int .i64 0, .int .i64 0] ?_); intro V1 S; replace X0 := X0.kp S.kept; replace c0 := X0.cell; replace X1 : Bx V1 b1 [.int .i64 0, .int .i64 0, .int .i64 0, .int .i64 0, .int .i64 0, .int .i64 0] := S.bx; replace c1 := X1.cell; replace f1 := X1.froz; replace B := bkp B S.kept; clear S) | ((have g := ob0); clear g; (with_reducible refine al 97 [.int .i64 0, .int .i64 0, .int .i64 0, .int .i64 0, .int .i64 0, .int .i64 0] ?_); intro b1 W1 N1; have ob1 := N1.o B; have o0_b1 := N1.u X0; replace X0 := N1.r X0; replace c0 := X0.cell; replace B := N1.n B; obtain ⟨X1, c1, f1⟩ := N1.a; clear N1) | ((with_reducible refine box_newX 99 [.int .i64 5, .int .i64 fr, .int .i64 to, .int .i64 view, .int .i64 at_, .bool false, .int .i64 x0, .int .i64 x1, .int .i64 x2, .int .i64 x3, .int .i64 x4, .int .i64 x5, .int .i64 last, .slice hm.1 hm.2.1 hm.2.2, .int .i64 commit] rfl ?_); intro b0 W0 N0; have ob0 := N0.ge; have B := N0.below; obtain ⟨X0, c0⟩ := N0.c; clear N0))
   go_ret
   exact ⟨rfl, B⟩
  have q4' : (last == 0) = true := by simp [q4]
  have Q4 : Hid _ := q4
  clear q4
  have e : d = false := HF.out (fun z => z.elim (fun y => absurd y.2 (by simp)) (fun z => z.elim (fun y => y.2 Q1.out) (fun z => z.elim (fun y => absurd y.1 (by simp)) (fun z => z.elim (fun y => y.2 Q3.out) (fun z => z.elim (fun y => y.2 Q4.out) (fun y => absurd y.1 (by simp)))))))
  subst e
  clear HT HF
  go_enter Try.func97, Try.ntmps97
  go_wp2_with (first | ((with_reducible refine sm 97 X1 0 [.int .i64 0, .int .i64 0, .int .i64 0, .int .i64 0, .int .i64 0, .int .i64 0] ?_); intro V1 S; replace X0 := X0.kp S.kept; replace c0 := X0.cell; replace X1 : Bx V1 b1 [.int .i64 0, .int .i64 0, .int .i64 0, .int .i64 0, .int .i64 0, .int .i64 0] := S.bx; replace c1 := X1.cell; replace f1 := X1.froz; replace B := bkp B S.kept; clear S) | ((have g := ob0); clear g; (with_reducible refine al 97 [.int .i64 0, .int .i64 0, .int .i64 0, .int .i64 0, .int .i64 0, .int .i64 0] ?_); intro b1 W1 N1; have ob1 := N1.o B; have o0_b1 := N1.u X0; replace X0 := N1.r X0; replace c0 := X0.cell; replace B := N1.n B; obtain ⟨X1, c1, f1⟩ := N1.a; clear N1) | ((with_reducible refine box_newX 99 [.int .i64 5, .int .i64 fr, .int .i64 to, .int .i64 view, .int .i64 at_, .bool false, .int .i64 x0, .int .i64 x1, .int .i64 x2, .int .i64 x3, .int .i64 x4, .int .i64 x5, .int .i64 last, .slice hm.1 hm.2.1 hm.2.2, .int .i64 commit] rfl ?_); intro b0 W0 N0; have ob0 := N0.ge; have B := N0.below; obtain ⟨X0, c0⟩ := N0.c; clear N0))
  go_ret
  exact ⟨rfl, B⟩
 ·by_cases q3 : at_ = 0
  rotate_left 1
  ·have q3' : (at_ != 0) = true := by simp [q3]
   have e : d = true := HT.out (Or.inr (Or.inr (Or.inr (Or.inl ⟨by first | trivial | rfl, q3⟩))))
   subst e
   clear HT HF
   go_enter Try.func97, Try.ntmps97
   go_wp2_with (first | ((with_reducible refine sm 97 X1 0 [.int .i64 0, .int .i64 0, .int .i64 0, .int .i64 0, .int .i64 0, .int .i64 0] ?_); intro V1 S; replace X0 := X0.kp S.kept; replace c0 := X0.cell; replace X1 : Bx V1 b1 [.int .i64 0, .int .i64 0, .int .i64 0, .int .i64 0, .int .i64 0, .int .i64 0] := S.bx; replace c1 := X1.cell; replace f1 := X1.froz; replace B := bkp B S.kept; clear S) | ((have g := ob0); clear g; (with_reducible refine al 97 [.int .i64 0, .int .i64 0, .int .i64 0, .int .i64 0, .int .i64 0, .int .i64 0] ?_); intro b1 W1 N1; have ob1 := N1.o B; have o0_b1 := N1.u X0; replace X0 := N1.r X0; replace c0 := X0.cell; replace B := N1.n B; obtain ⟨X1, c1, f1⟩ := N1.a; clear N1) | ((with_reducible refine box_newX 99 [.int .i64 5, .int .i64 fr, .int .i64 to, .int .i64 view, .int .i64 at_, .bool true, .int .i64 x0, .int .i64 x1, .int .i64 x2, .int .i64 x3, .int .i64 x4, .int .i64 x5, .int .i64 last, .slice hm.1 hm.2.1 hm.2.2, .int .i64 commit] rfl ?_); intro b0 W0 N0; have ob0 := N0.ge; have B := N0.below; obtain ⟨X0, c0⟩ := N0.c; clear N0))
   go_ret
   exact ⟨rfl, B⟩
  have q3' : (at_ != 0) = false := by simp [q3]
  have Q3 : Hid _ := q3
  clear q3
  have e : d = true := HT.out (Or.inl ⟨by first | trivial | rfl, by first | trivial | rfl⟩)
  subst e
  clear HT HF
  go_enter Try.func97, Try.ntmps97
  go_wp2_with (first | ((with_reducible refine sm 97 X1 0 [.int .i64 0, .int .i64 0, .int .i64 0, .int .i64 0, .int .i64 0, .int .i64 0] ?_); intro V1 S; replace X0 := X0.kp S.kept; replace c0 := X0.cell; replace X1 : Bx V1 b1 [.int .i64 0, .int .i64 0, .int .i64 0, .int .i64 0, .int .i64 0, .int .i64 0] := S.bx; replace c1 := X1.cell; replace f1 := X1.froz; replace B := bkp B S.kept; clear S) | ((have g := ob0); clear g; (with_reducible refine al 97 [.int .i64 0, .int .i64 0, .int .i64 0, .int .i64 0, .int .i64 0, .int .i64 0] ?_); intro b1 W1 N1; have ob1 := N1.o B; have o0_b1 := N1.u X0; replace X0 := N1.r X0; replace c0 := X0.cell; replace B := N1.n B; obtain ⟨X1, c1, f1⟩ := N1.a; clear N1) | ((with_reducible refine box_newX 99 [.int .i64 5, .int .i64 fr, .int .i64 to, .int .i64 view, .int .i64 at_, .bool true, .int .i64 x0, .int .i64 x1, .int .i64 x2, .int .i64 x3, .int .i64 x4, .int .i64 x5, .int .i64 last, .slice hm.1 hm.2.1 hm.2.2, .int .i64 commit] rfl ?_); intro b0 W0 N0; have ob0 := N0.ge; have B := N0.below; obtain ⟨X0, c0⟩ := N0.c; clear N0))
  go_ret
  exact ⟨rfl, B⟩
theorem l9Bare6_is (fr to view at_ : Int) (has : Bool) (en : En) (last : Int) (log : List En) (commit : Int) (hm : Hd) (hL : log.length = hm.2.1) (w : World) (d : Bool) (hd : decide (excF false false false false false ⟨6, fr, to, view, at_, has, en, last, log, commit⟩) = d) : Calls Try.prog 97 #[.agg #[.int .i64 6, .int .i64 fr, .int .i64 to, .int .i64 view, .int .i64 at_, .bool has, .int .i64 en.1, .int .i64 en.2.1, .int .i64 en.2.2.1, .int .i64 en.2.2.2.1, .int .i64 en.2.2.2.2.1, .int .i64 en.2.2.2.2.2, .int .i64 last, .slice hm.1 hm.2.1 hm.2.2, .int .i64 commit]] w fun e w' => e = .returned (.bool (!d)) ∧ Below w.heap.size w w' := by
 have HT : Hid (excF false false false false false ⟨6, fr, to, view, at_, has, en, last, log, commit⟩ → d = true) := fun y => by rw [← hd]; exact decide_eq_true y
 have HF : Hid (¬ excF false false false false false ⟨6, fr, to, view, at_, has, en, last, log, commit⟩ → d = false) := fun y => by rw [← hd]; exact decide_eq_false y
 clear hd
 unfold excF at HT HF
 simp only [hL] at HT HF
 clear hL
 have RG := run_guEn
 obtain ⟨x0, x1, x2, x3, x4, x5⟩ := en
 cases has
 ·by_cases q3 : at_ = 0
  rotate_left 1
  ·have q3' : (at_ != 0) = true := by simp [q3]
   have e : d = true := HT.out (Or.inr (Or.inr (Or.inr (Or.inl ⟨by first | trivial | rfl, q3⟩))))
   subst e
   clear HT HF
   go_enter Try.func97, Try.ntmps97
   go_wp2_with (first | ((with_reducible refine sm 97 X1 0 [.int .i64 0, .int .i64 0, .int .i64 0, .int .i64 0, .int .i64 0, .int .i64 0] ?_); intro V1 S; replace X0 := X0.kp S.kept; replace c0 := X0.cell; replace X1 : Bx V1 b1 [.int .i64 0, .int .i64 0, .int .i64 0, .int .i64 0, .int .i64 0, .int .i64 0] := S.bx; replace c1 := X1.cell; replace f1 := X1.froz; replace B := bkp B S.kept; clear S) | ((have g := ob0); clear g; (with_reducible refine al 97 [.int .i64 0, .int .i64 0, .int .i64 0, .int .i64 0, .int .i64 0, .int .i64 0] ?_); intro b1 W1 N1; have ob1 := N1.o B; have o0_b1 := N1.u X0; replace X0 := N1.r X0; replace c0 := X0.cell; replace B := N1.n B; obtain ⟨X1, c1, f1⟩ := N1.a; clear N1) | ((with_reducible refine box_newX 99 [.int .i64 6, .int .i64 fr, .int .i64 to, .int .i64 view, .int .i64 at_, .bool false, .int .i64 x0, .int .i64 x1, .int .i64 x2, .int .i64 x3, .int .i64 x4, .int .i64 x5, .int .i64 last, .slice hm.1 hm.2.1 hm.2.2, .int .i64 commit] rfl ?_); intro b0 W0 N0; have ob0 := N0.ge; have B := N0.below; obtain ⟨X0, c0⟩ := N0.c; clear N0))
   go_ret
   exact ⟨rfl, B⟩
  have q3' : (at_ != 0) = false := by simp [q3]
  have Q3 : Hid _ := q3
  clear q3
  by_cases q1 : ((x0, x1, x2, x3, x4, x5) : En) = en0
  rotate_left 1
  ·have RE := run_neEn x0 x1 x2 x3 x4 x5 0 0 0 0 0 0 false (by simp only [decide_eq_false_eq]; exact q1)
   have e : d = true := HT.out (Or.inr (Or.inl ⟨by first | trivial | rfl, q1⟩))
   subst e
   clear HT HF
   go_enter Try.func97, Try.ntmps97
   go_wp2_with (first | ((with_reducible refine sm 97 X1 0 [.int .i64 0, .int .i64 0, .int .i64 0, .int .i64 0, .int .i64 0, .int .i64 0] ?_); intro V1 S; replace X0 := X0.kp S.kept; replace c0 := X0.cell; replace X1 : Bx V1 b1 [.int .i64 0, .int .i64 0, .int .i64 0, .int .i64 0, .int .i64 0, .int .i64 0] := S.bx; replace c1 := X1.cell; replace f1 := X1.froz; replace B := bkp B S.kept; clear S) | ((have g := ob0); clear g; (with_reducible refine al 97 [.int .i64 0, .int .i64 0, .int .i64 0, .int .i64 0, .int .i64 0, .int .i64 0] ?_); intro b1 W1 N1; have ob1 := N1.o B; have o0_b1 := N1.u X0; replace X0 := N1.r X0; replace c0 := X0.cell; replace B := N1.n B; obtain ⟨X1, c1, f1⟩ := N1.a; clear N1) | ((with_reducible refine box_newX 99 [.int .i64 6, .int .i64 fr, .int .i64 to, .int .i64 view, .int .i64 at_, .bool false, .int .i64 x0, .int .i64 x1, .int .i64 x2, .int .i64 x3, .int .i64 x4, .int .i64 x5, .int .i64 last, .slice hm.1 hm.2.1 hm.2.2, .int .i64 commit] rfl ?_); intro b0 W0 N0; have ob0 := N0.ge; have B := N0.below; obtain ⟨X0, c0⟩ := N0.c; clear N0))
   go_ret
   exact ⟨rfl, B⟩
  have RE := run_neEn x0 x1 x2 x3 x4 x5 0 0 0 0 0 0 true (by simp only [decide_eq_true_eq]; exact q1)
  have Q1 : Hid _ := q1
  clear q1
  by_cases q4 : last = 0
  rotate_left 1
  ·have q4' : (last == 0) = false := by simp [q4]
   have e : d = true := HT.out (Or.inr (Or.inr (Or.inr (Or.inr (Or.inl ⟨by first | trivial | rfl, q4⟩)))))
   subst e
   clear HT HF
   go_enter Try.func97, Try.ntmps97
   go_wp2_with (first | ((with_reducible refine sm 97 X1 0 [.int .i64 0, .int .i64 0, .int .i64 0, .int .i64 0, .int .i64 0, .int .i64 0] ?_); intro V1 S; replace X0 := X0.kp S.kept; replace c0 := X0.cell; replace X1 : Bx V1 b1 [.int .i64 0, .int .i64 0, .int .i64 0, .int .i64 0, .int .i64 0, .int .i64 0] := S.bx; replace c1 := X1.cell; replace f1 := X1.froz; replace B := bkp B S.kept; clear S) | ((have g := ob0); clear g; (with_reducible refine al 97 [.int .i64 0, .int .i64 0, .int .i64 0, .int .i64 0, .int .i64 0, .int .i64 0] ?_); intro b1 W1 N1; have ob1 := N1.o B; have o0_b1 := N1.u X0; replace X0 := N1.r X0; replace c0 := X0.cell; replace B := N1.n B; obtain ⟨X1, c1, f1⟩ := N1.a; clear N1) | ((with_reducible refine box_newX 99 [.int .i64 6, .int .i64 fr, .int .i64 to, .int .i64 view, .int .i64 at_, .bool false, .int .i64 x0, .int .i64 x1, .int .i64 x2, .int .i64 x3, .int .i64 x4, .int .i64 x5, .int .i64 last, .slice hm.1 hm.2.1 hm.2.2, .int .i64 commit] rfl ?_); intro b0 W0 N0; have ob0 := N0.ge; have B := N0.below; obtain ⟨X0, c0⟩ := N0.c; clear N0))
   go_ret
   exact ⟨rfl, B⟩
  have q4' : (last == 0) = true := by simp [q4]
  have Q4 : Hid _ := q4
  clear q4
  by_cases q2 : hm.2.1 = 0
  rotate_left 1
  ·have q2' : ((hm.2.1 : Int) == 0) = false := by simp [q2]
   have e : d = true := HT.out (Or.inr (Or.inr (Or.inl ⟨by first | trivial | rfl, q2⟩)))
   subst e
   clear HT HF
   go_enter Try.func97, Try.ntmps97
   go_wp2_with (first | ((with_reducible refine sm 97 X1 0 [.int .i64 0, .int .i64 0, .int .i64 0, .int .i64 0, .int .i64 0, .int .i64 0] ?_); intro V1 S; replace X0 := X0.kp S.kept; replace c0 := X0.cell; replace X1 : Bx V1 b1 [.int .i64 0, .int .i64 0, .int .i64 0, .int .i64 0, .int .i64 0, .int .i64 0] := S.bx; replace c1 := X1.cell; replace f1 := X1.froz; replace B := bkp B S.kept; clear S) | ((have g := ob0); clear g; (with_reducible refine al 97 [.int .i64 0, .int .i64 0, .int .i64 0, .int .i64 0, .int .i64 0, .int .i64 0] ?_); intro b1 W1 N1; have ob1 := N1.o B; have o0_b1 := N1.u X0; replace X0 := N1.r X0; replace c0 := X0.cell; replace B := N1.n B; obtain ⟨X1, c1, f1⟩ := N1.a; clear N1) | ((with_reducible refine box_newX 99 [.int .i64 6, .int .i64 fr, .int .i64 to, .int .i64 view, .int .i64 at_, .bool false, .int .i64 x0, .int .i64 x1, .int .i64 x2, .int .i64 x3, .int .i64 x4, .int .i64 x5, .int .i64 last, .slice hm.1 hm.2.1 hm.2.2, .int .i64 commit] rfl ?_); intro b0 W0 N0; have ob0 := N0.ge; have B := N0.below; obtain ⟨X0, c0⟩ := N0.c; clear N0))
   go_ret
   exact ⟨rfl, B⟩
  have q2' : ((hm.2.1 : Int) == 0) = true := by simp [q2]
  have Q2 : Hid _ := q2
  clear q2
  by_cases q5 : commit = 0
  rotate_left 1
  ·have q5' : (commit == 0) = false := by simp [q5]
   have e : d = true := HT.out (Or.inr (Or.inr (Or.inr (Or.inr (Or.inr ⟨by first | trivial | rfl, q5⟩)))))
   subst e
   clear HT HF
   go_enter Try.func97, Try.ntmps97
   go_wp2_with (first | ((with_reducible refine sm 97 X1 0 [.int .i64 0, .int .i64 0, .int .i64 0, .int .i64 0, .int .i64 0, .int .i64 0] ?_); intro V1 S; replace X0 := X0.kp S.kept; replace c0 := X0.cell; replace X1 : Bx V1 b1 [.int .i64 0, .int .i64 0, .int .i64 0, .int .i64 0, .int .i64 0, .int .i64 0] := S.bx; replace c1 := X1.cell; replace f1 := X1.froz; replace B := bkp B S.kept; clear S) | ((have g := ob0); clear g; (with_reducible refine al 97 [.int .i64 0, .int .i64 0, .int .i64 0, .int .i64 0, .int .i64 0, .int .i64 0] ?_); intro b1 W1 N1; have ob1 := N1.o B; have o0_b1 := N1.u X0; replace X0 := N1.r X0; replace c0 := X0.cell; replace B := N1.n B; obtain ⟨X1, c1, f1⟩ := N1.a; clear N1) | ((with_reducible refine box_newX 99 [.int .i64 6, .int .i64 fr, .int .i64 to, .int .i64 view, .int .i64 at_, .bool false, .int .i64 x0, .int .i64 x1, .int .i64 x2, .int .i64 x3, .int .i64 x4, .int .i64 x5, .int .i64 last, .slice hm.1 hm.2.1 hm.2.2, .int .i64 commit] rfl ?_); intro b0 W0 N0; have ob0 := N0.ge; have B := N0.below; obtain ⟨X0, c0⟩ := N0.c; clear N0))
   go_ret
   exact ⟨rfl, B⟩
  have q5' : (commit == 0) = true := by simp [q5]
  have Q5 : Hid _ := q5
  clear q5
  have e : d = false := HF.out (fun z => z.elim (fun y => absurd y.2 (by simp)) (fun z => z.elim (fun y => y.2 Q1.out) (fun z => z.elim (fun y => y.2 Q2.out) (fun z => z.elim (fun y => y.2 Q3.out) (fun z => z.elim (fun y => y.2 Q4.out) (fun y => y.2 Q5.out))))))
  subst e
  clear HT HF
  go_enter Try.func97, Try.ntmps97
  go_wp2_with (first | ((with_reducible refine sm 97 X1 0 [.int .i64 0, .int .i64 0, .int .i64 0, .int .i64 0, .int .i64 0, .int .i64 0] ?_); intro V1 S; replace X0 := X0.kp S.kept; replace c0 := X0.cell; replace X1 : Bx V1 b1 [.int .i64 0, .int .i64 0, .int .i64 0, .int .i64 0, .int .i64 0, .int .i64 0] := S.bx; replace c1 := X1.cell; replace f1 := X1.froz; replace B := bkp B S.kept; clear S) | ((have g := ob0); clear g; (with_reducible refine al 97 [.int .i64 0, .int .i64 0, .int .i64 0, .int .i64 0, .int .i64 0, .int .i64 0] ?_); intro b1 W1 N1; have ob1 := N1.o B; have o0_b1 := N1.u X0; replace X0 := N1.r X0; replace c0 := X0.cell; replace B := N1.n B; obtain ⟨X1, c1, f1⟩ := N1.a; clear N1) | ((with_reducible refine box_newX 99 [.int .i64 6, .int .i64 fr, .int .i64 to, .int .i64 view, .int .i64 at_, .bool false, .int .i64 x0, .int .i64 x1, .int .i64 x2, .int .i64 x3, .int .i64 x4, .int .i64 x5, .int .i64 last, .slice hm.1 hm.2.1 hm.2.2, .int .i64 commit] rfl ?_); intro b0 W0 N0; have ob0 := N0.ge; have B := N0.below; obtain ⟨X0, c0⟩ := N0.c; clear N0))
  go_ret
  exact ⟨rfl, B⟩
 ·by_cases q3 : at_ = 0
  rotate_left 1
  ·have q3' : (at_ != 0) = true := by simp [q3]
   have e : d = true := HT.out (Or.inr (Or.inr (Or.inr (Or.inl ⟨by first | trivial | rfl, q3⟩))))
   subst e
   clear HT HF
   go_enter Try.func97, Try.ntmps97
   go_wp2_with (first | ((with_reducible refine sm 97 X1 0 [.int .i64 0, .int .i64 0, .int .i64 0, .int .i64 0, .int .i64 0, .int .i64 0] ?_); intro V1 S; replace X0 := X0.kp S.kept; replace c0 := X0.cell; replace X1 : Bx V1 b1 [.int .i64 0, .int .i64 0, .int .i64 0, .int .i64 0, .int .i64 0, .int .i64 0] := S.bx; replace c1 := X1.cell; replace f1 := X1.froz; replace B := bkp B S.kept; clear S) | ((have g := ob0); clear g; (with_reducible refine al 97 [.int .i64 0, .int .i64 0, .int .i64 0, .int .i64 0, .int .i64 0, .int .i64 0] ?_); intro b1 W1 N1; have ob1 := N1.o B; have o0_b1 := N1.u X0; replace X0 := N1.r X0; replace c0 := X0.cell; replace B := N1.n B; obtain ⟨X1, c1, f1⟩ := N1.a; clear N1) | ((with_reducible refine box_newX 99 [.int .i64 6, .int .i64 fr, .int .i64 to, .int .i64 view, .int .i64 at_, .bool true, .int .i64 x0, .int .i64 x1, .int .i64 x2, .int .i64 x3, .int .i64 x4, .int .i64 x5, .int .i64 last, .slice hm.1 hm.2.1 hm.2.2, .int .i64 commit] rfl ?_); intro b0 W0 N0; have ob0 := N0.ge; have B := N0.below; obtain ⟨X0, c0⟩ := N0.c; clear N0))
   go_ret
   exact ⟨rfl, B⟩
  have q3' : (at_ != 0) = false := by simp [q3]
  have Q3 : Hid _ := q3
  clear q3
  have e : d = true := HT.out (Or.inl ⟨by first | trivial | rfl, by first | trivial | rfl⟩)
  subst e
  clear HT HF
  go_enter Try.func97, Try.ntmps97
  go_wp2_with (first | ((with_reducible refine sm 97 X1 0 [.int .i64 0, .int .i64 0, .int .i64 0, .int .i64 0, .int .i64 0, .int .i64 0] ?_); intro V1 S; replace X0 := X0.kp S.kept; replace c0 := X0.cell; replace X1 : Bx V1 b1 [.int .i64 0, .int .i64 0, .int .i64 0, .int .i64 0, .int .i64 0, .int .i64 0] := S.bx; replace c1 := X1.cell; replace f1 := X1.froz; replace B := bkp B S.kept; clear S) | ((have g := ob0); clear g; (with_reducible refine al 97 [.int .i64 0, .int .i64 0, .int .i64 0, .int .i64 0, .int .i64 0, .int .i64 0] ?_); intro b1 W1 N1; have ob1 := N1.o B; have o0_b1 := N1.u X0; replace X0 := N1.r X0; replace c0 := X0.cell; replace B := N1.n B; obtain ⟨X1, c1, f1⟩ := N1.a; clear N1) | ((with_reducible refine box_newX 99 [.int .i64 6, .int .i64 fr, .int .i64 to, .int .i64 view, .int .i64 at_, .bool true, .int .i64 x0, .int .i64 x1, .int .i64 x2, .int .i64 x3, .int .i64 x4, .int .i64 x5, .int .i64 last, .slice hm.1 hm.2.1 hm.2.2, .int .i64 commit] rfl ?_); intro b0 W0 N0; have ob0 := N0.ge; have B := N0.below; obtain ⟨X0, c0⟩ := N0.c; clear N0))
  go_ret
  exact ⟨rfl, B⟩
end Go.Proofs.Ytjefmhjlaibbkaa
