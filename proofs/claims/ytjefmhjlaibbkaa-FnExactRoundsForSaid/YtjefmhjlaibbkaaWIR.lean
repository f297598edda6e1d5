/- Chapter 9: what a kind of mail has, of the program. -/
import Derived.Test.YtjefmhjlaibbkaaQAGR
import Derived.Test.YtjefmhjlaibbkaaWHR
import Derived.Test.YtjefmhjlaibbkaaWCR
set_option maxRecDepth 20000
set_option maxHeartbeats 16000000
namespace Go.Proofs.Ytjefmhjlaibbkaa
open Go.RowKit
theorem mailForm1_is (w : World) : Calls Try.prog 118 #[.int .i64 1] w fun e w' => e = .returned (.agg #[.bool true, .bool true, .bool false, .bool false, .bool true]) ∧ Below w.heap.size w w' := by
 go_enter Try.func118, Try.ntmps118
 go_wp2_with (first | ((with_reducible refine sm 159 X0 0 [.bool true, .bool true, .bool false, .bool false, .bool true] ?_); intro V2 S; replace X0 : Bx V2 b0 [.bool true, .bool true, .bool false, .bool false, .bool true] := S.bx; replace c0 := X0.cell; replace f0 := X0.froz; replace X1 := X1.kp S.kept; replace c1 := X1.cell; replace f1 := X1.froz; replace B := bkp B S.kept; clear S) | ((with_reducible refine sm 166 X1 0 [.bool false, .bool false, .bool false, .bool false, .bool false, .bool true, .bool true, .bool false, .bool false, .bool true, .bool true, .bool false, .bool false, .bool false, .bool false, .bool false, .bool false, .bool false, .bool false, .bool false, .bool false, .bool false, .bool true, .bool true, .bool true, .bool false, .bool false, .bool false, .bool true, .bool true, .bool false, .bool false, .bool false, .bool false, .bool false] ?_); intro V1 S; replace X0 := X0.kp S.kept; replace c0 := X0.cell; replace f0 := X0.froz; replace X1 : Bx V1 b1 [.bool false, .bool false, .bool false, .bool false, .bool false, .bool true, .bool true, .bool false, .bool false, .bool true, .bool true, .bool false, .bool false, .bool false, .bool false, .bool false, .bool false, .bool false, .bool false, .bool false, .bool false, .bool false, .bool true, .bool true, .bool true, .bool false, .bool false, .bool false, .bool true, .bool true, .bool false, .bool false, .bool false, .bool false, .bool false] := S.bx; replace c1 := X1.cell; replace f1 := X1.froz; replace B := bkp B S.kept; clear S) | ((have g := ob0); clear g; (with_reducible refine al 166 [.bool false, .bool false, .bool false, .bool false, .bool false, .bool false, .bool false, .bool false, .bool false, .bool false, .bool false, .bool false, .bool false, .bool false, .bool false, .bool false, .bool false, .bool false, .bool false, .bool false, .bool false, .bool false, .bool false, .bool false, .bool false, .bool false, .bool false, .bool false, .bool false, .bool false, .bool false, .bool false, .bool false, .bool false, .bool false] ?_); intro b1 W1 N1; have ob1 := N1.o B; have o0_b1 := N1.u X0; replace X0 := N1.r X0; replace c0 := X0.cell; replace f0 := X0.froz; replace B := N1.n B; obtain ⟨X1, c1, f1⟩ := N1.a; clear N1) | (refine wpList_built rfl 166 _ #[.bool false, .bool false, .bool false, .bool false, .bool false, .bool true, .bool true, .bool false, .bool false, .bool true, .bool true, .bool false, .bool false, .bool false, .bool false, .bool false, .bool false, .bool false, .bool false, .bool false, .bool false, .bool false, .bool true, .bool true, .bool true, .bool false, .bool false, .bool false, .bool true, .bool true, .bool false, .bool false, .bool false, .bool false, .bool false] rfl (by as_aux_lemma => kernel_rfl) ?_) | ((with_reducible refine al 159 [.bool false, .bool false, .bool false, .bool false, .bool false] ?_); intro b0 W0 N0; have ob0 := N0.ge; have B := N0.below; obtain ⟨X0, c0, f0⟩ := N0.a; clear N0))
 refine bodyPost_ret (v := .agg #[.bool true, .bool true, .bool false, .bool false, .bool true]) (by simp [results, Try.results118, go_sem, *]) rfl ⟨rfl, B⟩
theorem mailForm2_is (w : World) : Calls Try.prog 118 #[.int .i64 2] w fun e w' => e = .returned (.agg #[.bool true, .bool false, .bool false, .bool false, .bool false]) ∧ Below w.heap.size w w' := by
 go_enter Try.func118, Try.ntmps118
 go_wp2_with (first | ((with_reducible refine sm 159 X0 0 [.bool true, .bool false, .bool false, .bool false, .bool false] ?_); intro V2 S; replace X0 : Bx V2 b0 [.bool true, .bool false, .bool false, .bool false, .bool false] := S.bx; replace c0 := X0.cell; replace f0 := X0.froz; replace X1 := X1.kp S.kept; replace c1 := X1.cell; replace f1 := X1.froz; replace B := bkp B S.kept; clear S) | ((with_reducible refine sm 166 X1 0 [.bool false, .bool false, .bool false, .bool false, .bool false, .bool true, .bool true, .bool false, .bool false, .bool true, .bool true, .bool false, .bool false, .bool false, .bool false, .bool false, .bool false, .bool false, .bool false, .bool false, .bool false, .bool false, .bool true, .bool true, .bool true, .bool false, .bool false, .bool false, .bool true, .bool true, .bool false, .bool false, .bool false, .bool false, .bool false] ?_); intro V1 S; replace X0 := X0.kp S.kept; replace c0 := X0.cell; replace f0 := X0.froz; replace X1 : Bx V1 b1 [.bool false, .bool false, .bool false, .bool false, .bool false, .bool true, .bool true, .bool false, .bool false, .bool true, .bool true, .bool false, .bool false, .bool false, .bool false, .bool false, .bool false, .bool false, .bool false, .bool false, .bool false, .bool false, .bool true, .bool true, .bool true, .bool false, .bool false, .bool false, .bool true, .bool true, .bool false, .bool false, .bool false, .bool false, .bool false] := S.bx; replace c1 := X1.cell; replace f1 := X1.froz; replace B := bkp B S.kept; clear S) | ((have g := ob0); clear g; (with_reducible refine al 166 [.bool false, .bool false, .bool false, .bool false, .bool false, .bool false, .bool false, .bool false, .bool false, .bool false, .bool false, .bool false, .bool false, .bool false, .bool false, .bool false, .bool false, .bool false, .bool false, .bool false, .bool false, .bool false, .bool false, .bool false, .bool false, .bool false, .bool false, .bool false, .bool false, .bool false, .bool false, .bool false, .bool false, .bool false, .bool false] ?_); intro b1 W1 N1; have ob1 := N1.o B; have o0_b1 := N1.u X0; replace X0 := N1.r X0; replace c0 := X0.cell; replace f0 := X0.froz; replace B := N1.n B; obtain ⟨X1, c1, f1⟩ := N1.a; clear N1) | (refine wpList_built rfl 166 _ #[.bool false, .bool false, .bool false, .bool false, .bool false, .bool true, .bool true, .bool false, .bool false, .bool true, .bool true, .bool false, .bool false, .bool false, .bool false, .bool false, .bool false, .bool false, .bool false, .bool false, .bool false, .bool false, .bool true, .bool true, .bool true, .bool false, .bool false, .bool false, .bool true, .bool true, .bool false, .bool false, .bool false, .bool false, .bool false] rfl (by as_aux_lemma => kernel_rfl) ?_) | ((with_reducible refine al 159 [.bool false, .bool false, .bool false, .bool false, .bool false] ?_); intro b0 W0 N0; have ob0 := N0.ge; have B := N0.below; obtain ⟨X0, c0, f0⟩ := N0.a; clear N0))
 refine bodyPost_ret (v := .agg #[.bool true, .bool false, .bool false, .bool false, .bool false]) (by simp [results, Try.results118, go_sem, *]) rfl ⟨rfl, B⟩
theorem mailForm3_is (w : World) : Calls Try.prog 118 #[.int .i64 3] w fun e w' => e = .returned (.agg #[.bool false, .bool false, .bool false, .bool false, .bool false]) ∧ Below w.heap.size w w' := by
 go_enter Try.func118, Try.ntmps118
 go_wp2_with (first | ((with_reducible refine sm 159 X0 0 [.bool false, .bool false, .bool false, .bool false, .bool false] ?_); intro V2 S; replace X0 : Bx V2 b0 [.bool false, .bool false, .bool false, .bool false, .bool false] := S.bx; replace c0 := X0.cell; replace f0 := X0.froz; replace X1 := X1.kp S.kept; replace c1 := X1.cell; replace f1 := X1.froz; replace B := bkp B S.kept; clear S) | ((with_reducible refine sm 166 X1 0 [.bool false, .bool false, .bool false, .bool false, .bool false, .bool true, .bool true, .bool false, .bool false, .bool true, .bool true, .bool false, .bool false, .bool false, .bool false, .bool false, .bool false, .bool false, .bool false, .bool false, .bool false, .bool false, .bool true, .bool true, .bool true, .bool false, .bool false, .bool false, .bool true, .bool true, .bool false, .bool false, .bool false, .bool false, .bool false] ?_); intro V1 S; replace X0 := X0.kp S.kept; replace c0 := X0.cell; replace f0 := X0.froz; replace X1 : Bx V1 b1 [.bool false, .bool false, .bool false, .bool false, .bool false, .bool true, .bool true, .bool false, .bool false, .bool true, .bool true, .bool false, .bool false, .bool false, .bool false, .bool false, .bool false, .bool false, .bool false, .bool false, .bool false, .bool false, .bool true, .bool true, .bool true, .bool false, .bool false, .bool false, .bool true, .bool true, .bool false, .bool false, .bool false, .bool false, .bool false] := S.bx; replace c1 := X1.cell; replace f1 := X1.froz; replace B := bkp B S.kept; clear S) | ((have g := ob0); clear g; (with_reducible refine al 166 [.bool false, .bool false, .bool false, .bool false, .bool false, .bool false, .bool false, .bool false, .bool false, .bool false, .bool false, .bool false, .bool false, .bool false, .bool false, .bool false, .bool false, .bool false, .bool false, .bool false, .bool false, .bool false, .bool false, .bool false, .bool false, .bool false, .bool false, .bool false, .bool false, .bool false, .bool false, .bool false, .bool false, .bool false, .bool false] ?_); intro b1 W1 N1; have ob1 := N1.o B; have o0_b1 := N1.u X0; replace X0 := N1.r X0; replace c0 := X0.cell; replace f0 := X0.froz; replace B := N1.n B; obtain ⟨X1, c1, f1⟩ := N1.a; clear N1) | (refine wpList_built rfl 166 _ #[.bool false, .bool false, .bool false, .bool false, .bool false, .bool true, .bool true, .bool false, .bool false, .bool true, .bool true, .bool false, .bool false, .bool false, .bool false, .bool false, .bool false, .bool false, .bool false, .bool false, .bool false, .bool false, .bool true, .bool true, .bool true, .bool false, .bool false, .bool false, .bool true, .bool true, .bool false, .bool false, .bool false, .bool false, .bool false] rfl (by as_aux_lemma => kernel_rfl) ?_) | ((with_reducible refine al 159 [.bool false, .bool false, .bool false, .bool false, .bool false] ?_); intro b0 W0 N0; have ob0 := N0.ge; have B := N0.below; obtain ⟨X0, c0, f0⟩ := N0.a; clear N0))
 refine bodyPost_ret (v := .agg #[.bool false, .bool false, .bool false, .bool false, .bool false]) (by simp [results, Try.results118, go_sem, *]) rfl ⟨rfl, B⟩
theorem mailForm4_is (w : World) : Calls Try.prog 118 #[.int .i64 4] w fun e w' => e = .returned (.agg #[.bool false, .bool false, .bool true, .bool true, .bool true]) ∧ Below w.heap.size w w' := by
 go_enter Try.func118, Try.ntmps118
 go_wp2_with (first | ((with_reducible refine sm 159 X0 0 [.bool false, .bool false, .bool true, .bool true, .bool true] ?_); intro V2 S; replace X0 : Bx V2 b0 [.bool false, .bool false, .bool true, .bool true, .bool true] := S.bx; replace c0 := X0.cell; replace f0 := X0.froz; replace X1 := X1.kp S.kept; replace c1 := X1.cell; replace f1 := X1.froz; replace B := bkp B S.kept; clear S) | ((with_reducible refine sm 166 X1 0 [.bool false, .bool false, .bool false, .bool false, .bool false, .bool true, .bool true, .bool false, .bool false, .bool true, .bool true, .bool false, .bool false, .bool false, .bool false, .bool false, .bool false, .bool false, .bool false, .bool false, .bool false, .bool false, .bool true, .bool true, .bool true, .bool false, .bool false, .bool false, .bool true, .bool true, .bool false, .bool false, .bool false, .bool false, .bool false] ?_); intro V1 S; replace X0 := X0.kp S.kept; replace c0 := X0.cell; replace f0 := X0.froz; replace X1 : Bx V1 b1 [.bool false, .bool false, .bool false, .bool false, .bool false, .bool true, .bool true, .bool false, .bool false, .bool true, .bool true, .bool false, .bool false, .bool false, .bool false, .bool false, .bool false, .bool false, .bool false, .bool false, .bool false, .bool false, .bool true, .bool true, .bool true, .bool false, .bool false, .bool false, .bool true, .bool true, .bool false, .bool false, .bool false, .bool false, .bool false] := S.bx; replace c1 := X1.cell; replace f1 := X1.froz; replace B := bkp B S.kept; clear S) | ((have g := ob0); clear g; (with_reducible refine al 166 [.bool false, .bool false, .bool false, .bool false, .bool false, .bool false, .bool false, .bool false, .bool false, .bool false, .bool false, .bool false, .bool false, .bool false, .bool false, .bool false, .bool false, .bool false, .bool false, .bool false, .bool false, .bool false, .bool false, .bool false, .bool false, .bool false, .bool false, .bool false, .bool false, .bool false, .bool false, .bool false, .bool false, .bool false, .bool false] ?_); intro b1 W1 N1; have ob1 := N1.o B; have o0_b1 := N1.u X0; replace X0 := N1.r X0; replace c0 := X0.cell; replace f0 := X0.froz; replace B := N1.n B; obtain ⟨X1, c1, f1⟩ := N1.a; clear N1) | (refine wpList_built rfl 166 _ #[.bool false, .bool false, .bool false, .bool false, .bool false, .bool true, .bool true, .bool false, .bool false, .bool true, .bool true, .bool false, .bool false, .bool false, .bool false, .bool false, .bool false, .bool false, .bool false, .bool false, .bool false, .bool false, .bool true, .bool true, .bool true, .bool false, .bool false, .bool false, .bool true, .bool true, .bool false, .bool false, .bool false, .bool false, .bool false] rfl (by as_aux_lemma => kernel_rfl) ?_) | ((with_reducible refine al 159 [.bool false, .bool false, .bool false, .bool false, .bool false] ?_); intro b0 W0 N0; have ob0 := N0.ge; have B := N0.below; obtain ⟨X0, c0, f0⟩ := N0.a; clear N0))
 refine bodyPost_ret (v := .agg #[.bool false, .bool false, .bool true, .bool true, .bool true]) (by simp [results, Try.results118, go_sem, *]) rfl ⟨rfl, B⟩
theorem mailForm5_is (w : World) : Calls Try.prog 118 #[.int .i64 5] w fun e w' => e = .returned (.agg #[.bool false, .bool false, .bool false, .bool true, .bool true]) ∧ Below w.heap.size w w' := by
 go_enter Try.func118, Try.ntmps118
 go_wp2_with (first | ((with_reducible refine sm 159 X0 0 [.bool false, .bool false, .bool false, .bool true, .bool true] ?_); intro V2 S; replace X0 : Bx V2 b0 [.bool false, .bool false, .bool false, .bool true, .bool true] := S.bx; replace c0 := X0.cell; replace f0 := X0.froz; replace X1 := X1.kp S.kept; replace c1 := X1.cell; replace f1 := X1.froz; replace B := bkp B S.kept; clear S) | ((with_reducible refine sm 166 X1 0 [.bool false, .bool false, .bool false, .bool false, .bool false, .bool true, .bool true, .bool false, .bool false, .bool true, .bool true, .bool false, .bool false, .bool false, .bool false, .bool false, .bool false, .bool false, .bool false, .bool false, .bool false, .bool false, .bool true, .bool true, .bool true, .bool false, .bool false, .bool false, .bool true, .bool true, .bool false, .bool false, .bool false, .bool false, .bool false] ?_); intro V1 S; replace X0 := X0.kp S.kept; replace c0 := X0.cell; replace f0 := X0.froz; replace X1 : Bx V1 b1 [.bool false, .bool false, .bool false, .bool false, .bool false, .bool true, .bool true, .bool false, .bool false, .bool true, .bool true, .bool false, .bool false, .bool false, .bool false, .bool false, .bool false, .bool false, .bool false, .bool false, .bool false, .bool false, .bool true, .bool true, .bool true, .bool false, .bool false, .bool false, .bool true, .bool true, .bool false, .bool false, .bool false, .bool false, .bool false] := S.bx; replace c1 := X1.cell; replace f1 := X1.froz; replace B := bkp B S.kept; clear S) | ((have g := ob0); clear g; (with_reducible refine al 166 [.bool false, .bool false, .bool false, .bool false, .bool false, .bool false, .bool false, .bool false, .bool false, .bool false, .bool false, .bool false, .bool false, .bool false, .bool false, .bool false, .bool false, .bool false, .bool false, .bool false, .bool false, .bool false, .bool false, .bool false, .bool false, .bool false, .bool false, .bool false, .bool false, .bool false, .bool false, .bool false, .bool false, .bool false, .bool false] ?_); intro b1 W1 N1; have ob1 := N1.o B; have o0_b1 := N1.u X0; replace X0 := N1.r X0; replace c0 := X0.cell; replace f0 := X0.froz; replace B := N1.n B; obtain ⟨X1, c1, f1⟩ := N1.a; clear N1) | (refine wpList_built rfl 166 _ #[.bool false, .bool false, .bool false, .bool false, .bool false, .bool true, .bool true, .bool false, .bool false, .bool true, .bool true, .bool false, .bool false, .bool false, .bool false, .bool false, .bool false, .bool false, .bool false, .bool false, .bool false, .bool false, .bool true, .bool true, .bool true, .bool false, .bool false, .bool false, .bool true, .bool true, .bool false, .bool false, .bool false, .bool false, .bool false] rfl (by as_aux_lemma => kernel_rfl) ?_) | ((with_reducible refine al 159 [.bool false, .bool false, .bool false, .bool false, .bool false] ?_); intro b0 W0 N0; have ob0 := N0.ge; have B := N0.below; obtain ⟨X0, c0, f0⟩ := N0.a; clear N0))
 refine bodyPost_ret (v := .agg #[.bool false, .bool false, .bool false, .bool true, .bool true]) (by simp [results, Try.results118, go_sem, *]) rfl ⟨rfl, B⟩
theorem mailForm6_is (w : World) : Calls Try.prog 118 #[.int .i64 6] w fun e w' => e = .returned (.agg #[.bool false, .bool false, .bool false, .bool false, .bool false]) ∧ Below w.heap.size w w' := by
 go_enter Try.func118, Try.ntmps118
 go_wp2_with (first | ((with_reducible refine sm 159 X0 0 [.bool false, .bool false, .bool false, .bool false, .bool false] ?_); intro V2 S; replace X0 : Bx V2 b0 [.bool false, .bool false, .bool false, .bool false, .bool false] := S.bx; replace c0 := X0.cell; replace f0 := X0.froz; replace X1 := X1.kp S.kept; replace c1 := X1.cell; replace f1 := X1.froz; replace B := bkp B S.kept; clear S) | ((with_reducible refine sm 166 X1 0 [.bool false, .bool false, .bool false, .bool false, .bool false, .bool true, .bool true, .bool false, .bool false, .bool true, .bool true, .bool false, .bool false, .bool false, .bool false, .bool false, .bool false, .bool false, .bool false, .bool false, .bool false, .bool false, .bool true, .bool true, .bool true, .bool false, .bool false, .bool false, .bool true, .bool true, .bool false, .bool false, .bool false, .bool false, .bool false] ?_); intro V1 S; replace X0 := X0.kp S.kept; replace c0 := X0.cell; replace f0 := X0.froz; replace X1 : Bx V1 b1 [.bool false, .bool false, .bool false, .bool false, .bool false, .bool true, .bool true, .bool false, .bool false, .bool true, .bool true, .bool false, .bool false, .bool false, .bool false, .bool false, .bool false, .bool false, .bool false, .bool false, .bool false, .bool false, .bool true, .bool true, .bool true, .bool false, .bool false, .bool false, .bool true, .bool true, .bool false, .bool false, .bool false, .bool false, .bool false] := S.bx; replace c1 := X1.cell; replace f1 := X1.froz; replace B := bkp B S.kept; clear S) | ((have g := ob0); clear g; (with_reducible refine al 166 [.bool false, .bool false, .bool false, .bool false, .bool false, .bool false, .bool false, .bool false, .bool false, .bool false, .bool false, .bool false, .bool false, .bool false, .bool false, .bool false, .bool false, .bool false, .bool false, .bool false, .bool false, .bool false, .bool false, .bool false, .bool false, .bool false, .bool false, .bool false, .bool false, .bool false, .bool false, .bool false, .bool false, .bool false, .bool false] ?_); intro b1 W1 N1; have ob1 := N1.o B; have o0_b1 := N1.u X0; replace X0 := N1.r X0; replace c0 := X0.cell; replace f0 := X0.froz; replace B := N1.n B; obtain ⟨X1, c1, f1⟩ := N1.a; clear N1) | (refine wpList_built rfl 166 _ #[.bool false, .bool false, .bool false, .bool false, .bool false, .bool true, .bool true, .bool false, .bool false, .bool true, .bool true, .bool false, .bool false, .bool false, .bool false, .bool false, .bool false, .bool false, .bool false, .bool false, .bool false, .bool false, .bool true, .bool true, .bool true, .bool false, .bool false, .bool false, .bool true, .bool true, .bool false, .bool false, .bool false, .bool false, .bool false] rfl (by as_aux_lemma => kernel_rfl) ?_) | ((with_reducible refine al 159 [.bool false, .bool false, .bool false, .bool false, .bool false] ?_); intro b0 W0 N0; have ob0 := N0.ge; have B := N0.below; obtain ⟨X0, c0, f0⟩ := N0.a; clear N0))
 refine bodyPost_ret (v := .agg #[.bool false, .bool false, .bool false, .bool false, .bool false]) (by simp [results, Try.results118, go_sem, *]) rfl ⟨rfl, B⟩
theorem mailAt1_is {o2 : Bool} {l2 u2 : Nat} (r : Rep) (h : RH) (fr view at_ : Int) (has : Bool) (en : En) (last : Int) (log : List En) (commit : Int) (hm : Hd) (hS : 1 ≤ r.size ∧ r.size ≤ 5) (w : World) (y : RowAt w o2 l2 u2 6 hm.1 hm.2.1 hm.2.2 (sixs log)) (d : Int) (HT : Hid (tailF true true false false true r ⟨1, fr, r.id, view, at_, has, en, last, log, commit⟩ = d)) : Calls Try.prog 103 #[.agg #[.int .i64 r.id, .int .i64 r.size, .int .i64 r.view, .bool r.normal, .int .i64 r.last, .slice h.L.1 h.L.2.1 h.L.2.2, .int .i64 r.commit, .slice h.O.1 h.O.2.1 h.O.2.2, .slice h.A.1 h.A.2.1 h.A.2.2, .slice h.D.1 h.D.2.1 h.D.2.2], .agg #[.int .i64 1, .int .i64 fr, .int .i64 r.id, .int .i64 view, .int .i64 at_, .bool has, .int .i64 en.1, .int .i64 en.2.1, .int .i64 en.2.2.1, .int .i64 en.2.2.2.1, .int .i64 en.2.2.2.2.1, .int .i64 en.2.2.2.2.2, .int .i64 last, .slice hm.1 hm.2.1 hm.2.2, .int .i64 commit]] w fun e w' => e = .returned (.int .i64 d) ∧ Below w.heap.size w w' := by
 have hL := y.nSixs
 have HL : Hid _ := hL
 clear hL
 have q4' : (r.id != r.id) = false := by simp
 go_enter Try.func103, Try.ntmps103
 go_wp2_with (first | ((have g := ob0); clear g; (with_reducible refine box_newX 99 [.int .i64 1, .int .i64 fr, .int .i64 r.id, .int .i64 view, .int .i64 at_, .bool has, .int .i64 en.1, .int .i64 en.2.1, .int .i64 en.2.2.1, .int .i64 en.2.2.2.1, .int .i64 en.2.2.2.2.1, .int .i64 en.2.2.2.2.2, .int .i64 last, .slice hm.1 hm.2.1 hm.2.2, .int .i64 commit] rfl ?_); intro b1 W1 N1; have ob1 := N1.o B; have o0_b1 := N1.u X0; replace X0 := N1.r X0; replace c0 := X0.cell; replace B := N1.n B; obtain ⟨X1, c1⟩ := N1.c; clear N1) | ((with_reducible refine box_newX 29 [.int .i64 r.id, .int .i64 r.size, .int .i64 r.view, .bool r.normal, .int .i64 r.last, .slice h.L.1 h.L.2.1 h.L.2.2, .int .i64 r.commit, .slice h.O.1 h.O.2.1 h.O.2.2, .slice h.A.1 h.A.2.1 h.A.2.2, .slice h.D.1 h.D.2.1 h.D.2.2] rfl ?_); intro b0 W0 N0; have ob0 := N0.ge; have B := N0.below; obtain ⟨X0, c0⟩ := N0.c; clear N0) | fail)
 refine (mailForm1_is _).mono ?_
 rintro e w2 ⟨rfl, BB⟩
 replace X0 := X0.below BB
 replace c0 := X0.cell
 replace X1 := X1.below BB
 replace c1 := X1.cell
 replace B := below_next B BB
 clear BB
 go_wp2_with (first | ((with_reducible refine sm 159 X2 0 [.bool true, .bool true, .bool false, .bool false, .bool true] ?_); intro V1 S; replace X0 := X0.kp S.kept; replace c0 := X0.cell; replace X1 := X1.kp S.kept; replace c1 := X1.cell; replace X2 : Bx V1 b2 [.bool true, .bool true, .bool false, .bool false, .bool true] := S.bx; replace c2 := X2.cell; replace f2 := X2.froz; replace B := bkp B S.kept; clear S) | ((have g := ob1); clear g; (with_reducible refine al 159 [.bool false, .bool false, .bool false, .bool false, .bool false] ?_); intro b2 W2 N2; have ob2 := N2.o B; have o0_b2 := N2.u X0; have o1_b2 := N2.u X1; replace X0 := N2.r X0; replace c0 := X0.cell; replace X1 := N2.r X1; replace c1 := X1.cell; replace B := N2.n B; obtain ⟨X2, c2, f2⟩ := N2.a; clear N2) | fail)
 by_cases q5 : 0 ≤ fr ∧ fr ≤ r.size - 1
 rotate_left 1
 ·have e := tail_no HT.out (fun z => q5 z.1.1)
  subst e
  clear HT
  refine (isIdOf_is r.size fr hS _ false (by simp only [decide_eq_false_eq]; exact q5)).mono ?_
  rintro e W9 ⟨rfl, rfl⟩
  go_wp2
  go_ret
  exact ⟨rfl, B⟩
 refine (isIdOf_is r.size fr hS _ true (by simp only [decide_eq_true_eq]; exact q5)).mono ?_
 rintro e W9 ⟨rfl, rfl⟩
 by_cases q6 : fr = r.id
 ·have e := tail_no HT.out (fun z => z.1.2.1 q6)
  subst e
  clear HT
  have q6' : (fr == r.id) = true := by simp [q6]
  clear q6
  go_wp2
  go_ret
  exact ⟨rfl, B⟩
 have q6' : (fr == r.id) = false := by simp [q6]
 have Q6 : Hid _ := q6
 clear q6
 go_wp2_with fail
 by_cases q7 : 0 ≤ view ∧ view ≤ 200
 rotate_left 1
 ·have e := tail_no HT.out (fun z => q7 z.1.2.2)
  subst e
  clear HT
  refine (isView_is view _ false (by simp only [decide_eq_false_eq]; exact q7)).mono ?_
  rintro e W9 ⟨rfl, rfl⟩
  go_wp2
  go_ret
  exact ⟨rfl, B⟩
 refine (isView_is view _ true (by simp only [decide_eq_true_eq]; exact q7)).mono ?_
 rintro e W9 ⟨rfl, rfl⟩
 have HM : Hid (numsM r ⟨1, fr, r.id, view, at_, has, en, last, log, commit⟩) := ⟨q5, Q6.out, q7⟩
 go_wp2_with fail
 obtain ⟨nb, hnb⟩ : ∃ nb, decide (numF true false ⟨1, fr, r.id, view, at_, has, en, last, log, commit⟩) = nb := ⟨_, rfl⟩
 have HN : Hid _ := hnb
 clear hnb
 refine (hasNumbers_is true true false false true ⟨1, fr, r.id, view, at_, has, en, last, log, commit⟩ hm _ nb HN.out).mono ?_
 rintro e w3 ⟨rfl, BB⟩
 replace X0 := X0.below BB
 replace c0 := X0.cell
 replace X1 := X1.below BB
 replace c1 := X1.cell
 replace X2 := X2.below BB
 replace c2 := X2.cell
 replace f2 := X2.froz
 replace B := below_next B BB
 clear BB
 cases nb
 ·have e := tail_no HT.out (fun z => of_decide_eq_false HN.out z.2)
  subst e
  clear HT
  go_wp2
  go_ret
  exact ⟨rfl, B⟩
 go_wp2_with fail
 obtain ⟨c, hc⟩ : ∃ c, agrF false true ⟨1, fr, r.id, view, at_, has, en, last, log, commit⟩ = c := ⟨_, rfl⟩
 have HC : Hid _ := hc
 clear hc
 refine (agreedFault_is true true false false true ⟨1, fr, r.id, view, at_, has, en, last, log, commit⟩ hm _ (y.below B) c HC.out).mono ?_
 rintro e w4 ⟨rfl, BB⟩
 replace X0 := X0.below BB
 replace c0 := X0.cell
 replace X1 := X1.below BB
 replace c1 := X1.cell
 replace X2 := X2.below BB
 replace c2 := X2.cell
 replace f2 := X2.froz
 replace B := below_next B BB
 clear BB
 by_cases q8 : c = 0
 rotate_left 1
 ·have e := tail_agr HT.out HM.out (of_decide_eq_true HN.out) HC.out q8
  subst e
  clear HT
  have q8' : (d != 0) = true := by simp [q8]
  go_wp2
  go_ret
  exact ⟨rfl, B⟩
 subst q8
 cases has
 ·obtain ⟨eb, heb⟩ : ∃ eb, decide (excF true true false false true ⟨1, fr, r.id, view, at_, false, en, last, log, commit⟩) = eb := ⟨_, rfl⟩
  have HB : Hid _ := heb
  clear heb
  have e := tail_exc HT.out HM.out (of_decide_eq_true HN.out) HC.out (fun z => absurd z.2.1 (by simp)) HB.out
  subst e
  clear HT
  go_wp2_with fail
  refine (isExc1_is ⟨1, fr, r.id, view, at_, false, en, last, log, commit⟩ hm HL.out _ eb HB.out).mono ?_
  rintro e w6 ⟨rfl, BB⟩
  replace X0 := X0.below BB
  replace c0 := X0.cell
  replace X1 := X1.below BB
  replace c1 := X1.cell
  replace X2 := X2.below BB
  replace c2 := X2.cell
  replace f2 := X2.froz
  replace B := below_next B BB
  clear BB
  cases eb
  ·go_wp2
   go_ret
   exact ⟨rfl, B⟩
  ·go_wp2
   go_ret
   exact ⟨rfl, B⟩
 ·obtain ⟨ce, hce⟩ : ∃ ce, enFault en = ce := ⟨_, rfl⟩
  have HE : Hid _ := hce
  clear hce
  go_wp2_with fail
  refine (implEF_is en.1 en.2.1 en.2.2.1 en.2.2.2.1 en.2.2.2.2.1 en.2.2.2.2.2 _ ce HE.out).mono ?_
  rintro e w5 ⟨rfl, BB⟩
  replace X0 := X0.below BB
  replace c0 := X0.cell
  replace X1 := X1.below BB
  replace c1 := X1.cell
  replace X2 := X2.below BB
  replace c2 := X2.cell
  replace f2 := X2.froz
  replace B := below_next B BB
  clear BB
  by_cases q9 : ce = 0
  rotate_left 1
  ·have e := tail_en HT.out HM.out (of_decide_eq_true HN.out) HC.out HE.out q9 rfl rfl
   subst e
   clear HT
   have q9' : (d != 0) = true := by simp [q9]
   go_wp2
   go_ret
   exact ⟨rfl, B⟩
  subst q9
  obtain ⟨eb, heb⟩ : ∃ eb, decide (excF true true false false true ⟨1, fr, r.id, view, at_, true, en, last, log, commit⟩) = eb := ⟨_, rfl⟩
  have HB : Hid _ := heb
  clear heb
  have e := tail_exc HT.out HM.out (of_decide_eq_true HN.out) HC.out (fun z => z.2.2 HE.out) HB.out
  subst e
  clear HT
  go_wp2_with fail
  refine (isExc1_is ⟨1, fr, r.id, view, at_, true, en, last, log, commit⟩ hm HL.out _ eb HB.out).mono ?_
  rintro e w6 ⟨rfl, BB⟩
  replace X0 := X0.below BB
  replace c0 := X0.cell
  replace X1 := X1.below BB
  replace c1 := X1.cell
  replace X2 := X2.below BB
  replace c2 := X2.cell
  replace f2 := X2.froz
  replace B := below_next B BB
  clear BB
  cases eb
  ·go_wp2
   go_ret
   exact ⟨rfl, B⟩
  ·go_wp2
   go_ret
   exact ⟨rfl, B⟩
theorem mailAt2_is {o2 : Bool} {l2 u2 : Nat} (r : Rep) (h : RH) (fr view at_ : Int) (has : Bool) (en : En) (last : Int) (log : List En) (commit : Int) (hm : Hd) (hS : 1 ≤ r.size ∧ r.size ≤ 5) (w : World) (y : RowAt w o2 l2 u2 6 hm.1 hm.2.1 hm.2.2 (sixs log)) (d : Int) (HT : Hid (tailF true false false false false r ⟨2, fr, r.id, view, at_, has, en, last, log, commit⟩ = d)) : Calls Try.prog 103 #[.agg #[.int .i64 r.id, .int .i64 r.size, .int .i64 r.view, .bool r.normal, .int .i64 r.last, .slice h.L.1 h.L.2.1 h.L.2.2, .int .i64 r.commit, .slice h.O.1 h.O.2.1 h.O.2.2, .slice h.A.1 h.A.2.1 h.A.2.2, .slice h.D.1 h.D.2.1 h.D.2.2], .agg #[.int .i64 2, .int .i64 fr, .int .i64 r.id, .int .i64 view, .int .i64 at_, .bool has, .int .i64 en.1, .int .i64 en.2.1, .int .i64 en.2.2.1, .int .i64 en.2.2.2.1, .int .i64 en.2.2.2.2.1, .int .i64 en.2.2.2.2.2, .int .i64 last, .slice hm.1 hm.2.1 hm.2.2, .int .i64 commit]] w fun e w' => e = .returned (.int .i64 d) ∧ Below w.heap.size w w' := by
 have hL := y.nSixs
 have HL : Hid _ := hL
 clear hL
 have q4' : (r.id != r.id) = false := by simp
 go_enter Try.func103, Try.ntmps103
 go_wp2_with (first | ((have g := ob0); clear g; (with_reducible refine box_newX 99 [.int .i64 2, .int .i64 fr, .int .i64 r.id, .int .i64 view, .int .i64 at_, .bool has, .int .i64 en.1, .int .i64 en.2.1, .int .i64 en.2.2.1, .int .i64 en.2.2.2.1, .int .i64 en.2.2.2.2.1, .int .i64 en.2.2.2.2.2, .int .i64 last, .slice hm.1 hm.2.1 hm.2.2, .int .i64 commit] rfl ?_); intro b1 W1 N1; have ob1 := N1.o B; have o0_b1 := N1.u X0; replace X0 := N1.r X0; replace c0 := X0.cell; replace B := N1.n B; obtain ⟨X1, c1⟩ := N1.c; clear N1) | ((with_reducible refine box_newX 29 [.int .i64 r.id, .int .i64 r.size, .int .i64 r.view, .bool r.normal, .int .i64 r.last, .slice h.L.1 h.L.2.1 h.L.2.2, .int .i64 r.commit, .slice h.O.1 h.O.2.1 h.O.2.2, .slice h.A.1 h.A.2.1 h.A.2.2, .slice h.D.1 h.D.2.1 h.D.2.2] rfl ?_); intro b0 W0 N0; have ob0 := N0.ge; have B := N0.below; obtain ⟨X0, c0⟩ := N0.c; clear N0) | fail)
 refine (mailForm2_is _).mono ?_
 rintro e w2 ⟨rfl, BB⟩
 replace X0 := X0.below BB
 replace c0 := X0.cell
 replace X1 := X1.below BB
 replace c1 := X1.cell
 replace B := below_next B BB
 clear BB
 go_wp2_with (first | ((with_reducible refine sm 159 X2 0 [.bool true, .bool false, .bool false, .bool false, .bool false] ?_); intro V1 S; replace X0 := X0.kp S.kept; replace c0 := X0.cell; replace X1 := X1.kp S.kept; replace c1 := X1.cell; replace X2 : Bx V1 b2 [.bool true, .bool false, .bool false, .bool false, .bool false] := S.bx; replace c2 := X2.cell; replace f2 := X2.froz; replace B := bkp B S.kept; clear S) | ((have g := ob1); clear g; (with_reducible refine al 159 [.bool false, .bool false, .bool false, .bool false, .bool false] ?_); intro b2 W2 N2; have ob2 := N2.o B; have o0_b2 := N2.u X0; have o1_b2 := N2.u X1; replace X0 := N2.r X0; replace c0 := X0.cell; replace X1 := N2.r X1; replace c1 := X1.cell; replace B := N2.n B; obtain ⟨X2, c2, f2⟩ := N2.a; clear N2) | fail)
 by_cases q5 : 0 ≤ fr ∧ fr ≤ r.size - 1
 rotate_left 1
 ·have e := tail_no HT.out (fun z => q5 z.1.1)
  subst e
  clear HT
  refine (isIdOf_is r.size fr hS _ false (by simp only [decide_eq_false_eq]; exact q5)).mono ?_
  rintro e W9 ⟨rfl, rfl⟩
  go_wp2
  go_ret
  exact ⟨rfl, B⟩
 refine (isIdOf_is r.size fr hS _ true (by simp only [decide_eq_true_eq]; exact q5)).mono ?_
 rintro e W9 ⟨rfl, rfl⟩
 by_cases q6 : fr = r.id
 ·have e := tail_no HT.out (fun z => z.1.2.1 q6)
  subst e
  clear HT
  have q6' : (fr == r.id) = true := by simp [q6]
  clear q6
  go_wp2
  go_ret
  exact ⟨rfl, B⟩
 have q6' : (fr == r.id) = false := by simp [q6]
 have Q6 : Hid _ := q6
 clear q6
 go_wp2_with fail
 by_cases q7 : 0 ≤ view ∧ view ≤ 200
 rotate_left 1
 ·have e := tail_no HT.out (fun z => q7 z.1.2.2)
  subst e
  clear HT
  refine (isView_is view _ false (by simp only [decide_eq_false_eq]; exact q7)).mono ?_
  rintro e W9 ⟨rfl, rfl⟩
  go_wp2
  go_ret
  exact ⟨rfl, B⟩
 refine (isView_is view _ true (by simp only [decide_eq_true_eq]; exact q7)).mono ?_
 rintro e W9 ⟨rfl, rfl⟩
 have HM : Hid (numsM r ⟨2, fr, r.id, view, at_, has, en, last, log, commit⟩) := ⟨q5, Q6.out, q7⟩
 go_wp2_with fail
 obtain ⟨nb, hnb⟩ : ∃ nb, decide (numF true false ⟨2, fr, r.id, view, at_, has, en, last, log, commit⟩) = nb := ⟨_, rfl⟩
 have HN : Hid _ := hnb
 clear hnb
 refine (hasNumbers_is true false false false false ⟨2, fr, r.id, view, at_, has, en, last, log, commit⟩ hm _ nb HN.out).mono ?_
 rintro e w3 ⟨rfl, BB⟩
 replace X0 := X0.below BB
 replace c0 := X0.cell
 replace X1 := X1.below BB
 replace c1 := X1.cell
 replace X2 := X2.below BB
 replace c2 := X2.cell
 replace f2 := X2.froz
 replace B := below_next B BB
 clear BB
 cases nb
 ·have e := tail_no HT.out (fun z => of_decide_eq_false HN.out z.2)
  subst e
  clear HT
  go_wp2
  go_ret
  exact ⟨rfl, B⟩
 go_wp2_with fail
 obtain ⟨c, hc⟩ : ∃ c, agrF false false ⟨2, fr, r.id, view, at_, has, en, last, log, commit⟩ = c := ⟨_, rfl⟩
 have HC : Hid _ := hc
 clear hc
 refine (agreedFault_is true false false false false ⟨2, fr, r.id, view, at_, has, en, last, log, commit⟩ hm _ (y.below B) c HC.out).mono ?_
 rintro e w4 ⟨rfl, BB⟩
 replace X0 := X0.below BB
 replace c0 := X0.cell
 replace X1 := X1.below BB
 replace c1 := X1.cell
 replace X2 := X2.below BB
 replace c2 := X2.cell
 replace f2 := X2.froz
 replace B := below_next B BB
 clear BB
 by_cases q8 : c = 0
 rotate_left 1
 ·have e := tail_agr HT.out HM.out (of_decide_eq_true HN.out) HC.out q8
  subst e
  clear HT
  have q8' : (d != 0) = true := by simp [q8]
  go_wp2
  go_ret
  exact ⟨rfl, B⟩
 subst q8
 obtain ⟨eb, heb⟩ : ∃ eb, decide (excF true false false false false ⟨2, fr, r.id, view, at_, has, en, last, log, commit⟩) = eb := ⟨_, rfl⟩
 have HB : Hid _ := heb
 clear heb
 have e := tail_exc HT.out HM.out (of_decide_eq_true HN.out) HC.out (fun z => absurd z.1 (by simp)) HB.out
 subst e
 clear HT
 go_wp2_with fail
 refine (isExc2_is ⟨2, fr, r.id, view, at_, has, en, last, log, commit⟩ hm HL.out _ eb HB.out).mono ?_
 rintro e w6 ⟨rfl, BB⟩
 replace X0 := X0.below BB
 replace c0 := X0.cell
 replace X1 := X1.below BB
 replace c1 := X1.cell
 replace X2 := X2.below BB
 replace c2 := X2.cell
 replace f2 := X2.froz
 replace B := below_next B BB
 clear BB
 cases eb
 ·go_wp2
  go_ret
  exact ⟨rfl, B⟩
 ·go_wp2
  go_ret
  exact ⟨rfl, B⟩
theorem mailAt3_is {o2 : Bool} {l2 u2 : Nat} (r : Rep) (h : RH) (fr view at_ : Int) (has : Bool) (en : En) (last : Int) (log : List En) (commit : Int) (hm : Hd) (hS : 1 ≤ r.size ∧ r.size ≤ 5) (w : World) (y : RowAt w o2 l2 u2 6 hm.1 hm.2.1 hm.2.2 (sixs log)) (d : Int) (HT : Hid (tailF false false false false false r ⟨3, fr, r.id, view, at_, has, en, last, log, commit⟩ = d)) : Calls Try.prog 103 #[.agg #[.int .i64 r.id, .int .i64 r.size, .int .i64 r.view, .bool r.normal, .int .i64 r.last, .slice h.L.1 h.L.2.1 h.L.2.2, .int .i64 r.commit, .slice h.O.1 h.O.2.1 h.O.2.2, .slice h.A.1 h.A.2.1 h.A.2.2, .slice h.D.1 h.D.2.1 h.D.2.2], .agg #[.int .i64 3, .int .i64 fr, .int .i64 r.id, .int .i64 view, .int .i64 at_, .bool has, .int .i64 en.1, .int .i64 en.2.1, .int .i64 en.2.2.1, .int .i64 en.2.2.2.1, .int .i64 en.2.2.2.2.1, .int .i64 en.2.2.2.2.2, .int .i64 last, .slice hm.1 hm.2.1 hm.2.2, .int .i64 commit]] w fun e w' => e = .returned (.int .i64 d) ∧ Below w.heap.size w w' := by
 have hL := y.nSixs
 have HL : Hid _ := hL
 clear hL
 have q4' : (r.id != r.id) = false := by simp
 go_enter Try.func103, Try.ntmps103
 go_wp2_with (first | ((have g := ob0); clear g; (with_reducible refine box_newX 99 [.int .i64 3, .int .i64 fr, .int .i64 r.id, .int .i64 view, .int .i64 at_, .bool has, .int .i64 en.1, .int .i64 en.2.1, .int .i64 en.2.2.1, .int .i64 en.2.2.2.1, .int .i64 en.2.2.2.2.1, .int .i64 en.2.2.2.2.2, .int .i64 last, .slice hm.1 hm.2.1 hm.2.2, .int .i64 commit] rfl ?_); intro b1 W1 N1; have ob1 := N1.o B; have o0_b1 := N1.u X0; replace X0 := N1.r X0; replace c0 := X0.cell; replace B := N1.n B; obtain ⟨X1, c1⟩ := N1.c; clear N1) | ((with_reducible refine box_newX 29 [.int .i64 r.id, .int .i64 r.size, .int .i64 r.view, .bool r.normal, .int .i64 r.last, .slice h.L.1 h.L.2.1 h.L.2.2, .int .i64 r.commit, .slice h.O.1 h.O.2.1 h.O.2.2, .slice h.A.1 h.A.2.1 h.A.2.2, .slice h.D.1 h.D.2.1 h.D.2.2] rfl ?_); intro b0 W0 N0; have ob0 := N0.ge; have B := N0.below; obtain ⟨X0, c0⟩ := N0.c; clear N0) | fail)
 refine (mailForm3_is _).mono ?_
 rintro e w2 ⟨rfl, BB⟩
 replace X0 := X0.below BB
 replace c0 := X0.cell
 replace X1 := X1.below BB
 replace c1 := X1.cell
 replace B := below_next B BB
 clear BB
 go_wp2_with (first | ((with_reducible refine sm 159 X2 0 [.bool false, .bool false, .bool false, .bool false, .bool false] ?_); intro V1 S; replace X0 := X0.kp S.kept; replace c0 := X0.cell; replace X1 := X1.kp S.kept; replace c1 := X1.cell; replace X2 : Bx V1 b2 [.bool false, .bool false, .bool false, .bool false, .bool false] := S.bx; replace c2 := X2.cell; replace f2 := X2.froz; replace B := bkp B S.kept; clear S) | ((have g := ob1); clear g; (with_reducible refine al 159 [.bool false, .bool false, .bool false, .bool false, .bool false] ?_); intro b2 W2 N2; have ob2 := N2.o B; have o0_b2 := N2.u X0; have o1_b2 := N2.u X1; replace X0 := N2.r X0; replace c0 := X0.cell; replace X1 := N2.r X1; replace c1 := X1.cell; replace B := N2.n B; obtain ⟨X2, c2, f2⟩ := N2.a; clear N2) | fail)
 by_cases q5 : 0 ≤ fr ∧ fr ≤ r.size - 1
 rotate_left 1
 ·have e := tail_no HT.out (fun z => q5 z.1.1)
  subst e
  clear HT
  refine (isIdOf_is r.size fr hS _ false (by simp only [decide_eq_false_eq]; exact q5)).mono ?_
  rintro e W9 ⟨rfl, rfl⟩
  go_wp2
  go_ret
  exact ⟨rfl, B⟩
 refine (isIdOf_is r.size fr hS _ true (by simp only [decide_eq_true_eq]; exact q5)).mono ?_
 rintro e W9 ⟨rfl, rfl⟩
 by_cases q6 : fr = r.id
 ·have e := tail_no HT.out (fun z => z.1.2.1 q6)
  subst e
  clear HT
  have q6' : (fr == r.id) = true := by simp [q6]
  clear q6
  go_wp2
  go_ret
  exact ⟨rfl, B⟩
 have q6' : (fr == r.id) = false := by simp [q6]
 have Q6 : Hid _ := q6
 clear q6
 go_wp2_with fail
 by_cases q7 : 0 ≤ view ∧ view ≤ 200
 rotate_left 1
 ·have e := tail_no HT.out (fun z => q7 z.1.2.2)
  subst e
  clear HT
  refine (isView_is view _ false (by simp only [decide_eq_false_eq]; exact q7)).mono ?_
  rintro e W9 ⟨rfl, rfl⟩
  go_wp2
  go_ret
  exact ⟨rfl, B⟩
 refine (isView_is view _ true (by simp only [decide_eq_true_eq]; exact q7)).mono ?_
 rintro e W9 ⟨rfl, rfl⟩
 have HM : Hid (numsM r ⟨3, fr, r.id, view, at_, has, en, last, log, commit⟩) := ⟨q5, Q6.out, q7⟩
 go_wp2_with fail
 obtain ⟨nb, hnb⟩ : ∃ nb, decide (numF false false ⟨3, fr, r.id, view, at_, has, en, last, log, commit⟩) = nb := ⟨_, rfl⟩
 have HN : Hid _ := hnb
 clear hnb
 refine (hasNumbers_is false false false false false ⟨3, fr, r.id, view, at_, has, en, last, log, commit⟩ hm _ nb HN.out).mono ?_
 rintro e w3 ⟨rfl, BB⟩
 replace X0 := X0.below BB
 replace c0 := X0.cell
 replace X1 := X1.below BB
 replace c1 := X1.cell
 replace X2 := X2.below BB
 replace c2 := X2.cell
 replace f2 := X2.froz
 replace B := below_next B BB
 clear BB
 cases nb
 ·have e := tail_no HT.out (fun z => of_decide_eq_false HN.out z.2)
  subst e
  clear HT
  go_wp2
  go_ret
  exact ⟨rfl, B⟩
 go_wp2_with fail
 obtain ⟨c, hc⟩ : ∃ c, agrF false false ⟨3, fr, r.id, view, at_, has, en, last, log, commit⟩ = c := ⟨_, rfl⟩
 have HC : Hid _ := hc
 clear hc
 refine (agreedFault_is false false false false false ⟨3, fr, r.id, view, at_, has, en, last, log, commit⟩ hm _ (y.below B) c HC.out).mono ?_
 rintro e w4 ⟨rfl, BB⟩
 replace X0 := X0.below BB
 replace c0 := X0.cell
 replace X1 := X1.below BB
 replace c1 := X1.cell
 replace X2 := X2.below BB
 replace c2 := X2.cell
 replace f2 := X2.froz
 replace B := below_next B BB
 clear BB
 by_cases q8 : c = 0
 rotate_left 1
 ·have e := tail_agr HT.out HM.out (of_decide_eq_true HN.out) HC.out q8
  subst e
  clear HT
  have q8' : (d != 0) = true := by simp [q8]
  go_wp2
  go_ret
  exact ⟨rfl, B⟩
 subst q8
 obtain ⟨eb, heb⟩ : ∃ eb, decide (excF false false false false false ⟨3, fr, r.id, view, at_, has, en, last, log, commit⟩) = eb := ⟨_, rfl⟩
 have HB : Hid _ := heb
 clear heb
 have e := tail_exc HT.out HM.out (of_decide_eq_true HN.out) HC.out (fun z => absurd z.1 (by simp)) HB.out
 subst e
 clear HT
 go_wp2_with fail
 refine (isExc3_is ⟨3, fr, r.id, view, at_, has, en, last, log, commit⟩ hm HL.out _ eb HB.out).mono ?_
 rintro e w6 ⟨rfl, BB⟩
 replace X0 := X0.below BB
 replace c0 := X0.cell
 replace X1 := X1.below BB
 replace c1 := X1.cell
 replace X2 := X2.below BB
 replace c2 := X2.cell
 replace f2 := X2.froz
 replace B := below_next B BB
 clear BB
 cases eb
 ·go_wp2
  go_ret
  exact ⟨rfl, B⟩
 ·go_wp2
  go_ret
  exact ⟨rfl, B⟩
theorem mailAt4_is {o2 : Bool} {l2 u2 : Nat} (r : Rep) (h : RH) (fr view at_ : Int) (has : Bool) (en : En) (last : Int) (log : List En) (commit : Int) (hm : Hd) (hS : 1 ≤ r.size ∧ r.size ≤ 5) (w : World) (y : RowAt w o2 l2 u2 6 hm.1 hm.2.1 hm.2.2 (sixs log)) (d : Int) (HT : Hid (tailF false false true true true r ⟨4, fr, r.id, view, at_, has, en, last, log, commit⟩ = d)) : Calls Try.prog 103 #[.agg #[.int .i64 r.id, .int .i64 r.size, .int .i64 r.view, .bool r.normal, .int .i64 r.last, .slice h.L.1 h.L.2.1 h.L.2.2, .int .i64 r.commit, .slice h.O.1 h.O.2.1 h.O.2.2, .slice h.A.1 h.A.2.1 h.A.2.2, .slice h.D.1 h.D.2.1 h.D.2.2], .agg #[.int .i64 4, .int .i64 fr, .int .i64 r.id, .int .i64 view, .int .i64 at_, .bool has, .int .i64 en.1, .int .i64 en.2.1, .int .i64 en.2.2.1, .int .i64 en.2.2.2.1, .int .i64 en.2.2.2.2.1, .int .i64 en.2.2.2.2.2, .int .i64 last, .slice hm.1 hm.2.1 hm.2.2, .int .i64 commit]] w fun e w' => e = .returned (.int .i64 d) ∧ Below w.heap.size w w' := by
 have hL := y.nSixs
 have HL : Hid _ := hL
 clear hL
 have q4' : (r.id != r.id) = false := by simp
 go_enter Try.func103, Try.ntmps103
 go_wp2_with (first | ((have g := ob0); clear g; (with_reducible refine box_newX 99 [.int .i64 4, .int .i64 fr, .int .i64 r.id, .int .i64 view, .int .i64 at_, .bool has, .int .i64 en.1, .int .i64 en.2.1, .int .i64 en.2.2.1, .int .i64 en.2.2.2.1, .int .i64 en.2.2.2.2.1, .int .i64 en.2.2.2.2.2, .int .i64 last, .slice hm.1 hm.2.1 hm.2.2, .int .i64 commit] rfl ?_); intro b1 W1 N1; have ob1 := N1.o B; have o0_b1 := N1.u X0; replace X0 := N1.r X0; replace c0 := X0.cell; replace B := N1.n B; obtain ⟨X1, c1⟩ := N1.c; clear N1) | ((with_reducible refine box_newX 29 [.int .i64 r.id, .int .i64 r.size, .int .i64 r.view, .bool r.normal, .int .i64 r.last, .slice h.L.1 h.L.2.1 h.L.2.2, .int .i64 r.commit, .slice h.O.1 h.O.2.1 h.O.2.2, .slice h.A.1 h.A.2.1 h.A.2.2, .slice h.D.1 h.D.2.1 h.D.2.2] rfl ?_); intro b0 W0 N0; have ob0 := N0.ge; have B := N0.below; obtain ⟨X0, c0⟩ := N0.c; clear N0) | fail)
 refine (mailForm4_is _).mono ?_
 rintro e w2 ⟨rfl, BB⟩
 replace X0 := X0.below BB
 replace c0 := X0.cell
 replace X1 := X1.below BB
 replace c1 := X1.cell
 replace B := below_next B BB
 clear BB
 go_wp2_with (first | ((with_reducible refine sm 159 X2 0 [.bool false, .bool false, .bool true, .bool true, .bool true] ?_); intro V1 S; replace X0 := X0.kp S.kept; replace c0 := X0.cell; replace X1 := X1.kp S.kept; replace c1 := X1.cell; replace X2 : Bx V1 b2 [.bool false, .bool false, .bool true, .bool true, .bool true] := S.bx; replace c2 := X2.cell; replace f2 := X2.froz; replace B := bkp B S.kept; clear S) | ((have g := ob1); clear g; (with_reducible refine al 159 [.bool false, .bool false, .bool false, .bool false, .bool false] ?_); intro b2 W2 N2; have ob2 := N2.o B; have o0_b2 := N2.u X0; have o1_b2 := N2.u X1; replace X0 := N2.r X0; replace c0 := X0.cell; replace X1 := N2.r X1; replace c1 := X1.cell; replace B := N2.n B; obtain ⟨X2, c2, f2⟩ := N2.a; clear N2) | fail)
 by_cases q5 : 0 ≤ fr ∧ fr ≤ r.size - 1
 rotate_left 1
 ·have e := tail_no HT.out (fun z => q5 z.1.1)
  subst e
  clear HT
  refine (isIdOf_is r.size fr hS _ false (by simp only [decide_eq_false_eq]; exact q5)).mono ?_
  rintro e W9 ⟨rfl, rfl⟩
  go_wp2
  go_ret
  exact ⟨rfl, B⟩
 refine (isIdOf_is r.size fr hS _ true (by simp only [decide_eq_true_eq]; exact q5)).mono ?_
 rintro e W9 ⟨rfl, rfl⟩
 by_cases q6 : fr = r.id
 ·have e := tail_no HT.out (fun z => z.1.2.1 q6)
  subst e
  clear HT
  have q6' : (fr == r.id) = true := by simp [q6]
  clear q6
  go_wp2
  go_ret
  exact ⟨rfl, B⟩
 have q6' : (fr == r.id) = false := by simp [q6]
 have Q6 : Hid _ := q6
 clear q6
 go_wp2_with fail
 by_cases q7 : 0 ≤ view ∧ view ≤ 200
 rotate_left 1
 ·have e := tail_no HT.out (fun z => q7 z.1.2.2)
  subst e
  clear HT
  refine (isView_is view _ false (by simp only [decide_eq_false_eq]; exact q7)).mono ?_
  rintro e W9 ⟨rfl, rfl⟩
  go_wp2
  go_ret
  exact ⟨rfl, B⟩
 refine (isView_is view _ true (by simp only [decide_eq_true_eq]; exact q7)).mono ?_
 rintro e W9 ⟨rfl, rfl⟩
 have HM : Hid (numsM r ⟨4, fr, r.id, view, at_, has, en, last, log, commit⟩) := ⟨q5, Q6.out, q7⟩
 go_wp2_with fail
 obtain ⟨nb, hnb⟩ : ∃ nb, decide (numF false true ⟨4, fr, r.id, view, at_, has, en, last, log, commit⟩) = nb := ⟨_, rfl⟩
 have HN : Hid _ := hnb
 clear hnb
 refine (hasNumbers_is false false true true true ⟨4, fr, r.id, view, at_, has, en, last, log, commit⟩ hm _ nb HN.out).mono ?_
 rintro e w3 ⟨rfl, BB⟩
 replace X0 := X0.below BB
 replace c0 := X0.cell
 replace X1 := X1.below BB
 replace c1 := X1.cell
 replace X2 := X2.below BB
 replace c2 := X2.cell
 replace f2 := X2.froz
 replace B := below_next B BB
 clear BB
 cases nb
 ·have e := tail_no HT.out (fun z => of_decide_eq_false HN.out z.2)
  subst e
  clear HT
  go_wp2
  go_ret
  exact ⟨rfl, B⟩
 go_wp2_with fail
 obtain ⟨c, hc⟩ : ∃ c, agrF true true ⟨4, fr, r.id, view, at_, has, en, last, log, commit⟩ = c := ⟨_, rfl⟩
 have HC : Hid _ := hc
 clear hc
 refine (agreedFault_is false false true true true ⟨4, fr, r.id, view, at_, has, en, last, log, commit⟩ hm _ (y.below B) c HC.out).mono ?_
 rintro e w4 ⟨rfl, BB⟩
 replace X0 := X0.below BB
 replace c0 := X0.cell
 replace X1 := X1.below BB
 replace c1 := X1.cell
 replace X2 := X2.below BB
 replace c2 := X2.cell
 replace f2 := X2.froz
 replace B := below_next B BB
 clear BB
 by_cases q8 : c = 0
 rotate_left 1
 ·have e := tail_agr HT.out HM.out (of_decide_eq_true HN.out) HC.out q8
  subst e
  clear HT
  have q8' : (d != 0) = true := by simp [q8]
  go_wp2
  go_ret
  exact ⟨rfl, B⟩
 subst q8
 obtain ⟨eb, heb⟩ : ∃ eb, decide (excF false false true true true ⟨4, fr, r.id, view, at_, has, en, last, log, commit⟩) = eb := ⟨_, rfl⟩
 have HB : Hid _ := heb
 clear heb
 have e := tail_exc HT.out HM.out (of_decide_eq_true HN.out) HC.out (fun z => absurd z.1 (by simp)) HB.out
 subst e
 clear HT
 go_wp2_with fail
 refine (isExc4_is ⟨4, fr, r.id, view, at_, has, en, last, log, commit⟩ hm HL.out _ eb HB.out).mono ?_
 rintro e w6 ⟨rfl, BB⟩
 replace X0 := X0.below BB
 replace c0 := X0.cell
 replace X1 := X1.below BB
 replace c1 := X1.cell
 replace X2 := X2.below BB
 replace c2 := X2.cell
 replace f2 := X2.froz
 replace B := below_next B BB
 clear BB
 cases eb
 ·go_wp2
  go_ret
  exact ⟨rfl, B⟩
 ·go_wp2
  go_ret
  exact ⟨rfl, B⟩
theorem mailAt5_is {o2 : Bool} {l2 u2 : Nat} (r : Rep) (h : RH) (fr view at_ : Int) (has : Bool) (en : En) (last : Int) (log : List En) (commit : Int) (hm : Hd) (hS : 1 ≤ r.size ∧ r.size ≤ 5) (w : World) (y : RowAt w o2 l2 u2 6 hm.1 hm.2.1 hm.2.2 (sixs log)) (d : Int) (HT : Hid (tailF false false false true true r ⟨5, fr, r.id, view, at_, has, en, last, log, commit⟩ = d)) : Calls Try.prog 103 #[.agg #[.int .i64 r.id, .int .i64 r.size, .int .i64 r.view, .bool r.normal, .int .i64 r.last, .slice h.L.1 h.L.2.1 h.L.2.2, .int .i64 r.commit, .slice h.O.1 h.O.2.1 h.O.2.2, .slice h.A.1 h.A.2.1 h.A.2.2, .slice h.D.1 h.D.2.1 h.D.2.2], .agg #[.int .i64 5, .int .i64 fr, .int .i64 r.id, .int .i64 view, .int .i64 at_, .bool has, .int .i64 en.1, .int .i64 en.2.1, .int .i64 en.2.2.1, .int .i64 en.2.2.2.1, .int .i64 en.2.2.2.2.1, .int .i64 en.2.2.2.2.2, .int .i64 last, .slice hm.1 hm.2.1 hm.2.2, .int .i64 commit]] w fun e w' => e = .returned (.int .i64 d) ∧ Below w.heap.size w w' := by
 have hL := y.nSixs
 have HL : Hid _ := hL
 clear hL
 have q4' : (r.id != r.id) = false := by simp
 go_enter Try.func103, Try.ntmps103
 go_wp2_with (first | ((have g := ob0); clear g; (with_reducible refine box_newX 99 [.int .i64 5, .int .i64 fr, .int .i64 r.id, .int .i64 view, .int .i64 at_, .bool has, .int .i64 en.1, .int .i64 en.2.1, .int .i64 en.2.2.1, .int .i64 en.2.2.2.1, .int .i64 en.2.2.2.2.1, .int .i64 en.2.2.2.2.2, .int .i64 last, .slice hm.1 hm.2.1 hm.2.2, .int .i64 commit] rfl ?_); intro b1 W1 N1; have ob1 := N1.o B; have o0_b1 := N1.u X0; replace X0 := N1.r X0; replace c0 := X0.cell; replace B := N1.n B; obtain ⟨X1, c1⟩ := N1.c; clear N1) | ((with_reducible refine box_newX 29 [.int .i64 r.id, .int .i64 r.size, .int .i64 r.view, .bool r.normal, .int .i64 r.last, .slice h.L.1 h.L.2.1 h.L.2.2, .int .i64 r.commit, .slice h.O.1 h.O.2.1 h.O.2.2, .slice h.A.1 h.A.2.1 h.A.2.2, .slice h.D.1 h.D.2.1 h.D.2.2] rfl ?_); intro b0 W0 N0; have ob0 := N0.ge; have B := N0.below; obtain ⟨X0, c0⟩ := N0.c; clear N0) | fail)
 refine (mailForm5_is _).mono ?_
 rintro e w2 ⟨rfl, BB⟩
 replace X0 := X0.below BB
 replace c0 := X0.cell
 replace X1 := X1.below BB
 replace c1 := X1.cell
 replace B := below_next B BB
 clear BB
 go_wp2_with (first | ((with_reducible refine sm 159 X2 0 [.bool false, .bool false, .bool false, .bool true, .bool true] ?_); intro V1 S; replace X0 := X0.kp S.kept; replace c0 := X0.cell; replace X1 := X1.kp S.kept; replace c1 := X1.cell; replace X2 : Bx V1 b2 [.bool false, .bool false, .bool false, .bool true, .bool true] := S.bx; replace c2 := X2.cell; replace f2 := X2.froz; replace B := bkp B S.kept; clear S) | ((have g := ob1); clear g; (with_reducible refine al 159 [.bool false, .bool false, .bool false, .bool false, .bool false] ?_); intro b2 W2 N2; have ob2 := N2.o B; have o0_b2 := N2.u X0; have o1_b2 := N2.u X1; replace X0 := N2.r X0; replace c0 := X0.cell; replace X1 := N2.r X1; replace c1 := X1.cell; replace B := N2.n B; obtain ⟨X2, c2, f2⟩ := N2.a; clear N2) | fail)
 by_cases q5 : 0 ≤ fr ∧ fr ≤ r.size - 1
 rotate_left 1
 ·have e := tail_no HT.out (fun z => q5 z.1.1)
  subst e
  clear HT
  refine (isIdOf_is r.size fr hS _ false (by simp only [decide_eq_false_eq]; exact q5)).mono ?_
  rintro e W9 ⟨rfl, rfl⟩
  go_wp2
  go_ret
  exact ⟨rfl, B⟩
 refine (isIdOf_is r.size fr hS _ true (by simp only [decide_eq_true_eq]; exact q5)).mono ?_
 rintro e W9 ⟨rfl, rfl⟩
 by_cases q6 : fr = r.id
 ·have e := tail_no HT.out (fun z => z.1.2.1 q6)
  subst e
  clear HT
  have q6' : (fr == r.id) = true := by simp [q6]
  clear q6
  go_wp2
  go_ret
  exact ⟨rfl, B⟩
 have q6' : (fr == r.id) = false := by simp [q6]
 have Q6 : Hid _ := q6
 clear q6
 go_wp2_with fail
 by_cases q7 : 0 ≤ view ∧ view ≤ 200
 rotate_left 1
 ·have e := tail_no HT.out (fun z => q7 z.1.2.2)
  subst e
  clear HT
  refine (isView_is view _ false (by simp only [decide_eq_false_eq]; exact q7)).mono ?_
  rintro e W9 ⟨rfl, rfl⟩
  go_wp2
  go_ret
  exact ⟨rfl, B⟩
 refine (isView_is view _ true (by simp only [decide_eq_true_eq]; exact q7)).mono ?_
 rintro e W9 ⟨rfl, rfl⟩
 have HM : Hid (numsM r ⟨5, fr, r.id, view, at_, has, en, last, log, commit⟩) := ⟨q5, Q6.out, q7⟩
 go_wp2_with fail
 obtain ⟨nb, hnb⟩ : ∃ nb, decide (numF false false ⟨5, fr, r.id, view, at_, has, en, last, log, commit⟩) = nb := ⟨_, rfl⟩
 have HN : Hid _ := hnb
 clear hnb
 refine (hasNumbers_is false false false true true ⟨5, fr, r.id, view, at_, has, en, last, log, commit⟩ hm _ nb HN.out).mono ?_
 rintro e w3 ⟨rfl, BB⟩
 replace X0 := X0.below BB
 replace c0 := X0.cell
 replace X1 := X1.below BB
 replace c1 := X1.cell
 replace X2 := X2.below BB
 replace c2 := X2.cell
 replace f2 := X2.froz
 replace B := below_next B BB
 clear BB
 cases nb
 ·have e := tail_no HT.out (fun z => of_decide_eq_false HN.out z.2)
  subst e
  clear HT
  go_wp2
  go_ret
  exact ⟨rfl, B⟩
 go_wp2_with fail
 obtain ⟨c, hc⟩ : ∃ c, agrF true true ⟨5, fr, r.id, view, at_, has, en, last, log, commit⟩ = c := ⟨_, rfl⟩
 have HC : Hid _ := hc
 clear hc
 refine (agreedFault_is false false false true true ⟨5, fr, r.id, view, at_, has, en, last, log, commit⟩ hm _ (y.below B) c HC.out).mono ?_
 rintro e w4 ⟨rfl, BB⟩
 replace X0 := X0.below BB
 replace c0 := X0.cell
 replace X1 := X1.below BB
 replace c1 := X1.cell
 replace X2 := X2.below BB
 replace c2 := X2.cell
 replace f2 := X2.froz
 replace B := below_next B BB
 clear BB
 by_cases q8 : c = 0
 rotate_left 1
 ·have e := tail_agr HT.out HM.out (of_decide_eq_true HN.out) HC.out q8
  subst e
  clear HT
  have q8' : (d != 0) = true := by simp [q8]
  go_wp2
  go_ret
  exact ⟨rfl, B⟩
 subst q8
 obtain ⟨eb, heb⟩ : ∃ eb, decide (excF false false false true true ⟨5, fr, r.id, view, at_, has, en, last, log, commit⟩) = eb := ⟨_, rfl⟩
 have HB : Hid _ := heb
 clear heb
 have e := tail_exc HT.out HM.out (of_decide_eq_true HN.out) HC.out (fun z => absurd z.1 (by simp)) HB.out
 subst e
 clear HT
 go_wp2_with fail
 refine (isExc5_is ⟨5, fr, r.id, view, at_, has, en, last, log, commit⟩ hm HL.out _ eb HB.out).mono ?_
 rintro e w6 ⟨rfl, BB⟩
 replace X0 := X0.below BB
 replace c0 := X0.cell
 replace X1 := X1.below BB
 replace c1 := X1.cell
 replace X2 := X2.below BB
 replace c2 := X2.cell
 replace f2 := X2.froz
 replace B := below_next B BB
 clear BB
 cases eb
 ·go_wp2
  go_ret
  exact ⟨rfl, B⟩
 ·go_wp2
  go_ret
  exact ⟨rfl, B⟩
theorem mailAt6_is {o2 : Bool} {l2 u2 : Nat} (r : Rep) (h : RH) (fr view at_ : Int) (has : Bool) (en : En) (last : Int) (log : List En) (commit : Int) (hm : Hd) (hS : 1 ≤ r.size ∧ r.size ≤ 5) (w : World) (y : RowAt w o2 l2 u2 6 hm.1 hm.2.1 hm.2.2 (sixs log)) (d : Int) (HT : Hid (tailF false false false false false r ⟨6, fr, r.id, view, at_, has, en, last, log, commit⟩ = d)) : Calls Try.prog 103 #[.agg #[.int .i64 r.id, .int .i64 r.size, .int .i64 r.view, .bool r.normal, .int .i64 r.last, .slice h.L.1 h.L.2.1 h.L.2.2, .int .i64 r.commit, .slice h.O.1 h.O.2.1 h.O.2.2, .slice h.A.1 h.A.2.1 h.A.2.2, .slice h.D.1 h.D.2.1 h.D.2.2], .agg #[.int .i64 6, .int .i64 fr, .int .i64 r.id, .int .i64 view, .int .i64 at_, .bool has, .int .i64 en.1, .int .i64 en.2.1, .int .i64 en.2.2.1, .int .i64 en.2.2.2.1, .int .i64 en.2.2.2.2.1, .int .i64 en.2.2.2.2.2, .int .i64 last, .slice hm.1 hm.2.1 hm.2.2, .int .i64 commit]] w fun e w' => e = .returned (.int .i64 d) ∧ Below w.heap.size w w' := by
 have hL := y.nSixs
 have HL : Hid _ := hL
 clear hL
 have q4' : (r.id != r.id) = false := by simp
 go_enter Try.func103, Try.ntmps103
 go_wp2_with (first | ((have g := ob0); clear g; (with_reducible refine box_newX 99 [.int .i64 6, .int .i64 fr, .int .i64 r.id, .int .i64 view, .int .i64 at_, .bool has, .int .i64 en.1, .int .i64 en.2.1, .int .i64 en.2.2.1, .int .i64 en.2.2.2.1, .int .i64 en.2.2.2.2.1, .int .i64 en.2.2.2.2.2, .int .i64 last, .slice hm.1 hm.2.1 hm.2.2, .int .i64 commit] rfl ?_); intro b1 W1 N1; have ob1 := N1.o B; have o0_b1 := N1.u X0; replace X0 := N1.r X0; replace c0 := X0.cell; replace B := N1.n B; obtain ⟨X1, c1⟩ := N1.c; clear N1) | ((with_reducible refine box_newX 29 [.int .i64 r.id, .int .i64 r.size, .int .i64 r.view, .bool r.normal, .int .i64 r.last, .slice h.L.1 h.L.2.1 h.L.2.2, .int .i64 r.commit, .slice h.O.1 h.O.2.1 h.O.2.2, .slice h.A.1 h.A.2.1 h.A.2.2, .slice h.D.1 h.D.2.1 h.D.2.2] rfl ?_); intro b0 W0 N0; have ob0 := N0.ge; have B := N0.below; obtain ⟨X0, c0⟩ := N0.c; clear N0) | fail)
 refine (mailForm6_is _).mono ?_
 rintro e w2 ⟨rfl, BB⟩
 replace X0 := X0.below BB
 replace c0 := X0.cell
 replace X1 := X1.below BB
 replace c1 := X1.cell
 replace B := below_next B BB
 clear BB
 go_wp2_with (first | ((with_reducible refine sm 159 X2 0 [.bool false, .bool false, .bool false, .bool false, .bool false] ?_); intro V1 S; replace X0 := X0.kp S.kept; replace c0 := X0.cell; replace X1 := X1.kp S.kept; replace c1 := X1.cell; replace X2 : Bx V1 b2 [.bool false, .bool false, .bool false, .bool false, .bool false] := S.bx; replace c2 := X2.cell; replace f2 := X2.froz; replace B := bkp B S.kept; clear S) | ((have g := ob1); clear g; (with_reducible refine al 159 [.bool false, .bool false, .bool false, .bool false, .bool false] ?_); intro b2 W2 N2; have ob2 := N2.o B; have o0_b2 := N2.u X0; have o1_b2 := N2.u X1; replace X0 := N2.r X0; replace c0 := X0.cell; replace X1 := N2.r X1; replace c1 := X1.cell; replace B := N2.n B; obtain ⟨X2, c2, f2⟩ := N2.a; clear N2) | fail)
 by_cases q5 : 0 ≤ fr ∧ fr ≤ r.size - 1
 rotate_left 1
 ·have e := tail_no HT.out (fun z => q5 z.1.1)
  subst e
  clear HT
  refine (isIdOf_is r.size fr hS _ false (by simp only [decide_eq_false_eq]; exact q5)).mono ?_
  rintro e W9 ⟨rfl, rfl⟩
  go_wp2
  go_ret
  exact ⟨rfl, B⟩
 refine (isIdOf_is r.size fr hS _ true (by simp only [decide_eq_true_eq]; exact q5)).mono ?_
 rintro e W9 ⟨rfl, rfl⟩
 by_cases q6 : fr = r.id
 ·have e := tail_no HT.out (fun z => z.1.2.1 q6)
  subst e
  clear HT
  have q6' : (fr == r.id) = true := by simp [q6]
  clear q6
  go_wp2
  go_ret
  exact ⟨rfl, B⟩
 have q6' : (fr == r.id) = false := by simp [q6]
 have Q6 : Hid _ := q6
 clear q6
 go_wp2_with fail
 by_cases q7 : 0 ≤ view ∧ view ≤ 200
 rotate_left 1
 ·have e := tail_no HT.out (fun z => q7 z.1.2.2)
  subst e
  clear HT
  refine (isView_is view _ false (by simp only [decide_eq_false_eq]; exact q7)).mono ?_
  rintro e W9 ⟨rfl, rfl⟩
  go_wp2
  go_ret
  exact ⟨rfl, B⟩
 refine (isView_is view _ true (by simp only [decide_eq_true_eq]; exact q7)).mono ?_
 rintro e W9 ⟨rfl, rfl⟩
 have HM : Hid (numsM r ⟨6, fr, r.id, view, at_, has, en, last, log, commit⟩) := ⟨q5, Q6.out, q7⟩
 go_wp2_with fail
 obtain ⟨nb, hnb⟩ : ∃ nb, decide (numF false false ⟨6, fr, r.id, view, at_, has, en, last, log, commit⟩) = nb := ⟨_, rfl⟩
 have HN : Hid _ := hnb
 clear hnb
 refine (hasNumbers_is false false false false false ⟨6, fr, r.id, view, at_, has, en, last, log, commit⟩ hm _ nb HN.out).mono ?_
 rintro e w3 ⟨rfl, BB⟩
 replace X0 := X0.below BB
 replace c0 := X0.cell
 replace X1 := X1.below BB
 replace c1 := X1.cell
 replace X2 := X2.below BB
 replace c2 := X2.cell
 replace f2 := X2.froz
 replace B := below_next B BB
 clear BB
 cases nb
 ·have e := tail_no HT.out (fun z => of_decide_eq_false HN.out z.2)
  subst e
  clear HT
  go_wp2
  go_ret
  exact ⟨rfl, B⟩
 go_wp2_with fail
 obtain ⟨c, hc⟩ : ∃ c, agrF false false ⟨6, fr, r.id, view, at_, has, en, last, log, commit⟩ = c := ⟨_, rfl⟩
 have HC : Hid _ := hc
 clear hc
 refine (agreedFault_is false false false false false ⟨6, fr, r.id, view, at_, has, en, last, log, commit⟩ hm _ (y.below B) c HC.out).mono ?_
 rintro e w4 ⟨rfl, BB⟩
 replace X0 := X0.below BB
 replace c0 := X0.cell
 replace X1 := X1.below BB
 replace c1 := X1.cell
 replace X2 := X2.below BB
 replace c2 := X2.cell
 replace f2 := X2.froz
 replace B := below_next B BB
 clear BB
 by_cases q8 : c = 0
 rotate_left 1
 ·have e := tail_agr HT.out HM.out (of_decide_eq_true HN.out) HC.out q8
  subst e
  clear HT
  have q8' : (d != 0) = true := by simp [q8]
  go_wp2
  go_ret
  exact ⟨rfl, B⟩
 subst q8
 obtain ⟨eb, heb⟩ : ∃ eb, decide (excF false false false false false ⟨6, fr, r.id, view, at_, has, en, last, log, commit⟩) = eb := ⟨_, rfl⟩
 have HB : Hid _ := heb
 clear heb
 have e := tail_exc HT.out HM.out (of_decide_eq_true HN.out) HC.out (fun z => absurd z.1 (by simp)) HB.out
 subst e
 clear HT
 go_wp2_with fail
 refine (isExc3_is ⟨6, fr, r.id, view, at_, has, en, last, log, commit⟩ hm HL.out _ eb HB.out).mono ?_
 rintro e w6 ⟨rfl, BB⟩
 replace X0 := X0.below BB
 replace c0 := X0.cell
 replace X1 := X1.below BB
 replace c1 := X1.cell
 replace X2 := X2.below BB
 replace c2 := X2.cell
 replace f2 := X2.froz
 replace B := below_next B BB
 clear BB
 cases eb
 ·go_wp2
  go_ret
  exact ⟨rfl, B⟩
 ·go_wp2
  go_ret
  exact ⟨rfl, B⟩
theorem mailAt_is {o2 : Bool} {l2 u2 : Nat} (r : Rep) (h : RH) (m : Ml) (hm : Hd) (hS : 1 ≤ r.size ∧ r.size ≤ 5) (w : World) (y : RowAt w o2 l2 u2 6 hm.1 hm.2.1 hm.2.2 (sixs m.log)) (d : Int) (hd : mailAtF r m = d) : Calls Try.prog 103 #[.agg #[.int .i64 r.id, .int .i64 r.size, .int .i64 r.view, .bool r.normal, .int .i64 r.last, .slice h.L.1 h.L.2.1 h.L.2.2, .int .i64 r.commit, .slice h.O.1 h.O.2.1 h.O.2.2, .slice h.A.1 h.A.2.1 h.A.2.2, .slice h.D.1 h.D.2.1 h.D.2.2], .agg #[.int .i64 m.kind, .int .i64 m.fr, .int .i64 m.to, .int .i64 m.view, .int .i64 m.at_, .bool m.has, .int .i64 m.en.1, .int .i64 m.en.2.1, .int .i64 m.en.2.2.1, .int .i64 m.en.2.2.2.1, .int .i64 m.en.2.2.2.2.1, .int .i64 m.en.2.2.2.2.2, .int .i64 m.last, .slice hm.1 hm.2.1 hm.2.2, .int .i64 m.commit]] w fun e w' => e = .returned (.int .i64 d) ∧ Below w.heap.size w w' := by
 have hL := y.nSixs
 have HL : Hid _ := hL
 clear hL
 unfold mailAtF at hd
 obtain ⟨kind, fr, to, view, at_, has, en, last, log, commit⟩ := m
 simp only at hd y HL
 by_cases q1 : 1 ≤ kind ∧ kind ≤ 6
 rotate_left 1
 ·rw [if_neg (fun z => q1 z.1)] at hd
  subst hd
  by_cases q2 : kind < 1
  ·go_enter Try.func103, Try.ntmps103
   go_wp2_with (first | ((have g := ob0); clear g; (with_reducible refine box_newX 99 [.int .i64 kind, .int .i64 fr, .int .i64 to, .int .i64 view, .int .i64 at_, .bool has, .int .i64 en.1, .int .i64 en.2.1, .int .i64 en.2.2.1, .int .i64 en.2.2.2.1, .int .i64 en.2.2.2.2.1, .int .i64 en.2.2.2.2.2, .int .i64 last, .slice hm.1 hm.2.1 hm.2.2, .int .i64 commit] rfl ?_); intro b1 W1 N1; have ob1 := N1.o B; have o0_b1 := N1.u X0; replace X0 := N1.r X0; replace c0 := X0.cell; replace B := N1.n B; obtain ⟨X1, c1⟩ := N1.c; clear N1) | ((with_reducible refine box_newX 29 [.int .i64 r.id, .int .i64 r.size, .int .i64 r.view, .bool r.normal, .int .i64 r.last, .slice h.L.1 h.L.2.1 h.L.2.2, .int .i64 r.commit, .slice h.O.1 h.O.2.1 h.O.2.2, .slice h.A.1 h.A.2.1 h.A.2.2, .slice h.D.1 h.D.2.1 h.D.2.2] rfl ?_); intro b0 W0 N0; have ob0 := N0.ge; have B := N0.below; obtain ⟨X0, c0⟩ := N0.c; clear N0))
   go_ret
   exact ⟨rfl, B⟩
  ·have q3 : 6 < kind := by omega
   go_enter Try.func103, Try.ntmps103
   go_wp2_with (first | ((have g := ob0); clear g; (with_reducible refine box_newX 99 [.int .i64 kind, .int .i64 fr, .int .i64 to, .int .i64 view, .int .i64 at_, .bool has, .int .i64 en.1, .int .i64 en.2.1, .int .i64 en.2.2.1, .int .i64 en.2.2.2.1, .int .i64 en.2.2.2.2.1, .int .i64 en.2.2.2.2.2, .int .i64 last, .slice hm.1 hm.2.1 hm.2.2, .int .i64 commit] rfl ?_); intro b1 W1 N1; have ob1 := N1.o B; have o0_b1 := N1.u X0; replace X0 := N1.r X0; replace c0 := X0.cell; replace B := N1.n B; obtain ⟨X1, c1⟩ := N1.c; clear N1) | ((with_reducible refine box_newX 29 [.int .i64 r.id, .int .i64 r.size, .int .i64 r.view, .bool r.normal, .int .i64 r.last, .slice h.L.1 h.L.2.1 h.L.2.2, .int .i64 r.commit, .slice h.O.1 h.O.2.1 h.O.2.2, .slice h.A.1 h.A.2.1 h.A.2.2, .slice h.D.1 h.D.2.1 h.D.2.2] rfl ?_); intro b0 W0 N0; have ob0 := N0.ge; have B := N0.below; obtain ⟨X0, c0⟩ := N0.c; clear N0))
   go_ret
   exact ⟨rfl, B⟩
 have q2 : ¬ kind < 1 := by omega
 have q3 : ¬ 6 < kind := by omega
 by_cases q4 : to = r.id
 rotate_left 1
 ·rw [if_neg (fun z => q4 z.2)] at hd
  subst hd
  have q4' : (to != r.id) = true := by simp [q4]
  go_enter Try.func103, Try.ntmps103
  go_wp2_with (first | ((have g := ob0); clear g; (with_reducible refine box_newX 99 [.int .i64 kind, .int .i64 fr, .int .i64 to, .int .i64 view, .int .i64 at_, .bool has, .int .i64 en.1, .int .i64 en.2.1, .int .i64 en.2.2.1, .int .i64 en.2.2.2.1, .int .i64 en.2.2.2.2.1, .int .i64 en.2.2.2.2.2, .int .i64 last, .slice hm.1 hm.2.1 hm.2.2, .int .i64 commit] rfl ?_); intro b1 W1 N1; have ob1 := N1.o B; have o0_b1 := N1.u X0; replace X0 := N1.r X0; replace c0 := X0.cell; replace B := N1.n B; obtain ⟨X1, c1⟩ := N1.c; clear N1) | ((with_reducible refine box_newX 29 [.int .i64 r.id, .int .i64 r.size, .int .i64 r.view, .bool r.normal, .int .i64 r.last, .slice h.L.1 h.L.2.1 h.L.2.2, .int .i64 r.commit, .slice h.O.1 h.O.2.1 h.O.2.2, .slice h.A.1 h.A.2.1 h.A.2.2, .slice h.D.1 h.D.2.1 h.D.2.2] rfl ?_); intro b0 W0 N0; have ob0 := N0.ge; have B := N0.below; obtain ⟨X0, c0⟩ := N0.c; clear N0))
  go_ret
  exact ⟨rfl, B⟩
 rw [if_pos ⟨q1, q4⟩] at hd
 subst q4
 clear q2 q3
 rcases (by omega : kind = 1 ∨ kind = 2 ∨ kind = 3 ∨ kind = 4 ∨ kind = 5 ∨ kind = 6) with rfl | rfl | rfl | rfl | rfl | rfl
 ·exact mailAt1_is r h fr view at_ has en last log commit hm hS w y d (show tailF true true false false true r ⟨1, fr, r.id, view, at_, has, en, last, log, commit⟩ = d from hd)
 ·exact mailAt2_is r h fr view at_ has en last log commit hm hS w y d (show tailF true false false false false r ⟨2, fr, r.id, view, at_, has, en, last, log, commit⟩ = d from hd)
 ·exact mailAt3_is r h fr view at_ has en last log commit hm hS w y d (show tailF false false false false false r ⟨3, fr, r.id, view, at_, has, en, last, log, commit⟩ = d from hd)
 ·exact mailAt4_is r h fr view at_ has en last log commit hm hS w y d (show tailF false false true true true r ⟨4, fr, r.id, view, at_, has, en, last, log, commit⟩ = d from hd)
 ·exact mailAt5_is r h fr view at_ has en last log commit hm hS w y d (show tailF false false false true true r ⟨5, fr, r.id, view, at_, has, en, last, log, commit⟩ = d from hd)
 ·exact mailAt6_is r h fr view at_ has en last log commit hm hS w y d (show tailF false false false false false r ⟨6, fr, r.id, view, at_, has, en, last, log, commit⟩ = d from hd)
end Go.Proofs.Ytjefmhjlaibbkaa
