/- Chapter 8: two entries compared as structs. -/
import Derived.Test.YtjefmhjlaibbkaaXAR
import Derived.Laws.StructEq
set_option maxRecDepth 20000
set_option maxHeartbeats 16000000
namespace Go.Proofs.Ytjefmhjlaibbkaa
open Go.RowKit
theorem stoodEntry : Try.prog.stoodInHeld 97 = false := by kernel_rfl
theorem guardEntry : Try.prog.eqGuardType Try.prog.depth 97 = false := by kernel_rfl
def enA (x : En) : Array Value := #[.int .i64 x.1, .int .i64 x.2.1, .int .i64 x.2.2.1, .int .i64 x.2.2.2.1, .int .i64 x.2.2.2.2.1, .int .i64 x.2.2.2.2.2]
theorem eqlEntry (x y : En) (w : World) : (Op.equalIn 10000 97 (.agg (enA x)) (.agg (enA y))).run Try.prog w = .ok (decide (x = y)) w := by
 rw [run_equalIn_struct w 9999 97 _ _ (by kernel_rfl) stoodEntry]
 simp only [Program.fieldsOf, Try.underlying97]
 simp [enA, Op.eqFields, part, go_sem, Try.underlying95, Try.underlying2, Program.fieldsOf]
 obtain ⟨x0, x1, x2, x3, x4, x5⟩ := x
 obtain ⟨y0, y1, y2, y3, y4, y5⟩ := y
 simp only [Prod.mk.injEq]
 by_cases h0 : x0 = y0
 ·by_cases h1 : x1 = y1
  ·by_cases h2 : x2 = y2
   ·by_cases h3 : x3 = y3
    ·by_cases h4 : x4 = y4
     ·by_cases h5 : x5 = y5
      ·simp [h0, h1, h2, h3, h4, h5]
      ·simp [h0, h1, h2, h3, h4, h5]
     ·simp [h0, h1, h2, h3, h4]
    ·simp [h0, h1, h2, h3]
   ·simp [h0, h1, h2]
  ·simp [h0, h1]
 ·simp [h0]
theorem run_neEn (x0 x1 x2 x3 x4 x5 y0 y1 y2 y3 y4 y5 : Int) (b : Bool) (h : decide (((x0, x1, x2, x3, x4, x5) : En) = (y0, y1, y2, y3, y4, y5)) = b) (w : World) : (binOp .neq 97 (.agg #[.int .i64 x0, .int .i64 x1, .int .i64 x2, .int .i64 x3, .int .i64 x4, .int .i64 x5]) (.agg #[.int .i64 y0, .int .i64 y1, .int .i64 y2, .int .i64 y3, .int .i64 y4, .int .i64 y5])).run Try.prog w = .ok (.bool (!b)) w := by
 have := eqlEntry (x0, x1, x2, x3, x4, x5) (y0, y1, y2, y3, y4, y5) w
 rw [run_neq_struct, show (#[.int .i64 x0, .int .i64 x1, .int .i64 x2, .int .i64 x3, .int .i64 x4, .int .i64 x5] : Array Value) = enA (x0, x1, x2, x3, x4, x5) from rfl, show (#[.int .i64 y0, .int .i64 y1, .int .i64 y2, .int .i64 y3, .int .i64 y4, .int .i64 y5] : Array Value) = enA (y0, y1, y2, y3, y4, y5) from rfl, this, h]
 rfl
theorem run_guEn (op : BinOp) (x y : Operand) (xs ys : Array Value) (w : World) : (eqGuard op 97 x y (.agg xs) (.agg ys)).run Try.prog w = .ok () w := run_eqGuard_agg w op _ x y xs ys guardEntry
end Go.Proofs.Ytjefmhjlaibbkaa
