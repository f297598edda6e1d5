/- Small whole numbers as floats, and a block as a complex number: there and back. -/
import Derived.Test.YtlblbjebbecgbaaBase
import Derived.Laws.ComplexArith
namespace Go.Proofs.Ytlblbjebbecgbaa
open Go.RowKit

def numOf (p : Int × Int) : Value := .complex .f64 (floatOfInt .f64 p.1) (floatOfInt .f64 p.2)
def nums (bs : List (Int × Int)) : List Value := bs.map numOf
theorem fb_zero : floatOfInt .f64 0 = 0 := by decide +kernel
theorem fb_one : floatOfInt .f64 1 = 4607182418800017408 := by decide +kernel
theorem back_all : (List.range 257).all (fun n => decide (floatToIntVal .f64 (floatOfInt .f64 n) .i64 = some (n : Int))) = true := by decide +kernel
theorem add1_all : (List.range 257).all (fun n => decide (floatBits .add .f64 (floatOfInt .f64 n) (floatOfInt .f64 1) = some (floatOfInt .f64 (n + 1)))) = true := by decide +kernel
theorem add0_all : (List.range 257).all (fun n => decide (floatBits .add .f64 (floatOfInt .f64 n) (floatOfInt .f64 0) = some (floatOfInt .f64 n))) = true := by decide +kernel
theorem zadd_all : (List.range 257).all (fun n => decide (floatBits .add .f64 (floatOfInt .f64 0) (floatOfInt .f64 n) = some (floatOfInt .f64 n))) = true := by decide +kernel
theorem sub1_all : (List.range 257).all (fun n => decide (floatBits .sub .f64 (floatOfInt .f64 (n + 1)) (floatOfInt .f64 1) = some (floatOfInt .f64 n))) = true := by decide +kernel
theorem sub0_all : (List.range 257).all (fun n => decide (floatBits .sub .f64 (floatOfInt .f64 n) (floatOfInt .f64 0) = some (floatOfInt .f64 n))) = true := by decide +kernel
theorem ord_all : (List.range 257).all (fun n => decide ((FloatKind.f64.format.order (floatOfInt .f64 n) (floatOfInt .f64 0) == some .eq) = decide (n = 0))) = true := by decide +kernel
theorem ord2_all : (List.range 257).all (fun n => decide ((FloatKind.f64.format.order (floatOfInt .f64 0) (floatOfInt .f64 n) == some .eq) = decide (n = 0))) = true := by decide +kernel
theorem of_all {p : Nat → Bool} (h : (List.range 257).all p = true) {x : Int} (h0 : 0 ≤ x) (h1 : x ≤ 256) : p x.toNat = true := List.all_eq_true.1 h _ (List.mem_range.2 (by omega))
section
variable {x : Int} (h0 : 0 ≤ x) (h1 : x ≤ 256)
include h0 h1
theorem fb_back : floatToIntVal .f64 (floatOfInt .f64 x) .i64 = some x := by
  have := of_decide_eq_true (of_all back_all h0 h1)
  rwa [Int.toNat_of_nonneg h0] at this
theorem fb_add1 : floatBits .add .f64 (floatOfInt .f64 x) (floatOfInt .f64 1) = some (floatOfInt .f64 (x + 1)) := by
  have := of_decide_eq_true (of_all add1_all h0 h1)
  rwa [Int.toNat_of_nonneg h0] at this
theorem fb_add0 : floatBits .add .f64 (floatOfInt .f64 x) (floatOfInt .f64 0) = some (floatOfInt .f64 x) := by
  have := of_decide_eq_true (of_all add0_all h0 h1)
  rwa [Int.toNat_of_nonneg h0] at this
theorem fb_zadd : floatBits .add .f64 (floatOfInt .f64 0) (floatOfInt .f64 x) = some (floatOfInt .f64 x) := by
  have := of_decide_eq_true (of_all zadd_all h0 h1)
  rwa [Int.toNat_of_nonneg h0] at this
theorem fb_sub1 : floatBits .sub .f64 (floatOfInt .f64 (x + 1)) (floatOfInt .f64 1) = some (floatOfInt .f64 x) := by
  have := of_decide_eq_true (of_all sub1_all h0 h1)
  rwa [Int.toNat_of_nonneg h0] at this
theorem fb_sub0 : floatBits .sub .f64 (floatOfInt .f64 x) (floatOfInt .f64 0) = some (floatOfInt .f64 x) := by
  have := of_decide_eq_true (of_all sub0_all h0 h1)
  rwa [Int.toNat_of_nonneg h0] at this
theorem fb_ord : (FloatKind.f64.format.order (floatOfInt .f64 x) 0 == some .eq) = decide (x = 0) := by
  have := of_decide_eq_true (of_all ord_all h0 h1)
  rw [Int.toNat_of_nonneg h0, fb_zero] at this
  rw [this]
  exact decide_eq_decide.2 (by omega)
theorem fb_ord2 : (FloatKind.f64.format.order 0 (floatOfInt .f64 x) == some .eq) = decide (x = 0) := by
  have := of_decide_eq_true (of_all ord2_all h0 h1)
  rw [Int.toNat_of_nonneg h0, fb_zero] at this
  rw [this]
  exact decide_eq_decide.2 (by omega)
end
/-- within what a float tells exactly -/
def Small (p : Int × Int) : Prop := (0 ≤ p.1 ∧ p.1 ≤ 256) ∧ 0 ≤ p.2 ∧ p.2 ≤ 256
theorem num_more {p : Int × Int} (h : Small p) : cSumBits .add .f64 (floatOfInt .f64 p.1) (floatOfInt .f64 p.2) 4607182418800017408 0 = some (floatOfInt .f64 (p.1 + 1), floatOfInt .f64 p.2) := by
  unfold cSumBits
  rw [← fb_one, ← fb_zero, fb_add1 h.1.1 h.1.2, fb_add0 h.2.1 h.2.2]; rfl
theorem num_less {x y : Int} (h : Small (x, y)) : cSumBits .sub .f64 (floatOfInt .f64 (x + 1)) (floatOfInt .f64 y) 4607182418800017408 0 = some (floatOfInt .f64 x, floatOfInt .f64 y) := by
  unfold cSumBits
  rw [← fb_one, ← fb_zero, fb_sub1 h.1.1 h.1.2, fb_sub0 h.2.1 h.2.2]; rfl
theorem num_taken {y : Int} (h0 : 0 ≤ y) (h1 : y ≤ 256) : cSumBits .add .f64 4607182418800017408 0 0 (floatOfInt .f64 y) = some (floatOfInt .f64 1, floatOfInt .f64 y) := by
  unfold cSumBits
  rw [← fb_one, ← fb_zero, fb_add0 (by decide) (by decide), fb_zadd h0 h1]; rfl
theorem num_free {p : Int × Int} (h : Small p) (hz : p.1 = 0 → p.2 = 0) : ((FloatKind.f64.format.order (floatOfInt .f64 p.1) 0 == some .eq) && (FloatKind.f64.format.order (floatOfInt .f64 p.2) 0 == some .eq)) = decide (p.1 = 0) := by
  rw [fb_ord h.1.1 h.1.2, fb_ord h.2.1 h.2.2]
  by_cases e : p.1 = 0
  · simp [e, hz e]
  · simp [e]
theorem num_free2 {p : Int × Int} (h : Small p) (hz : p.1 = 0 → p.2 = 0) : ((FloatKind.f64.format.order 0 (floatOfInt .f64 p.1) == some .eq) && (FloatKind.f64.format.order 0 (floatOfInt .f64 p.2) == some .eq)) = decide (p.1 = 0) := by
  rw [fb_ord2 h.1.1 h.1.2, fb_ord2 h.2.1 h.2.2]
  by_cases e : p.1 = 0
  · simp [e, hz e]
  · simp [e]
theorem nums_len (bs : List (Int × Int)) : (nums bs).length = bs.length := by simp [nums]
theorem nums_getD (bs : List (Int × Int)) (k : Nat) (h : k < bs.length) : (nums bs).getD k default = numOf (bs.getD k (0, 0)) := by
  simp [nums, List.getD, h]
theorem nums_set (bs : List (Int × Int)) (k : Nat) (p : Int × Int) : (nums bs).set k (numOf p) = nums (bs.set k p) := by
  simp [nums, List.map_set]

end Go.Proofs.Ytlblbjebbecgbaa
