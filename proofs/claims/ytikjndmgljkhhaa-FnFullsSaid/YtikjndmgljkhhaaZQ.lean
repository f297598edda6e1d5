/- Small whole numbers as floats, and a block as a complex number: there and back. -/
import Derived.Test.YtikjndmgljkhhaaBase
import Derived.Laws.ComplexArith
import Derived.Test.YtikjndmgljkhhaaP2
import Derived.Test.YtikjndmgljkhhaaP3
import Derived.Test.YtikjndmgljkhhaaQ0
namespace Go.Proofs.Ytikjndmgljkhhaa
open Go.RowKit

def numOf (p : Int × Int) : Value := .complex .f64 (floatOfInt .f64 p.1) (floatOfInt .f64 p.2)
def nums (bs : List (Int × Int)) : List Value := bs.map numOf
theorem fb_zero : floatOfInt .f64 0 = 0 := by decide +kernel
theorem fb_one : floatOfInt .f64 1 = 4607182418800017408 := by decide +kernel
theorem back_all : (List.range 257).all (fun n => decide (floatToIntVal .f64 (floatOfInt .f64 n) .i64 = some (n : Int))) = true := by decide +kernel
theorem add1_all : (List.range 257).all (fun n => decide (floatBits .add .f64 (floatOfInt .f64 n) (floatOfInt .f64 1) = some (floatOfInt .f64 (n + 1)))) = true := by decide +kernel
theorem add0_all : (List.range 257).all (fun n => decide (floatBits .add .f64 (floatOfInt .f64 n) (floatOfInt .f64 0) = some (floatOfInt .f64 n))) = true := by decide +kernel
theorem zadd_all : (List.range 257).all (fun n => decide (floatBits .add .f64 (floatOfInt .f64 0) (floatOfInt .f64 n) = some (floatOfInt .f64 n))) = true := by decide +kernel
theorem sub1_all : (List.range 257).all (fun n => decide (floatBits .sub .f64 (floatOfInt .f64 (n + 1)) (floatOfInt .f64 1) = some (floatOfInt .f64 n))) = true := by decide +kernel
theorem sub0_all : (List.range 257).all (fun n => decide (floatBits .sub .f64 (floatOfInt .f64 n) (floatOfInt .f64 0) = some (floatOfInt .f64 n))) = true := by decide +kernel
theorem ord2_all : (List.range 257).all (fun n => decide ((FloatKind.f64.format.order (floatOfInt .f64 0) (floatOfInt .f64 n) == some .eq) = decide (n = 0))) = true := by decide +kernel
theorem of_all {p : Nat → Bool} (h : (List.range 257).all p = true) {x : Int} (h0 : 0 ≤ x) (h1 : x ≤ 256) : p x.toNat = true := List.all_eq_true.1 h _ (List.mem_range.2 (by omega))
section
variable {x : Int} (h0 : 0 ≤ x) (h1 : x ≤ 256)
include h0 h1
theorem fb_back : floatToIntVal .f64 (floatOfInt .f64 x) .i64 = some x := by
  have := of_decide_eq_true (of_all back_all h0 h1)
  rwa [Int.toNat_of_nonneg h0] at this
theorem fb_add1 : floatBits .add .f64 (floatOfInt .f64 x) (floatOfInt .f64 1) = some (floatOfInt .f64 (x + 1)) := by
  have := of_decide_eq_true (of_all add1_all h0 h1)
  rwa [Int.toNat_of_nonneg h0] at this
theorem fb_add0 : floatBits .add .f64 (floatOfInt .f64 x) (floatOfInt .f64 0) = some (floatOfInt .f64 x) := by
  have := of_decide_eq_true (of_all add0_all h0 h1)
  rwa [Int.toNat_of_nonneg h0] at this
theorem fb_zadd : floatBits .add .f64 (floatOfInt .f64 0) (floatOfInt .f64 x) = some (floatOfInt .f64 x) := by
  have := of_decide_eq_true (of_all zadd_all h0 h1)
  rwa [Int.toNat_of_nonneg h0] at this
theorem fb_sub1 : floatBits .sub .f64 (floatOfInt .f64 (x + 1)) (floatOfInt .f64 1) = some (floatOfInt .f64 x) := by
  have := of_decide_eq_true (of_all sub1_all h0 h1)
  rwa [Int.toNat_of_nonneg h0] at this
theorem fb_sub0 : floatBits .sub .f64 (floatOfInt .f64 x) (floatOfInt .f64 0) = some (floatOfInt .f64 x) := by
  have := of_decide_eq_true (of_all sub0_all h0 h1)
  rwa [Int.toNat_of_nonneg h0] at this
theorem fb_ord2 : (FloatKind.f64.format.order 0 (floatOfInt .f64 x) == some .eq) = decide (x = 0) := by
  have := of_decide_eq_true (of_all ord2_all h0 h1)
  rw [Int.toNat_of_nonneg h0, fb_zero] at this
  rw [this]
  exact decide_eq_decide.2 (by omega)
end
/-- within what a float tells exactly -/
def Small (p : Int × Int) : Prop := (0 ≤ p.1 ∧ p.1 ≤ 256) ∧ 0 ≤ p.2 ∧ p.2 ≤ 256
theorem num_more {p : Int × Int} (h : Small p) : cSumBits .add .f64 (floatOfInt .f64 p.1) (floatOfInt .f64 p.2) 4607182418800017408 0 = some (floatOfInt .f64 (p.1 + 1), floatOfInt .f64 p.2) := by
  unfold cSumBits
  rw [← fb_one, ← fb_zero, fb_add1 h.1.1 h.1.2, fb_add0 h.2.1 h.2.2]; rfl
theorem num_less {x y : Int} (h : Small (x, y)) : cSumBits .sub .f64 (floatOfInt .f64 (x + 1)) (floatOfInt .f64 y) 4607182418800017408 0 = some (floatOfInt .f64 x, floatOfInt .f64 y) := by
  unfold cSumBits
  rw [← fb_one, ← fb_zero, fb_sub1 h.1.1 h.1.2, fb_sub0 h.2.1 h.2.2]; rfl
theorem num_taken {y : Int} (h0 : 0 ≤ y) (h1 : y ≤ 256) : cSumBits .add .f64 4607182418800017408 0 0 (floatOfInt .f64 y) = some (floatOfInt .f64 1, floatOfInt .f64 y) := by
  unfold cSumBits
  rw [← fb_one, ← fb_zero, fb_add0 (by decide) (by decide), fb_zadd h0 h1]; rfl
theorem num_free2 {p : Int × Int} (h : Small p) (hz : p.1 = 0 → p.2 = 0) : ((FloatKind.f64.format.order 0 (floatOfInt .f64 p.1) == some .eq) && (FloatKind.f64.format.order 0 (floatOfInt .f64 p.2) == some .eq)) = decide (p.1 = 0) := by
  rw [fb_ord2 h.1.1 h.1.2, fb_ord2 h.2.1 h.2.2]
  by_cases e : p.1 = 0
  · simp [e, hz e]
  · simp [e]
theorem nums_len (bs : List (Int × Int)) : (nums bs).length = bs.length := by simp [nums]
theorem nums_getD (bs : List (Int × Int)) (k : Nat) (h : k < bs.length) : (nums bs).getD k default = numOf (bs.getD k (0, 0)) := by
  simp [nums, List.getD, h]
theorem nums_set (bs : List (Int × Int)) (k : Nat) (p : Int × Int) : (nums bs).set k (numOf p) = nums (bs.set k p) := by
  simp [nums, List.map_set]

end Go.Proofs.Ytikjndmgljkhhaa

/- Chapter 3: the program's smaller functions: blocks as complex numbers. -/
namespace Go.Proofs.Ytikjndmgljkhhaa
open Go.RowKit

theorem isRefs_is (x : Int) (w : World) (d : Bool) (h : refsB x = d) : Calls Try.prog 167 #[.int .i64 x] w fun e w' => e = .returned (.bool d) ∧ w' = w := by
  subst h
  unfold refsB
  by_cases h0 : 0 ≤ x
  · by_cases h1 : x ≤ 200
    · go_enter Try.func167, Try.ntmps167
      go_wp2
      go_ret
      exact ⟨ret_bool (by simp; omega), rfl⟩
    · go_enter Try.func167, Try.ntmps167
      go_wp2
      go_ret
      exact ⟨ret_bool (by simp; omega), rfl⟩
  · go_enter Try.func167, Try.ntmps167
    go_wp2
    go_ret
    exact ⟨ret_bool (by simp; omega), rfl⟩
theorem isData_is (x : Int) (w : World) (d : Bool) (h : dataB x = d) : Calls Try.prog 134 #[.int .i64 x] w fun e w' => e = .returned (.bool d) ∧ w' = w := by
  subst h
  unfold dataB
  by_cases h0 : 0 ≤ x
  · by_cases h1 : x ≤ 255
    · go_enter Try.func134, Try.ntmps134
      go_wp2
      go_ret
      exact ⟨ret_bool (by simp; omega), rfl⟩
    · go_enter Try.func134, Try.ntmps134
      go_wp2
      go_ret
      exact ⟨ret_bool (by simp; omega), rfl⟩
  · go_enter Try.func134, Try.ntmps134
    go_wp2
    go_ret
    exact ⟨ret_bool (by simp; omega), rfl⟩

theorem conv_back (b : Nat) (x : Int) (h : floatToIntVal .f64 b .i64 = some x) (w : World) : (convert 154 2 (.float .f64 b)).run Try.prog w = .ok (.int .i64 x) w :=
  run_convert_float_int w 154 2 .f64 .i64 b x (by rw [Try.underlying154]; rfl) Try.underlying2 h
theorem conv_num (a b : Nat) (w : World) : (convert 96 97 (.complex .f64 a b)).run Try.prog w = .ok (.complex .f64 a b) w :=
  run_convert_complex w 96 97 .f64 .f64 a b a b (by rw [Try.underlying96]; rfl) Try.underlying97 (by simp [cConvBits, floatToFloatBits])

theorem refs_is (a b : Nat) (x : Int) (w : World) (h : floatToIntVal .f64 a .i64 = some x) : Calls Try.prog 197 #[.complex .f64 a b] w fun e w' => e = .returned (.int .i64 x) ∧ w' = w := by
  have hc := conv_back a x h
  go_enter Try.func197, Try.ntmps197
  go_wp2_with (simp only [hc])
  all_goals (go_ret; exact ⟨rfl, rfl⟩)
theorem data_is (a b : Nat) (x : Int) (w : World) (h : floatToIntVal .f64 b .i64 = some x) : Calls Try.prog 198 #[.complex .f64 a b] w fun e w' => e = .returned (.int .i64 x) ∧ w' = w := by
  have hc := conv_back b x h
  go_enter Try.func198, Try.ntmps198
  go_wp2_with (simp only [hc])
  all_goals (go_ret; exact ⟨rfl, rfl⟩)
theorem takenBlock_is (x : Int) (w : World) (h0 : 0 ≤ x) (h1 : x ≤ 256) : Calls Try.prog 205 #[.int .i64 x] w fun e w' => e = .returned (numOf (1, x)) ∧ w' = w := by
  have hop := fun t w => run_complex_sum (P := Try.prog) w .add (Or.inl rfl) t .f64 _ _ _ _ _ _ (num_taken h0 h1)
  have hc := conv_num
  go_enter Try.func205, Try.ntmps205
  go_wp2_with (simp only [hop, hc])
  all_goals (go_ret; exact ⟨rfl, rfl⟩)
theorem dropped_is (p : Int × Int) (w : World) (h : Small p) (hz : p.1 ≠ 0) : Calls Try.prog 218 #[numOf p] w fun e w' => e = .returned (numOf (less1 p)) ∧ w' = w := by
  obtain ⟨x, y⟩ := p
  obtain ⟨⟨h0, h1⟩, h2, h3⟩ := h
  simp only at h0 h1 h2 h3 hz
  unfold numOf
  simp only
  by_cases e : x = 1
  · subst e
    have he : (numOf (less1 (1, y))) = .complex .f64 0 0 := by simp [numOf, less1, fb_zero]
    unfold numOf at he
    rw [he]
    have HB : Hid _ := fb_back h0 h1
    clear he
    go_enter Try.func218, Try.ntmps218
    go_wp2_with fail
    refine (refs_is _ _ 1 _ HB.out).mono ?_
    rintro e w1 ⟨rfl, rfl⟩
    go_wp2
    go_ret
    exact ⟨rfl, rfl⟩
  · have he : (numOf (less1 (x, y))) = .complex .f64 (floatOfInt .f64 (x - 1)) (floatOfInt .f64 y) := by rw [less1, if_neg (by simp; omega)]; rfl
    unfold numOf at he
    rw [he]
    have HB : Hid _ := fb_back h0 h1
    have hop := fun t w => run_complex_sum (P := Try.prog) w .sub (Or.inr rfl) t .f64 _ _ _ _ _ _ (num_less (x := x - 1) (y := y) ⟨⟨by simp; omega, by simp; omega⟩, h2, h3⟩)
    rw [show x - 1 + 1 = x by omega] at hop
    clear he
    go_enter Try.func218, Try.ntmps218
    go_wp2_with fail
    refine (refs_is _ _ x _ HB.out).mono ?_
    rintro e w1 ⟨rfl, rfl⟩
    go_wp2
    go_ret
    exact ⟨rfl, rfl⟩

theorem blockFault_is (x y : Int) (w : World) (r : Int) (h : blkOne (x, y) = r) : Calls Try.prog 105 #[.agg #[.int .i64 x, .int .i64 y]] w fun e w' => e = .returned (.int .i64 r) ∧ Below w.heap.size w w' := by
  have A : Below w.heap.size w (w.alloc (.cells #[.int .i64 x, .int .i64 y] 152)) := (Below.refl _ _).alloc (Nat.le_refl _) _
  cases hx : refsB x with
  | false =>
    have H1 : Hid _ := hx
    have hr : r = 3 := by rw [← h]; simp [blkOne, hx]
    subst hr
    clear hx h
    go_enter Try.func105, Try.ntmps105
    go_wp2_with fail
    refine (isRefs_is x _ false H1.out).mono ?_
    rintro e w1 ⟨rfl, rfl⟩
    go_wp2
    go_ret
    exact ⟨rfl, A⟩
  | true =>
    have H1 : Hid _ := hx
    cases hy : dataB y with
    | false =>
      have H2 : Hid _ := hy
      have hr : r = 3 := by rw [← h]; simp [blkOne, hy]
      subst hr
      clear hx hy h
      go_enter Try.func105, Try.ntmps105
      go_wp2_with fail
      refine (isRefs_is x _ true H1.out).mono ?_
      rintro e w1 ⟨rfl, rfl⟩
      go_wp2_with fail
      refine (isData_is y _ false H2.out).mono ?_
      rintro e w1 ⟨rfl, rfl⟩
      go_wp2
      go_ret
      exact ⟨rfl, A⟩
    | true =>
      have H2 : Hid _ := hy
      have HR : Hid ((if x = 0 ∧ y ≠ 0 then 1 else 0) = r) := by show _ = _; rw [← h]; simp [blkOne, hx, hy]
      clear hx hy h
      by_cases hz : x = 0
      · subst hz
        by_cases hz2 : y = 0
        · subst hz2
          have hr : r = 0 := by rw [← HR.out]; rfl
          subst hr
          go_enter Try.func105, Try.ntmps105
          go_wp2_with fail
          refine (isRefs_is 0 _ true H1.out).mono ?_
          rintro e w1 ⟨rfl, rfl⟩
          go_wp2_with fail
          refine (isData_is 0 _ true H2.out).mono ?_
          rintro e w1 ⟨rfl, rfl⟩
          go_wp2
          go_ret
          exact ⟨rfl, A⟩
        · have hr : r = 1 := by rw [← HR.out]; simp [hz2]
          subst hr
          have hne : (y != 0) = true := by simp [hz2]
          go_enter Try.func105, Try.ntmps105
          go_wp2_with fail
          refine (isRefs_is 0 _ true H1.out).mono ?_
          rintro e w1 ⟨rfl, rfl⟩
          go_wp2_with fail
          refine (isData_is y _ true H2.out).mono ?_
          rintro e w1 ⟨rfl, rfl⟩
          go_wp2
          go_ret
          exact ⟨rfl, A⟩
      · have hr : r = 0 := by rw [← HR.out]; simp [hz]
        subst hr
        go_enter Try.func105, Try.ntmps105
        go_wp2_with fail
        refine (isRefs_is x _ true H1.out).mono ?_
        rintro e w1 ⟨rfl, rfl⟩
        go_wp2_with fail
        refine (isData_is y _ true H2.out).mono ?_
        rintro e w1 ⟨rfl, rfl⟩
        go_wp2
        go_ret
        exact ⟨rfl, A⟩

end Go.Proofs.Ytikjndmgljkhhaa

/- Chapter 3: the program's BlocksFault; blocks as numbers and back. -/
namespace Go.Proofs.Ytikjndmgljkhhaa
open Go.RowKit

set_option maxRecDepth 20000 in
set_option maxHeartbeats 2000000 in
theorem implBF_any {o : Bool} {l u : Nat} (ao : Option Addr) (n cap : Nat) (bs : List (Int × Int)) (w : World) (h : RowAt w o l u 2 ao n cap (pairs bs)) (hn : n ≤ 2097152) :
    Calls Try.prog 47 #[.slice ao n cap] w fun e w' => e = .returned (.int .i64 (blkFault bs)) ∧ Below w.heap.size w w' := by
  have hl := h.nPairs
  by_cases h24 : 24 < n
  · have hr : blkFault bs = 2 := if_pos (by omega)
    rw [hr]
    have hi : (24 : Int) < n := by omega
    go_enter Try.func47, Try.ntmps47
    go_wp2
    go_ret
    exact ⟨rfl, Below.refl _ _⟩
  have hi : ¬ (24 : Int) < n := by omega
  have HR : Hid (blkFault bs = blkGo bs) := if_neg (by omega)
  go_enter Try.func47, Try.ntmps47
  go_wp2
  go_loopw [11] (fun i wr => ∃ k : Nat, k ≤ n ∧ i = .int .i64 k ∧ (∀ j, j < k → blkOne (bs.getD j (0, 0)) = 0) ∧ Below w.heap.size w wr) (fun i _ => n - (intOf i).toNat)
  case atStart => exact ⟨0, by omega, rfl, fun j hj => absurd hj (by omega), Below.refl _ _⟩
  case round =>
    obtain ⟨k, hk, rfl, ha, B⟩ := hrel
    have HA : Hid _ := ha
    clear ha
    by_cases hlt : k < n
    · obtain ⟨b, f, rfl, _, _, hbs, e1, e2, _⟩ := h.pair hlt
      replace e1 := (B.cell (p := ⟨b, f + k * 2, none⟩) hbs).trans e1
      replace e2 := (B.cell (p := ⟨b, f + k * 2 + 1, none⟩) hbs).trans e2
      have hlk : (k : Int) < (n : Int) := by omega
      have HF : Hid _ := blkGo_first bs k (by omega) HA.out
      have HN : Hid (blkOne (bs.getD k (0, 0)) = 0 → ∀ j, j < k + 1 → blkOne (bs.getD j (0, 0)) = 0) := fun h0 j hj => by
        by_cases e : j = k
        · subst e; exact h0
        · exact HA.out j (by omega)
      obtain ⟨⟨x, y⟩, hxy⟩ : ∃ p, bs.getD k (0, 0) = p := ⟨_, rfl⟩
      rw [hxy] at e1 e2 HF HN
      simp only at e1 e2
      clear hxy
      obtain ⟨r, hr⟩ : ∃ r, blkOne (x, y) = r := ⟨_, rfl⟩
      rw [hr] at HF HN
      have H0 : Hid _ := hr
      clear hr
      have A : Below w.heap.size w (wr.alloc (.cells #[.int .i64 x, .int .i64 y] 152)) := B.alloc B.size _
      by_cases hr0 : r = 0
      · subst hr0
        go_wp2_with fail
        refine (blockFault_is x y _ 0 H0.out).mono ?_
        rintro e w1 ⟨rfl, hb⟩
        replace A := below_next A hb
        clear hb
        go_wp2
        go_roundw
        case rel => exact ⟨k + 1, by omega, by go_num, HN.out trivial, A⟩
        case measure => simp [intOf]; omega
      · have hne : (r != 0) = true := by simp [hr0]
        have HH : Hid _ := HF.out hr0
        clear HF HN hr0
        go_wp2_with fail
        refine (blockFault_is x y _ r H0.out).mono ?_
        rintro e w1 ⟨rfl, hb⟩
        replace A := below_next A hb
        clear hb
        go_wp2
        go_ret
        exact ⟨ret_int (by rw [HR.out, HH.out]), A⟩
    · obtain rfl : k = n := by omega
      have HZ : Hid (blkGo bs = 0) := blkGo_zero bs fun j hj => HA.out j (by omega)
      go_wp2
      go_ret
      exact ⟨ret_int (by rw [HR.out, HZ.out]), B⟩

theorem implBF_b {o : Bool} {l u : Nat} (ao : Option Addr) (n cap : Nat) (bs : List (Int × Int)) (w : World) (h : RowAt w o l u 2 ao n cap (pairs bs)) (hn : n ≤ 2097152) (r : Int) (hr : blkFault bs = r) :
    Calls Try.prog 47 #[.slice ao n cap] w fun e w' => e = .returned (.int .i64 r) ∧ Below w.heap.size w w' := by rw [← hr]; exact implBF_any ao n cap bs w h hn

end Go.Proofs.Ytikjndmgljkhhaa

/- Chapter 3: the program's blocks as numbers, and the first free one. -/
namespace Go.Proofs.Ytikjndmgljkhhaa
open Go.RowKit

theorem RowAt.one {w : World} {own : Bool} {lo hi : Nat} {ao : Option Addr} {n cap : Nat} {cs : List Value} (h : RowAt w own lo hi 1 ao n cap cs) {k : Nat} (hk : k < n) :
    ∃ b off, ao = some ⟨b, off, none⟩ ∧ lo ≤ b ∧ b < hi ∧ b < w.heap.size ∧ w.cell? ⟨b, off + k, none⟩ = some (cs.getD k default) ∧ (own = true → w.frozen? ⟨b, off + k, none⟩ = false) := by
  obtain ⟨b, off, rfl, g1, g2, g3, g4, g5⟩ := h.cells (by omega)
  exact ⟨b, off, rfl, g1, g2, g3, g4 k (by omega), fun ho => g5 ho k (by omega)⟩
theorem RowAt.nNums {w : World} {own : Bool} {lo hi : Nat} {ao : Option Addr} {n cap : Nat} {bs : List (Int × Int)} (h : RowAt w own lo hi 1 ao n cap (nums bs)) : bs.length = n := by
  have hl := h.len; rw [nums_len, Nat.mul_one] at hl; exact hl
theorem cop_mid (cs : List Value) (z : Value) (m : Nat) (h : m < cs.length) : (cop cs z m).getD m default = z := by
  simp [List.getD, cop_get cs z m m (Nat.le_refl _) h]
theorem made_nums (n : Nat) : (madeCells #[Value.complex .f64 0 0] n).toList = List.replicate n (.complex .f64 0 0) := by
  apply List.ext_getElem?
  intro j
  by_cases hj : j < n
  · simp [madeCells, hj, Nat.mod_one]
  · simp [madeCells, hj]
theorem store_num {w : World} {a : Addr} {v : Value} (hc : w.cell? a = some v) (hf : w.frozen? a = false) (x y : Nat) (m : Mode) : (store a (.complex .f64 x y) m).run Try.prog w = .ok () (w.setCell a (.complex .f64 x y)) := by
  rw [run_store Try.prog w a _ m rfl, hc, hf]; rfl
theorem Try.infoNum : (Try.prog.info? 97).map (fun i => (i.zero, i.size, i.bytes)) = some (some (.complex .f64 0 0), 1, 16) := by kernel_rfl

set_option maxRecDepth 20000 in
set_option maxHeartbeats 2000000 in
theorem numbersOf_any {o : Bool} {l u : Nat} (ao : Option Addr) (n cap : Nat) (bs : List (Int × Int)) (w : World) (h : RowAt w o l u 2 ao n cap (pairs bs)) (hn : n ≤ 24) :
    Calls Try.prog 48 #[.slice ao n cap] w fun e w' => e = .returned (.slice (some ⟨w.heap.size, 0, none⟩) n n) ∧ RowAt w' true w.heap.size (w.heap.size + 1) 1 (some ⟨w.heap.size, 0, none⟩) n n (nums bs) ∧ Below w.heap.size w w' := by
  have hl := h.nPairs
  have hnl := nums_len bs
  obtain ⟨i0, hi0, hz0, hz1, hz2⟩ := info_parts Try.infoNum
  go_enter Try.func48, Try.ntmps48
  go_wp2_with (first | (at_make; refine wpList_make_full _ rfl _ _ 94 rfl w.heap.size 97 i0 (.complex .f64 0 0) 1 Try.underlying94 hi0 hz0 hz1 _ _ _ _ n rfl rfl rfl rfl ?b1 ?b2 ?b3 ?_))
  case b1 => rw [hz2]; omega
  case b2 => unfold maxLen; omega
  case b3 => exact Nat.le_refl _
  intro w1 hown hgrow
  have hb1 : Below w.heap.size w w1 := (Below.refl _ _).grown hgrow (Nat.le_refl _) (fun k hk => by cases hk)
  have R0 : RowAt w1 true w.heap.size (w.heap.size + 1) 1 (some ⟨w.heap.size, 0, none⟩) n n (cop (nums bs) (.complex .f64 0 0) 0) := by
    rw [cop_zero, hnl, hl, ← made_nums]; exact (RowAt.of_owns hown (Nat.le_refl _)).pin
  clear hown hgrow
  go_wp2
  go_loopw [11] (fun i wr => ∃ k : Nat, k ≤ n ∧ i = .int .i64 k ∧ RowAt wr true w.heap.size (w.heap.size + 1) 1 (some ⟨w.heap.size, 0, none⟩) n n (cop (nums bs) (.complex .f64 0 0) k) ∧ Below w.heap.size w wr) (fun i _ => n - (intOf i).toNat)
  case atStart => exact ⟨0, Nat.zero_le _, rfl, R0, hb1⟩
  case round =>
    obtain ⟨k, hk, rfl, R, B⟩ := hrel
    clear R0 hb1
    by_cases hlt : k < n
    · obtain ⟨b, f, rfl, _, _, hbs, e1, e2, _⟩ := h.pair hlt
      replace e1 := (B.cell (p := ⟨b, f + k * 2, none⟩) hbs).trans e1
      replace e2 := (B.cell (p := ⟨b, f + k * 2 + 1, none⟩) hbs).trans e2
      have hlk : (k : Int) < (n : Int) := by omega
      have hg := nums_getD bs k (by omega)
      obtain ⟨⟨x, y⟩, hxy⟩ : ∃ p, bs.getD k (0, 0) = p := ⟨_, rfl⟩
      rw [hxy] at e1 e2 hg
      simp only [numOf] at e1 e2 hg
      have A : Below wr.heap.size wr (wr.alloc (.cells #[.int .i64 x, .int .i64 y] 152)) := (Below.refl _ _).alloc (Nat.le_refl _) _
      have R1 := R.below A
      have B1 := B.trans (A.mono B.size)
      obtain ⟨_, _, e', _, _, _, c0, f0⟩ := R1.one hlt
      cases e'
      replace f0 := f0 rfl
      rw [cop_mid _ _ _ (by omega)] at c0
      have R2 := R1.stored (i := k) (by omega) (.complex .f64 (floatOfInt .f64 x) (floatOfInt .f64 y))
      rw [cop_set (nums bs) _ _ k (by omega) hg] at R2
      have B2 := B1.setCell (p := ⟨w.heap.size, k, none⟩) (Nat.le_refl _) (.complex .f64 (floatOfInt .f64 x) (floatOfInt .f64 y))
      rw [Nat.zero_add] at c0 f0 R2
      have hst := store_num c0 f0
      clear hxy hg R R1 A B B1
      go_wp2_with (simp only [hst])
      go_roundw
      case rel => exact ⟨k + 1, by omega, by go_num, R2, B2⟩
      case measure => simp [intOf]; omega
    · obtain rfl : k = n := by omega
      rw [show cop (nums bs) (.complex .f64 0 0) k = nums bs by rw [← hl, ← hnl, cop_all]] at R
      go_wp2
      go_ret
      exact ⟨rfl, R, B⟩

def Fine (bs : List (Int × Int)) : Prop := ∀ p ∈ bs, Small p ∧ (p.1 = 0 → p.2 = 0)
theorem fine_of {bs : List (Int × Int)} (h : blkGo bs = 0) : Fine bs := fun p hp => by
  obtain ⟨h1, h2, h3, h4, h5⟩ := blkOne_zero (blkGo_all h p hp)
  exact ⟨⟨⟨h1, by omega⟩, h3, by omega⟩, h5⟩
theorem Fine.at {bs : List (Int × Int)} (h : Fine bs) {k : Nat} (hk : k < bs.length) : Small (bs.getD k (0, 0)) ∧ ((bs.getD k (0, 0)).1 = 0 → (bs.getD k (0, 0)).2 = 0) :=
  h _ (by rw [List.getD_eq_getElem?_getD, List.getElem?_eq_getElem hk]; exact List.getElem_mem hk)

set_option maxHeartbeats 1000000 in
theorem index_any {o : Bool} {l u : Nat} (ao : Option Addr) (n cap : Nat) (bs : List (Int × Int)) (w : World) (h : RowAt w o l u 1 ao n cap (nums bs)) (hf : Fine bs) (hn : n ≤ 2097152) :
    Calls Try.prog 204 #[.slice ao n cap, .complex .f64 0 0] w fun e w' => ((∃ k : Nat, freeAt bs = some k ∧ k < n ∧ e = .returned (.int .i64 (k : Int))) ∨ (freeAt bs = none ∧ e = .returned (.int .i64 (-1)))) ∧ w' = w := by
  have hl := h.nNums
  go_enter Try.func204, Try.ntmps204
  go_wp2
  go_loop [8] (fun i => ∃ k : Nat, k ≤ n ∧ i = .int .i64 k ∧ ∀ j, j < k → (bs.getD j (0, 0)).1 ≠ 0) (fun i => n - (intOf i).toNat)
  case atStart => exact ⟨0, by omega, rfl, fun j hj => absurd hj (by omega)⟩
  case round =>
    obtain ⟨k, hk, rfl, ha⟩ := hrel
    have HA : Hid _ := ha
    clear ha
    by_cases hlt : k < n
    · obtain ⟨b, f, rfl, _, _, _, e1, _⟩ := h.one hlt
      have hlk : (k : Int) < (n : Int) := by omega
      have HF : Hid _ := freeAt_some bs k (by omega) HA.out
      have HN : Hid ((bs.getD k (0, 0)).1 ≠ 0 → ∀ j, j < k + 1 → (bs.getD j (0, 0)).1 ≠ 0) := fun h0 j hj => by
        by_cases e : j = k
        · subst e; exact h0
        · exact HA.out j (by omega)
      obtain ⟨g1, g2⟩ := hf.at (k := k) (by omega)
      have hq := num_free2 g1 g2
      rw [nums_getD bs k (by omega), numOf] at e1
      obtain ⟨⟨x, y⟩, hxy⟩ : ∃ p, bs.getD k (0, 0) = p := ⟨_, rfl⟩
      rw [hxy] at e1 hq HF HN
      simp only at e1 hq HF HN
      clear hxy g1 g2
      by_cases hz : x = 0
      · rw [decide_eq_true hz] at hq
        have HZ : Hid _ := hz
        clear hz
        go_wp2
        go_ret
        exact ⟨Or.inl ⟨k, HF.out HZ.out, hlt, rfl⟩, rfl⟩
      · rw [decide_eq_false hz] at hq
        have HZ : Hid _ := hz
        clear hz
        go_wp2
        go_round
        case rel => exact ⟨k + 1, by omega, by go_num, HN.out HZ.out⟩
        case measure => simp [intOf]; omega
    · obtain rfl : k = n := by omega
      have HZ : Hid (freeAt bs = none) := freeAt_none bs fun j hj => HA.out j (by omega)
      go_wp2
      go_ret
      exact ⟨Or.inr ⟨HZ.out, rfl⟩, rfl⟩

end Go.Proofs.Ytikjndmgljkhhaa

/- Chapter 3: the program's answer out of numbers; what sharing and dropping ask. -/
namespace Go.Proofs.Ytikjndmgljkhhaa
open Go.RowKit

set_option maxRecDepth 20000 in
set_option maxHeartbeats 2000000 in
theorem blocksAnswer_any {o : Bool} {l u : Nat} (x : Int) (ao : Option Addr) (n cap : Nat) (bs : List (Int × Int)) (w : World) (h : RowAt w o l u 1 ao n cap (nums bs)) (hs : ∀ p ∈ bs, Small p) (hn : n ≤ 24) :
    Calls Try.prog 165 #[.int .i64 x, .slice ao n cap] w fun e w' => BlkRes w w' e 0 x bs := by
  have hl := h.nNums
  have hpl := pairs_length bs
  have B : Below w.heap.size w (w.alloc (.cells #[.int .i64 0, .int .i64 0, .slice none 0 0] 144)) := (Below.refl _ _).alloc (Nat.le_refl _) _
  have z0 : (w.alloc (.cells #[.int .i64 0, .int .i64 0, .slice none 0 0] 144)).cell? ⟨w.heap.size, 0, none⟩ = some (.int .i64 0) := by simp
  have z1 : (w.alloc (.cells #[.int .i64 0, .int .i64 0, .slice none 0 0] 144)).cell? ⟨w.heap.size, 1, none⟩ = some (.int .i64 0) := by simp
  have z2 : (w.alloc (.cells #[.int .i64 0, .int .i64 0, .slice none 0 0] 144)).cell? ⟨w.heap.size, 2, none⟩ = some (.slice none 0 0) := by simp
  have y0 : (w.alloc (.cells #[.int .i64 0, .int .i64 0, .slice none 0 0] 144)).frozen? ⟨w.heap.size, 0, none⟩ = false := by simp
  have y1 : (w.alloc (.cells #[.int .i64 0, .int .i64 0, .slice none 0 0] 144)).frozen? ⟨w.heap.size, 1, none⟩ = false := by simp
  have y2 : (w.alloc (.cells #[.int .i64 0, .int .i64 0, .slice none 0 0] 144)).frozen? ⟨w.heap.size, 2, none⟩ = false := by simp
  have hz : w.heap.size < (w.alloc (.cells #[.int .i64 0, .int .i64 0, .slice none 0 0] 144)).heap.size := by simp
  obtain ⟨j0, hj0, hq0, hq1, hq2⟩ := info_parts Try.infoBlk
  go_enter Try.func165, Try.ntmps165
  go_wp2_with (first | (at_make; refine wpList_make_full _ rfl _ _ 26 rfl (w.heap.size + 1) 152 j0 (.agg #[.int .i64 0, .int .i64 0]) 2 Try.underlying26 hj0 hq0 hq1 _ _ _ _ n rfl rfl rfl rfl ?b1 ?b2 ?b3 ?_))
  case b1 => rw [hq2]; omega
  case b2 => unfold maxLen; omega
  case b3 => simp
  intro w2 hown hgrow
  have hb : Below (w.alloc (.cells #[.int .i64 0, .int .i64 0, .slice none 0 0] 144)).heap.size (w.alloc (.cells #[.int .i64 0, .int .i64 0, .slice none 0 0] 144)) w2 := (Below.refl _ _).grown hgrow (Nat.le_refl _) (fun k hk => by cases hk)
  replace z0 := cell_later hb z0
  replace z1 := cell_later hb z1
  replace z2 := cell_later hb z2
  replace y0 := frozen_later hb hz y0
  replace y1 := frozen_later hb hz y1
  replace y2 := frozen_later hb hz y2
  replace hz := Nat.lt_of_lt_of_le hz hb.size
  replace B := below_next B hb
  have hs1 : (w.alloc (.cells #[.int .i64 0, .int .i64 0, .slice none 0 0] 144)).heap.size = w.heap.size + 1 := by simp
  replace hown : w2.ownsRow (w.heap.size + 1) 152 2 (.slice (some ⟨w.heap.size + 1, 0, none⟩) n n) n (cop (pairs bs) (.int .i64 0) (0 * 2)) := by
    rw [Nat.zero_mul, cop_zero, hpl, hl]; simpa [Value.cells, made2] using hown
  have hlt2 : w.heap.size + 1 < w2.heap.size := (owns_lt hown).2
  have R0 : RowAt w2 true (w.heap.size + 1) (w.heap.size + 2) 2 (some ⟨w.heap.size + 1, 0, none⟩) n n (cop (pairs bs) (.int .i64 0) (0 * 2)) := (RowAt.of_owns hown (Nat.le_refl _)).pin
  clear hgrow hown hb hs1
  go_wp2
  go_loopw [13] (fun i wr => ∃ k : Nat, k ≤ n ∧ i = .int .i64 k ∧ RowAt wr true (w.heap.size + 1) (w.heap.size + 2) 2 (some ⟨w.heap.size + 1, 0, none⟩) n n (cop (pairs bs) (.int .i64 0) (k * 2)) ∧ Kept (w.heap.size + 1) (w.heap.size + 2) w2 wr) (fun i _ => n - (intOf i).toNat)
  case atStart => exact ⟨0, Nat.zero_le _, rfl, R0, Kept.refl _ _ _⟩
  case round =>
    obtain ⟨k, hk, rfl, R, K⟩ := hrel
    clear R0
    by_cases hlt : k < n
    · obtain ⟨b, f, rfl, _, _, hbs, e1, _⟩ := h.one hlt
      replace e1 := K.cell ((B.cell (p := ⟨b, f + k, none⟩) hbs).trans e1) (by omega)
      have hlk : (k : Int) < (n : Int) := by omega
      have hsm := hs (bs.getD k (0, 0)) (by rw [List.getD_eq_getElem?_getD, List.getElem?_eq_getElem (by omega)]; exact List.getElem_mem (by omega))
      have hg0 := pairs_getD0 bs k (by omega)
      have hg1 := pairs_getD1 bs k (by omega)
      rw [nums_getD bs k (by omega), numOf] at e1
      obtain ⟨⟨p, q⟩, hxy⟩ : ∃ p, bs.getD k (0, 0) = p := ⟨_, rfl⟩
      rw [hxy] at e1 hsm hg0 hg1
      simp only at e1 hg0 hg1
      have HP : Hid _ := fb_back hsm.1.1 hsm.1.2
      have HQ : Hid _ := fb_back hsm.2.1 hsm.2.2
      simp only at HP HQ
      obtain ⟨_, _, e', _, _, _, gc, gf⟩ := R.cells (by omega)
      cases e'
      have c0 := gc (k * 2) (by omega)
      have c1 := gc (k * 2 + 1) (by omega)
      have f0 := gf rfl (k * 2) (by omega)
      have f1 := gf rfl (k * 2 + 1) (by omega)
      have R2 := (R.stored (i := k * 2) (by omega) (.int .i64 p)).stored (i := k * 2 + 1) (by omega) (.int .i64 q)
      rw [cop_set _ _ _ (k * 2) (by omega) hg0, cop_set _ _ _ (k * 2 + 1) (by omega) hg1, show k * 2 + 1 + 1 = (k + 1) * 2 by omega] at R2
      rw [Nat.zero_add] at c0 c1 f0 f1
      rw [Nat.zero_add, Nat.zero_add] at R2
      have K2 : Kept (w.heap.size + 1) (w.heap.size + 2) w2 ((wr.setCell ⟨w.heap.size + 1, k * 2, none⟩ (.int .i64 p)).setCell ⟨w.heap.size + 1, k * 2 + 1, none⟩ (.int .i64 q)) := by
        refine Kept.setCell (Kept.setCell K ?_ ?_ _) ?_ ?_ _ <;> simp
      clear hxy hsm hg0 hg1 R K gc gf
      go_wp2_with fail
      refine (refs_is _ _ p _ HP.out).mono ?_
      rintro e w1 ⟨rfl, rfl⟩
      go_wp2_with fail
      refine (data_is _ _ q _ HQ.out).mono ?_
      rintro e w1 ⟨rfl, rfl⟩
      go_wp2
      go_roundw
      case rel => exact ⟨k + 1, by omega, by go_num, R2, K2⟩
      case measure => simp [intOf]; omega
    · obtain rfl : k = n := by omega
      rw [show cop (pairs bs) (.int .i64 0) (k * 2) = pairs bs by rw [← hl, ← hpl, cop_all]] at R
      replace z0 := K.cell z0 (by simp)
      replace z1 := K.cell z1 (by simp)
      replace z2 := K.cell z2 (by simp)
      replace y0 := K.frozen hz (by omega) y0
      replace y1 := K.frozen hz (by omega) y1
      replace y2 := K.frozen hz (by omega) y2
      replace B := B.trans (K.below _ (by omega) (by omega))
      have hs2 := K.size
      clear K
      go_wp2
      refine bodyPost_ret (v := .agg #[.int .i64 0, .int .i64 x, .slice (some ⟨w.heap.size + 1, 0, none⟩) k k]) (by simp [results, Try.results165, go_sem, z0, z1, z2]) rfl ⟨_, _, _, rfl, ?_, ?_⟩
      · refine RowAt.widen (RowAt.kept R (l := w.heap.size) (u := w.heap.size + 1) ?_ (by omega)) (by omega) ?_
        · refine Kept.setCell (Kept.setCell (Kept.setCell (Kept.refl _ _ _) ?_ ?_ _) ?_ ?_ _) ?_ ?_ _ <;> simp
        · simp; omega
      · refine Below.setCell (Below.setCell (Below.setCell B ?_ _) ?_ _) ?_ _ <;> simp

end Go.Proofs.Ytikjndmgljkhhaa

/- Chapter 3: what sharing and dropping ask; how many are free; new blocks: the program's answers. -/
namespace Go.Proofs.Ytikjndmgljkhhaa
open Go.RowKit

set_option maxHeartbeats 1000000 in
theorem takenFault_is {o : Bool} {l u : Nat} (ao : Option Addr) (n cap : Nat) (bs : List (Int × Int)) (x : Int) (w : World) (h : RowAt w o l u 2 ao n cap (pairs bs)) (hn : n ≤ 2097152) (cd : Int) (hc : askCode bs x = cd) :
    Calls Try.prog 217 #[.slice ao n cap, .int .i64 x] w fun e w' => e = .returned (.int .i64 cd) ∧ Below w.heap.size w w' := by
  have hl := h.nPairs
  unfold askCode at hc
  by_cases h0 : blkFault bs = 0
  · rw [if_pos h0, hl] at hc
    have H0 : Hid _ := h0
    have h24 := (blkFault_zero h0).1
    clear h0
    by_cases hx : 0 ≤ x ∧ x ≤ (n : Int) - 1
    · rw [if_pos hx] at hc
      obtain ⟨k, rfl⟩ : ∃ k : Nat, x = k := ⟨x.toNat, by omega⟩
      rw [Int.toNat_natCast] at hc
      have hlt : k < n := by omega
      have hlk : (k : Int) < n := by omega
      have hge : ¬ (n : Int) ≤ (k : Int) := by omega
      have hk0 : ¬ (k : Int) < 0 := by omega
      obtain ⟨b, f, rfl, _, _, hbs, e1, e2, _⟩ := h.pair hlt
      obtain ⟨y, hy⟩ : ∃ y, (bs.getD k (0, 0)).1 = y := ⟨_, rfl⟩
      rw [hy] at e1 hc
      clear hx hy e2
      by_cases hz : y = 0
      · rw [if_pos hz] at hc
        subst hz
        subst hc
        go_enter Try.func217, Try.ntmps217
        go_wp2_with fail
        refine (implBF_b _ n cap bs _ h hn 0 H0.out).mono ?_
        rintro e w1 ⟨rfl, hb⟩
        replace e1 := cell_later hb e1
        go_wp2
        go_ret
        exact ⟨rfl, hb⟩
      · rw [if_neg hz] at hc
        subst hc
        go_enter Try.func217, Try.ntmps217
        go_wp2_with fail
        refine (implBF_b _ n cap bs _ h hn 0 H0.out).mono ?_
        rintro e w1 ⟨rfl, hb⟩
        replace e1 := cell_later hb e1
        go_wp2
        go_ret
        exact ⟨rfl, hb⟩
    · rw [if_neg hx] at hc
      subst hc
      by_cases hx0 : x < 0
      · clear hx
        go_enter Try.func217, Try.ntmps217
        go_wp2_with fail
        refine (implBF_b _ n cap bs _ h hn 0 H0.out).mono ?_
        rintro e w1 ⟨rfl, hb⟩
        go_wp2
        go_ret
        exact ⟨rfl, hb⟩
      · have hge : (n : Int) ≤ x := by omega
        clear hx
        go_enter Try.func217, Try.ntmps217
        go_wp2_with fail
        refine (implBF_b _ n cap bs _ h hn 0 H0.out).mono ?_
        rintro e w1 ⟨rfl, hb⟩
        go_wp2
        go_ret
        exact ⟨rfl, hb⟩
  · rw [if_neg h0] at hc
    rw [hc] at h0
    have HC : Hid _ := hc
    have hne : (cd != 0) = true := by simp [h0]
    clear hc h0
    go_enter Try.func217, Try.ntmps217
    go_wp2_with fail
    refine (implBF_b _ n cap bs _ h hn cd HC.out).mono ?_
    rintro e w1 ⟨rfl, hb⟩
    go_wp2
    go_ret
    exact ⟨rfl, hb⟩

end Go.Proofs.Ytikjndmgljkhhaa

/- Chapter 3: the program's NewBlocks, TakeBlock, ShareBlock, DropBlock: what they answer. -/
namespace Go.Proofs.Ytikjndmgljkhhaa
open Go.RowKit

theorem less_small {p : Int × Int} (h : Small p) (h0 : p.1 ≠ 0) : Small (less1 p) := by
  obtain ⟨x, y⟩ := p
  obtain ⟨⟨h1, h2⟩, h3, h4⟩ := h
  simp only at h0 h1 h2 h3 h4
  unfold less1
  refine ⟨⟨by simp; omega, by simp; omega⟩, ?_, ?_⟩ <;> (simp only; split <;> omega)
theorem numbersOf_ex {o : Bool} {l u : Nat} (ao : Option Addr) (n cap : Nat) (bs : List (Int × Int)) (w : World) (h : RowAt w o l u 2 ao n cap (pairs bs)) (hn : n ≤ 24) :
    Calls Try.prog 48 #[.slice ao n cap] w fun e w' => ∃ g, w.heap.size ≤ g ∧ e = .returned (.slice (some ⟨g, 0, none⟩) n n) ∧ RowAt w' true g (g + 1) 1 (some ⟨g, 0, none⟩) n n (nums bs) ∧ Below w.heap.size w w' :=
  (numbersOf_any ao n cap bs w h hn).mono fun _ _ h => ⟨_, Nat.le_refl _, h⟩
theorem nums_zero (n : Nat) : nums (List.replicate n (0, 0)) = List.replicate n (.complex .f64 0 0) := by
  unfold nums
  rw [List.map_replicate, numOf]
  simp only [fb_zero]
theorem small_zero (n : Nat) : ∀ p ∈ List.replicate n ((0 : Int), (0 : Int)), Small p := fun p hp => by
  rw [(List.mem_replicate.1 hp).2]; exact ⟨by decide, by decide⟩
theorem small_set {bs : List (Int × Int)} (h : Fine bs) (k : Nat) {p : Int × Int} (hp : Small p) : ∀ q ∈ bs.set k p, Small q := fun q hq => by
  rcases List.mem_or_eq_of_mem_set hq with hq | rfl
  · exact (h q hq).1
  · exact hp

set_option maxRecDepth 20000 in
set_option maxHeartbeats 2000000 in
theorem implNewBlocks_is (x : Int) (w : World) (cd : Int) (bl : List (Int × Int)) (hc : newBCode x = cd) (hb : newBList x = bl) :
    Calls Try.prog 101 #[.int .i64 x] w fun e w' => BlkRes w w' e cd 0 bl := by
  have B : Below w.heap.size w (w.alloc (.cells #[.int .i64 0, .int .i64 0, .slice none 0 0] 144)) := (Below.refl _ _).alloc (Nat.le_refl _) _
  have z0 : (w.alloc (.cells #[.int .i64 0, .int .i64 0, .slice none 0 0] 144)).cell? ⟨w.heap.size, 0, none⟩ = some (.int .i64 0) := by simp
  have z1 : (w.alloc (.cells #[.int .i64 0, .int .i64 0, .slice none 0 0] 144)).cell? ⟨w.heap.size, 1, none⟩ = some (.int .i64 0) := by simp
  have z2 : (w.alloc (.cells #[.int .i64 0, .int .i64 0, .slice none 0 0] 144)).cell? ⟨w.heap.size, 2, none⟩ = some (.slice none 0 0) := by simp
  have y0 : (w.alloc (.cells #[.int .i64 0, .int .i64 0, .slice none 0 0] 144)).frozen? ⟨w.heap.size, 0, none⟩ = false := by simp
  have y1 : (w.alloc (.cells #[.int .i64 0, .int .i64 0, .slice none 0 0] 144)).frozen? ⟨w.heap.size, 1, none⟩ = false := by simp
  have y2 : (w.alloc (.cells #[.int .i64 0, .int .i64 0, .slice none 0 0] 144)).frozen? ⟨w.heap.size, 2, none⟩ = false := by simp
  have hz : w.heap.size < (w.alloc (.cells #[.int .i64 0, .int .i64 0, .slice none 0 0] 144)).heap.size := by simp
  by_cases hx : 0 ≤ x ∧ x ≤ 24
  · obtain ⟨n, rfl⟩ : ∃ n : Nat, x = n := ⟨x.toNat, by omega⟩
    have e1 : newBCode (n : Int) = 0 := if_pos hx
    have e2 : newBList (n : Int) = List.replicate n (0, 0) := by rw [newBList, if_pos e1, Int.toNat_natCast]
    rw [e1] at hc
    rw [e2] at hb
    subst hc
    subst hb
    have hn24 : n ≤ 24 := by omega
    have hi1 : ¬ (n : Int) < 0 := by omega
    have hi2 : ¬ (24 : Int) < n := by omega
    clear e1 e2 hx
    obtain ⟨j0, hj0, hq0, hq1, hq2⟩ := info_parts Try.infoNum
    go_enter Try.func101, Try.ntmps101
    go_wp2_with (first | (at_make; refine wpList_make_full _ rfl _ _ 94 rfl (w.heap.size + 1) 97 j0 (.complex .f64 0 0) 1 Try.underlying94 hj0 hq0 hq1 _ _ _ _ n rfl rfl rfl rfl ?b1 ?b2 ?b3 ?_))
    case b1 => omega
    case b2 => unfold maxLen; omega
    intro w2 hown hgrow
    have hb : Below (w.alloc (.cells #[.int .i64 0, .int .i64 0, .slice none 0 0] 144)).heap.size (w.alloc (.cells #[.int .i64 0, .int .i64 0, .slice none 0 0] 144)) w2 := (Below.refl _ _).grown hgrow (Nat.le_refl _) (fun k hk => by cases hk)
    replace z0 := cell_later hb z0
    replace z1 := cell_later hb z1
    replace z2 := cell_later hb z2
    replace y0 := frozen_later hb hz y0
    replace y1 := frozen_later hb hz y1
    replace y2 := frozen_later hb hz y2
    replace hz := Nat.lt_of_lt_of_le hz hb.size
    replace B := below_next B hb
    clear hb
    have RN : RowAt w2 true (w.heap.size + 1) (w.heap.size + 2) 1 (some ⟨w.heap.size + 1, 0, none⟩) n n (nums (List.replicate n (0, 0))) := by
      rw [nums_zero, ← made_nums]; exact (RowAt.of_owns hown (Nat.le_refl _)).pin
    clear hown hgrow
    go_wp2_with fail
    refine (blocksAnswer_any 0 _ n _ (List.replicate n (0, 0)) _ RN (small_zero n) (by omega)).mono ?_
    rintro e w8 ⟨ra, rn, rc, rfl, RR, hb⟩
    replace RR := RR.widen (lo' := w.heap.size + 1) (by first | exact hz | (simp [World.setCell] at hz ⊢; omega)) (Nat.le_refl _)
    replace z0 := cell_later hb z0
    replace z1 := cell_later hb z1
    replace z2 := cell_later hb z2
    replace y0 := frozen_later hb hz y0
    replace y1 := frozen_later hb hz y1
    replace y2 := frozen_later hb hz y2
    replace hz := Nat.lt_of_lt_of_le hz hb.size
    replace B := below_next B hb
    clear hb
    go_wp2
    refine bodyPost_ret (v := .agg #[.int .i64 0, .int .i64 0, .slice ra rn rc]) (by simp [results, Try.results101, go_sem, z0, z1, z2]) rfl ⟨_, _, _, rfl, ?_, ?_⟩
    · refine RowAt.widen (RowAt.kept RR (l := w.heap.size) (u := w.heap.size + 1) ?_ (by omega)) (by omega) ?_
      · refine Kept.setCell (Kept.setCell (Kept.setCell (Kept.refl _ _ _) ?_ ?_ _) ?_ ?_ _) ?_ ?_ _ <;> simp
      · simp
    · refine Below.setCell (Below.setCell (Below.setCell B ?_ _) ?_ _) ?_ _ <;> simp
  · have e1 : newBCode x = 3 := if_neg hx
    have e2 : newBList x = [] := by rw [newBList, e1]; rfl
    rw [e1] at hc
    rw [e2] at hb
    subst hc
    subst hb
    clear e1 e2
    by_cases hx0 : x < 0
    · clear hx
      go_enter Try.func101, Try.ntmps101
      go_wp2
      refine bodyPost_ret (v := .agg #[.int .i64 3, .int .i64 0, .slice none 0 0]) (by simp [results, Try.results101, go_sem]) rfl ⟨_, _, _, rfl, RowAt.nil _ _ _ _ _, ?_⟩
      exact (Below.refl _ _).alloc (Nat.le_refl _) _
    · have hx1 : (24 : Int) < x := by omega
      clear hx
      go_enter Try.func101, Try.ntmps101
      go_wp2
      refine bodyPost_ret (v := .agg #[.int .i64 3, .int .i64 0, .slice none 0 0]) (by simp [results, Try.results101, go_sem]) rfl ⟨_, _, _, rfl, RowAt.nil _ _ _ _ _, ?_⟩
      exact (Below.refl _ _).alloc (Nat.le_refl _) _

set_option maxRecDepth 20000 in
set_option maxHeartbeats 2000000 in
theorem implTakeBlock_is {o : Bool} {l u : Nat} (ao : Option Addr) (n cap : Nat) (bs : List (Int × Int)) (w : World) (h : RowAt w o l u 2 ao n cap (pairs bs)) (hn : n ≤ 2097152) (x : Int) (cd at' : Int) (bl : List (Int × Int)) (hc : takeCode bs x = cd) (ha : (takeAt bs x : Int) = at') (hb : takeList bs x = bl) :
    Calls Try.prog 190 #[.slice ao n cap, .int .i64 x] w fun e w' => BlkRes w w' e cd at' bl := by
  have B : Below w.heap.size w (w.alloc (.cells #[.int .i64 0, .int .i64 0, .slice none 0 0] 144)) := (Below.refl _ _).alloc (Nat.le_refl _) _
  have z0 : (w.alloc (.cells #[.int .i64 0, .int .i64 0, .slice none 0 0] 144)).cell? ⟨w.heap.size, 0, none⟩ = some (.int .i64 0) := by simp
  have z1 : (w.alloc (.cells #[.int .i64 0, .int .i64 0, .slice none 0 0] 144)).cell? ⟨w.heap.size, 1, none⟩ = some (.int .i64 0) := by simp
  have z2 : (w.alloc (.cells #[.int .i64 0, .int .i64 0, .slice none 0 0] 144)).cell? ⟨w.heap.size, 2, none⟩ = some (.slice none 0 0) := by simp
  have y0 : (w.alloc (.cells #[.int .i64 0, .int .i64 0, .slice none 0 0] 144)).frozen? ⟨w.heap.size, 0, none⟩ = false := by simp
  have y1 : (w.alloc (.cells #[.int .i64 0, .int .i64 0, .slice none 0 0] 144)).frozen? ⟨w.heap.size, 1, none⟩ = false := by simp
  have y2 : (w.alloc (.cells #[.int .i64 0, .int .i64 0, .slice none 0 0] 144)).frozen? ⟨w.heap.size, 2, none⟩ = false := by simp
  have hz : w.heap.size < (w.alloc (.cells #[.int .i64 0, .int .i64 0, .slice none 0 0] 144)).heap.size := by simp
  have r := h.below B
  have hl := h.nPairs
  by_cases h0 : blkFault bs = 0
  · have H0 : Hid _ := h0
    have h24 := (blkFault_zero h0).1
    have HG : Hid (Fine bs) := fine_of (blkFault_zero h0).2
    cases hx : dataB x with
    | false =>
      have t0 : takeCode bs x = 3 := by simp [takeCode, h0, hx]
      have t1 : takeAt bs x = 0 := by simp [takeAt, t0]
      have t2 : takeList bs x = [] := by simp [takeList, t0]
      rw [t0] at hc
      rw [t1] at ha
      rw [t2] at hb
      subst hc
      subst ha
      subst hb
      have HX : Hid _ := hx
      clear h0 hx t0 t1 t2
      go_enter Try.func190, Try.ntmps190
      go_wp2_with fail
      refine (implBF_b _ n cap bs _ (by exact r) hn 0 H0.out).mono ?_
      rintro e w1 ⟨rfl, hb⟩
      replace z0 := cell_later hb z0
      replace z1 := cell_later hb z1
      replace z2 := cell_later hb z2
      replace y0 := frozen_later hb hz y0
      replace y1 := frozen_later hb hz y1
      replace y2 := frozen_later hb hz y2
      replace r := r.below hb
      replace hz := Nat.lt_of_lt_of_le hz hb.size
      replace B := below_next B hb
      clear hb
      go_wp2_with fail
      refine (isData_is x _ false HX.out).mono ?_
      rintro e w9 ⟨rfl, rfl⟩
      go_wp2
      refine bodyPost_ret (v := .agg #[.int .i64 3, .int .i64 0, .slice none 0 0]) (by simp [results, Try.results190, go_sem, z0, z1, z2]) rfl ⟨_, _, _, rfl, RowAt.nil _ _ _ _ _, ?_⟩
      refine Below.setCell (Below.setCell (Below.setCell B ?_ _) ?_ _) ?_ _ <;> simp
    | true =>
      have HX : Hid _ := hx
      have hx1 : 0 ≤ x ∧ x ≤ 255 := by simpa [dataB] using hx
      cases hf : freeAt bs with
      | none =>
        have t0 : takeCode bs x = 8 := by simp [takeCode, h0, hx, hf]
        have t1 : takeAt bs x = 0 := by simp [takeAt, t0]
        have t2 : takeList bs x = [] := by simp [takeList, t0]
        rw [t0] at hc
        rw [t1] at ha
        rw [t2] at hb
        subst hc
        subst ha
        subst hb
        have HF : Hid _ := hf
        clear h0 hx t0 t1 t2 hf
        go_enter Try.func190, Try.ntmps190
        go_wp2_with fail
        refine (implBF_b _ n cap bs _ (by exact r) hn 0 H0.out).mono ?_
        rintro e w1 ⟨rfl, hb⟩
        replace z0 := cell_later hb z0
        replace z1 := cell_later hb z1
        replace z2 := cell_later hb z2
        replace y0 := frozen_later hb hz y0
        replace y1 := frozen_later hb hz y1
        replace y2 := frozen_later hb hz y2
        replace r := r.below hb
        replace hz := Nat.lt_of_lt_of_le hz hb.size
        replace B := below_next B hb
        clear hb
        go_wp2_with fail
        refine (isData_is x _ true HX.out).mono ?_
        rintro e w9 ⟨rfl, rfl⟩
        go_wp2_with fail
        refine (numbersOf_ex _ n cap bs _ (by exact r) (by omega)).mono ?_
        rintro e w2 ⟨g, hge, rfl, RN, hb⟩
        have hzg := Nat.lt_of_lt_of_le hz hge
        clear hge
        replace z0 := cell_later hb z0
        replace z1 := cell_later hb z1
        replace z2 := cell_later hb z2
        replace y0 := frozen_later hb hz y0
        replace y1 := frozen_later hb hz y1
        replace y2 := frozen_later hb hz y2
        replace r := r.below hb
        replace hz := Nat.lt_of_lt_of_le hz hb.size
        replace B := below_next B hb
        clear hb
        go_wp2_with fail
        refine (index_any _ n n bs _ RN HG.out hn).mono ?_
        rintro e w9 ⟨hq, rfl⟩
        rcases hq with ⟨k, hk, _, _⟩ | ⟨_, rfl⟩
        · rw [HF.out] at hk; cases hk
        go_wp2
        refine bodyPost_ret (v := .agg #[.int .i64 8, .int .i64 0, .slice none 0 0]) (by simp [results, Try.results190, go_sem, z0, z1, z2]) rfl ⟨_, _, _, rfl, RowAt.nil _ _ _ _ _, ?_⟩
        refine Below.setCell (Below.setCell (Below.setCell B ?_ _) ?_ _) ?_ _ <;> simp
      | some k =>
        have t0 : takeCode bs x = 0 := by simp [takeCode, h0, hx, hf]
        have t1 : takeAt bs x = k := by simp [takeAt, t0, hf]
        have t2 : takeList bs x = bs.set k (1, x) := by simp [takeList, t0, hf]
        rw [t0] at hc
        rw [t1] at ha
        rw [t2] at hb
        subst hc
        subst ha
        subst hb
        have hkl := (freeAt_is hf).1
        have hlt : k < n := by omega
        have hlk : (k : Int) < n := by omega
        have hk0 : ¬ (k : Int) < 0 := by omega
        have HF : Hid _ := hf
        clear h0 hx t0 t1 t2 hf
        go_enter Try.func190, Try.ntmps190
        go_wp2_with fail
        refine (implBF_b _ n cap bs _ (by exact r) hn 0 H0.out).mono ?_
        rintro e w1 ⟨rfl, hb⟩
        replace z0 := cell_later hb z0
        replace z1 := cell_later hb z1
        replace z2 := cell_later hb z2
        replace y0 := frozen_later hb hz y0
        replace y1 := frozen_later hb hz y1
        replace y2 := frozen_later hb hz y2
        replace r := r.below hb
        replace hz := Nat.lt_of_lt_of_le hz hb.size
        replace B := below_next B hb
        clear hb
        go_wp2_with fail
        refine (isData_is x _ true HX.out).mono ?_
        rintro e w9 ⟨rfl, rfl⟩
        go_wp2_with fail
        refine (numbersOf_ex _ n cap bs _ (by exact r) (by omega)).mono ?_
        rintro e w2 ⟨g, hge, rfl, RN, hb⟩
        have hzg := Nat.lt_of_lt_of_le hz hge
        clear hge
        replace z0 := cell_later hb z0
        replace z1 := cell_later hb z1
        replace z2 := cell_later hb z2
        replace y0 := frozen_later hb hz y0
        replace y1 := frozen_later hb hz y1
        replace y2 := frozen_later hb hz y2
        replace r := r.below hb
        replace hz := Nat.lt_of_lt_of_le hz hb.size
        replace B := below_next B hb
        clear hb
        go_wp2_with fail
        refine (index_any _ n n bs _ RN HG.out hn).mono ?_
        rintro e w9 ⟨hq, rfl⟩
        obtain rfl : e = .returned (.int .i64 (k : Int)) := by
          rcases hq with ⟨k', hk, _, rfl⟩ | ⟨hk, _⟩
          · rw [HF.out] at hk; cases hk; rfl
          · rw [HF.out] at hk; cases hk
        clear hq
        obtain ⟨_, _, e', _, _, _, c0, f0⟩ := RN.one hlt
        cases e'
        replace f0 := f0 rfl
        rw [nums_getD bs k (by omega), Nat.zero_add] at c0
        rw [Nat.zero_add] at f0
        have hst := store_num c0 f0
        have RS := RN.stored (i := k) (by omega) (numOf (1, x))
        rw [Nat.zero_add, nums_set] at RS
        have K : Kept g (g + 1) w9 (w9.setCell ⟨g, k, none⟩ (numOf (1, x))) := by refine Kept.setCell (Kept.refl _ _ _) ?_ ?_ _ <;> simp
        replace z0 := K.cell z0 (by omega)
        replace z1 := K.cell z1 (by omega)
        replace z2 := K.cell z2 (by omega)
        replace y0 := K.frozen hz (by omega) y0
        replace y1 := K.frozen hz (by omega) y1
        replace y2 := K.frozen hz (by omega) y2
        replace B := B.trans (K.below _ (by omega) (by omega))
        replace hz := Nat.lt_of_lt_of_le hz K.size
        clear K
        simp only [numOf] at hst RS z0 z1 z2 y0 y1 y2 B hz c0
        go_wp2_with fail
        refine (takenBlock_is x _ hx1.1 (by omega)).mono ?_
        rintro e w9 ⟨rfl, rfl⟩
        go_wp2_with (simp only [numOf])
        refine (blocksAnswer_any (k : Int) _ n _ (bs.set k (1, x)) _ RS (small_set HG.out k (by exact ⟨⟨by simp, by simp⟩, hx1.1, by simp; omega⟩)) (by omega)).mono ?_
        rintro e w8 ⟨ra, rn, rc, rfl, RR, hb⟩
        replace RR := RR.widen (lo' := w.heap.size + 1) (by first | exact hz | (simp [World.setCell] at hz ⊢; omega)) (Nat.le_refl _)
        replace z0 := cell_later hb z0
        replace z1 := cell_later hb z1
        replace z2 := cell_later hb z2
        replace y0 := frozen_later hb hz y0
        replace y1 := frozen_later hb hz y1
        replace y2 := frozen_later hb hz y2
        replace hz := Nat.lt_of_lt_of_le hz hb.size
        replace B := below_next B hb
        clear hb
        go_wp2
        refine bodyPost_ret (v := .agg #[.int .i64 0, .int .i64 (k : Int), .slice ra rn rc]) (by simp [results, Try.results190, go_sem, z0, z1, z2]) rfl ⟨_, _, _, rfl, ?_, ?_⟩
        · refine RowAt.widen (RowAt.kept RR (l := w.heap.size) (u := w.heap.size + 1) ?_ (by omega)) (by omega) ?_
          · refine Kept.setCell (Kept.setCell (Kept.setCell (Kept.refl _ _ _) ?_ ?_ _) ?_ ?_ _) ?_ ?_ _ <;> simp
          · simp
        · refine Below.setCell (Below.setCell (Below.setCell B ?_ _) ?_ _) ?_ _ <;> simp
  · have t0 : takeCode bs x = blkFault bs := if_neg h0
    have t1 : takeAt bs x = 0 := by simp [takeAt, t0, h0]
    have t2 : takeList bs x = [] := by simp [takeList, t0, h0]
    rw [t0] at hc
    rw [t1] at ha
    rw [t2] at hb
    subst ha
    subst hb
    rw [hc] at h0
    have HC : Hid _ := hc
    have hne : (cd != 0) = true := by simp [h0]
    clear h0 hc t0 t1 t2
    go_enter Try.func190, Try.ntmps190
    go_wp2_with fail
    refine (implBF_b _ n cap bs _ (by exact r) hn cd HC.out).mono ?_
    rintro e w1 ⟨rfl, hb⟩
    replace z0 := cell_later hb z0
    replace z1 := cell_later hb z1
    replace z2 := cell_later hb z2
    replace y0 := frozen_later hb hz y0
    replace y1 := frozen_later hb hz y1
    replace y2 := frozen_later hb hz y2
    replace r := r.below hb
    replace hz := Nat.lt_of_lt_of_le hz hb.size
    replace B := below_next B hb
    clear hb
    go_wp2
    refine bodyPost_ret (v := .agg #[.int .i64 cd, .int .i64 0, .slice none 0 0]) (by simp [results, Try.results190, go_sem, z0, z1, z2]) rfl ⟨_, _, _, rfl, RowAt.nil _ _ _ _ _, ?_⟩
    refine Below.setCell (Below.setCell (Below.setCell B ?_ _) ?_ _) ?_ _ <;> simp

set_option maxRecDepth 20000 in
set_option maxHeartbeats 2000000 in
theorem implShareBlock_is {o : Bool} {l u : Nat} (ao : Option Addr) (n cap : Nat) (bs : List (Int × Int)) (w : World) (h : RowAt w o l u 2 ao n cap (pairs bs)) (hn : n ≤ 2097152) (x : Int) (cd at' : Int) (bl : List (Int × Int)) (hc : shareCode bs x = cd) (ha : atIf (shareCode bs x) x = at') (hb : shareList bs x = bl) :
    Calls Try.prog 219 #[.slice ao n cap, .int .i64 x] w fun e w' => BlkRes w w' e cd at' bl := by
  have B : Below w.heap.size w (w.alloc (.cells #[.int .i64 0, .int .i64 0, .slice none 0 0] 144)) := (Below.refl _ _).alloc (Nat.le_refl _) _
  have z0 : (w.alloc (.cells #[.int .i64 0, .int .i64 0, .slice none 0 0] 144)).cell? ⟨w.heap.size, 0, none⟩ = some (.int .i64 0) := by simp
  have z1 : (w.alloc (.cells #[.int .i64 0, .int .i64 0, .slice none 0 0] 144)).cell? ⟨w.heap.size, 1, none⟩ = some (.int .i64 0) := by simp
  have z2 : (w.alloc (.cells #[.int .i64 0, .int .i64 0, .slice none 0 0] 144)).cell? ⟨w.heap.size, 2, none⟩ = some (.slice none 0 0) := by simp
  have y0 : (w.alloc (.cells #[.int .i64 0, .int .i64 0, .slice none 0 0] 144)).frozen? ⟨w.heap.size, 0, none⟩ = false := by simp
  have y1 : (w.alloc (.cells #[.int .i64 0, .int .i64 0, .slice none 0 0] 144)).frozen? ⟨w.heap.size, 1, none⟩ = false := by simp
  have y2 : (w.alloc (.cells #[.int .i64 0, .int .i64 0, .slice none 0 0] 144)).frozen? ⟨w.heap.size, 2, none⟩ = false := by simp
  have hz : w.heap.size < (w.alloc (.cells #[.int .i64 0, .int .i64 0, .slice none 0 0] 144)).heap.size := by simp
  have r := h.below B
  have hl := h.nPairs
  by_cases h0 : askCode bs x = 0
  · have H0 : Hid _ := h0
    obtain ⟨k, rfl, hkl, hb0, hnz⟩ := ask_zero h0
    have h24 := (blkFault_zero hb0).1
    have HG : Hid (Fine bs) := fine_of (blkFault_zero hb0).2
    have hlt : k < n := by omega
    have hlk : (k : Int) < n := by omega
    obtain ⟨h1, h2, h3, h4, _⟩ := blkOne_zero (blkGo_all (blkFault_zero hb0).2 (bs.getD k (0, 0)) (by rw [List.getD_eq_getElem?_getD, List.getElem?_eq_getElem hkl]; exact List.getElem_mem hkl))
    obtain ⟨b, f, rfl, _, _, _, e1, _, _⟩ := r.pair hlt
    obtain ⟨⟨y, v⟩, hy⟩ : ∃ p, bs.getD k (0, 0) = p := ⟨_, rfl⟩
    rw [hy] at e1 h1 h2 h3 h4 hnz
    simp only at e1 h1 h2 h3 h4 hnz
    by_cases h200 : y = 200
    · have t0 : shareCode bs (k : Int) = 2 := by rw [shareCode, if_pos h0, Int.toNat_natCast, hy, if_pos (by simp; omega)]
      have t2 : shareList bs (k : Int) = [] := by rw [shareList, t0]; rfl
      rw [t0] at ha
      rw [t0] at hc
      rw [t2] at hb
      obtain rfl : at' = 0 := ha.symm
      subst hc
      subst hb
      subst h200
      clear h0 t0 t2 hy ha hb0 hnz
      go_enter Try.func219, Try.ntmps219
      go_wp2_with fail
      refine (takenFault_is _ n cap bs _ _ (by exact r) hn 0 H0.out).mono ?_
      rintro e w1 ⟨rfl, hb⟩
      replace z0 := cell_later hb z0
      replace z1 := cell_later hb z1
      replace z2 := cell_later hb z2
      replace y0 := frozen_later hb hz y0
      replace y1 := frozen_later hb hz y1
      replace y2 := frozen_later hb hz y2
      replace r := r.below hb
      replace e1 := cell_later hb e1
      replace hz := Nat.lt_of_lt_of_le hz hb.size
      replace B := below_next B hb
      clear hb
      go_wp2
      refine bodyPost_ret (v := .agg #[.int .i64 2, .int .i64 0, .slice none 0 0]) (by simp [results, Try.results219, go_sem, z0, z1, z2]) rfl ⟨_, _, _, rfl, RowAt.nil _ _ _ _ _, ?_⟩
      refine Below.setCell (Below.setCell (Below.setCell B ?_ _) ?_ _) ?_ _ <;> simp
    · have t0 : shareCode bs (k : Int) = 0 := by rw [shareCode, if_pos h0, Int.toNat_natCast, hy, if_neg (by simp; omega)]
      have t2 : shareList bs (k : Int) = bs.set k (y + 1, v) := by rw [shareList, if_pos t0, Int.toNat_natCast, more1, hy]
      rw [t0] at ha
      rw [t0] at hc
      rw [t2] at hb
      obtain rfl : at' = (k : Int) := ha.symm
      subst hc
      subst hb
      have HY : Hid _ := hy
      have hop := fun t w => run_complex_sum (P := Try.prog) w .add (Or.inl rfl) t .f64 _ _ _ _ _ _ (num_more (p := (y, v)) ⟨⟨h1, by simp; omega⟩, h3, by simp; omega⟩)
      simp only at hop
      clear h0 t0 t2 hy ha hb0 hnz
      go_enter Try.func219, Try.ntmps219
      go_wp2_with fail
      refine (takenFault_is _ n cap bs _ _ (by exact r) hn 0 H0.out).mono ?_
      rintro e w1 ⟨rfl, hb⟩
      replace z0 := cell_later hb z0
      replace z1 := cell_later hb z1
      replace z2 := cell_later hb z2
      replace y0 := frozen_later hb hz y0
      replace y1 := frozen_later hb hz y1
      replace y2 := frozen_later hb hz y2
      replace r := r.below hb
      replace e1 := cell_later hb e1
      replace hz := Nat.lt_of_lt_of_le hz hb.size
      replace B := below_next B hb
      clear hb
      go_wp2_with fail
      refine (numbersOf_ex _ n cap bs _ (by exact r) (by omega)).mono ?_
      rintro e w2 ⟨g, hge, rfl, RN, hb⟩
      have hzg := Nat.lt_of_lt_of_le hz hge
      clear hge
      replace z0 := cell_later hb z0
      replace z1 := cell_later hb z1
      replace z2 := cell_later hb z2
      replace y0 := frozen_later hb hz y0
      replace y1 := frozen_later hb hz y1
      replace y2 := frozen_later hb hz y2
      replace r := r.below hb
      replace e1 := cell_later hb e1
      replace hz := Nat.lt_of_lt_of_le hz hb.size
      replace B := below_next B hb
      clear hb
      obtain ⟨_, _, e', _, _, _, c0, f0⟩ := RN.one hlt
      cases e'
      replace f0 := f0 rfl
      rw [nums_getD bs k (by omega), Nat.zero_add] at c0
      rw [Nat.zero_add] at f0
      have hst := store_num c0 f0
      have RS := RN.stored (i := k) (by omega) (numOf (y + 1, v))
      rw [Nat.zero_add, nums_set] at RS
      have K : Kept g (g + 1) w2 (w2.setCell ⟨g, k, none⟩ (numOf (y + 1, v))) := by refine Kept.setCell (Kept.refl _ _ _) ?_ ?_ _ <;> simp
      replace z0 := K.cell z0 (by omega)
      replace z1 := K.cell z1 (by omega)
      replace z2 := K.cell z2 (by omega)
      replace y0 := K.frozen hz (by omega) y0
      replace y1 := K.frozen hz (by omega) y1
      replace y2 := K.frozen hz (by omega) y2
      replace B := B.trans (K.below _ (by omega) (by omega))
      replace hz := Nat.lt_of_lt_of_le hz K.size
      clear K
      rw [HY.out] at c0
      simp only [numOf] at hst RS z0 z1 z2 y0 y1 y2 B hz c0
      go_wp2_with fail
      refine (blocksAnswer_any (k : Int) _ n _ (bs.set k (y + 1, v)) _ RS (small_set HG.out k (by exact ⟨⟨by simp; omega, by simp; omega⟩, h3, by simp; omega⟩)) (by omega)).mono ?_
      rintro e w8 ⟨ra, rn, rc, rfl, RR, hb⟩
      replace RR := RR.widen (lo' := w.heap.size + 1) (by first | exact hz | (simp [World.setCell] at hz ⊢; omega)) (Nat.le_refl _)
      replace z0 := cell_later hb z0
      replace z1 := cell_later hb z1
      replace z2 := cell_later hb z2
      replace y0 := frozen_later hb hz y0
      replace y1 := frozen_later hb hz y1
      replace y2 := frozen_later hb hz y2
      replace hz := Nat.lt_of_lt_of_le hz hb.size
      replace B := below_next B hb
      clear hb
      go_wp2
      refine bodyPost_ret (v := .agg #[.int .i64 0, .int .i64 (k : Int), .slice ra rn rc]) (by simp [results, Try.results219, go_sem, z0, z1, z2]) rfl ⟨_, _, _, rfl, ?_, ?_⟩
      · refine RowAt.widen (RowAt.kept RR (l := w.heap.size) (u := w.heap.size + 1) ?_ (by omega)) (by omega) ?_
        · refine Kept.setCell (Kept.setCell (Kept.setCell (Kept.refl _ _ _) ?_ ?_ _) ?_ ?_ _) ?_ ?_ _ <;> simp
        · simp
      · refine Below.setCell (Below.setCell (Below.setCell B ?_ _) ?_ _) ?_ _ <;> simp
  · have t0 : shareCode bs x = askCode bs x := if_neg h0
    have t1 : atIf (shareCode bs x) x = 0 := by rw [t0, atIf, if_neg h0]
    rw [t1] at ha
    have t2 : shareList bs x = [] := by rw [shareList, t0, if_neg h0]
    rw [t0] at hc
    rw [t2] at hb
    subst ha
    subst hb
    rw [hc] at h0
    have HC : Hid _ := hc
    have hne : (cd != 0) = true := by simp [h0]
    clear h0 hc t0 t1 t2
    go_enter Try.func219, Try.ntmps219
    go_wp2_with fail
    refine (takenFault_is _ n cap bs _ _ (by exact r) hn cd HC.out).mono ?_
    rintro e w1 ⟨rfl, hb⟩
    replace z0 := cell_later hb z0
    replace z1 := cell_later hb z1
    replace z2 := cell_later hb z2
    replace y0 := frozen_later hb hz y0
    replace y1 := frozen_later hb hz y1
    replace y2 := frozen_later hb hz y2
    replace r := r.below hb
    replace hz := Nat.lt_of_lt_of_le hz hb.size
    replace B := below_next B hb
    clear hb
    go_wp2
    refine bodyPost_ret (v := .agg #[.int .i64 cd, .int .i64 0, .slice none 0 0]) (by simp [results, Try.results219, go_sem, z0, z1, z2]) rfl ⟨_, _, _, rfl, RowAt.nil _ _ _ _ _, ?_⟩
    refine Below.setCell (Below.setCell (Below.setCell B ?_ _) ?_ _) ?_ _ <;> simp

set_option maxRecDepth 20000 in
set_option maxHeartbeats 2000000 in
theorem implDropBlock_is {o : Bool} {l u : Nat} (ao : Option Addr) (n cap : Nat) (bs : List (Int × Int)) (w : World) (h : RowAt w o l u 2 ao n cap (pairs bs)) (hn : n ≤ 2097152) (x : Int) (cd at' : Int) (bl : List (Int × Int)) (hc : askCode bs x = cd) (ha : atIf (askCode bs x) x = at') (hb : dropList bs x = bl) :
    Calls Try.prog 213 #[.slice ao n cap, .int .i64 x] w fun e w' => BlkRes w w' e cd at' bl := by
  have B : Below w.heap.size w (w.alloc (.cells #[.int .i64 0, .int .i64 0, .slice none 0 0] 144)) := (Below.refl _ _).alloc (Nat.le_refl _) _
  have z0 : (w.alloc (.cells #[.int .i64 0, .int .i64 0, .slice none 0 0] 144)).cell? ⟨w.heap.size, 0, none⟩ = some (.int .i64 0) := by simp
  have z1 : (w.alloc (.cells #[.int .i64 0, .int .i64 0, .slice none 0 0] 144)).cell? ⟨w.heap.size, 1, none⟩ = some (.int .i64 0) := by simp
  have z2 : (w.alloc (.cells #[.int .i64 0, .int .i64 0, .slice none 0 0] 144)).cell? ⟨w.heap.size, 2, none⟩ = some (.slice none 0 0) := by simp
  have y0 : (w.alloc (.cells #[.int .i64 0, .int .i64 0, .slice none 0 0] 144)).frozen? ⟨w.heap.size, 0, none⟩ = false := by simp
  have y1 : (w.alloc (.cells #[.int .i64 0, .int .i64 0, .slice none 0 0] 144)).frozen? ⟨w.heap.size, 1, none⟩ = false := by simp
  have y2 : (w.alloc (.cells #[.int .i64 0, .int .i64 0, .slice none 0 0] 144)).frozen? ⟨w.heap.size, 2, none⟩ = false := by simp
  have hz : w.heap.size < (w.alloc (.cells #[.int .i64 0, .int .i64 0, .slice none 0 0] 144)).heap.size := by simp
  have r := h.below B
  have hl := h.nPairs
  by_cases h0 : askCode bs x = 0
  · have H0 : Hid _ := h0
    obtain ⟨k, rfl, hkl, hb0, hnz⟩ := ask_zero h0
    have h24 := (blkFault_zero hb0).1
    have HG : Hid (Fine bs) := fine_of (blkFault_zero hb0).2
    have hlt : k < n := by omega
    have hlk : (k : Int) < n := by omega
    obtain ⟨h1, h2, h3, h4, _⟩ := blkOne_zero (blkGo_all (blkFault_zero hb0).2 (bs.getD k (0, 0)) (by rw [List.getD_eq_getElem?_getD, List.getElem?_eq_getElem hkl]; exact List.getElem_mem hkl))
    have HS : Hid (Small (bs.getD k (0, 0)) ∧ (bs.getD k (0, 0)).1 ≠ 0) := ⟨(HG.out.at hkl).1, hnz⟩
    have t2 : dropList bs (k : Int) = bs.set k (less1 (bs.getD k (0, 0))) := by rw [dropList, if_pos h0, Int.toNat_natCast]
    rw [h0] at ha
    rw [h0] at hc
    rw [t2] at hb
    obtain rfl : at' = (k : Int) := ha.symm
    subst hc
    subst hb
    have hsm := less_small (HG.out.at hkl).1 hnz
    obtain ⟨p, hp⟩ : ∃ p, bs.getD k (0, 0) = p := ⟨_, rfl⟩
    rw [hp] at HS hsm h1 h2 h3 h4 ⊢
    have HP : Hid _ := hp
    clear hp h0 t2 ha hb0 hnz
    go_enter Try.func213, Try.ntmps213
    go_wp2_with fail
    refine (takenFault_is _ n cap bs _ _ (by exact r) hn 0 H0.out).mono ?_
    rintro e w1 ⟨rfl, hb⟩
    replace z0 := cell_later hb z0
    replace z1 := cell_later hb z1
    replace z2 := cell_later hb z2
    replace y0 := frozen_later hb hz y0
    replace y1 := frozen_later hb hz y1
    replace y2 := frozen_later hb hz y2
    replace r := r.below hb
    replace hz := Nat.lt_of_lt_of_le hz hb.size
    replace B := below_next B hb
    clear hb
    go_wp2_with fail
    refine (numbersOf_ex _ n cap bs _ (by exact r) (by omega)).mono ?_
    rintro e w2 ⟨g, hge, rfl, RN, hb⟩
    have hzg := Nat.lt_of_lt_of_le hz hge
    clear hge
    replace z0 := cell_later hb z0
    replace z1 := cell_later hb z1
    replace z2 := cell_later hb z2
    replace y0 := frozen_later hb hz y0
    replace y1 := frozen_later hb hz y1
    replace y2 := frozen_later hb hz y2
    replace r := r.below hb
    replace hz := Nat.lt_of_lt_of_le hz hb.size
    replace B := below_next B hb
    clear hb
    obtain ⟨_, _, e', _, _, _, c0, f0⟩ := RN.one hlt
    cases e'
    replace f0 := f0 rfl
    rw [nums_getD bs k (by omega), Nat.zero_add] at c0
    rw [Nat.zero_add] at f0
    have hst := store_num c0 f0
    have RS := RN.stored (i := k) (by omega) (numOf (less1 p))
    rw [Nat.zero_add, nums_set] at RS
    have K : Kept g (g + 1) w2 (w2.setCell ⟨g, k, none⟩ (numOf (less1 p))) := by refine Kept.setCell (Kept.refl _ _ _) ?_ ?_ _ <;> simp
    replace z0 := K.cell z0 (by omega)
    replace z1 := K.cell z1 (by omega)
    replace z2 := K.cell z2 (by omega)
    replace y0 := K.frozen hz (by omega) y0
    replace y1 := K.frozen hz (by omega) y1
    replace y2 := K.frozen hz (by omega) y2
    replace B := B.trans (K.below _ (by omega) (by omega))
    replace hz := Nat.lt_of_lt_of_le hz K.size
    clear K
    rw [HP.out] at c0
    simp only [numOf] at hst RS z0 z1 z2 y0 y1 y2 B hz c0
    go_wp2_with fail
    refine (dropped_is p _ HS.out.1 HS.out.2).mono ?_
    rintro e w9 ⟨rfl, rfl⟩
    go_wp2_with (simp only [numOf])
    refine (blocksAnswer_any (k : Int) _ n _ (bs.set k (less1 p)) _ RS (small_set HG.out k hsm) (by omega)).mono ?_
    rintro e w8 ⟨ra, rn, rc, rfl, RR, hb⟩
    replace RR := RR.widen (lo' := w.heap.size + 1) (by first | exact hz | (simp [World.setCell] at hz ⊢; omega)) (Nat.le_refl _)
    replace z0 := cell_later hb z0
    replace z1 := cell_later hb z1
    replace z2 := cell_later hb z2
    replace y0 := frozen_later hb hz y0
    replace y1 := frozen_later hb hz y1
    replace y2 := frozen_later hb hz y2
    replace hz := Nat.lt_of_lt_of_le hz hb.size
    replace B := below_next B hb
    clear hb
    go_wp2
    refine bodyPost_ret (v := .agg #[.int .i64 0, .int .i64 (k : Int), .slice ra rn rc]) (by simp [results, Try.results213, go_sem, z0, z1, z2]) rfl ⟨_, _, _, rfl, ?_, ?_⟩
    · refine RowAt.widen (RowAt.kept RR (l := w.heap.size) (u := w.heap.size + 1) ?_ (by omega)) (by omega) ?_
      · refine Kept.setCell (Kept.setCell (Kept.setCell (Kept.refl _ _ _) ?_ ?_ _) ?_ ?_ _) ?_ ?_ _ <;> simp
      · simp
    · refine Below.setCell (Below.setCell (Below.setCell B ?_ _) ?_ _) ?_ _ <;> simp
  · have t0 : askCode bs x = askCode bs x := rfl
    have t1 : atIf (askCode bs x) x = 0 := by rw [t0, atIf, if_neg h0]
    rw [t1] at ha
    have t2 : dropList bs x = [] := by rw [dropList, if_neg h0]
    rw [t0] at hc
    rw [t2] at hb
    subst ha
    subst hb
    rw [hc] at h0
    have HC : Hid _ := hc
    have hne : (cd != 0) = true := by simp [h0]
    clear h0 hc t0 t1 t2
    go_enter Try.func213, Try.ntmps213
    go_wp2_with fail
    refine (takenFault_is _ n cap bs _ _ (by exact r) hn cd HC.out).mono ?_
    rintro e w1 ⟨rfl, hb⟩
    replace z0 := cell_later hb z0
    replace z1 := cell_later hb z1
    replace z2 := cell_later hb z2
    replace y0 := frozen_later hb hz y0
    replace y1 := frozen_later hb hz y1
    replace y2 := frozen_later hb hz y2
    replace r := r.below hb
    replace hz := Nat.lt_of_lt_of_le hz hb.size
    replace B := below_next B hb
    clear hb
    go_wp2
    refine bodyPost_ret (v := .agg #[.int .i64 cd, .int .i64 0, .slice none 0 0]) (by simp [results, Try.results213, go_sem, z0, z1, z2]) rfl ⟨_, _, _, rfl, RowAt.nil _ _ _ _ _, ?_⟩
    refine Below.setCell (Below.setCell (Below.setCell B ?_ _) ?_ _) ?_ _ <;> simp

end Go.Proofs.Ytikjndmgljkhhaa
