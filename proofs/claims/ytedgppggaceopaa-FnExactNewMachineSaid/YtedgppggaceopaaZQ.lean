/- Small whole numbers as floats, and a block as a complex number: there and back. -/
import Derived.Test.YtedgppggaceopaaBase
import Derived.Laws.ComplexArith
import Derived.Test.YtedgppggaceopaaP1
import Derived.Test.YtedgppggaceopaaFacts
namespace Go.Proofs.Ytedgppggaceopaa
open Go.RowKit

section
variable {x : Int} (h0 : 0 ≤ x) (h1 : x ≤ 256)
include h0 h1
end
/-- within what a float tells exactly -/
def Small (p : Int × Int) : Prop := (0 ≤ p.1 ∧ p.1 ≤ 256) ∧ 0 ≤ p.2 ∧ p.2 ≤ 256
end Go.Proofs.Ytedgppggaceopaa

/- Chapter 3: the program's smaller functions: blocks as complex numbers. -/
namespace Go.Proofs.Ytedgppggaceopaa
open Go.RowKit

theorem isRefs_is (x : Int) (w : World) (d : Bool) (h : refsB x = d) : Calls Try.prog 110 #[.int .i64 x] w fun e w' => e = .returned (.bool d) ∧ w' = w := by
  subst h
  unfold refsB
  by_cases h0 : 0 ≤ x
  · by_cases h1 : x ≤ 200
    · go_enter Try.func110, Try.ntmps110
      go_wp2
      go_ret
      exact ⟨ret_bool (by simp; omega), rfl⟩
    · go_enter Try.func110, Try.ntmps110
      go_wp2
      go_ret
      exact ⟨ret_bool (by simp; omega), rfl⟩
  · go_enter Try.func110, Try.ntmps110
    go_wp2
    go_ret
    exact ⟨ret_bool (by simp; omega), rfl⟩
theorem isData_is (x : Int) (w : World) (d : Bool) (h : dataB x = d) : Calls Try.prog 57 #[.int .i64 x] w fun e w' => e = .returned (.bool d) ∧ w' = w := by
  subst h
  unfold dataB
  by_cases h0 : 0 ≤ x
  · by_cases h1 : x ≤ 255
    · go_enter Try.func57, Try.ntmps57
      go_wp2
      go_ret
      exact ⟨ret_bool (by simp; omega), rfl⟩
    · go_enter Try.func57, Try.ntmps57
      go_wp2
      go_ret
      exact ⟨ret_bool (by simp; omega), rfl⟩
  · go_enter Try.func57, Try.ntmps57
    go_wp2
    go_ret
    exact ⟨ret_bool (by simp; omega), rfl⟩

theorem blockFault_is (x y : Int) (w : World) (r : Int) (h : blkOne (x, y) = r) : Calls Try.prog 109 #[.agg #[.int .i64 x, .int .i64 y]] w fun e w' => e = .returned (.int .i64 r) ∧ Below w.heap.size w w' := by
  have A : Below w.heap.size w (w.alloc (.cells #[.int .i64 x, .int .i64 y] 105)) := (Below.refl _ _).alloc (Nat.le_refl _) _
  cases hx : refsB x with
  | false =>
    have H1 : Hid _ := hx
    have hr : r = 3 := by rw [← h]; simp [blkOne, hx]
    subst hr
    clear hx h
    go_enter Try.func109, Try.ntmps109
    go_wp2_with fail
    refine (isRefs_is x _ false H1.out).mono ?_
    rintro e w1 ⟨rfl, rfl⟩
    go_wp2
    go_ret
    exact ⟨rfl, A⟩
  | true =>
    have H1 : Hid _ := hx
    cases hy : dataB y with
    | false =>
      have H2 : Hid _ := hy
      have hr : r = 3 := by rw [← h]; simp [blkOne, hy]
      subst hr
      clear hx hy h
      go_enter Try.func109, Try.ntmps109
      go_wp2_with fail
      refine (isRefs_is x _ true H1.out).mono ?_
      rintro e w1 ⟨rfl, rfl⟩
      go_wp2_with fail
      refine (isData_is y _ false H2.out).mono ?_
      rintro e w1 ⟨rfl, rfl⟩
      go_wp2
      go_ret
      exact ⟨rfl, A⟩
    | true =>
      have H2 : Hid _ := hy
      have HR : Hid ((if x = 0 ∧ y ≠ 0 then 1 else 0) = r) := by show _ = _; rw [← h]; simp [blkOne, hx, hy]
      clear hx hy h
      by_cases hz : x = 0
      · subst hz
        by_cases hz2 : y = 0
        · subst hz2
          have hr : r = 0 := by rw [← HR.out]; rfl
          subst hr
          go_enter Try.func109, Try.ntmps109
          go_wp2_with fail
          refine (isRefs_is 0 _ true H1.out).mono ?_
          rintro e w1 ⟨rfl, rfl⟩
          go_wp2_with fail
          refine (isData_is 0 _ true H2.out).mono ?_
          rintro e w1 ⟨rfl, rfl⟩
          go_wp2
          go_ret
          exact ⟨rfl, A⟩
        · have hr : r = 1 := by rw [← HR.out]; simp [hz2]
          subst hr
          have hne : (y != 0) = true := by simp [hz2]
          go_enter Try.func109, Try.ntmps109
          go_wp2_with fail
          refine (isRefs_is 0 _ true H1.out).mono ?_
          rintro e w1 ⟨rfl, rfl⟩
          go_wp2_with fail
          refine (isData_is y _ true H2.out).mono ?_
          rintro e w1 ⟨rfl, rfl⟩
          go_wp2
          go_ret
          exact ⟨rfl, A⟩
      · have hr : r = 0 := by rw [← HR.out]; simp [hz]
        subst hr
        go_enter Try.func109, Try.ntmps109
        go_wp2_with fail
        refine (isRefs_is x _ true H1.out).mono ?_
        rintro e w1 ⟨rfl, rfl⟩
        go_wp2_with fail
        refine (isData_is y _ true H2.out).mono ?_
        rintro e w1 ⟨rfl, rfl⟩
        go_wp2
        go_ret
        exact ⟨rfl, A⟩

end Go.Proofs.Ytedgppggaceopaa

/- Chapter 3: the program's BlocksFault; blocks as numbers and back. -/
namespace Go.Proofs.Ytedgppggaceopaa
open Go.RowKit

set_option maxRecDepth 20000 in
set_option maxHeartbeats 2000000 in
theorem implBF_any {o : Bool} {l u : Nat} (ao : Option Addr) (n cap : Nat) (bs : List (Int × Int)) (w : World) (h : RowAt w o l u 2 ao n cap (pairs bs)) (hn : n ≤ 2097152) :
    Calls Try.prog 81 #[.slice ao n cap] w fun e w' => e = .returned (.int .i64 (blkFault bs)) ∧ Below w.heap.size w w' := by
  have hl := h.nPairs
  by_cases h24 : 24 < n
  · have hr : blkFault bs = 2 := if_pos (by omega)
    rw [hr]
    have hi : (24 : Int) < n := by omega
    go_enter Try.func81, Try.ntmps81
    go_wp2
    go_ret
    exact ⟨rfl, Below.refl _ _⟩
  have hi : ¬ (24 : Int) < n := by omega
  have HR : Hid (blkFault bs = blkGo bs) := if_neg (by omega)
  go_enter Try.func81, Try.ntmps81
  go_wp2
  go_loopw [11] (fun i wr => ∃ k : Nat, k ≤ n ∧ i = .int .i64 k ∧ (∀ j, j < k → blkOne (bs.getD j (0, 0)) = 0) ∧ Below w.heap.size w wr) (fun i _ => n - (intOf i).toNat)
  case atStart => exact ⟨0, by omega, rfl, fun j hj => absurd hj (by omega), Below.refl _ _⟩
  case round =>
    obtain ⟨k, hk, rfl, ha, B⟩ := hrel
    have HA : Hid _ := ha
    clear ha
    by_cases hlt : k < n
    · obtain ⟨b, f, rfl, _, _, hbs, e1, e2, _⟩ := h.pair hlt
      replace e1 := (B.cell (p := ⟨b, f + k * 2, none⟩) hbs).trans e1
      replace e2 := (B.cell (p := ⟨b, f + k * 2 + 1, none⟩) hbs).trans e2
      have hlk : (k : Int) < (n : Int) := by omega
      have HF : Hid _ := blkGo_first bs k (by omega) HA.out
      have HN : Hid (blkOne (bs.getD k (0, 0)) = 0 → ∀ j, j < k + 1 → blkOne (bs.getD j (0, 0)) = 0) := fun h0 j hj => by
        by_cases e : j = k
        · subst e; exact h0
        · exact HA.out j (by omega)
      obtain ⟨⟨x, y⟩, hxy⟩ : ∃ p, bs.getD k (0, 0) = p := ⟨_, rfl⟩
      rw [hxy] at e1 e2 HF HN
      simp only at e1 e2
      clear hxy
      obtain ⟨r, hr⟩ : ∃ r, blkOne (x, y) = r := ⟨_, rfl⟩
      rw [hr] at HF HN
      have H0 : Hid _ := hr
      clear hr
      have A : Below w.heap.size w (wr.alloc (.cells #[.int .i64 x, .int .i64 y] 105)) := B.alloc B.size _
      by_cases hr0 : r = 0
      · subst hr0
        go_wp2_with fail
        refine (blockFault_is x y _ 0 H0.out).mono ?_
        rintro e w1 ⟨rfl, hb⟩
        replace A := below_next A hb
        clear hb
        go_wp2
        go_roundw
        case rel => exact ⟨k + 1, by omega, by go_num, HN.out trivial, A⟩
        case measure => simp [intOf]; omega
      · have hne : (r != 0) = true := by simp [hr0]
        have HH : Hid _ := HF.out hr0
        clear HF HN hr0
        go_wp2_with fail
        refine (blockFault_is x y _ r H0.out).mono ?_
        rintro e w1 ⟨rfl, hb⟩
        replace A := below_next A hb
        clear hb
        go_wp2
        go_ret
        exact ⟨ret_int (by rw [HR.out, HH.out]), A⟩
    · obtain rfl : k = n := by omega
      have HZ : Hid (blkGo bs = 0) := blkGo_zero bs fun j hj => HA.out j (by omega)
      go_wp2
      go_ret
      exact ⟨ret_int (by rw [HR.out, HZ.out]), B⟩

theorem implBF_b {o : Bool} {l u : Nat} (ao : Option Addr) (n cap : Nat) (bs : List (Int × Int)) (w : World) (h : RowAt w o l u 2 ao n cap (pairs bs)) (hn : n ≤ 2097152) (r : Int) (hr : blkFault bs = r) :
    Calls Try.prog 81 #[.slice ao n cap] w fun e w' => e = .returned (.int .i64 r) ∧ Below w.heap.size w w' := by rw [← hr]; exact implBF_any ao n cap bs w h hn

end Go.Proofs.Ytedgppggaceopaa

/- Chapter 3: the program's blocks as numbers, and the first free one. -/
namespace Go.Proofs.Ytedgppggaceopaa
open Go.RowKit

def Fine (bs : List (Int × Int)) : Prop := ∀ p ∈ bs, Small p ∧ (p.1 = 0 → p.2 = 0)
theorem Fine.at {bs : List (Int × Int)} (h : Fine bs) {k : Nat} (hk : k < bs.length) : Small (bs.getD k (0, 0)) ∧ ((bs.getD k (0, 0)).1 = 0 → (bs.getD k (0, 0)).2 = 0) :=
  h _ (by rw [List.getD_eq_getElem?_getD, List.getElem?_eq_getElem hk]; exact List.getElem_mem hk)

end Go.Proofs.Ytedgppggaceopaa

/- Chapter 3: the program's answer out of numbers; what sharing and dropping ask. -/
namespace Go.Proofs.Ytedgppggaceopaa
open Go.RowKit

end Go.Proofs.Ytedgppggaceopaa

/- Chapter 3: what sharing and dropping ask; how many are free; new blocks: the program's answers. -/
namespace Go.Proofs.Ytedgppggaceopaa
open Go.RowKit

end Go.Proofs.Ytedgppggaceopaa

/- Chapter 3: the program's NewBlocks, TakeBlock, ShareBlock, DropBlock: what they answer. -/
namespace Go.Proofs.Ytedgppggaceopaa
open Go.RowKit

end Go.Proofs.Ytedgppggaceopaa
