/- Chapter 3: blocks: what the model's functions answer. -/
import Derived.Test.YtkdaphfmhdkhfaaP1
import Derived.Test.YtkdaphfmhdkhfaaFacts
namespace Go.Proofs.Ytkdaphfmhdkhfaa
open Go.RowKit

theorem pairs_set (bs : List (Int × Int)) : ∀ (k : Nat) (p : Int × Int), ((pairs bs).set (k * 2) (.int .i64 p.1)).set (k * 2 + 1) (.int .i64 p.2) = pairs (bs.set k p) := by
  induction bs with
  | nil => intro k p; simp [pairs]
  | cons q r ih =>
    intro k p
    cases k with
    | zero => simp [pairs]
    | succ k =>
      have := ih k p
      simp only [pairs, List.flatMap_cons, List.cons_append, List.nil_append, Nat.succ_mul, List.set_cons_succ] at this ⊢
      rw [← this]
theorem pairs_set1 (bs : List (Int × Int)) : ∀ (k : Nat) (x : Int), (pairs bs).set (k * 2) (.int .i64 x) = pairs (bs.set k (x, (bs.getD k (0, 0)).2)) := by
  induction bs with
  | nil => intro k x; simp [pairs]
  | cons q r ih =>
    intro k x
    cases k with
    | zero => simp [pairs]
    | succ k =>
      have := ih k x
      simp only [pairs, List.flatMap_cons, List.cons_append, List.nil_append, Nat.succ_mul, List.set_cons_succ, List.getD_cons_succ] at this ⊢
      rw [← this]
theorem pairs_set2 (bs : List (Int × Int)) : ∀ (k : Nat) (y : Int), (pairs bs).set (k * 2 + 1) (.int .i64 y) = pairs (bs.set k ((bs.getD k (0, 0)).1, y)) := by
  induction bs with
  | nil => intro k x; simp [pairs]
  | cons q r ih =>
    intro k x
    cases k with
    | zero => simp [pairs]
    | succ k =>
      have := ih k x
      simp only [pairs, List.flatMap_cons, List.cons_append, List.nil_append, Nat.succ_mul, List.set_cons_succ, List.getD_cons_succ] at this ⊢
      rw [← this]

theorem l3Bad_any (c : Int) (w : World) : Calls Try.prog 156 #[.int .i64 c] w fun e w' => e = .returned (.agg #[.int .i64 c, .int .i64 0, .slice none 0 0]) ∧ Below w.heap.size w w' := by
  go_enter Try.func156, Try.ntmps156
  go_wp2
  refine bodyPost_ret (v := .agg #[.int .i64 c, .int .i64 0, .slice none 0 0]) (by simp [results, Try.results156, go_sem]) rfl ⟨rfl, ?_⟩
  exact (Below.refl _ _).alloc (Nat.le_refl _) _

theorem specFree_is {o : Bool} {l u : Nat} (ao : Option Addr) (n cap : Nat) (bs : List (Int × Int)) (w : World) (h : RowAt w o l u 2 ao n cap (pairs bs)) (hn : n ≤ 2097152) (cd vl : Int) (hc : blkFault bs = cd) (hv : freeVal bs = vl) :
    Calls Try.prog 108 #[.slice ao n cap] w fun e w' => e = .returned (.agg #[.int .i64 cd, .int .i64 vl]) ∧ Below w.heap.size w w' := by
  have A : Below w.heap.size w (w.alloc (.cells #[.int .i64 0, .int .i64 0] 43)) := (Below.refl _ _).alloc (Nat.le_refl _) _
  have r := h.below A
  by_cases h0 : cd = 0
  · have HV : Hid ((freeN bs : Int) = vl) := by show _ = _; rw [← hv, freeVal, hc, if_pos h0]
    subst h0
    have HC : Hid _ := hc
    clear hc hv
    go_enter Try.func108, Try.ntmps108
    go_wp2_with fail
    refine (specBF_is _ n cap bs _ (by exact r) hn 0 HC.out).mono ?_
    rintro e w1 ⟨rfl, rfl⟩
    go_wp2_with fail
    refine (l3Count_any _ n cap bs _ (by exact r) hn).mono ?_
    rintro e w1 ⟨rfl, rfl⟩
    rw [HV.out]
    go_wp2
    refine bodyPost_ret (v := .agg #[.int .i64 0, .int .i64 vl]) (by simp [results, Try.results108, go_sem]) rfl ⟨rfl, ?_⟩
    exact (Below.refl _ _).alloc (Nat.le_refl _) _
  · have hvl : vl = 0 := by rw [← hv, freeVal, hc, if_neg h0]
    subst hvl
    have HC : Hid _ := hc
    have hne : (cd != 0) = true := by simp [h0]
    clear hc hv h0
    go_enter Try.func108, Try.ntmps108
    go_wp2_with fail
    refine (specBF_is _ n cap bs _ (by exact r) hn cd HC.out).mono ?_
    rintro e w1 ⟨rfl, rfl⟩
    go_wp2
    refine bodyPost_ret (v := .agg #[.int .i64 cd, .int .i64 0]) (by simp [results, Try.results108, go_sem]) rfl ⟨rfl, ?_⟩
    exact (Below.refl _ _).alloc (Nat.le_refl _) _

set_option maxHeartbeats 1000000 in
theorem l3Asked_is {o : Bool} {l u : Nat} (ao : Option Addr) (n cap : Nat) (bs : List (Int × Int)) (x : Int) (w : World) (h : RowAt w o l u 2 ao n cap (pairs bs)) (hn : n ≤ 2097152) (cd : Int) (hc : askCode bs x = cd) :
    Calls Try.prog 200 #[.slice ao n cap, .int .i64 x] w fun e w' => e = .returned (.int .i64 cd) ∧ w' = w := by
  have hl := h.nPairs
  unfold askCode at hc
  by_cases h0 : blkFault bs = 0
  · rw [if_pos h0, hl] at hc
    have H0 : Hid _ := h0
    have h24 := (blkFault_zero h0).1
    clear h0
    by_cases hx : 0 ≤ x ∧ x ≤ (n : Int) - 1
    · rw [if_pos hx] at hc
      obtain ⟨k, rfl⟩ : ∃ k : Nat, x = k := ⟨x.toNat, by omega⟩
      rw [Int.toNat_natCast] at hc
      have hlt : k < n := by omega
      have hlk : (k : Int) < n := by omega
      have HD : Hid _ := decide_eq_true hx
      obtain ⟨b, f, rfl, _, _, _, e1, e2, _⟩ := h.pair hlt
      obtain ⟨y, hy⟩ : ∃ y, (bs.getD k (0, 0)).1 = y := ⟨_, rfl⟩
      rw [hy] at e1 hc
      clear hx hy e2
      by_cases hz : y = 0
      · rw [if_pos hz] at hc
        subst hz
        subst hc
        go_enter Try.func200, Try.ntmps200
        go_wp2_with fail
        refine (specBF_is _ n cap bs _ h hn 0 H0.out).mono ?_
        rintro e w1 ⟨rfl, rfl⟩
        go_wp2_with fail
        refine (l1In_bool _ _ _ _ true HD.out).mono ?_
        rintro e w1 ⟨rfl, rfl⟩
        go_wp2
        go_ret
        exact ⟨rfl, rfl⟩
      · rw [if_neg hz] at hc
        subst hc
        go_enter Try.func200, Try.ntmps200
        go_wp2_with fail
        refine (specBF_is _ n cap bs _ h hn 0 H0.out).mono ?_
        rintro e w1 ⟨rfl, rfl⟩
        go_wp2_with fail
        refine (l1In_bool _ _ _ _ true HD.out).mono ?_
        rintro e w1 ⟨rfl, rfl⟩
        go_wp2
        go_ret
        exact ⟨rfl, rfl⟩
    · rw [if_neg hx] at hc
      subst hc
      have HD : Hid _ := decide_eq_false hx
      clear hx
      go_enter Try.func200, Try.ntmps200
      go_wp2_with fail
      refine (specBF_is _ n cap bs _ h hn 0 H0.out).mono ?_
      rintro e w1 ⟨rfl, rfl⟩
      go_wp2_with fail
      refine (l1In_bool _ _ _ _ false HD.out).mono ?_
      rintro e w1 ⟨rfl, rfl⟩
      go_wp2
      go_ret
      exact ⟨rfl, rfl⟩
  · rw [if_neg h0] at hc
    rw [hc] at h0
    have HC : Hid _ := hc
    have hne : (cd != 0) = true := by simp [h0]
    clear hc h0
    go_enter Try.func200, Try.ntmps200
    go_wp2_with fail
    refine (specBF_is _ n cap bs _ h hn cd HC.out).mono ?_
    rintro e w1 ⟨rfl, rfl⟩
    go_wp2
    go_ret
    exact ⟨rfl, rfl⟩

end Go.Proofs.Ytkdaphfmhdkhfaa
