/- What the program's and the model's WordAt answer, and that two alike answers are told to be equal. -/
import Derived.Test.YtkdaphfmhdkhfaaAll
namespace Go.Proofs.Ytkdaphfmhdkhfaa
open Go.RowKit

def atCode (xs : List Int) (ys : List (Int × Int)) (x : Int) : Int := if faultOf xs ys = 0 then (if placeB x then 0 else 3) else faultOf xs ys
def atVal (xs : List Int) (ys : List (Int × Int)) (x : Int) : Int := if faultOf xs ys = 0 then (if placeB x then (putAll xs ys).getD x.toNat 0 else 0) else 0

theorem place_nat {x : Int} (h : placeB x = true) : ∃ m : Nat, x = m ∧ m < 64 := by
  simp [placeB] at h
  exact ⟨x.toNat, by omega, by omega⟩

set_option maxHeartbeats 400000 in
theorem eqNRes_yes (c v : Int) (w : World) :
    Calls Try.prog 87 #[.agg #[.int .i64 c, .int .i64 v], .agg #[.int .i64 c, .int .i64 v]] w fun e w' => e = .returned (.bool true) ∧ Below w.heap.size w w' := by
  have he : (c != c) = false := by simp
  have hv : (v != v) = false := by simp
  go_enter Try.func87, Try.ntmps87
  go_wp2
  go_ret
  exact ⟨rfl, ((Below.refl _ _).alloc (Nat.le_refl _) _).alloc (by simp) _⟩

set_option maxRecDepth 20000 in
set_option maxHeartbeats 1000000 in
theorem implAt_any {o0 o1 : Bool} {l0 u0 l1 u1 : Nat} (a0 a1 : Option Addr) (n0 c0 n1 c1 : Nat) (xs : List Int) (ys : List (Int × Int)) (x : Int) (w : World) (h0 : RowAt w o0 l0 u0 1 a0 n0 c0 (ints xs)) (h1 : RowAt w o1 l1 u1 2 a1 n1 c1 (pairs ys)) (hn : n0 ≤ 2097152) (hm : n1 ≤ 2097152) :
    Calls Try.prog 44 #[.agg #[.slice a0 n0 c0, .slice a1 n1 c1], .int .i64 x] w fun e w' => e = .returned (.agg #[.int .i64 (atCode xs ys x), .int .i64 (atVal xs ys x)]) ∧ Below w.heap.size w w' := by
  have B1 : Below w.heap.size w ((w.alloc (.cells #[.slice a0 n0 c0, .slice a1 n1 c1] 27)).alloc (.cells #[.int .i64 0, .int .i64 0] 43)) := ((Below.refl _ _).alloc (Nat.le_refl _) _).alloc (by simp) _
  by_cases h0f : faultOf xs ys = 0
  · obtain ⟨hx, hy, hpl⟩ := fault_zero h0f
    have HF : Hid _ := h0f
    cases hp : placeB x with
    | true =>
      obtain ⟨m, rfl, hm64⟩ := place_nat hp
      obtain ⟨r, hr⟩ : ∃ r, (putAll xs ys).getD m 0 = r := ⟨_, rfl⟩
      have e1 : atCode xs ys m = 0 := by simp [atCode, h0f, hp]
      have e2 : atVal xs ys m = r := by rw [← hr]; simp [atVal, h0f, hp]
      have HP : Hid _ := hp
      have HR : Hid _ := hr
      rw [e1, e2]
      clear h0f e1 e2 hp hr
      have hl64 : (m : Int) < 64 := by omega
      go_enter Try.func44, Try.ntmps44
      go_wp2_with fail
      refine (implFault_is _ _ _ _ _ _ xs ys _ (by exact h0.below B1) (by exact h1.below B1) hn hm _ HF.out).mono ?_
      rintro e w1 ⟨rfl, hb1⟩
      have B2 := below_next B1 hb1
      have k0 : w1.cell? ⟨w.heap.size, 0, none⟩ = some (.slice a0 n0 c0) := cell_later hb1 (by simp)
      have k1 : w1.cell? ⟨w.heap.size, 1, none⟩ = some (.slice a1 n1 c1) := cell_later hb1 (by simp)
      have z0 : w1.cell? ⟨w.heap.size + 1, 0, none⟩ = some (.int .i64 0) := cell_later hb1 (by simp)
      have z1 : w1.cell? ⟨w.heap.size + 1, 1, none⟩ = some (.int .i64 0) := cell_later hb1 (by simp)
      have y0 : w1.frozen? ⟨w.heap.size + 1, 0, none⟩ = false := frozen_later hb1 (by simp) (by simp)
      have y1 : w1.frozen? ⟨w.heap.size + 1, 1, none⟩ = false := frozen_later hb1 (by simp) (by simp)
      have hz : w.heap.size + 1 < w1.heap.size := by have := hb1.size; simp at this; omega
      clear hb1
      go_wp2_with fail
      refine (isSector_is _ _ true HP.out).mono ?_
      rintro e w' ⟨rfl, rfl⟩
      go_wp2_with fail
      refine (seenOf_any _ _ _ _ _ _ xs ys _ (by exact h0.below B2) (by exact h1.below B2) hx hm hpl).mono ?_
      rintro e w2 ⟨rfl, hb2⟩
      have B3 := below_next B2 hb2
      have z0 := cell_later hb2 z0
      have z1 := cell_later hb2 z1
      have y0 := frozen_later hb2 hz y0
      have y1 := frozen_later hb2 hz y1
      have hz := Nat.lt_of_lt_of_le hz hb2.size
      clear hb2 k0 k1
      have hl : (ints (putAll xs ys)).length = 64 := by rw [ints_length, putAll_len, hx]
      obtain ⟨A, hA⟩ : ∃ A, (ints (putAll xs ys)).toArray = A := ⟨_, rfl⟩
      rw [hA]
      have HO : Hid (A.all (·.oneCell') = true) := by show _ = _; rw [← hA]; exact ints_one _
      have hs : A.size = 64 := by rw [← hA]; simpa using hl
      have HZ : Hid ((Try.prog.info? 153).map (·.size) = some A.size) := by show _ = _; rw [hs]; exact Try.infoSec
      have HS : Hid (64 = A.size) := hs.symm
      have hcell : A[m]? = some (.int .i64 r) := by
        rw [← hA, ← HR.out]
        simp [ints, List.getD, putAll_len, hx, hm64]
      clear hs hA hl
      go_wp2_with (first | ((with_reducible refine store_new 153 w2 _ A _ HZ.out ?_ HO.out ?_ ?_ ?_); exact HS.out; rfl; rfl))
      refine bodyPost_ret (v := .agg #[.int .i64 0, .int .i64 r]) (by simp [results, Try.results44, go_sem, z0, z1, hz]) rfl ⟨rfl, ?_⟩
      have hz2 := B3.size
      refine Below.alloc (Below.setCell (Below.setCell B3 ?_ _) ?_ _) ?_ _ <;> simp <;> omega
    | false =>
      have e1 : atCode xs ys x = 3 := by simp [atCode, h0f, hp]
      have e2 : atVal xs ys x = 0 := by simp [atVal, h0f, hp]
      have HP : Hid _ := hp
      rw [e1, e2]
      clear h0f e1 e2 hp
      go_enter Try.func44, Try.ntmps44
      go_wp2_with fail
      refine (implFault_is _ _ _ _ _ _ xs ys _ (by exact h0.below B1) (by exact h1.below B1) hn hm _ HF.out).mono ?_
      rintro e w1 ⟨rfl, hb1⟩
      have B2 := below_next B1 hb1
      have k0 : w1.cell? ⟨w.heap.size, 0, none⟩ = some (.slice a0 n0 c0) := cell_later hb1 (by simp)
      have k1 : w1.cell? ⟨w.heap.size, 1, none⟩ = some (.slice a1 n1 c1) := cell_later hb1 (by simp)
      have z0 : w1.cell? ⟨w.heap.size + 1, 0, none⟩ = some (.int .i64 0) := cell_later hb1 (by simp)
      have z1 : w1.cell? ⟨w.heap.size + 1, 1, none⟩ = some (.int .i64 0) := cell_later hb1 (by simp)
      have y0 : w1.frozen? ⟨w.heap.size + 1, 0, none⟩ = false := frozen_later hb1 (by simp) (by simp)
      have y1 : w1.frozen? ⟨w.heap.size + 1, 1, none⟩ = false := frozen_later hb1 (by simp) (by simp)
      have hz : w.heap.size + 1 < w1.heap.size := by have := hb1.size; simp at this; omega
      clear hb1
      go_wp2_with fail
      refine (isSector_is _ _ false HP.out).mono ?_
      rintro e w' ⟨rfl, rfl⟩
      go_wp2
      refine bodyPost_ret (v := .agg #[.int .i64 3, .int .i64 0]) (by simp [results, Try.results44, go_sem, z0, z1]) rfl ⟨rfl, ?_⟩
      refine Below.setCell (Below.setCell B2 ?_ _) ?_ _ <;> simp
  · obtain ⟨f, hf⟩ : ∃ f, faultOf xs ys = f := ⟨_, rfl⟩
    have e1 : atCode xs ys x = f := by rw [atCode, if_neg h0f, hf]
    have e2 : atVal xs ys x = 0 := by simp [atVal, h0f]
    rw [e1, e2]
    rw [hf] at h0f
    have hne : (f != 0) = true := by simp [h0f]
    have HF : Hid _ := hf
    clear e1 e2 h0f hf
    go_enter Try.func44, Try.ntmps44
    go_wp2_with fail
    refine (implFault_is _ _ _ _ _ _ xs ys _ (by exact h0.below B1) (by exact h1.below B1) hn hm _ HF.out).mono ?_
    rintro e w1 ⟨rfl, hb1⟩
    have B2 := below_next B1 hb1
    have k0 : w1.cell? ⟨w.heap.size, 0, none⟩ = some (.slice a0 n0 c0) := cell_later hb1 (by simp)
    have k1 : w1.cell? ⟨w.heap.size, 1, none⟩ = some (.slice a1 n1 c1) := cell_later hb1 (by simp)
    have z0 : w1.cell? ⟨w.heap.size + 1, 0, none⟩ = some (.int .i64 0) := cell_later hb1 (by simp)
    have z1 : w1.cell? ⟨w.heap.size + 1, 1, none⟩ = some (.int .i64 0) := cell_later hb1 (by simp)
    have y0 : w1.frozen? ⟨w.heap.size + 1, 0, none⟩ = false := frozen_later hb1 (by simp) (by simp)
    have y1 : w1.frozen? ⟨w.heap.size + 1, 1, none⟩ = false := frozen_later hb1 (by simp) (by simp)
    have hz : w.heap.size + 1 < w1.heap.size := by have := hb1.size; simp at this; omega
    clear hb1
    go_wp2
    refine bodyPost_ret (v := .agg #[.int .i64 f, .int .i64 0]) (by simp [results, Try.results44, go_sem, z0, z1]) rfl ⟨rfl, ?_⟩
    refine Below.setCell (Below.setCell B2 ?_ _) ?_ _ <;> simp

set_option maxRecDepth 20000 in
set_option maxHeartbeats 1000000 in
theorem specAt_any {o0 o1 : Bool} {l0 u0 l1 u1 : Nat} (a0 a1 : Option Addr) (n0 c0 n1 c1 : Nat) (xs : List Int) (ys : List (Int × Int)) (x : Int) (w : World) (h0 : RowAt w o0 l0 u0 1 a0 n0 c0 (ints xs)) (h1 : RowAt w o1 l1 u1 2 a1 n1 c1 (pairs ys)) (hn : n0 ≤ 2097152) (hm : n1 ≤ 2097152) :
    Calls Try.prog 86 #[.agg #[.slice a0 n0 c0, .slice a1 n1 c1], .int .i64 x] w fun e w' => e = .returned (.agg #[.int .i64 (atCode xs ys x), .int .i64 (atVal xs ys x)]) ∧ Below w.heap.size w w' := by
  have B1 : Below w.heap.size w ((w.alloc (.cells #[.slice a0 n0 c0, .slice a1 n1 c1] 27)).alloc (.cells #[.int .i64 0, .int .i64 0] 43)) := ((Below.refl _ _).alloc (Nat.le_refl _) _).alloc (by simp) _
  by_cases h0f : faultOf xs ys = 0
  · obtain ⟨hx, hy, hpl⟩ := fault_zero h0f
    have HF : Hid _ := h0f
    cases hp : placeB x with
    | true =>
      obtain ⟨m, rfl, hm64⟩ := place_nat hp
      obtain ⟨r, hr⟩ : ∃ r, (putAll xs ys).getD m 0 = r := ⟨_, rfl⟩
      have e1 : atCode xs ys m = 0 := by simp [atCode, h0f, hp]
      have e2 : atVal xs ys m = r := by rw [← hr]; simp [atVal, h0f, hp]
      have HP : Hid _ := hp
      have HR : Hid _ := hr
      rw [e1, e2]
      clear h0f e1 e2 hp hr
      go_enter Try.func86, Try.ntmps86
      go_wp2_with fail
      refine (l1Fault_is _ a0 a1 n0 c0 n1 c1 xs ys _ (by exact h0.below B1) (by exact h1.below B1) hn hm (by simp) (by simp) _ HF.out).mono ?_
      rintro e w1 ⟨rfl, rfl⟩
      go_wp2_with fail
      refine (l1Place_is _ _ true HP.out).mono ?_
      rintro e w' ⟨rfl, rfl⟩
      go_wp2_with fail
      refine (l1At_any _ a0 a1 n0 c0 n1 c1 xs ys m _ (by exact h0.below B1) (by exact h1.below B1) hx hm64 hm hpl (by simp) (by simp) r HR.out).mono ?_
      rintro e w' ⟨rfl, rfl⟩
      go_wp2
      refine bodyPost_ret (v := .agg #[.int .i64 0, .int .i64 r]) (by simp [results, Try.results86, go_sem]) rfl ⟨rfl, ?_⟩
      exact ((Below.refl _ _).alloc (Nat.le_refl _) _).alloc (by simp) _
    | false =>
      have e1 : atCode xs ys x = 3 := by simp [atCode, h0f, hp]
      have e2 : atVal xs ys x = 0 := by simp [atVal, h0f, hp]
      have HP : Hid _ := hp
      rw [e1, e2]
      clear h0f e1 e2 hp
      go_enter Try.func86, Try.ntmps86
      go_wp2_with fail
      refine (l1Fault_is _ a0 a1 n0 c0 n1 c1 xs ys _ (by exact h0.below B1) (by exact h1.below B1) hn hm (by simp) (by simp) _ HF.out).mono ?_
      rintro e w1 ⟨rfl, rfl⟩
      go_wp2_with fail
      refine (l1Place_is _ _ false HP.out).mono ?_
      rintro e w' ⟨rfl, rfl⟩
      go_wp2
      refine bodyPost_ret (v := .agg #[.int .i64 3, .int .i64 0]) (by simp [results, Try.results86, go_sem]) rfl ⟨rfl, ?_⟩
      exact ((Below.refl _ _).alloc (Nat.le_refl _) _).alloc (by simp) _
  · obtain ⟨f, hf⟩ : ∃ f, faultOf xs ys = f := ⟨_, rfl⟩
    have e1 : atCode xs ys x = f := by rw [atCode, if_neg h0f, hf]
    have e2 : atVal xs ys x = 0 := by simp [atVal, h0f]
    rw [e1, e2]
    rw [hf] at h0f
    have hne : (f != 0) = true := by simp [h0f]
    have HF : Hid _ := hf
    clear e1 e2 h0f hf
    go_enter Try.func86, Try.ntmps86
    go_wp2_with fail
    refine (l1Fault_is _ a0 a1 n0 c0 n1 c1 xs ys _ (by exact h0.below B1) (by exact h1.below B1) hn hm (by simp) (by simp) _ HF.out).mono ?_
    rintro e w1 ⟨rfl, rfl⟩
    go_wp2
    refine bodyPost_ret (v := .agg #[.int .i64 f, .int .i64 0]) (by simp [results, Try.results86, go_sem]) rfl ⟨rfl, ?_⟩
    exact ((Below.refl _ _).alloc (Nat.le_refl _) _).alloc (by simp) _

end Go.Proofs.Ytkdaphfmhdkhfaa
