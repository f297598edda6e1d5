/- Chapter 5: small parts of the program's ApplyOp. -/
import Derived.Test.YtikjndmgljkhhaaZG
import Derived.Test.YtikjndmgljkhhaaYP
import Derived.Test.YtikjndmgljkhhaaY0
import Derived.Test.YtikjndmgljkhhaaO1
namespace Go.Proofs.Ytikjndmgljkhhaa
open Go.RowKit

theorem trips_one (vs : List Vo) : ∀ u ∈ trips vs, u.oneCell' = true := fun u hu => by
  unfold trips flat3 at hu
  rw [List.mem_map] at hu
  obtain ⟨j, _, e⟩ := hu
  rw [← e]
  split
  · rfl
  · split <;> rfl
set_option maxRecDepth 20000 in
set_option maxHeartbeats 1000000 in
theorem cloneV_is {o : Bool} {l u : Nat} (ab : Option Addr) (nb cb : Nat) (bs : List Vo) (w : World) (h : RowAt w o l u 3 ab nb cb (trips bs)) (hn : nb ≤ 1048576) :
    Calls Try.prog 120 #[.slice ab nb cb] w fun e w' => ∃ ra rc, e = .returned (.slice ra nb rc) ∧ RowAt w' true w.heap.size w'.heap.size 3 ra nb rc (trips bs) ∧ Below w.heap.size w w' := by
  obtain ⟨j0, hj0, hy0, hy1, hy2⟩ := info_parts Try.infoVol
  have hq : ∀ W, (binOp .eql 29 (.slice ab nb cb) (.slice none 0 0)).run Try.prog W = .ok (.bool ab.isNone) W := fun W => Lib.run_eql_slice_nil W _ _ ab nb cb 0 0 Try.underlying29
  cases ab with
  | none =>
    simp only [Option.isNone_none] at hq
    have hz : nb = 0 := Decidable.byContradiction fun hne => by obtain ⟨_, _, e, _⟩ := h.cells hne; cases e
    subst hz
    have hbs : trips bs = [] := List.eq_nil_of_length_eq_zero (by have := h.len; omega)
    rw [hbs]
    go_enter Try.func120, Try.ntmps120
    go_wp2
    go_ret
    exact ⟨none, 0, rfl, RowAt.nil _ _ _ _ _, Below.refl _ _⟩
  | some ad =>
    simp only [Option.isNone_some] at hq
    have B3 : Below w.heap.size w (w.alloc (.cells #[] 92)) := (Below.refl _ _).alloc (Nat.le_refl _) _
    obtain ⟨ad', cp, w4, hr4, R4, B4, -⟩ := run_append_fresh (P := Try.prog) (w.alloc (.cells #[] 92)) 29 29 92 j0 (.agg #[.int .i64 0, .int .i64 0, .int .i64 0]) 3 24 Try.underlying29 hj0 hy0 hy1 hy2 (by rw [hy1]; rfl) w.heap.size (some ad) nb cb (trips bs) (h.below B3) (trips_one bs) hn (by omega)
    go_enter Try.func120, Try.ntmps120
    go_wp2_with (at_builtin; refine Lib.wpList_append_run _ rfl _ _ _ _ rfl _ _ rfl rfl _ _ hr4 ?_)
    have B5 := below_next B3 B4
    have R5 : RowAt w4 true w.heap.size w4.heap.size 3 (some ad') nb cp (trips bs) := R4.widen (by simp) (Nat.le_refl _)
    clear B3 B4 R4 hr4
    go_wp2
    go_ret
    exact ⟨some ad', cp, rfl, R5, B5⟩

set_option maxRecDepth 20000 in
set_option maxHeartbeats 1000000 in
theorem newVR_is {o2 : Bool} {l2 u2 : Nat} (av : Option Addr) (nv cv : Nat) (vs : List Vo) (w : World) (hv : RowAt w o2 l2 u2 3 av nv cv (trips vs)) (hvn : nv ≤ 2097152) (id : Int) (d : Int) (hd : newVR vs id = d) : Calls Try.prog 156 #[.slice av nv cv, .int .i64 id] w fun e w' => e = .returned (.int .i64 d) ∧ Below w.heap.size w w' := by
  have hvl := hv.nTrips
  obtain ⟨q, hq⟩ : ∃ q, volPl vs id = q := ⟨_, rfl⟩
  have HQ : Hid _ := hq
  have HD : Hid ((if q = -1 then (if vs.length = 6 then (2 : Int) else 0) else 7) = d) := by show _ = _; rw [← hd, newVR, hq]
  clear hq hd
  go_enter Try.func156, Try.ntmps156
  go_wp2_with fail
  refine (volPlace_is av nv cv vs _ hv hvn id q HQ.out).mono ?_
  rintro e w1 ⟨rfl, A⟩
  by_cases h1 : q = -1
  · have hne : (q != -1) = false := by simp [h1]
    by_cases h6 : nv = 6
    · have e1 : d = 2 := by rw [← HD.out, if_pos h1, if_pos (by omega)]
      subst e1 h6
      clear HD h1
      go_wp2
      go_ret
      exact ⟨rfl, A⟩
    · have e1 : d = 0 := by rw [← HD.out, if_pos h1, if_neg (by omega)]
      have h6' : ((nv : Int) == 6) = false := by simp; omega
      have h6'' : decide ((nv : Int) = 6) = false := decide_eq_false (by omega)
      subst e1
      clear HD h1
      go_wp2
      go_ret
      exact ⟨rfl, A⟩
  · have hne : (q != -1) = true := by simp [h1]
    have e1 : d = 7 := by rw [← HD.out, if_neg h1]
    subst e1
    clear HD h1
    go_wp2
    go_ret
    exact ⟨rfl, A⟩


set_option maxRecDepth 20000 in
set_option maxHeartbeats 1000000 in
theorem doneBy1 (w : World) : Calls Try.prog 44 #[.int .i64 1] w fun e w' => e = .returned (.func (.func 95) #[] #[]) ∧ Below w.heap.size w w' := by
  go_enter Try.func44, Try.ntmps44
  go_wp2_with (refine wpList_storeNew w w.heap.size rfl rfl 142 _ _ rfl _ #[.nilFunc, .func (.func 95) #[] #[], .func (.func 96) #[] #[], .func (.func 97) #[] #[], .func (.func 98) #[] #[], .func (.func 99) #[] #[], .func (.func 100) #[] #[]] rfl rfl (by as_aux_lemma => kernel_rfl) rfl (by as_aux_lemma => kernel_rfl) ?_)
  go_ret
  exact ⟨rfl, (Below.refl _ _).alloc (Nat.le_refl _) _⟩

set_option maxRecDepth 20000 in
set_option maxHeartbeats 1000000 in
theorem doneBy2 (w : World) : Calls Try.prog 44 #[.int .i64 2] w fun e w' => e = .returned (.func (.func 96) #[] #[]) ∧ Below w.heap.size w w' := by
  go_enter Try.func44, Try.ntmps44
  go_wp2_with (refine wpList_storeNew w w.heap.size rfl rfl 142 _ _ rfl _ #[.nilFunc, .func (.func 95) #[] #[], .func (.func 96) #[] #[], .func (.func 97) #[] #[], .func (.func 98) #[] #[], .func (.func 99) #[] #[], .func (.func 100) #[] #[]] rfl rfl (by as_aux_lemma => kernel_rfl) rfl (by as_aux_lemma => kernel_rfl) ?_)
  go_ret
  exact ⟨rfl, (Below.refl _ _).alloc (Nat.le_refl _) _⟩

set_option maxRecDepth 20000 in
set_option maxHeartbeats 1000000 in
theorem doneBy3 (w : World) : Calls Try.prog 44 #[.int .i64 3] w fun e w' => e = .returned (.func (.func 97) #[] #[]) ∧ Below w.heap.size w w' := by
  go_enter Try.func44, Try.ntmps44
  go_wp2_with (refine wpList_storeNew w w.heap.size rfl rfl 142 _ _ rfl _ #[.nilFunc, .func (.func 95) #[] #[], .func (.func 96) #[] #[], .func (.func 97) #[] #[], .func (.func 98) #[] #[], .func (.func 99) #[] #[], .func (.func 100) #[] #[]] rfl rfl (by as_aux_lemma => kernel_rfl) rfl (by as_aux_lemma => kernel_rfl) ?_)
  go_ret
  exact ⟨rfl, (Below.refl _ _).alloc (Nat.le_refl _) _⟩

set_option maxRecDepth 20000 in
set_option maxHeartbeats 1000000 in
theorem doneBy4 (w : World) : Calls Try.prog 44 #[.int .i64 4] w fun e w' => e = .returned (.func (.func 98) #[] #[]) ∧ Below w.heap.size w w' := by
  go_enter Try.func44, Try.ntmps44
  go_wp2_with (refine wpList_storeNew w w.heap.size rfl rfl 142 _ _ rfl _ #[.nilFunc, .func (.func 95) #[] #[], .func (.func 96) #[] #[], .func (.func 97) #[] #[], .func (.func 98) #[] #[], .func (.func 99) #[] #[], .func (.func 100) #[] #[]] rfl rfl (by as_aux_lemma => kernel_rfl) rfl (by as_aux_lemma => kernel_rfl) ?_)
  go_ret
  exact ⟨rfl, (Below.refl _ _).alloc (Nat.le_refl _) _⟩

set_option maxRecDepth 20000 in
set_option maxHeartbeats 1000000 in
theorem doneBy5 (w : World) : Calls Try.prog 44 #[.int .i64 5] w fun e w' => e = .returned (.func (.func 99) #[] #[]) ∧ Below w.heap.size w w' := by
  go_enter Try.func44, Try.ntmps44
  go_wp2_with (refine wpList_storeNew w w.heap.size rfl rfl 142 _ _ rfl _ #[.nilFunc, .func (.func 95) #[] #[], .func (.func 96) #[] #[], .func (.func 97) #[] #[], .func (.func 98) #[] #[], .func (.func 99) #[] #[], .func (.func 100) #[] #[]] rfl rfl (by as_aux_lemma => kernel_rfl) rfl (by as_aux_lemma => kernel_rfl) ?_)
  go_ret
  exact ⟨rfl, (Below.refl _ _).alloc (Nat.le_refl _) _⟩

set_option maxRecDepth 20000 in
set_option maxHeartbeats 1000000 in
theorem doneBy6 (w : World) : Calls Try.prog 44 #[.int .i64 6] w fun e w' => e = .returned (.func (.func 100) #[] #[]) ∧ Below w.heap.size w w' := by
  go_enter Try.func44, Try.ntmps44
  go_wp2_with (refine wpList_storeNew w w.heap.size rfl rfl 142 _ _ rfl _ #[.nilFunc, .func (.func 95) #[] #[], .func (.func 96) #[] #[], .func (.func 97) #[] #[], .func (.func 98) #[] #[], .func (.func 99) #[] #[], .func (.func 100) #[] #[]] rfl rfl (by as_aux_lemma => kernel_rfl) rfl (by as_aux_lemma => kernel_rfl) ?_)
  go_ret
  exact ⟨rfl, (Below.refl _ _).alloc (Nat.le_refl _) _⟩

end Go.Proofs.Ytikjndmgljkhhaa
