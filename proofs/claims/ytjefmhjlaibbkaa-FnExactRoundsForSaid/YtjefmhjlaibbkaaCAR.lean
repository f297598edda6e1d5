/- Chapter 11: the fault of a replica that stands in a list, of the model. -/
import Derived.Test.YtjefmhjlaibbkaaQAGR
import Derived.Test.YtjefmhjlaibbkaaQABR
import Derived.Test.YtjefmhjlaibbkaaQAQR
import Derived.Test.YtjefmhjlaibbkaaZCR
set_option maxRecDepth 20000
set_option maxHeartbeats 16000000
namespace Go.Proofs.Ytjefmhjlaibbkaa
open Go.RowKit
theorem l9PrimaryO_is (b oz : Nat) (id size view : Int) (normal : Bool) (last : Int) (s5 : Hd) (commit : Int) (s7 s8 s9 : Hd) (hs : 1 ≤ size ∧ size ≤ 5) (hv : 0 ≤ view ∧ view ≤ 300) (w : World) (X : Ro w b oz [.int .i64 id, .int .i64 size, .int .i64 view, .bool normal, .int .i64 last, .slice s5.1 s5.2.1 s5.2.2, .int .i64 commit, .slice s7.1 s7.2.1 s7.2.2, .slice s8.1 s8.2.1 s8.2.2, .slice s9.1 s9.2.1 s9.2.2]) : Calls Try.prog 27 #[.pointer (some ⟨b, oz, none⟩)] w fun e w' => e = .returned (.bool (view % size == id)) ∧ Below w.heap.size w w' := by
 have h0 : ¬ size = 0 := by omega
 have hr : view.tmod size = view % size := Int.tmod_eq_emod_of_nonneg hv.1
 have h2 := Int.emod_nonneg view h0
 have h3 : view % size < size := Int.emod_lt_of_pos view (by omega)
 have hw : IntKind.i64.wrap (view % size) = view % size := wrapI_same _ (by omega)
 clear h2 h3
 have c := X.cell
 go_enter Try.func27, Try.ntmps27
 go_wp2_with fail
 go_quiet (fail)
 go_wp2
 go_ret
 exact ⟨rfl, below_drewN (Below.refl _ _) nq⟩
theorem l9SizesO_is (b oz : Nat) (r : Rep) (h : RH) (hs : 1 ≤ r.size ∧ r.size ≤ 5) (hv : 0 ≤ r.view ∧ r.view ≤ 300) (ho : r.oks.length = h.O.2.1) (ha : r.asks.length = h.A.2.1) (hq : r.doers.length = h.D.2.1) (w : World) (X0 : Ro w b oz [.int .i64 r.id, .int .i64 r.size, .int .i64 r.view, .bool r.normal, .int .i64 r.last, .slice h.L.1 h.L.2.1 h.L.2.2, .int .i64 r.commit, .slice h.O.1 h.O.2.1 h.O.2.2, .slice h.A.1 h.A.2.1 h.A.2.2, .slice h.D.1 h.D.2.1 h.D.2.2]) (d : Bool) (hd : decide (sizesP r) = d) : Calls Try.prog 65 #[.pointer (some ⟨b, oz, none⟩)] w fun e w' => e = .returned (.bool d) ∧ Below w.heap.size w w' := by
 have HD : Hid (decide (((h.O.2.1 : Nat) : Int) = (if leadsB r = true then r.size else 0) ∧ ((h.A.2.1 : Nat) : Int) = (if r.normal = true then 0 else r.size) ∧ ((h.D.2.1 : Nat) : Int) = (if r.normal = true then 0 else r.size)) = d) := by show _ = _; rw [← hd, ← ho, ← ha, ← hq]; rfl
 clear hd ho ha hq
 obtain ⟨id, size, view, normal, last, log, commit, oks, asks, doers⟩ := r
 simp only at hs hv HD X0
 unfold leadsB at HD
 obtain ⟨ld, hl⟩ : ∃ ld, (view % size == id) = ld := ⟨_, rfl⟩
 simp only [hl] at HD
 have HL : Hid _ := hl
 clear hl
 cases normal
 ·have c0 := X0.cell
  go_enter Try.func65, Try.ntmps65
  have A := and3 (show decide (((h.O.2.1 : Nat) : Int) = 0 ∧ ((h.A.2.1 : Nat) : Int) = size ∧ ((h.D.2.1 : Nat) : Int) = size) = d from HD.out)
  have HA : Hid _ := A
  clear A HD HL
  by_cases q1 : ((h.O.2.1 : Nat) : Int) = 0 <;> by_cases q2 : ((h.A.2.1 : Nat) : Int) = size <;> by_cases q3 : ((h.D.2.1 : Nat) : Int) = size
  all_goals
   first | (have e := HA.out.1 q1 q2 q3; subst e) | (have e := HA.out.2.1 q1; subst e) | (have e := HA.out.2.2.1 q2; subst e) | (have e := HA.out.2.2.2 q3; subst e)
   clear HA
   go_wp2
   go_ret
   first | exact ⟨rfl, Below.refl _ _⟩ | exact ⟨ret_bool (by simpa using q3), Below.refl _ _⟩
 ·have c0 := X0.cell
  go_enter Try.func65, Try.ntmps65
  go_wp2_with fail
  refine (l9PrimaryO_is b oz id size view true last h.L commit h.O h.A h.D hs hv _ X0).mono ?_
  rintro e w1 ⟨rfl, B⟩
  replace X0 := X0.below B
  replace c0 := X0.cell
  rw [HL.out]
  cases ld
  ·have A := and3 (show decide (((h.O.2.1 : Nat) : Int) = 0 ∧ ((h.A.2.1 : Nat) : Int) = 0 ∧ ((h.D.2.1 : Nat) : Int) = 0) = d from HD.out)
   have HA : Hid _ := A
   clear A HD HL
   by_cases q1 : ((h.O.2.1 : Nat) : Int) = 0 <;> by_cases q2 : ((h.A.2.1 : Nat) : Int) = 0 <;> by_cases q3 : ((h.D.2.1 : Nat) : Int) = 0
   all_goals
    first | (have e := HA.out.1 q1 q2 q3; subst e) | (have e := HA.out.2.1 q1; subst e) | (have e := HA.out.2.2.1 q2; subst e) | (have e := HA.out.2.2.2 q3; subst e)
    clear HA
    go_wp2
    go_ret
    first | exact ⟨rfl, B⟩ | exact ⟨ret_bool (by simpa using q3), B⟩
  ·have A := and3 (show decide (((h.O.2.1 : Nat) : Int) = size ∧ ((h.A.2.1 : Nat) : Int) = 0 ∧ ((h.D.2.1 : Nat) : Int) = 0) = d from HD.out)
   have HA : Hid _ := A
   clear A HD HL
   by_cases q1 : ((h.O.2.1 : Nat) : Int) = size <;> by_cases q2 : ((h.A.2.1 : Nat) : Int) = 0 <;> by_cases q3 : ((h.D.2.1 : Nat) : Int) = 0
   all_goals
    first | (have e := HA.out.1 q1 q2 q3; subst e) | (have e := HA.out.2.1 q1; subst e) | (have e := HA.out.2.2.1 q2; subst e) | (have e := HA.out.2.2.2 q3; subst e)
    clear HA
    go_wp2
    go_ret
    first | exact ⟨rfl, B⟩ | exact ⟨ret_bool (by simpa using q3), B⟩
theorem l9FaultO_is {own : Bool} {lo hi : Nat} (b oz : Nat) (r : Rep) (h : RH) (w : World) (X0 : Ro w b oz [.int .i64 r.id, .int .i64 r.size, .int .i64 r.view, .bool r.normal, .int .i64 r.last, .slice h.L.1 h.L.2.1 h.L.2.2, .int .i64 r.commit, .slice h.O.1 h.O.2.1 h.O.2.2, .slice h.A.1 h.A.2.1 h.A.2.2, .slice h.D.1 h.D.2.1 h.D.2.2]) (x : RepAt w own lo hi h r) (hz : RSz h 2097152) (d : Int) (hd : repF r = d) : Calls Try.prog 26 #[.pointer (some ⟨b, oz, none⟩)] w fun e w' => e = .returned (.int .i64 d) ∧ Below w.heap.size w w' := by
 have ho := x.oks.nInts
 have ha := x.asks.nBools
 have hq := x.doers.len
 have hL := x.log.nSixs
 have HO : Hid _ := ho
 have HA : Hid _ := ha
 have HQ : Hid _ := hq
 have HL : Hid _ := hL
 clear ho ha hq hL
 have HD : Hid (repF r = d) := hd
 clear hd
 have B : Below w.heap.size w w.drew := (Below.refl _ _).drew
 have X1 := X0.below B
 have c0 := X1.cell
 by_cases hN : numsP r
 rotate_left 1
 ·have e : d = 3 := by rw [← HD.out]; unfold repF; rw [if_neg hN]
  subst e
  clear HD
  obtain ⟨id, size, view, normal, last, log, commit, oks, asks, doers⟩ := r
  simp only at X0 X1 c0
  clear x X0 X1 HO HA HQ HL
  go_enter Try.func26, Try.ntmps26
  go_wp2_with fail
  by_cases h0 : 1 ≤ size ∧ size ≤ 5
  rotate_left 1
  ·refine wp_region_held_drew (S := (fun w' => (w'.cell? ⟨b, oz, none⟩ = [.int .i64 id, .int .i64 size, .int .i64 view, .bool normal, .int .i64 last, .slice h.L.1 h.L.2.1 h.L.2.2, .int .i64 commit, .slice h.O.1 h.O.2.1 h.O.2.2, .slice h.A.1 h.A.2.1 h.A.2.2, .slice h.D.1 h.D.2.1 h.D.2.2][0]? ∧ ∀ k : Nat, k < 10 → w'.cell? ⟨b, oz + k, none⟩ = [.int .i64 id, .int .i64 size, .int .i64 view, .bool normal, .int .i64 last, .slice h.L.1 h.L.2.1 h.L.2.2, .int .i64 commit, .slice h.O.1 h.O.2.1 h.O.2.2, .slice h.A.1 h.A.2.1 h.A.2.2, .slice h.D.1 h.D.2.1 h.D.2.2][k]?))) (by kernel_rfl) c0 (fun hZq => ?_)
   refine tk 0 hZq ?_
   refine tk 1 hZq ?_
   refine tk 2 hZq ?_
   refine tk 3 hZq ?_
   refine rd1 4 (fun KK hKK => ?_)
   go_simp
   go_at_call 62
   refine (l1In_is' size 1 5 _ false (by simp only [decide_eq_false_eq]; exact h0)).mono ?_
   rintro e W9 ⟨rfl, rfl⟩
   clear hZq
   refine hKK _ _ c0 (fun hZq => ?_)
   clear hKK KK
   refine tk 5 hZq ?_
   refine tk 6 hZq ?_
   refine tks 7 hZq ?_
   refine tks 8 hZq ?_
   refine tks 9 hZq ?_
   refine tks 10 hZq ?_
   refine tks 11 hZq ?_
   refine tks 12 hZq ?_
   refine tks 13 hZq ?_
   refine tks 14 hZq ?_
   refine tks 15 hZq ?_
   refine tks 16 hZq ?_
   refine tks 17 hZq ?_
   refine tk 18 hZq ?_
   refine tk 19 hZq ?_
   refine tks 20 hZq ?_
   refine tks 21 hZq ?_
   refine tks 22 hZq ?_
   refine tks 23 hZq ?_
   refine tks 24 hZq ?_
   refine tks 25 hZq ?_
   refine tk 26 hZq ?_
   refine tk 27 hZq ?_
   refine tks 28 hZq ?_
   refine tks 29 hZq ?_
   refine tks 30 hZq ?_
   refine tks 31 hZq ?_
   refine tks 32 hZq ?_
   refine tks 33 hZq ?_
   refine tks 34 hZq ?_
   refine tks 35 hZq ?_
   refine tks 36 hZq ?_
   refine tks 37 hZq ?_
   refine tk 38 hZq ?_
   refine wpAnyH_done (by kernel_rfl) ?_ _
   go_wp2
   go_ret
   exact ⟨rfl, B⟩
  by_cases h1 : 0 ≤ id ∧ id ≤ size - 1
  rotate_left 1
  ·have hw : IntKind.i64.wrap (size - 1) = size - 1 := wrapI_same _ (by omega)
   refine wp_region_held_drew (S := (fun w' => (w'.cell? ⟨b, oz, none⟩ = [.int .i64 id, .int .i64 size, .int .i64 view, .bool normal, .int .i64 last, .slice h.L.1 h.L.2.1 h.L.2.2, .int .i64 commit, .slice h.O.1 h.O.2.1 h.O.2.2, .slice h.A.1 h.A.2.1 h.A.2.2, .slice h.D.1 h.D.2.1 h.D.2.2][0]? ∧ ∀ k : Nat, k < 10 → w'.cell? ⟨b, oz + k, none⟩ = [.int .i64 id, .int .i64 size, .int .i64 view, .bool normal, .int .i64 last, .slice h.L.1 h.L.2.1 h.L.2.2, .int .i64 commit, .slice h.O.1 h.O.2.1 h.O.2.2, .slice h.A.1 h.A.2.1 h.A.2.2, .slice h.D.1 h.D.2.1 h.D.2.2][k]?))) (by kernel_rfl) c0 (fun hZq => ?_)
   refine tk 0 hZq ?_
   refine tk 1 hZq ?_
   refine tk 2 hZq ?_
   refine tk 3 hZq ?_
   refine rd1 4 (fun KK hKK => ?_)
   go_simp
   go_at_call 62
   refine (l1In_is' size 1 5 _ true (by simp only [decide_eq_true_eq]; exact h0)).mono ?_
   rintro e W9 ⟨rfl, rfl⟩
   clear hZq
   refine hKK _ _ c0 (fun hZq => ?_)
   clear hKK KK
   refine tk 5 hZq ?_
   refine tk 6 hZq ?_
   refine tk 7 hZq ?_
   refine tk 8 hZq ?_
   refine tk 9 hZq ?_
   refine tk 10 hZq ?_
   refine tk 11 hZq ?_
   refine tk 12 hZq ?_
   refine tk 13 hZq ?_
   refine tk 14 hZq ?_
   refine tk 15 hZq ?_
   refine rd1 16 (fun KK hKK => ?_)
   go_simp
   go_at_call 62
   refine (l1In_is' id 0 (size - 1) _ false (by simp only [decide_eq_false_eq]; exact h1)).mono ?_
   rintro e W9 ⟨rfl, rfl⟩
   clear hZq
   refine hKK _ _ c0 (fun hZq => ?_)
   clear hKK KK
   refine tk 17 hZq ?_
   refine tk 18 hZq ?_
   refine tk 19 hZq ?_
   refine tks 20 hZq ?_
   refine tks 21 hZq ?_
   refine tks 22 hZq ?_
   refine tks 23 hZq ?_
   refine tks 24 hZq ?_
   refine tks 25 hZq ?_
   refine tk 26 hZq ?_
   refine tk 27 hZq ?_
   refine tks 28 hZq ?_
   refine tks 29 hZq ?_
   refine tks 30 hZq ?_
   refine tks 31 hZq ?_
   refine tks 32 hZq ?_
   refine tks 33 hZq ?_
   refine tks 34 hZq ?_
   refine tks 35 hZq ?_
   refine tks 36 hZq ?_
   refine tks 37 hZq ?_
   refine tk 38 hZq ?_
   refine wpAnyH_done (by kernel_rfl) ?_ _
   go_wp2
   go_ret
   exact ⟨rfl, B⟩
  by_cases h2 : 0 ≤ view ∧ view ≤ 200
  rotate_left 1
  ·have hw : IntKind.i64.wrap (size - 1) = size - 1 := wrapI_same _ (by omega)
   refine wp_region_held_drew (S := (fun w' => (w'.cell? ⟨b, oz, none⟩ = [.int .i64 id, .int .i64 size, .int .i64 view, .bool normal, .int .i64 last, .slice h.L.1 h.L.2.1 h.L.2.2, .int .i64 commit, .slice h.O.1 h.O.2.1 h.O.2.2, .slice h.A.1 h.A.2.1 h.A.2.2, .slice h.D.1 h.D.2.1 h.D.2.2][0]? ∧ ∀ k : Nat, k < 10 → w'.cell? ⟨b, oz + k, none⟩ = [.int .i64 id, .int .i64 size, .int .i64 view, .bool normal, .int .i64 last, .slice h.L.1 h.L.2.1 h.L.2.2, .int .i64 commit, .slice h.O.1 h.O.2.1 h.O.2.2, .slice h.A.1 h.A.2.1 h.A.2.2, .slice h.D.1 h.D.2.1 h.D.2.2][k]?))) (by kernel_rfl) c0 (fun hZq => ?_)
   refine tk 0 hZq ?_
   refine tk 1 hZq ?_
   refine tk 2 hZq ?_
   refine tk 3 hZq ?_
   refine rd1 4 (fun KK hKK => ?_)
   go_simp
   go_at_call 62
   refine (l1In_is' size 1 5 _ true (by simp only [decide_eq_true_eq]; exact h0)).mono ?_
   rintro e W9 ⟨rfl, rfl⟩
   clear hZq
   refine hKK _ _ c0 (fun hZq => ?_)
   clear hKK KK
   refine tk 5 hZq ?_
   refine tk 6 hZq ?_
   refine tk 7 hZq ?_
   refine tk 8 hZq ?_
   refine tk 9 hZq ?_
   refine tk 10 hZq ?_
   refine tk 11 hZq ?_
   refine tk 12 hZq ?_
   refine tk 13 hZq ?_
   refine tk 14 hZq ?_
   refine tk 15 hZq ?_
   refine rd1 16 (fun KK hKK => ?_)
   go_simp
   go_at_call 62
   refine (l1In_is' id 0 (size - 1) _ true (by simp only [decide_eq_true_eq]; exact h1)).mono ?_
   rintro e W9 ⟨rfl, rfl⟩
   clear hZq
   refine hKK _ _ c0 (fun hZq => ?_)
   clear hKK KK
   refine tk 17 hZq ?_
   refine tk 18 hZq ?_
   refine tk 19 hZq ?_
   refine tk 20 hZq ?_
   refine tk 21 hZq ?_
   refine tk 22 hZq ?_
   refine tk 23 hZq ?_
   refine rd1 24 (fun KK hKK => ?_)
   go_simp
   go_at_call 63
   refine (l9View_is view _ false (by simp only [decide_eq_false_eq]; exact h2)).mono ?_
   rintro e W9 ⟨rfl, rfl⟩
   clear hZq
   refine hKK _ _ c0 (fun hZq => ?_)
   clear hKK KK
   refine tk 25 hZq ?_
   refine tk 26 hZq ?_
   refine tk 27 hZq ?_
   refine tks 28 hZq ?_
   refine tks 29 hZq ?_
   refine tks 30 hZq ?_
   refine tks 31 hZq ?_
   refine tks 32 hZq ?_
   refine tks 33 hZq ?_
   refine tks 34 hZq ?_
   refine tks 35 hZq ?_
   refine tks 36 hZq ?_
   refine tks 37 hZq ?_
   refine tk 38 hZq ?_
   refine wpAnyH_done (by kernel_rfl) ?_ _
   go_wp2
   go_ret
   exact ⟨rfl, B⟩
  have h3 : ¬ (0 ≤ last ∧ last ≤ view) := fun y => hN ⟨h0, h1, h2, y⟩
  have hw : IntKind.i64.wrap (size - 1) = size - 1 := wrapI_same _ (by omega)
  refine wp_region_held_drew (S := (fun w' => (w'.cell? ⟨b, oz, none⟩ = [.int .i64 id, .int .i64 size, .int .i64 view, .bool normal, .int .i64 last, .slice h.L.1 h.L.2.1 h.L.2.2, .int .i64 commit, .slice h.O.1 h.O.2.1 h.O.2.2, .slice h.A.1 h.A.2.1 h.A.2.2, .slice h.D.1 h.D.2.1 h.D.2.2][0]? ∧ ∀ k : Nat, k < 10 → w'.cell? ⟨b, oz + k, none⟩ = [.int .i64 id, .int .i64 size, .int .i64 view, .bool normal, .int .i64 last, .slice h.L.1 h.L.2.1 h.L.2.2, .int .i64 commit, .slice h.O.1 h.O.2.1 h.O.2.2, .slice h.A.1 h.A.2.1 h.A.2.2, .slice h.D.1 h.D.2.1 h.D.2.2][k]?))) (by kernel_rfl) c0 (fun hZq => ?_)
  refine tk 0 hZq ?_
  refine tk 1 hZq ?_
  refine tk 2 hZq ?_
  refine tk 3 hZq ?_
  refine rd1 4 (fun KK hKK => ?_)
  go_simp
  go_at_call 62
  refine (l1In_is' size 1 5 _ true (by simp only [decide_eq_true_eq]; exact h0)).mono ?_
  rintro e W9 ⟨rfl, rfl⟩
  clear hZq
  refine hKK _ _ c0 (fun hZq => ?_)
  clear hKK KK
  refine tk 5 hZq ?_
  refine tk 6 hZq ?_
  refine tk 7 hZq ?_
  refine tk 8 hZq ?_
  refine tk 9 hZq ?_
  refine tk 10 hZq ?_
  refine tk 11 hZq ?_
  refine tk 12 hZq ?_
  refine tk 13 hZq ?_
  refine tk 14 hZq ?_
  refine tk 15 hZq ?_
  refine rd1 16 (fun KK hKK => ?_)
  go_simp
  go_at_call 62
  refine (l1In_is' id 0 (size - 1) _ true (by simp only [decide_eq_true_eq]; exact h1)).mono ?_
  rintro e W9 ⟨rfl, rfl⟩
  clear hZq
  refine hKK _ _ c0 (fun hZq => ?_)
  clear hKK KK
  refine tk 17 hZq ?_
  refine tk 18 hZq ?_
  refine tk 19 hZq ?_
  refine tk 20 hZq ?_
  refine tk 21 hZq ?_
  refine tk 22 hZq ?_
  refine tk 23 hZq ?_
  refine rd1 24 (fun KK hKK => ?_)
  go_simp
  go_at_call 63
  refine (l9View_is view _ true (by simp only [decide_eq_true_eq]; exact h2)).mono ?_
  rintro e W9 ⟨rfl, rfl⟩
  clear hZq
  refine hKK _ _ c0 (fun hZq => ?_)
  clear hKK KK
  refine tk 25 hZq ?_
  refine tk 26 hZq ?_
  refine tk 27 hZq ?_
  refine tk 28 hZq ?_
  refine tk 29 hZq ?_
  refine tk 30 hZq ?_
  refine tk 31 hZq ?_
  refine tk 32 hZq ?_
  refine tk 33 hZq ?_
  refine tk 34 hZq ?_
  refine tk 35 hZq ?_
  refine rd1 36 (fun KK hKK => ?_)
  go_simp
  go_at_call 62
  refine (l1In_is' last 0 view _ false (by simp only [decide_eq_false_eq]; exact h3)).mono ?_
  rintro e W9 ⟨rfl, rfl⟩
  clear hZq
  refine hKK _ _ c0 (fun hZq => ?_)
  clear hKK KK
  refine tk 37 hZq ?_
  refine tk 38 hZq ?_
  refine wpAnyH_done (by kernel_rfl) ?_ _
  go_wp2
  go_ret
  exact ⟨rfl, B⟩
 obtain ⟨h0, h1, h2, h3⟩ := hN
 have hN : numsP r := ⟨h0, h1, h2, h3⟩
 have HN : Hid _ := hN
 clear hN
 have hv : 0 ≤ r.view ∧ r.view ≤ 300 := by omega
 obtain ⟨f, hf⟩ : ∃ f, logF r.log = f := ⟨_, rfl⟩
 obtain ⟨sz, hsz⟩ : ∃ sz, decide (sizesP r) = sz := ⟨_, rfl⟩
 have HE : Hid ((if (if f = 0 then (if 0 ≤ r.commit ∧ r.commit ≤ h.L.2.1 then 0 else 3) else f) = 0 then (if (r.normal = true ∧ r.last ≠ r.view) ∨ ¬ sizesP r then 1 else if oksF h.L.2.1 r.oks = 0 then drsF r.doers else oksF h.L.2.1 r.oks) else (if f = 0 then (if 0 ≤ r.commit ∧ r.commit ≤ h.L.2.1 then 0 else 3) else f)) = d) := by show _ = _; rw [← HD.out, ← hf, ← HL.out]; unfold repF; rw [if_pos (show numsP r from HN.out)]; rfl
 have HF : Hid _ := hf
 have HZ : Hid _ := hsz
 clear hf hsz HD HN
 obtain ⟨hL', ⟨oa, on, oc⟩, hA', ⟨da, dn, dc⟩, hK'⟩ := h
 obtain ⟨nm, hnm⟩ : ∃ nm, r.normal = nm := ⟨_, rfl⟩
 obtain ⟨id, size, view, normal, last, log, commit, oks, asks, doers⟩ := r
 simp only at h0 h1 h2 h3 hv HE hnm HO HA HQ HL X0 X1 c0
 subst hnm
 have hw : IntKind.i64.wrap (size - 1) = size - 1 := wrapI_same _ (by omega)
 have hzO := hz.O
 have hzD := hz.D
 have hzL := hz.L
 simp only at hzO hzD hzL
 cases normal
 ·go_enter Try.func26, Try.ntmps26
  go_wp2_with fail
  refine wp_region_held_drew (S := (fun w' => (w'.cell? ⟨b, oz, none⟩ = [.int .i64 id, .int .i64 size, .int .i64 view, .bool false, .int .i64 last, .slice hL'.1 hL'.2.1 hL'.2.2, .int .i64 commit, .slice oa on oc, .slice hA'.1 hA'.2.1 hA'.2.2, .slice da dn dc][0]? ∧ ∀ k : Nat, k < 10 → w'.cell? ⟨b, oz + k, none⟩ = [.int .i64 id, .int .i64 size, .int .i64 view, .bool false, .int .i64 last, .slice hL'.1 hL'.2.1 hL'.2.2, .int .i64 commit, .slice oa on oc, .slice hA'.1 hA'.2.1 hA'.2.2, .slice da dn dc][k]?))) (by kernel_rfl) c0 (fun hZq => ?_)
  refine tk 0 hZq ?_
  refine tk 1 hZq ?_
  refine tk 2 hZq ?_
  refine tk 3 hZq ?_
  refine rd1 4 (fun KK hKK => ?_)
  go_simp
  go_at_call 62
  refine (l1In_is' size 1 5 _ true (by simp only [decide_eq_true_eq]; exact h0)).mono ?_
  rintro e W9 ⟨rfl, rfl⟩
  clear hZq
  refine hKK _ _ c0 (fun hZq => ?_)
  clear hKK KK
  refine tk 5 hZq ?_
  refine tk 6 hZq ?_
  refine tk 7 hZq ?_
  refine tk 8 hZq ?_
  refine tk 9 hZq ?_
  refine tk 10 hZq ?_
  refine tk 11 hZq ?_
  refine tk 12 hZq ?_
  refine tk 13 hZq ?_
  refine tk 14 hZq ?_
  refine tk 15 hZq ?_
  refine rd1 16 (fun KK hKK => ?_)
  go_simp
  go_at_call 62
  refine (l1In_is' id 0 (size - 1) _ true (by simp only [decide_eq_true_eq]; exact h1)).mono ?_
  rintro e W9 ⟨rfl, rfl⟩
  clear hZq
  refine hKK _ _ c0 (fun hZq => ?_)
  clear hKK KK
  refine tk 17 hZq ?_
  refine tk 18 hZq ?_
  refine tk 19 hZq ?_
  refine tk 20 hZq ?_
  refine tk 21 hZq ?_
  refine tk 22 hZq ?_
  refine tk 23 hZq ?_
  refine rd1 24 (fun KK hKK => ?_)
  go_simp
  go_at_call 63
  refine (l9View_is view _ true (by simp only [decide_eq_true_eq]; exact h2)).mono ?_
  rintro e W9 ⟨rfl, rfl⟩
  clear hZq
  refine hKK _ _ c0 (fun hZq => ?_)
  clear hKK KK
  refine tk 25 hZq ?_
  refine tk 26 hZq ?_
  refine tk 27 hZq ?_
  refine tk 28 hZq ?_
  refine tk 29 hZq ?_
  refine tk 30 hZq ?_
  refine tk 31 hZq ?_
  refine tk 32 hZq ?_
  refine tk 33 hZq ?_
  refine tk 34 hZq ?_
  refine tk 35 hZq ?_
  refine rd1 36 (fun KK hKK => ?_)
  go_simp
  go_at_call 62
  refine (l1In_is' last 0 view _ true (by simp only [decide_eq_true_eq]; exact h3)).mono ?_
  rintro e W9 ⟨rfl, rfl⟩
  clear hZq
  refine hKK _ _ c0 (fun hZq => ?_)
  clear hKK KK
  refine tk 37 hZq ?_
  refine tk 38 hZq ?_
  refine wpAnyH_done (by kernel_rfl) ?_ _
  clear X0
  go_wp2_with fail
  refine (specLF_is _ _ _ log _ (x.log.below B) f HF.out).mono ?_
  rintro e w1 ⟨rfl, BB⟩
  replace X1 := X1.below BB
  replace c0 := X1.cell
  replace B := below_next B BB
  clear BB
  by_cases q0 : f = 0
  rotate_left 1
  ·have e : f = d := by rw [← HE.out, if_neg q0, if_neg q0]
   subst e
   have q0' : (f != 0) = true := by simp [q0]
   go_wp2
   go_ret
   exact ⟨rfl, B⟩
  subst q0
  have he := HE.out
  rw [if_pos rfl] at he
  have HE2 : Hid _ := he
  clear he HE
  by_cases hc : 0 ≤ commit ∧ commit ≤ hL'.2.1
  rotate_left 1
  ·have e : d = 3 := by rw [← HE2.out, if_neg hc]; rfl
   subst e
   clear HE2
   go_wp2_with fail
   refine (l1In_is' commit 0 hL'.2.1 _ false (by simp only [decide_eq_false_eq]; exact hc)).mono ?_
   rintro e W9 ⟨rfl, rfl⟩
   go_wp2
   go_ret
   exact ⟨rfl, B⟩
  have he := HE2.out
  rw [if_pos hc, if_pos rfl] at he
  have HE : Hid _ := he
  clear he HE2
  go_wp2_with fail
  refine (l1In_is' commit 0 hL'.2.1 _ true (by simp only [decide_eq_true_eq]; exact hc)).mono ?_
  rintro e w2 ⟨rfl, ew⟩
  subst ew
  go_wp2_with fail
  have D : Below w2.heap.size w2 w2.drew := (Below.refl _ _).drew
  replace X1 := X1.below D
  replace c0 := X1.cell
  replace B := below_next B D
  clear D
  have Q1 : Hid True := trivial
  refine wp_region_held_drew (S := (fun w' => (w'.cell? ⟨b, oz, none⟩ = [.int .i64 id, .int .i64 size, .int .i64 view, .bool false, .int .i64 last, .slice hL'.1 hL'.2.1 hL'.2.2, .int .i64 commit, .slice oa on oc, .slice hA'.1 hA'.2.1 hA'.2.2, .slice da dn dc][0]? ∧ ∀ k : Nat, k < 10 → w'.cell? ⟨b, oz + k, none⟩ = [.int .i64 id, .int .i64 size, .int .i64 view, .bool false, .int .i64 last, .slice hL'.1 hL'.2.1 hL'.2.2, .int .i64 commit, .slice oa on oc, .slice hA'.1 hA'.2.1 hA'.2.2, .slice da dn dc][k]?))) (by kernel_rfl) c0 (fun hZq => ?_)
  refine tk 0 hZq ?_
  refine tk 1 hZq ?_
  refine tk 2 hZq ?_
  refine tk 3 hZq ?_
  refine tk 4 hZq ?_
  refine tks 5 hZq ?_
  refine tks 6 hZq ?_
  refine tks 7 hZq ?_
  refine tks 8 hZq ?_
  refine tks 9 hZq ?_
  refine tks 10 hZq ?_
  refine tks 11 hZq ?_
  refine tks 12 hZq ?_
  refine tks 13 hZq ?_
  refine tk 14 hZq ?_
  refine tk 15 hZq ?_
  refine tk 16 hZq ?_
  refine rd1 17 (fun KK hKK => ?_)
  go_simp
  go_at_call 65
  refine (l9SizesO_is b oz ⟨id, size, view, false, last, log, commit, oks, asks, doers⟩ ⟨hL', (oa, on, oc), hA', (da, dn, dc), hK'⟩ h0 hv HO.out HA.out HQ.out _ X1 sz HZ.out).mono ?_
  rintro e w3 ⟨rfl, BB⟩
  replace X1 := X1.below BB
  replace c0 := X1.cell
  replace B := below_next B BB
  clear BB
  clear hZq
  refine hKK _ _ c0 (fun hZq => ?_)
  clear hKK KK
  refine tk 18 hZq ?_
  refine tk 19 hZq ?_
  refine wpAnyH_done (by kernel_rfl) ?_ _
  cases sz
  ·have e : d = 1 := by rw [← HE.out, if_pos (Or.inr (of_decide_eq_false HZ.out))]
   subst e
   clear HE
   go_wp2
   go_ret
   exact ⟨rfl, B⟩
  have he := HE.out
  rw [if_neg (fun y => y.elim (fun z => absurd z.1 (by simp)) (fun z => z (of_decide_eq_true HZ.out)))] at he
  have HE3 : Hid _ := he
  clear he HE Q1
  simp only [Bool.not_true]
  go_wp2
  go_loopw [5] (fun i wr => ∃ k : Nat, k ≤ on ∧ i = .int .i64 k ∧ Hid (oksF hL'.2.1 (oks.drop k) = oksF hL'.2.1 oks) ∧ Ro wr b oz [.int .i64 id, .int .i64 size, .int .i64 view, .bool false, .int .i64 last, .slice hL'.1 hL'.2.1 hL'.2.2, .int .i64 commit, .slice oa on oc, .slice hA'.1 hA'.2.1 hA'.2.2, .slice da dn dc] ∧ Below w.heap.size w wr) (fun i _ => on - (intOf i).toNat)
  case atStart => exact ⟨0, Nat.zero_le _, rfl, by show _ = _; rw [List.drop_zero], X1, B⟩
  case round =>
   clear X1 c0 B
   obtain ⟨k, hk, rfl, HK, X1, B⟩ := hrel
   have c0 := X1.cell
   by_cases hlt : k < on
   ·have HF2 : Hid _ := oksF_drop (m := hL'.2.1) (xs := oks) (k := k) (by have := HO.out; omega)
    obtain ⟨b2, off, rfl, _, _, hbs, e0, _⟩ := x.oks.int hlt
    replace e0 := cell_later B e0
    have hl : (k : Int) < (on : Int) := by omega
    generalize oks.getD k 0 = y at *
    go_wp2_with fail
    by_cases hc : 0 ≤ y ∧ y ≤ hL'.2.1
    ·have HK' : Hid (oksF hL'.2.1 (oks.drop (k + 1)) = oksF hL'.2.1 oks) := by show _ = _; rw [← HK.out, HF2.out, if_pos hc]
     clear HF2 HK
     refine (l1In_is' y 0 hL'.2.1 _ true (by simp only [decide_eq_true_eq]; exact hc)).mono ?_
     rintro e W9 ⟨rfl, rfl⟩
     go_wp2
     go_roundw
     case rel => exact ⟨k + 1, by omega, by go_num, HK', X1, B⟩
     case measure => simp [intOf]; omega
    ·have hd : oksF hL'.2.1 oks = 3 := by rw [← HK.out, HF2.out, if_neg hc]
     have e : d = 3 := by rw [← HE3.out, hd]; rfl
     subst e
     clear HF2 HK HE3 hd
     refine (l1In_is' y 0 hL'.2.1 _ false (by simp only [decide_eq_false_eq]; exact hc)).mono ?_
     rintro e W9 ⟨rfl, rfl⟩
     go_wp2
     go_ret
     exact ⟨rfl, B⟩
   ·have hd : oksF hL'.2.1 oks = 0 := by rw [← HK.out, oksF_end (by have := HO.out; omega)]
    have he : drsF doers = d := by rw [← HE3.out, if_pos hd]
    have HE4 : Hid _ := he
    clear he hd HE3 HK
    go_wp2
    go_loopw [6, 7] (fun i _ wr => ∃ k : Nat, k ≤ dn ∧ i = .int .i64 k ∧ Hid (drsF (doers.drop k) = d) ∧ Ro wr b oz [.int .i64 id, .int .i64 size, .int .i64 view, .bool false, .int .i64 last, .slice hL'.1 hL'.2.1 hL'.2.2, .int .i64 commit, .slice oa on oc, .slice hA'.1 hA'.2.1 hA'.2.2, .slice da dn dc] ∧ Below w.heap.size w wr) (fun i _ _ => dn - (intOf i).toNat)
    case atStart => exact ⟨0, Nat.zero_le _, rfl, by simpa using HE4, X1, B⟩
    case round =>
     clear X1 c0 B HE4
     obtain ⟨k, hk, rfl, HK, X1, B⟩ := hrel
     have c0 := X1.cell
     by_cases hlt : k < dn
     ·have HF2 : Hid _ := drsF_drop (ds := doers) (k := k) (by have := HQ.out; omega)
      obtain ⟨b2, off, rfl, _, _, hbs, e0, e1, e2, e3, _⟩ := x.doers.doer hlt
      have R := (x.doers.els.logs k hlt).below B
      replace e0 := cell_later B e0
      replace e1 := cell_later B e1
      replace e2 := cell_later B e2
      replace e3 := cell_later B e3
      have hl : (k : Int) < (dn : Int) := by omega
      unfold drL at R
      simp only at e2 R
      generalize hK' k = q at *
      generalize doers.getD k dr0 = dd at *
      obtain ⟨qa, qn, qc⟩ := q
      obtain ⟨kn, la, xs, cm⟩ := dd
      simp only at e0 e1 e2 e3 R HF2
      obtain ⟨c, hc⟩ : ∃ c, drFault (kn, la, xs, cm) = c := ⟨_, rfl⟩
      rw [hc] at HF2
      have HC : Hid _ := hc
      clear hc
      go_wp2_with fail
      refine (l9Doer_is b2 (off + k * 4) kn la cm qa qn qc xs _ e0 e1 e2 e3 R c HC.out).mono ?_
      rintro e w5 ⟨rfl, BB⟩
      replace X1 := X1.below BB
      replace c0 := X1.cell
      replace B := below_next B BB
      clear BB
      clear e0 e1 e2 e3 R HC
      by_cases h0 : c = 0
      ·subst h0
       have HK' : Hid (drsF (doers.drop (k + 1)) = d) := by show _ = _; rw [← HK.out, HF2.out, if_pos rfl]
       clear HF2 HK
       go_wp2
       go_roundw
       case rel => exact ⟨k + 1, by omega, by go_num, HK', X1, B⟩
       case measure => simp [intOf]; omega
      ·have hd : c = d := by rw [← HK.out, HF2.out, if_neg h0]
       subst hd
       clear HF2 HK
       have h0' : (c != 0) = true := by simp [h0]
       go_wp2
       go_ret
       exact ⟨rfl, B⟩
     ·have hd : d = 0 := by rw [← HK.out, drsF_end (by have := HQ.out; omega)]
      subst hd
      go_wp2
      go_ret
      exact ⟨rfl, B⟩
 ·go_enter Try.func26, Try.ntmps26
  go_wp2_with fail
  refine wp_region_held_drew (S := (fun w' => (w'.cell? ⟨b, oz, none⟩ = [.int .i64 id, .int .i64 size, .int .i64 view, .bool true, .int .i64 last, .slice hL'.1 hL'.2.1 hL'.2.2, .int .i64 commit, .slice oa on oc, .slice hA'.1 hA'.2.1 hA'.2.2, .slice da dn dc][0]? ∧ ∀ k : Nat, k < 10 → w'.cell? ⟨b, oz + k, none⟩ = [.int .i64 id, .int .i64 size, .int .i64 view, .bool true, .int .i64 last, .slice hL'.1 hL'.2.1 hL'.2.2, .int .i64 commit, .slice oa on oc, .slice hA'.1 hA'.2.1 hA'.2.2, .slice da dn dc][k]?))) (by kernel_rfl) c0 (fun hZq => ?_)
  refine tk 0 hZq ?_
  refine tk 1 hZq ?_
  refine tk 2 hZq ?_
  refine tk 3 hZq ?_
  refine rd1 4 (fun KK hKK => ?_)
  go_simp
  go_at_call 62
  refine (l1In_is' size 1 5 _ true (by simp only [decide_eq_true_eq]; exact h0)).mono ?_
  rintro e W9 ⟨rfl, rfl⟩
  clear hZq
  refine hKK _ _ c0 (fun hZq => ?_)
  clear hKK KK
  refine tk 5 hZq ?_
  refine tk 6 hZq ?_
  refine tk 7 hZq ?_
  refine tk 8 hZq ?_
  refine tk 9 hZq ?_
  refine tk 10 hZq ?_
  refine tk 11 hZq ?_
  refine tk 12 hZq ?_
  refine tk 13 hZq ?_
  refine tk 14 hZq ?_
  refine tk 15 hZq ?_
  refine rd1 16 (fun KK hKK => ?_)
  go_simp
  go_at_call 62
  refine (l1In_is' id 0 (size - 1) _ true (by simp only [decide_eq_true_eq]; exact h1)).mono ?_
  rintro e W9 ⟨rfl, rfl⟩
  clear hZq
  refine hKK _ _ c0 (fun hZq => ?_)
  clear hKK KK
  refine tk 17 hZq ?_
  refine tk 18 hZq ?_
  refine tk 19 hZq ?_
  refine tk 20 hZq ?_
  refine tk 21 hZq ?_
  refine tk 22 hZq ?_
  refine tk 23 hZq ?_
  refine rd1 24 (fun KK hKK => ?_)
  go_simp
  go_at_call 63
  refine (l9View_is view _ true (by simp only [decide_eq_true_eq]; exact h2)).mono ?_
  rintro e W9 ⟨rfl, rfl⟩
  clear hZq
  refine hKK _ _ c0 (fun hZq => ?_)
  clear hKK KK
  refine tk 25 hZq ?_
  refine tk 26 hZq ?_
  refine tk 27 hZq ?_
  refine tk 28 hZq ?_
  refine tk 29 hZq ?_
  refine tk 30 hZq ?_
  refine tk 31 hZq ?_
  refine tk 32 hZq ?_
  refine tk 33 hZq ?_
  refine tk 34 hZq ?_
  refine tk 35 hZq ?_
  refine rd1 36 (fun KK hKK => ?_)
  go_simp
  go_at_call 62
  refine (l1In_is' last 0 view _ true (by simp only [decide_eq_true_eq]; exact h3)).mono ?_
  rintro e W9 ⟨rfl, rfl⟩
  clear hZq
  refine hKK _ _ c0 (fun hZq => ?_)
  clear hKK KK
  refine tk 37 hZq ?_
  refine tk 38 hZq ?_
  refine wpAnyH_done (by kernel_rfl) ?_ _
  clear X0
  go_wp2_with fail
  refine (specLF_is _ _ _ log _ (x.log.below B) f HF.out).mono ?_
  rintro e w1 ⟨rfl, BB⟩
  replace X1 := X1.below BB
  replace c0 := X1.cell
  replace B := below_next B BB
  clear BB
  by_cases q0 : f = 0
  rotate_left 1
  ·have e : f = d := by rw [← HE.out, if_neg q0, if_neg q0]
   subst e
   have q0' : (f != 0) = true := by simp [q0]
   go_wp2
   go_ret
   exact ⟨rfl, B⟩
  subst q0
  have he := HE.out
  rw [if_pos rfl] at he
  have HE2 : Hid _ := he
  clear he HE
  by_cases hc : 0 ≤ commit ∧ commit ≤ hL'.2.1
  rotate_left 1
  ·have e : d = 3 := by rw [← HE2.out, if_neg hc]; rfl
   subst e
   clear HE2
   go_wp2_with fail
   refine (l1In_is' commit 0 hL'.2.1 _ false (by simp only [decide_eq_false_eq]; exact hc)).mono ?_
   rintro e W9 ⟨rfl, rfl⟩
   go_wp2
   go_ret
   exact ⟨rfl, B⟩
  have he := HE2.out
  rw [if_pos hc, if_pos rfl] at he
  have HE : Hid _ := he
  clear he HE2
  go_wp2_with fail
  refine (l1In_is' commit 0 hL'.2.1 _ true (by simp only [decide_eq_true_eq]; exact hc)).mono ?_
  rintro e w2 ⟨rfl, ew⟩
  subst ew
  go_wp2_with fail
  have D : Below w2.heap.size w2 w2.drew := (Below.refl _ _).drew
  replace X1 := X1.below D
  replace c0 := X1.cell
  replace B := below_next B D
  clear D
  by_cases q1 : last = view
  rotate_left 1
  ·have e : d = 1 := by rw [← HE.out, if_pos (Or.inl ⟨by first | trivial | rfl, q1⟩)]
   subst e
   have q1' : (last != view) = true := by simp [q1]
   clear q1 HE
   refine wp_region_held_drew (S := (fun w' => (w'.cell? ⟨b, oz, none⟩ = [.int .i64 id, .int .i64 size, .int .i64 view, .bool true, .int .i64 last, .slice hL'.1 hL'.2.1 hL'.2.2, .int .i64 commit, .slice oa on oc, .slice hA'.1 hA'.2.1 hA'.2.2, .slice da dn dc][0]? ∧ ∀ k : Nat, k < 10 → w'.cell? ⟨b, oz + k, none⟩ = [.int .i64 id, .int .i64 size, .int .i64 view, .bool true, .int .i64 last, .slice hL'.1 hL'.2.1 hL'.2.2, .int .i64 commit, .slice oa on oc, .slice hA'.1 hA'.2.1 hA'.2.2, .slice da dn dc][k]?))) (by kernel_rfl) c0 (fun hZq => ?_)
   refine tk 0 hZq ?_
   refine tk 1 hZq ?_
   refine tk 2 hZq ?_
   refine tk 3 hZq ?_
   refine tk 4 hZq ?_
   refine tk 5 hZq ?_
   refine tk 6 hZq ?_
   refine tk 7 hZq ?_
   refine tk 8 hZq ?_
   refine tk 9 hZq ?_
   refine tk 10 hZq ?_
   refine tk 11 hZq ?_
   refine tk 12 hZq ?_
   refine tk 13 hZq ?_
   refine tk 14 hZq ?_
   refine tk 15 hZq ?_
   refine tks 16 hZq ?_
   refine tks 17 hZq ?_
   refine tks 18 hZq ?_
   refine tk 19 hZq ?_
   refine wpAnyH_done (by kernel_rfl) ?_ _
   go_wp2
   go_ret
   exact ⟨rfl, B⟩
  have q1' : (last != view) = false := by simp [q1]
  have Q1 : Hid (last = view) := q1
  clear q1
  refine wp_region_held_drew (S := (fun w' => (w'.cell? ⟨b, oz, none⟩ = [.int .i64 id, .int .i64 size, .int .i64 view, .bool true, .int .i64 last, .slice hL'.1 hL'.2.1 hL'.2.2, .int .i64 commit, .slice oa on oc, .slice hA'.1 hA'.2.1 hA'.2.2, .slice da dn dc][0]? ∧ ∀ k : Nat, k < 10 → w'.cell? ⟨b, oz + k, none⟩ = [.int .i64 id, .int .i64 size, .int .i64 view, .bool true, .int .i64 last, .slice hL'.1 hL'.2.1 hL'.2.2, .int .i64 commit, .slice oa on oc, .slice hA'.1 hA'.2.1 hA'.2.2, .slice da dn dc][k]?))) (by kernel_rfl) c0 (fun hZq => ?_)
  refine tk 0 hZq ?_
  refine tk 1 hZq ?_
  refine tk 2 hZq ?_
  refine tk 3 hZq ?_
  refine tk 4 hZq ?_
  refine tk 5 hZq ?_
  refine tk 6 hZq ?_
  refine tk 7 hZq ?_
  refine tk 8 hZq ?_
  refine tk 9 hZq ?_
  refine tk 10 hZq ?_
  refine tk 11 hZq ?_
  refine tk 12 hZq ?_
  refine tk 13 hZq ?_
  refine tk 14 hZq ?_
  refine tk 15 hZq ?_
  refine tk 16 hZq ?_
  refine rd1 17 (fun KK hKK => ?_)
  go_simp
  go_at_call 65
  refine (l9SizesO_is b oz ⟨id, size, view, true, last, log, commit, oks, asks, doers⟩ ⟨hL', (oa, on, oc), hA', (da, dn, dc), hK'⟩ h0 hv HO.out HA.out HQ.out _ X1 sz HZ.out).mono ?_
  rintro e w3 ⟨rfl, BB⟩
  replace X1 := X1.below BB
  replace c0 := X1.cell
  replace B := below_next B BB
  clear BB
  clear hZq
  refine hKK _ _ c0 (fun hZq => ?_)
  clear hKK KK
  refine tk 18 hZq ?_
  refine tk 19 hZq ?_
  refine wpAnyH_done (by kernel_rfl) ?_ _
  cases sz
  ·have e : d = 1 := by rw [← HE.out, if_pos (Or.inr (of_decide_eq_false HZ.out))]
   subst e
   clear HE
   go_wp2
   go_ret
   exact ⟨rfl, B⟩
  have he := HE.out
  rw [if_neg (fun y => y.elim (fun z => z.2 Q1.out) (fun z => z (of_decide_eq_true HZ.out)))] at he
  have HE3 : Hid _ := he
  clear he HE Q1
  simp only [Bool.not_true]
  go_wp2
  go_loopw [5] (fun i wr => ∃ k : Nat, k ≤ on ∧ i = .int .i64 k ∧ Hid (oksF hL'.2.1 (oks.drop k) = oksF hL'.2.1 oks) ∧ Ro wr b oz [.int .i64 id, .int .i64 size, .int .i64 view, .bool true, .int .i64 last, .slice hL'.1 hL'.2.1 hL'.2.2, .int .i64 commit, .slice oa on oc, .slice hA'.1 hA'.2.1 hA'.2.2, .slice da dn dc] ∧ Below w.heap.size w wr) (fun i _ => on - (intOf i).toNat)
  case atStart => exact ⟨0, Nat.zero_le _, rfl, by show _ = _; rw [List.drop_zero], X1, B⟩
  case round =>
   clear X1 c0 B
   obtain ⟨k, hk, rfl, HK, X1, B⟩ := hrel
   have c0 := X1.cell
   by_cases hlt : k < on
   ·have HF2 : Hid _ := oksF_drop (m := hL'.2.1) (xs := oks) (k := k) (by have := HO.out; omega)
    obtain ⟨b2, off, rfl, _, _, hbs, e0, _⟩ := x.oks.int hlt
    replace e0 := cell_later B e0
    have hl : (k : Int) < (on : Int) := by omega
    generalize oks.getD k 0 = y at *
    go_wp2_with fail
    by_cases hc : 0 ≤ y ∧ y ≤ hL'.2.1
    ·have HK' : Hid (oksF hL'.2.1 (oks.drop (k + 1)) = oksF hL'.2.1 oks) := by show _ = _; rw [← HK.out, HF2.out, if_pos hc]
     clear HF2 HK
     refine (l1In_is' y 0 hL'.2.1 _ true (by simp only [decide_eq_true_eq]; exact hc)).mono ?_
     rintro e W9 ⟨rfl, rfl⟩
     go_wp2
     go_roundw
     case rel => exact ⟨k + 1, by omega, by go_num, HK', X1, B⟩
     case measure => simp [intOf]; omega
    ·have hd : oksF hL'.2.1 oks = 3 := by rw [← HK.out, HF2.out, if_neg hc]
     have e : d = 3 := by rw [← HE3.out, hd]; rfl
     subst e
     clear HF2 HK HE3 hd
     refine (l1In_is' y 0 hL'.2.1 _ false (by simp only [decide_eq_false_eq]; exact hc)).mono ?_
     rintro e W9 ⟨rfl, rfl⟩
     go_wp2
     go_ret
     exact ⟨rfl, B⟩
   ·have hd : oksF hL'.2.1 oks = 0 := by rw [← HK.out, oksF_end (by have := HO.out; omega)]
    have he : drsF doers = d := by rw [← HE3.out, if_pos hd]
    have HE4 : Hid _ := he
    clear he hd HE3 HK
    go_wp2
    go_loopw [6, 7] (fun i _ wr => ∃ k : Nat, k ≤ dn ∧ i = .int .i64 k ∧ Hid (drsF (doers.drop k) = d) ∧ Ro wr b oz [.int .i64 id, .int .i64 size, .int .i64 view, .bool true, .int .i64 last, .slice hL'.1 hL'.2.1 hL'.2.2, .int .i64 commit, .slice oa on oc, .slice hA'.1 hA'.2.1 hA'.2.2, .slice da dn dc] ∧ Below w.heap.size w wr) (fun i _ _ => dn - (intOf i).toNat)
    case atStart => exact ⟨0, Nat.zero_le _, rfl, by simpa using HE4, X1, B⟩
    case round =>
     clear X1 c0 B HE4
     obtain ⟨k, hk, rfl, HK, X1, B⟩ := hrel
     have c0 := X1.cell
     by_cases hlt : k < dn
     ·have HF2 : Hid _ := drsF_drop (ds := doers) (k := k) (by have := HQ.out; omega)
      obtain ⟨b2, off, rfl, _, _, hbs, e0, e1, e2, e3, _⟩ := x.doers.doer hlt
      have R := (x.doers.els.logs k hlt).below B
      replace e0 := cell_later B e0
      replace e1 := cell_later B e1
      replace e2 := cell_later B e2
      replace e3 := cell_later B e3
      have hl : (k : Int) < (dn : Int) := by omega
      unfold drL at R
      simp only at e2 R
      generalize hK' k = q at *
      generalize doers.getD k dr0 = dd at *
      obtain ⟨qa, qn, qc⟩ := q
      obtain ⟨kn, la, xs, cm⟩ := dd
      simp only at e0 e1 e2 e3 R HF2
      obtain ⟨c, hc⟩ : ∃ c, drFault (kn, la, xs, cm) = c := ⟨_, rfl⟩
      rw [hc] at HF2
      have HC : Hid _ := hc
      clear hc
      go_wp2_with fail
      refine (l9Doer_is b2 (off + k * 4) kn la cm qa qn qc xs _ e0 e1 e2 e3 R c HC.out).mono ?_
      rintro e w5 ⟨rfl, BB⟩
      replace X1 := X1.below BB
      replace c0 := X1.cell
      replace B := below_next B BB
      clear BB
      clear e0 e1 e2 e3 R HC
      by_cases h0 : c = 0
      ·subst h0
       have HK' : Hid (drsF (doers.drop (k + 1)) = d) := by show _ = _; rw [← HK.out, HF2.out, if_pos rfl]
       clear HF2 HK
       go_wp2
       go_roundw
       case rel => exact ⟨k + 1, by omega, by go_num, HK', X1, B⟩
       case measure => simp [intOf]; omega
      ·have hd : c = d := by rw [← HK.out, HF2.out, if_neg h0]
       subst hd
       clear HF2 HK
       have h0' : (c != 0) = true := by simp [h0]
       go_wp2
       go_ret
       exact ⟨rfl, B⟩
     ·have hd : d = 0 := by rw [← HK.out, drsF_end (by have := HQ.out; omega)]
      subst hd
      go_wp2
      go_ret
      exact ⟨rfl, B⟩
end Go.Proofs.Ytjefmhjlaibbkaa
