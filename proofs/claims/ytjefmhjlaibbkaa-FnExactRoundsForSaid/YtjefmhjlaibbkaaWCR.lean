/- Chapter 9: the fault of a replica, in plain words and of the program. -/
import Derived.Test.YtjefmhjlaibbkaaQAGR
import Derived.Test.YtjefmhjlaibbkaaQABR
import Derived.Test.YtjefmhjlaibbkaaWBR
import Derived.Test.YtjefmhjlaibbkaaQAIR
set_option maxRecDepth 20000
set_option maxHeartbeats 16000000
namespace Go.Proofs.Ytjefmhjlaibbkaa
open Go.RowKit
def lgF (xs : List En) (c : Int) : Int := if logF xs = 0 then (if 0 ≤ c ∧ c ≤ xs.length then 0 else 3) else logF xs
def drFault (d : Dr) : Int := if d.1 = false ∧ (d.2.1 ≠ 0 ∨ d.2.2.1.length ≠ 0 ∨ d.2.2.2 ≠ 0) then 1 else if 0 ≤ d.2.1 ∧ d.2.1 ≤ 200 then lgF d.2.2.1 d.2.2.2 else 3
def drsF : List Dr → Int
 | [] => 0
 | d :: r => if drFault d = 0 then drsF r else drFault d
def oksF (m : Nat) : List Int → Int
 | [] => 0
 | x :: r => if 0 ≤ x ∧ x ≤ m then oksF m r else 3
def leadsB (r : Rep) : Bool := r.normal && (r.view % r.size == r.id)
def sizesP (r : Rep) : Prop := (r.oks.length : Int) = (if leadsB r = true then r.size else 0) ∧ (r.asks.length : Int) = (if r.normal = true then 0 else r.size) ∧ (r.doers.length : Int) = (if r.normal = true then 0 else r.size)
instance (r : Rep) : Decidable (sizesP r) := by unfold sizesP; infer_instance
def numsP (r : Rep) : Prop := (1 ≤ r.size ∧ r.size ≤ 5) ∧ (0 ≤ r.id ∧ r.id ≤ r.size - 1) ∧ (0 ≤ r.view ∧ r.view ≤ 200) ∧ (0 ≤ r.last ∧ r.last ≤ r.view)
instance (r : Rep) : Decidable (numsP r) := by unfold numsP; infer_instance
def repF (r : Rep) : Int := if numsP r then (if lgF r.log r.commit = 0 then (if (r.normal = true ∧ r.last ≠ r.view) ∨ ¬ sizesP r then 1 else if oksF r.log.length r.oks = 0 then drsF r.doers else oksF r.log.length r.oks) else lgF r.log r.commit) else 3
theorem drsF_drop {ds : List Dr} {k : Nat} (h : k < ds.length) : drsF (ds.drop k) = if drFault (ds.getD k dr0) = 0 then drsF (ds.drop (k + 1)) else drFault (ds.getD k dr0) := by
 rw [List.drop_eq_getElem_cons h]
 simp only [drsF, List.getD, List.getElem?_eq_getElem h, Option.getD_some]
theorem oksF_drop {m : Nat} {xs : List Int} {k : Nat} (h : k < xs.length) : oksF m (xs.drop k) = if 0 ≤ xs.getD k 0 ∧ xs.getD k 0 ≤ m then oksF m (xs.drop (k + 1)) else 3 := by
 rw [List.drop_eq_getElem_cons h]
 simp only [oksF, List.getD, List.getElem?_eq_getElem h, Option.getD_some]
theorem drsF_end {ds : List Dr} {k : Nat} (h : ds.length ≤ k) : drsF (ds.drop k) = 0 := by rw [List.drop_eq_nil_of_le h]; rfl
theorem and3 {p q s : Prop} [Decidable p] [Decidable q] [Decidable s] {d : Bool} (h : decide (p ∧ q ∧ s) = d) : (p → q → s → d = true) ∧ (¬ p → d = false) ∧ (¬ q → d = false) ∧ (¬ s → d = false) := by
 subst h
 exact ⟨fun a b c => decide_eq_true ⟨a, b, c⟩, fun a => decide_eq_false fun x => a x.1, fun a => decide_eq_false fun x => a x.2.1, fun a => decide_eq_false fun x => a x.2.2⟩
theorem oksF_end {m : Nat} {xs : List Int} {k : Nat} (h : xs.length ≤ k) : oksF m (xs.drop k) = 0 := by rw [List.drop_eq_nil_of_le h]; rfl
theorem isUpTo_is (n m : Int) (w : World) (d : Bool) (h : decide (0 ≤ n ∧ n ≤ m) = d) : Calls Try.prog 51 #[.int .i64 n, .int .i64 m] w fun e w' => e = .returned (.bool d) ∧ w' = w := by
 by_cases h1 : 0 ≤ n
 ·by_cases h2 : n ≤ m
  ·have e : d = true := by rw [← h]; exact decide_eq_true ⟨h1, h2⟩
   subst e
   clear h
   go_enter Try.func51, Try.ntmps51
   go_wp2
   go_ret
   exact ⟨rfl, rfl⟩
  ·have e : d = false := by rw [← h]; exact decide_eq_false (fun x => h2 x.2)
   subst e
   clear h
   go_enter Try.func51, Try.ntmps51
   go_wp2
   go_ret
   exact ⟨rfl, rfl⟩
 ·have e : d = false := by rw [← h]; exact decide_eq_false (fun x => h1 x.1)
  subst e
  clear h
  go_enter Try.func51, Try.ntmps51
  go_wp2
  go_ret
  exact ⟨rfl, rfl⟩
theorem isSize_is (n : Int) (w : World) (d : Bool) (h : decide (1 ≤ n ∧ n ≤ 5) = d) : Calls Try.prog 48 #[.int .i64 n] w fun e w' => e = .returned (.bool d) ∧ w' = w := by
 by_cases h1 : 1 ≤ n
 ·by_cases h2 : n ≤ 5
  ·have e : d = true := by rw [← h]; exact decide_eq_true ⟨h1, h2⟩
   subst e
   clear h
   go_enter Try.func48, Try.ntmps48
   go_wp2
   go_ret
   exact ⟨rfl, rfl⟩
  ·have e : d = false := by rw [← h]; exact decide_eq_false (fun x => h2 x.2)
   subst e
   clear h
   go_enter Try.func48, Try.ntmps48
   go_wp2
   go_ret
   exact ⟨rfl, rfl⟩
 ·have e : d = false := by rw [← h]; exact decide_eq_false (fun x => h1 x.1)
  subst e
  clear h
  go_enter Try.func48, Try.ntmps48
  go_wp2
  go_ret
  exact ⟨rfl, rfl⟩
theorem isView_is (n : Int) (w : World) (d : Bool) (h : decide (0 ≤ n ∧ n ≤ 200) = d) : Calls Try.prog 50 #[.int .i64 n] w fun e w' => e = .returned (.bool d) ∧ w' = w := by
 go_enter Try.func50, Try.ntmps50
 go_wp2_with fail
 refine (isUpTo_is n 200 _ d h).mono ?_
 rintro e W9 ⟨rfl, rfl⟩
 go_wp2
 go_ret
 exact ⟨rfl, rfl⟩
theorem isIdOf_is (s n : Int) (hs : 1 ≤ s ∧ s ≤ 5) (w : World) (d : Bool) (h : decide (0 ≤ n ∧ n ≤ s - 1) = d) : Calls Try.prog 49 #[.int .i64 s, .int .i64 n] w fun e w' => e = .returned (.bool d) ∧ w' = w := by
 have hw : IntKind.i64.wrap (s - 1) = s - 1 := wrapI_same _ (by omega)
 go_enter Try.func49, Try.ntmps49
 go_wp2_with fail
 refine (isUpTo_is n (s - 1) _ d h).mono ?_
 rintro e W9 ⟨rfl, rfl⟩
 go_wp2
 go_ret
 exact ⟨rfl, rfl⟩
theorem firstOf_is (v s : Int) (hs : 1 ≤ s ∧ s ≤ 5) (hv : 0 ≤ v ∧ v ≤ 300) (w : World) : Calls Try.prog 57 #[.int .i64 v, .int .i64 s] w fun e w' => e = .returned (.int .i64 (v % s)) ∧ w' = w := by
 have h0 : ¬ s = 0 := by omega
 have hr : v.tmod s = v % s := Int.tmod_eq_emod_of_nonneg hv.1
 have h2 := Int.emod_nonneg v h0
 have h3 : v % s < s := Int.emod_lt_of_pos v (by omega)
 have hw : IntKind.i64.wrap (v % s) = v % s := wrapI_same _ (by omega)
 clear h2 h3
 go_enter Try.func57, Try.ntmps57
 go_wp2
 go_ret
 exact ⟨rfl, rfl⟩
theorem leads_is' (r : Rep) (h : RH) (hs : 1 ≤ r.size ∧ r.size ≤ 5) (hv : 0 ≤ r.view ∧ r.view ≤ 300) (w : World) (d : Bool) (hd : leadsB r = d) : Calls Try.prog 85 #[.agg #[.int .i64 r.id, .int .i64 r.size, .int .i64 r.view, .bool r.normal, .int .i64 r.last, .slice h.L.1 h.L.2.1 h.L.2.2, .int .i64 r.commit, .slice h.O.1 h.O.2.1 h.O.2.2, .slice h.A.1 h.A.2.1 h.A.2.2, .slice h.D.1 h.D.2.1 h.D.2.2]] w fun e w' => e = .returned (.bool d) ∧ Below w.heap.size w w' := by
 have HD : Hid (leadsB r = d) := hd
 clear hd
 go_enter Try.func85, Try.ntmps85
 go_wp2_with (first | ((with_reducible refine box_newX 29 [.int .i64 r.id, .int .i64 r.size, .int .i64 r.view, .bool r.normal, .int .i64 r.last, .slice h.L.1 h.L.2.1 h.L.2.2, .int .i64 r.commit, .slice h.O.1 h.O.2.1 h.O.2.2, .slice h.A.1 h.A.2.1 h.A.2.2, .slice h.D.1 h.D.2.1 h.D.2.2] rfl ?_); intro b0 W0 N0; have ob0 := N0.ge; have B := N0.below; obtain ⟨X0, c0⟩ := N0.c; clear N0) | fail)
 have D : Below W0.heap.size W0 W0.drew := (Below.refl _ _).drew
 replace X0 := X0.below D
 replace c0 := X0.cell
 replace B := below_next B D
 clear D
 by_cases hn : r.normal = true
 ·have HE : Hid ((r.view % r.size == r.id) = d) := by show _ = _; rw [← HD.out]; unfold leadsB; rw [hn]; rfl
  clear HD
  refine wp_region_held_drew (S := (fun w' => ∀ k : Nat, w'.cell? ⟨b0, k, none⟩ = [.int .i64 r.id, .int .i64 r.size, .int .i64 r.view, .bool r.normal, .int .i64 r.last, .slice h.L.1 h.L.2.1 h.L.2.2, .int .i64 r.commit, .slice h.O.1 h.O.2.1 h.O.2.2, .slice h.A.1 h.A.2.1 h.A.2.2, .slice h.D.1 h.D.2.1 h.D.2.2][k]?)) (by kernel_rfl) c0 (fun hZq => ?_)
  refine tk 0 hZq ?_
  refine tk 1 hZq ?_
  refine tk 2 hZq ?_
  refine tk 3 hZq ?_
  refine tk 4 hZq ?_
  refine tk 5 hZq ?_
  refine tk 6 hZq ?_
  refine tk 8 hZq ?_
  refine tk 9 hZq ?_
  refine rd1 7 (fun KK hKK => ?_)
  go_simp
  go_at_call 57
  refine (firstOf_is r.view r.size hs hv _).mono ?_
  rintro e W9 ⟨rfl, rfl⟩
  clear hZq
  refine hKK _ _ c0 (fun hZq => ?_)
  clear hKK KK
  refine tk 10 hZq ?_
  refine tk 11 hZq ?_
  refine tk 12 hZq ?_
  refine wpAnyH_done (by kernel_rfl) ?_ _
  go_wp2
  go_ret
  exact ⟨ret_bool HE.out, B⟩
 ·have hn' : r.normal = false := by simpa using hn
  have e : d = false := by rw [← HD.out]; unfold leadsB; rw [hn']; rfl
  subst e
  clear hn HD
  refine wp_region_held_drew (S := (fun w' => ∀ k : Nat, w'.cell? ⟨b0, k, none⟩ = [.int .i64 r.id, .int .i64 r.size, .int .i64 r.view, .bool r.normal, .int .i64 r.last, .slice h.L.1 h.L.2.1 h.L.2.2, .int .i64 r.commit, .slice h.O.1 h.O.2.1 h.O.2.2, .slice h.A.1 h.A.2.1 h.A.2.2, .slice h.D.1 h.D.2.1 h.D.2.2][k]?)) (by kernel_rfl) c0 (fun hZq => ?_)
  refine tk 0 hZq ?_
  refine tk 1 hZq ?_
  refine tk 2 hZq ?_
  refine tks 3 hZq ?_
  refine tks 4 hZq ?_
  refine tks 5 hZq ?_
  refine tks 6 hZq ?_
  refine tks 7 hZq ?_
  refine tks 8 hZq ?_
  refine tks 9 hZq ?_
  refine tks 10 hZq ?_
  refine tk 11 hZq ?_
  refine tk 12 hZq ?_
  refine wpAnyH_done (by kernel_rfl) ?_ _
  go_wp2
  go_ret
  exact ⟨rfl, B⟩
theorem hasItsLists_is (r : Rep) (h : RH) (hs : 1 ≤ r.size ∧ r.size ≤ 5) (hv : 0 ≤ r.view ∧ r.view ≤ 300) (ho : r.oks.length = h.O.2.1) (ha : r.asks.length = h.A.2.1) (hq : r.doers.length = h.D.2.1) (w : World) (d : Bool) (hd : decide (sizesP r) = d) : Calls Try.prog 53 #[.agg #[.int .i64 r.id, .int .i64 r.size, .int .i64 r.view, .bool r.normal, .int .i64 r.last, .slice h.L.1 h.L.2.1 h.L.2.2, .int .i64 r.commit, .slice h.O.1 h.O.2.1 h.O.2.2, .slice h.A.1 h.A.2.1 h.A.2.2, .slice h.D.1 h.D.2.1 h.D.2.2]] w fun e w' => e = .returned (.bool d) ∧ Below w.heap.size w w' := by
 have HD : Hid (decide (((h.O.2.1 : Nat) : Int) = (if leadsB r = true then r.size else 0) ∧ ((h.A.2.1 : Nat) : Int) = (if r.normal = true then 0 else r.size) ∧ ((h.D.2.1 : Nat) : Int) = (if r.normal = true then 0 else r.size)) = d) := by show _ = _; rw [← hd, ← ho, ← ha, ← hq]; rfl
 clear hd ho ha hq
 obtain ⟨ld, hl⟩ : ∃ ld, leadsB r = ld := ⟨_, rfl⟩
 have HL : Hid _ := hl
 rw [hl] at HD
 have hln : ld = true → r.normal = true := fun e => by rw [e] at hl; unfold leadsB at hl; simp at hl; exact hl.1
 clear hl
 have HLN : Hid _ := hln
 clear hln
 obtain ⟨id, size, view, normal, last, log, commit, oks, asks, doers⟩ := r
 simp only at hs hv HD HLN
 cases normal
 ·go_enter Try.func53, Try.ntmps53
  go_wp2_with (first | ((with_reducible refine box_newX 29 [.int .i64 id, .int .i64 size, .int .i64 view, .bool false, .int .i64 last, .slice h.L.1 h.L.2.1 h.L.2.2, .int .i64 commit, .slice h.O.1 h.O.2.1 h.O.2.2, .slice h.A.1 h.A.2.1 h.A.2.2, .slice h.D.1 h.D.2.1 h.D.2.2] rfl ?_); intro b0 W0 N0; have ob0 := N0.ge; have B := N0.below; obtain ⟨X0, c0⟩ := N0.c; clear N0) | fail)
  go_quiet (fail)
  have DQ : Below W0.heap.size W0 (W0.drewN nq) := below_drewN (Below.refl _ _) nq
  replace X0 := X0.below DQ
  replace c0 := X0.cell
  replace B := below_next B DQ
  clear DQ
  generalize W0.drewN nq = W1 at *
  go_wp2_with fail
  refine (leads_is' ⟨id, size, view, false, last, log, commit, oks, asks, doers⟩ h hs hv _ ld HL.out).mono ?_
  rintro e w1 ⟨rfl, BB⟩
  replace X0 := X0.below BB
  replace c0 := X0.cell
  replace B := below_next B BB
  clear BB
  cases ld
  rotate_left 1
  ·exact absurd (HLN.out rfl) (by simp)
  have A := and3 (show decide (((h.O.2.1 : Nat) : Int) = 0 ∧ ((h.A.2.1 : Nat) : Int) = size ∧ ((h.D.2.1 : Nat) : Int) = size) = d from HD.out)
  have HA : Hid _ := A
  clear A HD HL HLN
  by_cases q1 : ((h.O.2.1 : Nat) : Int) = 0 <;> by_cases q2 : ((h.A.2.1 : Nat) : Int) = size <;> by_cases q3 : ((h.D.2.1 : Nat) : Int) = size
  all_goals
   first | (have e := HA.out.1 q1 q2 q3; subst e) | (have e := HA.out.2.1 q1; subst e) | (have e := HA.out.2.2.1 q2; subst e) | (have e := HA.out.2.2.2 q3; subst e)
   clear HA
   go_wp2
   go_ret
   first | exact ⟨rfl, B⟩ | exact ⟨ret_bool (by simpa using q3), B⟩
 ·go_enter Try.func53, Try.ntmps53
  go_wp2_with (first | ((with_reducible refine box_newX 29 [.int .i64 id, .int .i64 size, .int .i64 view, .bool true, .int .i64 last, .slice h.L.1 h.L.2.1 h.L.2.2, .int .i64 commit, .slice h.O.1 h.O.2.1 h.O.2.2, .slice h.A.1 h.A.2.1 h.A.2.2, .slice h.D.1 h.D.2.1 h.D.2.2] rfl ?_); intro b0 W0 N0; have ob0 := N0.ge; have B := N0.below; obtain ⟨X0, c0⟩ := N0.c; clear N0) | fail)
  go_quiet (fail)
  have DQ : Below W0.heap.size W0 (W0.drewN nq) := below_drewN (Below.refl _ _) nq
  replace X0 := X0.below DQ
  replace c0 := X0.cell
  replace B := below_next B DQ
  clear DQ
  generalize W0.drewN nq = W1 at *
  go_wp2_with fail
  refine (leads_is' ⟨id, size, view, true, last, log, commit, oks, asks, doers⟩ h hs hv _ ld HL.out).mono ?_
  rintro e w1 ⟨rfl, BB⟩
  replace X0 := X0.below BB
  replace c0 := X0.cell
  replace B := below_next B BB
  clear BB
  cases ld
  ·have A := and3 (show decide (((h.O.2.1 : Nat) : Int) = 0 ∧ ((h.A.2.1 : Nat) : Int) = 0 ∧ ((h.D.2.1 : Nat) : Int) = 0) = d from HD.out)
   have HA : Hid _ := A
   clear A HD HL HLN
   by_cases q1 : ((h.O.2.1 : Nat) : Int) = 0 <;> by_cases q2 : ((h.A.2.1 : Nat) : Int) = 0 <;> by_cases q3 : ((h.D.2.1 : Nat) : Int) = 0
   all_goals
    first | (have e := HA.out.1 q1 q2 q3; subst e) | (have e := HA.out.2.1 q1; subst e) | (have e := HA.out.2.2.1 q2; subst e) | (have e := HA.out.2.2.2 q3; subst e)
    clear HA
    go_wp2
    go_ret
    first | exact ⟨rfl, B⟩ | exact ⟨ret_bool (by simpa using q3), B⟩
  ·have A := and3 (show decide (((h.O.2.1 : Nat) : Int) = size ∧ ((h.A.2.1 : Nat) : Int) = 0 ∧ ((h.D.2.1 : Nat) : Int) = 0) = d from HD.out)
   have HA : Hid _ := A
   clear A HD HL HLN
   by_cases q1 : ((h.O.2.1 : Nat) : Int) = size <;> by_cases q2 : ((h.A.2.1 : Nat) : Int) = 0 <;> by_cases q3 : ((h.D.2.1 : Nat) : Int) = 0
   all_goals
    first | (have e := HA.out.1 q1 q2 q3; subst e) | (have e := HA.out.2.1 q1; subst e) | (have e := HA.out.2.2.1 q2; subst e) | (have e := HA.out.2.2.2 q3; subst e)
    clear HA
    go_wp2
    go_ret
    first | exact ⟨rfl, B⟩ | exact ⟨ret_bool (by simpa using q3), B⟩
theorem logFaultWith_is {own : Bool} {lo hi : Nat} (a : Option Addr) (n cap : Nat) (xs : List En) (c : Int) (w : World) (h : RowAt w own lo hi 6 a n cap (sixs xs)) (d : Int) (hd : lgF xs c = d) : Calls Try.prog 52 #[.slice a n cap, .int .i64 c] w fun e w' => e = .returned (.int .i64 d) ∧ Below w.heap.size w w' := by
 have hx := h.nSixs
 unfold lgF at hd
 obtain ⟨f, hf⟩ : ∃ f, logF xs = f := ⟨_, rfl⟩
 rw [hf] at hd
 have HF : Hid _ := hf
 clear hf
 go_enter Try.func52, Try.ntmps52
 go_wp2_with fail
 refine (implLF_is a n cap xs _ h f HF.out).mono ?_
 rintro e w1 ⟨rfl, hb⟩
 by_cases h0 : f = 0
 ·subst h0
  rw [if_pos rfl, hx] at hd
  go_wp2_with fail
  by_cases hc : 0 ≤ c ∧ c ≤ n
  ·rw [if_pos hc] at hd
   subst hd
   refine (isUpTo_is c n _ true (by simp only [decide_eq_true_eq]; exact hc)).mono ?_
   rintro e W9 ⟨rfl, rfl⟩
   go_wp2
   go_ret
   exact ⟨rfl, hb⟩
  ·rw [if_neg hc] at hd
   subst hd
   refine (isUpTo_is c n _ false (by simp only [decide_eq_false_eq]; exact hc)).mono ?_
   rintro e W9 ⟨rfl, rfl⟩
   go_wp2
   go_ret
   exact ⟨rfl, hb⟩
 ·rw [if_neg h0] at hd
  subst hd
  have h0' : (f != 0) = true := by simp [h0]
  go_wp2
  go_ret
  exact ⟨rfl, hb⟩
theorem oksFault_is {own : Bool} {lo hi : Nat} (r : Rep) (h : RH) (w : World) (x : RowAt w own lo hi 1 h.O.1 h.O.2.1 h.O.2.2 (ints r.oks)) (hL : r.log.length = h.L.2.1) (hz : h.O.2.1 ≤ 2097152) (d : Int) (hd : oksF r.log.length r.oks = d) : Calls Try.prog 54 #[.agg #[.int .i64 r.id, .int .i64 r.size, .int .i64 r.view, .bool r.normal, .int .i64 r.last, .slice h.L.1 h.L.2.1 h.L.2.2, .int .i64 r.commit, .slice h.O.1 h.O.2.1 h.O.2.2, .slice h.A.1 h.A.2.1 h.A.2.2, .slice h.D.1 h.D.2.1 h.D.2.2]] w fun e w' => e = .returned (.int .i64 d) ∧ Below w.heap.size w w' := by
 have hxl := x.nInts
 have hle := x.le
 rw [hL] at hd
 have HD : Hid _ := hd
 clear hd
 obtain ⟨hL', ⟨oa, on, oc⟩, hA, hD, hK⟩ := h
 simp only at x hL HD hxl hle hz
 go_enter Try.func54, Try.ntmps54
 go_wp2_with (first | ((with_reducible refine box_newX 29 [.int .i64 r.id, .int .i64 r.size, .int .i64 r.view, .bool r.normal, .int .i64 r.last, .slice hL'.1 hL'.2.1 hL'.2.2, .int .i64 r.commit, .slice oa on oc, .slice hA.1 hA.2.1 hA.2.2, .slice hD.1 hD.2.1 hD.2.2] rfl ?_); intro b0 W0 N0; have ob0 := N0.ge; have B := N0.below; obtain ⟨X0, c0⟩ := N0.c; clear N0))
 go_loopw [4, 8] (fun _ i wr => ∃ k : Nat, k ≤ on ∧ i = .int .i64 k ∧ Hid (oksF hL'.2.1 (r.oks.drop k) = d) ∧ Bx wr b0 [.int .i64 r.id, .int .i64 r.size, .int .i64 r.view, .bool r.normal, .int .i64 r.last, .slice hL'.1 hL'.2.1 hL'.2.2, .int .i64 r.commit, .slice oa on oc, .slice hA.1 hA.2.1 hA.2.2, .slice hD.1 hD.2.1 hD.2.2] ∧ Below w.heap.size w wr) (fun _ i _ => on - (intOf i).toNat)
 case atStart => exact ⟨0, Nat.zero_le _, rfl, by simpa using HD, X0, B⟩
 case round =>
  clear X0 c0 B
  obtain ⟨k, hk, rfl, HK, X0, B⟩ := hrel
  have c0 := X0.cell
  clear HD
  by_cases hlt : k < on
  ·have HF : Hid _ := oksF_drop (m := hL'.2.1) (xs := r.oks) (k := k) (by omega)
   obtain ⟨b, off, rfl, _, _, hbs, e0, _⟩ := x.int hlt
   replace e0 := cell_later B e0
   have hl : (k : Int) < (on : Int) := by omega
   generalize r.oks.getD k 0 = y at *
   go_wp2_with fail
   by_cases hc : 0 ≤ y ∧ y ≤ hL'.2.1
   ·have HK' : Hid (oksF hL'.2.1 (r.oks.drop (k + 1)) = d) := by show _ = _; rw [← HK.out, HF.out, if_pos hc]
    clear HF HK
    refine (isUpTo_is y hL'.2.1 _ true (by simp only [decide_eq_true_eq]; exact hc)).mono ?_
    rintro e W9 ⟨rfl, rfl⟩
    go_wp2
    go_roundw
    case rel => exact ⟨k + 1, by omega, by go_num, HK', X0, B⟩
    case measure => simp [intOf]; omega
   ·have hd : d = 3 := by rw [← HK.out, HF.out, if_neg hc]
    subst hd
    clear HF HK
    refine (isUpTo_is y hL'.2.1 _ false (by simp only [decide_eq_false_eq]; exact hc)).mono ?_
    rintro e W9 ⟨rfl, rfl⟩
    go_wp2
    go_ret
    exact ⟨rfl, B⟩
  ·have hd : d = 0 := by rw [← HK.out, oksF_end (by omega)]
   subst hd
   go_wp2
   go_ret
   exact ⟨rfl, B⟩
theorem doerFault_is {own : Bool} {lo hi : Nat} (kn : Bool) (la cm : Int) (a : Option Addr) (n cap : Nat) (xs : List En) (w : World) (h : RowAt w own lo hi 6 a n cap (sixs xs)) (d : Int) (hd : drFault (kn, la, xs, cm) = d) : Calls Try.prog 86 #[.agg #[.bool kn, .int .i64 la, .slice a n cap, .int .i64 cm]] w fun e w' => e = .returned (.int .i64 d) ∧ Below w.heap.size w w' := by
 have hx := h.nSixs
 unfold drFault at hd
 simp only [hx] at hd
 have HD : Hid _ := hd
 clear hd
 have E : ∀ P : Prop, (P → d = 1) → P → d = 1 := fun P f p => f p
 clear E
 obtain ⟨f, hf⟩ : ∃ f, lgF xs cm = f := ⟨_, rfl⟩
 rw [hf] at HD
 have HF : Hid _ := hf
 clear hf
 cases kn
 ·by_cases q1 : la = 0
  rotate_left 1
  ·have e := HD.out
   rw [if_pos ⟨rfl, Or.inl q1⟩] at e
   subst e
   have q1' : (la != 0) = true := by simp [q1]
   clear HD
   go_enter Try.func86, Try.ntmps86
   go_wp2_with (first | ((with_reducible refine box_newX 39 [.bool false, .int .i64 la, .slice a n cap, .int .i64 cm] rfl ?_); intro b0 W0 N0; have ob0 := N0.ge; have B := N0.below; obtain ⟨X0, c0⟩ := N0.c; clear N0))
   go_ret
   exact ⟨rfl, B⟩
  by_cases q2 : n = 0
  rotate_left 1
  ·have e := HD.out
   rw [if_pos ⟨rfl, Or.inr (Or.inl q2)⟩] at e
   subst e
   have q2' : ((n : Int) != 0) = true := by simp; omega
   have q1' : (la != 0) = false := by simp [q1]
   clear HD
   go_enter Try.func86, Try.ntmps86
   go_wp2_with (first | ((with_reducible refine box_newX 39 [.bool false, .int .i64 la, .slice a n cap, .int .i64 cm] rfl ?_); intro b0 W0 N0; have ob0 := N0.ge; have B := N0.below; obtain ⟨X0, c0⟩ := N0.c; clear N0))
   go_ret
   exact ⟨rfl, B⟩
  by_cases q3 : cm = 0
  rotate_left 1
  ·have e := HD.out
   rw [if_pos ⟨rfl, Or.inr (Or.inr q3)⟩] at e
   subst e
   have q3' : (cm != 0) = true := by simp [q3]
   have q2' : ((n : Int) != 0) = false := by simp; omega
   have q1' : (la != 0) = false := by simp [q1]
   clear HD
   go_enter Try.func86, Try.ntmps86
   go_wp2_with (first | ((with_reducible refine box_newX 39 [.bool false, .int .i64 la, .slice a n cap, .int .i64 cm] rfl ?_); intro b0 W0 N0; have ob0 := N0.ge; have B := N0.below; obtain ⟨X0, c0⟩ := N0.c; clear N0))
   go_ret
   exact ⟨rfl, B⟩
  have hd := HD.out
  rw [if_neg (by simp [q1, q2, q3])] at hd
  clear HD
  have q3' : (cm != 0) = false := by simp [q3]
  have q2' : ((n : Int) != 0) = false := by simp; omega
  have q1' : (la != 0) = false := by simp [q1]
  have Q1 : Hid _ := q1
  have Q2 : Hid _ := q2
  have Q3 : Hid _ := q3
  clear q1 q2 q3
  go_enter Try.func86, Try.ntmps86
  go_wp2_with (first | ((with_reducible refine box_newX 39 [.bool false, .int .i64 la, .slice a n cap, .int .i64 cm] rfl ?_); intro b0 W0 N0; have ob0 := N0.ge; have B := N0.below; obtain ⟨X0, c0⟩ := N0.c; clear N0) | fail)
  by_cases hl : 0 ≤ la ∧ la ≤ 200
  ·rw [if_pos hl] at hd
   subst hd
   refine (isView_is la _ true (by simp only [decide_eq_true_eq]; exact hl)).mono ?_
   rintro e W9 ⟨rfl, rfl⟩
   go_wp2_with fail
   refine (logFaultWith_is a n cap xs cm _ (h.below B) f HF.out).mono ?_
   rintro e w1 ⟨rfl, BB⟩
   replace X0 := X0.below BB
   replace c0 := X0.cell
   replace B := below_next B BB
   clear BB
   go_wp2
   go_ret
   exact ⟨rfl, B⟩
  ·rw [if_neg hl] at hd
   subst hd
   refine (isView_is la _ false (by simp only [decide_eq_false_eq]; exact hl)).mono ?_
   rintro e W9 ⟨rfl, rfl⟩
   go_wp2
   go_ret
   exact ⟨rfl, B⟩
 ·have hd := HD.out
  rw [if_neg (by simp)] at hd
  clear HD
  go_enter Try.func86, Try.ntmps86
  go_wp2_with (first | ((with_reducible refine box_newX 39 [.bool true, .int .i64 la, .slice a n cap, .int .i64 cm] rfl ?_); intro b0 W0 N0; have ob0 := N0.ge; have B := N0.below; obtain ⟨X0, c0⟩ := N0.c; clear N0) | fail)
  by_cases hl : 0 ≤ la ∧ la ≤ 200
  ·rw [if_pos hl] at hd
   subst hd
   refine (isView_is la _ true (by simp only [decide_eq_true_eq]; exact hl)).mono ?_
   rintro e W9 ⟨rfl, rfl⟩
   go_wp2_with fail
   refine (logFaultWith_is a n cap xs cm _ (h.below B) f HF.out).mono ?_
   rintro e w1 ⟨rfl, BB⟩
   replace X0 := X0.below BB
   replace c0 := X0.cell
   replace B := below_next B BB
   clear BB
   go_wp2
   go_ret
   exact ⟨rfl, B⟩
  ·rw [if_neg hl] at hd
   subst hd
   refine (isView_is la _ false (by simp only [decide_eq_false_eq]; exact hl)).mono ?_
   rintro e W9 ⟨rfl, rfl⟩
   go_wp2
   go_ret
   exact ⟨rfl, B⟩
theorem doersFault_is {own : Bool} {lo hi : Nat} (ao : Option Addr) (n cap : Nat) (K : Nat → Hd) (ds : List Dr) (w : World) (h : DoersAt w own lo hi ao n cap K ds) (hz : n ≤ 2097152) (d : Int) (hd : drsF ds = d) : Calls Try.prog 55 #[.slice ao n cap] w fun e w' => e = .returned (.int .i64 d) ∧ Below w.heap.size w w' := by
 have hxl := h.len
 have hle := h.els.row.le
 have HD : Hid (drsF ds = d) := hd
 clear hd
 go_enter Try.func55, Try.ntmps55
 go_wp2
 go_loopw [4, 5, 8] (fun _ _ i wr => ∃ k : Nat, k ≤ n ∧ i = .int .i64 k ∧ Hid (drsF (ds.drop k) = d) ∧ Below w.heap.size w wr) (fun _ _ i _ => n - (intOf i).toNat)
 case atStart => exact ⟨0, Nat.zero_le _, rfl, by simpa using HD, Below.refl _ _⟩
 case round =>
  obtain ⟨k, hk, rfl, HK, hb⟩ := hrel
  clear HD
  by_cases hlt : k < n
  ·have HF : Hid _ := drsF_drop (ds := ds) (k := k) (by omega)
   obtain ⟨b, off, rfl, _, _, hbs, e0, e1, e2, e3, _⟩ := h.doer hlt
   have R := (h.els.logs k hlt).below hb
   replace e0 := cell_later hb e0
   replace e1 := cell_later hb e1
   replace e2 := cell_later hb e2
   replace e3 := cell_later hb e3
   have hl : (k : Int) < (n : Int) := by omega
   unfold drL at R
   generalize K k = q at *
   generalize ds.getD k dr0 = dd at *
   obtain ⟨qa, qn, qc⟩ := q
   obtain ⟨kn, la, xs, cm⟩ := dd
   simp only at e0 e1 e2 e3 R HF
   obtain ⟨c, hc⟩ : ∃ c, drFault (kn, la, xs, cm) = c := ⟨_, rfl⟩
   rw [hc] at HF
   have HC : Hid _ := hc
   clear hc
   go_wp2_with (first | ((with_reducible refine sm 39 X0 0 [.bool kn, .int .i64 la, .slice qa qn qc, .int .i64 cm] ?_); intro V1 S; replace X0 : Bx V1 b0 [.bool kn, .int .i64 la, .slice qa qn qc, .int .i64 cm] := S.bx; replace c0 := X0.cell; replace f0 := X0.froz; replace B := bkp B S.kept; clear S) | ((with_reducible refine al 39 [.bool false, .int .i64 0, .slice none 0 0, .int .i64 0] ?_); intro b0 W0 N0; have ob0 := N0.ge; have B := N0.below; obtain ⟨X0, c0, f0⟩ := N0.a; clear N0) | fail)
   refine (doerFault_is kn la cm qa qn qc xs _ (R.below B) c HC.out).mono ?_
   rintro e w1 ⟨rfl, BB⟩
   replace X0 := X0.below BB
   replace c0 := X0.cell
   replace f0 := X0.froz
   replace B := below_next B BB
   clear BB
   replace hb := below_step hb hb.size B
   clear B X0 c0 f0 HC e0 e1 e2 e3 R ob0
   by_cases h0 : c = 0
   ·subst h0
    have HK' : Hid (drsF (ds.drop (k + 1)) = d) := by show _ = _; rw [← HK.out, HF.out, if_pos rfl]
    clear HF HK
    go_wp2
    go_roundw
    case rel => exact ⟨k + 1, by omega, by go_num, HK', hb⟩
    case measure => simp [intOf]; omega
   ·have hd : c = d := by rw [← HK.out, HF.out, if_neg h0]
    subst hd
    clear HF HK
    have h0' : (c != 0) = true := by simp [h0]
    go_wp2
    go_ret
    exact ⟨rfl, hb⟩
  ·have hd : d = 0 := by rw [← HK.out, drsF_end (by omega)]
   subst hd
   go_wp2
   go_ret
   exact ⟨rfl, hb⟩
theorem implRF_is {own : Bool} {lo hi : Nat} (r : Rep) (h : RH) (w : World) (x : RepAt w own lo hi h r) (hz : RSz h 2097152) (d : Int) (hd : repF r = d) : Calls Try.prog 20 #[.agg #[.int .i64 r.id, .int .i64 r.size, .int .i64 r.view, .bool r.normal, .int .i64 r.last, .slice h.L.1 h.L.2.1 h.L.2.2, .int .i64 r.commit, .slice h.O.1 h.O.2.1 h.O.2.2, .slice h.A.1 h.A.2.1 h.A.2.2, .slice h.D.1 h.D.2.1 h.D.2.2]] w fun e w' => e = .returned (.int .i64 d) ∧ Below w.heap.size w w' := by
 have ho := x.oks.nInts
 have ha := x.asks.nBools
 have hq := x.doers.len
 have hL := x.log.nSixs
 have HO : Hid _ := ho
 have HA : Hid _ := ha
 have HQ : Hid _ := hq
 have HL : Hid _ := hL
 clear ho ha hq hL
 have HD : Hid (repF r = d) := hd
 clear hd
 by_cases hN : numsP r
 rotate_left 1
 ·have e : d = 3 := by rw [← HD.out]; unfold repF; rw [if_neg hN]
  subst e
  clear HD
  go_enter Try.func20, Try.ntmps20
  go_wp2_with (first | ((with_reducible refine box_newX 29 [.int .i64 r.id, .int .i64 r.size, .int .i64 r.view, .bool r.normal, .int .i64 r.last, .slice h.L.1 h.L.2.1 h.L.2.2, .int .i64 r.commit, .slice h.O.1 h.O.2.1 h.O.2.2, .slice h.A.1 h.A.2.1 h.A.2.2, .slice h.D.1 h.D.2.1 h.D.2.2] rfl ?_); intro b0 W0 N0; have ob0 := N0.ge; have B := N0.below; obtain ⟨X0, c0⟩ := N0.c; clear N0) | fail)
  by_cases h0 : 1 ≤ r.size ∧ r.size ≤ 5
  rotate_left 1
  ·refine (isSize_is r.size _ false (by simp only [decide_eq_false_eq]; exact h0)).mono ?_
   rintro e W9 ⟨rfl, rfl⟩
   go_wp2
   go_ret
   exact ⟨rfl, B⟩
  refine (isSize_is r.size _ true (by simp only [decide_eq_true_eq]; exact h0)).mono ?_
  rintro e W9 ⟨rfl, rfl⟩
  go_wp2_with fail
  by_cases h1 : 0 ≤ r.id ∧ r.id ≤ r.size - 1
  rotate_left 1
  ·refine (isIdOf_is r.size r.id h0 _ false (by simp only [decide_eq_false_eq]; exact h1)).mono ?_
   rintro e W9 ⟨rfl, rfl⟩
   go_wp2
   go_ret
   exact ⟨rfl, B⟩
  refine (isIdOf_is r.size r.id h0 _ true (by simp only [decide_eq_true_eq]; exact h1)).mono ?_
  rintro e W9 ⟨rfl, rfl⟩
  go_wp2_with fail
  by_cases h2 : 0 ≤ r.view ∧ r.view ≤ 200
  rotate_left 1
  ·refine (isView_is r.view _ false (by simp only [decide_eq_false_eq]; exact h2)).mono ?_
   rintro e W9 ⟨rfl, rfl⟩
   go_wp2
   go_ret
   exact ⟨rfl, B⟩
  refine (isView_is r.view _ true (by simp only [decide_eq_true_eq]; exact h2)).mono ?_
  rintro e W9 ⟨rfl, rfl⟩
  go_wp2_with fail
  have h3 : ¬ (0 ≤ r.last ∧ r.last ≤ r.view) := fun y => hN ⟨h0, h1, h2, y⟩
  refine (isUpTo_is r.last r.view _ false (by simp only [decide_eq_false_eq]; exact h3)).mono ?_
  rintro e W9 ⟨rfl, rfl⟩
  go_wp2
  go_ret
  exact ⟨rfl, B⟩
 obtain ⟨h0, h1, h2, h3⟩ := hN
 have hN : numsP r := ⟨h0, h1, h2, h3⟩
 have HN : Hid _ := hN
 clear hN
 have hv : 0 ≤ r.view ∧ r.view ≤ 300 := by omega
 obtain ⟨f, hf⟩ : ∃ f, lgF r.log r.commit = f := ⟨_, rfl⟩
 obtain ⟨sz, hsz⟩ : ∃ sz, decide (sizesP r) = sz := ⟨_, rfl⟩
 obtain ⟨ok, hok⟩ : ∃ ok, oksF r.log.length r.oks = ok := ⟨_, rfl⟩
 obtain ⟨dd, hdd⟩ : ∃ dd, drsF r.doers = dd := ⟨_, rfl⟩
 have HE : Hid ((if f = 0 then (if (r.normal = true ∧ r.last ≠ r.view) ∨ ¬ sizesP r then 1 else if ok = 0 then dd else ok) else f) = d) := by show _ = _; rw [← HD.out, ← hf, ← hok, ← hdd]; unfold repF; rw [if_pos (show numsP r from HN.out)]
 have HF : Hid _ := hf
 have HZ : Hid _ := hsz
 have HK : Hid _ := hok
 have HW : Hid _ := hdd
 clear hf hsz hok hdd HD
 obtain ⟨nm, hnm⟩ : ∃ nm, r.normal = nm := ⟨_, rfl⟩
 obtain ⟨id, size, view, normal, last, log, commit, oks, asks, doers⟩ := r
 simp only at h0 h1 h2 h3 hv HE hnm HO HA HQ HL
 subst hnm
 cases normal
 ·go_enter Try.func20, Try.ntmps20
  go_wp2_with (first | ((with_reducible refine box_newX 29 [.int .i64 id, .int .i64 size, .int .i64 view, .bool false, .int .i64 last, .slice h.L.1 h.L.2.1 h.L.2.2, .int .i64 commit, .slice h.O.1 h.O.2.1 h.O.2.2, .slice h.A.1 h.A.2.1 h.A.2.2, .slice h.D.1 h.D.2.1 h.D.2.2] rfl ?_); intro b0 W0 N0; have ob0 := N0.ge; have B := N0.below; obtain ⟨X0, c0⟩ := N0.c; clear N0) | fail)
  refine (isSize_is size _ true (by simp only [decide_eq_true_eq]; exact h0)).mono ?_
  rintro e W9 ⟨rfl, rfl⟩
  go_wp2_with fail
  refine (isIdOf_is size id h0 _ true (by simp only [decide_eq_true_eq]; exact h1)).mono ?_
  rintro e W9 ⟨rfl, rfl⟩
  go_wp2_with fail
  refine (isView_is view _ true (by simp only [decide_eq_true_eq]; exact h2)).mono ?_
  rintro e W9 ⟨rfl, rfl⟩
  go_wp2_with fail
  refine (isUpTo_is last view _ true (by simp only [decide_eq_true_eq]; exact h3)).mono ?_
  rintro e W9 ⟨rfl, rfl⟩
  go_wp2_with fail
  refine (logFaultWith_is _ _ _ log commit _ (x.log.below B) f HF.out).mono ?_
  rintro e w1 ⟨rfl, BB⟩
  replace X0 := X0.below BB
  replace c0 := X0.cell
  replace B := below_next B BB
  clear BB
  by_cases q0 : f = 0
  rotate_left 1
  ·have e : f = d := by rw [← HE.out, if_neg q0]
   subst e
   have q0' : (f != 0) = true := by simp [q0]
   go_wp2
   go_ret
   exact ⟨rfl, B⟩
  subst q0
  have he := HE.out
  rw [if_pos rfl] at he
  have HE2 : Hid _ := he
  clear he HE
  have Q1 : Hid True := trivial
  go_wp2_with fail
  refine (hasItsLists_is ⟨id, size, view, false, last, log, commit, oks, asks, doers⟩ h h0 hv HO.out HA.out HQ.out _ sz HZ.out).mono ?_
  rintro e w2 ⟨rfl, BB⟩
  replace X0 := X0.below BB
  replace c0 := X0.cell
  replace B := below_next B BB
  clear BB
  cases sz
  ·have e : d = 1 := by rw [← HE2.out, if_pos (Or.inr (of_decide_eq_false HZ.out))]
   subst e
   clear HE2
   go_wp2
   go_ret
   exact ⟨rfl, B⟩
  have he := HE2.out
  rw [if_neg (fun y => y.elim (fun z => absurd z.1 (by simp)) (fun z => z (of_decide_eq_true HZ.out)))] at he
  have HE3 : Hid _ := he
  clear he HE2 Q1
  go_wp2_with fail
  refine (oksFault_is ⟨id, size, view, false, last, log, commit, oks, asks, doers⟩ h _ (x.oks.below B) HL.out hz.O ok HK.out).mono ?_
  rintro e w3 ⟨rfl, BB⟩
  replace X0 := X0.below BB
  replace c0 := X0.cell
  replace B := below_next B BB
  clear BB
  by_cases q2 : ok = 0
  rotate_left 1
  ·have e : ok = d := by rw [← HE3.out, if_neg q2]
   subst e
   have q2' : (ok != 0) = true := by simp [q2]
   clear HE3
   go_wp2
   go_ret
   exact ⟨rfl, B⟩
  subst q2
  have e : dd = d := by rw [← HE3.out, if_pos rfl]
  subst e
  clear HE3
  go_wp2_with fail
  refine (doersFault_is _ _ _ h.K doers _ (x.doers.below B) hz.D dd HW.out).mono ?_
  rintro e w4 ⟨rfl, BB⟩
  replace X0 := X0.below BB
  replace c0 := X0.cell
  replace B := below_next B BB
  clear BB
  go_wp2
  go_ret
  exact ⟨rfl, B⟩
 ·go_enter Try.func20, Try.ntmps20
  go_wp2_with (first | ((with_reducible refine box_newX 29 [.int .i64 id, .int .i64 size, .int .i64 view, .bool true, .int .i64 last, .slice h.L.1 h.L.2.1 h.L.2.2, .int .i64 commit, .slice h.O.1 h.O.2.1 h.O.2.2, .slice h.A.1 h.A.2.1 h.A.2.2, .slice h.D.1 h.D.2.1 h.D.2.2] rfl ?_); intro b0 W0 N0; have ob0 := N0.ge; have B := N0.below; obtain ⟨X0, c0⟩ := N0.c; clear N0) | fail)
  refine (isSize_is size _ true (by simp only [decide_eq_true_eq]; exact h0)).mono ?_
  rintro e W9 ⟨rfl, rfl⟩
  go_wp2_with fail
  refine (isIdOf_is size id h0 _ true (by simp only [decide_eq_true_eq]; exact h1)).mono ?_
  rintro e W9 ⟨rfl, rfl⟩
  go_wp2_with fail
  refine (isView_is view _ true (by simp only [decide_eq_true_eq]; exact h2)).mono ?_
  rintro e W9 ⟨rfl, rfl⟩
  go_wp2_with fail
  refine (isUpTo_is last view _ true (by simp only [decide_eq_true_eq]; exact h3)).mono ?_
  rintro e W9 ⟨rfl, rfl⟩
  go_wp2_with fail
  refine (logFaultWith_is _ _ _ log commit _ (x.log.below B) f HF.out).mono ?_
  rintro e w1 ⟨rfl, BB⟩
  replace X0 := X0.below BB
  replace c0 := X0.cell
  replace B := below_next B BB
  clear BB
  by_cases q0 : f = 0
  rotate_left 1
  ·have e : f = d := by rw [← HE.out, if_neg q0]
   subst e
   have q0' : (f != 0) = true := by simp [q0]
   go_wp2
   go_ret
   exact ⟨rfl, B⟩
  subst q0
  have he := HE.out
  rw [if_pos rfl] at he
  have HE2 : Hid _ := he
  clear he HE
  by_cases q1 : last = view
  rotate_left 1
  ·have e : d = 1 := by rw [← HE2.out, if_pos (Or.inl ⟨by first | trivial | rfl, q1⟩)]
   subst e
   have q1' : (last != view) = true := by simp [q1]
   clear q1 HE2
   go_wp2
   go_ret
   exact ⟨rfl, B⟩
  have q1' : (last != view) = false := by simp [q1]
  have Q1 : Hid (last = view) := q1
  clear q1
  go_wp2_with fail
  refine (hasItsLists_is ⟨id, size, view, true, last, log, commit, oks, asks, doers⟩ h h0 hv HO.out HA.out HQ.out _ sz HZ.out).mono ?_
  rintro e w2 ⟨rfl, BB⟩
  replace X0 := X0.below BB
  replace c0 := X0.cell
  replace B := below_next B BB
  clear BB
  cases sz
  ·have e : d = 1 := by rw [← HE2.out, if_pos (Or.inr (of_decide_eq_false HZ.out))]
   subst e
   clear HE2
   go_wp2
   go_ret
   exact ⟨rfl, B⟩
  have he := HE2.out
  rw [if_neg (fun y => y.elim (fun z => z.2 Q1.out) (fun z => z (of_decide_eq_true HZ.out)))] at he
  have HE3 : Hid _ := he
  clear he HE2 Q1
  go_wp2_with fail
  refine (oksFault_is ⟨id, size, view, true, last, log, commit, oks, asks, doers⟩ h _ (x.oks.below B) HL.out hz.O ok HK.out).mono ?_
  rintro e w3 ⟨rfl, BB⟩
  replace X0 := X0.below BB
  replace c0 := X0.cell
  replace B := below_next B BB
  clear BB
  by_cases q2 : ok = 0
  rotate_left 1
  ·have e : ok = d := by rw [← HE3.out, if_neg q2]
   subst e
   have q2' : (ok != 0) = true := by simp [q2]
   clear HE3
   go_wp2
   go_ret
   exact ⟨rfl, B⟩
  subst q2
  have e : dd = d := by rw [← HE3.out, if_pos rfl]
  subst e
  clear HE3
  go_wp2_with fail
  refine (doersFault_is _ _ _ h.K doers _ (x.doers.below B) hz.D dd HW.out).mono ?_
  rintro e w4 ⟨rfl, BB⟩
  replace X0 := X0.below BB
  replace c0 := X0.cell
  replace B := below_next B BB
  clear BB
  go_wp2
  go_ret
  exact ⟨rfl, B⟩
end Go.Proofs.Ytjefmhjlaibbkaa
