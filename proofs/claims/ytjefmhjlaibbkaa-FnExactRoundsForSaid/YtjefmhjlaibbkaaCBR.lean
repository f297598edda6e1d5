/- Chapter 11: the numbers of a mail for a node of a list, of the model. -/
import Derived.Test.YtjefmhjlaibbkaaQAGR
import Derived.Test.YtjefmhjlaibbkaaQABR
import Derived.Test.YtjefmhjlaibbkaaQAQR
import Derived.Test.YtjefmhjlaibbkaaCAR
set_option maxRecDepth 20000
set_option maxHeartbeats 16000000
namespace Go.Proofs.Ytjefmhjlaibbkaa
open Go.RowKit
theorem l9Numbers1O_is (b oz : Nat) (r : Rep) (h : RH) (fr to view at_ : Int) (has : Bool) (en : En) (last : Int) (log : List En) (commit : Int) (hm : Hd) (hS : 1 ≤ r.size ∧ r.size ≤ 5) (w : World) (Y : Ro w b oz [.int .i64 r.id, .int .i64 r.size, .int .i64 r.view, .bool r.normal, .int .i64 r.last, .slice h.L.1 h.L.2.1 h.L.2.2, .int .i64 r.commit, .slice h.O.1 h.O.2.1 h.O.2.2, .slice h.A.1 h.A.2.1 h.A.2.2, .slice h.D.1 h.D.2.1 h.D.2.2]) (d : Bool) (hd : decide (numsM r ⟨1, fr, to, view, at_, has, en, last, log, commit⟩ ∧ numN true true false ⟨1, fr, to, view, at_, has, en, last, log, commit⟩) = d) : Calls Try.prog 96 #[.pointer (some ⟨b, oz, none⟩), .agg #[.int .i64 1, .int .i64 fr, .int .i64 to, .int .i64 view, .int .i64 at_, .bool has, .int .i64 en.1, .int .i64 en.2.1, .int .i64 en.2.2.1, .int .i64 en.2.2.2.1, .int .i64 en.2.2.2.2.1, .int .i64 en.2.2.2.2.2, .int .i64 last, .slice hm.1 hm.2.1 hm.2.2, .int .i64 commit]] w fun e w' => e = .returned (.bool d) ∧ Below w.heap.size w w' := by
 have HT : Hid (numsM r ⟨1, fr, to, view, at_, has, en, last, log, commit⟩ → numN true true false ⟨1, fr, to, view, at_, has, en, last, log, commit⟩ → d = true) := fun y z => by rw [← hd]; exact decide_eq_true ⟨y, z⟩
 have HF : Hid (¬ (numsM r ⟨1, fr, to, view, at_, has, en, last, log, commit⟩ ∧ numN true true false ⟨1, fr, to, view, at_, has, en, last, log, commit⟩) → d = false) := fun y => by rw [← hd]; exact decide_eq_false y
 clear hd
 have hw : IntKind.i64.wrap (r.size - 1) = r.size - 1 := wrapI_same _ (by omega)
 have hbw := Y.lt
 go_enter Try.func96, Try.ntmps96
 go_wp2_with (first | ((with_reducible refine box_newX 99 [.int .i64 1, .int .i64 fr, .int .i64 to, .int .i64 view, .int .i64 at_, .bool has, .int .i64 en.1, .int .i64 en.2.1, .int .i64 en.2.2.1, .int .i64 en.2.2.2.1, .int .i64 en.2.2.2.2.1, .int .i64 en.2.2.2.2.2, .int .i64 last, .slice hm.1 hm.2.1 hm.2.2, .int .i64 commit] rfl ?_); intro b0 W0 N0; have ob0 := N0.ge; have B := N0.below; obtain ⟨X0, c0⟩ := N0.c; clear N0) | fail)
 replace Y := Y.below B
 have DQ : Below W0.heap.size W0 W0.drew := (Below.refl _ _).drew
 replace X0 := X0.below DQ
 replace c0 := X0.cell
 replace B := below_next B DQ
 clear DQ
 replace Y := Y.below (show Below W0.heap.size W0 W0.drew from (Below.refl _ _).drew)
 have cy := Y.cell
 by_cases q5 : 0 ≤ fr ∧ fr ≤ r.size - 1
 rotate_left 1
 ·have e := HF.out (fun z => q5 z.1.1)
  subst e
  clear HT HF
  refine wp_region_held_drew (S := (fun w' => (∀ k : Nat, w'.cell? ⟨b0, k, none⟩ = [.int .i64 1, .int .i64 fr, .int .i64 to, .int .i64 view, .int .i64 at_, .bool has, .int .i64 en.1, .int .i64 en.2.1, .int .i64 en.2.2.1, .int .i64 en.2.2.2.1, .int .i64 en.2.2.2.2.1, .int .i64 en.2.2.2.2.2, .int .i64 last, .slice hm.1 hm.2.1 hm.2.2, .int .i64 commit][k]?) ∧ ((w'.cell? ⟨b, oz, none⟩ = [.int .i64 r.id, .int .i64 r.size, .int .i64 r.view, .bool r.normal, .int .i64 r.last, .slice h.L.1 h.L.2.1 h.L.2.2, .int .i64 r.commit, .slice h.O.1 h.O.2.1 h.O.2.2, .slice h.A.1 h.A.2.1 h.A.2.2, .slice h.D.1 h.D.2.1 h.D.2.2][0]? ∧ ∀ k : Nat, k < 10 → w'.cell? ⟨b, oz + k, none⟩ = [.int .i64 r.id, .int .i64 r.size, .int .i64 r.view, .bool r.normal, .int .i64 r.last, .slice h.L.1 h.L.2.1 h.L.2.2, .int .i64 r.commit, .slice h.O.1 h.O.2.1 h.O.2.2, .slice h.A.1 h.A.2.1 h.A.2.2, .slice h.D.1 h.D.2.1 h.D.2.2][k]?)))) (by kernel_rfl) ⟨c0, cy⟩ (fun hZq => ?_)
  refine tk 0 hZq ?_
  refine tk 1 hZq ?_
  refine tk 2 hZq ?_
  refine tk 3 hZq ?_
  refine tk 4 hZq ?_
  refine tk 5 hZq ?_
  refine tk 6 hZq ?_
  refine rd1 7 (fun KK hKK => ?_)
  go_simp
  go_at_call 62
  refine (l1In_is' fr 0 (r.size - 1) _ false (by simp only [decide_eq_false_eq]; exact q5)).mono ?_
  rintro e W9 ⟨rfl, rfl⟩
  clear hZq
  refine hKK _ _ ⟨c0, cy⟩ (fun hZq => ?_)
  clear hKK KK
  refine tk 8 hZq ?_
  refine tk 9 hZq ?_
  refine tks 10 hZq ?_
  refine tks 11 hZq ?_
  refine tks 12 hZq ?_
  refine tks 13 hZq ?_
  refine tks 14 hZq ?_
  refine tks 15 hZq ?_
  refine tks 16 hZq ?_
  refine tk 17 hZq ?_
  refine tk 18 hZq ?_
  refine tks 19 hZq ?_
  refine tks 20 hZq ?_
  refine tks 21 hZq ?_
  refine tks 22 hZq ?_
  refine tk 23 hZq ?_
  refine wpAnyH_done (by kernel_rfl) ?_ _
  go_wp2
  go_ret
  exact ⟨rfl, B⟩
 by_cases q6 : fr = r.id
 ·have e := HF.out (fun z => z.1.2.1 q6)
  subst e
  clear HT HF
  have q6' : (fr == r.id) = true := by simp [q6]
  clear q6
  refine wp_region_held_drew (S := (fun w' => (∀ k : Nat, w'.cell? ⟨b0, k, none⟩ = [.int .i64 1, .int .i64 fr, .int .i64 to, .int .i64 view, .int .i64 at_, .bool has, .int .i64 en.1, .int .i64 en.2.1, .int .i64 en.2.2.1, .int .i64 en.2.2.2.1, .int .i64 en.2.2.2.2.1, .int .i64 en.2.2.2.2.2, .int .i64 last, .slice hm.1 hm.2.1 hm.2.2, .int .i64 commit][k]?) ∧ ((w'.cell? ⟨b, oz, none⟩ = [.int .i64 r.id, .int .i64 r.size, .int .i64 r.view, .bool r.normal, .int .i64 r.last, .slice h.L.1 h.L.2.1 h.L.2.2, .int .i64 r.commit, .slice h.O.1 h.O.2.1 h.O.2.2, .slice h.A.1 h.A.2.1 h.A.2.2, .slice h.D.1 h.D.2.1 h.D.2.2][0]? ∧ ∀ k : Nat, k < 10 → w'.cell? ⟨b, oz + k, none⟩ = [.int .i64 r.id, .int .i64 r.size, .int .i64 r.view, .bool r.normal, .int .i64 r.last, .slice h.L.1 h.L.2.1 h.L.2.2, .int .i64 r.commit, .slice h.O.1 h.O.2.1 h.O.2.2, .slice h.A.1 h.A.2.1 h.A.2.2, .slice h.D.1 h.D.2.1 h.D.2.2][k]?)))) (by kernel_rfl) ⟨c0, cy⟩ (fun hZq => ?_)
  refine tk 0 hZq ?_
  refine tk 1 hZq ?_
  refine tk 2 hZq ?_
  refine tk 3 hZq ?_
  refine tk 4 hZq ?_
  refine tk 5 hZq ?_
  refine tk 6 hZq ?_
  refine rd1 7 (fun KK hKK => ?_)
  go_simp
  go_at_call 62
  refine (l1In_is' fr 0 (r.size - 1) _ true (by simp only [decide_eq_true_eq]; exact q5)).mono ?_
  rintro e W9 ⟨rfl, rfl⟩
  clear hZq
  refine hKK _ _ ⟨c0, cy⟩ (fun hZq => ?_)
  clear hKK KK
  refine tk 8 hZq ?_
  refine tk 9 hZq ?_
  refine tk 10 hZq ?_
  refine tk 11 hZq ?_
  refine tk 12 hZq ?_
  refine tk 13 hZq ?_
  refine tk 14 hZq ?_
  refine tk 15 hZq ?_
  refine tk 16 hZq ?_
  refine tk 17 hZq ?_
  refine tk 18 hZq ?_
  refine tks 19 hZq ?_
  refine tks 20 hZq ?_
  refine tks 21 hZq ?_
  refine tks 22 hZq ?_
  refine tk 23 hZq ?_
  refine wpAnyH_done (by kernel_rfl) ?_ _
  go_wp2
  go_ret
  exact ⟨rfl, B⟩
 have q6' : (fr == r.id) = false := by simp [q6]
 have Q6 : Hid _ := q6
 clear q6
 by_cases q7 : 0 ≤ view ∧ view ≤ 200
 rotate_left 1
 ·have e := HF.out (fun z => q7 z.1.2.2)
  subst e
  clear HT HF
  refine wp_region_held_drew (S := (fun w' => (∀ k : Nat, w'.cell? ⟨b0, k, none⟩ = [.int .i64 1, .int .i64 fr, .int .i64 to, .int .i64 view, .int .i64 at_, .bool has, .int .i64 en.1, .int .i64 en.2.1, .int .i64 en.2.2.1, .int .i64 en.2.2.2.1, .int .i64 en.2.2.2.2.1, .int .i64 en.2.2.2.2.2, .int .i64 last, .slice hm.1 hm.2.1 hm.2.2, .int .i64 commit][k]?) ∧ ((w'.cell? ⟨b, oz, none⟩ = [.int .i64 r.id, .int .i64 r.size, .int .i64 r.view, .bool r.normal, .int .i64 r.last, .slice h.L.1 h.L.2.1 h.L.2.2, .int .i64 r.commit, .slice h.O.1 h.O.2.1 h.O.2.2, .slice h.A.1 h.A.2.1 h.A.2.2, .slice h.D.1 h.D.2.1 h.D.2.2][0]? ∧ ∀ k : Nat, k < 10 → w'.cell? ⟨b, oz + k, none⟩ = [.int .i64 r.id, .int .i64 r.size, .int .i64 r.view, .bool r.normal, .int .i64 r.last, .slice h.L.1 h.L.2.1 h.L.2.2, .int .i64 r.commit, .slice h.O.1 h.O.2.1 h.O.2.2, .slice h.A.1 h.A.2.1 h.A.2.2, .slice h.D.1 h.D.2.1 h.D.2.2][k]?)))) (by kernel_rfl) ⟨c0, cy⟩ (fun hZq => ?_)
  refine tk 0 hZq ?_
  refine tk 1 hZq ?_
  refine tk 2 hZq ?_
  refine tk 3 hZq ?_
  refine tk 4 hZq ?_
  refine tk 5 hZq ?_
  refine tk 6 hZq ?_
  refine rd1 7 (fun KK hKK => ?_)
  go_simp
  go_at_call 62
  refine (l1In_is' fr 0 (r.size - 1) _ true (by simp only [decide_eq_true_eq]; exact q5)).mono ?_
  rintro e W9 ⟨rfl, rfl⟩
  clear hZq
  refine hKK _ _ ⟨c0, cy⟩ (fun hZq => ?_)
  clear hKK KK
  refine tk 8 hZq ?_
  refine tk 9 hZq ?_
  refine tk 10 hZq ?_
  refine tk 11 hZq ?_
  refine tk 12 hZq ?_
  refine tk 13 hZq ?_
  refine tk 14 hZq ?_
  refine tk 15 hZq ?_
  refine tk 16 hZq ?_
  refine tk 17 hZq ?_
  refine tk 18 hZq ?_
  refine tk 19 hZq ?_
  refine tk 20 hZq ?_
  refine rd1 21 (fun KK hKK => ?_)
  go_simp
  go_at_call 63
  refine (l9View_is view _ false (by simp only [decide_eq_false_eq]; exact q7)).mono ?_
  rintro e W9 ⟨rfl, rfl⟩
  clear hZq
  refine hKK _ _ ⟨c0, cy⟩ (fun hZq => ?_)
  clear hKK KK
  refine tk 22 hZq ?_
  refine tk 23 hZq ?_
  refine wpAnyH_done (by kernel_rfl) ?_ _
  go_wp2
  go_ret
  exact ⟨rfl, B⟩
 refine wp_region_held_drew (S := (fun w' => (∀ k : Nat, w'.cell? ⟨b0, k, none⟩ = [.int .i64 1, .int .i64 fr, .int .i64 to, .int .i64 view, .int .i64 at_, .bool has, .int .i64 en.1, .int .i64 en.2.1, .int .i64 en.2.2.1, .int .i64 en.2.2.2.1, .int .i64 en.2.2.2.2.1, .int .i64 en.2.2.2.2.2, .int .i64 last, .slice hm.1 hm.2.1 hm.2.2, .int .i64 commit][k]?) ∧ ((w'.cell? ⟨b, oz, none⟩ = [.int .i64 r.id, .int .i64 r.size, .int .i64 r.view, .bool r.normal, .int .i64 r.last, .slice h.L.1 h.L.2.1 h.L.2.2, .int .i64 r.commit, .slice h.O.1 h.O.2.1 h.O.2.2, .slice h.A.1 h.A.2.1 h.A.2.2, .slice h.D.1 h.D.2.1 h.D.2.2][0]? ∧ ∀ k : Nat, k < 10 → w'.cell? ⟨b, oz + k, none⟩ = [.int .i64 r.id, .int .i64 r.size, .int .i64 r.view, .bool r.normal, .int .i64 r.last, .slice h.L.1 h.L.2.1 h.L.2.2, .int .i64 r.commit, .slice h.O.1 h.O.2.1 h.O.2.2, .slice h.A.1 h.A.2.1 h.A.2.2, .slice h.D.1 h.D.2.1 h.D.2.2][k]?)))) (by kernel_rfl) ⟨c0, cy⟩ (fun hZq => ?_)
 refine tk 0 hZq ?_
 refine tk 1 hZq ?_
 refine tk 2 hZq ?_
 refine tk 3 hZq ?_
 refine tk 4 hZq ?_
 refine tk 5 hZq ?_
 refine tk 6 hZq ?_
 refine rd1 7 (fun KK hKK => ?_)
 go_simp
 go_at_call 62
 refine (l1In_is' fr 0 (r.size - 1) _ true (by simp only [decide_eq_true_eq]; exact q5)).mono ?_
 rintro e W9 ⟨rfl, rfl⟩
 clear hZq
 refine hKK _ _ ⟨c0, cy⟩ (fun hZq => ?_)
 clear hKK KK
 refine tk 8 hZq ?_
 refine tk 9 hZq ?_
 refine tk 10 hZq ?_
 refine tk 11 hZq ?_
 refine tk 12 hZq ?_
 refine tk 13 hZq ?_
 refine tk 14 hZq ?_
 refine tk 15 hZq ?_
 refine tk 16 hZq ?_
 refine tk 17 hZq ?_
 refine tk 18 hZq ?_
 refine tk 19 hZq ?_
 refine tk 20 hZq ?_
 refine rd1 21 (fun KK hKK => ?_)
 go_simp
 go_at_call 63
 refine (l9View_is view _ true (by simp only [decide_eq_true_eq]; exact q7)).mono ?_
 rintro e W9 ⟨rfl, rfl⟩
 clear hZq
 refine hKK _ _ ⟨c0, cy⟩ (fun hZq => ?_)
 clear hKK KK
 refine tk 22 hZq ?_
 refine tk 23 hZq ?_
 refine wpAnyH_done (by kernel_rfl) ?_ _
 have HM : Hid (numsM r ⟨1, fr, to, view, at_, has, en, last, log, commit⟩) := ⟨q5, Q6.out, q7⟩
 go_wp2_with fail
 by_cases qa : 0 ≤ at_ ∧ at_ ≤ 40
 rotate_left 1
 ·have e := HF.out (fun z => qa (z.2.1 rfl))
  subst e
  clear HT HF
  refine (l1In_is' at_ 0 40 _ false (by simp only [decide_eq_false_eq]; exact qa)).mono ?_
  rintro e W9 ⟨rfl, rfl⟩
  go_wp2
  go_ret
  exact ⟨rfl, B⟩
 refine (l1In_is' at_ 0 40 _ true (by simp only [decide_eq_true_eq]; exact qa)).mono ?_
 rintro e W9 ⟨rfl, rfl⟩
 go_wp2_with fail
 by_cases qp : 0 ≤ commit ∧ commit ≤ 40
 rotate_left 1
 ·have e := HF.out (fun z => qp (z.2.2.1 rfl))
  subst e
  clear HT HF
  refine (l1In_is' commit 0 40 _ false (by simp only [decide_eq_false_eq]; exact qp)).mono ?_
  rintro e W9 ⟨rfl, rfl⟩
  go_wp2
  go_ret
  exact ⟨rfl, B⟩
 refine (l1In_is' commit 0 40 _ true (by simp only [decide_eq_true_eq]; exact qp)).mono ?_
 rintro e W9 ⟨rfl, rfl⟩
 have e := HT.out HM.out ⟨fun _ => qa, fun _ => qp, fun q => absurd q (by simp)⟩
 subst e
 clear HT HF
 go_wp2
 go_ret
 exact ⟨rfl, B⟩
theorem l9Numbers2O_is (b oz : Nat) (r : Rep) (h : RH) (fr to view at_ : Int) (has : Bool) (en : En) (last : Int) (log : List En) (commit : Int) (hm : Hd) (hS : 1 ≤ r.size ∧ r.size ≤ 5) (w : World) (Y : Ro w b oz [.int .i64 r.id, .int .i64 r.size, .int .i64 r.view, .bool r.normal, .int .i64 r.last, .slice h.L.1 h.L.2.1 h.L.2.2, .int .i64 r.commit, .slice h.O.1 h.O.2.1 h.O.2.2, .slice h.A.1 h.A.2.1 h.A.2.2, .slice h.D.1 h.D.2.1 h.D.2.2]) (d : Bool) (hd : decide (numsM r ⟨2, fr, to, view, at_, has, en, last, log, commit⟩ ∧ numN true false false ⟨2, fr, to, view, at_, has, en, last, log, commit⟩) = d) : Calls Try.prog 96 #[.pointer (some ⟨b, oz, none⟩), .agg #[.int .i64 2, .int .i64 fr, .int .i64 to, .int .i64 view, .int .i64 at_, .bool has, .int .i64 en.1, .int .i64 en.2.1, .int .i64 en.2.2.1, .int .i64 en.2.2.2.1, .int .i64 en.2.2.2.2.1, .int .i64 en.2.2.2.2.2, .int .i64 last, .slice hm.1 hm.2.1 hm.2.2, .int .i64 commit]] w fun e w' => e = .returned (.bool d) ∧ Below w.heap.size w w' := by
 have HT : Hid (numsM r ⟨2, fr, to, view, at_, has, en, last, log, commit⟩ → numN true false false ⟨2, fr, to, view, at_, has, en, last, log, commit⟩ → d = true) := fun y z => by rw [← hd]; exact decide_eq_true ⟨y, z⟩
 have HF : Hid (¬ (numsM r ⟨2, fr, to, view, at_, has, en, last, log, commit⟩ ∧ numN true false false ⟨2, fr, to, view, at_, has, en, last, log, commit⟩) → d = false) := fun y => by rw [← hd]; exact decide_eq_false y
 clear hd
 have hw : IntKind.i64.wrap (r.size - 1) = r.size - 1 := wrapI_same _ (by omega)
 have hbw := Y.lt
 go_enter Try.func96, Try.ntmps96
 go_wp2_with (first | ((with_reducible refine box_newX 99 [.int .i64 2, .int .i64 fr, .int .i64 to, .int .i64 view, .int .i64 at_, .bool has, .int .i64 en.1, .int .i64 en.2.1, .int .i64 en.2.2.1, .int .i64 en.2.2.2.1, .int .i64 en.2.2.2.2.1, .int .i64 en.2.2.2.2.2, .int .i64 last, .slice hm.1 hm.2.1 hm.2.2, .int .i64 commit] rfl ?_); intro b0 W0 N0; have ob0 := N0.ge; have B := N0.below; obtain ⟨X0, c0⟩ := N0.c; clear N0) | fail)
 replace Y := Y.below B
 have DQ : Below W0.heap.size W0 W0.drew := (Below.refl _ _).drew
 replace X0 := X0.below DQ
 replace c0 := X0.cell
 replace B := below_next B DQ
 clear DQ
 replace Y := Y.below (show Below W0.heap.size W0 W0.drew from (Below.refl _ _).drew)
 have cy := Y.cell
 by_cases q5 : 0 ≤ fr ∧ fr ≤ r.size - 1
 rotate_left 1
 ·have e := HF.out (fun z => q5 z.1.1)
  subst e
  clear HT HF
  refine wp_region_held_drew (S := (fun w' => (∀ k : Nat, w'.cell? ⟨b0, k, none⟩ = [.int .i64 2, .int .i64 fr, .int .i64 to, .int .i64 view, .int .i64 at_, .bool has, .int .i64 en.1, .int .i64 en.2.1, .int .i64 en.2.2.1, .int .i64 en.2.2.2.1, .int .i64 en.2.2.2.2.1, .int .i64 en.2.2.2.2.2, .int .i64 last, .slice hm.1 hm.2.1 hm.2.2, .int .i64 commit][k]?) ∧ ((w'.cell? ⟨b, oz, none⟩ = [.int .i64 r.id, .int .i64 r.size, .int .i64 r.view, .bool r.normal, .int .i64 r.last, .slice h.L.1 h.L.2.1 h.L.2.2, .int .i64 r.commit, .slice h.O.1 h.O.2.1 h.O.2.2, .slice h.A.1 h.A.2.1 h.A.2.2, .slice h.D.1 h.D.2.1 h.D.2.2][0]? ∧ ∀ k : Nat, k < 10 → w'.cell? ⟨b, oz + k, none⟩ = [.int .i64 r.id, .int .i64 r.size, .int .i64 r.view, .bool r.normal, .int .i64 r.last, .slice h.L.1 h.L.2.1 h.L.2.2, .int .i64 r.commit, .slice h.O.1 h.O.2.1 h.O.2.2, .slice h.A.1 h.A.2.1 h.A.2.2, .slice h.D.1 h.D.2.1 h.D.2.2][k]?)))) (by kernel_rfl) ⟨c0, cy⟩ (fun hZq => ?_)
  refine tk 0 hZq ?_
  refine tk 1 hZq ?_
  refine tk 2 hZq ?_
  refine tk 3 hZq ?_
  refine tk 4 hZq ?_
  refine tk 5 hZq ?_
  refine tk 6 hZq ?_
  refine rd1 7 (fun KK hKK => ?_)
  go_simp
  go_at_call 62
  refine (l1In_is' fr 0 (r.size - 1) _ false (by simp only [decide_eq_false_eq]; exact q5)).mono ?_
  rintro e W9 ⟨rfl, rfl⟩
  clear hZq
  refine hKK _ _ ⟨c0, cy⟩ (fun hZq => ?_)
  clear hKK KK
  refine tk 8 hZq ?_
  refine tk 9 hZq ?_
  refine tks 10 hZq ?_
  refine tks 11 hZq ?_
  refine tks 12 hZq ?_
  refine tks 13 hZq ?_
  refine tks 14 hZq ?_
  refine tks 15 hZq ?_
  refine tks 16 hZq ?_
  refine tk 17 hZq ?_
  refine tk 18 hZq ?_
  refine tks 19 hZq ?_
  refine tks 20 hZq ?_
  refine tks 21 hZq ?_
  refine tks 22 hZq ?_
  refine tk 23 hZq ?_
  refine wpAnyH_done (by kernel_rfl) ?_ _
  go_wp2
  go_ret
  exact ⟨rfl, B⟩
 by_cases q6 : fr = r.id
 ·have e := HF.out (fun z => z.1.2.1 q6)
  subst e
  clear HT HF
  have q6' : (fr == r.id) = true := by simp [q6]
  clear q6
  refine wp_region_held_drew (S := (fun w' => (∀ k : Nat, w'.cell? ⟨b0, k, none⟩ = [.int .i64 2, .int .i64 fr, .int .i64 to, .int .i64 view, .int .i64 at_, .bool has, .int .i64 en.1, .int .i64 en.2.1, .int .i64 en.2.2.1, .int .i64 en.2.2.2.1, .int .i64 en.2.2.2.2.1, .int .i64 en.2.2.2.2.2, .int .i64 last, .slice hm.1 hm.2.1 hm.2.2, .int .i64 commit][k]?) ∧ ((w'.cell? ⟨b, oz, none⟩ = [.int .i64 r.id, .int .i64 r.size, .int .i64 r.view, .bool r.normal, .int .i64 r.last, .slice h.L.1 h.L.2.1 h.L.2.2, .int .i64 r.commit, .slice h.O.1 h.O.2.1 h.O.2.2, .slice h.A.1 h.A.2.1 h.A.2.2, .slice h.D.1 h.D.2.1 h.D.2.2][0]? ∧ ∀ k : Nat, k < 10 → w'.cell? ⟨b, oz + k, none⟩ = [.int .i64 r.id, .int .i64 r.size, .int .i64 r.view, .bool r.normal, .int .i64 r.last, .slice h.L.1 h.L.2.1 h.L.2.2, .int .i64 r.commit, .slice h.O.1 h.O.2.1 h.O.2.2, .slice h.A.1 h.A.2.1 h.A.2.2, .slice h.D.1 h.D.2.1 h.D.2.2][k]?)))) (by kernel_rfl) ⟨c0, cy⟩ (fun hZq => ?_)
  refine tk 0 hZq ?_
  refine tk 1 hZq ?_
  refine tk 2 hZq ?_
  refine tk 3 hZq ?_
  refine tk 4 hZq ?_
  refine tk 5 hZq ?_
  refine tk 6 hZq ?_
  refine rd1 7 (fun KK hKK => ?_)
  go_simp
  go_at_call 62
  refine (l1In_is' fr 0 (r.size - 1) _ true (by simp only [decide_eq_true_eq]; exact q5)).mono ?_
  rintro e W9 ⟨rfl, rfl⟩
  clear hZq
  refine hKK _ _ ⟨c0, cy⟩ (fun hZq => ?_)
  clear hKK KK
  refine tk 8 hZq ?_
  refine tk 9 hZq ?_
  refine tk 10 hZq ?_
  refine tk 11 hZq ?_
  refine tk 12 hZq ?_
  refine tk 13 hZq ?_
  refine tk 14 hZq ?_
  refine tk 15 hZq ?_
  refine tk 16 hZq ?_
  refine tk 17 hZq ?_
  refine tk 18 hZq ?_
  refine tks 19 hZq ?_
  refine tks 20 hZq ?_
  refine tks 21 hZq ?_
  refine tks 22 hZq ?_
  refine tk 23 hZq ?_
  refine wpAnyH_done (by kernel_rfl) ?_ _
  go_wp2
  go_ret
  exact ⟨rfl, B⟩
 have q6' : (fr == r.id) = false := by simp [q6]
 have Q6 : Hid _ := q6
 clear q6
 by_cases q7 : 0 ≤ view ∧ view ≤ 200
 rotate_left 1
 ·have e := HF.out (fun z => q7 z.1.2.2)
  subst e
  clear HT HF
  refine wp_region_held_drew (S := (fun w' => (∀ k : Nat, w'.cell? ⟨b0, k, none⟩ = [.int .i64 2, .int .i64 fr, .int .i64 to, .int .i64 view, .int .i64 at_, .bool has, .int .i64 en.1, .int .i64 en.2.1, .int .i64 en.2.2.1, .int .i64 en.2.2.2.1, .int .i64 en.2.2.2.2.1, .int .i64 en.2.2.2.2.2, .int .i64 last, .slice hm.1 hm.2.1 hm.2.2, .int .i64 commit][k]?) ∧ ((w'.cell? ⟨b, oz, none⟩ = [.int .i64 r.id, .int .i64 r.size, .int .i64 r.view, .bool r.normal, .int .i64 r.last, .slice h.L.1 h.L.2.1 h.L.2.2, .int .i64 r.commit, .slice h.O.1 h.O.2.1 h.O.2.2, .slice h.A.1 h.A.2.1 h.A.2.2, .slice h.D.1 h.D.2.1 h.D.2.2][0]? ∧ ∀ k : Nat, k < 10 → w'.cell? ⟨b, oz + k, none⟩ = [.int .i64 r.id, .int .i64 r.size, .int .i64 r.view, .bool r.normal, .int .i64 r.last, .slice h.L.1 h.L.2.1 h.L.2.2, .int .i64 r.commit, .slice h.O.1 h.O.2.1 h.O.2.2, .slice h.A.1 h.A.2.1 h.A.2.2, .slice h.D.1 h.D.2.1 h.D.2.2][k]?)))) (by kernel_rfl) ⟨c0, cy⟩ (fun hZq => ?_)
  refine tk 0 hZq ?_
  refine tk 1 hZq ?_
  refine tk 2 hZq ?_
  refine tk 3 hZq ?_
  refine tk 4 hZq ?_
  refine tk 5 hZq ?_
  refine tk 6 hZq ?_
  refine rd1 7 (fun KK hKK => ?_)
  go_simp
  go_at_call 62
  refine (l1In_is' fr 0 (r.size - 1) _ true (by simp only [decide_eq_true_eq]; exact q5)).mono ?_
  rintro e W9 ⟨rfl, rfl⟩
  clear hZq
  refine hKK _ _ ⟨c0, cy⟩ (fun hZq => ?_)
  clear hKK KK
  refine tk 8 hZq ?_
  refine tk 9 hZq ?_
  refine tk 10 hZq ?_
  refine tk 11 hZq ?_
  refine tk 12 hZq ?_
  refine tk 13 hZq ?_
  refine tk 14 hZq ?_
  refine tk 15 hZq ?_
  refine tk 16 hZq ?_
  refine tk 17 hZq ?_
  refine tk 18 hZq ?_
  refine tk 19 hZq ?_
  refine tk 20 hZq ?_
  refine rd1 21 (fun KK hKK => ?_)
  go_simp
  go_at_call 63
  refine (l9View_is view _ false (by simp only [decide_eq_false_eq]; exact q7)).mono ?_
  rintro e W9 ⟨rfl, rfl⟩
  clear hZq
  refine hKK _ _ ⟨c0, cy⟩ (fun hZq => ?_)
  clear hKK KK
  refine tk 22 hZq ?_
  refine tk 23 hZq ?_
  refine wpAnyH_done (by kernel_rfl) ?_ _
  go_wp2
  go_ret
  exact ⟨rfl, B⟩
 refine wp_region_held_drew (S := (fun w' => (∀ k : Nat, w'.cell? ⟨b0, k, none⟩ = [.int .i64 2, .int .i64 fr, .int .i64 to, .int .i64 view, .int .i64 at_, .bool has, .int .i64 en.1, .int .i64 en.2.1, .int .i64 en.2.2.1, .int .i64 en.2.2.2.1, .int .i64 en.2.2.2.2.1, .int .i64 en.2.2.2.2.2, .int .i64 last, .slice hm.1 hm.2.1 hm.2.2, .int .i64 commit][k]?) ∧ ((w'.cell? ⟨b, oz, none⟩ = [.int .i64 r.id, .int .i64 r.size, .int .i64 r.view, .bool r.normal, .int .i64 r.last, .slice h.L.1 h.L.2.1 h.L.2.2, .int .i64 r.commit, .slice h.O.1 h.O.2.1 h.O.2.2, .slice h.A.1 h.A.2.1 h.A.2.2, .slice h.D.1 h.D.2.1 h.D.2.2][0]? ∧ ∀ k : Nat, k < 10 → w'.cell? ⟨b, oz + k, none⟩ = [.int .i64 r.id, .int .i64 r.size, .int .i64 r.view, .bool r.normal, .int .i64 r.last, .slice h.L.1 h.L.2.1 h.L.2.2, .int .i64 r.commit, .slice h.O.1 h.O.2.1 h.O.2.2, .slice h.A.1 h.A.2.1 h.A.2.2, .slice h.D.1 h.D.2.1 h.D.2.2][k]?)))) (by kernel_rfl) ⟨c0, cy⟩ (fun hZq => ?_)
 refine tk 0 hZq ?_
 refine tk 1 hZq ?_
 refine tk 2 hZq ?_
 refine tk 3 hZq ?_
 refine tk 4 hZq ?_
 refine tk 5 hZq ?_
 refine tk 6 hZq ?_
 refine rd1 7 (fun KK hKK => ?_)
 go_simp
 go_at_call 62
 refine (l1In_is' fr 0 (r.size - 1) _ true (by simp only [decide_eq_true_eq]; exact q5)).mono ?_
 rintro e W9 ⟨rfl, rfl⟩
 clear hZq
 refine hKK _ _ ⟨c0, cy⟩ (fun hZq => ?_)
 clear hKK KK
 refine tk 8 hZq ?_
 refine tk 9 hZq ?_
 refine tk 10 hZq ?_
 refine tk 11 hZq ?_
 refine tk 12 hZq ?_
 refine tk 13 hZq ?_
 refine tk 14 hZq ?_
 refine tk 15 hZq ?_
 refine tk 16 hZq ?_
 refine tk 17 hZq ?_
 refine tk 18 hZq ?_
 refine tk 19 hZq ?_
 refine tk 20 hZq ?_
 refine rd1 21 (fun KK hKK => ?_)
 go_simp
 go_at_call 63
 refine (l9View_is view _ true (by simp only [decide_eq_true_eq]; exact q7)).mono ?_
 rintro e W9 ⟨rfl, rfl⟩
 clear hZq
 refine hKK _ _ ⟨c0, cy⟩ (fun hZq => ?_)
 clear hKK KK
 refine tk 22 hZq ?_
 refine tk 23 hZq ?_
 refine wpAnyH_done (by kernel_rfl) ?_ _
 have HM : Hid (numsM r ⟨2, fr, to, view, at_, has, en, last, log, commit⟩) := ⟨q5, Q6.out, q7⟩
 go_wp2_with fail
 by_cases qa : 0 ≤ at_ ∧ at_ ≤ 40
 rotate_left 1
 ·have e := HF.out (fun z => qa (z.2.1 rfl))
  subst e
  clear HT HF
  refine (l1In_is' at_ 0 40 _ false (by simp only [decide_eq_false_eq]; exact qa)).mono ?_
  rintro e W9 ⟨rfl, rfl⟩
  go_wp2
  go_ret
  exact ⟨rfl, B⟩
 refine (l1In_is' at_ 0 40 _ true (by simp only [decide_eq_true_eq]; exact qa)).mono ?_
 rintro e W9 ⟨rfl, rfl⟩
 have e := HT.out HM.out ⟨fun _ => qa, fun q => absurd q (by simp), fun q => absurd q (by simp)⟩
 subst e
 clear HT HF
 go_wp2
 go_ret
 exact ⟨rfl, B⟩
theorem l9Numbers3O_is (b oz : Nat) (r : Rep) (h : RH) (fr to view at_ : Int) (has : Bool) (en : En) (last : Int) (log : List En) (commit : Int) (hm : Hd) (hS : 1 ≤ r.size ∧ r.size ≤ 5) (w : World) (Y : Ro w b oz [.int .i64 r.id, .int .i64 r.size, .int .i64 r.view, .bool r.normal, .int .i64 r.last, .slice h.L.1 h.L.2.1 h.L.2.2, .int .i64 r.commit, .slice h.O.1 h.O.2.1 h.O.2.2, .slice h.A.1 h.A.2.1 h.A.2.2, .slice h.D.1 h.D.2.1 h.D.2.2]) (d : Bool) (hd : decide (numsM r ⟨3, fr, to, view, at_, has, en, last, log, commit⟩ ∧ numN false false false ⟨3, fr, to, view, at_, has, en, last, log, commit⟩) = d) : Calls Try.prog 96 #[.pointer (some ⟨b, oz, none⟩), .agg #[.int .i64 3, .int .i64 fr, .int .i64 to, .int .i64 view, .int .i64 at_, .bool has, .int .i64 en.1, .int .i64 en.2.1, .int .i64 en.2.2.1, .int .i64 en.2.2.2.1, .int .i64 en.2.2.2.2.1, .int .i64 en.2.2.2.2.2, .int .i64 last, .slice hm.1 hm.2.1 hm.2.2, .int .i64 commit]] w fun e w' => e = .returned (.bool d) ∧ Below w.heap.size w w' := by
 have HT : Hid (numsM r ⟨3, fr, to, view, at_, has, en, last, log, commit⟩ → numN false false false ⟨3, fr, to, view, at_, has, en, last, log, commit⟩ → d = true) := fun y z => by rw [← hd]; exact decide_eq_true ⟨y, z⟩
 have HF : Hid (¬ (numsM r ⟨3, fr, to, view, at_, has, en, last, log, commit⟩ ∧ numN false false false ⟨3, fr, to, view, at_, has, en, last, log, commit⟩) → d = false) := fun y => by rw [← hd]; exact decide_eq_false y
 clear hd
 have hw : IntKind.i64.wrap (r.size - 1) = r.size - 1 := wrapI_same _ (by omega)
 have hbw := Y.lt
 go_enter Try.func96, Try.ntmps96
 go_wp2_with (first | ((with_reducible refine box_newX 99 [.int .i64 3, .int .i64 fr, .int .i64 to, .int .i64 view, .int .i64 at_, .bool has, .int .i64 en.1, .int .i64 en.2.1, .int .i64 en.2.2.1, .int .i64 en.2.2.2.1, .int .i64 en.2.2.2.2.1, .int .i64 en.2.2.2.2.2, .int .i64 last, .slice hm.1 hm.2.1 hm.2.2, .int .i64 commit] rfl ?_); intro b0 W0 N0; have ob0 := N0.ge; have B := N0.below; obtain ⟨X0, c0⟩ := N0.c; clear N0) | fail)
 replace Y := Y.below B
 have DQ : Below W0.heap.size W0 W0.drew := (Below.refl _ _).drew
 replace X0 := X0.below DQ
 replace c0 := X0.cell
 replace B := below_next B DQ
 clear DQ
 replace Y := Y.below (show Below W0.heap.size W0 W0.drew from (Below.refl _ _).drew)
 have cy := Y.cell
 by_cases q5 : 0 ≤ fr ∧ fr ≤ r.size - 1
 rotate_left 1
 ·have e := HF.out (fun z => q5 z.1.1)
  subst e
  clear HT HF
  refine wp_region_held_drew (S := (fun w' => (∀ k : Nat, w'.cell? ⟨b0, k, none⟩ = [.int .i64 3, .int .i64 fr, .int .i64 to, .int .i64 view, .int .i64 at_, .bool has, .int .i64 en.1, .int .i64 en.2.1, .int .i64 en.2.2.1, .int .i64 en.2.2.2.1, .int .i64 en.2.2.2.2.1, .int .i64 en.2.2.2.2.2, .int .i64 last, .slice hm.1 hm.2.1 hm.2.2, .int .i64 commit][k]?) ∧ ((w'.cell? ⟨b, oz, none⟩ = [.int .i64 r.id, .int .i64 r.size, .int .i64 r.view, .bool r.normal, .int .i64 r.last, .slice h.L.1 h.L.2.1 h.L.2.2, .int .i64 r.commit, .slice h.O.1 h.O.2.1 h.O.2.2, .slice h.A.1 h.A.2.1 h.A.2.2, .slice h.D.1 h.D.2.1 h.D.2.2][0]? ∧ ∀ k : Nat, k < 10 → w'.cell? ⟨b, oz + k, none⟩ = [.int .i64 r.id, .int .i64 r.size, .int .i64 r.view, .bool r.normal, .int .i64 r.last, .slice h.L.1 h.L.2.1 h.L.2.2, .int .i64 r.commit, .slice h.O.1 h.O.2.1 h.O.2.2, .slice h.A.1 h.A.2.1 h.A.2.2, .slice h.D.1 h.D.2.1 h.D.2.2][k]?)))) (by kernel_rfl) ⟨c0, cy⟩ (fun hZq => ?_)
  refine tk 0 hZq ?_
  refine tk 1 hZq ?_
  refine tk 2 hZq ?_
  refine tk 3 hZq ?_
  refine tk 4 hZq ?_
  refine tk 5 hZq ?_
  refine tk 6 hZq ?_
  refine rd1 7 (fun KK hKK => ?_)
  go_simp
  go_at_call 62
  refine (l1In_is' fr 0 (r.size - 1) _ false (by simp only [decide_eq_false_eq]; exact q5)).mono ?_
  rintro e W9 ⟨rfl, rfl⟩
  clear hZq
  refine hKK _ _ ⟨c0, cy⟩ (fun hZq => ?_)
  clear hKK KK
  refine tk 8 hZq ?_
  refine tk 9 hZq ?_
  refine tks 10 hZq ?_
  refine tks 11 hZq ?_
  refine tks 12 hZq ?_
  refine tks 13 hZq ?_
  refine tks 14 hZq ?_
  refine tks 15 hZq ?_
  refine tks 16 hZq ?_
  refine tk 17 hZq ?_
  refine tk 18 hZq ?_
  refine tks 19 hZq ?_
  refine tks 20 hZq ?_
  refine tks 21 hZq ?_
  refine tks 22 hZq ?_
  refine tk 23 hZq ?_
  refine wpAnyH_done (by kernel_rfl) ?_ _
  go_wp2
  go_ret
  exact ⟨rfl, B⟩
 by_cases q6 : fr = r.id
 ·have e := HF.out (fun z => z.1.2.1 q6)
  subst e
  clear HT HF
  have q6' : (fr == r.id) = true := by simp [q6]
  clear q6
  refine wp_region_held_drew (S := (fun w' => (∀ k : Nat, w'.cell? ⟨b0, k, none⟩ = [.int .i64 3, .int .i64 fr, .int .i64 to, .int .i64 view, .int .i64 at_, .bool has, .int .i64 en.1, .int .i64 en.2.1, .int .i64 en.2.2.1, .int .i64 en.2.2.2.1, .int .i64 en.2.2.2.2.1, .int .i64 en.2.2.2.2.2, .int .i64 last, .slice hm.1 hm.2.1 hm.2.2, .int .i64 commit][k]?) ∧ ((w'.cell? ⟨b, oz, none⟩ = [.int .i64 r.id, .int .i64 r.size, .int .i64 r.view, .bool r.normal, .int .i64 r.last, .slice h.L.1 h.L.2.1 h.L.2.2, .int .i64 r.commit, .slice h.O.1 h.O.2.1 h.O.2.2, .slice h.A.1 h.A.2.1 h.A.2.2, .slice h.D.1 h.D.2.1 h.D.2.2][0]? ∧ ∀ k : Nat, k < 10 → w'.cell? ⟨b, oz + k, none⟩ = [.int .i64 r.id, .int .i64 r.size, .int .i64 r.view, .bool r.normal, .int .i64 r.last, .slice h.L.1 h.L.2.1 h.L.2.2, .int .i64 r.commit, .slice h.O.1 h.O.2.1 h.O.2.2, .slice h.A.1 h.A.2.1 h.A.2.2, .slice h.D.1 h.D.2.1 h.D.2.2][k]?)))) (by kernel_rfl) ⟨c0, cy⟩ (fun hZq => ?_)
  refine tk 0 hZq ?_
  refine tk 1 hZq ?_
  refine tk 2 hZq ?_
  refine tk 3 hZq ?_
  refine tk 4 hZq ?_
  refine tk 5 hZq ?_
  refine tk 6 hZq ?_
  refine rd1 7 (fun KK hKK => ?_)
  go_simp
  go_at_call 62
  refine (l1In_is' fr 0 (r.size - 1) _ true (by simp only [decide_eq_true_eq]; exact q5)).mono ?_
  rintro e W9 ⟨rfl, rfl⟩
  clear hZq
  refine hKK _ _ ⟨c0, cy⟩ (fun hZq => ?_)
  clear hKK KK
  refine tk 8 hZq ?_
  refine tk 9 hZq ?_
  refine tk 10 hZq ?_
  refine tk 11 hZq ?_
  refine tk 12 hZq ?_
  refine tk 13 hZq ?_
  refine tk 14 hZq ?_
  refine tk 15 hZq ?_
  refine tk 16 hZq ?_
  refine tk 17 hZq ?_
  refine tk 18 hZq ?_
  refine tks 19 hZq ?_
  refine tks 20 hZq ?_
  refine tks 21 hZq ?_
  refine tks 22 hZq ?_
  refine tk 23 hZq ?_
  refine wpAnyH_done (by kernel_rfl) ?_ _
  go_wp2
  go_ret
  exact ⟨rfl, B⟩
 have q6' : (fr == r.id) = false := by simp [q6]
 have Q6 : Hid _ := q6
 clear q6
 by_cases q7 : 0 ≤ view ∧ view ≤ 200
 rotate_left 1
 ·have e := HF.out (fun z => q7 z.1.2.2)
  subst e
  clear HT HF
  refine wp_region_held_drew (S := (fun w' => (∀ k : Nat, w'.cell? ⟨b0, k, none⟩ = [.int .i64 3, .int .i64 fr, .int .i64 to, .int .i64 view, .int .i64 at_, .bool has, .int .i64 en.1, .int .i64 en.2.1, .int .i64 en.2.2.1, .int .i64 en.2.2.2.1, .int .i64 en.2.2.2.2.1, .int .i64 en.2.2.2.2.2, .int .i64 last, .slice hm.1 hm.2.1 hm.2.2, .int .i64 commit][k]?) ∧ ((w'.cell? ⟨b, oz, none⟩ = [.int .i64 r.id, .int .i64 r.size, .int .i64 r.view, .bool r.normal, .int .i64 r.last, .slice h.L.1 h.L.2.1 h.L.2.2, .int .i64 r.commit, .slice h.O.1 h.O.2.1 h.O.2.2, .slice h.A.1 h.A.2.1 h.A.2.2, .slice h.D.1 h.D.2.1 h.D.2.2][0]? ∧ ∀ k : Nat, k < 10 → w'.cell? ⟨b, oz + k, none⟩ = [.int .i64 r.id, .int .i64 r.size, .int .i64 r.view, .bool r.normal, .int .i64 r.last, .slice h.L.1 h.L.2.1 h.L.2.2, .int .i64 r.commit, .slice h.O.1 h.O.2.1 h.O.2.2, .slice h.A.1 h.A.2.1 h.A.2.2, .slice h.D.1 h.D.2.1 h.D.2.2][k]?)))) (by kernel_rfl) ⟨c0, cy⟩ (fun hZq => ?_)
  refine tk 0 hZq ?_
  refine tk 1 hZq ?_
  refine tk 2 hZq ?_
  refine tk 3 hZq ?_
  refine tk 4 hZq ?_
  refine tk 5 hZq ?_
  refine tk 6 hZq ?_
  refine rd1 7 (fun KK hKK => ?_)
  go_simp
  go_at_call 62
  refine (l1In_is' fr 0 (r.size - 1) _ true (by simp only [decide_eq_true_eq]; exact q5)).mono ?_
  rintro e W9 ⟨rfl, rfl⟩
  clear hZq
  refine hKK _ _ ⟨c0, cy⟩ (fun hZq => ?_)
  clear hKK KK
  refine tk 8 hZq ?_
  refine tk 9 hZq ?_
  refine tk 10 hZq ?_
  refine tk 11 hZq ?_
  refine tk 12 hZq ?_
  refine tk 13 hZq ?_
  refine tk 14 hZq ?_
  refine tk 15 hZq ?_
  refine tk 16 hZq ?_
  refine tk 17 hZq ?_
  refine tk 18 hZq ?_
  refine tk 19 hZq ?_
  refine tk 20 hZq ?_
  refine rd1 21 (fun KK hKK => ?_)
  go_simp
  go_at_call 63
  refine (l9View_is view _ false (by simp only [decide_eq_false_eq]; exact q7)).mono ?_
  rintro e W9 ⟨rfl, rfl⟩
  clear hZq
  refine hKK _ _ ⟨c0, cy⟩ (fun hZq => ?_)
  clear hKK KK
  refine tk 22 hZq ?_
  refine tk 23 hZq ?_
  refine wpAnyH_done (by kernel_rfl) ?_ _
  go_wp2
  go_ret
  exact ⟨rfl, B⟩
 refine wp_region_held_drew (S := (fun w' => (∀ k : Nat, w'.cell? ⟨b0, k, none⟩ = [.int .i64 3, .int .i64 fr, .int .i64 to, .int .i64 view, .int .i64 at_, .bool has, .int .i64 en.1, .int .i64 en.2.1, .int .i64 en.2.2.1, .int .i64 en.2.2.2.1, .int .i64 en.2.2.2.2.1, .int .i64 en.2.2.2.2.2, .int .i64 last, .slice hm.1 hm.2.1 hm.2.2, .int .i64 commit][k]?) ∧ ((w'.cell? ⟨b, oz, none⟩ = [.int .i64 r.id, .int .i64 r.size, .int .i64 r.view, .bool r.normal, .int .i64 r.last, .slice h.L.1 h.L.2.1 h.L.2.2, .int .i64 r.commit, .slice h.O.1 h.O.2.1 h.O.2.2, .slice h.A.1 h.A.2.1 h.A.2.2, .slice h.D.1 h.D.2.1 h.D.2.2][0]? ∧ ∀ k : Nat, k < 10 → w'.cell? ⟨b, oz + k, none⟩ = [.int .i64 r.id, .int .i64 r.size, .int .i64 r.view, .bool r.normal, .int .i64 r.last, .slice h.L.1 h.L.2.1 h.L.2.2, .int .i64 r.commit, .slice h.O.1 h.O.2.1 h.O.2.2, .slice h.A.1 h.A.2.1 h.A.2.2, .slice h.D.1 h.D.2.1 h.D.2.2][k]?)))) (by kernel_rfl) ⟨c0, cy⟩ (fun hZq => ?_)
 refine tk 0 hZq ?_
 refine tk 1 hZq ?_
 refine tk 2 hZq ?_
 refine tk 3 hZq ?_
 refine tk 4 hZq ?_
 refine tk 5 hZq ?_
 refine tk 6 hZq ?_
 refine rd1 7 (fun KK hKK => ?_)
 go_simp
 go_at_call 62
 refine (l1In_is' fr 0 (r.size - 1) _ true (by simp only [decide_eq_true_eq]; exact q5)).mono ?_
 rintro e W9 ⟨rfl, rfl⟩
 clear hZq
 refine hKK _ _ ⟨c0, cy⟩ (fun hZq => ?_)
 clear hKK KK
 refine tk 8 hZq ?_
 refine tk 9 hZq ?_
 refine tk 10 hZq ?_
 refine tk 11 hZq ?_
 refine tk 12 hZq ?_
 refine tk 13 hZq ?_
 refine tk 14 hZq ?_
 refine tk 15 hZq ?_
 refine tk 16 hZq ?_
 refine tk 17 hZq ?_
 refine tk 18 hZq ?_
 refine tk 19 hZq ?_
 refine tk 20 hZq ?_
 refine rd1 21 (fun KK hKK => ?_)
 go_simp
 go_at_call 63
 refine (l9View_is view _ true (by simp only [decide_eq_true_eq]; exact q7)).mono ?_
 rintro e W9 ⟨rfl, rfl⟩
 clear hZq
 refine hKK _ _ ⟨c0, cy⟩ (fun hZq => ?_)
 clear hKK KK
 refine tk 22 hZq ?_
 refine tk 23 hZq ?_
 refine wpAnyH_done (by kernel_rfl) ?_ _
 have HM : Hid (numsM r ⟨3, fr, to, view, at_, has, en, last, log, commit⟩) := ⟨q5, Q6.out, q7⟩
 have e := HT.out HM.out ⟨fun q => absurd q (by simp), fun q => absurd q (by simp), fun q => absurd q (by simp)⟩
 subst e
 clear HT HF
 go_wp2
 go_ret
 exact ⟨rfl, B⟩
theorem l9Numbers4O_is (b oz : Nat) (r : Rep) (h : RH) (fr to view at_ : Int) (has : Bool) (en : En) (last : Int) (log : List En) (commit : Int) (hm : Hd) (hS : 1 ≤ r.size ∧ r.size ≤ 5) (w : World) (Y : Ro w b oz [.int .i64 r.id, .int .i64 r.size, .int .i64 r.view, .bool r.normal, .int .i64 r.last, .slice h.L.1 h.L.2.1 h.L.2.2, .int .i64 r.commit, .slice h.O.1 h.O.2.1 h.O.2.2, .slice h.A.1 h.A.2.1 h.A.2.2, .slice h.D.1 h.D.2.1 h.D.2.2]) (d : Bool) (hd : decide (numsM r ⟨4, fr, to, view, at_, has, en, last, log, commit⟩ ∧ numN false false true ⟨4, fr, to, view, at_, has, en, last, log, commit⟩) = d) : Calls Try.prog 96 #[.pointer (some ⟨b, oz, none⟩), .agg #[.int .i64 4, .int .i64 fr, .int .i64 to, .int .i64 view, .int .i64 at_, .bool has, .int .i64 en.1, .int .i64 en.2.1, .int .i64 en.2.2.1, .int .i64 en.2.2.2.1, .int .i64 en.2.2.2.2.1, .int .i64 en.2.2.2.2.2, .int .i64 last, .slice hm.1 hm.2.1 hm.2.2, .int .i64 commit]] w fun e w' => e = .returned (.bool d) ∧ Below w.heap.size w w' := by
 have HT : Hid (numsM r ⟨4, fr, to, view, at_, has, en, last, log, commit⟩ → numN false false true ⟨4, fr, to, view, at_, has, en, last, log, commit⟩ → d = true) := fun y z => by rw [← hd]; exact decide_eq_true ⟨y, z⟩
 have HF : Hid (¬ (numsM r ⟨4, fr, to, view, at_, has, en, last, log, commit⟩ ∧ numN false false true ⟨4, fr, to, view, at_, has, en, last, log, commit⟩) → d = false) := fun y => by rw [← hd]; exact decide_eq_false y
 clear hd
 have hw : IntKind.i64.wrap (r.size - 1) = r.size - 1 := wrapI_same _ (by omega)
 have hbw := Y.lt
 go_enter Try.func96, Try.ntmps96
 go_wp2_with (first | ((with_reducible refine box_newX 99 [.int .i64 4, .int .i64 fr, .int .i64 to, .int .i64 view, .int .i64 at_, .bool has, .int .i64 en.1, .int .i64 en.2.1, .int .i64 en.2.2.1, .int .i64 en.2.2.2.1, .int .i64 en.2.2.2.2.1, .int .i64 en.2.2.2.2.2, .int .i64 last, .slice hm.1 hm.2.1 hm.2.2, .int .i64 commit] rfl ?_); intro b0 W0 N0; have ob0 := N0.ge; have B := N0.below; obtain ⟨X0, c0⟩ := N0.c; clear N0) | fail)
 replace Y := Y.below B
 have DQ : Below W0.heap.size W0 W0.drew := (Below.refl _ _).drew
 replace X0 := X0.below DQ
 replace c0 := X0.cell
 replace B := below_next B DQ
 clear DQ
 replace Y := Y.below (show Below W0.heap.size W0 W0.drew from (Below.refl _ _).drew)
 have cy := Y.cell
 by_cases q5 : 0 ≤ fr ∧ fr ≤ r.size - 1
 rotate_left 1
 ·have e := HF.out (fun z => q5 z.1.1)
  subst e
  clear HT HF
  refine wp_region_held_drew (S := (fun w' => (∀ k : Nat, w'.cell? ⟨b0, k, none⟩ = [.int .i64 4, .int .i64 fr, .int .i64 to, .int .i64 view, .int .i64 at_, .bool has, .int .i64 en.1, .int .i64 en.2.1, .int .i64 en.2.2.1, .int .i64 en.2.2.2.1, .int .i64 en.2.2.2.2.1, .int .i64 en.2.2.2.2.2, .int .i64 last, .slice hm.1 hm.2.1 hm.2.2, .int .i64 commit][k]?) ∧ ((w'.cell? ⟨b, oz, none⟩ = [.int .i64 r.id, .int .i64 r.size, .int .i64 r.view, .bool r.normal, .int .i64 r.last, .slice h.L.1 h.L.2.1 h.L.2.2, .int .i64 r.commit, .slice h.O.1 h.O.2.1 h.O.2.2, .slice h.A.1 h.A.2.1 h.A.2.2, .slice h.D.1 h.D.2.1 h.D.2.2][0]? ∧ ∀ k : Nat, k < 10 → w'.cell? ⟨b, oz + k, none⟩ = [.int .i64 r.id, .int .i64 r.size, .int .i64 r.view, .bool r.normal, .int .i64 r.last, .slice h.L.1 h.L.2.1 h.L.2.2, .int .i64 r.commit, .slice h.O.1 h.O.2.1 h.O.2.2, .slice h.A.1 h.A.2.1 h.A.2.2, .slice h.D.1 h.D.2.1 h.D.2.2][k]?)))) (by kernel_rfl) ⟨c0, cy⟩ (fun hZq => ?_)
  refine tk 0 hZq ?_
  refine tk 1 hZq ?_
  refine tk 2 hZq ?_
  refine tk 3 hZq ?_
  refine tk 4 hZq ?_
  refine tk 5 hZq ?_
  refine tk 6 hZq ?_
  refine rd1 7 (fun KK hKK => ?_)
  go_simp
  go_at_call 62
  refine (l1In_is' fr 0 (r.size - 1) _ false (by simp only [decide_eq_false_eq]; exact q5)).mono ?_
  rintro e W9 ⟨rfl, rfl⟩
  clear hZq
  refine hKK _ _ ⟨c0, cy⟩ (fun hZq => ?_)
  clear hKK KK
  refine tk 8 hZq ?_
  refine tk 9 hZq ?_
  refine tks 10 hZq ?_
  refine tks 11 hZq ?_
  refine tks 12 hZq ?_
  refine tks 13 hZq ?_
  refine tks 14 hZq ?_
  refine tks 15 hZq ?_
  refine tks 16 hZq ?_
  refine tk 17 hZq ?_
  refine tk 18 hZq ?_
  refine tks 19 hZq ?_
  refine tks 20 hZq ?_
  refine tks 21 hZq ?_
  refine tks 22 hZq ?_
  refine tk 23 hZq ?_
  refine wpAnyH_done (by kernel_rfl) ?_ _
  go_wp2
  go_ret
  exact ⟨rfl, B⟩
 by_cases q6 : fr = r.id
 ·have e := HF.out (fun z => z.1.2.1 q6)
  subst e
  clear HT HF
  have q6' : (fr == r.id) = true := by simp [q6]
  clear q6
  refine wp_region_held_drew (S := (fun w' => (∀ k : Nat, w'.cell? ⟨b0, k, none⟩ = [.int .i64 4, .int .i64 fr, .int .i64 to, .int .i64 view, .int .i64 at_, .bool has, .int .i64 en.1, .int .i64 en.2.1, .int .i64 en.2.2.1, .int .i64 en.2.2.2.1, .int .i64 en.2.2.2.2.1, .int .i64 en.2.2.2.2.2, .int .i64 last, .slice hm.1 hm.2.1 hm.2.2, .int .i64 commit][k]?) ∧ ((w'.cell? ⟨b, oz, none⟩ = [.int .i64 r.id, .int .i64 r.size, .int .i64 r.view, .bool r.normal, .int .i64 r.last, .slice h.L.1 h.L.2.1 h.L.2.2, .int .i64 r.commit, .slice h.O.1 h.O.2.1 h.O.2.2, .slice h.A.1 h.A.2.1 h.A.2.2, .slice h.D.1 h.D.2.1 h.D.2.2][0]? ∧ ∀ k : Nat, k < 10 → w'.cell? ⟨b, oz + k, none⟩ = [.int .i64 r.id, .int .i64 r.size, .int .i64 r.view, .bool r.normal, .int .i64 r.last, .slice h.L.1 h.L.2.1 h.L.2.2, .int .i64 r.commit, .slice h.O.1 h.O.2.1 h.O.2.2, .slice h.A.1 h.A.2.1 h.A.2.2, .slice h.D.1 h.D.2.1 h.D.2.2][k]?)))) (by kernel_rfl) ⟨c0, cy⟩ (fun hZq => ?_)
  refine tk 0 hZq ?_
  refine tk 1 hZq ?_
  refine tk 2 hZq ?_
  refine tk 3 hZq ?_
  refine tk 4 hZq ?_
  refine tk 5 hZq ?_
  refine tk 6 hZq ?_
  refine rd1 7 (fun KK hKK => ?_)
  go_simp
  go_at_call 62
  refine (l1In_is' fr 0 (r.size - 1) _ true (by simp only [decide_eq_true_eq]; exact q5)).mono ?_
  rintro e W9 ⟨rfl, rfl⟩
  clear hZq
  refine hKK _ _ ⟨c0, cy⟩ (fun hZq => ?_)
  clear hKK KK
  refine tk 8 hZq ?_
  refine tk 9 hZq ?_
  refine tk 10 hZq ?_
  refine tk 11 hZq ?_
  refine tk 12 hZq ?_
  refine tk 13 hZq ?_
  refine tk 14 hZq ?_
  refine tk 15 hZq ?_
  refine tk 16 hZq ?_
  refine tk 17 hZq ?_
  refine tk 18 hZq ?_
  refine tks 19 hZq ?_
  refine tks 20 hZq ?_
  refine tks 21 hZq ?_
  refine tks 22 hZq ?_
  refine tk 23 hZq ?_
  refine wpAnyH_done (by kernel_rfl) ?_ _
  go_wp2
  go_ret
  exact ⟨rfl, B⟩
 have q6' : (fr == r.id) = false := by simp [q6]
 have Q6 : Hid _ := q6
 clear q6
 by_cases q7 : 0 ≤ view ∧ view ≤ 200
 rotate_left 1
 ·have e := HF.out (fun z => q7 z.1.2.2)
  subst e
  clear HT HF
  refine wp_region_held_drew (S := (fun w' => (∀ k : Nat, w'.cell? ⟨b0, k, none⟩ = [.int .i64 4, .int .i64 fr, .int .i64 to, .int .i64 view, .int .i64 at_, .bool has, .int .i64 en.1, .int .i64 en.2.1, .int .i64 en.2.2.1, .int .i64 en.2.2.2.1, .int .i64 en.2.2.2.2.1, .int .i64 en.2.2.2.2.2, .int .i64 last, .slice hm.1 hm.2.1 hm.2.2, .int .i64 commit][k]?) ∧ ((w'.cell? ⟨b, oz, none⟩ = [.int .i64 r.id, .int .i64 r.size, .int .i64 r.view, .bool r.normal, .int .i64 r.last, .slice h.L.1 h.L.2.1 h.L.2.2, .int .i64 r.commit, .slice h.O.1 h.O.2.1 h.O.2.2, .slice h.A.1 h.A.2.1 h.A.2.2, .slice h.D.1 h.D.2.1 h.D.2.2][0]? ∧ ∀ k : Nat, k < 10 → w'.cell? ⟨b, oz + k, none⟩ = [.int .i64 r.id, .int .i64 r.size, .int .i64 r.view, .bool r.normal, .int .i64 r.last, .slice h.L.1 h.L.2.1 h.L.2.2, .int .i64 r.commit, .slice h.O.1 h.O.2.1 h.O.2.2, .slice h.A.1 h.A.2.1 h.A.2.2, .slice h.D.1 h.D.2.1 h.D.2.2][k]?)))) (by kernel_rfl) ⟨c0, cy⟩ (fun hZq => ?_)
  refine tk 0 hZq ?_
  refine tk 1 hZq ?_
  refine tk 2 hZq ?_
  refine tk 3 hZq ?_
  refine tk 4 hZq ?_
  refine tk 5 hZq ?_
  refine tk 6 hZq ?_
  refine rd1 7 (fun KK hKK => ?_)
  go_simp
  go_at_call 62
  refine (l1In_is' fr 0 (r.size - 1) _ true (by simp only [decide_eq_true_eq]; exact q5)).mono ?_
  rintro e W9 ⟨rfl, rfl⟩
  clear hZq
  refine hKK _ _ ⟨c0, cy⟩ (fun hZq => ?_)
  clear hKK KK
  refine tk 8 hZq ?_
  refine tk 9 hZq ?_
  refine tk 10 hZq ?_
  refine tk 11 hZq ?_
  refine tk 12 hZq ?_
  refine tk 13 hZq ?_
  refine tk 14 hZq ?_
  refine tk 15 hZq ?_
  refine tk 16 hZq ?_
  refine tk 17 hZq ?_
  refine tk 18 hZq ?_
  refine tk 19 hZq ?_
  refine tk 20 hZq ?_
  refine rd1 21 (fun KK hKK => ?_)
  go_simp
  go_at_call 63
  refine (l9View_is view _ false (by simp only [decide_eq_false_eq]; exact q7)).mono ?_
  rintro e W9 ⟨rfl, rfl⟩
  clear hZq
  refine hKK _ _ ⟨c0, cy⟩ (fun hZq => ?_)
  clear hKK KK
  refine tk 22 hZq ?_
  refine tk 23 hZq ?_
  refine wpAnyH_done (by kernel_rfl) ?_ _
  go_wp2
  go_ret
  exact ⟨rfl, B⟩
 refine wp_region_held_drew (S := (fun w' => (∀ k : Nat, w'.cell? ⟨b0, k, none⟩ = [.int .i64 4, .int .i64 fr, .int .i64 to, .int .i64 view, .int .i64 at_, .bool has, .int .i64 en.1, .int .i64 en.2.1, .int .i64 en.2.2.1, .int .i64 en.2.2.2.1, .int .i64 en.2.2.2.2.1, .int .i64 en.2.2.2.2.2, .int .i64 last, .slice hm.1 hm.2.1 hm.2.2, .int .i64 commit][k]?) ∧ ((w'.cell? ⟨b, oz, none⟩ = [.int .i64 r.id, .int .i64 r.size, .int .i64 r.view, .bool r.normal, .int .i64 r.last, .slice h.L.1 h.L.2.1 h.L.2.2, .int .i64 r.commit, .slice h.O.1 h.O.2.1 h.O.2.2, .slice h.A.1 h.A.2.1 h.A.2.2, .slice h.D.1 h.D.2.1 h.D.2.2][0]? ∧ ∀ k : Nat, k < 10 → w'.cell? ⟨b, oz + k, none⟩ = [.int .i64 r.id, .int .i64 r.size, .int .i64 r.view, .bool r.normal, .int .i64 r.last, .slice h.L.1 h.L.2.1 h.L.2.2, .int .i64 r.commit, .slice h.O.1 h.O.2.1 h.O.2.2, .slice h.A.1 h.A.2.1 h.A.2.2, .slice h.D.1 h.D.2.1 h.D.2.2][k]?)))) (by kernel_rfl) ⟨c0, cy⟩ (fun hZq => ?_)
 refine tk 0 hZq ?_
 refine tk 1 hZq ?_
 refine tk 2 hZq ?_
 refine tk 3 hZq ?_
 refine tk 4 hZq ?_
 refine tk 5 hZq ?_
 refine tk 6 hZq ?_
 refine rd1 7 (fun KK hKK => ?_)
 go_simp
 go_at_call 62
 refine (l1In_is' fr 0 (r.size - 1) _ true (by simp only [decide_eq_true_eq]; exact q5)).mono ?_
 rintro e W9 ⟨rfl, rfl⟩
 clear hZq
 refine hKK _ _ ⟨c0, cy⟩ (fun hZq => ?_)
 clear hKK KK
 refine tk 8 hZq ?_
 refine tk 9 hZq ?_
 refine tk 10 hZq ?_
 refine tk 11 hZq ?_
 refine tk 12 hZq ?_
 refine tk 13 hZq ?_
 refine tk 14 hZq ?_
 refine tk 15 hZq ?_
 refine tk 16 hZq ?_
 refine tk 17 hZq ?_
 refine tk 18 hZq ?_
 refine tk 19 hZq ?_
 refine tk 20 hZq ?_
 refine rd1 21 (fun KK hKK => ?_)
 go_simp
 go_at_call 63
 refine (l9View_is view _ true (by simp only [decide_eq_true_eq]; exact q7)).mono ?_
 rintro e W9 ⟨rfl, rfl⟩
 clear hZq
 refine hKK _ _ ⟨c0, cy⟩ (fun hZq => ?_)
 clear hKK KK
 refine tk 22 hZq ?_
 refine tk 23 hZq ?_
 refine wpAnyH_done (by kernel_rfl) ?_ _
 have HM : Hid (numsM r ⟨4, fr, to, view, at_, has, en, last, log, commit⟩) := ⟨q5, Q6.out, q7⟩
 go_wp2_with fail
 by_cases ql : 0 ≤ last ∧ last ≤ view
 rotate_left 1
 ·have e := HF.out (fun z => ql (z.2.2.2 rfl))
  subst e
  clear HT HF
  refine (l1In_is' last 0 view _ false (by simp only [decide_eq_false_eq]; exact ql)).mono ?_
  rintro e W9 ⟨rfl, rfl⟩
  go_wp2
  go_ret
  exact ⟨rfl, B⟩
 refine (l1In_is' last 0 view _ true (by simp only [decide_eq_true_eq]; exact ql)).mono ?_
 rintro e W9 ⟨rfl, rfl⟩
 have e := HT.out HM.out ⟨fun q => absurd q (by simp), fun q => absurd q (by simp), fun _ => ql⟩
 subst e
 clear HT HF
 go_wp2
 go_ret
 exact ⟨rfl, B⟩
theorem l9Numbers5O_is (b oz : Nat) (r : Rep) (h : RH) (fr to view at_ : Int) (has : Bool) (en : En) (last : Int) (log : List En) (commit : Int) (hm : Hd) (hS : 1 ≤ r.size ∧ r.size ≤ 5) (w : World) (Y : Ro w b oz [.int .i64 r.id, .int .i64 r.size, .int .i64 r.view, .bool r.normal, .int .i64 r.last, .slice h.L.1 h.L.2.1 h.L.2.2, .int .i64 r.commit, .slice h.O.1 h.O.2.1 h.O.2.2, .slice h.A.1 h.A.2.1 h.A.2.2, .slice h.D.1 h.D.2.1 h.D.2.2]) (d : Bool) (hd : decide (numsM r ⟨5, fr, to, view, at_, has, en, last, log, commit⟩ ∧ numN false false false ⟨5, fr, to, view, at_, has, en, last, log, commit⟩) = d) : Calls Try.prog 96 #[.pointer (some ⟨b, oz, none⟩), .agg #[.int .i64 5, .int .i64 fr, .int .i64 to, .int .i64 view, .int .i64 at_, .bool has, .int .i64 en.1, .int .i64 en.2.1, .int .i64 en.2.2.1, .int .i64 en.2.2.2.1, .int .i64 en.2.2.2.2.1, .int .i64 en.2.2.2.2.2, .int .i64 last, .slice hm.1 hm.2.1 hm.2.2, .int .i64 commit]] w fun e w' => e = .returned (.bool d) ∧ Below w.heap.size w w' := by
 have HT : Hid (numsM r ⟨5, fr, to, view, at_, has, en, last, log, commit⟩ → numN false false false ⟨5, fr, to, view, at_, has, en, last, log, commit⟩ → d = true) := fun y z => by rw [← hd]; exact decide_eq_true ⟨y, z⟩
 have HF : Hid (¬ (numsM r ⟨5, fr, to, view, at_, has, en, last, log, commit⟩ ∧ numN false false false ⟨5, fr, to, view, at_, has, en, last, log, commit⟩) → d = false) := fun y => by rw [← hd]; exact decide_eq_false y
 clear hd
 have hw : IntKind.i64.wrap (r.size - 1) = r.size - 1 := wrapI_same _ (by omega)
 have hbw := Y.lt
 go_enter Try.func96, Try.ntmps96
 go_wp2_with (first | ((with_reducible refine box_newX 99 [.int .i64 5, .int .i64 fr, .int .i64 to, .int .i64 view, .int .i64 at_, .bool has, .int .i64 en.1, .int .i64 en.2.1, .int .i64 en.2.2.1, .int .i64 en.2.2.2.1, .int .i64 en.2.2.2.2.1, .int .i64 en.2.2.2.2.2, .int .i64 last, .slice hm.1 hm.2.1 hm.2.2, .int .i64 commit] rfl ?_); intro b0 W0 N0; have ob0 := N0.ge; have B := N0.below; obtain ⟨X0, c0⟩ := N0.c; clear N0) | fail)
 replace Y := Y.below B
 have DQ : Below W0.heap.size W0 W0.drew := (Below.refl _ _).drew
 replace X0 := X0.below DQ
 replace c0 := X0.cell
 replace B := below_next B DQ
 clear DQ
 replace Y := Y.below (show Below W0.heap.size W0 W0.drew from (Below.refl _ _).drew)
 have cy := Y.cell
 by_cases q5 : 0 ≤ fr ∧ fr ≤ r.size - 1
 rotate_left 1
 ·have e := HF.out (fun z => q5 z.1.1)
  subst e
  clear HT HF
  refine wp_region_held_drew (S := (fun w' => (∀ k : Nat, w'.cell? ⟨b0, k, none⟩ = [.int .i64 5, .int .i64 fr, .int .i64 to, .int .i64 view, .int .i64 at_, .bool has, .int .i64 en.1, .int .i64 en.2.1, .int .i64 en.2.2.1, .int .i64 en.2.2.2.1, .int .i64 en.2.2.2.2.1, .int .i64 en.2.2.2.2.2, .int .i64 last, .slice hm.1 hm.2.1 hm.2.2, .int .i64 commit][k]?) ∧ ((w'.cell? ⟨b, oz, none⟩ = [.int .i64 r.id, .int .i64 r.size, .int .i64 r.view, .bool r.normal, .int .i64 r.last, .slice h.L.1 h.L.2.1 h.L.2.2, .int .i64 r.commit, .slice h.O.1 h.O.2.1 h.O.2.2, .slice h.A.1 h.A.2.1 h.A.2.2, .slice h.D.1 h.D.2.1 h.D.2.2][0]? ∧ ∀ k : Nat, k < 10 → w'.cell? ⟨b, oz + k, none⟩ = [.int .i64 r.id, .int .i64 r.size, .int .i64 r.view, .bool r.normal, .int .i64 r.last, .slice h.L.1 h.L.2.1 h.L.2.2, .int .i64 r.commit, .slice h.O.1 h.O.2.1 h.O.2.2, .slice h.A.1 h.A.2.1 h.A.2.2, .slice h.D.1 h.D.2.1 h.D.2.2][k]?)))) (by kernel_rfl) ⟨c0, cy⟩ (fun hZq => ?_)
  refine tk 0 hZq ?_
  refine tk 1 hZq ?_
  refine tk 2 hZq ?_
  refine tk 3 hZq ?_
  refine tk 4 hZq ?_
  refine tk 5 hZq ?_
  refine tk 6 hZq ?_
  refine rd1 7 (fun KK hKK => ?_)
  go_simp
  go_at_call 62
  refine (l1In_is' fr 0 (r.size - 1) _ false (by simp only [decide_eq_false_eq]; exact q5)).mono ?_
  rintro e W9 ⟨rfl, rfl⟩
  clear hZq
  refine hKK _ _ ⟨c0, cy⟩ (fun hZq => ?_)
  clear hKK KK
  refine tk 8 hZq ?_
  refine tk 9 hZq ?_
  refine tks 10 hZq ?_
  refine tks 11 hZq ?_
  refine tks 12 hZq ?_
  refine tks 13 hZq ?_
  refine tks 14 hZq ?_
  refine tks 15 hZq ?_
  refine tks 16 hZq ?_
  refine tk 17 hZq ?_
  refine tk 18 hZq ?_
  refine tks 19 hZq ?_
  refine tks 20 hZq ?_
  refine tks 21 hZq ?_
  refine tks 22 hZq ?_
  refine tk 23 hZq ?_
  refine wpAnyH_done (by kernel_rfl) ?_ _
  go_wp2
  go_ret
  exact ⟨rfl, B⟩
 by_cases q6 : fr = r.id
 ·have e := HF.out (fun z => z.1.2.1 q6)
  subst e
  clear HT HF
  have q6' : (fr == r.id) = true := by simp [q6]
  clear q6
  refine wp_region_held_drew (S := (fun w' => (∀ k : Nat, w'.cell? ⟨b0, k, none⟩ = [.int .i64 5, .int .i64 fr, .int .i64 to, .int .i64 view, .int .i64 at_, .bool has, .int .i64 en.1, .int .i64 en.2.1, .int .i64 en.2.2.1, .int .i64 en.2.2.2.1, .int .i64 en.2.2.2.2.1, .int .i64 en.2.2.2.2.2, .int .i64 last, .slice hm.1 hm.2.1 hm.2.2, .int .i64 commit][k]?) ∧ ((w'.cell? ⟨b, oz, none⟩ = [.int .i64 r.id, .int .i64 r.size, .int .i64 r.view, .bool r.normal, .int .i64 r.last, .slice h.L.1 h.L.2.1 h.L.2.2, .int .i64 r.commit, .slice h.O.1 h.O.2.1 h.O.2.2, .slice h.A.1 h.A.2.1 h.A.2.2, .slice h.D.1 h.D.2.1 h.D.2.2][0]? ∧ ∀ k : Nat, k < 10 → w'.cell? ⟨b, oz + k, none⟩ = [.int .i64 r.id, .int .i64 r.size, .int .i64 r.view, .bool r.normal, .int .i64 r.last, .slice h.L.1 h.L.2.1 h.L.2.2, .int .i64 r.commit, .slice h.O.1 h.O.2.1 h.O.2.2, .slice h.A.1 h.A.2.1 h.A.2.2, .slice h.D.1 h.D.2.1 h.D.2.2][k]?)))) (by kernel_rfl) ⟨c0, cy⟩ (fun hZq => ?_)
  refine tk 0 hZq ?_
  refine tk 1 hZq ?_
  refine tk 2 hZq ?_
  refine tk 3 hZq ?_
  refine tk 4 hZq ?_
  refine tk 5 hZq ?_
  refine tk 6 hZq ?_
  refine rd1 7 (fun KK hKK => ?_)
  go_simp
  go_at_call 62
  refine (l1In_is' fr 0 (r.size - 1) _ true (by simp only [decide_eq_true_eq]; exact q5)).mono ?_
  rintro e W9 ⟨rfl, rfl⟩
  clear hZq
  refine hKK _ _ ⟨c0, cy⟩ (fun hZq => ?_)
  clear hKK KK
  refine tk 8 hZq ?_
  refine tk 9 hZq ?_
  refine tk 10 hZq ?_
  refine tk 11 hZq ?_
  refine tk 12 hZq ?_
  refine tk 13 hZq ?_
  refine tk 14 hZq ?_
  refine tk 15 hZq ?_
  refine tk 16 hZq ?_
  refine tk 17 hZq ?_
  refine tk 18 hZq ?_
  refine tks 19 hZq ?_
  refine tks 20 hZq ?_
  refine tks 21 hZq ?_
  refine tks 22 hZq ?_
  refine tk 23 hZq ?_
  refine wpAnyH_done (by kernel_rfl) ?_ _
  go_wp2
  go_ret
  exact ⟨rfl, B⟩
 have q6' : (fr == r.id) = false := by simp [q6]
 have Q6 : Hid _ := q6
 clear q6
 by_cases q7 : 0 ≤ view ∧ view ≤ 200
 rotate_left 1
 ·have e := HF.out (fun z => q7 z.1.2.2)
  subst e
  clear HT HF
  refine wp_region_held_drew (S := (fun w' => (∀ k : Nat, w'.cell? ⟨b0, k, none⟩ = [.int .i64 5, .int .i64 fr, .int .i64 to, .int .i64 view, .int .i64 at_, .bool has, .int .i64 en.1, .int .i64 en.2.1, .int .i64 en.2.2.1, .int .i64 en.2.2.2.1, .int .i64 en.2.2.2.2.1, .int .i64 en.2.2.2.2.2, .int .i64 last, .slice hm.1 hm.2.1 hm.2.2, .int .i64 commit][k]?) ∧ ((w'.cell? ⟨b, oz, none⟩ = [.int .i64 r.id, .int .i64 r.size, .int .i64 r.view, .bool r.normal, .int .i64 r.last, .slice h.L.1 h.L.2.1 h.L.2.2, .int .i64 r.commit, .slice h.O.1 h.O.2.1 h.O.2.2, .slice h.A.1 h.A.2.1 h.A.2.2, .slice h.D.1 h.D.2.1 h.D.2.2][0]? ∧ ∀ k : Nat, k < 10 → w'.cell? ⟨b, oz + k, none⟩ = [.int .i64 r.id, .int .i64 r.size, .int .i64 r.view, .bool r.normal, .int .i64 r.last, .slice h.L.1 h.L.2.1 h.L.2.2, .int .i64 r.commit, .slice h.O.1 h.O.2.1 h.O.2.2, .slice h.A.1 h.A.2.1 h.A.2.2, .slice h.D.1 h.D.2.1 h.D.2.2][k]?)))) (by kernel_rfl) ⟨c0, cy⟩ (fun hZq => ?_)
  refine tk 0 hZq ?_
  refine tk 1 hZq ?_
  refine tk 2 hZq ?_
  refine tk 3 hZq ?_
  refine tk 4 hZq ?_
  refine tk 5 hZq ?_
  refine tk 6 hZq ?_
  refine rd1 7 (fun KK hKK => ?_)
  go_simp
  go_at_call 62
  refine (l1In_is' fr 0 (r.size - 1) _ true (by simp only [decide_eq_true_eq]; exact q5)).mono ?_
  rintro e W9 ⟨rfl, rfl⟩
  clear hZq
  refine hKK _ _ ⟨c0, cy⟩ (fun hZq => ?_)
  clear hKK KK
  refine tk 8 hZq ?_
  refine tk 9 hZq ?_
  refine tk 10 hZq ?_
  refine tk 11 hZq ?_
  refine tk 12 hZq ?_
  refine tk 13 hZq ?_
  refine tk 14 hZq ?_
  refine tk 15 hZq ?_
  refine tk 16 hZq ?_
  refine tk 17 hZq ?_
  refine tk 18 hZq ?_
  refine tk 19 hZq ?_
  refine tk 20 hZq ?_
  refine rd1 21 (fun KK hKK => ?_)
  go_simp
  go_at_call 63
  refine (l9View_is view _ false (by simp only [decide_eq_false_eq]; exact q7)).mono ?_
  rintro e W9 ⟨rfl, rfl⟩
  clear hZq
  refine hKK _ _ ⟨c0, cy⟩ (fun hZq => ?_)
  clear hKK KK
  refine tk 22 hZq ?_
  refine tk 23 hZq ?_
  refine wpAnyH_done (by kernel_rfl) ?_ _
  go_wp2
  go_ret
  exact ⟨rfl, B⟩
 refine wp_region_held_drew (S := (fun w' => (∀ k : Nat, w'.cell? ⟨b0, k, none⟩ = [.int .i64 5, .int .i64 fr, .int .i64 to, .int .i64 view, .int .i64 at_, .bool has, .int .i64 en.1, .int .i64 en.2.1, .int .i64 en.2.2.1, .int .i64 en.2.2.2.1, .int .i64 en.2.2.2.2.1, .int .i64 en.2.2.2.2.2, .int .i64 last, .slice hm.1 hm.2.1 hm.2.2, .int .i64 commit][k]?) ∧ ((w'.cell? ⟨b, oz, none⟩ = [.int .i64 r.id, .int .i64 r.size, .int .i64 r.view, .bool r.normal, .int .i64 r.last, .slice h.L.1 h.L.2.1 h.L.2.2, .int .i64 r.commit, .slice h.O.1 h.O.2.1 h.O.2.2, .slice h.A.1 h.A.2.1 h.A.2.2, .slice h.D.1 h.D.2.1 h.D.2.2][0]? ∧ ∀ k : Nat, k < 10 → w'.cell? ⟨b, oz + k, none⟩ = [.int .i64 r.id, .int .i64 r.size, .int .i64 r.view, .bool r.normal, .int .i64 r.last, .slice h.L.1 h.L.2.1 h.L.2.2, .int .i64 r.commit, .slice h.O.1 h.O.2.1 h.O.2.2, .slice h.A.1 h.A.2.1 h.A.2.2, .slice h.D.1 h.D.2.1 h.D.2.2][k]?)))) (by kernel_rfl) ⟨c0, cy⟩ (fun hZq => ?_)
 refine tk 0 hZq ?_
 refine tk 1 hZq ?_
 refine tk 2 hZq ?_
 refine tk 3 hZq ?_
 refine tk 4 hZq ?_
 refine tk 5 hZq ?_
 refine tk 6 hZq ?_
 refine rd1 7 (fun KK hKK => ?_)
 go_simp
 go_at_call 62
 refine (l1In_is' fr 0 (r.size - 1) _ true (by simp only [decide_eq_true_eq]; exact q5)).mono ?_
 rintro e W9 ⟨rfl, rfl⟩
 clear hZq
 refine hKK _ _ ⟨c0, cy⟩ (fun hZq => ?_)
 clear hKK KK
 refine tk 8 hZq ?_
 refine tk 9 hZq ?_
 refine tk 10 hZq ?_
 refine tk 11 hZq ?_
 refine tk 12 hZq ?_
 refine tk 13 hZq ?_
 refine tk 14 hZq ?_
 refine tk 15 hZq ?_
 refine tk 16 hZq ?_
 refine tk 17 hZq ?_
 refine tk 18 hZq ?_
 refine tk 19 hZq ?_
 refine tk 20 hZq ?_
 refine rd1 21 (fun KK hKK => ?_)
 go_simp
 go_at_call 63
 refine (l9View_is view _ true (by simp only [decide_eq_true_eq]; exact q7)).mono ?_
 rintro e W9 ⟨rfl, rfl⟩
 clear hZq
 refine hKK _ _ ⟨c0, cy⟩ (fun hZq => ?_)
 clear hKK KK
 refine tk 22 hZq ?_
 refine tk 23 hZq ?_
 refine wpAnyH_done (by kernel_rfl) ?_ _
 have HM : Hid (numsM r ⟨5, fr, to, view, at_, has, en, last, log, commit⟩) := ⟨q5, Q6.out, q7⟩
 have e := HT.out HM.out ⟨fun q => absurd q (by simp), fun q => absurd q (by simp), fun q => absurd q (by simp)⟩
 subst e
 clear HT HF
 go_wp2
 go_ret
 exact ⟨rfl, B⟩
theorem l9Numbers6O_is (b oz : Nat) (r : Rep) (h : RH) (fr to view at_ : Int) (has : Bool) (en : En) (last : Int) (log : List En) (commit : Int) (hm : Hd) (hS : 1 ≤ r.size ∧ r.size ≤ 5) (w : World) (Y : Ro w b oz [.int .i64 r.id, .int .i64 r.size, .int .i64 r.view, .bool r.normal, .int .i64 r.last, .slice h.L.1 h.L.2.1 h.L.2.2, .int .i64 r.commit, .slice h.O.1 h.O.2.1 h.O.2.2, .slice h.A.1 h.A.2.1 h.A.2.2, .slice h.D.1 h.D.2.1 h.D.2.2]) (d : Bool) (hd : decide (numsM r ⟨6, fr, to, view, at_, has, en, last, log, commit⟩ ∧ numN false false false ⟨6, fr, to, view, at_, has, en, last, log, commit⟩) = d) : Calls Try.prog 96 #[.pointer (some ⟨b, oz, none⟩), .agg #[.int .i64 6, .int .i64 fr, .int .i64 to, .int .i64 view, .int .i64 at_, .bool has, .int .i64 en.1, .int .i64 en.2.1, .int .i64 en.2.2.1, .int .i64 en.2.2.2.1, .int .i64 en.2.2.2.2.1, .int .i64 en.2.2.2.2.2, .int .i64 last, .slice hm.1 hm.2.1 hm.2.2, .int .i64 commit]] w fun e w' => e = .returned (.bool d) ∧ Below w.heap.size w w' := by
 have HT : Hid (numsM r ⟨6, fr, to, view, at_, has, en, last, log, commit⟩ → numN false false false ⟨6, fr, to, view, at_, has, en, last, log, commit⟩ → d = true) := fun y z => by rw [← hd]; exact decide_eq_true ⟨y, z⟩
 have HF : Hid (¬ (numsM r ⟨6, fr, to, view, at_, has, en, last, log, commit⟩ ∧ numN false false false ⟨6, fr, to, view, at_, has, en, last, log, commit⟩) → d = false) := fun y => by rw [← hd]; exact decide_eq_false y
 clear hd
 have hw : IntKind.i64.wrap (r.size - 1) = r.size - 1 := wrapI_same _ (by omega)
 have hbw := Y.lt
 go_enter Try.func96, Try.ntmps96
 go_wp2_with (first | ((with_reducible refine box_newX 99 [.int .i64 6, .int .i64 fr, .int .i64 to, .int .i64 view, .int .i64 at_, .bool has, .int .i64 en.1, .int .i64 en.2.1, .int .i64 en.2.2.1, .int .i64 en.2.2.2.1, .int .i64 en.2.2.2.2.1, .int .i64 en.2.2.2.2.2, .int .i64 last, .slice hm.1 hm.2.1 hm.2.2, .int .i64 commit] rfl ?_); intro b0 W0 N0; have ob0 := N0.ge; have B := N0.below; obtain ⟨X0, c0⟩ := N0.c; clear N0) | fail)
 replace Y := Y.below B
 have DQ : Below W0.heap.size W0 W0.drew := (Below.refl _ _).drew
 replace X0 := X0.below DQ
 replace c0 := X0.cell
 replace B := below_next B DQ
 clear DQ
 replace Y := Y.below (show Below W0.heap.size W0 W0.drew from (Below.refl _ _).drew)
 have cy := Y.cell
 by_cases q5 : 0 ≤ fr ∧ fr ≤ r.size - 1
 rotate_left 1
 ·have e := HF.out (fun z => q5 z.1.1)
  subst e
  clear HT HF
  refine wp_region_held_drew (S := (fun w' => (∀ k : Nat, w'.cell? ⟨b0, k, none⟩ = [.int .i64 6, .int .i64 fr, .int .i64 to, .int .i64 view, .int .i64 at_, .bool has, .int .i64 en.1, .int .i64 en.2.1, .int .i64 en.2.2.1, .int .i64 en.2.2.2.1, .int .i64 en.2.2.2.2.1, .int .i64 en.2.2.2.2.2, .int .i64 last, .slice hm.1 hm.2.1 hm.2.2, .int .i64 commit][k]?) ∧ ((w'.cell? ⟨b, oz, none⟩ = [.int .i64 r.id, .int .i64 r.size, .int .i64 r.view, .bool r.normal, .int .i64 r.last, .slice h.L.1 h.L.2.1 h.L.2.2, .int .i64 r.commit, .slice h.O.1 h.O.2.1 h.O.2.2, .slice h.A.1 h.A.2.1 h.A.2.2, .slice h.D.1 h.D.2.1 h.D.2.2][0]? ∧ ∀ k : Nat, k < 10 → w'.cell? ⟨b, oz + k, none⟩ = [.int .i64 r.id, .int .i64 r.size, .int .i64 r.view, .bool r.normal, .int .i64 r.last, .slice h.L.1 h.L.2.1 h.L.2.2, .int .i64 r.commit, .slice h.O.1 h.O.2.1 h.O.2.2, .slice h.A.1 h.A.2.1 h.A.2.2, .slice h.D.1 h.D.2.1 h.D.2.2][k]?)))) (by kernel_rfl) ⟨c0, cy⟩ (fun hZq => ?_)
  refine tk 0 hZq ?_
  refine tk 1 hZq ?_
  refine tk 2 hZq ?_
  refine tk 3 hZq ?_
  refine tk 4 hZq ?_
  refine tk 5 hZq ?_
  refine tk 6 hZq ?_
  refine rd1 7 (fun KK hKK => ?_)
  go_simp
  go_at_call 62
  refine (l1In_is' fr 0 (r.size - 1) _ false (by simp only [decide_eq_false_eq]; exact q5)).mono ?_
  rintro e W9 ⟨rfl, rfl⟩
  clear hZq
  refine hKK _ _ ⟨c0, cy⟩ (fun hZq => ?_)
  clear hKK KK
  refine tk 8 hZq ?_
  refine tk 9 hZq ?_
  refine tks 10 hZq ?_
  refine tks 11 hZq ?_
  refine tks 12 hZq ?_
  refine tks 13 hZq ?_
  refine tks 14 hZq ?_
  refine tks 15 hZq ?_
  refine tks 16 hZq ?_
  refine tk 17 hZq ?_
  refine tk 18 hZq ?_
  refine tks 19 hZq ?_
  refine tks 20 hZq ?_
  refine tks 21 hZq ?_
  refine tks 22 hZq ?_
  refine tk 23 hZq ?_
  refine wpAnyH_done (by kernel_rfl) ?_ _
  go_wp2
  go_ret
  exact ⟨rfl, B⟩
 by_cases q6 : fr = r.id
 ·have e := HF.out (fun z => z.1.2.1 q6)
  subst e
  clear HT HF
  have q6' : (fr == r.id) = true := by simp [q6]
  clear q6
  refine wp_region_held_drew (S := (fun w' => (∀ k : Nat, w'.cell? ⟨b0, k, none⟩ = [.int .i64 6, .int .i64 fr, .int .i64 to, .int .i64 view, .int .i64 at_, .bool has, .int .i64 en.1, .int .i64 en.2.1, .int .i64 en.2.2.1, .int .i64 en.2.2.2.1, .int .i64 en.2.2.2.2.1, .int .i64 en.2.2.2.2.2, .int .i64 last, .slice hm.1 hm.2.1 hm.2.2, .int .i64 commit][k]?) ∧ ((w'.cell? ⟨b, oz, none⟩ = [.int .i64 r.id, .int .i64 r.size, .int .i64 r.view, .bool r.normal, .int .i64 r.last, .slice h.L.1 h.L.2.1 h.L.2.2, .int .i64 r.commit, .slice h.O.1 h.O.2.1 h.O.2.2, .slice h.A.1 h.A.2.1 h.A.2.2, .slice h.D.1 h.D.2.1 h.D.2.2][0]? ∧ ∀ k : Nat, k < 10 → w'.cell? ⟨b, oz + k, none⟩ = [.int .i64 r.id, .int .i64 r.size, .int .i64 r.view, .bool r.normal, .int .i64 r.last, .slice h.L.1 h.L.2.1 h.L.2.2, .int .i64 r.commit, .slice h.O.1 h.O.2.1 h.O.2.2, .slice h.A.1 h.A.2.1 h.A.2.2, .slice h.D.1 h.D.2.1 h.D.2.2][k]?)))) (by kernel_rfl) ⟨c0, cy⟩ (fun hZq => ?_)
  refine tk 0 hZq ?_
  refine tk 1 hZq ?_
  refine tk 2 hZq ?_
  refine tk 3 hZq ?_
  refine tk 4 hZq ?_
  refine tk 5 hZq ?_
  refine tk 6 hZq ?_
  refine rd1 7 (fun KK hKK => ?_)
  go_simp
  go_at_call 62
  refine (l1In_is' fr 0 (r.size - 1) _ true (by simp only [decide_eq_true_eq]; exact q5)).mono ?_
  rintro e W9 ⟨rfl, rfl⟩
  clear hZq
  refine hKK _ _ ⟨c0, cy⟩ (fun hZq => ?_)
  clear hKK KK
  refine tk 8 hZq ?_
  refine tk 9 hZq ?_
  refine tk 10 hZq ?_
  refine tk 11 hZq ?_
  refine tk 12 hZq ?_
  refine tk 13 hZq ?_
  refine tk 14 hZq ?_
  refine tk 15 hZq ?_
  refine tk 16 hZq ?_
  refine tk 17 hZq ?_
  refine tk 18 hZq ?_
  refine tks 19 hZq ?_
  refine tks 20 hZq ?_
  refine tks 21 hZq ?_
  refine tks 22 hZq ?_
  refine tk 23 hZq ?_
  refine wpAnyH_done (by kernel_rfl) ?_ _
  go_wp2
  go_ret
  exact ⟨rfl, B⟩
 have q6' : (fr == r.id) = false := by simp [q6]
 have Q6 : Hid _ := q6
 clear q6
 by_cases q7 : 0 ≤ view ∧ view ≤ 200
 rotate_left 1
 ·have e := HF.out (fun z => q7 z.1.2.2)
  subst e
  clear HT HF
  refine wp_region_held_drew (S := (fun w' => (∀ k : Nat, w'.cell? ⟨b0, k, none⟩ = [.int .i64 6, .int .i64 fr, .int .i64 to, .int .i64 view, .int .i64 at_, .bool has, .int .i64 en.1, .int .i64 en.2.1, .int .i64 en.2.2.1, .int .i64 en.2.2.2.1, .int .i64 en.2.2.2.2.1, .int .i64 en.2.2.2.2.2, .int .i64 last, .slice hm.1 hm.2.1 hm.2.2, .int .i64 commit][k]?) ∧ ((w'.cell? ⟨b, oz, none⟩ = [.int .i64 r.id, .int .i64 r.size, .int .i64 r.view, .bool r.normal, .int .i64 r.last, .slice h.L.1 h.L.2.1 h.L.2.2, .int .i64 r.commit, .slice h.O.1 h.O.2.1 h.O.2.2, .slice h.A.1 h.A.2.1 h.A.2.2, .slice h.D.1 h.D.2.1 h.D.2.2][0]? ∧ ∀ k : Nat, k < 10 → w'.cell? ⟨b, oz + k, none⟩ = [.int .i64 r.id, .int .i64 r.size, .int .i64 r.view, .bool r.normal, .int .i64 r.last, .slice h.L.1 h.L.2.1 h.L.2.2, .int .i64 r.commit, .slice h.O.1 h.O.2.1 h.O.2.2, .slice h.A.1 h.A.2.1 h.A.2.2, .slice h.D.1 h.D.2.1 h.D.2.2][k]?)))) (by kernel_rfl) ⟨c0, cy⟩ (fun hZq => ?_)
  refine tk 0 hZq ?_
  refine tk 1 hZq ?_
  refine tk 2 hZq ?_
  refine tk 3 hZq ?_
  refine tk 4 hZq ?_
  refine tk 5 hZq ?_
  refine tk 6 hZq ?_
  refine rd1 7 (fun KK hKK => ?_)
  go_simp
  go_at_call 62
  refine (l1In_is' fr 0 (r.size - 1) _ true (by simp only [decide_eq_true_eq]; exact q5)).mono ?_
  rintro e W9 ⟨rfl, rfl⟩
  clear hZq
  refine hKK _ _ ⟨c0, cy⟩ (fun hZq => ?_)
  clear hKK KK
  refine tk 8 hZq ?_
  refine tk 9 hZq ?_
  refine tk 10 hZq ?_
  refine tk 11 hZq ?_
  refine tk 12 hZq ?_
  refine tk 13 hZq ?_
  refine tk 14 hZq ?_
  refine tk 15 hZq ?_
  refine tk 16 hZq ?_
  refine tk 17 hZq ?_
  refine tk 18 hZq ?_
  refine tk 19 hZq ?_
  refine tk 20 hZq ?_
  refine rd1 21 (fun KK hKK => ?_)
  go_simp
  go_at_call 63
  refine (l9View_is view _ false (by simp only [decide_eq_false_eq]; exact q7)).mono ?_
  rintro e W9 ⟨rfl, rfl⟩
  clear hZq
  refine hKK _ _ ⟨c0, cy⟩ (fun hZq => ?_)
  clear hKK KK
  refine tk 22 hZq ?_
  refine tk 23 hZq ?_
  refine wpAnyH_done (by kernel_rfl) ?_ _
  go_wp2
  go_ret
  exact ⟨rfl, B⟩
 refine wp_region_held_drew (S := (fun w' => (∀ k : Nat, w'.cell? ⟨b0, k, none⟩ = [.int .i64 6, .int .i64 fr, .int .i64 to, .int .i64 view, .int .i64 at_, .bool has, .int .i64 en.1, .int .i64 en.2.1, .int .i64 en.2.2.1, .int .i64 en.2.2.2.1, .int .i64 en.2.2.2.2.1, .int .i64 en.2.2.2.2.2, .int .i64 last, .slice hm.1 hm.2.1 hm.2.2, .int .i64 commit][k]?) ∧ ((w'.cell? ⟨b, oz, none⟩ = [.int .i64 r.id, .int .i64 r.size, .int .i64 r.view, .bool r.normal, .int .i64 r.last, .slice h.L.1 h.L.2.1 h.L.2.2, .int .i64 r.commit, .slice h.O.1 h.O.2.1 h.O.2.2, .slice h.A.1 h.A.2.1 h.A.2.2, .slice h.D.1 h.D.2.1 h.D.2.2][0]? ∧ ∀ k : Nat, k < 10 → w'.cell? ⟨b, oz + k, none⟩ = [.int .i64 r.id, .int .i64 r.size, .int .i64 r.view, .bool r.normal, .int .i64 r.last, .slice h.L.1 h.L.2.1 h.L.2.2, .int .i64 r.commit, .slice h.O.1 h.O.2.1 h.O.2.2, .slice h.A.1 h.A.2.1 h.A.2.2, .slice h.D.1 h.D.2.1 h.D.2.2][k]?)))) (by kernel_rfl) ⟨c0, cy⟩ (fun hZq => ?_)
 refine tk 0 hZq ?_
 refine tk 1 hZq ?_
 refine tk 2 hZq ?_
 refine tk 3 hZq ?_
 refine tk 4 hZq ?_
 refine tk 5 hZq ?_
 refine tk 6 hZq ?_
 refine rd1 7 (fun KK hKK => ?_)
 go_simp
 go_at_call 62
 refine (l1In_is' fr 0 (r.size - 1) _ true (by simp only [decide_eq_true_eq]; exact q5)).mono ?_
 rintro e W9 ⟨rfl, rfl⟩
 clear hZq
 refine hKK _ _ ⟨c0, cy⟩ (fun hZq => ?_)
 clear hKK KK
 refine tk 8 hZq ?_
 refine tk 9 hZq ?_
 refine tk 10 hZq ?_
 refine tk 11 hZq ?_
 refine tk 12 hZq ?_
 refine tk 13 hZq ?_
 refine tk 14 hZq ?_
 refine tk 15 hZq ?_
 refine tk 16 hZq ?_
 refine tk 17 hZq ?_
 refine tk 18 hZq ?_
 refine tk 19 hZq ?_
 refine tk 20 hZq ?_
 refine rd1 21 (fun KK hKK => ?_)
 go_simp
 go_at_call 63
 refine (l9View_is view _ true (by simp only [decide_eq_true_eq]; exact q7)).mono ?_
 rintro e W9 ⟨rfl, rfl⟩
 clear hZq
 refine hKK _ _ ⟨c0, cy⟩ (fun hZq => ?_)
 clear hKK KK
 refine tk 22 hZq ?_
 refine tk 23 hZq ?_
 refine wpAnyH_done (by kernel_rfl) ?_ _
 have HM : Hid (numsM r ⟨6, fr, to, view, at_, has, en, last, log, commit⟩) := ⟨q5, Q6.out, q7⟩
 have e := HT.out HM.out ⟨fun q => absurd q (by simp), fun q => absurd q (by simp), fun q => absurd q (by simp)⟩
 subst e
 clear HT HF
 go_wp2
 go_ret
 exact ⟨rfl, B⟩
end Go.Proofs.Ytjefmhjlaibbkaa
