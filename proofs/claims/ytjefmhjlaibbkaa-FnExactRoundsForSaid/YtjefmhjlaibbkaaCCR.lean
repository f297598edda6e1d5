/- Chapter 11: the fault of a mail for a node of a list, of the model. -/
import Derived.Test.YtjefmhjlaibbkaaQAGR
import Derived.Test.YtjefmhjlaibbkaaQABR
import Derived.Test.YtjefmhjlaibbkaaQAQR
import Derived.Test.YtjefmhjlaibbkaaI15bR
import Derived.Test.YtjefmhjlaibbkaaCBR
set_option maxRecDepth 20000
set_option maxHeartbeats 16000000
namespace Go.Proofs.Ytjefmhjlaibbkaa
open Go.RowKit
theorem l9Mail1O_is {o2 : Bool} {l2 u2 : Nat} (b oz : Nat) (r : Rep) (h : RH) (fr view at_ : Int) (has : Bool) (en : En) (last : Int) (log : List En) (commit : Int) (hm : Hd) (hS : 1 ≤ r.size ∧ r.size ≤ 5) (w : World) (Y : Ro w b oz [.int .i64 r.id, .int .i64 r.size, .int .i64 r.view, .bool r.normal, .int .i64 r.last, .slice h.L.1 h.L.2.1 h.L.2.2, .int .i64 r.commit, .slice h.O.1 h.O.2.1 h.O.2.2, .slice h.A.1 h.A.2.1 h.A.2.2, .slice h.D.1 h.D.2.1 h.D.2.2]) (y : RowAt w o2 l2 u2 6 hm.1 hm.2.1 hm.2.2 (sixs log)) (d : Int) (HT : Hid (tailF true true false false true r ⟨1, fr, r.id, view, at_, has, en, last, log, commit⟩ = d)) : Calls Try.prog 72 #[.pointer (some ⟨b, oz, none⟩), .agg #[.int .i64 1, .int .i64 fr, .int .i64 r.id, .int .i64 view, .int .i64 at_, .bool has, .int .i64 en.1, .int .i64 en.2.1, .int .i64 en.2.2.1, .int .i64 en.2.2.2.1, .int .i64 en.2.2.2.2.1, .int .i64 en.2.2.2.2.2, .int .i64 last, .slice hm.1 hm.2.1 hm.2.2, .int .i64 commit]] w fun e w' => e = .returned (.int .i64 d) ∧ Below w.heap.size w w' := by
 have hL := y.nSixs
 have HL : Hid _ := hL
 clear hL
 have q4' : (r.id != r.id) = false := by simp
 go_enter Try.func72, Try.ntmps72
 go_wp2_with (first | ((with_reducible refine box_newX 99 [.int .i64 1, .int .i64 fr, .int .i64 r.id, .int .i64 view, .int .i64 at_, .bool has, .int .i64 en.1, .int .i64 en.2.1, .int .i64 en.2.2.1, .int .i64 en.2.2.2.1, .int .i64 en.2.2.2.2.1, .int .i64 en.2.2.2.2.2, .int .i64 last, .slice hm.1 hm.2.1 hm.2.2, .int .i64 commit] rfl ?_); intro b0 W0 N0; have ob0 := N0.ge; have B := N0.below; obtain ⟨X0, c0⟩ := N0.c; clear N0) | fail)
 replace Y := Y.below B
 have DQ : Below W0.heap.size W0 W0.drew := (Below.refl _ _).drew
 replace X0 := X0.below DQ
 replace c0 := X0.cell
 replace B := below_next B DQ
 clear DQ
 replace Y := Y.below (show Below W0.heap.size W0 W0.drew from (Below.refl _ _).drew)
 have cy := Y.cell
 refine wp_region_held_drew (S := (fun w' => (∀ k : Nat, w'.cell? ⟨b0, k, none⟩ = [.int .i64 1, .int .i64 fr, .int .i64 r.id, .int .i64 view, .int .i64 at_, .bool has, .int .i64 en.1, .int .i64 en.2.1, .int .i64 en.2.2.1, .int .i64 en.2.2.2.1, .int .i64 en.2.2.2.2.1, .int .i64 en.2.2.2.2.2, .int .i64 last, .slice hm.1 hm.2.1 hm.2.2, .int .i64 commit][k]?) ∧ ((w'.cell? ⟨b, oz, none⟩ = [.int .i64 r.id, .int .i64 r.size, .int .i64 r.view, .bool r.normal, .int .i64 r.last, .slice h.L.1 h.L.2.1 h.L.2.2, .int .i64 r.commit, .slice h.O.1 h.O.2.1 h.O.2.2, .slice h.A.1 h.A.2.1 h.A.2.2, .slice h.D.1 h.D.2.1 h.D.2.2][0]? ∧ ∀ k : Nat, k < 10 → w'.cell? ⟨b, oz + k, none⟩ = [.int .i64 r.id, .int .i64 r.size, .int .i64 r.view, .bool r.normal, .int .i64 r.last, .slice h.L.1 h.L.2.1 h.L.2.2, .int .i64 r.commit, .slice h.O.1 h.O.2.1 h.O.2.2, .slice h.A.1 h.A.2.1 h.A.2.2, .slice h.D.1 h.D.2.1 h.D.2.2][k]?)))) (by kernel_rfl) ⟨c0, cy⟩ (fun hZq => ?_)
 refine tk 0 hZq ?_
 refine tk 1 hZq ?_
 refine rd1 2 (fun KK hKK => ?_)
 go_simp
 go_at_call 62
 refine (l1In_is' 1 1 6 _ true (by simp only [decide_eq_true_eq]; omega)).mono ?_
 rintro e W9 ⟨rfl, rfl⟩
 clear hZq
 refine hKK _ _ ⟨c0, cy⟩ (fun hZq => ?_)
 clear hKK KK
 refine tk 3 hZq ?_
 refine tk 4 hZq ?_
 refine tk 5 hZq ?_
 refine tk 6 hZq ?_
 refine tk 7 hZq ?_
 refine tk 8 hZq ?_
 refine tk 9 hZq ?_
 refine tk 10 hZq ?_
 refine tk 11 hZq ?_
 refine tk 12 hZq ?_
 refine wpAnyH_done (by kernel_rfl) ?_ _
 go_wp2_with fail
 obtain ⟨nb, hnb⟩ : ∃ nb, decide (numsM r ⟨1, fr, r.id, view, at_, has, en, last, log, commit⟩ ∧ numN true true false ⟨1, fr, r.id, view, at_, has, en, last, log, commit⟩) = nb := ⟨_, rfl⟩
 have HN : Hid _ := hnb
 clear hnb
 refine (l9Numbers1O_is b oz r h fr r.id view at_ has en last log commit hm hS _ Y nb HN.out).mono ?_
 rintro e w3 ⟨rfl, BB⟩
 replace X0 := X0.below BB
 replace c0 := X0.cell
 replace B := below_next B BB
 clear BB
 clear Y cy
 cases nb
 ·have e : d = 3 := by
   by_cases q : numsM r ⟨1, fr, r.id, view, at_, has, en, last, log, commit⟩ ∧ numF true false ⟨1, fr, r.id, view, at_, has, en, last, log, commit⟩
   ·have hc : ¬ (0 ≤ commit ∧ commit ≤ 40) := fun c => of_decide_eq_false HN.out ⟨q.1, q.2.1, fun _ => c, q.2.2⟩
    exact tail_agr HT.out q.1 q.2 (c := 3) (by unfold agrF; rw [if_neg (by simp), if_pos ⟨rfl, hc⟩]) (by simp)
   ·exact tail_no HT.out q
  subst e
  clear HT
  go_wp2
  go_ret
  exact ⟨rfl, B⟩
 have HNT := of_decide_eq_true HN.out
 have HM : Hid (numsM r ⟨1, fr, r.id, view, at_, has, en, last, log, commit⟩) := HNT.1
 have HU : Hid (numF true false ⟨1, fr, r.id, view, at_, has, en, last, log, commit⟩) := ⟨HNT.2.1, fun q => absurd q (by simp)⟩
 have HC : Hid (agrF false true ⟨1, fr, r.id, view, at_, has, en, last, log, commit⟩ = 0) := by show _ = _; unfold agrF; rw [if_neg (by simp), if_neg (fun z => z.2 (HNT.2.2.1 rfl))]
 clear HNT HN
 cases has
 ·obtain ⟨eb, heb⟩ : ∃ eb, decide (excF true true false false true ⟨1, fr, r.id, view, at_, false, en, last, log, commit⟩) = eb := ⟨_, rfl⟩
  have HB : Hid _ := heb
  clear heb
  have e := tail_exc HT.out HM.out HU.out HC.out (fun z => absurd z.2.1 (by simp)) HB.out
  subst e
  clear HT
  go_wp2_with fail
  refine (l9Bare1_is fr r.id view at_ false en last log commit hm HL.out _ eb HB.out).mono ?_
  rintro e w6 ⟨rfl, BB⟩
  replace X0 := X0.below BB
  replace c0 := X0.cell
  replace B := below_next B BB
  clear BB
  cases eb
  ·go_wp2
   go_ret
   exact ⟨rfl, B⟩
  ·go_wp2
   go_ret
   exact ⟨rfl, B⟩
 ·obtain ⟨ce, hce⟩ : ∃ ce, enFault en = ce := ⟨_, rfl⟩
  have HE : Hid _ := hce
  clear hce
  go_wp2_with fail
  refine (specEF_is en.1 en.2.1 en.2.2.1 en.2.2.2.1 en.2.2.2.2.1 en.2.2.2.2.2 _ ce HE.out).mono ?_
  rintro e w5 ⟨rfl, BB⟩
  replace X0 := X0.below BB
  replace c0 := X0.cell
  replace B := below_next B BB
  clear BB
  by_cases q9 : ce = 0
  rotate_left 1
  ·have e := tail_en HT.out HM.out HU.out HC.out HE.out q9 rfl rfl
   subst e
   have q9' : (d != 0) = true := by simp [q9]
   clear HT
   go_wp2
   go_ret
   exact ⟨rfl, B⟩
  subst q9
  obtain ⟨eb, heb⟩ : ∃ eb, decide (excF true true false false true ⟨1, fr, r.id, view, at_, true, en, last, log, commit⟩) = eb := ⟨_, rfl⟩
  have HB : Hid _ := heb
  clear heb
  have e := tail_exc HT.out HM.out HU.out HC.out (fun z => z.2.2 HE.out) HB.out
  subst e
  clear HT
  go_wp2_with fail
  refine (l9Bare1_is fr r.id view at_ true en last log commit hm HL.out _ eb HB.out).mono ?_
  rintro e w6 ⟨rfl, BB⟩
  replace X0 := X0.below BB
  replace c0 := X0.cell
  replace B := below_next B BB
  clear BB
  cases eb
  ·go_wp2
   go_ret
   exact ⟨rfl, B⟩
  ·go_wp2
   go_ret
   exact ⟨rfl, B⟩
theorem l9Mail2O_is {o2 : Bool} {l2 u2 : Nat} (b oz : Nat) (r : Rep) (h : RH) (fr view at_ : Int) (has : Bool) (en : En) (last : Int) (log : List En) (commit : Int) (hm : Hd) (hS : 1 ≤ r.size ∧ r.size ≤ 5) (w : World) (Y : Ro w b oz [.int .i64 r.id, .int .i64 r.size, .int .i64 r.view, .bool r.normal, .int .i64 r.last, .slice h.L.1 h.L.2.1 h.L.2.2, .int .i64 r.commit, .slice h.O.1 h.O.2.1 h.O.2.2, .slice h.A.1 h.A.2.1 h.A.2.2, .slice h.D.1 h.D.2.1 h.D.2.2]) (y : RowAt w o2 l2 u2 6 hm.1 hm.2.1 hm.2.2 (sixs log)) (d : Int) (HT : Hid (tailF true false false false false r ⟨2, fr, r.id, view, at_, has, en, last, log, commit⟩ = d)) : Calls Try.prog 72 #[.pointer (some ⟨b, oz, none⟩), .agg #[.int .i64 2, .int .i64 fr, .int .i64 r.id, .int .i64 view, .int .i64 at_, .bool has, .int .i64 en.1, .int .i64 en.2.1, .int .i64 en.2.2.1, .int .i64 en.2.2.2.1, .int .i64 en.2.2.2.2.1, .int .i64 en.2.2.2.2.2, .int .i64 last, .slice hm.1 hm.2.1 hm.2.2, .int .i64 commit]] w fun e w' => e = .returned (.int .i64 d) ∧ Below w.heap.size w w' := by
 have hL := y.nSixs
 have HL : Hid _ := hL
 clear hL
 have q4' : (r.id != r.id) = false := by simp
 go_enter Try.func72, Try.ntmps72
 go_wp2_with (first | ((with_reducible refine box_newX 99 [.int .i64 2, .int .i64 fr, .int .i64 r.id, .int .i64 view, .int .i64 at_, .bool has, .int .i64 en.1, .int .i64 en.2.1, .int .i64 en.2.2.1, .int .i64 en.2.2.2.1, .int .i64 en.2.2.2.2.1, .int .i64 en.2.2.2.2.2, .int .i64 last, .slice hm.1 hm.2.1 hm.2.2, .int .i64 commit] rfl ?_); intro b0 W0 N0; have ob0 := N0.ge; have B := N0.below; obtain ⟨X0, c0⟩ := N0.c; clear N0) | fail)
 replace Y := Y.below B
 have DQ : Below W0.heap.size W0 W0.drew := (Below.refl _ _).drew
 replace X0 := X0.below DQ
 replace c0 := X0.cell
 replace B := below_next B DQ
 clear DQ
 replace Y := Y.below (show Below W0.heap.size W0 W0.drew from (Below.refl _ _).drew)
 have cy := Y.cell
 refine wp_region_held_drew (S := (fun w' => (∀ k : Nat, w'.cell? ⟨b0, k, none⟩ = [.int .i64 2, .int .i64 fr, .int .i64 r.id, .int .i64 view, .int .i64 at_, .bool has, .int .i64 en.1, .int .i64 en.2.1, .int .i64 en.2.2.1, .int .i64 en.2.2.2.1, .int .i64 en.2.2.2.2.1, .int .i64 en.2.2.2.2.2, .int .i64 last, .slice hm.1 hm.2.1 hm.2.2, .int .i64 commit][k]?) ∧ ((w'.cell? ⟨b, oz, none⟩ = [.int .i64 r.id, .int .i64 r.size, .int .i64 r.view, .bool r.normal, .int .i64 r.last, .slice h.L.1 h.L.2.1 h.L.2.2, .int .i64 r.commit, .slice h.O.1 h.O.2.1 h.O.2.2, .slice h.A.1 h.A.2.1 h.A.2.2, .slice h.D.1 h.D.2.1 h.D.2.2][0]? ∧ ∀ k : Nat, k < 10 → w'.cell? ⟨b, oz + k, none⟩ = [.int .i64 r.id, .int .i64 r.size, .int .i64 r.view, .bool r.normal, .int .i64 r.last, .slice h.L.1 h.L.2.1 h.L.2.2, .int .i64 r.commit, .slice h.O.1 h.O.2.1 h.O.2.2, .slice h.A.1 h.A.2.1 h.A.2.2, .slice h.D.1 h.D.2.1 h.D.2.2][k]?)))) (by kernel_rfl) ⟨c0, cy⟩ (fun hZq => ?_)
 refine tk 0 hZq ?_
 refine tk 1 hZq ?_
 refine rd1 2 (fun KK hKK => ?_)
 go_simp
 go_at_call 62
 refine (l1In_is' 2 1 6 _ true (by simp only [decide_eq_true_eq]; omega)).mono ?_
 rintro e W9 ⟨rfl, rfl⟩
 clear hZq
 refine hKK _ _ ⟨c0, cy⟩ (fun hZq => ?_)
 clear hKK KK
 refine tk 3 hZq ?_
 refine tk 4 hZq ?_
 refine tk 5 hZq ?_
 refine tk 6 hZq ?_
 refine tk 7 hZq ?_
 refine tk 8 hZq ?_
 refine tk 9 hZq ?_
 refine tk 10 hZq ?_
 refine tk 11 hZq ?_
 refine tk 12 hZq ?_
 refine wpAnyH_done (by kernel_rfl) ?_ _
 go_wp2_with fail
 obtain ⟨nb, hnb⟩ : ∃ nb, decide (numsM r ⟨2, fr, r.id, view, at_, has, en, last, log, commit⟩ ∧ numN true false false ⟨2, fr, r.id, view, at_, has, en, last, log, commit⟩) = nb := ⟨_, rfl⟩
 have HN : Hid _ := hnb
 clear hnb
 refine (l9Numbers2O_is b oz r h fr r.id view at_ has en last log commit hm hS _ Y nb HN.out).mono ?_
 rintro e w3 ⟨rfl, BB⟩
 replace X0 := X0.below BB
 replace c0 := X0.cell
 replace B := below_next B BB
 clear BB
 clear Y cy
 cases nb
 ·have e := tail_no HT.out (fun z => of_decide_eq_false HN.out ⟨z.1, z.2.1, fun q => absurd q (by simp), fun q => absurd q (by simp)⟩)
  subst e
  clear HT
  go_wp2
  go_ret
  exact ⟨rfl, B⟩
 have HNT := of_decide_eq_true HN.out
 have HM : Hid (numsM r ⟨2, fr, r.id, view, at_, has, en, last, log, commit⟩) := HNT.1
 have HU : Hid (numF true false ⟨2, fr, r.id, view, at_, has, en, last, log, commit⟩) := ⟨HNT.2.1, fun q => absurd q (by simp)⟩
 have HC : Hid (agrF false false ⟨2, fr, r.id, view, at_, has, en, last, log, commit⟩ = 0) := by show _ = _; unfold agrF; simp
 clear HNT HN
 obtain ⟨eb, heb⟩ : ∃ eb, decide (excF true false false false false ⟨2, fr, r.id, view, at_, has, en, last, log, commit⟩) = eb := ⟨_, rfl⟩
 have HB : Hid _ := heb
 clear heb
 have e := tail_exc HT.out HM.out HU.out HC.out (fun z => absurd z.1 (by simp)) HB.out
 subst e
 clear HT
 go_wp2_with fail
 refine (l9Bare2_is fr r.id view at_ has en last log commit hm HL.out _ eb HB.out).mono ?_
 rintro e w6 ⟨rfl, BB⟩
 replace X0 := X0.below BB
 replace c0 := X0.cell
 replace B := below_next B BB
 clear BB
 cases eb
 ·go_wp2
  go_ret
  exact ⟨rfl, B⟩
 ·go_wp2
  go_ret
  exact ⟨rfl, B⟩
theorem l9Mail3O_is {o2 : Bool} {l2 u2 : Nat} (b oz : Nat) (r : Rep) (h : RH) (fr view at_ : Int) (has : Bool) (en : En) (last : Int) (log : List En) (commit : Int) (hm : Hd) (hS : 1 ≤ r.size ∧ r.size ≤ 5) (w : World) (Y : Ro w b oz [.int .i64 r.id, .int .i64 r.size, .int .i64 r.view, .bool r.normal, .int .i64 r.last, .slice h.L.1 h.L.2.1 h.L.2.2, .int .i64 r.commit, .slice h.O.1 h.O.2.1 h.O.2.2, .slice h.A.1 h.A.2.1 h.A.2.2, .slice h.D.1 h.D.2.1 h.D.2.2]) (y : RowAt w o2 l2 u2 6 hm.1 hm.2.1 hm.2.2 (sixs log)) (d : Int) (HT : Hid (tailF false false false false false r ⟨3, fr, r.id, view, at_, has, en, last, log, commit⟩ = d)) : Calls Try.prog 72 #[.pointer (some ⟨b, oz, none⟩), .agg #[.int .i64 3, .int .i64 fr, .int .i64 r.id, .int .i64 view, .int .i64 at_, .bool has, .int .i64 en.1, .int .i64 en.2.1, .int .i64 en.2.2.1, .int .i64 en.2.2.2.1, .int .i64 en.2.2.2.2.1, .int .i64 en.2.2.2.2.2, .int .i64 last, .slice hm.1 hm.2.1 hm.2.2, .int .i64 commit]] w fun e w' => e = .returned (.int .i64 d) ∧ Below w.heap.size w w' := by
 have hL := y.nSixs
 have HL : Hid _ := hL
 clear hL
 have q4' : (r.id != r.id) = false := by simp
 go_enter Try.func72, Try.ntmps72
 go_wp2_with (first | ((with_reducible refine box_newX 99 [.int .i64 3, .int .i64 fr, .int .i64 r.id, .int .i64 view, .int .i64 at_, .bool has, .int .i64 en.1, .int .i64 en.2.1, .int .i64 en.2.2.1, .int .i64 en.2.2.2.1, .int .i64 en.2.2.2.2.1, .int .i64 en.2.2.2.2.2, .int .i64 last, .slice hm.1 hm.2.1 hm.2.2, .int .i64 commit] rfl ?_); intro b0 W0 N0; have ob0 := N0.ge; have B := N0.below; obtain ⟨X0, c0⟩ := N0.c; clear N0) | fail)
 replace Y := Y.below B
 have DQ : Below W0.heap.size W0 W0.drew := (Below.refl _ _).drew
 replace X0 := X0.below DQ
 replace c0 := X0.cell
 replace B := below_next B DQ
 clear DQ
 replace Y := Y.below (show Below W0.heap.size W0 W0.drew from (Below.refl _ _).drew)
 have cy := Y.cell
 refine wp_region_held_drew (S := (fun w' => (∀ k : Nat, w'.cell? ⟨b0, k, none⟩ = [.int .i64 3, .int .i64 fr, .int .i64 r.id, .int .i64 view, .int .i64 at_, .bool has, .int .i64 en.1, .int .i64 en.2.1, .int .i64 en.2.2.1, .int .i64 en.2.2.2.1, .int .i64 en.2.2.2.2.1, .int .i64 en.2.2.2.2.2, .int .i64 last, .slice hm.1 hm.2.1 hm.2.2, .int .i64 commit][k]?) ∧ ((w'.cell? ⟨b, oz, none⟩ = [.int .i64 r.id, .int .i64 r.size, .int .i64 r.view, .bool r.normal, .int .i64 r.last, .slice h.L.1 h.L.2.1 h.L.2.2, .int .i64 r.commit, .slice h.O.1 h.O.2.1 h.O.2.2, .slice h.A.1 h.A.2.1 h.A.2.2, .slice h.D.1 h.D.2.1 h.D.2.2][0]? ∧ ∀ k : Nat, k < 10 → w'.cell? ⟨b, oz + k, none⟩ = [.int .i64 r.id, .int .i64 r.size, .int .i64 r.view, .bool r.normal, .int .i64 r.last, .slice h.L.1 h.L.2.1 h.L.2.2, .int .i64 r.commit, .slice h.O.1 h.O.2.1 h.O.2.2, .slice h.A.1 h.A.2.1 h.A.2.2, .slice h.D.1 h.D.2.1 h.D.2.2][k]?)))) (by kernel_rfl) ⟨c0, cy⟩ (fun hZq => ?_)
 refine tk 0 hZq ?_
 refine tk 1 hZq ?_
 refine rd1 2 (fun KK hKK => ?_)
 go_simp
 go_at_call 62
 refine (l1In_is' 3 1 6 _ true (by simp only [decide_eq_true_eq]; omega)).mono ?_
 rintro e W9 ⟨rfl, rfl⟩
 clear hZq
 refine hKK _ _ ⟨c0, cy⟩ (fun hZq => ?_)
 clear hKK KK
 refine tk 3 hZq ?_
 refine tk 4 hZq ?_
 refine tk 5 hZq ?_
 refine tk 6 hZq ?_
 refine tk 7 hZq ?_
 refine tk 8 hZq ?_
 refine tk 9 hZq ?_
 refine tk 10 hZq ?_
 refine tk 11 hZq ?_
 refine tk 12 hZq ?_
 refine wpAnyH_done (by kernel_rfl) ?_ _
 go_wp2_with fail
 obtain ⟨nb, hnb⟩ : ∃ nb, decide (numsM r ⟨3, fr, r.id, view, at_, has, en, last, log, commit⟩ ∧ numN false false false ⟨3, fr, r.id, view, at_, has, en, last, log, commit⟩) = nb := ⟨_, rfl⟩
 have HN : Hid _ := hnb
 clear hnb
 refine (l9Numbers3O_is b oz r h fr r.id view at_ has en last log commit hm hS _ Y nb HN.out).mono ?_
 rintro e w3 ⟨rfl, BB⟩
 replace X0 := X0.below BB
 replace c0 := X0.cell
 replace B := below_next B BB
 clear BB
 clear Y cy
 cases nb
 ·have e := tail_no HT.out (fun z => of_decide_eq_false HN.out ⟨z.1, fun q => absurd q (by simp), fun q => absurd q (by simp), fun q => absurd q (by simp)⟩)
  subst e
  clear HT
  go_wp2
  go_ret
  exact ⟨rfl, B⟩
 have HNT := of_decide_eq_true HN.out
 have HM : Hid (numsM r ⟨3, fr, r.id, view, at_, has, en, last, log, commit⟩) := HNT.1
 have HU : Hid (numF false false ⟨3, fr, r.id, view, at_, has, en, last, log, commit⟩) := ⟨fun q => absurd q (by simp), fun q => absurd q (by simp)⟩
 have HC : Hid (agrF false false ⟨3, fr, r.id, view, at_, has, en, last, log, commit⟩ = 0) := by show _ = _; unfold agrF; simp
 clear HNT HN
 obtain ⟨eb, heb⟩ : ∃ eb, decide (excF false false false false false ⟨3, fr, r.id, view, at_, has, en, last, log, commit⟩) = eb := ⟨_, rfl⟩
 have HB : Hid _ := heb
 clear heb
 have e := tail_exc HT.out HM.out HU.out HC.out (fun z => absurd z.1 (by simp)) HB.out
 subst e
 clear HT
 go_wp2_with fail
 refine (l9Bare3_is fr r.id view at_ has en last log commit hm HL.out _ eb HB.out).mono ?_
 rintro e w6 ⟨rfl, BB⟩
 replace X0 := X0.below BB
 replace c0 := X0.cell
 replace B := below_next B BB
 clear BB
 cases eb
 ·go_wp2
  go_ret
  exact ⟨rfl, B⟩
 ·go_wp2
  go_ret
  exact ⟨rfl, B⟩
theorem l9Mail4O_is {o2 : Bool} {l2 u2 : Nat} (b oz : Nat) (r : Rep) (h : RH) (fr view at_ : Int) (has : Bool) (en : En) (last : Int) (log : List En) (commit : Int) (hm : Hd) (hS : 1 ≤ r.size ∧ r.size ≤ 5) (w : World) (Y : Ro w b oz [.int .i64 r.id, .int .i64 r.size, .int .i64 r.view, .bool r.normal, .int .i64 r.last, .slice h.L.1 h.L.2.1 h.L.2.2, .int .i64 r.commit, .slice h.O.1 h.O.2.1 h.O.2.2, .slice h.A.1 h.A.2.1 h.A.2.2, .slice h.D.1 h.D.2.1 h.D.2.2]) (y : RowAt w o2 l2 u2 6 hm.1 hm.2.1 hm.2.2 (sixs log)) (d : Int) (HT : Hid (tailF false false true true true r ⟨4, fr, r.id, view, at_, has, en, last, log, commit⟩ = d)) : Calls Try.prog 72 #[.pointer (some ⟨b, oz, none⟩), .agg #[.int .i64 4, .int .i64 fr, .int .i64 r.id, .int .i64 view, .int .i64 at_, .bool has, .int .i64 en.1, .int .i64 en.2.1, .int .i64 en.2.2.1, .int .i64 en.2.2.2.1, .int .i64 en.2.2.2.2.1, .int .i64 en.2.2.2.2.2, .int .i64 last, .slice hm.1 hm.2.1 hm.2.2, .int .i64 commit]] w fun e w' => e = .returned (.int .i64 d) ∧ Below w.heap.size w w' := by
 have hL := y.nSixs
 have HL : Hid _ := hL
 clear hL
 have q4' : (r.id != r.id) = false := by simp
 go_enter Try.func72, Try.ntmps72
 go_wp2_with (first | ((with_reducible refine box_newX 99 [.int .i64 4, .int .i64 fr, .int .i64 r.id, .int .i64 view, .int .i64 at_, .bool has, .int .i64 en.1, .int .i64 en.2.1, .int .i64 en.2.2.1, .int .i64 en.2.2.2.1, .int .i64 en.2.2.2.2.1, .int .i64 en.2.2.2.2.2, .int .i64 last, .slice hm.1 hm.2.1 hm.2.2, .int .i64 commit] rfl ?_); intro b0 W0 N0; have ob0 := N0.ge; have B := N0.below; obtain ⟨X0, c0⟩ := N0.c; clear N0) | fail)
 replace Y := Y.below B
 have DQ : Below W0.heap.size W0 W0.drew := (Below.refl _ _).drew
 replace X0 := X0.below DQ
 replace c0 := X0.cell
 replace B := below_next B DQ
 clear DQ
 replace Y := Y.below (show Below W0.heap.size W0 W0.drew from (Below.refl _ _).drew)
 have cy := Y.cell
 refine wp_region_held_drew (S := (fun w' => (∀ k : Nat, w'.cell? ⟨b0, k, none⟩ = [.int .i64 4, .int .i64 fr, .int .i64 r.id, .int .i64 view, .int .i64 at_, .bool has, .int .i64 en.1, .int .i64 en.2.1, .int .i64 en.2.2.1, .int .i64 en.2.2.2.1, .int .i64 en.2.2.2.2.1, .int .i64 en.2.2.2.2.2, .int .i64 last, .slice hm.1 hm.2.1 hm.2.2, .int .i64 commit][k]?) ∧ ((w'.cell? ⟨b, oz, none⟩ = [.int .i64 r.id, .int .i64 r.size, .int .i64 r.view, .bool r.normal, .int .i64 r.last, .slice h.L.1 h.L.2.1 h.L.2.2, .int .i64 r.commit, .slice h.O.1 h.O.2.1 h.O.2.2, .slice h.A.1 h.A.2.1 h.A.2.2, .slice h.D.1 h.D.2.1 h.D.2.2][0]? ∧ ∀ k : Nat, k < 10 → w'.cell? ⟨b, oz + k, none⟩ = [.int .i64 r.id, .int .i64 r.size, .int .i64 r.view, .bool r.normal, .int .i64 r.last, .slice h.L.1 h.L.2.1 h.L.2.2, .int .i64 r.commit, .slice h.O.1 h.O.2.1 h.O.2.2, .slice h.A.1 h.A.2.1 h.A.2.2, .slice h.D.1 h.D.2.1 h.D.2.2][k]?)))) (by kernel_rfl) ⟨c0, cy⟩ (fun hZq => ?_)
 refine tk 0 hZq ?_
 refine tk 1 hZq ?_
 refine rd1 2 (fun KK hKK => ?_)
 go_simp
 go_at_call 62
 refine (l1In_is' 4 1 6 _ true (by simp only [decide_eq_true_eq]; omega)).mono ?_
 rintro e W9 ⟨rfl, rfl⟩
 clear hZq
 refine hKK _ _ ⟨c0, cy⟩ (fun hZq => ?_)
 clear hKK KK
 refine tk 3 hZq ?_
 refine tk 4 hZq ?_
 refine tk 5 hZq ?_
 refine tk 6 hZq ?_
 refine tk 7 hZq ?_
 refine tk 8 hZq ?_
 refine tk 9 hZq ?_
 refine tk 10 hZq ?_
 refine tk 11 hZq ?_
 refine tk 12 hZq ?_
 refine wpAnyH_done (by kernel_rfl) ?_ _
 go_wp2_with fail
 obtain ⟨nb, hnb⟩ : ∃ nb, decide (numsM r ⟨4, fr, r.id, view, at_, has, en, last, log, commit⟩ ∧ numN false false true ⟨4, fr, r.id, view, at_, has, en, last, log, commit⟩) = nb := ⟨_, rfl⟩
 have HN : Hid _ := hnb
 clear hnb
 refine (l9Numbers4O_is b oz r h fr r.id view at_ has en last log commit hm hS _ Y nb HN.out).mono ?_
 rintro e w3 ⟨rfl, BB⟩
 replace X0 := X0.below BB
 replace c0 := X0.cell
 replace B := below_next B BB
 clear BB
 clear Y cy
 cases nb
 ·have e := tail_no HT.out (fun z => of_decide_eq_false HN.out ⟨z.1, fun q => absurd q (by simp), fun q => absurd q (by simp), z.2.2⟩)
  subst e
  clear HT
  go_wp2
  go_ret
  exact ⟨rfl, B⟩
 have HNT := of_decide_eq_true HN.out
 have HM : Hid (numsM r ⟨4, fr, r.id, view, at_, has, en, last, log, commit⟩) := HNT.1
 have HU : Hid (numF false true ⟨4, fr, r.id, view, at_, has, en, last, log, commit⟩) := ⟨fun q => absurd q (by simp), HNT.2.2.2⟩
 clear HNT HN
 obtain ⟨f, hf⟩ : ∃ f, logF log = f := ⟨_, rfl⟩
 have HA : Hid (agrF true true ⟨4, fr, r.id, view, at_, has, en, last, log, commit⟩ = (if f = 0 then (if 0 ≤ commit ∧ commit ≤ hm.2.1 then 0 else 3) else f)) := by show _ = _; unfold agrF lgF; rw [if_pos rfl, ← hf, ← HL.out]
 have HF : Hid _ := hf
 clear hf
 go_wp2_with fail
 refine (specLF_is _ _ _ log _ (y.below B) f HF.out).mono ?_
 rintro e w4 ⟨rfl, BB⟩
 replace X0 := X0.below BB
 replace c0 := X0.cell
 replace B := below_next B BB
 clear BB
 by_cases q8 : f = 0
 rotate_left 1
 ·have e := tail_agr HT.out HM.out HU.out (HA.out.trans (if_neg q8)) q8
  subst e
  have q8' : (d != 0) = true := by simp [q8]
  clear HT HA
  go_wp2
  go_ret
  exact ⟨rfl, B⟩
 subst q8
 have HA1 : Hid (¬ (0 ≤ commit ∧ commit ≤ hm.2.1) → agrF true true ⟨4, fr, r.id, view, at_, has, en, last, log, commit⟩ = 3) := fun z => HA.out.trans ((if_pos rfl).trans (if_neg z))
 have HA2 : Hid (0 ≤ commit ∧ commit ≤ hm.2.1 → agrF true true ⟨4, fr, r.id, view, at_, has, en, last, log, commit⟩ = 0) := fun z => HA.out.trans ((if_pos rfl).trans (if_pos z))
 clear HA
 go_wp2_with fail
 by_cases qc : 0 ≤ commit ∧ commit ≤ hm.2.1
 rotate_left 1
 ·have e := tail_agr HT.out HM.out HU.out (HA1.out qc) (by simp)
  subst e
  clear HT HA1 HA2
  refine (l1In_is' commit 0 hm.2.1 _ false (by simp only [decide_eq_false_eq]; exact qc)).mono ?_
  rintro e W9 ⟨rfl, rfl⟩
  go_wp2
  go_ret
  exact ⟨rfl, B⟩
 refine (l1In_is' commit 0 hm.2.1 _ true (by simp only [decide_eq_true_eq]; exact qc)).mono ?_
 rintro e W9 ⟨rfl, rfl⟩
 have HC : Hid (agrF true true ⟨4, fr, r.id, view, at_, has, en, last, log, commit⟩ = 0) := HA2.out qc
 clear HA1 HA2
 obtain ⟨eb, heb⟩ : ∃ eb, decide (excF false false true true true ⟨4, fr, r.id, view, at_, has, en, last, log, commit⟩) = eb := ⟨_, rfl⟩
 have HB : Hid _ := heb
 clear heb
 have e := tail_exc HT.out HM.out HU.out HC.out (fun z => absurd z.1 (by simp)) HB.out
 subst e
 clear HT
 go_wp2_with fail
 refine (l9Bare4_is fr r.id view at_ has en last log commit hm HL.out _ eb HB.out).mono ?_
 rintro e w6 ⟨rfl, BB⟩
 replace X0 := X0.below BB
 replace c0 := X0.cell
 replace B := below_next B BB
 clear BB
 cases eb
 ·go_wp2
  go_ret
  exact ⟨rfl, B⟩
 ·go_wp2
  go_ret
  exact ⟨rfl, B⟩
theorem l9Mail5O_is {o2 : Bool} {l2 u2 : Nat} (b oz : Nat) (r : Rep) (h : RH) (fr view at_ : Int) (has : Bool) (en : En) (last : Int) (log : List En) (commit : Int) (hm : Hd) (hS : 1 ≤ r.size ∧ r.size ≤ 5) (w : World) (Y : Ro w b oz [.int .i64 r.id, .int .i64 r.size, .int .i64 r.view, .bool r.normal, .int .i64 r.last, .slice h.L.1 h.L.2.1 h.L.2.2, .int .i64 r.commit, .slice h.O.1 h.O.2.1 h.O.2.2, .slice h.A.1 h.A.2.1 h.A.2.2, .slice h.D.1 h.D.2.1 h.D.2.2]) (y : RowAt w o2 l2 u2 6 hm.1 hm.2.1 hm.2.2 (sixs log)) (d : Int) (HT : Hid (tailF false false false true true r ⟨5, fr, r.id, view, at_, has, en, last, log, commit⟩ = d)) : Calls Try.prog 72 #[.pointer (some ⟨b, oz, none⟩), .agg #[.int .i64 5, .int .i64 fr, .int .i64 r.id, .int .i64 view, .int .i64 at_, .bool has, .int .i64 en.1, .int .i64 en.2.1, .int .i64 en.2.2.1, .int .i64 en.2.2.2.1, .int .i64 en.2.2.2.2.1, .int .i64 en.2.2.2.2.2, .int .i64 last, .slice hm.1 hm.2.1 hm.2.2, .int .i64 commit]] w fun e w' => e = .returned (.int .i64 d) ∧ Below w.heap.size w w' := by
 have hL := y.nSixs
 have HL : Hid _ := hL
 clear hL
 have q4' : (r.id != r.id) = false := by simp
 go_enter Try.func72, Try.ntmps72
 go_wp2_with (first | ((with_reducible refine box_newX 99 [.int .i64 5, .int .i64 fr, .int .i64 r.id, .int .i64 view, .int .i64 at_, .bool has, .int .i64 en.1, .int .i64 en.2.1, .int .i64 en.2.2.1, .int .i64 en.2.2.2.1, .int .i64 en.2.2.2.2.1, .int .i64 en.2.2.2.2.2, .int .i64 last, .slice hm.1 hm.2.1 hm.2.2, .int .i64 commit] rfl ?_); intro b0 W0 N0; have ob0 := N0.ge; have B := N0.below; obtain ⟨X0, c0⟩ := N0.c; clear N0) | fail)
 replace Y := Y.below B
 have DQ : Below W0.heap.size W0 W0.drew := (Below.refl _ _).drew
 replace X0 := X0.below DQ
 replace c0 := X0.cell
 replace B := below_next B DQ
 clear DQ
 replace Y := Y.below (show Below W0.heap.size W0 W0.drew from (Below.refl _ _).drew)
 have cy := Y.cell
 refine wp_region_held_drew (S := (fun w' => (∀ k : Nat, w'.cell? ⟨b0, k, none⟩ = [.int .i64 5, .int .i64 fr, .int .i64 r.id, .int .i64 view, .int .i64 at_, .bool has, .int .i64 en.1, .int .i64 en.2.1, .int .i64 en.2.2.1, .int .i64 en.2.2.2.1, .int .i64 en.2.2.2.2.1, .int .i64 en.2.2.2.2.2, .int .i64 last, .slice hm.1 hm.2.1 hm.2.2, .int .i64 commit][k]?) ∧ ((w'.cell? ⟨b, oz, none⟩ = [.int .i64 r.id, .int .i64 r.size, .int .i64 r.view, .bool r.normal, .int .i64 r.last, .slice h.L.1 h.L.2.1 h.L.2.2, .int .i64 r.commit, .slice h.O.1 h.O.2.1 h.O.2.2, .slice h.A.1 h.A.2.1 h.A.2.2, .slice h.D.1 h.D.2.1 h.D.2.2][0]? ∧ ∀ k : Nat, k < 10 → w'.cell? ⟨b, oz + k, none⟩ = [.int .i64 r.id, .int .i64 r.size, .int .i64 r.view, .bool r.normal, .int .i64 r.last, .slice h.L.1 h.L.2.1 h.L.2.2, .int .i64 r.commit, .slice h.O.1 h.O.2.1 h.O.2.2, .slice h.A.1 h.A.2.1 h.A.2.2, .slice h.D.1 h.D.2.1 h.D.2.2][k]?)))) (by kernel_rfl) ⟨c0, cy⟩ (fun hZq => ?_)
 refine tk 0 hZq ?_
 refine tk 1 hZq ?_
 refine rd1 2 (fun KK hKK => ?_)
 go_simp
 go_at_call 62
 refine (l1In_is' 5 1 6 _ true (by simp only [decide_eq_true_eq]; omega)).mono ?_
 rintro e W9 ⟨rfl, rfl⟩
 clear hZq
 refine hKK _ _ ⟨c0, cy⟩ (fun hZq => ?_)
 clear hKK KK
 refine tk 3 hZq ?_
 refine tk 4 hZq ?_
 refine tk 5 hZq ?_
 refine tk 6 hZq ?_
 refine tk 7 hZq ?_
 refine tk 8 hZq ?_
 refine tk 9 hZq ?_
 refine tk 10 hZq ?_
 refine tk 11 hZq ?_
 refine tk 12 hZq ?_
 refine wpAnyH_done (by kernel_rfl) ?_ _
 go_wp2_with fail
 obtain ⟨nb, hnb⟩ : ∃ nb, decide (numsM r ⟨5, fr, r.id, view, at_, has, en, last, log, commit⟩ ∧ numN false false false ⟨5, fr, r.id, view, at_, has, en, last, log, commit⟩) = nb := ⟨_, rfl⟩
 have HN : Hid _ := hnb
 clear hnb
 refine (l9Numbers5O_is b oz r h fr r.id view at_ has en last log commit hm hS _ Y nb HN.out).mono ?_
 rintro e w3 ⟨rfl, BB⟩
 replace X0 := X0.below BB
 replace c0 := X0.cell
 replace B := below_next B BB
 clear BB
 clear Y cy
 cases nb
 ·have e := tail_no HT.out (fun z => of_decide_eq_false HN.out ⟨z.1, fun q => absurd q (by simp), fun q => absurd q (by simp), fun q => absurd q (by simp)⟩)
  subst e
  clear HT
  go_wp2
  go_ret
  exact ⟨rfl, B⟩
 have HNT := of_decide_eq_true HN.out
 have HM : Hid (numsM r ⟨5, fr, r.id, view, at_, has, en, last, log, commit⟩) := HNT.1
 have HU : Hid (numF false false ⟨5, fr, r.id, view, at_, has, en, last, log, commit⟩) := ⟨fun q => absurd q (by simp), fun q => absurd q (by simp)⟩
 clear HNT HN
 obtain ⟨f, hf⟩ : ∃ f, logF log = f := ⟨_, rfl⟩
 have HA : Hid (agrF true true ⟨5, fr, r.id, view, at_, has, en, last, log, commit⟩ = (if f = 0 then (if 0 ≤ commit ∧ commit ≤ hm.2.1 then 0 else 3) else f)) := by show _ = _; unfold agrF lgF; rw [if_pos rfl, ← hf, ← HL.out]
 have HF : Hid _ := hf
 clear hf
 go_wp2_with fail
 refine (specLF_is _ _ _ log _ (y.below B) f HF.out).mono ?_
 rintro e w4 ⟨rfl, BB⟩
 replace X0 := X0.below BB
 replace c0 := X0.cell
 replace B := below_next B BB
 clear BB
 by_cases q8 : f = 0
 rotate_left 1
 ·have e := tail_agr HT.out HM.out HU.out (HA.out.trans (if_neg q8)) q8
  subst e
  have q8' : (d != 0) = true := by simp [q8]
  clear HT HA
  go_wp2
  go_ret
  exact ⟨rfl, B⟩
 subst q8
 have HA1 : Hid (¬ (0 ≤ commit ∧ commit ≤ hm.2.1) → agrF true true ⟨5, fr, r.id, view, at_, has, en, last, log, commit⟩ = 3) := fun z => HA.out.trans ((if_pos rfl).trans (if_neg z))
 have HA2 : Hid (0 ≤ commit ∧ commit ≤ hm.2.1 → agrF true true ⟨5, fr, r.id, view, at_, has, en, last, log, commit⟩ = 0) := fun z => HA.out.trans ((if_pos rfl).trans (if_pos z))
 clear HA
 go_wp2_with fail
 by_cases qc : 0 ≤ commit ∧ commit ≤ hm.2.1
 rotate_left 1
 ·have e := tail_agr HT.out HM.out HU.out (HA1.out qc) (by simp)
  subst e
  clear HT HA1 HA2
  refine (l1In_is' commit 0 hm.2.1 _ false (by simp only [decide_eq_false_eq]; exact qc)).mono ?_
  rintro e W9 ⟨rfl, rfl⟩
  go_wp2
  go_ret
  exact ⟨rfl, B⟩
 refine (l1In_is' commit 0 hm.2.1 _ true (by simp only [decide_eq_true_eq]; exact qc)).mono ?_
 rintro e W9 ⟨rfl, rfl⟩
 have HC : Hid (agrF true true ⟨5, fr, r.id, view, at_, has, en, last, log, commit⟩ = 0) := HA2.out qc
 clear HA1 HA2
 obtain ⟨eb, heb⟩ : ∃ eb, decide (excF false false false true true ⟨5, fr, r.id, view, at_, has, en, last, log, commit⟩) = eb := ⟨_, rfl⟩
 have HB : Hid _ := heb
 clear heb
 have e := tail_exc HT.out HM.out HU.out HC.out (fun z => absurd z.1 (by simp)) HB.out
 subst e
 clear HT
 go_wp2_with fail
 refine (l9Bare5_is fr r.id view at_ has en last log commit hm HL.out _ eb HB.out).mono ?_
 rintro e w6 ⟨rfl, BB⟩
 replace X0 := X0.below BB
 replace c0 := X0.cell
 replace B := below_next B BB
 clear BB
 cases eb
 ·go_wp2
  go_ret
  exact ⟨rfl, B⟩
 ·go_wp2
  go_ret
  exact ⟨rfl, B⟩
theorem l9Mail6O_is {o2 : Bool} {l2 u2 : Nat} (b oz : Nat) (r : Rep) (h : RH) (fr view at_ : Int) (has : Bool) (en : En) (last : Int) (log : List En) (commit : Int) (hm : Hd) (hS : 1 ≤ r.size ∧ r.size ≤ 5) (w : World) (Y : Ro w b oz [.int .i64 r.id, .int .i64 r.size, .int .i64 r.view, .bool r.normal, .int .i64 r.last, .slice h.L.1 h.L.2.1 h.L.2.2, .int .i64 r.commit, .slice h.O.1 h.O.2.1 h.O.2.2, .slice h.A.1 h.A.2.1 h.A.2.2, .slice h.D.1 h.D.2.1 h.D.2.2]) (y : RowAt w o2 l2 u2 6 hm.1 hm.2.1 hm.2.2 (sixs log)) (d : Int) (HT : Hid (tailF false false false false false r ⟨6, fr, r.id, view, at_, has, en, last, log, commit⟩ = d)) : Calls Try.prog 72 #[.pointer (some ⟨b, oz, none⟩), .agg #[.int .i64 6, .int .i64 fr, .int .i64 r.id, .int .i64 view, .int .i64 at_, .bool has, .int .i64 en.1, .int .i64 en.2.1, .int .i64 en.2.2.1, .int .i64 en.2.2.2.1, .int .i64 en.2.2.2.2.1, .int .i64 en.2.2.2.2.2, .int .i64 last, .slice hm.1 hm.2.1 hm.2.2, .int .i64 commit]] w fun e w' => e = .returned (.int .i64 d) ∧ Below w.heap.size w w' := by
 have hL := y.nSixs
 have HL : Hid _ := hL
 clear hL
 have q4' : (r.id != r.id) = false := by simp
 go_enter Try.func72, Try.ntmps72
 go_wp2_with (first | ((with_reducible refine box_newX 99 [.int .i64 6, .int .i64 fr, .int .i64 r.id, .int .i64 view, .int .i64 at_, .bool has, .int .i64 en.1, .int .i64 en.2.1, .int .i64 en.2.2.1, .int .i64 en.2.2.2.1, .int .i64 en.2.2.2.2.1, .int .i64 en.2.2.2.2.2, .int .i64 last, .slice hm.1 hm.2.1 hm.2.2, .int .i64 commit] rfl ?_); intro b0 W0 N0; have ob0 := N0.ge; have B := N0.below; obtain ⟨X0, c0⟩ := N0.c; clear N0) | fail)
 replace Y := Y.below B
 have DQ : Below W0.heap.size W0 W0.drew := (Below.refl _ _).drew
 replace X0 := X0.below DQ
 replace c0 := X0.cell
 replace B := below_next B DQ
 clear DQ
 replace Y := Y.below (show Below W0.heap.size W0 W0.drew from (Below.refl _ _).drew)
 have cy := Y.cell
 refine wp_region_held_drew (S := (fun w' => (∀ k : Nat, w'.cell? ⟨b0, k, none⟩ = [.int .i64 6, .int .i64 fr, .int .i64 r.id, .int .i64 view, .int .i64 at_, .bool has, .int .i64 en.1, .int .i64 en.2.1, .int .i64 en.2.2.1, .int .i64 en.2.2.2.1, .int .i64 en.2.2.2.2.1, .int .i64 en.2.2.2.2.2, .int .i64 last, .slice hm.1 hm.2.1 hm.2.2, .int .i64 commit][k]?) ∧ ((w'.cell? ⟨b, oz, none⟩ = [.int .i64 r.id, .int .i64 r.size, .int .i64 r.view, .bool r.normal, .int .i64 r.last, .slice h.L.1 h.L.2.1 h.L.2.2, .int .i64 r.commit, .slice h.O.1 h.O.2.1 h.O.2.2, .slice h.A.1 h.A.2.1 h.A.2.2, .slice h.D.1 h.D.2.1 h.D.2.2][0]? ∧ ∀ k : Nat, k < 10 → w'.cell? ⟨b, oz + k, none⟩ = [.int .i64 r.id, .int .i64 r.size, .int .i64 r.view, .bool r.normal, .int .i64 r.last, .slice h.L.1 h.L.2.1 h.L.2.2, .int .i64 r.commit, .slice h.O.1 h.O.2.1 h.O.2.2, .slice h.A.1 h.A.2.1 h.A.2.2, .slice h.D.1 h.D.2.1 h.D.2.2][k]?)))) (by kernel_rfl) ⟨c0, cy⟩ (fun hZq => ?_)
 refine tk 0 hZq ?_
 refine tk 1 hZq ?_
 refine rd1 2 (fun KK hKK => ?_)
 go_simp
 go_at_call 62
 refine (l1In_is' 6 1 6 _ true (by simp only [decide_eq_true_eq]; omega)).mono ?_
 rintro e W9 ⟨rfl, rfl⟩
 clear hZq
 refine hKK _ _ ⟨c0, cy⟩ (fun hZq => ?_)
 clear hKK KK
 refine tk 3 hZq ?_
 refine tk 4 hZq ?_
 refine tk 5 hZq ?_
 refine tk 6 hZq ?_
 refine tk 7 hZq ?_
 refine tk 8 hZq ?_
 refine tk 9 hZq ?_
 refine tk 10 hZq ?_
 refine tk 11 hZq ?_
 refine tk 12 hZq ?_
 refine wpAnyH_done (by kernel_rfl) ?_ _
 go_wp2_with fail
 obtain ⟨nb, hnb⟩ : ∃ nb, decide (numsM r ⟨6, fr, r.id, view, at_, has, en, last, log, commit⟩ ∧ numN false false false ⟨6, fr, r.id, view, at_, has, en, last, log, commit⟩) = nb := ⟨_, rfl⟩
 have HN : Hid _ := hnb
 clear hnb
 refine (l9Numbers6O_is b oz r h fr r.id view at_ has en last log commit hm hS _ Y nb HN.out).mono ?_
 rintro e w3 ⟨rfl, BB⟩
 replace X0 := X0.below BB
 replace c0 := X0.cell
 replace B := below_next B BB
 clear BB
 clear Y cy
 cases nb
 ·have e := tail_no HT.out (fun z => of_decide_eq_false HN.out ⟨z.1, fun q => absurd q (by simp), fun q => absurd q (by simp), fun q => absurd q (by simp)⟩)
  subst e
  clear HT
  go_wp2
  go_ret
  exact ⟨rfl, B⟩
 have HNT := of_decide_eq_true HN.out
 have HM : Hid (numsM r ⟨6, fr, r.id, view, at_, has, en, last, log, commit⟩) := HNT.1
 have HU : Hid (numF false false ⟨6, fr, r.id, view, at_, has, en, last, log, commit⟩) := ⟨fun q => absurd q (by simp), fun q => absurd q (by simp)⟩
 have HC : Hid (agrF false false ⟨6, fr, r.id, view, at_, has, en, last, log, commit⟩ = 0) := by show _ = _; unfold agrF; simp
 clear HNT HN
 obtain ⟨eb, heb⟩ : ∃ eb, decide (excF false false false false false ⟨6, fr, r.id, view, at_, has, en, last, log, commit⟩) = eb := ⟨_, rfl⟩
 have HB : Hid _ := heb
 clear heb
 have e := tail_exc HT.out HM.out HU.out HC.out (fun z => absurd z.1 (by simp)) HB.out
 subst e
 clear HT
 go_wp2_with fail
 refine (l9Bare6_is fr r.id view at_ has en last log commit hm HL.out _ eb HB.out).mono ?_
 rintro e w6 ⟨rfl, BB⟩
 replace X0 := X0.below BB
 replace c0 := X0.cell
 replace B := below_next B BB
 clear BB
 cases eb
 ·go_wp2
  go_ret
  exact ⟨rfl, B⟩
 ·go_wp2
  go_ret
  exact ⟨rfl, B⟩
theorem l9MailO_is {o2 : Bool} {l2 u2 : Nat} (b oz : Nat) (r : Rep) (h : RH) (m : Ml) (hm : Hd) (hS : 1 ≤ r.size ∧ r.size ≤ 5) (w : World) (Y : Ro w b oz [.int .i64 r.id, .int .i64 r.size, .int .i64 r.view, .bool r.normal, .int .i64 r.last, .slice h.L.1 h.L.2.1 h.L.2.2, .int .i64 r.commit, .slice h.O.1 h.O.2.1 h.O.2.2, .slice h.A.1 h.A.2.1 h.A.2.2, .slice h.D.1 h.D.2.1 h.D.2.2]) (y : RowAt w o2 l2 u2 6 hm.1 hm.2.1 hm.2.2 (sixs m.log)) (d : Int) (hd : (if (1 ≤ m.kind ∧ m.kind ≤ 6) ∧ m.to = r.id then tailF (formK m.kind).1 (formK m.kind).2.1 (formK m.kind).2.2.1 (formK m.kind).2.2.2.1 (formK m.kind).2.2.2.2 r m else 1) = d) : Calls Try.prog 72 #[.pointer (some ⟨b, oz, none⟩), .agg #[.int .i64 m.kind, .int .i64 m.fr, .int .i64 m.to, .int .i64 m.view, .int .i64 m.at_, .bool m.has, .int .i64 m.en.1, .int .i64 m.en.2.1, .int .i64 m.en.2.2.1, .int .i64 m.en.2.2.2.1, .int .i64 m.en.2.2.2.2.1, .int .i64 m.en.2.2.2.2.2, .int .i64 m.last, .slice hm.1 hm.2.1 hm.2.2, .int .i64 m.commit]] w fun e w' => e = .returned (.int .i64 d) ∧ Below w.heap.size w w' := by
 have hL := y.nSixs
 have HL : Hid _ := hL
 clear hL
 obtain ⟨kind, fr, to, view, at_, has, en, last, log, commit⟩ := m
 simp only at hd y HL
 by_cases q1 : 1 ≤ kind ∧ kind ≤ 6
 rotate_left 1
 ·rw [if_neg (fun z => q1 z.1)] at hd
  subst hd
  go_enter Try.func72, Try.ntmps72
  go_wp2_with (first | ((with_reducible refine box_newX 99 [.int .i64 kind, .int .i64 fr, .int .i64 to, .int .i64 view, .int .i64 at_, .bool has, .int .i64 en.1, .int .i64 en.2.1, .int .i64 en.2.2.1, .int .i64 en.2.2.2.1, .int .i64 en.2.2.2.2.1, .int .i64 en.2.2.2.2.2, .int .i64 last, .slice hm.1 hm.2.1 hm.2.2, .int .i64 commit] rfl ?_); intro b0 W0 N0; have ob0 := N0.ge; have B := N0.below; obtain ⟨X0, c0⟩ := N0.c; clear N0) | fail)
  replace Y := Y.below B
  have DQ : Below W0.heap.size W0 W0.drew := (Below.refl _ _).drew
  replace X0 := X0.below DQ
  replace c0 := X0.cell
  replace B := below_next B DQ
  clear DQ
  replace Y := Y.below (show Below W0.heap.size W0 W0.drew from (Below.refl _ _).drew)
  have cy := Y.cell
  refine wp_region_held_drew (S := (fun w' => (∀ k : Nat, w'.cell? ⟨b0, k, none⟩ = [.int .i64 kind, .int .i64 fr, .int .i64 to, .int .i64 view, .int .i64 at_, .bool has, .int .i64 en.1, .int .i64 en.2.1, .int .i64 en.2.2.1, .int .i64 en.2.2.2.1, .int .i64 en.2.2.2.2.1, .int .i64 en.2.2.2.2.2, .int .i64 last, .slice hm.1 hm.2.1 hm.2.2, .int .i64 commit][k]?) ∧ ((w'.cell? ⟨b, oz, none⟩ = [.int .i64 r.id, .int .i64 r.size, .int .i64 r.view, .bool r.normal, .int .i64 r.last, .slice h.L.1 h.L.2.1 h.L.2.2, .int .i64 r.commit, .slice h.O.1 h.O.2.1 h.O.2.2, .slice h.A.1 h.A.2.1 h.A.2.2, .slice h.D.1 h.D.2.1 h.D.2.2][0]? ∧ ∀ k : Nat, k < 10 → w'.cell? ⟨b, oz + k, none⟩ = [.int .i64 r.id, .int .i64 r.size, .int .i64 r.view, .bool r.normal, .int .i64 r.last, .slice h.L.1 h.L.2.1 h.L.2.2, .int .i64 r.commit, .slice h.O.1 h.O.2.1 h.O.2.2, .slice h.A.1 h.A.2.1 h.A.2.2, .slice h.D.1 h.D.2.1 h.D.2.2][k]?)))) (by kernel_rfl) ⟨c0, cy⟩ (fun hZq => ?_)
  refine tk 0 hZq ?_
  refine tk 1 hZq ?_
  refine rd1 2 (fun KK hKK => ?_)
  go_simp
  go_at_call 62
  refine (l1In_is' kind 1 6 _ false (by simp only [decide_eq_false_eq]; exact q1)).mono ?_
  rintro e W9 ⟨rfl, rfl⟩
  clear hZq
  refine hKK _ _ ⟨c0, cy⟩ (fun hZq => ?_)
  clear hKK KK
  refine tk 3 hZq ?_
  refine tk 4 hZq ?_
  refine tks 5 hZq ?_
  refine tks 6 hZq ?_
  refine tks 7 hZq ?_
  refine tks 8 hZq ?_
  refine tks 9 hZq ?_
  refine tks 10 hZq ?_
  refine tks 11 hZq ?_
  refine tk 12 hZq ?_
  refine wpAnyH_done (by kernel_rfl) ?_ _
  go_wp2
  go_ret
  exact ⟨rfl, B⟩
 by_cases q4 : to = r.id
 rotate_left 1
 ·rw [if_neg (fun z => q4 z.2)] at hd
  subst hd
  have q4' : (to != r.id) = true := by simp [q4]
  clear q4
  go_enter Try.func72, Try.ntmps72
  go_wp2_with (first | ((with_reducible refine box_newX 99 [.int .i64 kind, .int .i64 fr, .int .i64 to, .int .i64 view, .int .i64 at_, .bool has, .int .i64 en.1, .int .i64 en.2.1, .int .i64 en.2.2.1, .int .i64 en.2.2.2.1, .int .i64 en.2.2.2.2.1, .int .i64 en.2.2.2.2.2, .int .i64 last, .slice hm.1 hm.2.1 hm.2.2, .int .i64 commit] rfl ?_); intro b0 W0 N0; have ob0 := N0.ge; have B := N0.below; obtain ⟨X0, c0⟩ := N0.c; clear N0) | fail)
  replace Y := Y.below B
  have DQ : Below W0.heap.size W0 W0.drew := (Below.refl _ _).drew
  replace X0 := X0.below DQ
  replace c0 := X0.cell
  replace B := below_next B DQ
  clear DQ
  replace Y := Y.below (show Below W0.heap.size W0 W0.drew from (Below.refl _ _).drew)
  have cy := Y.cell
  refine wp_region_held_drew (S := (fun w' => (∀ k : Nat, w'.cell? ⟨b0, k, none⟩ = [.int .i64 kind, .int .i64 fr, .int .i64 to, .int .i64 view, .int .i64 at_, .bool has, .int .i64 en.1, .int .i64 en.2.1, .int .i64 en.2.2.1, .int .i64 en.2.2.2.1, .int .i64 en.2.2.2.2.1, .int .i64 en.2.2.2.2.2, .int .i64 last, .slice hm.1 hm.2.1 hm.2.2, .int .i64 commit][k]?) ∧ ((w'.cell? ⟨b, oz, none⟩ = [.int .i64 r.id, .int .i64 r.size, .int .i64 r.view, .bool r.normal, .int .i64 r.last, .slice h.L.1 h.L.2.1 h.L.2.2, .int .i64 r.commit, .slice h.O.1 h.O.2.1 h.O.2.2, .slice h.A.1 h.A.2.1 h.A.2.2, .slice h.D.1 h.D.2.1 h.D.2.2][0]? ∧ ∀ k : Nat, k < 10 → w'.cell? ⟨b, oz + k, none⟩ = [.int .i64 r.id, .int .i64 r.size, .int .i64 r.view, .bool r.normal, .int .i64 r.last, .slice h.L.1 h.L.2.1 h.L.2.2, .int .i64 r.commit, .slice h.O.1 h.O.2.1 h.O.2.2, .slice h.A.1 h.A.2.1 h.A.2.2, .slice h.D.1 h.D.2.1 h.D.2.2][k]?)))) (by kernel_rfl) ⟨c0, cy⟩ (fun hZq => ?_)
  refine tk 0 hZq ?_
  refine tk 1 hZq ?_
  refine rd1 2 (fun KK hKK => ?_)
  go_simp
  go_at_call 62
  refine (l1In_is' kind 1 6 _ true (by simp only [decide_eq_true_eq]; exact q1)).mono ?_
  rintro e W9 ⟨rfl, rfl⟩
  clear hZq
  refine hKK _ _ ⟨c0, cy⟩ (fun hZq => ?_)
  clear hKK KK
  refine tk 3 hZq ?_
  refine tk 4 hZq ?_
  refine tk 5 hZq ?_
  refine tk 6 hZq ?_
  refine tk 7 hZq ?_
  refine tk 8 hZq ?_
  refine tk 9 hZq ?_
  refine tk 10 hZq ?_
  refine tk 11 hZq ?_
  refine tk 12 hZq ?_
  refine wpAnyH_done (by kernel_rfl) ?_ _
  go_wp2
  go_ret
  exact ⟨rfl, B⟩
 rw [if_pos ⟨q1, q4⟩] at hd
 subst q4
 rcases (by omega : kind = 1 ∨ kind = 2 ∨ kind = 3 ∨ kind = 4 ∨ kind = 5 ∨ kind = 6) with rfl | rfl | rfl | rfl | rfl | rfl
 ·exact l9Mail1O_is b oz r h fr view at_ has en last log commit hm hS w Y y d (show tailF true true false false true r ⟨1, fr, r.id, view, at_, has, en, last, log, commit⟩ = d from hd)
 ·exact l9Mail2O_is b oz r h fr view at_ has en last log commit hm hS w Y y d (show tailF true false false false false r ⟨2, fr, r.id, view, at_, has, en, last, log, commit⟩ = d from hd)
 ·exact l9Mail3O_is b oz r h fr view at_ has en last log commit hm hS w Y y d (show tailF false false false false false r ⟨3, fr, r.id, view, at_, has, en, last, log, commit⟩ = d from hd)
 ·exact l9Mail4O_is b oz r h fr view at_ has en last log commit hm hS w Y y d (show tailF false false true true true r ⟨4, fr, r.id, view, at_, has, en, last, log, commit⟩ = d from hd)
 ·exact l9Mail5O_is b oz r h fr view at_ has en last log commit hm hS w Y y d (show tailF false false false true true r ⟨5, fr, r.id, view, at_, has, en, last, log, commit⟩ = d from hd)
 ·exact l9Mail6O_is b oz r h fr view at_ has en last log commit hm hS w Y y d (show tailF false false false false false r ⟨6, fr, r.id, view, at_, has, en, last, log, commit⟩ = d from hd)
end Go.Proofs.Ytjefmhjlaibbkaa
