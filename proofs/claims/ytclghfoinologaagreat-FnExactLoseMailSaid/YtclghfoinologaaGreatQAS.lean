/- Chapter 9: the fault of a replica, of the model. -/
import Derived.Test.YtclghfoinologaaGreatWC
import Derived.Test.YtclghfoinologaaGreatWL
set_option maxRecDepth 20000
set_option maxHeartbeats 16000000
namespace Go.Proofs.YtclghfoinologaaGreat
open Go.RowKit
theorem l9View_is (n : Int) (w : World) (d : Bool) (h : decide (0 ≤ n ∧ n ≤ 200) = d) : Calls Tryz.prog 121 #[.int .i64 n] w fun e w' => e = .returned (.bool d) ∧ w' = w := by
 go_enter Tryz.func121, Tryz.ntmps121
 go_wp2_with fail;refine (l1In_is' n 0 200 _ d h).mono ?_;rintro e W9 ⟨rfl, rfl⟩;go_wp2;go_ret;exact ⟨rfl, rfl⟩
theorem l9Doer_is {own : Bool} {lo hi : Nat} (b o : Nat) (kn : Bool) (la cm : Int) (a : Option Addr) (n cap : Nat) (xs : List En) (w : World) (e0 : w.cell? ⟨b, o, none⟩ = some (.bool kn)) (e1 : w.cell? ⟨b, o + 1, none⟩ = some (.int .i64 la)) (e2 : w.cell? ⟨b, o + 2, none⟩ = some (.slice a n cap)) (e3 : w.cell? ⟨b, o + 3, none⟩ = some (.int .i64 cm)) (h : RowAt w own lo hi 6 a n cap (sixs xs)) (d : Int) (hd : drFault (kn, la, xs, cm) = d) : Calls Tryz.prog 123 #[.pointer (some ⟨b, o, none⟩)] w fun e w' => e = .returned (.int .i64 d) ∧ Below w.heap.size w w' := by
 have hx := h.nSixs;unfold drFault at hd;simp only [hx] at hd
 have HD : Hid _ := hd
 clear hd;unfold lgF at HD;rw [hx] at HD;obtain ⟨f, hf⟩ : ∃ f, logF xs = f := ⟨_, rfl⟩;rw [hf] at HD
 have HF : Hid _ := hf
 clear hf;cases kn
 ·by_cases q1 : la = 0
  rotate_left 1
  ·have e := HD.out;rw [if_pos ⟨rfl, Or.inl q1⟩] at e;subst e
   have q1' : (la != 0) = true := by simp [q1]
   clear HD
   go_enter Tryz.func123, Tryz.ntmps123
   go_wp2;go_ret;exact ⟨rfl, Below.refl _ _⟩
  by_cases q2 : n = 0
  rotate_left 1
  ·have e := HD.out;rw [if_pos ⟨rfl, Or.inr (Or.inl q2)⟩] at e;subst e
   have q2' : (0 : Int) < (n : Int) := by omega
   have q1' : (la != 0) = false := by simp [q1]
   clear HD
   go_enter Tryz.func123, Tryz.ntmps123
   go_wp2;go_ret;exact ⟨rfl, Below.refl _ _⟩
  by_cases q3 : cm = 0
  rotate_left 1
  ·have e := HD.out;rw [if_pos ⟨rfl, Or.inr (Or.inr q3)⟩] at e;subst e
   have q3' : (cm != 0) = true := by simp [q3]
   have q2' : ¬ (0 : Int) < (n : Int) := by omega
   have q1' : (la != 0) = false := by simp [q1]
   clear HD
   go_enter Tryz.func123, Tryz.ntmps123
   go_wp2;go_ret;exact ⟨rfl, Below.refl _ _⟩
  have hd := HD.out
  rw [if_neg (by simp [q1, q2, q3])] at hd
  clear HD;subst q1;subst q3;subst q2
  go_enter Tryz.func123, Tryz.ntmps123
  go_wp2_with fail
  have hl : (0 : Int) ≤ 0 ∧ (0 : Int) ≤ 200 := by omega
  rw [if_pos hl] at hd
  refine (l9View_is 0 _ true (by simp only [decide_eq_true_eq];exact hl)).mono ?_
  rintro e W9 ⟨rfl, rfl⟩;go_wp2_with fail;refine (specLF_is a 0 cap xs _ h f HF.out).mono ?_;rintro e w1 ⟨rfl, B⟩;replace e0 := cell_later B e0;replace e1 := cell_later B e1;replace e2 := cell_later B e2;replace e3 := cell_later B e3
  by_cases q : f = 0
  rotate_left 1
  ·rw [if_neg q] at hd;subst hd
   have q' : (f != 0) = true := by simp [q]
   go_wp2;go_ret;exact ⟨rfl, B⟩
  subst q;rw [if_pos rfl] at hd
  have D : Below w1.heap.size w1 w1.drew := (Below.refl _ _).drew
  replace e0 := cell_later D e0;replace e1 := cell_later D e1;replace e2 := cell_later D e2;replace e3 := cell_later D e3;replace B := below_next B D;clear D
  rw [if_pos (by simp)] at hd
  subst hd;go_wp2_with fail
  refine wp_region_held_drew (S := (fun w' => w'.cell? ⟨b, o + 2, none⟩ = some (.slice a 0 cap) ∧ w'.cell? ⟨b, o + 3, none⟩ = some (.int .i64 0))) (by kernel_rfl) ⟨e2, e3⟩ (fun hZq => ?_)
  refine tk 0 hZq ?_;refine tk 1 hZq ?_;refine tk 2 hZq ?_;refine tk 3 hZq ?_;refine tk 4 hZq ?_;refine tk 5 hZq ?_;refine tk 6 hZq ?_;refine tk 7 hZq ?_;refine tk 8 hZq ?_
  refine rd1 9 (fun KK hKK => ?_)
  go_simp
  go_at_call 75
  refine (l1In_is' 0 0 0 _ true (by simp only [decide_eq_true_eq];omega)).mono ?_
  rintro e W9 ⟨rfl, rfl⟩;clear hZq
  refine hKK _ _ ⟨e2, e3⟩ (fun hZq => ?_)
  clear hKK KK;refine tk 10 hZq ?_
  refine wpAnyH_done (by kernel_rfl) ?_ _
  go_wp2;go_ret;exact ⟨rfl, B⟩
 ·have hd := HD.out
  rw [if_neg (by simp)] at hd
  clear HD
  go_enter Tryz.func123, Tryz.ntmps123
  go_wp2_with fail
  by_cases hl : 0 ≤ la ∧ la ≤ 200
  rotate_left 1
  ·rw [if_neg hl] at hd;subst hd
   refine (l9View_is la _ false (by simp only [decide_eq_false_eq];exact hl)).mono ?_
   rintro e W9 ⟨rfl, rfl⟩;go_wp2;go_ret;exact ⟨rfl, Below.refl _ _⟩
  rw [if_pos hl] at hd
  refine (l9View_is la _ true (by simp only [decide_eq_true_eq];exact hl)).mono ?_
  rintro e W9 ⟨rfl, rfl⟩;go_wp2_with fail;refine (specLF_is a n cap xs _ h f HF.out).mono ?_;rintro e w1 ⟨rfl, B⟩;replace e0 := cell_later B e0;replace e1 := cell_later B e1;replace e2 := cell_later B e2;replace e3 := cell_later B e3
  by_cases q : f = 0
  rotate_left 1
  ·rw [if_neg q] at hd;subst hd
   have q' : (f != 0) = true := by simp [q]
   go_wp2;go_ret;exact ⟨rfl, B⟩
  subst q;rw [if_pos rfl] at hd
  have D : Below w1.heap.size w1 w1.drew := (Below.refl _ _).drew
  replace e0 := cell_later D e0;replace e1 := cell_later D e1;replace e2 := cell_later D e2;replace e3 := cell_later D e3;replace B := below_next B D;clear D
  by_cases hc : 0 ≤ cm ∧ cm ≤ n
  ·rw [if_pos hc] at hd;subst hd;go_wp2_with fail
   refine wp_region_held_drew (S := (fun w' => w'.cell? ⟨b, o + 2, none⟩ = some (.slice a n cap) ∧ w'.cell? ⟨b, o + 3, none⟩ = some (.int .i64 cm))) (by kernel_rfl) ⟨e2, e3⟩ (fun hZq => ?_)
   refine tk 0 hZq ?_;refine tk 1 hZq ?_;refine tk 2 hZq ?_;refine tk 3 hZq ?_;refine tk 4 hZq ?_;refine tk 5 hZq ?_;refine tk 6 hZq ?_;refine tk 7 hZq ?_;refine tk 8 hZq ?_
   refine rd1 9 (fun KK hKK => ?_)
   go_simp
   go_at_call 75
   refine (l1In_is' cm 0 n _ true (by simp only [decide_eq_true_eq];exact hc)).mono ?_
   rintro e W9 ⟨rfl, rfl⟩;clear hZq
   refine hKK _ _ ⟨e2, e3⟩ (fun hZq => ?_)
   clear hKK KK;refine tk 10 hZq ?_
   refine wpAnyH_done (by kernel_rfl) ?_ _
   go_wp2;go_ret;exact ⟨rfl, B⟩
  ·rw [if_neg hc] at hd;subst hd;go_wp2_with fail
   refine wp_region_held_drew (S := (fun w' => w'.cell? ⟨b, o + 2, none⟩ = some (.slice a n cap) ∧ w'.cell? ⟨b, o + 3, none⟩ = some (.int .i64 cm))) (by kernel_rfl) ⟨e2, e3⟩ (fun hZq => ?_)
   refine tk 0 hZq ?_;refine tk 1 hZq ?_;refine tk 2 hZq ?_;refine tk 3 hZq ?_;refine tk 4 hZq ?_;refine tk 5 hZq ?_;refine tk 6 hZq ?_;refine tk 7 hZq ?_;refine tk 8 hZq ?_
   refine rd1 9 (fun KK hKK => ?_)
   go_simp
   go_at_call 75
   refine (l1In_is' cm 0 n _ false (by simp only [decide_eq_false_eq];exact hc)).mono ?_
   rintro e W9 ⟨rfl, rfl⟩;clear hZq
   refine hKK _ _ ⟨e2, e3⟩ (fun hZq => ?_)
   clear hKK KK;refine tk 10 hZq ?_
   refine wpAnyH_done (by kernel_rfl) ?_ _
   go_wp2;go_ret;exact ⟨rfl, B⟩
def cntA (oks : List Int) (id k : Int) : Nat → Int
 | 0 => 1
 | n + 1 => cntA oks id k n + (if (n : Int) ≠ id ∧ k ≤ oks.getD n 0 then 1 else 0)
def agrTo (oks : List Int) (id size : Int) : Nat → Int
 | 0 => 0
 | k + 1 => if size / 2 + 1 ≤ cntA oks id ((k : Int) + 1) size.toNat then (k : Int) + 1 else agrTo oks id size k
def agrR (r : Rep) : Int := agrTo r.oks r.id r.size r.log.length
structure InsIn (xs ys : List Int) (i j : Nat) : Prop where
 perm : ys.Perm xs
 low : ∀ p q, p < q → q < j → ys.getD p 0 ≤ ys.getD q 0
 up : ∀ p q, j ≤ p → p < q → q ≤ i → ys.getD p 0 ≤ ys.getD q 0
 over : ∀ p q, p < j → j < q → q ≤ i → ys.getD p 0 ≤ ys.getD q 0
theorem run_storeVar_oneC {P : Program} {w : World} {b k : Nat} {u : Value} (hc : w.cell? ⟨b, k, none⟩ = some u) (hf : w.frozen? ⟨b, k, none⟩ = false) (ty : TypeId) (v : Value) (hv : v.oneCell' = true) (hi : (P.info? ty).map (·.size) = some 1) : (storeVar ty ⟨b, k, none⟩ v).run P w = .ok () (w.setCells b k [v]) := by
 have := run_storeCells_cells (P := P) b k [v] 0 w (fun j hj => by
  have e : j = 0 := by simpa using hj
  rw [e, Nat.add_zero, hc];rfl) (fun j hj => by
  have e : j = 0 := by simpa using hj
  rw [e, Nat.add_zero];exact hf) (fun x hx => by simp at hx;subst hx;exact hv)
 have hc : v.cells = #[v] := by cases v <;> first | rfl | cases hv
 cases hq : P.info? ty with
 | none => simp [hq] at hi
 | some i =>
  have hs : i.size = 1 := by simpa [hq] using hi
  simp only [Nat.add_zero] at this
  simp [storeVar, sizeOf, typeInfo, hq, hc, hs, this]
theorem rep_ok {r : Rep} (h : repF r = 0) : numsP r ∧ lgF r.log r.commit = 0 ∧ (r.normal = true → r.last = r.view) ∧ sizesP r ∧ oksF r.log.length r.oks = 0 ∧ drsF r.doers = 0 := by
 unfold repF at h
 by_cases h1 : numsP r
 ·rw [if_pos h1] at h
  by_cases h2 : lgF r.log r.commit = 0
  ·rw [if_pos h2] at h
   by_cases h3 : (r.normal = true ∧ r.last ≠ r.view) ∨ ¬ sizesP r
   ·rw [if_pos h3] at h;cases h
   ·rw [if_neg h3] at h
    by_cases h4 : oksF r.log.length r.oks = 0
    ·rw [if_pos h4] at h
     exact ⟨h1, h2, fun hn => Decidable.byContradiction fun q => h3 (Or.inl ⟨hn, q⟩), Decidable.byContradiction fun q => h3 (Or.inr q), h4, h⟩
    ·rw [if_neg h4] at h;exact absurd h h4
  ·rw [if_neg h2] at h;exact absurd h h2
 ·rw [if_neg h1] at h;cases h
theorem lg_ok {xs : List En} {c : Int} (h : lgF xs c = 0) : logF xs = 0 ∧ 0 ≤ c ∧ c ≤ xs.length := by
 unfold lgF at h
 by_cases h1 : logF xs = 0
 ·rw [if_pos h1] at h
  by_cases h2 : 0 ≤ c ∧ c ≤ xs.length
  ·exact ⟨h1, h2⟩
  ·rw [if_neg h2] at h;cases h
 ·rw [if_neg h1] at h;exact absurd h h1
def ledF (r : Rep) : Int := if repF r = 0 then (if leadsB r = true then 0 else 10) else repF r
structure Led (r : Rep) : Prop where
 size : 1 ≤ r.size ∧ r.size ≤ 5
 id : 0 ≤ r.id ∧ r.id ≤ r.size - 1
 view : 0 ≤ r.view ∧ r.view ≤ 200
 log : r.log.length ≤ 40
 commit : 0 ≤ r.commit ∧ r.commit ≤ r.log.length
 oks : (r.oks.length : Int) = r.size
 okb : ∀ y ∈ r.oks, 0 ≤ y ∧ y ≤ (r.log.length : Int)
def newRep (id size : Int) : Rep := if (1 ≤ size ∧ size ≤ 5) ∧ (0 ≤ id ∧ id ≤ size - 1) then ⟨id, size, 0, true, 0, [], 0, if id = 0 then List.replicate size.toNat 0 else [], [], []⟩ else rep0
end Go.Proofs.YtclghfoinologaaGreat
