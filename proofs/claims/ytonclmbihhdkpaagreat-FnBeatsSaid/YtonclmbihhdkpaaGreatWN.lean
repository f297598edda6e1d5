/- Chapter 9, plain: what enough have, counted (the model) and read off a sorted list (the program). No program is named here. -/
import Derived.Test.YtonclmbihhdkpaaGreatQAF
import Derived.Test.YtonclmbihhdkpaaGreatQAB
import Derived.Test.YtonclmbihhdkpaaGreatWC
import Derived.Test.YtonclmbihhdkpaaGreatQAG
import Derived.Test.YtonclmbihhdkpaaGreatI5s
set_option maxRecDepth 20000
set_option maxHeartbeats 16000000
namespace Go.Proofs.YtonclmbihhdkpaaGreat
open Go.RowKit
def cntA (oks : List Int) (id k : Int) : Nat → Int
 | 0 => 1
 | n + 1 => cntA oks id k n + (if (n : Int) ≠ id ∧ k ≤ oks.getD n 0 then 1 else 0)
def agrTo (oks : List Int) (id size : Int) : Nat → Int
 | 0 => 0
 | k + 1 => if size / 2 + 1 ≤ cntA oks id ((k : Int) + 1) size.toNat then (k : Int) + 1 else agrTo oks id size k
def agrR (r : Rep) : Int := agrTo r.oks r.id r.size r.log.length
def cntP (k : Int) : List Int → Nat
 | [] => 0
 | x :: xs => (if k ≤ x then 1 else 0) + cntP k xs
theorem cntP_perm {k : Int} {xs ys : List Int} (h : xs.Perm ys) : cntP k xs = cntP k ys := by
 induction h with
 | nil => rfl
 | cons x _ ih => simp [cntP, ih]
 | swap x y l => simp only [cntP]; omega
 | trans _ _ i1 i2 => rw [i1, i2]
theorem cntP_append (k : Int) (xs ys : List Int) : cntP k (xs ++ ys) = cntP k xs + cntP k ys := by
 induction xs with
 | nil => simp [cntP]
 | cons x xs ih => simp only [List.cons_append, cntP, ih]; omega
theorem cntP_le (k : Int) (xs : List Int) : cntP k xs ≤ xs.length := by
 induction xs with
 | nil => simp [cntP]
 | cons x xs ih => simp only [cntP, List.length_cons]; split <;> omega
theorem cntP_all {k : Int} {xs : List Int} (h : ∀ x ∈ xs, k ≤ x) : cntP k xs = xs.length := by
 induction xs with
 | nil => rfl
 | cons x xs ih => simp only [cntP, List.length_cons]; rw [if_pos (h x (by simp)), ih fun y hy => h y (by simp [hy])]; omega
theorem take_succ_getD (xs : List Int) (n : Nat) (h : n < xs.length) : xs.take (n + 1) = xs.take n ++ [xs.getD n 0] := by
 rw [List.take_add_one, List.getElem?_eq_getElem h]; simp [List.getD, h]
theorem cntA_is (oks : List Int) (id : Nat) (k m : Int) (hk : k ≤ m) (hid : id < oks.length) : ∀ n, n ≤ oks.length → cntA oks id k n = (cntP k ((oks.set id m).take n) : Int) + (if id < n then 0 else 1)
 | 0, _ => by simp [cntA, cntP]
 | n + 1, h => by
  rw [cntA, cntA_is oks id k m hk hid n (by omega), take_succ_getD _ n (by simp; omega), cntP_append]
  have e : (oks.set id m).getD n 0 = if id = n then m else oks.getD n 0 := by
   simp only [List.getD_eq_getElem?_getD, List.getElem?_set]
   by_cases q : id = n
   ·simp [q, show n < oks.length by omega]
   ·simp [q]
  rw [e]
  by_cases q : id = n
  ·subst q
   have : ¬ ((id : Int) ≠ (id : Int) ∧ k ≤ oks.getD id 0) := fun x => x.1 rfl
   rw [if_neg this, if_pos rfl, if_neg (Nat.lt_irrefl _), if_pos (Nat.lt_succ_self _)]
   simp only [cntP, if_pos hk]; omega
  ·have q1 : (n : Int) ≠ (id : Int) := by omega
   rw [if_neg q]
   by_cases q2 : k ≤ oks.getD n 0
   ·have e1 : (if (n : Int) ≠ (id : Int) ∧ k ≤ oks.getD n 0 then (1 : Int) else 0) = 1 := if_pos ⟨q1, q2⟩
    rw [e1]; simp only [cntP, if_pos q2]; split <;> split <;> omega
   ·have e1 : (if (n : Int) ≠ (id : Int) ∧ k ≤ oks.getD n 0 then (1 : Int) else 0) = 0 := if_neg fun x => q2 x.2
    rw [e1]; simp only [cntP, if_neg q2]; split <;> split <;> omega
theorem cntP_sorted {k : Int} : ∀ {ys : List Int}, ys.Pairwise (· ≤ ·) → ∀ m, m < ys.length → (ys.length ≤ m + cntP k ys ↔ k ≤ ys.getD m 0)
 | [], _, m, h => absurd h (Nat.not_lt_zero _)
 | y :: ys, hs, m, h => by
  rw [List.pairwise_cons] at hs
  by_cases q : k ≤ y
  ·have : cntP k (y :: ys) = (y :: ys).length := cntP_all fun x hx => by
    rcases List.mem_cons.1 hx with rfl | hx
    ·exact q
    ·exact Int.le_trans q (hs.1 x hx)
   rw [this]
   refine ⟨fun _ => ?_, fun _ => by omega⟩
   cases m with
   | zero => simpa using q
   | succ m =>
    have hm : m < ys.length := by simpa using h
    have e : (y :: ys).getD (m + 1) 0 = ys[m] := by simp [List.getD, hm]
    rw [e]
    exact Int.le_trans q (hs.1 _ (List.getElem_mem hm))
  ·simp only [cntP, if_neg q, List.length_cons]
   cases m with
   | zero =>
    have := cntP_le k ys
    refine ⟨fun _ => by omega, fun x => absurd (by simpa using x) q⟩
   | succ m =>
    have hm : m < ys.length := by simpa using h
    have := cntP_sorted (k := k) hs.2 m hm
    have e : (y :: ys).getD (m + 1) 0 = ys.getD m 0 := by simp [List.getD]
    rw [e, ← this]; omega
theorem agrTo_is (oks : List Int) (id size v : Int) (h0 : 0 ≤ v) : ∀ n : Nat, (∀ k : Nat, 1 ≤ k → k ≤ n → (size / 2 + 1 ≤ cntA oks id k size.toNat ↔ (k : Int) ≤ v)) → agrTo oks id size n = if v ≤ n then v else n
 | 0, _ => by
  rw [agrTo]
  by_cases q : v ≤ ((0 : Nat) : Int)
  ·rw [if_pos q]; omega
  ·rw [if_neg q]; rfl
 | n + 1, h => by
  have h1 := h (n + 1) (by omega) (Nat.le_refl _)
  have ih := agrTo_is oks id size v h0 n fun k k1 k2 => h k k1 (by omega)
  simp only [Int.natCast_add, Int.cast_ofNat_Int] at h1 ⊢
  rw [agrTo]
  by_cases q : (n : Int) + 1 ≤ v
  ·rw [if_pos (h1.2 q)]
   split <;> omega
  ·rw [if_neg fun x => q (h1.1 x), ih]
   split <;> split <;> omega
theorem agr_sorted {oks ys : List Int} {id n : Nat} {size : Int} (hp : ys.Perm (oks.set id (n : Int))) (hs : ys.Pairwise (· ≤ ·)) (hl : (oks.length : Int) = size) (h1 : 1 ≤ size ∧ size ≤ 5) (hid : id < oks.length) (ho : ∀ x ∈ oks, 0 ≤ x ∧ x ≤ (n : Int)) : ys.getD ((size - 1) / 2).toNat 0 = agrTo oks id size n := by
 have hyl : ys.length = oks.length := by rw [hp.length_eq]; simp
 have hm : ((size - 1) / 2).toNat < ys.length := by omega
 have hv : 0 ≤ ys.getD ((size - 1) / 2).toNat 0 ∧ ys.getD ((size - 1) / 2).toNat 0 ≤ (n : Int) := by
  have hmem : ys.getD ((size - 1) / 2).toNat 0 ∈ ys := by
   rw [List.getD_eq_getElem?_getD, List.getElem?_eq_getElem hm]; exact List.getElem_mem hm
  have := hp.mem_iff.1 hmem
  rcases List.mem_or_eq_of_mem_set this with q | q
  ·exact ho _ q
  ·rw [q]; omega
 rw [agrTo_is oks id size _ hv.1 n fun k k1 k2 => ?_, if_pos hv.2]
 rw [cntA_is oks id k n (by omega) hid size.toNat (by omega), if_pos (by omega)]
 have e : (oks.set id (n : Int)).take size.toNat = oks.set id (n : Int) := List.take_of_length_le (by simp; omega)
 rw [e, ← cntP_perm hp, ← cntP_sorted hs _ hm]
 have := cntP_le (k : Int) ys
 omega
structure InsIn (xs ys : List Int) (i j : Nat) : Prop where
 perm : ys.Perm xs
 low : ∀ p q, p < q → q < j → ys.getD p 0 ≤ ys.getD q 0
 up : ∀ p q, j ≤ p → p < q → q ≤ i → ys.getD p 0 ≤ ys.getD q 0
 over : ∀ p q, p < j → j < q → q ≤ i → ys.getD p 0 ≤ ys.getD q 0
def InsOut (xs ys : List Int) (i : Nat) : Prop := ys.Perm xs ∧ ∀ p q, p < q → q < i → ys.getD p 0 ≤ ys.getD q 0
theorem ins_start {xs ys : List Int} {i : Nat} (h : InsOut xs ys i) : InsIn xs ys i i := ⟨h.1, h.2, fun p q h1 h2 h3 => by omega, fun p q h1 h2 h3 => by omega⟩
theorem ins_end0 {xs ys : List Int} {i : Nat} (h : InsIn xs ys i 0) : InsOut xs ys (i + 1) := ⟨h.perm, fun p q h1 h2 => h.up p q (Nat.zero_le _) h1 (by omega)⟩
theorem ins_end {xs ys : List Int} {i j : Nat} (h : InsIn xs ys i j) (hj : 0 < j) (hc : ¬ ys.getD j 0 < ys.getD (j - 1) 0) : InsOut xs ys (i + 1) := ⟨h.perm, fun p q h1 h2 => by
 by_cases a : q < j
 ·exact h.low p q h1 a
 by_cases b : j ≤ p
 ·exact h.up p q b h1 (by omega)
 by_cases c : q = j
 ·subst c
  by_cases d : p = q - 1
  ·subst d; omega
  ·have := h.low p (q - 1) (by omega) (by omega); omega
 ·exact h.over p q (by omega) (by omega) (by omega)⟩
theorem getD_swap (ys : List Int) (a b : Nat) (ha : a < ys.length) (hb : b < ys.length) (q : Nat) : ((ys.set a (ys.getD b 0)).set b (ys.getD a 0)).getD q 0 = if q = b then ys.getD a 0 else if q = a then ys.getD b 0 else ys.getD q 0 := by
 simp only [List.getD_eq_getElem?_getD, List.getElem?_set, List.length_set]
 by_cases h1 : b = q
 ·subst h1; simp [hb]
 ·rw [if_neg h1, if_neg (Ne.symm h1)]
  by_cases h2 : a = q
  ·subst h2; simp [ha]
  ·rw [if_neg h2, if_neg (Ne.symm h2)]
theorem perm_swap {ys : List Int} {a b : Nat} (ha : a < ys.length) (hb : b < ys.length) : ((ys.set a (ys.getD b 0)).set b (ys.getD a 0)).Perm ys := by
 have e1 : ys.getD b 0 = ys[b] := by simp [List.getD, hb]
 have e2 : ys.getD a 0 = ys[a] := by simp [List.getD, ha]
 rw [e1, e2]; exact List.set_set_perm ha hb
theorem ins_step {xs ys : List Int} {i j : Nat} (h : InsIn xs ys i j) (hj : 0 < j) (hi : j ≤ i) (hl : i < ys.length) (hc : ys.getD j 0 < ys.getD (j - 1) 0) : InsIn xs ((ys.set j (ys.getD (j - 1) 0)).set (j - 1) (ys.getD j 0)) i (j - 1) := by
 have G := getD_swap ys j (j - 1) (by omega) (by omega)
 refine ⟨(perm_swap (by omega) (by omega)).trans h.perm, fun p q h1 h2 => ?_, fun p q h1 h2 h3 => ?_, fun p q h1 h2 h3 => ?_⟩
 ·rw [G, G, if_neg (by omega), if_neg (by omega), if_neg (by omega), if_neg (by omega)]
  exact h.low p q h1 (by omega)
 ·rw [G, G]
  rw [if_neg (show q ≠ j - 1 by omega)]
  by_cases a : p = j - 1
  ·rw [if_pos a]
   by_cases b : q = j
   ·rw [if_pos b]; omega
   ·rw [if_neg b]; exact h.up j q (Nat.le_refl _) (by omega) h3
  ·rw [if_neg a, if_neg (show q ≠ j by omega)]
   by_cases b : p = j
   ·rw [if_pos b]; exact h.over (j - 1) q (by omega) (by omega) h3
   ·rw [if_neg b]; exact h.up p q (by omega) h2 h3
 ·rw [G, G, if_neg (show p ≠ j - 1 by omega), if_neg (show p ≠ j by omega), if_neg (show q ≠ j - 1 by omega)]
  by_cases b : q = j
  ·rw [if_pos b]; exact h.low p (j - 1) (by omega) (by omega)
  ·rw [if_neg b]; exact h.over p q (by omega) (by omega) h3
theorem ins_sorted {xs ys : List Int} (h : InsOut xs ys ys.length) : ys.Pairwise (· ≤ ·) := by
 rw [List.pairwise_iff_getElem]
 intro p q hp hq hpq
 have := h.2 p q hpq hq
 simpa [List.getD, hp, hq] using this
theorem isNaN_is (x : Int) (w : World) : Calls Tryz.prog 257 #[.int .i64 x] w fun e w' => e = .returned (.bool false) ∧ w' = w := by
 have h : (x != x) = false := by simp
 go_enter Tryz.func257, Tryz.ntmps257
 go_wp2
 go_ret
 exact ⟨rfl, rfl⟩
theorem less_is (x y : Int) (w : World) : Calls Tryz.prog 246 #[.int .i64 x, .int .i64 y] w fun e w' => e = .returned (.bool (decide (x < y))) ∧ w' = w := by
 go_enter Tryz.func246, Tryz.ntmps246
 go_wp2_with fail
 refine (isNaN_is x _).mono ?_
 rintro e W9 ⟨rfl, rfl⟩
 go_wp2
 go_ret
 exact ⟨rfl, rfl⟩
theorem len64_is (n : Int) (hn : 1 ≤ n ∧ n ≤ 5) (w : World) : Calls Tryz.prog 250 #[.int .u64 n] w fun e w' => ∃ k : Int, e = .returned (.int .i64 k) ∧ w' = w := by
 have hc : n = 1 ∨ n = 2 ∨ n = 3 ∨ n = 4 ∨ n = 5 := by omega
 clear hn
 rcases hc with rfl | rfl | rfl | rfl | rfl
 all_goals
  go_enter Tryz.func250, Tryz.ntmps250
  go_wp2
  go_ret
  exact ⟨_, rfl, rfl⟩
theorem bitLen_is (n : Int) (hn : 1 ≤ n ∧ n ≤ 5) (w : World) : Calls Tryz.prog 234 #[.int .u64 n] w fun e w' => ∃ k : Int, e = .returned (.int .i64 k) ∧ w' = w := by
 go_enter Tryz.func234, Tryz.ntmps234
 go_wp2_with fail
 refine (len64_is n hn _).mono ?_
 rintro e W9 ⟨k, rfl, rfl⟩
 go_wp2
 go_ret
 exact ⟨_, rfl, rfl⟩
theorem RowAt.intSet {w : World} {lo hi b off n cap : Nat} {xs : List Int} (h : RowAt w true lo hi 1 (some ⟨b, off, none⟩) n cap (ints xs)) {i : Nat} (hi' : i < n) (x : Int) : RowAt (w.setCell ⟨b, off + i, none⟩ (.int .i64 x)) true lo hi 1 (some ⟨b, off, none⟩) n cap (ints (xs.set i x)) := by
 have := h.stored (i := i) (by omega) (.int .i64 x)
 rwa [show (ints xs).set i (.int .i64 x) = ints (xs.set i x) by simp [ints, List.map_set]] at this
theorem insSort_is {lo hi : Nat} (b off n cap : Nat) (xs : List Int) (w : World) (h : RowAt w true lo hi 1 (some ⟨b, off, none⟩) n cap (ints xs)) (hn : 1 ≤ n ∧ n ≤ 12) :
  Calls Tryz.prog 240 #[.slice (some ⟨b, off, none⟩) n cap, .int .i64 0, .int .i64 n] w fun e w' => e = .returned (.tuple #[]) ∧ (∃ ys, RowAt w' true lo hi 1 (some ⟨b, off, none⟩) n cap (ints ys) ∧ InsOut xs ys n) ∧ Kept b (b + 1) w w' := by
 have hxl := h.nInts
 have hcap := h.le
 have H0 : Hid (InsOut xs xs 1) := ⟨List.Perm.refl _, fun p q h1 h2 => by omega⟩
 go_enter Tryz.func240, Tryz.ntmps240
 go_wp2
 go_loopw [6, 7] (fun i _ wr => ∃ (k : Nat) (ys : List Int), 1 ≤ k ∧ k ≤ n ∧ i = .int .i64 k ∧ Hid (InsOut xs ys k) ∧ RowAt wr true lo hi 1 (some ⟨b, off, none⟩) n cap (ints ys) ∧ Kept b (b + 1) w wr) (fun i _ _ => n - (intOf i).toNat)
 case atStart => exact ⟨1, xs, by omega, hn.1, rfl, H0, h, Kept.refl _ _ _⟩
 case round =>
  obtain ⟨k, ys, hk1, hk, rfl, HI, R, KK⟩ := hrel
  clear H0
  generalize wr = W1 at *
  by_cases hlt : k < n
  ·have hlk : (k : Int) < (n : Int) := by omega
   have HJ : Hid (InsIn xs ys k k) := ins_start HI.out
   clear HI h
   go_wp2
   go_loopw [7] (fun jv wr => ∃ (j : Nat) (zs : List Int), j ≤ k ∧ jv = .int .i64 j ∧ Hid (InsIn xs zs k j) ∧ RowAt wr true lo hi 1 (some ⟨b, off, none⟩) n cap (ints zs) ∧ Kept b (b + 1) w wr) (fun jv _ => (intOf jv).toNat)
   case atStart => exact ⟨k, ys, Nat.le_refl _, rfl, HJ, R, KK⟩
   case round =>
    obtain ⟨j, zs, hj, rfl, HZ, R2, K2⟩ := hrel
    clear HJ R KK
    have hzl : zs.length = n := R2.nInts
    by_cases h0 : 0 < j
    ·have h0' : (0 : Int) < (j : Int) := by omega
     obtain ⟨e1, f1⟩ : wr.cell? ⟨b, off + j, none⟩ = some (.int .i64 (zs.getD j 0)) ∧ wr.frozen? ⟨b, off + j, none⟩ = false := by obtain ⟨b', o', e, _, _, _, q, qf⟩ := R2.int (k := j) (by omega); simp only [Option.some.injEq, Addr.mk.injEq, and_true] at e; obtain ⟨rfl, rfl⟩ := e; exact ⟨q, qf rfl⟩
     obtain ⟨e2, f2⟩ : wr.cell? ⟨b, off + (j - 1), none⟩ = some (.int .i64 (zs.getD (j - 1) 0)) ∧ wr.frozen? ⟨b, off + (j - 1), none⟩ = false := by obtain ⟨b', o', e, _, _, _, q, qf⟩ := R2.int (k := j - 1) (by omega); simp only [Option.some.injEq, Addr.mk.injEq, and_true] at e; obtain ⟨rfl, rfl⟩ := e; exact ⟨q, qf rfl⟩
     have HP : Hid _ := ins_end HZ.out h0
     have HQ : Hid _ := ins_step HZ.out h0 hj (by omega)
     generalize hx : zs.getD j 0 = x at *
     generalize hy : zs.getD (j - 1) 0 = y at *
     obtain ⟨p, rfl⟩ : ∃ p, j = p + 1 := ⟨j - 1, by omega⟩
     simp only [Nat.add_sub_cancel] at *
     have s1 : IntKind.i64.wrap ((p : Int) + 1 - 1) = p := by rw [wrapI_same ((p : Int) + 1 - 1) (by omega)]; omega
     have i1 : (p : Int) + 1 < (n : Int) := by omega
     have i2 : (0 : Int) ≤ (p : Int) + 1 := by omega
     have i3 : (p : Int) < (n : Int) := by omega
     have s0 : IntKind.i64.wrap (p : Int) = p := wrapI_same _ (by omega)
     have s2 : ((p + 1 : Nat) : Int) = (p : Int) + 1 := by simp
     go_wp2_with fail
     have D : Below wr.heap.size wr wr.drew := (Below.refl _ _).drew
     replace e1 := cell_later D e1
     replace e2 := cell_later D e2
     replace f1 : wr.drew.frozen? _ = false := f1
     replace f2 : wr.drew.frozen? _ = false := f2
     replace R2 := R2.below D
     replace K2 := K2.next D
     clear D
     by_cases hc : x < y
     ·refine wp_region_held_drew (S := (fun w' => w'.cell? ⟨b, off + (p + 1), none⟩ = some (.int .i64 x) ∧ w'.cell? ⟨b, off + p, none⟩ = some (.int .i64 y))) (by kernel_rfl) ⟨e1, e2⟩ (fun hZq => ?_)
      refine tk 0 hZq ?_
      refine tk 1 hZq ?_
      refine tk 2 hZq ?_
      refine tk 3 hZq ?_
      refine tk 4 hZq ?_
      refine tk 5 hZq ?_
      refine tk 6 hZq ?_
      refine tk 7 hZq ?_
      refine tk 8 hZq ?_
      refine tk 9 hZq ?_
      refine tk 10 hZq ?_
      refine tk 11 hZq ?_
      refine tk 12 hZq ?_
      refine rd1 13 (fun KK hKK => ?_)
      go_simp
      go_at_call 246
      refine (less_is x y _).mono ?_
      rintro e W9 ⟨rfl, rfl⟩
      clear hZq
      refine hKK _ _ ⟨e1, e2⟩ (fun hZq => ?_)
      clear hKK KK
      refine tk 14 hZq ?_
      refine wpAnyH_done (by kernel_rfl) ?_ _
      have hc' : decide (x < y) = true := decide_eq_true hc
      have HN : Hid _ := HQ.out hc
      clear HP HQ HZ
      generalize wr.drew = W2 at *
      go_wp2_with fail
      have R3 := (R2.intSet (i := p + 1) (by omega) y).intSet (i := p) (by omega) x
      have K3 : Kept b (b + 1) w ((W2.setCell ⟨b, off + (p + 1), none⟩ (.int .i64 y)).setCell ⟨b, off + p, none⟩ (.int .i64 x)) := Kept.setCell (p := ⟨b, off + p, none⟩) (Kept.setCell (p := ⟨b, off + (p + 1), none⟩) K2 (Nat.le_refl _) (Nat.lt_succ_self _) _) (Nat.le_refl _) (Nat.lt_succ_self _) _
      go_region
      go_wp2
      go_roundw
      case rel => exact ⟨p, (zs.set (p + 1) y).set p x, by omega, by go_num, HN, R3.below (Below.refl _ _).drew, K3.next (Below.refl _ _).drew⟩
      case measure => simp [intOf]
     ·have hc' : decide (x < y) = false := decide_eq_false hc
      refine wp_region_held_drew (S := (fun w' => w'.cell? ⟨b, off + (p + 1), none⟩ = some (.int .i64 x) ∧ w'.cell? ⟨b, off + p, none⟩ = some (.int .i64 y))) (by kernel_rfl) ⟨e1, e2⟩ (fun hZq => ?_)
      refine tk 0 hZq ?_
      refine tk 1 hZq ?_
      refine tk 2 hZq ?_
      refine tk 3 hZq ?_
      refine tk 4 hZq ?_
      refine tk 5 hZq ?_
      refine tk 6 hZq ?_
      refine tk 7 hZq ?_
      refine tk 8 hZq ?_
      refine tk 9 hZq ?_
      refine tk 10 hZq ?_
      refine tk 11 hZq ?_
      refine tk 12 hZq ?_
      refine rd1 13 (fun KK hKK => ?_)
      go_simp
      go_at_call 246
      refine (less_is x y _).mono ?_
      rintro e W9 ⟨rfl, rfl⟩
      clear hZq
      refine hKK _ _ ⟨e1, e2⟩ (fun hZq => ?_)
      clear hKK KK
      refine tk 14 hZq ?_
      refine wpAnyH_done (by kernel_rfl) ?_ _
      have HN : Hid _ := HP.out (by omega)
      clear HP HQ HZ
      go_wp2
      go_roundw
      case rel => exact ⟨k + 1, zs, by omega, by omega, by go_num, HN, R2, K2⟩
      case measure => simp [intOf]; omega
    ·obtain rfl : j = 0 := by omega
     have HN : Hid _ := ins_end0 HZ.out
     clear HZ
     go_wp2_with fail
     have D : Below wr.heap.size wr wr.drew := (Below.refl _ _).drew
     replace R2 := R2.below D
     replace K2 := K2.next D
     clear D
     refine wp_region_held_drew (S := (fun _ => True)) (by kernel_rfl) trivial (fun hZq => ?_)
     refine tk 0 hZq ?_
     refine tk 1 hZq ?_
     refine tk 2 hZq ?_
     refine tk 3 hZq ?_
     refine tks 4 hZq ?_
     refine tks 5 hZq ?_
     refine tks 6 hZq ?_
     refine tks 7 hZq ?_
     refine tks 8 hZq ?_
     refine tks 9 hZq ?_
     refine tks 10 hZq ?_
     refine tks 11 hZq ?_
     refine tks 12 hZq ?_
     refine tks 13 hZq ?_
     refine tk 14 hZq ?_
     refine wpAnyH_done (by kernel_rfl) ?_ _
     go_wp2
     go_roundw
     case rel => exact ⟨k + 1, zs, by omega, by omega, by go_num, HN, R2, K2⟩
     case measure => simp [intOf]; omega
  ·obtain rfl : k = n := by omega
   go_wp2
   refine bodyPost_end (v := .tuple #[]) (by simp [results, Tryz.results240, go_sem]) rfl ⟨rfl, ⟨ys, R, HI.out⟩, KK⟩
theorem pdqSort_is {lo hi : Nat} (b off n cap : Nat) (xs : List Int) (lim : Int) (w : World) (h : RowAt w true lo hi 1 (some ⟨b, off, none⟩) n cap (ints xs)) (hn : 1 ≤ n ∧ n ≤ 12) :
  Calls Tryz.prog 233 #[.slice (some ⟨b, off, none⟩) n cap, .int .i64 0, .int .i64 n, .int .i64 lim] w fun e w' => e = .returned (.tuple #[]) ∧ (∃ ys, RowAt w' true lo hi 1 (some ⟨b, off, none⟩) n cap (ints ys) ∧ InsOut xs ys n) ∧ Kept b (b + 1) w w' := by
 have hl : IntKind.i64.wrap (n : Int) = n := wrapI_same _ (by omega)
 have hl2 : (n : Int) ≤ 12 := by omega
 go_enter Tryz.func233, Tryz.ntmps233
 go_wp2
 go_loopw [1, 2] (fun a q wr => a = .int .i64 0 ∧ q = .int .i64 n ∧ wr = w) (fun _ _ _ => 0)
 case atStart => exact ⟨rfl, rfl, rfl⟩
 case round =>
  obtain ⟨rfl, rfl, rfl⟩ := hrel
  go_wp2_with fail
  refine (insSort_is b off n cap xs _ h hn).mono ?_
  rintro e w1 ⟨rfl, ⟨ys, R, HI⟩, KK⟩
  have HI' : Hid _ := HI
  clear HI
  go_wp2
  exact bodyPost_ret (v := .tuple #[]) (by simp [results, Tryz.results233, go_sem]) rfl ⟨rfl, ⟨ys, R, HI'.out⟩, KK⟩
theorem sort_is {lo hi : Nat} (b off n cap : Nat) (xs : List Int) (w : World) (h : RowAt w true lo hi 1 (some ⟨b, off, none⟩) n cap (ints xs)) (hn : 1 ≤ n ∧ n ≤ 5) :
  Calls Tryz.prog 220 #[.slice (some ⟨b, off, none⟩) n cap] w fun e w' => e = .returned (.tuple #[]) ∧ (∃ ys, RowAt w' true lo hi 1 (some ⟨b, off, none⟩) n cap (ints ys) ∧ ys.Perm xs ∧ ys.Pairwise (· ≤ ·)) ∧ Kept b (b + 1) w w' := by
 have hu : IntKind.u64.wrap (n : Int) = n := by rw [IntKind.wrap_u64]; omega
 go_enter Tryz.func220, Tryz.ntmps220
 go_wp2_with fail
 refine (bitLen_is n (by omega) _).mono ?_
 rintro e W9 ⟨k, rfl, rfl⟩
 go_wp2_with fail
 refine (pdqSort_is b off n cap xs k _ h (by omega)).mono ?_
 rintro e w1 ⟨rfl, ⟨ys, R, HI⟩, KK⟩
 have HI' : Hid (ys.Perm xs ∧ ys.Pairwise (· ≤ ·)) := ⟨HI.1, ins_sorted (by rw [R.nInts]; exact HI)⟩
 clear HI
 go_wp2
 exact bodyPost_end (v := .tuple #[]) (by simp [results, Tryz.results220, go_sem]) rfl ⟨rfl, ⟨ys, R, HI'.out⟩, KK⟩
theorem run_storeVar_oneC {P : Program} {w : World} {b k : Nat} {u : Value} (hc : w.cell? ⟨b, k, none⟩ = some u) (hf : w.frozen? ⟨b, k, none⟩ = false) (ty : TypeId) (v : Value) (hv : v.oneCell' = true) (hi : (P.info? ty).map (·.size) = some 1) : (storeVar ty ⟨b, k, none⟩ v).run P w = .ok () (w.setCells b k [v]) := by
 have := run_storeCells_cells (P := P) b k [v] 0 w (fun j hj => by
  have e : j = 0 := by simpa using hj
  rw [e, Nat.add_zero, hc]; rfl) (fun j hj => by
  have e : j = 0 := by simpa using hj
  rw [e, Nat.add_zero]; exact hf) (fun x hx => by simp at hx; subst hx; exact hv)
 have hc : v.cells = #[v] := by cases v <;> first | rfl | cases hv
 cases hq : P.info? ty with
 | none => simp [hq] at hi
 | some i =>
  have hs : i.size = 1 := by simpa [hq] using hi
  simp only [Nat.add_zero] at this
  simp [storeVar, sizeOf, typeInfo, hq, hc, hs, this]
theorem step_oneC {P : Program} {ops : Array Oper} {dst : Option Tmp} {type : TypeId} {pos : String} {after : Array Edge} {a : Act} {w : World} {K : Act → World → Prop} {Q : Exit → Act → World → Prop} {E : Prop} (ty : TypeId) {x y : Operand} {b k : Nat} {u : Value} (hc : w.cell? ⟨b, k, none⟩ = some u) (hf : w.frozen? ⟨b, k, none⟩ = false) (v : Value) (hi : (P.info? ty).map (·.size) = some 1) (hv : v.oneCell' = true) (hx : a.eval x = .pointer (some ⟨b, k, none⟩)) (hy : a.eval y = v)
  (h : K (a.put dst undef) (w.setCell ⟨b, k, none⟩ v)) : if Region.wanted ⟨dst, .store ty x y, type, pos, after, none⟩ (yielded ops a.tmps) = true then Oper.wp P ⟨dst, .store ty x y, type, pos, after, none⟩ a w K Q else E := by
 have hw : Region.wanted ⟨dst, .store ty x y, type, pos, after, none⟩ (yielded ops a.tmps) = true := by simp [Region.wanted]
 rw [if_pos hw]
 unfold Oper.wp execOp
 simp only [hx, hy, Instr.storeAt, Instr.sureAddr, Sem.run_bind, Sem.run_pure, Result.andThen_ok, run_storeVar_oneC hc hf ty v hv hi]
 exact h
theorem agreed_is {own : Bool} {lo hi : Nat} (r : Rep) (h : RH) (s : Hd) (b0 : Nat) (w : World) (X0 : Bx w b0 [.int .i64 r.id, .int .i64 r.size, .int .i64 r.view, .bool r.normal, .int .i64 r.last, .slice h.L.1 h.L.2.1 h.L.2.2, .int .i64 r.commit, .slice h.O.1 h.O.2.1 h.O.2.2, .slice h.A.1 h.A.2.1 h.A.2.2, .slice h.D.1 h.D.2.1 h.D.2.2, .slice s.1 s.2.1 s.2.2]) (x : RepAt w own lo hi h r) (hs : 1 ≤ r.size ∧ r.size ≤ 5) (hid : 0 ≤ r.id ∧ r.id ≤ r.size - 1) (hl : (r.oks.length : Int) = r.size) (ho : ∀ y ∈ r.oks, 0 ≤ y ∧ y ≤ (r.log.length : Int)) :
  Calls Tryz.prog 188 #[.agg #[.pointer (some ⟨b0, 0, none⟩)]] w fun e w' => e = .returned (.int .i64 (agrR r)) ∧ Below w.heap.size w w' := by
 have hol := x.oks.nInts
 have hll := x.log.nSixs
 have HG : Hid (∀ ys : List Int, ys.Perm (r.oks.set r.id.toNat (h.L.2.1 : Int)) → ys.Pairwise (· ≤ ·) → ys.getD ((r.size - 1) / 2).toNat 0 = agrR r) := fun ys h1 h2 => by
  unfold agrR
  rw [hll]
  have := agr_sorted (oks := r.oks) (ys := ys) (id := r.id.toNat) (n := h.L.2.1) (size := r.size) h1 h2 hl hs (by omega) (by rw [← hll]; exact ho)
  rw [this, show ((r.id.toNat : Nat) : Int) = r.id by omega]
 have c0 := X0.cell
 have ob0 := X0.lt
 obtain ⟨i, hi⟩ : ∃ i : Nat, r.id = i := ⟨r.id.toNat, by omega⟩
 have hnO : h.O.2.1 ≤ 5 := by omega
 have hiO : i < h.O.2.1 := by omega
 have hdv : Int.tdiv (r.size - 1) 2 = (r.size - 1) / 2 := Int.tdiv_eq_ediv_of_nonneg (by omega)
 obtain ⟨m, hm⟩ : ∃ m : Nat, (r.size - 1) / 2 = m := ⟨((r.size - 1) / 2).toNat, by omega⟩
 have hmO : m < h.O.2.1 := by omega
 rw [hm] at hdv
 have HG2 : Hid (∀ ys : List Int, ys.Perm (r.oks.set i (h.L.2.1 : Int)) → ys.Pairwise (· ≤ ·) → ys.getD m 0 = agrR r) := fun ys h1 h2 => by
  have := HG.out ys (by rw [hi]; exact h1) h2
  rwa [hm] at this
 clear HG hm
 have w1 : IntKind.i64.wrap (r.size - 1) = r.size - 1 := wrapI_same _ (by omega)
 have w2 : IntKind.i64.wrap (m : Int) = m := wrapI_same _ (by omega)
 have hiq : (i : Int) < (h.O.2.1 : Int) := by omega
 have hmq : (m : Int) < (h.O.2.1 : Int) := by omega
 rw [hi] at X0 c0
 go_enter Tryz.func188, Tryz.ntmps188
 go_wp2_with (first | ((have g := ob0); clear g; (with_reducible refine box_newX 106 [.pointer (some ⟨b0, 0, none⟩)] rfl ?_); intro b1 W1 N1; have ob1 := N1.ge; have o0_b1 := N1.u X0; replace X0 := N1.r X0; replace c0 := X0.cell; have B := N1.below; obtain ⟨X1, c1⟩ := N1.c; clear N1) | fail)
 refine (cloneI_z _ _ _ r.oks _ (by exact x.oks.below B) (by omega)).mono ?_
 rintro e w1 ⟨ra, rc, z, u, rfl, Gz, _, hR, R, BB⟩
 have oz : w.heap.size ≤ z := Nat.le_trans B.size Gz
 have o0_z := ltl X0.lt Gz
 have o1_z := ltl X1.lt Gz
 clear Gz
 replace X0 := X0.below BB
 replace c0 := X0.cell
 replace X1 := X1.below BB
 replace c1 := X1.cell
 replace B := below_next B BB
 clear BB
 obtain ⟨bb, off, rfl, y1, y2, y3, e0, f0⟩ := R.int hiO
 replace f0 := f0 rfl
 go_wp2_with fail
 have DQ : Below w1.heap.size w1 w1.drew := (Below.refl _ _).drew
 replace X0 := X0.below DQ
 replace c0 := X0.cell
 replace X1 := X1.below DQ
 replace c1 := X1.cell
 replace R := R.below DQ
 replace hR := Nat.le_trans hR DQ.size
 replace B := below_next B DQ
 clear DQ
 replace e0 : w1.drew.cell? _ = _ := e0
 replace f0 : w1.drew.frozen? _ = _ := f0
 refine wp_region_held_drew (S := (fun w' => (∀ k : Nat, w'.cell? ⟨b0, k, none⟩ = [.int .i64 i, .int .i64 r.size, .int .i64 r.view, .bool r.normal, .int .i64 r.last, .slice h.L.1 h.L.2.1 h.L.2.2, .int .i64 r.commit, .slice h.O.1 h.O.2.1 h.O.2.2, .slice h.A.1 h.A.2.1 h.A.2.2, .slice h.D.1 h.D.2.1 h.D.2.2, .slice s.1 s.2.1 s.2.2][k]?) ∧ ∀ k : Nat, w'.cell? ⟨b1, k, none⟩ = [Value.pointer (some ⟨b0, 0, none⟩)][k]?)) (by kernel_rfl) ⟨c0, c1⟩ (fun hZq => ?_)
 refine tk 0 hZq ?_
 refine tk 1 hZq ?_
 refine tk 2 hZq ?_
 refine tk 3 hZq ?_
 refine tk 4 hZq ?_
 refine tk 5 hZq ?_
 refine tk 6 hZq ?_
 refine tk 7 hZq ?_
 refine tk 8 hZq ?_
 refine tk 9 hZq ?_
 refine tk 10 hZq ?_
 refine tk 11 hZq ?_
 refine tk 12 hZq ?_
 refine tk 13 hZq ?_
 refine tk 14 hZq ?_
 refine rd1 15 (fun KK hKK => ?_)
 refine step_oneC 2 e0 f0 (.int .i64 (h.L.2.1 : Int)) (by kernel_rfl) rfl rfl rfl ?_
 have KK : Kept bb (bb + 1) w1.drew (w1.drew.setCell ⟨bb, off + i, none⟩ (.int .i64 (h.L.2.1 : Int))) := Kept.setCell (p := ⟨bb, off + i, none⟩) (Kept.refl _ _ _) (Nat.le_refl _) (Nat.lt_succ_self _) _
 replace R := R.intSet hiO (h.L.2.1 : Int)
 clear e0 f0
 generalize w1.drew.setCell ⟨bb, off + i, none⟩ (.int .i64 (h.L.2.1 : Int)) = V1 at *
 replace X0 := X0.kp KK
 replace c0 := X0.cell
 replace X1 := X1.kp KK
 replace c1 := X1.cell
 replace hR := Nat.le_trans hR KK.size
 replace B := bkp B KK
 clear KK
 clear hZq
 refine hKK _ _ ⟨c0, c1⟩ (fun hZq => ?_)
 clear hKK KK
 refine wpAnyH_done (by kernel_rfl) ?_ _
 go_wp2_with fail
 refine (sort_is bb off _ rc _ _ R ⟨by omega, hnO⟩).mono ?_
 rintro e w2 ⟨rfl, ⟨ys, R2, hp, hso⟩, KK⟩
 have HV : Hid _ := HG2.out ys hp hso
 clear R hp hso
 replace X0 := X0.kp KK
 replace c0 := X0.cell
 replace X1 := X1.kp KK
 replace c1 := X1.cell
 replace B := bkp B KK
 clear KK
 obtain ⟨b', o', q1, _, _, _, e0, _⟩ := R2.int hmO
 simp only [Option.some.injEq, Addr.mk.injEq, and_true] at q1
 obtain ⟨rfl, rfl⟩ := q1
 rw [HV.out] at e0
 go_wp2
 go_ret
 exact ⟨rfl, B⟩
theorem oksF_ok {m : Nat} : ∀ {xs : List Int}, oksF m xs = 0 → ∀ y ∈ xs, 0 ≤ y ∧ y ≤ (m : Int)
 | [], _, y, hy => by cases hy
 | x :: xs, h, y, hy => by
  rw [oksF] at h
  by_cases q : 0 ≤ x ∧ x ≤ (m : Int)
  ·rw [if_pos q] at h
   rcases List.mem_cons.1 hy with rfl | hy
   ·exact q
   ·exact oksF_ok h y hy
  ·rw [if_neg q] at h; cases h
theorem rep_ok {r : Rep} (h : repF r = 0) : numsP r ∧ lgF r.log r.commit = 0 ∧ (r.normal = true → r.last = r.view) ∧ sizesP r ∧ oksF r.log.length r.oks = 0 ∧ drsF r.doers = 0 := by
 unfold repF at h
 by_cases h1 : numsP r
 ·rw [if_pos h1] at h
  by_cases h2 : lgF r.log r.commit = 0
  ·rw [if_pos h2] at h
   by_cases h3 : (r.normal = true ∧ r.last ≠ r.view) ∨ ¬ sizesP r
   ·rw [if_pos h3] at h; cases h
   ·rw [if_neg h3] at h
    by_cases h4 : oksF r.log.length r.oks = 0
    ·rw [if_pos h4] at h
     exact ⟨h1, h2, fun hn => Decidable.byContradiction fun q => h3 (Or.inl ⟨hn, q⟩), Decidable.byContradiction fun q => h3 (Or.inr q), h4, h⟩
    ·rw [if_neg h4] at h; exact absurd h h4
  ·rw [if_neg h2] at h; exact absurd h h2
 ·rw [if_neg h1] at h; cases h
theorem lg_ok {xs : List En} {c : Int} (h : lgF xs c = 0) : logF xs = 0 ∧ 0 ≤ c ∧ c ≤ xs.length := by
 unfold lgF at h
 by_cases h1 : logF xs = 0
 ·rw [if_pos h1] at h
  by_cases h2 : 0 ≤ c ∧ c ≤ xs.length
  ·exact ⟨h1, h2⟩
  ·rw [if_neg h2] at h; cases h
 ·rw [if_neg h1] at h; exact absurd h h1
theorem log_len {xs : List En} (h : logF xs = 0) : xs.length ≤ 40 := by
 unfold logF at h
 by_cases q : 40 < xs.length
 ·rw [if_pos q] at h; cases h
 ·omega
def ledF (r : Rep) : Int := if repF r = 0 then (if leadsB r = true then 0 else 10) else repF r
structure Led (r : Rep) : Prop where
 size : 1 ≤ r.size ∧ r.size ≤ 5
 id : 0 ≤ r.id ∧ r.id ≤ r.size - 1
 view : 0 ≤ r.view ∧ r.view ≤ 200
 log : r.log.length ≤ 40
 commit : 0 ≤ r.commit ∧ r.commit ≤ r.log.length
 oks : (r.oks.length : Int) = r.size
 okb : ∀ y ∈ r.oks, 0 ≤ y ∧ y ≤ (r.log.length : Int)
theorem cntA_in (oks : List Int) (id k : Int) : ∀ n : Nat, 1 ≤ cntA oks id k n ∧ cntA oks id k n ≤ (n : Int) + 1
 | 0 => by simp [cntA]
 | n + 1 => by have := cntA_in oks id k n; rw [cntA]; split <;> omega
theorem l9Enough_is (n : Int) (hn : 1 ≤ n ∧ n ≤ 5) (w : World) : Calls Tryz.prog 139 #[.int .i64 n] w fun e w' => e = .returned (.int .i64 (n / 2 + 1)) ∧ w' = w := by
 have hc : n = 1 ∨ n = 2 ∨ n = 3 ∨ n = 4 ∨ n = 5 := by omega
 clear hn
 rcases hc with rfl | rfl | rfl | rfl | rfl
 all_goals
  go_enter Tryz.func139, Tryz.ntmps139
  go_wp2
  go_ret
  exact ⟨rfl, rfl⟩
theorem l9Agreed_is {own : Bool} {lo hi : Nat} (r : Rep) (h : RH) (b0 : Nat) (w : World) (X0 : Bx w b0 [.int .i64 r.id, .int .i64 r.size, .int .i64 r.view, .bool r.normal, .int .i64 r.last, .slice h.L.1 h.L.2.1 h.L.2.2, .int .i64 r.commit, .slice h.O.1 h.O.2.1 h.O.2.2, .slice h.A.1 h.A.2.1 h.A.2.2, .slice h.D.1 h.D.2.1 h.D.2.2]) (x : RepAt w own lo hi h r) (hs : 1 ≤ r.size ∧ r.size ≤ 5) (hid : 0 ≤ r.id ∧ r.id ≤ r.size - 1) (hlo : r.log.length ≤ 40) (hl : (r.oks.length : Int) = r.size) :
  Calls Tryz.prog 76 #[.pointer (some ⟨b0, 0, none⟩)] w fun e w' => e = .returned (.int .i64 (agrR r)) ∧ w' = w := by
 have hol := x.oks.nInts
 have hll := x.log.nSixs
 have hxo := x.oks
 have HA : Hid (agrTo r.oks r.id r.size h.L.2.1 = agrR r) := by show _ = _; unfold agrR; rw [hll]
 obtain ⟨id, size, view, normal, last, log, commit, oks, asks, doers⟩ := r
 simp only at X0 hs hid hlo hl hol hll hxo HA
 generalize agrR _ = res at *
 obtain ⟨m, rfl⟩ : ∃ m : Nat, size = m := ⟨size.toNat, by omega⟩
 obtain ⟨i0, rfl⟩ : ∃ i0 : Nat, id = i0 := ⟨id.toNat, by omega⟩
 have HmO : Hid (m = h.O.2.1) := (by omega : m = h.O.2.1)
 have hLl : h.L.2.1 ≤ 40 := by omega
 clear x hll hol hl hlo log asks doers
 have c0 := X0.cell
 go_enter Tryz.func76, Tryz.ntmps76
 go_wp2
 go_loopw [3, 4, 5] (fun kv _ _ wr => ∃ k : Nat, k ≤ h.L.2.1 ∧ kv = .int .i64 k ∧ Hid (agrTo oks i0 m k = res) ∧ w = wr) (fun kv _ _ _ => (intOf kv).toNat)
 case atStart => exact ⟨_, Nat.le_refl _, rfl, HA, rfl⟩
 case round =>
  obtain ⟨k, hk, rfl, HK, rfl⟩ := hrel
  clear HA
  by_cases h0 : k = 0
  ·subst h0
   have hd : res = 0 := by rw [← HK.out, agrTo]
   subst hd
   go_wp2
   go_ret
   exact ⟨rfl, rfl⟩
  obtain ⟨p, rfl⟩ : ∃ p, k = p + 1 := ⟨k - 1, by omega⟩
  clear h0
  have hp0 : (0 : Int) < ((p + 1 : Nat) : Int) := by omega
  have s2 : ((p + 1 : Nat) : Int) = (p : Int) + 1 := by simp
  have hp1 : (0 : Int) < (p : Int) + 1 := by omega
  have s0 : IntKind.i64.wrap (p : Int) = p := wrapI_same _ (by omega)
  have HK2 : Hid _ := HK.out
  rw [agrTo] at HK2
  clear HK
  go_wp2
  go_loopw [4, 5] (fun hv iv wr => ∃ i : Nat, i ≤ m ∧ iv = .int .i64 i ∧ hv = .int .i64 (cntA oks i0 ((p : Int) + 1) i) ∧ w = wr) (fun _ iv _ => m - (intOf iv).toNat)
  case atStart => exact ⟨0, Nat.zero_le _, rfl, rfl, rfl⟩
  case round =>
   obtain ⟨i, hi, rfl, rfl, rfl⟩ := hrel
   have hb := cntA_in oks i0 ((p : Int) + 1) i
   by_cases hlt : i < m
   ·have hli : (i : Int) < (m : Int) := by omega
    have hlo : (i : Int) < (h.O.2.1 : Int) := by have := HmO.out; omega
    have HS : Hid (cntA oks i0 ((p : Int) + 1) (i + 1) = cntA oks i0 ((p : Int) + 1) i + (if (i : Int) ≠ (i0 : Int) ∧ (p : Int) + 1 ≤ oks.getD i 0 then 1 else 0)) := rfl
    obtain ⟨b, off, eo, _, _, _, e0, _⟩ := hxo.int (k := i) (by have := HmO.out; omega)
    rw [eo] at c0 X0
    generalize oks.getD i 0 = y at *
    generalize hcc : cntA oks i0 ((p : Int) + 1) i = cc at *
    have w1 : IntKind.i64.wrap (cc + 1) = cc + 1 := wrapI_same _ (by omega)
    by_cases q1 : (i : Int) = i0
    ·have q1' : ((i : Int) != (i0 : Int)) = false := by simp [q1]
     have HT : Hid _ := HS.out
     rw [if_neg (fun z => z.1 q1), Int.add_zero] at HT
     clear q1 HS hcc
     go_wp2
     go_roundw
     case rel => exact ⟨i + 1, by omega, by go_num, by rw [HT.out], by first | rfl | trivial⟩
     case measure => simp [intOf]; omega
    have q1' : ((i : Int) != (i0 : Int)) = true := by simp [q1]
    by_cases q2 : (p : Int) + 1 ≤ y
    ·have HT : Hid _ := HS.out
     rw [if_pos ⟨q1, q2⟩] at HT
     clear q1 HS hcc
     go_wp2
     go_roundw
     case rel => exact ⟨i + 1, by omega, by go_num, by rw [HT.out], by first | rfl | trivial⟩
     case measure => simp [intOf]; omega
    ·have HT : Hid _ := HS.out
     rw [if_neg (fun z => q2 z.2), Int.add_zero] at HT
     clear q1 HS hcc
     go_wp2
     go_roundw
     case rel => exact ⟨i + 1, by omega, by go_num, by rw [HT.out], by first | rfl | trivial⟩
     case measure => simp [intOf]; omega
   ·obtain rfl : i = m := by omega
    have HX : Hid _ := HK2.out
    rw [Int.toNat_natCast] at HX
    clear HK2
    generalize cntA oks i0 ((p : Int) + 1) i = cc at *
    go_wp2_with fail
    refine (l9Enough_is i (by omega) _).mono ?_
    rintro e W9 ⟨rfl, rfl⟩
    by_cases q : (i : Int) / 2 + 1 ≤ cc
    ·have e : res = (p : Int) + 1 := by rw [← HX.out, if_pos q]
     subst e
     go_wp2
     go_ret
     exact ⟨rfl, rfl⟩
    ·have HY : Hid _ := HX.out
     rw [if_neg q] at HY
     clear HX
     go_wp2
     go_roundw
     case rel => exact ⟨p, by omega, by go_num, HY, by first | rfl | trivial⟩
     case measure => simp [intOf]
end Go.Proofs.YtonclmbihhdkpaaGreat
