/- Chapter 2, plain facts: sums, records, the scan of a journal, what an append puts, what a crash leaves. No program is named here. -/
import Derived.Test.YtjefmhjlaibbkaaQAF
import Derived.Test.YtjefmhjlaibbkaaQAB
import Derived.Deep.MidRow
import Derived.Deep.RegionHeld3
import Derived.Deep.WholeRow
import Derived.Test.YtjefmhjlaibbkaaQAE
import Derived.Maps.AppendAt
import Derived.Test.YtjefmhjlaibbkaaQAG
import Derived.Test.YtjefmhjlaibbkaaQAC
import Derived.Deep.AppendLies
import Derived.Lib.AppendZeros
import Derived.BigQuiet
import Derived.Deep.RegionLaw
import Derived.Laws.StructEq
set_option maxRecDepth 20000
set_option maxHeartbeats 16000000
namespace Go.Proofs.Ytjefmhjlaibbkaa
open Go.RowKit
def sumStep (h x : Int) : Int := (h * 263 + x % 65521 + 1) % 65521
def sumOf (xs : List Int) : Int := xs.foldl sumStep 9
def recAt (ws : List Int) (at' k : Nat) : Option (List Int) :=
 if at' + 2 < ws.length ∧ 1 ≤ ws.getD at' 0 ∧ ws.getD at' 0 ≤ 8 ∧ at' + 2 + (ws.getD at' 0).toNat ≤ ws.length ∧ ws.getD (at' + 1) 0 = sumOf ((k : Int) :: (ws.drop (at' + 2)).take (ws.getD at' 0).toNat)
 then some ((ws.drop (at' + 2)).take (ws.getD at' 0).toNat) else none
def lay : Nat → List (List Int) → List Int
 | _, [] => []
 | k, r :: rs => (r.length : Int) :: sumOf ((k : Int) :: r) :: (r ++ lay (k + 1) rs)
def okRec (r : List Int) : Prop := 1 ≤ r.length ∧ r.length ≤ 8
def Scanned (ws : List Int) (a : Nat) (out : List (List Int)) : Prop := ws.take a = lay 0 out ∧ a ≤ ws.length ∧ ∀ r ∈ out, okRec r
structure RecsAt (w : World) (lo : Nat) (vs : List Value) (rs : List (List Int)) : Prop where
 len : vs.length = rs.length
 each : ∀ i, i < rs.length → ∃ (a : Option Addr) (n c l u : Nat), vs.getD i default = .slice a n c ∧ lo ≤ l ∧ u ≤ w.heap.size ∧ RowAt w true l u 1 a n c (ints (rs.getD i []))
structure RecsBut (w : World) (lo : Nat) (b : Option Nat) (vs : List Value) (rs : List (List Int)) : Prop where
 len : vs.length = rs.length
 each : ∀ i, i < rs.length → ∃ (g n c : Nat), vs.getD i default = .slice (some ⟨g, 0, none⟩) n c ∧ b ≠ some g ∧ lo ≤ g ∧ g < w.heap.size ∧ RowAt w true g (g + 1) 1 (some ⟨g, 0, none⟩) n c (ints (rs.getD i []))
structure Told (w : World) (pb : Nat) (n : Nat) (xs : List Int) : Prop where
 lt : pb < w.heap.size
 ok : ∃ v, w.cell? ⟨pb, 0, none⟩ = some v ∧ w.ownsRow (pb + 1) 2 1 v n (ints xs)
 fr : w.frozen? ⟨pb, 0, none⟩ = false
def firstF : List En → Int
 | [] => 0
 | x :: r => if enFault x = 0 then firstF r else enFault x
def logF (xs : List En) : Int := if 40 < xs.length then 2 else firstF xs
theorem firstF_drop {xs : List En} {k : Nat} (h : k < xs.length) : firstF (xs.drop k) = if enFault (xs.getD k en0) = 0 then firstF (xs.drop (k + 1)) else enFault (xs.getD k en0) := by
 rw [List.drop_eq_getElem_cons h]
 simp only [firstF, List.getD, List.getElem?_eq_getElem h, Option.getD_some]
theorem firstF_end {xs : List En} {k : Nat} (h : xs.length ≤ k) : firstF (xs.drop k) = 0 := by rw [List.drop_eq_nil_of_le h]; rfl
theorem specLF_is {o : Bool} {lo hi : Nat} (ao : Option Addr) (n cap : Nat) (xs : List En) (w : World) (h : RowAt w o lo hi 6 ao n cap (sixs xs)) (d : Int) (hd : logF xs = d) : Calls Try.prog 64 #[.slice ao n cap] w fun e w' => e = .returned (.int .i64 d) ∧ Below w.heap.size w w' := by
 have hxl := h.nSixs
 unfold logF at hd
 rw [hxl] at hd
 go_enter Try.func64, Try.ntmps64
 by_cases hbig : 40 < n
 ·rw [if_pos hbig] at hd
  subst hd
  have hbi : (40 : Int) < (n : Int) := by omega
  go_wp2
  go_ret
  exact ⟨rfl, Below.refl _ _⟩
 have hbi : ¬ (40 : Int) < (n : Int) := by omega
 rw [if_neg hbig] at hd
 have HD : Hid (firstF xs = d) := hd
 clear hd
 go_wp2
 go_loopw [3, 4] (fun i _ wr => ∃ k : Nat, k ≤ n ∧ i = .int .i64 k ∧ Hid (firstF (xs.drop k) = d) ∧ Below w.heap.size w wr) (fun i _ _ => n - (intOf i).toNat)
 case atStart => exact ⟨0, Nat.zero_le _, rfl, by simpa using HD, Below.refl _ _⟩
 case round =>
  obtain ⟨k, hk, rfl, HK, hb⟩ := hrel
  clear HD
  by_cases hlt : k < n
  ·have HF : Hid _ := firstF_drop (xs := xs) (k := k) (by omega)
   obtain ⟨b, off, rfl, _, _, hbs, e0, e1, e2, e3, e4, e5, _⟩ := h.six hlt
   replace e0 := cell_later hb e0
   replace e1 := cell_later hb e1
   replace e2 := cell_later hb e2
   replace e3 := cell_later hb e3
   replace e4 := cell_later hb e4
   replace e5 := cell_later hb e5
   have hl : (k : Int) < (n : Int) := by omega
   obtain ⟨⟨x0, x1, x2, x3, x4, x5⟩, hx⟩ : ∃ x, xs.getD k en0 = x := ⟨_, rfl⟩
   rw [hx] at e0 e1 e2 e3 e4 e5 HF
   simp only at e0 e1 e2 e3 e4 e5
   clear hx
   obtain ⟨c, hc⟩ : ∃ c, enFault (x0, x1, x2, x3, x4, x5) = c := ⟨_, rfl⟩
   rw [hc] at HF
   have HC : Hid _ := hc
   clear hc
   go_wp2_with fail
   refine (specEF_is x0 x1 x2 x3 x4 x5 _ c HC.out).mono ?_
   rintro e w1 ⟨rfl, hb1⟩
   replace hb := below_step hb hb.size hb1
   clear hb1 HC e0 e1 e2 e3 e4 e5
   by_cases h0 : c = 0
   ·subst h0
    have HK' : Hid (firstF (xs.drop (k + 1)) = d) := by show _ = _; rw [← HK.out, HF.out, if_pos rfl]
    clear HF HK
    go_wp2
    go_roundw
    case rel => exact ⟨k + 1, by omega, by go_num, HK', hb⟩
    case measure => simp [intOf]; omega
   ·have hd : c = d := by rw [← HK.out, HF.out, if_neg h0]
    subst hd
    clear HF HK
    have h0' : (c != 0) = true := by simp [h0]
    go_wp2
    go_ret
    exact ⟨rfl, hb⟩
  ·have hd : d = 0 := by rw [← HK.out, firstF_end (by omega)]
   subst hd
   go_wp2
   go_ret
   exact ⟨rfl, hb⟩
theorem firstFault_is {o : Bool} {lo hi : Nat} (ao : Option Addr) (n cap : Nat) (xs : List En) (w : World) (h : RowAt w o lo hi 6 ao n cap (sixs xs)) (hn : n ≤ 40) (d : Int) (hd : firstF xs = d) : Calls Try.prog 104 #[.slice ao n cap, .func (.func 105) #[] #[]] w fun e w' => e = .returned (.int .i64 d) ∧ Below w.heap.size w w' := by
 have hxl := h.nSixs
 have HD : Hid (firstF xs = d) := hd
 clear hd
 go_enter Try.func104, Try.ntmps104
 go_wp2
 go_loopw [6, 7, 10] (fun _ _ i wr => ∃ k : Nat, k ≤ n ∧ i = .int .i64 k ∧ Hid (firstF (xs.drop k) = d) ∧ Below w.heap.size w wr) (fun _ _ i _ => n - (intOf i).toNat)
 case atStart => exact ⟨0, Nat.zero_le _, rfl, by simpa using HD, Below.refl _ _⟩
 case round =>
  obtain ⟨k, hk, rfl, HK, hb⟩ := hrel
  clear HD
  by_cases hlt : k < n
  ·have HF : Hid _ := firstF_drop (xs := xs) (k := k) (by omega)
   obtain ⟨b, off, rfl, _, _, hbs, e0, e1, e2, e3, e4, e5, _⟩ := h.six hlt
   replace e0 := cell_later hb e0
   replace e1 := cell_later hb e1
   replace e2 := cell_later hb e2
   replace e3 := cell_later hb e3
   replace e4 := cell_later hb e4
   replace e5 := cell_later hb e5
   have hl : (k : Int) < (n : Int) := by omega
   obtain ⟨⟨x0, x1, x2, x3, x4, x5⟩, hx⟩ : ∃ x, xs.getD k en0 = x := ⟨_, rfl⟩
   rw [hx] at e0 e1 e2 e3 e4 e5 HF
   simp only at e0 e1 e2 e3 e4 e5
   clear hx
   obtain ⟨c, hc⟩ : ∃ c, enFault (x0, x1, x2, x3, x4, x5) = c := ⟨_, rfl⟩
   rw [hc] at HF
   have HC : Hid _ := hc
   clear hc
   go_wp2_with (first | ((with_reducible refine alloc_new 97 #[.int .i64 0, .int .i64 0, .int .i64 0, .int .i64 0, .int .i64 0, .int .i64 0] (fun _ => by kernel_rfl) ?_); intro b0 W0 N0; have c0 : W0.cell? ⟨b0, 0, none⟩ = some (.int .i64 0) := N0.cell 0 _ rfl; have y0 : W0.frozen? ⟨b0, 0, none⟩ = false := N0.froz 0; have c1 : W0.cell? ⟨b0, 1, none⟩ = some (.int .i64 0) := N0.cell 1 _ rfl; have y1 : W0.frozen? ⟨b0, 1, none⟩ = false := N0.froz 1; have c2 : W0.cell? ⟨b0, 2, none⟩ = some (.int .i64 0) := N0.cell 2 _ rfl; have y2 : W0.frozen? ⟨b0, 2, none⟩ = false := N0.froz 2; have c3 : W0.cell? ⟨b0, 3, none⟩ = some (.int .i64 0) := N0.cell 3 _ rfl; have y3 : W0.frozen? ⟨b0, 3, none⟩ = false := N0.froz 3; have c4 : W0.cell? ⟨b0, 4, none⟩ = some (.int .i64 0) := N0.cell 4 _ rfl; have y4 : W0.frozen? ⟨b0, 4, none⟩ = false := N0.froz 4; have c5 : W0.cell? ⟨b0, 5, none⟩ = some (.int .i64 0) := N0.cell 5 _ rfl; have y5 : W0.frozen? ⟨b0, 5, none⟩ = false := N0.froz 5; have H0 : Hid (w.heap.size ≤ b0) := Nat.le_trans hb.size N0.ge; replace hb := below_step hb hb.size N0.below; clear N0) | ((with_reducible refine store_box 97 b0 [.int .i64 x0, .int .i64 x1, .int .i64 x2, .int .i64 x3, .int .i64 x4, .int .i64 x5] (by simp) (there6 c0 c1 c2 c3 c4 c5 y0 y1 y2 y3 y4 y5) (by kernel_rfl) (by simp [Value.oneCell']) rfl rfl ?_); intro W1 S0; replace c0 : W1.cell? ⟨b0, 0, none⟩ = some (.int .i64 x0) := S0.cell 0 _ rfl; replace c1 : W1.cell? ⟨b0, 1, none⟩ = some (.int .i64 x1) := S0.cell 1 _ rfl; replace c2 : W1.cell? ⟨b0, 2, none⟩ = some (.int .i64 x2) := S0.cell 2 _ rfl; replace c3 : W1.cell? ⟨b0, 3, none⟩ = some (.int .i64 x3) := S0.cell 3 _ rfl; replace c4 : W1.cell? ⟨b0, 4, none⟩ = some (.int .i64 x4) := S0.cell 4 _ rfl; replace c5 : W1.cell? ⟨b0, 5, none⟩ = some (.int .i64 x5) := S0.cell 5 _ rfl; replace hb := hb.trans (S0.kept.below _ H0.out hb.size); clear S0 H0 y0 y1 y2 y3 y4 y5) | fail)
   refine (implEF_is x0 x1 x2 x3 x4 x5 _ c HC.out).mono ?_
   rintro e w1 ⟨rfl, hb1⟩
   replace hb := below_step hb hb.size hb1
   clear hb1 HC e0 e1 e2 e3 e4 e5 c0 c1 c2 c3 c4 c5
   by_cases h0 : c = 0
   ·subst h0
    have HK' : Hid (firstF (xs.drop (k + 1)) = d) := by show _ = _; rw [← HK.out, HF.out, if_pos rfl]
    clear HF HK
    go_wp2
    go_roundw
    case rel => exact ⟨k + 1, by omega, by go_num, HK', hb⟩
    case measure => simp [intOf]; omega
   ·have hd : c = d := by rw [← HK.out, HF.out, if_neg h0]
    subst hd
    clear HF HK
    have h0' : (c != 0) = true := by simp [h0]
    go_wp2
    go_ret
    exact ⟨rfl, hb⟩
  ·have hd : d = 0 := by rw [← HK.out, firstF_end (by omega)]
   subst hd
   go_wp2
   go_ret
   exact ⟨rfl, hb⟩
theorem implLF_is {o : Bool} {lo hi : Nat} (ao : Option Addr) (n cap : Nat) (xs : List En) (w : World) (h : RowAt w o lo hi 6 ao n cap (sixs xs)) (d : Int) (hd : logF xs = d) : Calls Try.prog 78 #[.slice ao n cap] w fun e w' => e = .returned (.int .i64 d) ∧ Below w.heap.size w w' := by
 have hxl := h.nSixs
 unfold logF at hd
 rw [hxl] at hd
 go_enter Try.func78, Try.ntmps78
 by_cases hbig : 40 < n
 ·rw [if_pos hbig] at hd
  subst hd
  have hbi : (40 : Int) < (n : Int) := by omega
  go_wp2
  go_ret
  exact ⟨rfl, Below.refl _ _⟩
 have hbi : ¬ (40 : Int) < (n : Int) := by omega
 rw [if_neg hbig] at hd
 go_wp2_with fail
 refine (firstFault_is ao n cap xs _ h (by omega) d hd).mono ?_
 rintro e w1 ⟨rfl, hb⟩
 go_wp2
 go_ret
 exact ⟨rfl, hb⟩
def hcs (n : Nat) (hs : Nat → Hd) (k : Nat) : List Value := (List.range n).map fun j => if j < k then hv (hs j) else .slice none 0 0
theorem hcs_get {n : Nat} {hs : Nat → Hd} {j : Nat} (h : j < n) : (hcs n hs n).getD j default = hv (hs j) := by simp [hcs, List.getD, h]
structure LogsAt (w : World) (o : Bool) (lo hi : Nat) (ao : Option Addr) (n cap : Nat) (hs : Nat → Hd) (xss : List (List En)) : Prop where
 len : xss.length = n
 row : RowAt w o lo hi 1 ao n cap (hcs n hs n)
 each : ∀ i, i < n → ∃ h, RowAt w false 0 h 6 (hs i).1 (hs i).2.1 (hs i).2.2 (sixs (xss.getD i []))
theorem LogsAt.cell {w : World} {o : Bool} {lo hi : Nat} {ao : Option Addr} {n cap : Nat} {hs : Nat → Hd} {xss : List (List En)} (h : LogsAt w o lo hi ao n cap hs xss) {i : Nat} (hi' : i < n) : ∃ b off, ao = some ⟨b, off, none⟩ ∧ b < w.heap.size ∧ w.cell? ⟨b, off + i, none⟩ = some (.slice (hs i).1 (hs i).2.1 (hs i).2.2) := by
 obtain ⟨b, off, e, _, _, g3, g4, _⟩ := h.row.cells (by omega)
 refine ⟨b, off, e, g3, ?_⟩
 rw [g4 i (by omega), hcs_get hi']; rfl
theorem Try.infoLog : (Try.prog.info? 24).map (fun i => (i.zero, i.size, i.bytes)) = some (some (.slice none 0 0), 1, 24) := by kernel_rfl
def betB (la lb : Int) (na nb : Nat) : Bool := decide (lb < la ∨ (la = lb ∧ nb < na))
def bestTo (ls : List Int) (xss : List (List En)) : Nat → Nat
 | 0 => 0
 | k + 1 => if betB (ls.getD k 0) (ls.getD (bestTo ls xss k) 0) (xss.getD k []).length (xss.getD (bestTo ls xss k) []).length = true then k else bestTo ls xss k
theorem bestTo_lt (ls : List Int) (xss : List (List En)) : ∀ k, 0 < k → bestTo ls xss k < k := by
 intro k
 induction k with
 | zero => intro h; omega
 | succ k ih =>
  intro _
  unfold bestTo
  split
  ·omega
  ·rcases Nat.eq_zero_or_pos k with h | h
   ·subst h; unfold bestTo; omega
   ·have := ih h; omega
theorem bestTo_one (ls : List Int) (xss : List (List En)) : bestTo ls xss 1 = 0 := by have := bestTo_lt ls xss 1 (by omega); omega
theorem bestTo_le (ls : List Int) (xss : List (List En)) (k n : Nat) (h : k < n) : bestTo ls xss k < n := by
 rcases Nat.eq_zero_or_pos k with q | q
 ·subst q; unfold bestTo; omega
 ·have := bestTo_lt ls xss k q; omega
def bestR (ls : List Int) (xss : List (List En)) : Int × Nat := if ls.length ≠ xss.length then (1, 0) else if xss.length = 0 then (4, 0) else (0, bestTo ls xss xss.length)
theorem bet_cmp (la lb : Int) (na nb : Nat) : decide (0 < (if cmpI la lb = 0 then cmpI (na : Int) (nb : Int) else cmpI la lb)) = betB la lb na nb := by
 unfold betB
 rcases cmpI_is la lb with ⟨e, h⟩ | ⟨e, h⟩ | ⟨e, h⟩
 ·rw [e, if_neg (by decide), decide_eq_false (by decide), decide_eq_false (by omega)]
 ·rw [e, if_pos rfl]
  rcases cmpI_is (na : Int) (nb : Int) with ⟨e, h⟩ | ⟨e, h⟩ | ⟨e, h⟩
  ·rw [e, decide_eq_false (by decide), decide_eq_false (by omega)]
  ·rw [e, decide_eq_false (by decide), decide_eq_false (by omega)]
  ·rw [e, decide_eq_true (by decide), decide_eq_true (by omega)]
 ·rw [e, if_neg (by decide), decide_eq_true (by decide), decide_eq_true (by omega)]
theorem isNaNi_is (x : Int) (w : World) : Calls Try.prog 128 #[.int .i64 x] w fun e w' => e = .returned (.bool false) ∧ w' = w := by
 have hx : (x != x) = false := by simp
 go_enter Try.func128, Try.ntmps128
 go_wp2
 go_ret
 exact ⟨rfl, rfl⟩
theorem cmpInt_is (a b : Int) (w : World) (d : Int) (hd : cmpI a b = d) : Calls Try.prog 114 #[.int .i64 a, .int .i64 b] w fun e w' => e = .returned (.int .i64 d) ∧ w' = w := by
 have HD : Hid _ := hd
 clear hd
 go_enter Try.func114, Try.ntmps114
 go_wp2_with fail
 refine (isNaNi_is a _).mono ?_
 rintro e _ ⟨rfl, rfl⟩
 go_wp2_with fail
 refine (isNaNi_is b _).mono ?_
 rintro e _ ⟨rfl, rfl⟩
 rcases cmpI_is a b with ⟨e, h⟩ | ⟨e, h⟩ | ⟨e, h⟩
 ·have HE : Hid _ := e
  clear e
  go_wp2
  go_ret
  exact ⟨ret_int (by rw [← HD.out, HE.out]), rfl⟩
 ·have HE : Hid _ := e
  clear e
  have h1 : ¬ a < b := by omega
  have h2 : ¬ b < a := by omega
  clear h
  go_wp2
  go_ret
  exact ⟨ret_int (by rw [← HD.out, HE.out]), rfl⟩
 ·have HE : Hid _ := e
  clear e
  have h1 : ¬ a < b := by omega
  go_wp2
  go_ret
  exact ⟨ret_int (by rw [← HD.out, HE.out]), rfl⟩
theorem isBetter_is (la lb : Int) (a1 a2 : Option Addr) (na c1 nb c2 : Nat) (w : World) (d : Bool) (hd : betB la lb na nb = d) : Calls Try.prog 90 #[.int .i64 la, .slice a1 na c1, .int .i64 lb, .slice a2 nb c2] w fun e w' => e = .returned (.bool d) ∧ Below w.heap.size w w' := by
 obtain ⟨x, hx⟩ : ∃ x, cmpI la lb = x := ⟨_, rfl⟩
 obtain ⟨y, hy⟩ : ∃ y, cmpI (na : Int) (nb : Int) = y := ⟨_, rfl⟩
 obtain ⟨z, hz⟩ : ∃ z, (if x = 0 then y else x) = z := ⟨_, rfl⟩
 have HD : Hid (decide (0 < z) = d) := by show _ = _; rw [← hd, ← bet_cmp, hx, hy, hz]
 have HX : Hid _ := hx
 have HY : Hid _ := hy
 have HZ : Hid _ := hz
 clear hd hx hy hz
 go_enter Try.func90, Try.ntmps90
 go_wp2_with fail
 refine (cmp64_is la lb _ x HX.out).mono ?_
 rintro e W ⟨rfl, rfl⟩
 go_wp2_with fail
 refine (cmpInt_is (na : Int) (nb : Int) _ y HY.out).mono ?_
 rintro e W1 ⟨rfl, rfl⟩
 go_wp2_with fail
 refine (or2_is x y _ _ (by simp) (by simp) z HZ.out).mono ?_
 rintro e W2 ⟨rfl, rfl⟩
 go_wp2
 go_ret
 refine ⟨ret_bool ?_, (Below.refl _ _).alloc (Nat.le_refl _) _⟩
 exact HD.out
theorem implBest_is {o1 o2 : Bool} {l1 u1 l2 u2 : Nat} (a0 a1 : Option Addr) (n c0 m c1 : Nat) (hs : Nat → Hd) (ls : List Int) (xss : List (List En)) (w : World) (h1 : RowAt w o1 l1 u1 1 a0 n c0 (ints ls)) (h2 : LogsAt w o2 l2 u2 a1 m c1 hs xss) (hm : m ≤ 1048576) (cd : Int) (vl : Nat) (hr : bestR ls xss = (cd, vl)) : Calls Try.prog 59 #[.slice a0 n c0, .slice a1 m c1] w fun e w' => e = .returned (.agg #[.int .i64 cd, .int .i64 (vl : Int)]) ∧ Below w.heap.size w w' := by
 have hl1 := h1.nInts
 have hl2 := h2.len
 have hlen : ∀ i, i < m → (xss.getD i []).length = (hs i).2.1 := fun i hi => by obtain ⟨_, r⟩ := h2.each i hi; exact r.nSixs
 have HL : Hid _ := hlen
 have HR : Hid _ := hr
 clear hr hlen
 by_cases hnm : n = m
 rotate_left 1
 ·have hq : ((n : Int) != (m : Int)) = true := by simp; omega
  have HB : (1, 0) = (cd, vl) := by rw [← HR.out]; unfold bestR; rw [if_pos (by omega)]
  simp only [Prod.mk.injEq] at HB
  obtain ⟨rfl, rfl⟩ := HB
  clear HR
  go_enter Try.func59, Try.ntmps59
  go_wp2_with (first | ((with_reducible refine alloc_new 32 #[.int .i64 0, .int .i64 0] (fun _ => by kernel_rfl) ?_); intro b0 W0 N0; have O0 : Hid (w.heap.size ≤ b0) := N0.ge; have B := N0.below; have H0 : Hid (b0 < W0.heap.size) := N0.lt; have c0_0 : W0.cell? ⟨b0, 0, none⟩ = some (.int .i64 0) := N0.cell 0 _ rfl; have c0_1 : W0.cell? ⟨b0, 1, none⟩ = some (.int .i64 0) := N0.cell 1 _ rfl; have y0_0 : W0.frozen? ⟨b0, 0, none⟩ = false := N0.froz 0; have y0_1 : W0.frozen? ⟨b0, 1, none⟩ = false := N0.froz 1; clear N0))
  refine bodyPost_ret (v := .agg #[.int .i64 1, .int .i64 0]) (by simp [results, Try.results59, go_sem, c0_0, c0_1]) rfl ?_
  have KZ : Kept b0 (b0 + 1) W0 ((W0.setCell ⟨b0, 0, none⟩ (.int .i64 1)).setCell ⟨b0, 1, none⟩ (.int .i64 0)) := by refine Kept.setCell (Kept.setCell (Kept.refl _ _ _) ?_ ?_ _) ?_ ?_ _ <;> simp
  exact ⟨rfl, B.trans (KZ.below _ O0.out B.size)⟩
 subst hnm
 have hq : ((n : Int) != (n : Int)) = false := by simp
 by_cases hz : n = 0
 ·subst hz
  have HB : (4, 0) = (cd, vl) := by rw [← HR.out]; unfold bestR; rw [if_neg (by omega), if_pos (by omega)]
  simp only [Prod.mk.injEq] at HB
  obtain ⟨rfl, rfl⟩ := HB
  clear HR
  go_enter Try.func59, Try.ntmps59
  go_wp2_with (first | ((with_reducible refine alloc_new 32 #[.int .i64 0, .int .i64 0] (fun _ => by kernel_rfl) ?_); intro b0 W0 N0; have O0 : Hid (w.heap.size ≤ b0) := N0.ge; have B := N0.below; have H0 : Hid (b0 < W0.heap.size) := N0.lt; have c0_0 : W0.cell? ⟨b0, 0, none⟩ = some (.int .i64 0) := N0.cell 0 _ rfl; have c0_1 : W0.cell? ⟨b0, 1, none⟩ = some (.int .i64 0) := N0.cell 1 _ rfl; have y0_0 : W0.frozen? ⟨b0, 0, none⟩ = false := N0.froz 0; have y0_1 : W0.frozen? ⟨b0, 1, none⟩ = false := N0.froz 1; clear N0))
  refine bodyPost_ret (v := .agg #[.int .i64 4, .int .i64 0]) (by simp [results, Try.results59, go_sem, c0_0, c0_1]) rfl ?_
  have KZ : Kept b0 (b0 + 1) W0 ((W0.setCell ⟨b0, 0, none⟩ (.int .i64 4)).setCell ⟨b0, 1, none⟩ (.int .i64 0)) := by refine Kept.setCell (Kept.setCell (Kept.refl _ _ _) ?_ ?_ _) ?_ ?_ _ <;> simp
  exact ⟨rfl, B.trans (KZ.below _ O0.out B.size)⟩
 have hz' : ((n : Int) == 0) = false := by simp; omega
 have HB : (0, bestTo ls xss n) = (cd, vl) := by rw [← HR.out]; unfold bestR; rw [if_neg (by omega), if_neg (by omega), hl2]
 simp only [Prod.mk.injEq] at HB
 obtain ⟨rfl, hv⟩ := HB
 have HV : Hid _ := hv
 clear HR hv
 go_enter Try.func59, Try.ntmps59
 go_wp2_with (first | ((with_reducible refine alloc_new 32 #[.int .i64 0, .int .i64 0] (fun _ => by kernel_rfl) ?_); intro b0 W0 N0; have O0 : Hid (w.heap.size ≤ b0) := N0.ge; have B := N0.below; have H0 : Hid (b0 < W0.heap.size) := N0.lt; have c0_0 : W0.cell? ⟨b0, 0, none⟩ = some (.int .i64 0) := N0.cell 0 _ rfl; have c0_1 : W0.cell? ⟨b0, 1, none⟩ = some (.int .i64 0) := N0.cell 1 _ rfl; have y0_0 : W0.frozen? ⟨b0, 0, none⟩ = false := N0.froz 0; have y0_1 : W0.frozen? ⟨b0, 1, none⟩ = false := N0.froz 1; clear N0))
 go_loopw [5, 6, 7, 20] (fun b _ _ i wr => ∃ k : Nat, k ≤ n ∧ i = .int .i64 k ∧ b = .int .i64 ((bestTo ls xss k : Nat) : Int) ∧ Below W0.heap.size W0 wr) (fun _ _ _ i _ => n - (intOf i).toNat)
 case atStart => exact ⟨0, Nat.zero_le _, rfl, rfl, Below.refl _ _⟩
 case round =>
  obtain ⟨k, hk, rfl, rfl, C⟩ := hrel
  replace c0_0 := cell_later C c0_0
  replace c0_1 := cell_later C c0_1
  replace y0_0 := frozen_later C H0.out y0_0
  replace y0_1 := frozen_later C H0.out y0_1
  have H0' : Hid (b0 < wr.heap.size) := Nat.lt_of_lt_of_le H0.out C.size
  replace B := below_next B C
  by_cases hlt : k < n
  ·have hlk : (k : Int) < (n : Int) := by omega
   have hbt := bestTo_le ls xss k n hlt
   have HS : Hid (bestTo ls xss (k + 1) = if betB (ls.getD k 0) (ls.getD (bestTo ls xss k) 0) (hs k).2.1 (hs (bestTo ls xss k)).2.1 = true then k else bestTo ls xss k) := by show _ = _; rw [← HL.out k hlt, ← HL.out _ hbt]; rfl
   generalize hbe : bestTo ls xss k = bt at *
   clear hbe
   have hbi : (bt : Int) < (n : Int) := by omega
   obtain ⟨bl, ol, rfl, _, _, _, e1, _⟩ := h1.int hlt
   obtain ⟨bl', ol', e', _, _, _, e2, _⟩ := h1.int hbt
   cases e'
   obtain ⟨bg, og, rfl, _, e3⟩ := h2.cell hlt
   obtain ⟨bg', og', e', _, e4⟩ := h2.cell hbt
   cases e'
   replace e1 := cell_later B e1
   replace e2 := cell_later B e2
   replace e3 := cell_later B e3
   replace e4 := cell_later B e4
   have HI := HL
   clear HI
   obtain ⟨⟨p1, m1, d1⟩, q1⟩ : ∃ q, hs k = q := ⟨_, rfl⟩
   obtain ⟨⟨p2, m2, d2⟩, q2⟩ : ∃ q, hs bt = q := ⟨_, rfl⟩
   rw [q1] at e3 HS
   rw [q2] at e4 HS
   simp only at e3 e4 HS
   clear q1 q2
   generalize ls.getD k 0 = la at *
   generalize ls.getD bt 0 = lb at *
   obtain ⟨d, hd⟩ : ∃ d, betB la lb m1 m2 = d := ⟨_, rfl⟩
   rw [hd] at HS
   have HD : Hid _ := hd
   clear hd
   have D : Below wr.heap.size wr wr.drew := (Below.refl _ _).drew
   have g1 := cell_later D e1
   have g2 := cell_later D e2
   have g4 := cell_later D e4
   replace C := below_next C D
   clear D
   go_wp2_with fail
   go_region_held3 (fun w' => w'.cell? ⟨bl, ol + k, none⟩ = some (.int .i64 la) ∧ w'.cell? ⟨bl, ol + bt, none⟩ = some (.int .i64 lb) ∧ w'.cell? ⟨bg, og + bt, none⟩ = some (.slice p2 m2 d2)) (exact ⟨g1, g2, g4⟩) (first | (go_at_call 90; refine (isBetter_is la lb p1 p2 m1 d1 m2 d2 _ d HD.out).mono ?_; rintro e w3 ⟨rfl, B3⟩; replace g1 := cell_later B3 g1; replace g2 := cell_later B3 g2; replace g4 := cell_later B3 g4; replace C := below_next C B3; clear B3))
   clear g1 g2 g4 e1 e2 e3 e4 HD
   cases d with
   | true =>
    rw [if_pos rfl] at HS
    go_wp2
    go_roundw
    case rel => exact ⟨k + 1, by omega, by go_num, by rw [HS.out], C⟩
    case measure => simp [intOf]; omega
   | false =>
    rw [if_neg (by decide)] at HS
    go_wp2
    go_roundw
    case rel => exact ⟨k + 1, by omega, by go_num, by rw [HS.out], C⟩
    case measure => simp [intOf]; omega
  ·obtain rfl : k = n := by omega
   rw [HV.out]
   go_wp2
   refine bodyPost_ret (v := .agg #[.int .i64 0, .int .i64 (vl : Int)]) (by simp [results, Try.results59, go_sem, c0_0, c0_1]) rfl ?_
   have KZ : Kept b0 (b0 + 1) wr ((wr.setCell ⟨b0, 0, none⟩ (.int .i64 0)).setCell ⟨b0, 1, none⟩ (.int .i64 (vl : Int))) := by refine Kept.setCell (Kept.setCell (Kept.refl _ _ _) ?_ ?_ _) ?_ ?_ _ <;> simp
   exact ⟨rfl, B.trans (KZ.below _ O0.out B.size)⟩
theorem specBest_is {o1 o2 : Bool} {l1 u1 l2 u2 : Nat} (a0 a1 : Option Addr) (n c0 m c1 : Nat) (hs : Nat → Hd) (ls : List Int) (xss : List (List En)) (w : World) (h1 : RowAt w o1 l1 u1 1 a0 n c0 (ints ls)) (h2 : LogsAt w o2 l2 u2 a1 m c1 hs xss) (hm : m ≤ 1048576) (cd : Int) (vl : Nat) (hr : bestR ls xss = (cd, vl)) : Calls Try.prog 67 #[.slice a0 n c0, .slice a1 m c1] w fun e w' => e = .returned (.agg #[.int .i64 cd, .int .i64 (vl : Int)]) ∧ Below w.heap.size w w' := by
 have hl1 := h1.nInts
 have hl2 := h2.len
 have hlen : ∀ i, i < m → (xss.getD i []).length = (hs i).2.1 := fun i hi => by obtain ⟨_, r⟩ := h2.each i hi; exact r.nSixs
 have HL : Hid _ := hlen
 have HR : Hid _ := hr
 clear hr hlen
 by_cases hnm : n = m
 rotate_left 1
 ·have hq : ((n : Int) != (m : Int)) = true := by simp; omega
  have HB : (1, 0) = (cd, vl) := by rw [← HR.out]; unfold bestR; rw [if_pos (by omega)]
  simp only [Prod.mk.injEq] at HB
  obtain ⟨rfl, rfl⟩ := HB
  clear HR
  go_enter Try.func67, Try.ntmps67
  go_wp2_with (first | ((with_reducible refine alloc_new 32 #[.int .i64 0, .int .i64 0] (fun _ => by kernel_rfl) ?_); intro b0 W0 N0; have O0 : Hid (w.heap.size ≤ b0) := N0.ge; have B := N0.below; have H0 : Hid (b0 < W0.heap.size) := N0.lt; have c0_0 : W0.cell? ⟨b0, 0, none⟩ = some (.int .i64 0) := N0.cell 0 _ rfl; have c0_1 : W0.cell? ⟨b0, 1, none⟩ = some (.int .i64 0) := N0.cell 1 _ rfl; have y0_0 : W0.frozen? ⟨b0, 0, none⟩ = false := N0.froz 0; have y0_1 : W0.frozen? ⟨b0, 1, none⟩ = false := N0.froz 1; clear N0))
  refine bodyPost_ret (v := .agg #[.int .i64 1, .int .i64 0]) (by simp [results, Try.results67, go_sem, c0_0, c0_1]) rfl ?_
  have KZ : Kept b0 (b0 + 1) W0 ((W0.setCell ⟨b0, 0, none⟩ (.int .i64 1)).setCell ⟨b0, 1, none⟩ (.int .i64 0)) := by refine Kept.setCell (Kept.setCell (Kept.refl _ _ _) ?_ ?_ _) ?_ ?_ _ <;> simp
  exact ⟨rfl, B.trans (KZ.below _ O0.out B.size)⟩
 subst hnm
 have hq : ((n : Int) != (n : Int)) = false := by simp
 by_cases hz : n = 0
 ·subst hz
  have HB : (4, 0) = (cd, vl) := by rw [← HR.out]; unfold bestR; rw [if_neg (by omega), if_pos (by omega)]
  simp only [Prod.mk.injEq] at HB
  obtain ⟨rfl, rfl⟩ := HB
  clear HR
  go_enter Try.func67, Try.ntmps67
  go_wp2_with (first | ((with_reducible refine alloc_new 32 #[.int .i64 0, .int .i64 0] (fun _ => by kernel_rfl) ?_); intro b0 W0 N0; have O0 : Hid (w.heap.size ≤ b0) := N0.ge; have B := N0.below; have H0 : Hid (b0 < W0.heap.size) := N0.lt; have c0_0 : W0.cell? ⟨b0, 0, none⟩ = some (.int .i64 0) := N0.cell 0 _ rfl; have c0_1 : W0.cell? ⟨b0, 1, none⟩ = some (.int .i64 0) := N0.cell 1 _ rfl; have y0_0 : W0.frozen? ⟨b0, 0, none⟩ = false := N0.froz 0; have y0_1 : W0.frozen? ⟨b0, 1, none⟩ = false := N0.froz 1; clear N0))
  refine bodyPost_ret (v := .agg #[.int .i64 4, .int .i64 0]) (by simp [results, Try.results67, go_sem, c0_0, c0_1]) rfl ?_
  have KZ : Kept b0 (b0 + 1) W0 ((W0.setCell ⟨b0, 0, none⟩ (.int .i64 4)).setCell ⟨b0, 1, none⟩ (.int .i64 0)) := by refine Kept.setCell (Kept.setCell (Kept.refl _ _ _) ?_ ?_ _) ?_ ?_ _ <;> simp
  exact ⟨rfl, B.trans (KZ.below _ O0.out B.size)⟩
 have hz' : ((n : Int) == 0) = false := by simp; omega
 have HB : (0, bestTo ls xss n) = (cd, vl) := by rw [← HR.out]; unfold bestR; rw [if_neg (by omega), if_neg (by omega), hl2]
 simp only [Prod.mk.injEq] at HB
 obtain ⟨rfl, hv⟩ := HB
 have HV : Hid _ := hv
 clear HR hv
 go_enter Try.func67, Try.ntmps67
 go_wp2_with (first | ((with_reducible refine alloc_new 32 #[.int .i64 0, .int .i64 0] (fun _ => by kernel_rfl) ?_); intro b0 W0 N0; have O0 : Hid (w.heap.size ≤ b0) := N0.ge; have B := N0.below; have H0 : Hid (b0 < W0.heap.size) := N0.lt; have c0_0 : W0.cell? ⟨b0, 0, none⟩ = some (.int .i64 0) := N0.cell 0 _ rfl; have c0_1 : W0.cell? ⟨b0, 1, none⟩ = some (.int .i64 0) := N0.cell 1 _ rfl; have y0_0 : W0.frozen? ⟨b0, 0, none⟩ = false := N0.froz 0; have y0_1 : W0.frozen? ⟨b0, 1, none⟩ = false := N0.froz 1; clear N0))
 go_loopw [5, 6] (fun b i wr => ∃ k : Nat, 1 ≤ k ∧ k ≤ n ∧ i = .int .i64 k ∧ b = .int .i64 ((bestTo ls xss k : Nat) : Int) ∧ Below W0.heap.size W0 wr) (fun _ i _ => n - (intOf i).toNat)
 case atStart => exact ⟨1, Nat.le_refl _, by omega, rfl, by rw [bestTo_one]; rfl, Below.refl _ _⟩
 case round =>
  obtain ⟨k, hk1, hk, rfl, rfl, C⟩ := hrel
  replace c0_0 := cell_later C c0_0
  replace c0_1 := cell_later C c0_1
  replace y0_0 := frozen_later C H0.out y0_0
  replace y0_1 := frozen_later C H0.out y0_1
  have H0' : Hid (b0 < wr.heap.size) := Nat.lt_of_lt_of_le H0.out C.size
  replace B := below_next B C
  by_cases hlt : k < n
  ·have hlk : (k : Int) < (n : Int) := by omega
   have hbt := bestTo_le ls xss k n hlt
   have HS : Hid (bestTo ls xss (k + 1) = if betB (ls.getD k 0) (ls.getD (bestTo ls xss k) 0) (hs k).2.1 (hs (bestTo ls xss k)).2.1 = true then k else bestTo ls xss k) := by show _ = _; rw [← HL.out k hlt, ← HL.out _ hbt]; rfl
   generalize hbe : bestTo ls xss k = bt at *
   clear hbe
   have hbi : (bt : Int) < (n : Int) := by omega
   obtain ⟨bl, ol, rfl, _, _, _, e1, _⟩ := h1.int hlt
   obtain ⟨bl', ol', e', _, _, _, e2, _⟩ := h1.int hbt
   cases e'
   obtain ⟨bg, og, rfl, _, e3⟩ := h2.cell hlt
   obtain ⟨bg', og', e', _, e4⟩ := h2.cell hbt
   cases e'
   replace e1 := cell_later B e1
   replace e2 := cell_later B e2
   replace e3 := cell_later B e3
   replace e4 := cell_later B e4
   have HI := HL
   clear HI
   obtain ⟨⟨p1, m1, d1⟩, q1⟩ : ∃ q, hs k = q := ⟨_, rfl⟩
   obtain ⟨⟨p2, m2, d2⟩, q2⟩ : ∃ q, hs bt = q := ⟨_, rfl⟩
   rw [q1] at e3 HS
   rw [q2] at e4 HS
   simp only at e3 e4 HS
   clear q1 q2
   generalize ls.getD k 0 = la at *
   generalize ls.getD bt 0 = lb at *
   by_cases w1 : lb < la
   ·
    have HT : Hid (bestTo ls xss (k + 1) = k) := by show _ = _; rw [HS.out, if_pos (by unfold betB; exact decide_eq_true (by omega))]
    clear HS
    go_wp2_with fail
    go_quiet (fail)
    go_wp2
    go_roundw
    case rel => exact ⟨k + 1, by omega, by omega, by go_num, by rw [HT.out], below_drewN C _⟩
    case measure => simp [intOf]; omega
   ·by_cases w2 : la = lb
    ·subst w2
     have wq : (la == la) = true := by simp
     by_cases w3 : m2 < m1
     ·
      have w3i : (m2 : Int) < (m1 : Int) := by omega
      have HT : Hid (bestTo ls xss (k + 1) = k) := by show _ = _; rw [HS.out, if_pos (by unfold betB; exact decide_eq_true (by omega))]
      clear HS
      go_wp2_with fail
      go_quiet (fail)
      go_wp2
      go_roundw
      case rel => exact ⟨k + 1, by omega, by omega, by go_num, by rw [HT.out], below_drewN C _⟩
      case measure => simp [intOf]; omega
     ·
      have w3i : ¬ (m2 : Int) < (m1 : Int) := by omega
      have HT : Hid (bestTo ls xss (k + 1) = bt) := by show _ = _; rw [HS.out, if_neg (by unfold betB; rw [decide_eq_false (by omega)]; decide)]
      clear HS
      go_wp2_with fail
      go_quiet (fail)
      go_wp2
      go_roundw
      case rel => exact ⟨k + 1, by omega, by omega, by go_num, by rw [HT.out], below_drewN C _⟩
      case measure => simp [intOf]; omega
    ·
     have HT : Hid (bestTo ls xss (k + 1) = bt) := by show _ = _; rw [HS.out, if_neg (by unfold betB; rw [decide_eq_false (by omega)]; decide)]
     clear HS
     go_wp2_with fail
     go_quiet (fail)
     go_wp2
     go_roundw
     case rel => exact ⟨k + 1, by omega, by omega, by go_num, by rw [HT.out], below_drewN C _⟩
     case measure => simp [intOf]; omega
  ·obtain rfl : k = n := by omega
   rw [HV.out]
   go_wp2
   refine bodyPost_ret (v := .agg #[.int .i64 0, .int .i64 (vl : Int)]) (by simp [results, Try.results67, go_sem, c0_0, c0_1]) rfl ?_
   have KZ : Kept b0 (b0 + 1) wr ((wr.setCell ⟨b0, 0, none⟩ (.int .i64 0)).setCell ⟨b0, 1, none⟩ (.int .i64 (vl : Int))) := by refine Kept.setCell (Kept.setCell (Kept.refl _ _ _) ?_ ?_ _) ?_ ?_ _ <;> simp
   exact ⟨rfl, B.trans (KZ.below _ O0.out B.size)⟩
theorem best_max (ls : List Int) (xss : List (List En)) : ∀ k i, i < k → ¬ (ls.getD (bestTo ls xss k) 0 < ls.getD i 0 ∨ (ls.getD i 0 = ls.getD (bestTo ls xss k) 0 ∧ (xss.getD (bestTo ls xss k) []).length < (xss.getD i []).length)) := by
 intro k
 induction k with
 | zero => intro i hi; omega
 | succ k ih =>
  intro i hi
  unfold bestTo
  by_cases e : betB (ls.getD k 0) (ls.getD (bestTo ls xss k) 0) (xss.getD k []).length (xss.getD (bestTo ls xss k) []).length = true
  ·rw [if_pos e]
   have e' := of_decide_eq_true e
   rcases Nat.lt_succ_iff_lt_or_eq.1 hi with q | q
   ·have := ih i q; omega
   ·subst q; omega
  ·rw [if_neg e]
   have e' := of_decide_eq_false (Bool.eq_false_iff.2 e)
   rcases Nat.lt_succ_iff_lt_or_eq.1 hi with q | q
   ·exact ih i q
   ·subst q; exact e'
end Go.Proofs.Ytjefmhjlaibbkaa
