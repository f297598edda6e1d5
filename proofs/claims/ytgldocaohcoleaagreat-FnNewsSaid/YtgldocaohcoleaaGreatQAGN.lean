/- Chapter 8: an entry as words, by both. -/
import Derived.Test.YtgldocaohcoleaaGreatQADN
import Derived.Test.YtgldocaohcoleaaGreatQAFN
import Derived.Test.YtgldocaohcoleaaGreatQACN
import Derived.Deep.AppendLies
import Derived.Lib.AppendZeros
import Derived.Test.YtgldocaohcoleaaGreatQABN
import Derived.BigQuiet
import Derived.Deep.RegionLaw
import Derived.Laws.StructEq
set_option maxRecDepth 20000
set_option maxHeartbeats 16000000
namespace Go.Proofs.YtgldocaohcoleaaGreat
open Go.RowKit
theorem stoodEntry : Tryz.prog.stoodInHeld 49 = false := by kernel_rfl
theorem guardEntry : Tryz.prog.eqGuardType Tryz.prog.depth 49 = false := by kernel_rfl
def enA (x : En) : Array Value := #[.int .i64 x.1, .int .i64 x.2.1, .int .i64 x.2.2.1, .int .i64 x.2.2.2.1, .int .i64 x.2.2.2.2.1, .int .i64 x.2.2.2.2.2]
theorem eqlEntry (x y : En) (w : World) : (Op.equalIn 10000 49 (.agg (enA x)) (.agg (enA y))).run Tryz.prog w = .ok (decide (x = y)) w := by
 rw [run_equalIn_struct w 9999 49 _ _ (by kernel_rfl) stoodEntry]
 simp only [Program.fieldsOf, Tryz.underlying49]
 simp [enA, Op.eqFields, part, go_sem, Tryz.underlying47, Tryz.underlying2, Program.fieldsOf]
 obtain ⟨x0, x1, x2, x3, x4, x5⟩ := x
 obtain ⟨y0, y1, y2, y3, y4, y5⟩ := y
 simp only [Prod.mk.injEq]
 by_cases h0 : x0 = y0
 ·by_cases h1 : x1 = y1
  ·by_cases h2 : x2 = y2
   ·by_cases h3 : x3 = y3
    ·by_cases h4 : x4 = y4
     ·by_cases h5 : x5 = y5
      ·simp [h0, h1, h2, h3, h4, h5]
      ·simp [h0, h1, h2, h3, h4, h5]
     ·simp [h0, h1, h2, h3, h4]
    ·simp [h0, h1, h2, h3]
   ·simp [h0, h1, h2]
  ·simp [h0, h1]
 ·simp [h0]
theorem run_neEn (x0 x1 x2 x3 x4 x5 y0 y1 y2 y3 y4 y5 : Int) (b : Bool) (h : decide (((x0, x1, x2, x3, x4, x5) : En) = (y0, y1, y2, y3, y4, y5)) = b) (w : World) : (binOp .neq 49 (.agg #[.int .i64 x0, .int .i64 x1, .int .i64 x2, .int .i64 x3, .int .i64 x4, .int .i64 x5]) (.agg #[.int .i64 y0, .int .i64 y1, .int .i64 y2, .int .i64 y3, .int .i64 y4, .int .i64 y5])).run Tryz.prog w = .ok (.bool (!b)) w := by
 have := eqlEntry (x0, x1, x2, x3, x4, x5) (y0, y1, y2, y3, y4, y5) w
 rw [run_neq_struct, show (#[.int .i64 x0, .int .i64 x1, .int .i64 x2, .int .i64 x3, .int .i64 x4, .int .i64 x5] : Array Value) = enA (x0, x1, x2, x3, x4, x5) from rfl, show (#[.int .i64 y0, .int .i64 y1, .int .i64 y2, .int .i64 y3, .int .i64 y4, .int .i64 y5] : Array Value) = enA (y0, y1, y2, y3, y4, y5) from rfl, this, h]
 rfl
theorem run_guEn (op : BinOp) (x y : Operand) (xs ys : Array Value) (w : World) : (eqGuard op 49 x y (.agg xs) (.agg ys)).run Tryz.prog w = .ok () w := run_eqGuard_agg w op _ x y xs ys guardEntry
def firstF : List En → Int
 | [] => 0
 | x :: r => if enFault x = 0 then firstF r else enFault x
def logF (xs : List En) : Int := if 40 < xs.length then 2 else firstF xs
theorem firstF_drop {xs : List En} {k : Nat} (h : k < xs.length) : firstF (xs.drop k) = if enFault (xs.getD k en0) = 0 then firstF (xs.drop (k + 1)) else enFault (xs.getD k en0) := by
 rw [List.drop_eq_getElem_cons h]
 simp only [firstF, List.getD, List.getElem?_eq_getElem h, Option.getD_some]
theorem firstF_end {xs : List En} {k : Nat} (h : xs.length ≤ k) : firstF (xs.drop k) = 0 := by rw [List.drop_eq_nil_of_le h]; rfl
theorem firstFault_is {o : Bool} {lo hi : Nat} (ao : Option Addr) (n cap : Nat) (xs : List En) (w : World) (h : RowAt w o lo hi 6 ao n cap (sixs xs)) (hn : n ≤ 40) (d : Int) (hd : firstF xs = d) : Calls Tryz.prog 240 #[.slice ao n cap, .func (.func 174) #[] #[]] w fun e w' => e = .returned (.int .i64 d) ∧ Below w.heap.size w w' := by
 have hxl := h.nSixs
 have HD : Hid (firstF xs = d) := hd
 clear hd
 go_enter Tryz.func240, Tryz.ntmps240
 go_wp2
 go_loopw [6, 7, 10] (fun _ _ i wr => ∃ k : Nat, k ≤ n ∧ i = .int .i64 k ∧ Hid (firstF (xs.drop k) = d) ∧ Below w.heap.size w wr) (fun _ _ i _ => n - (intOf i).toNat)
 case atStart => exact ⟨0, Nat.zero_le _, rfl, by simpa using HD, Below.refl _ _⟩
 case round =>
  obtain ⟨k, hk, rfl, HK, hb⟩ := hrel
  clear HD
  by_cases hlt : k < n
  ·have HF : Hid _ := firstF_drop (xs := xs) (k := k) (by omega)
   obtain ⟨b, off, rfl, _, _, hbs, e0, e1, e2, e3, e4, e5, _⟩ := h.six hlt
   replace e0 := cell_later hb e0
   replace e1 := cell_later hb e1
   replace e2 := cell_later hb e2
   replace e3 := cell_later hb e3
   replace e4 := cell_later hb e4
   replace e5 := cell_later hb e5
   have hl : (k : Int) < (n : Int) := by omega
   obtain ⟨⟨x0, x1, x2, x3, x4, x5⟩, hx⟩ : ∃ x, xs.getD k en0 = x := ⟨_, rfl⟩
   rw [hx] at e0 e1 e2 e3 e4 e5 HF
   simp only at e0 e1 e2 e3 e4 e5
   clear hx
   obtain ⟨c, hc⟩ : ∃ c, enFault (x0, x1, x2, x3, x4, x5) = c := ⟨_, rfl⟩
   rw [hc] at HF
   have HC : Hid _ := hc
   clear hc
   go_wp2_with (first | ((with_reducible refine alloc_new 49 #[.int .i64 0, .int .i64 0, .int .i64 0, .int .i64 0, .int .i64 0, .int .i64 0] (fun _ => by kernel_rfl) ?_); intro b0 W0 N0; have c0 : W0.cell? ⟨b0, 0, none⟩ = some (.int .i64 0) := N0.cell 0 _ rfl; have y0 : W0.frozen? ⟨b0, 0, none⟩ = false := N0.froz 0; have c1 : W0.cell? ⟨b0, 1, none⟩ = some (.int .i64 0) := N0.cell 1 _ rfl; have y1 : W0.frozen? ⟨b0, 1, none⟩ = false := N0.froz 1; have c2 : W0.cell? ⟨b0, 2, none⟩ = some (.int .i64 0) := N0.cell 2 _ rfl; have y2 : W0.frozen? ⟨b0, 2, none⟩ = false := N0.froz 2; have c3 : W0.cell? ⟨b0, 3, none⟩ = some (.int .i64 0) := N0.cell 3 _ rfl; have y3 : W0.frozen? ⟨b0, 3, none⟩ = false := N0.froz 3; have c4 : W0.cell? ⟨b0, 4, none⟩ = some (.int .i64 0) := N0.cell 4 _ rfl; have y4 : W0.frozen? ⟨b0, 4, none⟩ = false := N0.froz 4; have c5 : W0.cell? ⟨b0, 5, none⟩ = some (.int .i64 0) := N0.cell 5 _ rfl; have y5 : W0.frozen? ⟨b0, 5, none⟩ = false := N0.froz 5; have H0 : Hid (w.heap.size ≤ b0) := Nat.le_trans hb.size N0.ge; replace hb := below_step hb hb.size N0.below; clear N0) | ((with_reducible refine store_box 49 b0 [.int .i64 x0, .int .i64 x1, .int .i64 x2, .int .i64 x3, .int .i64 x4, .int .i64 x5] (by simp) (there6 c0 c1 c2 c3 c4 c5 y0 y1 y2 y3 y4 y5) (by kernel_rfl) (by simp [Value.oneCell']) rfl rfl ?_); intro W1 S0; replace c0 : W1.cell? ⟨b0, 0, none⟩ = some (.int .i64 x0) := S0.cell 0 _ rfl; replace c1 : W1.cell? ⟨b0, 1, none⟩ = some (.int .i64 x1) := S0.cell 1 _ rfl; replace c2 : W1.cell? ⟨b0, 2, none⟩ = some (.int .i64 x2) := S0.cell 2 _ rfl; replace c3 : W1.cell? ⟨b0, 3, none⟩ = some (.int .i64 x3) := S0.cell 3 _ rfl; replace c4 : W1.cell? ⟨b0, 4, none⟩ = some (.int .i64 x4) := S0.cell 4 _ rfl; replace c5 : W1.cell? ⟨b0, 5, none⟩ = some (.int .i64 x5) := S0.cell 5 _ rfl; replace hb := hb.trans (S0.kept.below _ H0.out hb.size); clear S0 H0 y0 y1 y2 y3 y4 y5) | fail)
   refine (implEF_is x0 x1 x2 x3 x4 x5 _ c HC.out).mono ?_
   rintro e w1 ⟨rfl, hb1⟩
   replace hb := below_step hb hb.size hb1
   clear hb1 HC e0 e1 e2 e3 e4 e5 c0 c1 c2 c3 c4 c5
   by_cases h0 : c = 0
   ·subst h0
    have HK' : Hid (firstF (xs.drop (k + 1)) = d) := by show _ = _; rw [← HK.out, HF.out, if_pos rfl]
    clear HF HK
    go_wp2
    go_roundw
    case rel => exact ⟨k + 1, by omega, by go_num, HK', hb⟩
    case measure => simp [intOf]; omega
   ·have hd : c = d := by rw [← HK.out, HF.out, if_neg h0]
    subst hd
    clear HF HK
    have h0' : (c != 0) = true := by simp [h0]
    go_wp2
    go_ret
    exact ⟨rfl, hb⟩
  ·have hd : d = 0 := by rw [← HK.out, firstF_end (by omega)]
   subst hd
   go_wp2
   go_ret
   exact ⟨rfl, hb⟩
theorem implLF_is {o : Bool} {lo hi : Nat} (ao : Option Addr) (n cap : Nat) (xs : List En) (w : World) (h : RowAt w o lo hi 6 ao n cap (sixs xs)) (d : Int) (hd : logF xs = d) : Calls Tryz.prog 183 #[.slice ao n cap] w fun e w' => e = .returned (.int .i64 d) ∧ Below w.heap.size w w' := by
 have hxl := h.nSixs
 unfold logF at hd
 rw [hxl] at hd
 go_enter Tryz.func183, Tryz.ntmps183
 by_cases hbig : 40 < n
 ·rw [if_pos hbig] at hd
  subst hd
  have hbi : (40 : Int) < (n : Int) := by omega
  go_wp2
  go_ret
  exact ⟨rfl, Below.refl _ _⟩
 have hbi : ¬ (40 : Int) < (n : Int) := by omega
 rw [if_neg hbig] at hd
 go_wp2_with fail
 refine (firstFault_is ao n cap xs _ h (by omega) d hd).mono ?_
 rintro e w1 ⟨rfl, hb⟩
 go_wp2
 go_ret
 exact ⟨rfl, hb⟩
def commN : List En → List En → Nat
 | x :: r, y :: s => if x = y then commN r s + 1 else 0
 | _, _ => 0
theorem commN_drop {xs ys : List En} {k : Nat} (h : k < xs.length) (h' : k < ys.length) : commN (xs.drop k) (ys.drop k) = if xs.getD k en0 = ys.getD k en0 then commN (xs.drop (k + 1)) (ys.drop (k + 1)) + 1 else 0 := by
 rw [List.drop_eq_getElem_cons h, List.drop_eq_getElem_cons h']
 simp only [commN, List.getD, List.getElem?_eq_getElem h, List.getElem?_eq_getElem h', Option.getD_some]
theorem commN_end {xs ys : List En} {k : Nat} (h : xs.length ≤ k ∨ ys.length ≤ k) : commN (xs.drop k) (ys.drop k) = 0 := by
 rcases h with h | h
 ·rw [List.drop_eq_nil_of_le h]; cases ys.drop k <;> rfl
 ·rw [List.drop_eq_nil_of_le h]; cases xs.drop k <;> rfl
theorem run_min23 (x y N : Int) (h : N = min x y) (w : World) : (Builtin.min2 (.int .i64 x) (.int .i64 y)).run Tryz.prog w = .ok (.int .i64 N) w := by
 by_cases h1 : x ≤ y
 ·have e : N = x := by omega
  rw [e]
  unfold Builtin.min2
  simp [go_sem]
  omega
 ·have e : N = y := by omega
  rw [e]
  unfold Builtin.min2
  simp [go_sem]
  omega
theorem run_min3 (x y N : Int) (h : N = min x y) (ty : TypeId) (w : World) : (Builtin.min_ #[3, 3] ty #[.int .i64 x, .int .i64 y]).run Tryz.prog w = .ok (.int .i64 N) w := by
 simp [Builtin.min_, go_sem]
 exact run_min23 x y N h w
theorem wp_min3 {ops : Array Oper} {rest : List Oper} {o : Oper} {a : Act} {w : World} {Q : Exit → Act → World → Prop} (hgd : o.guard = none) (s x : Operand)
  (ho : o.op = .call { callee := .builtin .min, args := #[s, x], argTypes := #[3, 3] }) (u v N : Int) (hs : a.eval s = .int .i64 u) (hx : a.eval x = .int .i64 v) (hN : N = min u v)
  (h : wpList Tryz.prog ops Q rest (a.put o.dst (.int .i64 N)) w) : wpList Tryz.prog ops Q (o :: rest) a w :=
 wpList_plain hgd fun K hK => by
  have hr := run_min3 u v N hN o.type w
  unfold Oper.wp execOp
  simp only [ho, resolve, invoke, builtin, Sem.run_bind, Sem.run_pure, Result.andThen_ok, List.map_toArray, List.map_cons, List.map_nil, hs, hx, hr]
  exact hK _ _ h
theorem commonWith_is {o1 o2 : Bool} {l1 u1 l2 u2 : Nat} (a1 a2 : Option Addr) (n c1 m c2 : Nat) (xs ys : List En) (w : World) (h1 : RowAt w o1 l1 u1 6 a1 n c1 (sixs xs)) (h2 : RowAt w o2 l2 u2 6 a2 m c2 (sixs ys)) (hn : n ≤ 2097152) (d : Nat) (hd : commN xs ys = d) : Calls Tryz.prog 201 #[.slice a1 n c1, .slice a2 m c2] w fun e w' => e = .returned (.int .i64 d) ∧ Below w.heap.size w w' := by
 have hxl := h1.nSixs
 have hyl := h2.nSixs
 have HD : Hid _ := hd
 clear hd
 obtain ⟨lm, hlm⟩ : ∃ lm, min n m = lm := ⟨_, rfl⟩
 have Hlm : Hid _ := hlm
 have hl1 : lm ≤ n := by omega
 have hl2 : lm ≤ m := by omega
 have HM : Hid ((lm : Int) = min (n : Int) (m : Int)) := by show _ = _; omega
 clear hlm
 go_enter Tryz.func201, Tryz.ntmps201
 go_wp2_with (first | (refine wp_min3 rfl _ _ rfl (n : Int) (m : Int) (lm : Int) rfl rfl HM.out ?_))
 go_loopw [6, 13] (fun _ i wr => ∃ k : Nat, k ≤ lm ∧ i = .int .i64 k ∧ Hid (commN (xs.drop k) (ys.drop k) + k = d) ∧ Below w.heap.size w wr) (fun _ i _ => lm - (intOf i).toNat)
 case atStart => exact ⟨0, Nat.zero_le _, rfl, by simpa using HD, Below.refl _ _⟩
 case round =>
  obtain ⟨k, hk, rfl, HK, hb⟩ := hrel
  clear HD HM
  by_cases hkl : k < lm
  ·have hlt : k < n := by omega
   have hlt2 : k < m := by omega
   have HF : Hid _ := commN_drop (xs := xs) (ys := ys) (k := k) (by omega) (by omega)
   obtain ⟨b1, o1, rfl, _, _, hs1, e0, e1, e2, e3, e4, e5, _⟩ := h1.six hlt
   obtain ⟨b2, o2, rfl, _, _, hs2, f0, f1, f2, f3, f4, f5, _⟩ := h2.six hlt2
   replace e0 := cell_later hb e0
   replace f0 := cell_later hb f0
   replace e1 := cell_later hb e1
   replace f1 := cell_later hb f1
   replace e2 := cell_later hb e2
   replace f2 := cell_later hb f2
   replace e3 := cell_later hb e3
   replace f3 := cell_later hb f3
   replace e4 := cell_later hb e4
   replace f4 := cell_later hb f4
   replace e5 := cell_later hb e5
   replace f5 := cell_later hb f5
   obtain ⟨⟨x0, x1, x2, x3, x4, x5⟩, hx⟩ : ∃ x, xs.getD k en0 = x := ⟨_, rfl⟩
   obtain ⟨⟨y0, y1, y2, y3, y4, y5⟩, hy⟩ : ∃ x, ys.getD k en0 = x := ⟨_, rfl⟩
   rw [hx] at e0 e1 e2 e3 e4 e5 HF
   rw [hy] at f0 f1 f2 f3 f4 f5 HF
   simp only at e0 e1 e2 e3 e4 e5 f0 f1 f2 f3 f4 f5
   clear hx hy
   have hl : (k : Int) < (lm : Int) := by omega
   obtain ⟨q, hq⟩ : ∃ q, decide (((x0, x1, x2, x3, x4, x5) : En) = (y0, y1, y2, y3, y4, y5)) = q := ⟨_, rfl⟩
   have HQ : Hid _ := hq
   have R := run_neEn x0 x1 x2 x3 x4 x5 y0 y1 y2 y3 y4 y5 q hq
   have RG := run_guEn
   clear hq
   have D : Below wr.heap.size wr wr.drew := (Below.refl _ _).drew
   replace e0 := cell_later D e0
   replace f0 := cell_later D f0
   replace e1 := cell_later D e1
   replace f1 := cell_later D f1
   replace e2 := cell_later D e2
   replace f2 := cell_later D f2
   replace e3 := cell_later D e3
   replace f3 := cell_later D f3
   replace e4 := cell_later D e4
   replace f4 := cell_later D f4
   replace e5 := cell_later D e5
   replace f5 := cell_later D f5
   replace hb := below_step hb hb.size D
   clear D
   go_wp2_with fail
   go_region_held3 (fun w' => w'.cell? ⟨b1, o1 + k * 6, none⟩ = some (.int .i64 x0) ∧ w'.cell? ⟨b1, o1 + k * 6 + 1, none⟩ = some (.int .i64 x1) ∧ w'.cell? ⟨b1, o1 + k * 6 + 2, none⟩ = some (.int .i64 x2) ∧ w'.cell? ⟨b1, o1 + k * 6 + 3, none⟩ = some (.int .i64 x3) ∧ w'.cell? ⟨b1, o1 + k * 6 + 4, none⟩ = some (.int .i64 x4) ∧ w'.cell? ⟨b1, o1 + k * 6 + 5, none⟩ = some (.int .i64 x5) ∧ w'.cell? ⟨b2, o2 + k * 6, none⟩ = some (.int .i64 y0) ∧ w'.cell? ⟨b2, o2 + k * 6 + 1, none⟩ = some (.int .i64 y1) ∧ w'.cell? ⟨b2, o2 + k * 6 + 2, none⟩ = some (.int .i64 y2) ∧ w'.cell? ⟨b2, o2 + k * 6 + 3, none⟩ = some (.int .i64 y3) ∧ w'.cell? ⟨b2, o2 + k * 6 + 4, none⟩ = some (.int .i64 y4) ∧ w'.cell? ⟨b2, o2 + k * 6 + 5, none⟩ = some (.int .i64 y5)) (exact ⟨e0, e1, e2, e3, e4, e5, f0, f1, f2, f3, f4, f5⟩) (fail)
   clear e0 e1 e2 e3 e4 e5 f0 f1 f2 f3 f4 f5 R RG
   cases q with
   | true =>
    have HK' : Hid (commN (xs.drop (k + 1)) (ys.drop (k + 1)) + (k + 1) = d) := by show _ = _; have h3 := HK.out; rw [HF.out, if_pos (of_decide_eq_true HQ.out)] at h3; omega
    clear HF HK HQ
    go_wp2
    go_roundw
    case rel => exact ⟨k + 1, by omega, by go_num, HK', hb⟩
    case measure => simp [intOf]; omega
   | false =>
    have hd : k = d := by have h3 := HK.out; rw [HF.out, if_neg (of_decide_eq_false HQ.out)] at h3; omega
    subst hd
    clear HF HK HQ
    go_wp2
    go_ret
    exact ⟨rfl, hb⟩
  ·have hd : k = d := by have h3 := HK.out; rw [commN_end (by have := Hlm.out; omega)] at h3; omega
   obtain rfl : k = lm := by omega
   subst hd
   clear HK
   go_wp2
   go_ret
   exact ⟨rfl, hb⟩
theorem begins_is {o1 o2 : Bool} {l1 u1 l2 u2 : Nat} (a1 a2 : Option Addr) (n c1 m c2 : Nat) (xs ys : List En) (w : World) (h1 : RowAt w o1 l1 u1 6 a1 n c1 (sixs xs)) (h2 : RowAt w o2 l2 u2 6 a2 m c2 (sixs ys)) (hn : n ≤ 2097152) (d : Bool) (hd : decide (commN xs ys = n) = d) : Calls Tryz.prog 125 #[.slice a1 n c1, .slice a2 m c2] w fun e w' => e = .returned (.bool d) ∧ Below w.heap.size w w' := by
 obtain ⟨c, hc⟩ : ∃ c, commN xs ys = c := ⟨_, rfl⟩
 have HD : Hid (decide (c = n) = d) := by rw [hc] at hd; exact hd
 have HC : Hid _ := hc
 clear hd hc
 go_enter Tryz.func125, Tryz.ntmps125
 go_wp2_with fail
 refine (commonWith_is a1 a2 n c1 m c2 xs ys _ h1 h2 hn c HC.out).mono ?_
 rintro e w1 ⟨rfl, hb⟩
 clear HC
 go_wp2
 go_ret
 refine ⟨ret_bool ?_, hb⟩
 rw [← HD.out]
 by_cases h : c = n
 ·simp [h]
 ·have h' : ¬ (c : Int) = (n : Int) := by omega
  simp [h, h']
theorem implIsB_is {o1 o2 : Bool} {l1 u1 l2 u2 : Nat} (a1 a2 : Option Addr) (n c1 m c2 : Nat) (xs ys : List En) (w : World) (h1 : RowAt w o1 l1 u1 6 a1 n c1 (sixs xs)) (h2 : RowAt w o2 l2 u2 6 a2 m c2 (sixs ys)) (hn : n ≤ 2097152) (d : Bool) (hd : decide (commN xs ys = n) = d) : Calls Tryz.prog 45 #[.slice a1 n c1, .slice a2 m c2] w fun e w' => e = .returned (.bool d) ∧ Below w.heap.size w w' := by
 go_enter Tryz.func45, Tryz.ntmps45
 go_wp2_with fail
 refine (begins_is a1 a2 n c1 m c2 xs ys _ h1 h2 hn d hd).mono ?_
 rintro e w1 ⟨rfl, hb⟩
 go_wp2
 go_ret
 exact ⟨rfl, hb⟩
def hcs (n : Nat) (hs : Nat → Hd) (k : Nat) : List Value := (List.range n).map fun j => if j < k then hv (hs j) else .slice none 0 0
structure LogsAt (w : World) (o : Bool) (lo hi : Nat) (ao : Option Addr) (n cap : Nat) (hs : Nat → Hd) (xss : List (List En)) : Prop where
 len : xss.length = n
 row : RowAt w o lo hi 1 ao n cap (hcs n hs n)
 each : ∀ i, i < n → ∃ h, RowAt w false 0 h 6 (hs i).1 (hs i).2.1 (hs i).2.2 (sixs (xss.getD i []))
theorem RowAt.front6 {w : World} {own : Bool} {lo hi : Nat} {b off n cap : Nat} {xs : List En} (h : RowAt w own lo hi 6 (some ⟨b, off, none⟩) n cap (sixs xs)) {k : Nat} (hk : k ≤ n) : RowAt w own lo hi 6 (some ⟨b, off, none⟩) k cap (sixs (xs.take k)) := by
 have hl := h.nSixs
 have hl2 : (xs.take k).length = k := by rw [List.length_take]; omega
 refine ⟨by rw [sixs_len, hl2], Nat.le_trans hk h.le, fun hn => ?_⟩
 obtain ⟨b', off', e, g1, g2, g3, g4, g5⟩ := h.cells (by omega)
 refine ⟨b', off', e, g1, g2, g3, fun i hi => ?_, fun ho i hi => g5 ho i (by omega)⟩
 have q1 := sixs_get xs (i / 6) (i % 6) (by omega) (by omega)
 have q2 := sixs_get (xs.take k) (i / 6) (i % 6) (by omega) (by omega)
 rw [show i / 6 * 6 + i % 6 = i by omega] at q1 q2
 rw [g4 i (by omega), q1, q2]
 have : (xs.take k).getD (i / 6) en0 = xs.getD (i / 6) en0 := by simp [List.getD, show i / 6 < k by omega]
 rw [this]
end Go.Proofs.YtgldocaohcoleaaGreat
