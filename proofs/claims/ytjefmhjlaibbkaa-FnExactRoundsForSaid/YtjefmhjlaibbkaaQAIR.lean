/- Chapter 9: entries and bools marked and held by the laws. -/
import Derived.Test.YtjefmhjlaibbkaaQAGR
import Derived.Test.YtjefmhjlaibbkaaXAR
import Derived.Test.YtjefmhjlaibbkaaQABR
import Derived.Test.YtjefmhjlaibbkaaWBR
import Derived.Test.YtjefmhjlaibbkaaQACR
set_option maxRecDepth 20000
set_option maxHeartbeats 16000000
namespace Go.Proofs.Ytjefmhjlaibbkaa
open Go.RowKit
def mark6 (k : Int) (j : Nat) : En := (k + 6 * (j : Int), k + 6 * (j : Int) + 1, k + 6 * (j : Int) + 2, k + 6 * (j : Int) + 3, k + 6 * (j : Int) + 4, k + 6 * (j : Int) + 5)
def marks6 (k : Int) (n : Nat) : List En := (List.range n).map (mark6 k)
def kE (t : Int) (K : Nat → Hd) (k : Int) : Nat → Int
 | 0 => k
 | i + 1 => kE t K k i + t + 6 * ((K i).2.1 : Int)
def paM (t base : Int) (K : Nat → Hd) (k : Int) (L : Nat → List En) (i0 a : Nat) : List En := if a < i0 then marks6 (kE t K k a + base) (K a).2.1 else L a
def mkDF (K : Nat → Hd) (k : Int) (i c : Nat) : Value := [.bool ((kE 3 K k i) % 3 == 0), .int .i64 (kE 3 K k i + 1), hv (K i), .int .i64 (kE 3 K k i + 2 + 6 * ((K i).2.1 : Int))].getD c default
def firstF : List En → Int
 | [] => 0
 | x :: r => if enFault x = 0 then firstF r else enFault x
def logF (xs : List En) : Int := if 40 < xs.length then 2 else firstF xs
theorem firstF_drop {xs : List En} {k : Nat} (h : k < xs.length) : firstF (xs.drop k) = if enFault (xs.getD k en0) = 0 then firstF (xs.drop (k + 1)) else enFault (xs.getD k en0) := by
 rw [List.drop_eq_getElem_cons h]
 simp only [firstF, List.getD, List.getElem?_eq_getElem h, Option.getD_some]
theorem firstF_end {xs : List En} {k : Nat} (h : xs.length ≤ k) : firstF (xs.drop k) = 0 := by rw [List.drop_eq_nil_of_le h]; rfl
theorem specLF_is {o : Bool} {lo hi : Nat} (ao : Option Addr) (n cap : Nat) (xs : List En) (w : World) (h : RowAt w o lo hi 6 ao n cap (sixs xs)) (d : Int) (hd : logF xs = d) : Calls Try.prog 64 #[.slice ao n cap] w fun e w' => e = .returned (.int .i64 d) ∧ Below w.heap.size w w' := by
 have hxl := h.nSixs
 unfold logF at hd
 rw [hxl] at hd
 go_enter Try.func64, Try.ntmps64
 by_cases hbig : 40 < n
 ·rw [if_pos hbig] at hd
  subst hd
  have hbi : (40 : Int) < (n : Int) := by omega
  go_wp2
  go_ret
  exact ⟨rfl, Below.refl _ _⟩
 have hbi : ¬ (40 : Int) < (n : Int) := by omega
 rw [if_neg hbig] at hd
 have HD : Hid (firstF xs = d) := hd
 clear hd
 go_wp2
 go_loopw [3, 4] (fun i _ wr => ∃ k : Nat, k ≤ n ∧ i = .int .i64 k ∧ Hid (firstF (xs.drop k) = d) ∧ Below w.heap.size w wr) (fun i _ _ => n - (intOf i).toNat)
 case atStart => exact ⟨0, Nat.zero_le _, rfl, by simpa using HD, Below.refl _ _⟩
 case round =>
  obtain ⟨k, hk, rfl, HK, hb⟩ := hrel
  clear HD
  by_cases hlt : k < n
  ·have HF : Hid _ := firstF_drop (xs := xs) (k := k) (by omega)
   obtain ⟨b, off, rfl, _, _, hbs, e0, e1, e2, e3, e4, e5, _⟩ := h.six hlt
   replace e0 := cell_later hb e0
   replace e1 := cell_later hb e1
   replace e2 := cell_later hb e2
   replace e3 := cell_later hb e3
   replace e4 := cell_later hb e4
   replace e5 := cell_later hb e5
   have hl : (k : Int) < (n : Int) := by omega
   obtain ⟨⟨x0, x1, x2, x3, x4, x5⟩, hx⟩ : ∃ x, xs.getD k en0 = x := ⟨_, rfl⟩
   rw [hx] at e0 e1 e2 e3 e4 e5 HF
   simp only at e0 e1 e2 e3 e4 e5
   clear hx
   obtain ⟨c, hc⟩ : ∃ c, enFault (x0, x1, x2, x3, x4, x5) = c := ⟨_, rfl⟩
   rw [hc] at HF
   have HC : Hid _ := hc
   clear hc
   go_wp2_with fail
   refine (specEF_is x0 x1 x2 x3 x4 x5 _ c HC.out).mono ?_
   rintro e w1 ⟨rfl, hb1⟩
   replace hb := below_step hb hb.size hb1
   clear hb1 HC e0 e1 e2 e3 e4 e5
   by_cases h0 : c = 0
   ·subst h0
    have HK' : Hid (firstF (xs.drop (k + 1)) = d) := by show _ = _; rw [← HK.out, HF.out, if_pos rfl]
    clear HF HK
    go_wp2
    go_roundw
    case rel => exact ⟨k + 1, by omega, by go_num, HK', hb⟩
    case measure => simp [intOf]; omega
   ·have hd : c = d := by rw [← HK.out, HF.out, if_neg h0]
    subst hd
    clear HF HK
    have h0' : (c != 0) = true := by simp [h0]
    go_wp2
    go_ret
    exact ⟨rfl, hb⟩
  ·have hd : d = 0 := by rw [← HK.out, firstF_end (by omega)]
   subst hd
   go_wp2
   go_ret
   exact ⟨rfl, hb⟩
theorem firstFault_is {o : Bool} {lo hi : Nat} (ao : Option Addr) (n cap : Nat) (xs : List En) (w : World) (h : RowAt w o lo hi 6 ao n cap (sixs xs)) (hn : n ≤ 40) (d : Int) (hd : firstF xs = d) : Calls Try.prog 104 #[.slice ao n cap, .func (.func 105) #[] #[]] w fun e w' => e = .returned (.int .i64 d) ∧ Below w.heap.size w w' := by
 have hxl := h.nSixs
 have HD : Hid (firstF xs = d) := hd
 clear hd
 go_enter Try.func104, Try.ntmps104
 go_wp2
 go_loopw [6, 7, 10] (fun _ _ i wr => ∃ k : Nat, k ≤ n ∧ i = .int .i64 k ∧ Hid (firstF (xs.drop k) = d) ∧ Below w.heap.size w wr) (fun _ _ i _ => n - (intOf i).toNat)
 case atStart => exact ⟨0, Nat.zero_le _, rfl, by simpa using HD, Below.refl _ _⟩
 case round =>
  obtain ⟨k, hk, rfl, HK, hb⟩ := hrel
  clear HD
  by_cases hlt : k < n
  ·have HF : Hid _ := firstF_drop (xs := xs) (k := k) (by omega)
   obtain ⟨b, off, rfl, _, _, hbs, e0, e1, e2, e3, e4, e5, _⟩ := h.six hlt
   replace e0 := cell_later hb e0
   replace e1 := cell_later hb e1
   replace e2 := cell_later hb e2
   replace e3 := cell_later hb e3
   replace e4 := cell_later hb e4
   replace e5 := cell_later hb e5
   have hl : (k : Int) < (n : Int) := by omega
   obtain ⟨⟨x0, x1, x2, x3, x4, x5⟩, hx⟩ : ∃ x, xs.getD k en0 = x := ⟨_, rfl⟩
   rw [hx] at e0 e1 e2 e3 e4 e5 HF
   simp only at e0 e1 e2 e3 e4 e5
   clear hx
   obtain ⟨c, hc⟩ : ∃ c, enFault (x0, x1, x2, x3, x4, x5) = c := ⟨_, rfl⟩
   rw [hc] at HF
   have HC : Hid _ := hc
   clear hc
   go_wp2_with (first | ((with_reducible refine alloc_new 97 #[.int .i64 0, .int .i64 0, .int .i64 0, .int .i64 0, .int .i64 0, .int .i64 0] (fun _ => by kernel_rfl) ?_); intro b0 W0 N0; have c0 : W0.cell? ⟨b0, 0, none⟩ = some (.int .i64 0) := N0.cell 0 _ rfl; have y0 : W0.frozen? ⟨b0, 0, none⟩ = false := N0.froz 0; have c1 : W0.cell? ⟨b0, 1, none⟩ = some (.int .i64 0) := N0.cell 1 _ rfl; have y1 : W0.frozen? ⟨b0, 1, none⟩ = false := N0.froz 1; have c2 : W0.cell? ⟨b0, 2, none⟩ = some (.int .i64 0) := N0.cell 2 _ rfl; have y2 : W0.frozen? ⟨b0, 2, none⟩ = false := N0.froz 2; have c3 : W0.cell? ⟨b0, 3, none⟩ = some (.int .i64 0) := N0.cell 3 _ rfl; have y3 : W0.frozen? ⟨b0, 3, none⟩ = false := N0.froz 3; have c4 : W0.cell? ⟨b0, 4, none⟩ = some (.int .i64 0) := N0.cell 4 _ rfl; have y4 : W0.frozen? ⟨b0, 4, none⟩ = false := N0.froz 4; have c5 : W0.cell? ⟨b0, 5, none⟩ = some (.int .i64 0) := N0.cell 5 _ rfl; have y5 : W0.frozen? ⟨b0, 5, none⟩ = false := N0.froz 5; have H0 : Hid (w.heap.size ≤ b0) := Nat.le_trans hb.size N0.ge; replace hb := below_step hb hb.size N0.below; clear N0) | ((with_reducible refine store_box 97 b0 [.int .i64 x0, .int .i64 x1, .int .i64 x2, .int .i64 x3, .int .i64 x4, .int .i64 x5] (by simp) (there6 c0 c1 c2 c3 c4 c5 y0 y1 y2 y3 y4 y5) (by kernel_rfl) (by simp [Value.oneCell']) rfl rfl ?_); intro W1 S0; replace c0 : W1.cell? ⟨b0, 0, none⟩ = some (.int .i64 x0) := S0.cell 0 _ rfl; replace c1 : W1.cell? ⟨b0, 1, none⟩ = some (.int .i64 x1) := S0.cell 1 _ rfl; replace c2 : W1.cell? ⟨b0, 2, none⟩ = some (.int .i64 x2) := S0.cell 2 _ rfl; replace c3 : W1.cell? ⟨b0, 3, none⟩ = some (.int .i64 x3) := S0.cell 3 _ rfl; replace c4 : W1.cell? ⟨b0, 4, none⟩ = some (.int .i64 x4) := S0.cell 4 _ rfl; replace c5 : W1.cell? ⟨b0, 5, none⟩ = some (.int .i64 x5) := S0.cell 5 _ rfl; replace hb := hb.trans (S0.kept.below _ H0.out hb.size); clear S0 H0 y0 y1 y2 y3 y4 y5) | fail)
   refine (implEF_is x0 x1 x2 x3 x4 x5 _ c HC.out).mono ?_
   rintro e w1 ⟨rfl, hb1⟩
   replace hb := below_step hb hb.size hb1
   clear hb1 HC e0 e1 e2 e3 e4 e5 c0 c1 c2 c3 c4 c5
   by_cases h0 : c = 0
   ·subst h0
    have HK' : Hid (firstF (xs.drop (k + 1)) = d) := by show _ = _; rw [← HK.out, HF.out, if_pos rfl]
    clear HF HK
    go_wp2
    go_roundw
    case rel => exact ⟨k + 1, by omega, by go_num, HK', hb⟩
    case measure => simp [intOf]; omega
   ·have hd : c = d := by rw [← HK.out, HF.out, if_neg h0]
    subst hd
    clear HF HK
    have h0' : (c != 0) = true := by simp [h0]
    go_wp2
    go_ret
    exact ⟨rfl, hb⟩
  ·have hd : d = 0 := by rw [← HK.out, firstF_end (by omega)]
   subst hd
   go_wp2
   go_ret
   exact ⟨rfl, hb⟩
theorem implLF_is {o : Bool} {lo hi : Nat} (ao : Option Addr) (n cap : Nat) (xs : List En) (w : World) (h : RowAt w o lo hi 6 ao n cap (sixs xs)) (d : Int) (hd : logF xs = d) : Calls Try.prog 78 #[.slice ao n cap] w fun e w' => e = .returned (.int .i64 d) ∧ Below w.heap.size w w' := by
 have hxl := h.nSixs
 unfold logF at hd
 rw [hxl] at hd
 go_enter Try.func78, Try.ntmps78
 by_cases hbig : 40 < n
 ·rw [if_pos hbig] at hd
  subst hd
  have hbi : (40 : Int) < (n : Int) := by omega
  go_wp2
  go_ret
  exact ⟨rfl, Below.refl _ _⟩
 have hbi : ¬ (40 : Int) < (n : Int) := by omega
 rw [if_neg hbig] at hd
 go_wp2_with fail
 refine (firstFault_is ao n cap xs _ h (by omega) d hd).mono ?_
 rintro e w1 ⟨rfl, hb⟩
 go_wp2
 go_ret
 exact ⟨rfl, hb⟩
end Go.Proofs.Ytjefmhjlaibbkaa
