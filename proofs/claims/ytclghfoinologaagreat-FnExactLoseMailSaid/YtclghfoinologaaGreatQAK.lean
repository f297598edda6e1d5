/- Chapter 9: entries and bools marked and held by the laws. -/
import Derived.Test.YtclghfoinologaaGreatWB
set_option maxRecDepth 20000
set_option maxHeartbeats 16000000
namespace Go.Proofs.YtclghfoinologaaGreat
open Go.RowKit
theorem sixs_flat (xs : List En) : sixs xs = flatF 6 xs.length (fun i j => .int .i64 (enF (xs.getD i en0) j)) := rfl
def mark6 (k : Int) (j : Nat) : En := (k + 6 * (j : Int), k + 6 * (j : Int) + 1, k + 6 * (j : Int) + 2, k + 6 * (j : Int) + 3, k + 6 * (j : Int) + 4, k + 6 * (j : Int) + 5)
def marks6 (k : Int) (n : Nat) : List En := (List.range n).map (mark6 k)
def mk6 (vs : List En) (k : Int) (i : Nat) : List En := (List.range vs.length).map fun j => if j < i then mark6 k j else vs.getD j en0
theorem mk6_len (vs : List En) (k : Int) (i : Nat) : (mk6 vs k i).length = vs.length := by simp [mk6]
theorem mk6_get (vs : List En) (k : Int) (i j : Nat) (h : j < vs.length) : (mk6 vs k i).getD j en0 = if j < i then mark6 k j else vs.getD j en0 := by simp [mk6, List.getD, h]
theorem marks6_get (k : Int) (n j : Nat) (h : j < n) : (marks6 k n).getD j en0 = mark6 k j := by simp [marks6, List.getD, h]
theorem list_eq6 {xs ys : List En} (hl : xs.length = ys.length) (h : ∀ j, j < xs.length → xs.getD j en0 = ys.getD j en0) : xs = ys := by
 apply List.ext_getElem hl
 intro j h1 h2
 have := h j h1
 simpa [List.getD, h1, h2] using this
theorem mk6_zero (vs : List En) (k : Int) : mk6 vs k 0 = vs := list_eq6 (by rw [mk6_len]) fun j hj => by rw [mk6_get _ _ _ _ (by rwa [mk6_len] at hj), if_neg (Nat.not_lt_zero _)]
theorem mk6_all (vs : List En) (k : Int) : mk6 vs k vs.length = marks6 k vs.length := list_eq6 (by rw [mk6_len]; simp [marks6]) fun j hj => by rw [mk6_len] at hj; rw [mk6_get _ _ _ _ hj, if_pos hj, marks6_get _ _ _ hj]
theorem sixs_sets (vs : List En) (k : Int) (i : Nat) (h : i < vs.length) : ((((((sixs (mk6 vs k i)).set (i * 6 + 0) (.int .i64 (mark6 k i).1)).set (i * 6 + 1) (.int .i64 (mark6 k i).2.1)).set (i * 6 + 2) (.int .i64 (mark6 k i).2.2.1)).set (i * 6 + 3) (.int .i64 (mark6 k i).2.2.2.1)).set (i * 6 + 4) (.int .i64 (mark6 k i).2.2.2.2.1)).set (i * 6 + 5) (.int .i64 (mark6 k i).2.2.2.2.2) = sixs (mk6 vs k (i + 1)) := by
 rw [sixs_flat, sixs_flat, mk6_len, mk6_len, flatF_set _ (by omega), flatF_set _ (by omega), flatF_set _ (by omega), flatF_set _ (by omega), flatF_set _ (by omega), flatF_set _ (by omega)]
 refine flatF_congr fun a b ha hb => ?_
 rw [mk6_get _ _ _ _ ha]
 by_cases e : a = i
 ·subst e
  rw [if_pos (by omega)]
  rcases (by omega : b = 0 ∨ b = 1 ∨ b = 2 ∨ b = 3 ∨ b = 4 ∨ b = 5) with rfl | rfl | rfl | rfl | rfl | rfl <;> simp [updF, enF]
 ·have : (a < i + 1) = (a < i) := by simp;omega
  simp only [updF, e, false_and, if_false];rw [mk6_get _ _ _ _ ha];simp only [this]
theorem markEntries_any {lo hi : Nat} (ao : Option Addr) (n cap : Nat) (vs : List En) (k : Int) (w : World) (h : RowAt w true lo hi 6 ao n cap (sixs vs)) (hn : n ≤ 4194304) (hk0 : 0 ≤ k) (hk1 : k ≤ 1000000000000000) :
  Calls Tryz.prog 36 #[.slice ao n cap, .int .i64 k] w fun e w' => e = .returned (.int .i64 (k + 6 * n)) ∧ RowAt w' true lo hi 6 ao n cap (sixs (marks6 k n)) ∧ Kept lo hi w w' := by
 have hx := h.nSixs
 go_enter Tryz.func36, Tryz.ntmps36
 go_wp2
 go_loopw [1, 5] (fun v i wr => ∃ j : Nat, j ≤ n ∧ i = .int .i64 j ∧ v = .int .i64 (k + 6 * (j : Int)) ∧ RowAt wr true lo hi 6 ao n cap (sixs (mk6 vs k j)) ∧ Kept lo hi w wr) (fun _ i _ => n - (intOf i).toNat)
 case atStart => exact ⟨0, Nat.zero_le _, rfl, by simp, by rw [mk6_zero];exact h, Kept.refl _ _ _⟩
 case round =>
  obtain ⟨j, hj, rfl, rfl, R, hK⟩ := hrel
  by_cases hlt : j < n
  ·obtain ⟨b, off, rfl, hlo, hhi, hbs, c0, c1, c2, c3, c4, c5, fz⟩ := R.six hlt
   have f0 := fz rfl 0 (by omega)
   have f1 := fz rfl 1 (by omega)
   have f2 := fz rfl 2 (by omega)
   have f3 := fz rfl 3 (by omega)
   have f4 := fz rfl 4 (by omega)
   have f5 := fz rfl 5 (by omega)
   simp only [Nat.add_zero, ← Nat.add_assoc] at f0 f1 f2 f3 f4 f5;clear fz
   have hq0 : 0 ≤ k + 6 * (j : Int) := by omega
   have hq1 : k + 6 * (j : Int) ≤ 2000000000000000 := by omega
   have R2 := ((((((R.stored (i := j * 6 + 0) (by omega) (.int .i64 (mark6 k j).1)).stored (i := j * 6 + 1) (by omega) (.int .i64 (mark6 k j).2.1)).stored (i := j * 6 + 2) (by omega) (.int .i64 (mark6 k j).2.2.1)).stored (i := j * 6 + 3) (by omega) (.int .i64 (mark6 k j).2.2.2.1)).stored (i := j * 6 + 4) (by omega) (.int .i64 (mark6 k j).2.2.2.2.1)).stored (i := j * 6 + 5) (by omega) (.int .i64 (mark6 k j).2.2.2.2.2))
   rw [sixs_sets vs k j (by omega)] at R2
   have K2 := ((((((hK.setCell (p := ⟨b, off + (j * 6 + 0), none⟩) hlo hhi (.int .i64 (mark6 k j).1)).setCell (p := ⟨b, off + (j * 6 + 1), none⟩) hlo hhi (.int .i64 (mark6 k j).2.1)).setCell (p := ⟨b, off + (j * 6 + 2), none⟩) hlo hhi (.int .i64 (mark6 k j).2.2.1)).setCell (p := ⟨b, off + (j * 6 + 3), none⟩) hlo hhi (.int .i64 (mark6 k j).2.2.2.1)).setCell (p := ⟨b, off + (j * 6 + 4), none⟩) hlo hhi (.int .i64 (mark6 k j).2.2.2.2.1)).setCell (p := ⟨b, off + (j * 6 + 5), none⟩) hlo hhi (.int .i64 (mark6 k j).2.2.2.2.2));simp only [mark6, Nat.add_zero, ← Nat.add_assoc] at R2 K2
   have hl : (j : Int) < n := by omega
   clear R hK;generalize ((mk6 vs k j).getD j en0).1 = old0 at *;generalize ((mk6 vs k j).getD j en0).2.1 = old1 at *;generalize ((mk6 vs k j).getD j en0).2.2.1 = old2 at *;generalize ((mk6 vs k j).getD j en0).2.2.2.1 = old3 at *;generalize ((mk6 vs k j).getD j en0).2.2.2.2.1 = old4 at *;generalize ((mk6 vs k j).getD j en0).2.2.2.2.2 = old5 at *
   have e4 : k + 6 * (j : Int) + 6 = k + 6 * ((j + 1 : Nat) : Int) := by omega
   have HR2 : Hid _ := R2
   have HK2 : Hid _ := K2
   clear R2 K2
   have HE4 : Hid _ := e4
   clear e4;generalize hq : k + 6 * (j : Int) = q at *;clear hq
   have v1 : IntKind.i64.wrap (q + 1) = q + 1 := wrapI_same _ (by omega)
   have v2 : IntKind.i64.wrap (q + 2) = q + 2 := wrapI_same _ (by omega)
   have v3 : IntKind.i64.wrap (q + 3) = q + 3 := wrapI_same _ (by omega)
   have v4 : IntKind.i64.wrap (q + 4) = q + 4 := wrapI_same _ (by omega)
   have v5 : IntKind.i64.wrap (q + 5) = q + 5 := wrapI_same _ (by omega)
   have v6 : IntKind.i64.wrap (q + 6) = q + 6 := wrapI_same _ (by omega)
   have a2 : q + 1 + 1 = q + 2 := by omega
   have a3 : q + 2 + 1 = q + 3 := by omega
   have a4 : q + 3 + 1 = q + 4 := by omega
   have a5 : q + 4 + 1 = q + 5 := by omega
   have a6 : q + 5 + 1 = q + 6 := by omega
   go_wp2
   go_roundw
   case rel => exact ⟨j + 1, by omega, by go_num, by rw [← HE4.out], HR2.out, HK2.out⟩
   case measure => simp [intOf];omega
  ·have hjn : j = n := by omega
   subst hjn;rw [← hx, mk6_all] at R;go_wp2;go_ret
   exact ⟨rfl, by rw [← hx];exact R, hK⟩
theorem heldEntries_any {o : Bool} {lo hi : Nat} (ao : Option Addr) (n cap : Nat) (k : Int) (w : World) (h : RowAt w o lo hi 6 ao n cap (sixs (marks6 k n))) (hn : n ≤ 4194304) (hk0 : 0 ≤ k) (hk1 : k ≤ 1000000000000000) :
  Calls Tryz.prog 74 #[.slice ao n cap, .int .i64 k] w fun e w' => e = .returned (.int .i64 (k + 6 * n)) ∧ w' = w := by
 go_enter Tryz.func74, Tryz.ntmps74
 go_wp2
 go_loop [1, 5] (fun v i => ∃ j : Nat, j ≤ n ∧ i = .int .i64 j ∧ v = .int .i64 (k + 6 * (j : Int))) (fun _ i => n - (intOf i).toNat)
 case atStart => exact ⟨0, Nat.zero_le _, rfl, by simp⟩
 case round =>
  obtain ⟨j, hj, rfl, rfl⟩ := hrel
  by_cases hlt : j < n
  ·obtain ⟨b, off, rfl, hlo, hhi, hbs, c0, c1, c2, c3, c4, c5, _⟩ := h.six hlt
   rw [marks6_get k n j hlt] at c0 c1 c2 c3 c4 c5;simp only [mark6] at c0 c1 c2 c3 c4 c5
   have hq0 : 0 ≤ k + 6 * (j : Int) := by omega
   have hq1 : k + 6 * (j : Int) ≤ 2000000000000000 := by omega
   have e4 : k + 6 * (j : Int) + 6 = k + 6 * ((j + 1 : Nat) : Int) := by omega
   have HE4 : Hid _ := e4
   clear e4
   have hl : (j : Int) < n := by omega
   generalize hq : k + 6 * (j : Int) = q at *;clear hq
   have v1 : IntKind.i64.wrap (q + 1) = q + 1 := wrapI_same _ (by omega)
   have v2 : IntKind.i64.wrap (q + 2) = q + 2 := wrapI_same _ (by omega)
   have v3 : IntKind.i64.wrap (q + 3) = q + 3 := wrapI_same _ (by omega)
   have v4 : IntKind.i64.wrap (q + 4) = q + 4 := wrapI_same _ (by omega)
   have v5 : IntKind.i64.wrap (q + 5) = q + 5 := wrapI_same _ (by omega)
   have v6 : IntKind.i64.wrap (q + 6) = q + 6 := wrapI_same _ (by omega)
   have a2 : q + 1 + 1 = q + 2 := by omega
   have a3 : q + 2 + 1 = q + 3 := by omega
   have a4 : q + 3 + 1 = q + 4 := by omega
   have a5 : q + 4 + 1 = q + 5 := by omega
   have a6 : q + 5 + 1 = q + 6 := by omega
   have d1 : ((q + 1) != (q + 1)) = false := by simp
   have d2 : ((q + 2) != (q + 2)) = false := by simp
   have d3 : ((q + 3) != (q + 3)) = false := by simp
   have d4 : ((q + 4) != (q + 4)) = false := by simp
   have d5 : ((q + 5) != (q + 5)) = false := by simp
   have d0 : (q != q) = false := by simp
   go_wp2
   go_round
   case rel => exact ⟨j + 1, by omega, by go_num, by rw [← HE4.out]⟩
   case measure => simp [intOf];omega
  ·have hjn : j = n := by omega
   subst hjn;go_wp2;go_ret;exact ⟨rfl, rfl⟩
def kE (t : Int) (K : Nat → Hd) (k : Int) : Nat → Int
 | 0 => k
 | i + 1 => kE t K k i + t + 6 * ((K i).2.1 : Int)
theorem kE_ge {t : Int} (ht : 0 ≤ t) (K : Nat → Hd) (k : Int) : ∀ i, k ≤ kE t K k i
 | 0 => Int.le_refl _
 | i + 1 => by have := kE_ge ht K k i;simp only [kE];omega
theorem kE_le {t : Int} (h0 : 0 ≤ t) (ht : t ≤ 14) (K : Nat → Hd) (k : Int) {n : Nat} (hK : ∀ i, i < n → (K i).2.1 ≤ 2097152) : ∀ i, i ≤ n → kE t K k i ≤ k + i * 12582926
 | 0, _ => by simp [kE]
 | i + 1, h => by have := kE_le h0 ht K k hK i (by omega);have := hK i (by omega);simp only [kE];omega
theorem updF_in (F : Nat → Nat → Value) (i j c : Nat) (v : Value) : updF F i j v i c = if c = j then v else F i c := by unfold updF; simp
def paG (G F : Nat → Nat → Value) (i0 a c : Nat) : Value := if a < i0 then G a c else F a c
def paM (t base : Int) (K : Nat → Hd) (k : Int) (L : Nat → List En) (i0 a : Nat) : List En := if a < i0 then marks6 (kE t K k a + base) (K a).2.1 else L a
theorem RowAt.pinR {w : World} {o : Bool} {lo hi size : Nat} {ao : Option Addr} {n cap : Nat} {cs : List Value} (h : RowAt w o lo hi size ao n cap cs) : RowAt w o (sb ao) (if n = 0 then sb ao else sb ao + 1) size ao n cap cs := by
 refine ⟨h.len, h.le, fun hn => ?_⟩
 obtain ⟨b, off, rfl, _, _, r⟩ := h.cells hn
 exact ⟨b, off, rfl, Nat.le_refl _, by rw [if_neg hn];exact Nat.lt_succ_self _, r⟩
theorem RowAt.repin {w w' : World} {o o' : Bool} {lo hi l u size : Nat} {ao : Option Addr} {n cap : Nat} {cs cs' : List Value} (h : RowAt w o lo hi size ao n cap cs) (h' : RowAt w' o' l u size ao n cap cs') : RowAt w' o' lo hi size ao n cap cs' := by
 refine ⟨h'.len, h'.le, fun hn => ?_⟩
 obtain ⟨b, off, e, g1, g2, _⟩ := h.cells hn
 obtain ⟨b', off', e', _, _, r⟩ := h'.cells hn
 have := Option.some.inj (e.symm.trans e')
 injection this with e1 e2
 subst e1 e2;exact ⟨b, off, e, g1, g2, r⟩
theorem Kept.pinR {ao : Option Addr} {n : Nat} {w w' : World} (h : Kept (sb ao) (if n = 0 then sb ao else sb ao + 1) w w') : KeptS (inR ao n) w w' := h.toS fun x h1 h2 => by
 by_cases e : n = 0
 ·rw [if_pos e] at h2;omega
 ·rw [if_neg e] at h2;exact ⟨e, by omega⟩
def mkDF (K : Nat → Hd) (k : Int) (i c : Nat) : Value := [.bool ((kE 3 K k i) % 3 == 0), .int .i64 (kE 3 K k i + 1), hv (K i), .int .i64 (kE 3 K k i + 2 + 6 * ((K i).2.1 : Int))].getD c default
theorem doers_pre {w : World} {lo hi n cap b off : Nat} {K : Nat → Hd} {F : Nat → Nat → Value} {L : Nat → List En} (h : ElsAt 4 w true lo hi (some ⟨b, off, none⟩) n cap F K L) {i : Nat} (hi' : i < n) (q : Int) : ElsAt 4 ((w.setCell ⟨b, off + (i * 4 + 0), none⟩ (.bool ((q) % 3 == 0))).setCell ⟨b, off + (i * 4 + 1), none⟩ (.int .i64 (q + 1))) true lo hi (some ⟨b, off, none⟩) n cap (updF (updF (F) i 0 (.bool ((q) % 3 == 0))) i 1 (.int .i64 (q + 1))) K L := by
 exact ((h.store (i := i) (j := 0) hi' (by omega) _).store (i := i) (j := 1) hi' (by omega) _)
theorem doers_more {n : Nat} {K : Nat → Hd} {F : Nat → Nat → Value} {k : Int} {i : Nat} (hF : F i 2 = hv (K i)) : ∀ a c, a < n → c < 4 → (updF (updF (updF (paG (mkDF K k) F i) i 0 (.bool (((kE 3 K k i)) % 3 == 0))) i 1 (.int .i64 ((kE 3 K k i) + 1))) i 3 (.int .i64 (kE 3 K k i + 2 + 6 * ((K i).2.1 : Int)))) a c = paG (mkDF K k) F (i + 1) a c := fun a c _ hc => by
 by_cases e : a = i
 ·subst e
  have hp : paG (mkDF K k) F a a 2 = hv (K a) := by unfold paG;rw [if_neg (Nat.lt_irrefl _)];exact hF
  have hq : ∀ c, paG (mkDF K k) F (a + 1) a c = mkDF K k a c := fun c => by unfold paG;rw [if_pos (by omega)]
  rw [hq]
  rcases (by omega : c = 0 ∨ c = 1 ∨ c = 2 ∨ c = 3) with rfl | rfl | rfl | rfl
  all_goals simp only [updF_in]
  all_goals first | rfl | exact hp
 ·have : (a < i + 1) = (a < i) := by simp;omega
  simp only [updF, e, false_and, if_false, paG, this]
theorem markDoerS_any {lo hi : Nat} (ao : Option Addr) (n cap : Nat) (K : Nat → Hd) (F : Nat → Nat → Value) (L : Nat → List En) (k : Int) (w : World) (h : ElsAt 4 w true lo hi ao n cap F K L) (hF : ∀ i, i < n → F i 2 = hv (K i)) (hn : n ≤ 2097152) (hK : ∀ i, i < n → (K i).2.1 ≤ 2097152) (hk0 : 0 ≤ k) (hk1 : k ≤ 100000000000000) :
  Calls Tryz.prog 71 #[.slice ao n cap, .int .i64 k] w fun e w' => e = .returned (.int .i64 (kE 3 K k n)) ∧ ElsAt 4 w' true lo hi ao n cap (mkDF K k) K (paM 3 2 K k L n) ∧ KeptS (inE ao n K) w w' := by
 have HK : Hid _ := hK
 have HF : Hid _ := hF
 clear hK hF
 go_enter Tryz.func71, Tryz.ntmps71
 go_wp2
 go_loopw [1, 5] (fun v j wr => ∃ i : Nat, i ≤ n ∧ j = .int .i64 i ∧ v = .int .i64 (kE 3 K k i) ∧ ElsAt 4 wr true lo hi ao n cap (paG (mkDF K k) F i) K (paM 3 2 K k L i) ∧ KeptS (inE ao n K) w wr) (fun _ j _ => n - (intOf j).toNat)
 case atStart => exact ⟨0, Nat.zero_le _, rfl, rfl, h.congr (fun a c _ _ => by simp [paG]) (fun a _ => by simp [paM]), KeptS.refl _ _⟩
 case round =>
  obtain ⟨i, hi, rfl, rfl, E, hS⟩ := hrel
  by_cases hlt : i < n
  ·obtain ⟨b, off, rfl, hlo, hhi, hbs, hc, hf⟩ := E.el hlt (by omega)
   have hpF : ∀ c, paG (mkDF K k) F i i c = F i c := fun c => by unfold paG;rw [if_neg (Nat.lt_irrefl _)]
   have c0 := hc 0 (by omega)
   have c1 := hc 1 (by omega)
   have c2 := hc 2 (by omega)
   have c3 := hc 3 (by omega)
   have f0 := hf rfl 0 (by omega)
   have f1 := hf rfl 1 (by omega)
   have f2 := hf rfl 2 (by omega)
   have f3 := hf rfl 3 (by omega)
   rw [hpF] at c0 c1 c2 c3;clear hpF hc hf;rw [HF.out i hlt] at c2
   have hq0 := Int.le_trans hk0 (kE_ge (t := 3) (by omega) K k i)
   have hq1 := kE_le (t := 3) (by omega) (by omega) K k HK.out i (by omega)
   have hq2 : kE 3 K k i ≤ 200000000000000 := by omega
   have hm := HK.out i hlt;have E1 := doers_pre E hlt (kE 3 K k i)
   have KS1 : KeptS (inE (some ⟨b, off, none⟩) n K) w ((wr.setCell ⟨b, off + (i * 4 + 0), none⟩ (.bool ((kE 3 K k i) % 3 == 0))).setCell ⟨b, off + (i * 4 + 1), none⟩ (.int .i64 (kE 3 K k i + 1))) := by
    have hin : inE (some ⟨b, off, none⟩) n K b := Or.inl ⟨by omega, rfl⟩
    exact ((hS.setCell (p := ⟨b, off + (i * 4 + 0), none⟩) hin _).setCell (p := ⟨b, off + (i * 4 + 1), none⟩) hin _)
   have MO := doers_more (n := n) (k := k) (HF.out i hlt)
   have HMO : Hid _ := MO
   have HEx : Hid (paM 3 2 K k L i i = L i) := by show _ = _;unfold paM;rw [if_neg (Nat.lt_irrefl _)]
   have R1 := E1.logs i hlt
   obtain ⟨b1, o1, e1, _, _, hb1, hc1, hf1⟩ := E1.el hlt (by omega)
   simp only [Option.some.injEq, Addr.mk.injEq, and_true] at e1
   obtain ⟨rfl, rfl⟩ := e1
   have g3 := hc1 3 (by omega)
   have y3 := hf1 rfl 3 (by omega)
   clear hc1 hf1
   have hsep : ¬ inR (K i).1 (K i).2.1 b := fun z => (E1.sep rfl i hlt z.1).1 z.2.symm
   have HSEP : Hid _ := hsep
   have HB1 : Hid _ := hb1
   have HG3 : Hid _ := g3
   have HY3 : Hid _ := y3
   have HE1 : Hid _ := E1
   have HK1 : Hid _ := KS1
   have HR1 : Hid _ := R1
   have e4 : kE 3 K k i + 2 + 6 * ((K i).2.1 : Int) + 1 = kE 3 K k (i + 1) := by simp only [kE];omega
   have HE4 : Hid _ := e4
   clear hsep hb1 g3 y3 E1 KS1 R1 MO e4 E hS hq1;simp only [hv] at c2;generalize hq : kE 3 K k i = q at *
   have HQ : Hid _ := hq
   clear hq;simp only [Nat.add_zero, ← Nat.add_assoc] at c0 c1 c2 c3 f0 f1 f2 f3 HE1 HK1 HR1 HG3 HY3 HB1
   have r0 : Int.tmod q 3 = q % 3 := Int.tmod_eq_emod_of_nonneg (by omega)
   have u0 : IntKind.i64.wrap (q % 3) = q % 3 := wrapI_same _ (by omega)
   have v1 : IntKind.i64.wrap (q + 1) = q + 1 := wrapI_same _ (by omega)
   have v2 : IntKind.i64.wrap (q + 2) = q + 2 := wrapI_same _ (by omega)
   have a2 : q + 1 + 1 = q + 2 := by omega
   have hl : (i : Int) < n := by omega
   go_wp2_with fail
   refine (markEntries_any _ _ _ _ (q + 2) _ HR1.out.pinR (by omega) (by omega) (by omega)).mono ?_
   rintro e w1 ⟨rfl, R2, K2⟩;have KS2 := Kept.pinR K2;have E2 := HE1.out.log hlt (marks6 (q + 2) (K i).2.1) KS2 (HR1.out.repin R2)
   have KS3 := HK1.out.trans (KS2.mono (fun z hz => Or.inr ⟨i, hlt, hz⟩))
   have z3 := KS2.cell HG3.out HB1.out HSEP.out;have x3 := KS2.frozen HY3.out HB1.out HSEP.out
   have E3 := E2.store (i := i) (j := 3) hlt (by omega) (.int .i64 (q + 2 + 6 * ((K i).2.1 : Int)))
   have KS4 := KS3.setCell (p := ⟨b, off + (i * 4 + 3), none⟩) (Or.inl ⟨by omega, rfl⟩) (.int .i64 (q + 2 + 6 * ((K i).2.1 : Int)))
   have E4 := E3.congr HMO.out (M := paM 3 2 K k L (i + 1)) (fun a _ => by
    unfold paM
    by_cases e : a = i
    ·subst e;rw [if_pos rfl, if_pos (by omega), HQ.out]
    ·rw [if_neg e]
     by_cases e2 : a < i
     ·rw [if_pos e2, if_pos (by omega)]
     ·rw [if_neg e2, if_neg (by omega)])
   have HE5 : Hid _ := E4
   have HK5 : Hid _ := KS4
   clear R2 K2 KS2 E2 KS3 E3 KS4 E4 HG3 HY3 HE1 HK1 HR1 c0 c1 c2 c3 f0 f1 f2 f3;simp only [← Nat.add_assoc] at z3 x3 HE5 HK5;generalize hzz : (K i).2.1 = km at *
   have w5 : IntKind.i64.wrap (q + 2 + 6 * (km : Int) + 1) = q + 2 + 6 * (km : Int) + 1 := wrapI_same _ (by omega)
   go_wp2
   go_roundw
   case rel => exact ⟨i + 1, by omega, by go_num, by rw [← HE4.out], HE5.out, HK5.out⟩
   case measure => simp [intOf];omega
  ·have hjn : i = n := by omega
   subst hjn;go_wp2;go_ret
   refine ⟨rfl, E.congr (fun a c ha _ => by simp [paG, ha]) (fun _ _ => rfl), hS⟩
theorem heldDoerS_any {o : Bool} {lo hi : Nat} (ao : Option Addr) (n cap : Nat) (K : Nat → Hd) (L : Nat → List En) (k : Int) (w : World) (h : ElsAt 4 w o lo hi ao n cap (mkDF K k) K (paM 3 2 K k L n)) (hn : n ≤ 2097152) (hK : ∀ i, i < n → (K i).2.1 ≤ 2097152) (hk0 : 0 ≤ k) (hk1 : k ≤ 100000000000000) :
  Calls Tryz.prog 112 #[.slice ao n cap, .int .i64 k] w fun e w' => e = .returned (.int .i64 (kE 3 K k n)) ∧ w' = w := by
 have HK : Hid _ := hK
 clear hK
 go_enter Tryz.func112, Tryz.ntmps112
 go_wp2
 go_loop [1, 5] (fun v j => ∃ i : Nat, i ≤ n ∧ j = .int .i64 i ∧ v = .int .i64 (kE 3 K k i)) (fun _ j => n - (intOf j).toNat)
 case atStart => exact ⟨0, Nat.zero_le _, rfl, rfl⟩
 case round =>
  obtain ⟨i, hi, rfl, rfl⟩ := hrel
  by_cases hlt : i < n
  ·obtain ⟨b, off, rfl, hlo, hhi, hbs, hc, _⟩ := h.el hlt (by omega)
   have c0 := hc 0 (by omega)
   have c1 := hc 1 (by omega)
   have c2 := hc 2 (by omega)
   have c3 := hc 3 (by omega)
   simp only [mkDF, hv, Nat.add_zero, ← Nat.add_assoc, List.getD_cons_zero, List.getD_cons_succ] at c0 c1 c2 c3;clear hc;have R1 := h.logs i hlt
   have hR : paM 3 2 K k L n i = marks6 (kE 3 K k i + 2) (K i).2.1 := by unfold paM;rw [if_pos hlt]
   rw [hR] at R1;clear hR
   have hq0 := Int.le_trans hk0 (kE_ge (t := 3) (by omega) K k i)
   have hq1 := kE_le (t := 3) (by omega) (by omega) K k HK.out i (by omega)
   have hq2 : kE 3 K k i ≤ 200000000000000 := by omega
   have hm := HK.out i hlt
   have e4 : kE 3 K k i + 2 + 6 * ((K i).2.1 : Int) + 1 = kE 3 K k (i + 1) := by simp only [kE];omega
   have HE4 : Hid _ := e4
   clear e4 hq1;generalize hq : kE 3 K k i = q at *;clear hq
   have r0 : Int.tmod q 3 = q % 3 := Int.tmod_eq_emod_of_nonneg (by omega)
   have u0 : IntKind.i64.wrap (q % 3) = q % 3 := wrapI_same _ (by omega)
   have v1 : IntKind.i64.wrap (q + 1) = q + 1 := wrapI_same _ (by omega)
   have v2 : IntKind.i64.wrap (q + 2) = q + 2 := wrapI_same _ (by omega)
   have a2 : q + 1 + 1 = q + 2 := by omega
   have d0 : ((q % 3 == 0) != (q % 3 == 0)) = false := by simp
   have d1 : ((q + 1) != (q + 1)) = false := by simp
   have hl : (i : Int) < n := by omega
   generalize hKi : K i = kk at *
   obtain ⟨ka, km, kc⟩ := kk
   simp only at c2 c3 R1 hm HE4
   clear hKi
   have dl : ¬ q + 2 + 6 * (km : Int) < 0 := by omega
   have dp : ((q + 2 + 6 * (km : Int)) != (q + 2 + 6 * (km : Int))) = false := by simp
   have w5 : IntKind.i64.wrap (q + 2 + 6 * (km : Int) + 1) = q + 2 + 6 * (km : Int) + 1 := wrapI_same _ (by omega)
   go_wp2_with fail
   refine (heldEntries_any ka km kc (q + 2) _ R1 (by omega) (by omega) (by omega)).mono ?_
   rintro e W9 ⟨rfl, rfl⟩;go_wp2
   go_round
   case rel => exact ⟨i + 1, by omega, by go_num, by rw [← HE4.out]⟩
   case measure => simp [intOf];omega
  ·have hjn : i = n := by omega
   subst hjn;go_wp2;go_ret;exact ⟨rfl, rfl⟩
structure PlAt (w : World) (o : Bool) (lo hi : Nat) (av : Option Addr) (nv cv : Nat) (ac : Option Addr) (nc cc : Nat) (ah : Option Addr) (nh ch : Nat) (vs ce : List Vo) (sh : List Int) : Prop where
 vol : RowAt w o lo hi 3 av nv cv (trips vs)
 cel : RowAt w o lo hi 3 ac nc cc (trips ce)
 sha : RowAt w o lo hi 1 ah nh ch (ints sh)
structure SetC (w W : World) (b k : Nat) (v : Value) : Prop where
 kept : Kept b (b + 1) w W
 cell : W.cell? ⟨b, k, none⟩ = some v
 fr : ∀ {q i : Nat}, w.frozen? ⟨q, i, none⟩ = false → W.frozen? ⟨q, i, none⟩ = false
 oth : ∀ {q i : Nat} {u : Value}, w.cell? ⟨q, i, none⟩ = some u → (q ≠ b ∨ i ≠ k) → W.cell? ⟨q, i, none⟩ = some u
def sumStep (h x : Int) : Int := (h * 263 + x % 65521 + 1) % 65521
def sumOf (xs : List Int) : Int := xs.foldl sumStep 9
def lay : Nat → List (List Int) → List Int
 | _, [] => []
 | k, r :: rs => (r.length : Int) :: sumOf ((k : Int) :: r) :: (r ++ lay (k + 1) rs)
def okRec (r : List Int) : Prop := 1 ≤ r.length ∧ r.length ≤ 8
def Scanned (ws : List Int) (a : Nat) (out : List (List Int)) : Prop := ws.take a = lay 0 out ∧ a ≤ ws.length ∧ ∀ r ∈ out, okRec r
structure RecsAt (w : World) (lo : Nat) (vs : List Value) (rs : List (List Int)) : Prop where
 len : vs.length = rs.length
 each : ∀ i, i < rs.length → ∃ (a : Option Addr) (n c l u : Nat), vs.getD i default = .slice a n c ∧ lo ≤ l ∧ u ≤ w.heap.size ∧ RowAt w true l u 1 a n c (ints (rs.getD i []))
structure RecsBut (w : World) (lo : Nat) (b : Option Nat) (vs : List Value) (rs : List (List Int)) : Prop where
 len : vs.length = rs.length
 each : ∀ i, i < rs.length → ∃ (g n c : Nat), vs.getD i default = .slice (some ⟨g, 0, none⟩) n c ∧ b ≠ some g ∧ lo ≤ g ∧ g < w.heap.size ∧ RowAt w true g (g + 1) 1 (some ⟨g, 0, none⟩) n c (ints (rs.getD i []))
structure Told (w : World) (pb : Nat) (n : Nat) (xs : List Int) : Prop where
 lt : pb < w.heap.size
 ok : ∃ v, w.cell? ⟨pb, 0, none⟩ = some v ∧ w.ownsRow (pb + 1) 2 1 v n (ints xs)
 fr : w.frozen? ⟨pb, 0, none⟩ = false
end Go.Proofs.YtclghfoinologaaGreat
