/- Chapter 9: mails marked by the laws: plain. -/
import Derived.Test.YtclghfoinologaaGreatWH
set_option maxRecDepth 20000
set_option maxHeartbeats 16000000
namespace Go.Proofs.YtclghfoinologaaGreat
open Go.RowKit
def mkMF (K : Nat → Hd) (k : Int) (i c : Nat) : Value := [.int .i64 (kE 14 K k i), .int .i64 (kE 14 K k i + 1), .int .i64 (kE 14 K k i + 2), .int .i64 (kE 14 K k i + 3), .int .i64 (kE 14 K k i + 4), .bool ((kE 14 K k i + 5) % 3 == 0), .int .i64 (kE 14 K k i + 6), .int .i64 (kE 14 K k i + 7), .int .i64 (kE 14 K k i + 8), .int .i64 (kE 14 K k i + 9), .int .i64 (kE 14 K k i + 10), .int .i64 (kE 14 K k i + 11), .int .i64 (kE 14 K k i + 12), hv (K i), .int .i64 (kE 14 K k i + 13 + 6 * ((K i).2.1 : Int))].getD c default
theorem mails_pre {w : World} {lo hi n cap b off : Nat} {K : Nat → Hd} {F : Nat → Nat → Value} {L : Nat → List En} (h : ElsAt 15 w true lo hi (some ⟨b, off, none⟩) n cap F K L) {i : Nat} (hi' : i < n) (q : Int) : ElsAt 15 (((((((((((((w.setCell ⟨b, off + (i * 15 + 0), none⟩ (.int .i64 (q))).setCell ⟨b, off + (i * 15 + 1), none⟩ (.int .i64 (q + 1))).setCell ⟨b, off + (i * 15 + 2), none⟩ (.int .i64 (q + 2))).setCell ⟨b, off + (i * 15 + 3), none⟩ (.int .i64 (q + 3))).setCell ⟨b, off + (i * 15 + 4), none⟩ (.int .i64 (q + 4))).setCell ⟨b, off + (i * 15 + 5), none⟩ (.bool ((q + 5) % 3 == 0))).setCell ⟨b, off + (i * 15 + 6), none⟩ (.int .i64 (q + 6))).setCell ⟨b, off + (i * 15 + 7), none⟩ (.int .i64 (q + 7))).setCell ⟨b, off + (i * 15 + 8), none⟩ (.int .i64 (q + 8))).setCell ⟨b, off + (i * 15 + 9), none⟩ (.int .i64 (q + 9))).setCell ⟨b, off + (i * 15 + 10), none⟩ (.int .i64 (q + 10))).setCell ⟨b, off + (i * 15 + 11), none⟩ (.int .i64 (q + 11))).setCell ⟨b, off + (i * 15 + 12), none⟩ (.int .i64 (q + 12))) true lo hi (some ⟨b, off, none⟩) n cap (updF (updF (updF (updF (updF (updF (updF (updF (updF (updF (updF (updF (updF (F) i 0 (.int .i64 (q))) i 1 (.int .i64 (q + 1))) i 2 (.int .i64 (q + 2))) i 3 (.int .i64 (q + 3))) i 4 (.int .i64 (q + 4))) i 5 (.bool ((q + 5) % 3 == 0))) i 6 (.int .i64 (q + 6))) i 7 (.int .i64 (q + 7))) i 8 (.int .i64 (q + 8))) i 9 (.int .i64 (q + 9))) i 10 (.int .i64 (q + 10))) i 11 (.int .i64 (q + 11))) i 12 (.int .i64 (q + 12))) K L := by
 exact (((((((((((((h.store (i := i) (j := 0) hi' (by omega) _).store (i := i) (j := 1) hi' (by omega) _).store (i := i) (j := 2) hi' (by omega) _).store (i := i) (j := 3) hi' (by omega) _).store (i := i) (j := 4) hi' (by omega) _).store (i := i) (j := 5) hi' (by omega) _).store (i := i) (j := 6) hi' (by omega) _).store (i := i) (j := 7) hi' (by omega) _).store (i := i) (j := 8) hi' (by omega) _).store (i := i) (j := 9) hi' (by omega) _).store (i := i) (j := 10) hi' (by omega) _).store (i := i) (j := 11) hi' (by omega) _).store (i := i) (j := 12) hi' (by omega) _)
theorem mails_more {n : Nat} {K : Nat → Hd} {F : Nat → Nat → Value} {k : Int} {i : Nat} (hF : F i 13 = hv (K i)) : ∀ a c, a < n → c < 15 → (updF (updF (updF (updF (updF (updF (updF (updF (updF (updF (updF (updF (updF (updF (paG (mkMF K k) F i) i 0 (.int .i64 ((kE 14 K k i)))) i 1 (.int .i64 ((kE 14 K k i) + 1))) i 2 (.int .i64 ((kE 14 K k i) + 2))) i 3 (.int .i64 ((kE 14 K k i) + 3))) i 4 (.int .i64 ((kE 14 K k i) + 4))) i 5 (.bool (((kE 14 K k i) + 5) % 3 == 0))) i 6 (.int .i64 ((kE 14 K k i) + 6))) i 7 (.int .i64 ((kE 14 K k i) + 7))) i 8 (.int .i64 ((kE 14 K k i) + 8))) i 9 (.int .i64 ((kE 14 K k i) + 9))) i 10 (.int .i64 ((kE 14 K k i) + 10))) i 11 (.int .i64 ((kE 14 K k i) + 11))) i 12 (.int .i64 ((kE 14 K k i) + 12))) i 14 (.int .i64 (kE 14 K k i + 13 + 6 * ((K i).2.1 : Int)))) a c = paG (mkMF K k) F (i + 1) a c := fun a c _ hc => by
 by_cases e : a = i
 ·subst e
  have hp : paG (mkMF K k) F a a 13 = hv (K a) := by unfold paG;rw [if_neg (Nat.lt_irrefl _)];exact hF
  have hq : ∀ c, paG (mkMF K k) F (a + 1) a c = mkMF K k a c := fun c => by unfold paG;rw [if_pos (by omega)]
  rw [hq]
  rcases (by omega : c = 0 ∨ c = 1 ∨ c = 2 ∨ c = 3 ∨ c = 4 ∨ c = 5 ∨ c = 6 ∨ c = 7 ∨ c = 8 ∨ c = 9 ∨ c = 10 ∨ c = 11 ∨ c = 12 ∨ c = 13 ∨ c = 14) with rfl | rfl | rfl | rfl | rfl | rfl | rfl | rfl | rfl | rfl | rfl | rfl | rfl | rfl | rfl
  all_goals simp only [updF_in]
  all_goals first | rfl | exact hp
 ·have : (a < i + 1) = (a < i) := by simp;omega
  simp only [updF, e, false_and, if_false, paG, this]
theorem heldMailS_any {o : Bool} {lo hi : Nat} (ao : Option Addr) (n cap : Nat) (K : Nat → Hd) (L : Nat → List En) (k : Int) (w : World) (h : ElsAt 15 w o lo hi ao n cap (mkMF K k) K (paM 14 13 K k L n)) (hn : n ≤ 2097152) (hK : ∀ i, i < n → (K i).2.1 ≤ 2097152) (hk0 : 0 ≤ k) (hk1 : k ≤ 100000000000000) :
  Calls Tryz.prog 73 #[.slice ao n cap, .int .i64 k] w fun e w' => e = .returned (.int .i64 (kE 14 K k n)) ∧ w' = w := by
 have HK : Hid _ := hK
 clear hK
 go_enter Tryz.func73, Tryz.ntmps73
 go_wp2
 go_loop [1, 5] (fun v j => ∃ i : Nat, i ≤ n ∧ j = .int .i64 i ∧ v = .int .i64 (kE 14 K k i)) (fun _ j => n - (intOf j).toNat)
 case atStart => exact ⟨0, Nat.zero_le _, rfl, rfl⟩
 case round =>
  obtain ⟨i, hi, rfl, rfl⟩ := hrel
  by_cases hlt : i < n
  ·obtain ⟨b, off, rfl, hlo, hhi, hbs, hc, _⟩ := h.el hlt (by omega)
   have c0 := hc 0 (by omega)
   have c1 := hc 1 (by omega)
   have c2 := hc 2 (by omega)
   have c3 := hc 3 (by omega)
   have c4 := hc 4 (by omega)
   have c5 := hc 5 (by omega)
   have c6 := hc 6 (by omega)
   have c7 := hc 7 (by omega)
   have c8 := hc 8 (by omega)
   have c9 := hc 9 (by omega)
   have c10 := hc 10 (by omega)
   have c11 := hc 11 (by omega)
   have c12 := hc 12 (by omega)
   have c13 := hc 13 (by omega)
   have c14 := hc 14 (by omega)
   simp only [mkMF, hv, Nat.add_zero, ← Nat.add_assoc, List.getD_cons_zero, List.getD_cons_succ] at c0 c1 c2 c3 c4 c5 c6 c7 c8 c9 c10 c11 c12 c13 c14;clear hc;have R1 := h.logs i hlt
   have hR : paM 14 13 K k L n i = marks6 (kE 14 K k i + 13) (K i).2.1 := by unfold paM;rw [if_pos hlt]
   rw [hR] at R1;clear hR
   have hq0 := Int.le_trans hk0 (kE_ge (t := 14) (by omega) K k i)
   have hq1 := kE_le (t := 14) (by omega) (by omega) K k HK.out i (by omega)
   have hq2 : kE 14 K k i ≤ 200000000000000 := by omega
   have hm := HK.out i hlt
   have e4 : kE 14 K k i + 13 + 6 * ((K i).2.1 : Int) + 1 = kE 14 K k (i + 1) := by simp only [kE];omega
   have HE4 : Hid _ := e4
   clear e4 hq1;generalize hq : kE 14 K k i = q at *;clear hq;generalize hKi : K i = kk at *
   obtain ⟨ka, km, kc⟩ := kk
   simp only at c13 c14 R1 hm HE4
   clear hKi
   have hQ3 : km ≤ 4194304 := by omega
   have dl : ¬ q + 13 + 6 * (km : Int) < 0 := by omega
   have dp : ((q + 13 + 6 * (km : Int)) != (q + 13 + 6 * (km : Int))) = false := by simp
   have w5 : IntKind.i64.wrap (q + 13 + 6 * (km : Int) + 1) = q + 13 + 6 * (km : Int) + 1 := wrapI_same _ (by omega)
   have hl : (i : Int) < n := by omega
   have hQ1 : 0 ≤ q + 13 := by omega
   have hQ2 : q + 13 ≤ 1000000000000000 := by omega
   have hQ4 : i + 1 ≤ n := hlt
   have HV : Hid (∀ j : Int, 0 ≤ j → j ≤ 20 → IntKind.i64.wrap (q + j) = q + j) := fun j _ _ => wrapI_same _ (by omega)
   have r5 : Int.tmod (q + 5) 3 = (q + 5) % 3 := Int.tmod_eq_emod_of_nonneg (by omega)
   have u5 : IntKind.i64.wrap ((q + 5) % 3) = (q + 5) % 3 := wrapI_same _ (by omega)
   have v1 : IntKind.i64.wrap (q + 1) = q + 1 := HV.out 1 (by decide) (by decide)
   have v2 : IntKind.i64.wrap (q + 2) = q + 2 := HV.out 2 (by decide) (by decide)
   have v3 : IntKind.i64.wrap (q + 3) = q + 3 := HV.out 3 (by decide) (by decide)
   have v4 : IntKind.i64.wrap (q + 4) = q + 4 := HV.out 4 (by decide) (by decide)
   have v5 : IntKind.i64.wrap (q + 5) = q + 5 := HV.out 5 (by decide) (by decide)
   have v6 : IntKind.i64.wrap (q + 6) = q + 6 := HV.out 6 (by decide) (by decide)
   have v7 : IntKind.i64.wrap (q + 7) = q + 7 := HV.out 7 (by decide) (by decide)
   have v8 : IntKind.i64.wrap (q + 8) = q + 8 := HV.out 8 (by decide) (by decide)
   have v9 : IntKind.i64.wrap (q + 9) = q + 9 := HV.out 9 (by decide) (by decide)
   have v10 : IntKind.i64.wrap (q + 10) = q + 10 := HV.out 10 (by decide) (by decide)
   have v11 : IntKind.i64.wrap (q + 11) = q + 11 := HV.out 11 (by decide) (by decide)
   have v12 : IntKind.i64.wrap (q + 12) = q + 12 := HV.out 12 (by decide) (by decide)
   have v13 : IntKind.i64.wrap (q + 13) = q + 13 := HV.out 13 (by decide) (by decide)
   have a2 : q + 1 + 1 = q + 2 := Int.add_assoc q 1 1
   have a3 : q + 2 + 1 = q + 3 := Int.add_assoc q 2 1
   have a4 : q + 3 + 1 = q + 4 := Int.add_assoc q 3 1
   have a5 : q + 4 + 1 = q + 5 := Int.add_assoc q 4 1
   have a6 : q + 5 + 1 = q + 6 := Int.add_assoc q 5 1
   have a7 : q + 6 + 1 = q + 7 := Int.add_assoc q 6 1
   have a8 : q + 7 + 1 = q + 8 := Int.add_assoc q 7 1
   have a9 : q + 8 + 1 = q + 9 := Int.add_assoc q 8 1
   have a10 : q + 9 + 1 = q + 10 := Int.add_assoc q 9 1
   have a11 : q + 10 + 1 = q + 11 := Int.add_assoc q 10 1
   have a12 : q + 11 + 1 = q + 12 := Int.add_assoc q 11 1
   have a13 : q + 12 + 1 = q + 13 := Int.add_assoc q 12 1
   have d0 : (q != q) = false := by simp
   have d1 : ((q + 1) != (q + 1)) = false := by simp
   have d2 : ((q + 2) != (q + 2)) = false := by simp
   have d3 : ((q + 3) != (q + 3)) = false := by simp
   have d4 : ((q + 4) != (q + 4)) = false := by simp
   have d5 : (((q + 5) % 3 == 0) != ((q + 5) % 3 == 0)) = false := by simp
   have d6 : ((q + 6) != (q + 6)) = false := by simp
   have d7 : ((q + 7) != (q + 7)) = false := by simp
   have d8 : ((q + 8) != (q + 8)) = false := by simp
   have d9 : ((q + 9) != (q + 9)) = false := by simp
   have d10 : ((q + 10) != (q + 10)) = false := by simp
   have d11 : ((q + 11) != (q + 11)) = false := by simp
   have d12 : ((q + 12) != (q + 12)) = false := by simp
   go_wp2_with fail;refine (heldEntries_any ka km kc (q + 13) _ R1 hQ3 hQ1 hQ2).mono ?_;rintro e W9 ⟨rfl, rfl⟩;clear HV r5 u5 v1 v2 v3 v4 v5 v6 v7 v8 v9 v10 v11 v12 v13 a2 a3 a4 a5 a6 a7 a8 a9 a10 a11 a12 a13 d0 d1 d2 d3 d4 d5 d6 d7 d8 d9 d10 d11 d12 c0 c1 c2 c3 c4 c5 c6 c7 c8 c9 c10 c11 c12;go_wp2
   go_round
   case rel => exact ⟨i + 1, by omega, by go_num, by rw [← HE4.out]⟩
   case measure => simp [intOf];omega
  ·have hjn : i = n := by omega
   subst hjn;go_wp2;go_ret;exact ⟨rfl, rfl⟩
theorem markMailS_any {lo hi : Nat} (ao : Option Addr) (n cap : Nat) (K : Nat → Hd) (F : Nat → Nat → Value) (L : Nat → List En) (k : Int) (w : World) (h : ElsAt 15 w true lo hi ao n cap F K L) (hF : ∀ i, i < n → F i 13 = hv (K i)) (hn : n ≤ 2097152) (hK : ∀ i, i < n → (K i).2.1 ≤ 2097152) (hk0 : 0 ≤ k) (hk1 : k ≤ 100000000000000) :
  Calls Tryz.prog 35 #[.slice ao n cap, .int .i64 k] w fun e w' => e = .returned (.int .i64 (kE 14 K k n)) ∧ ElsAt 15 w' true lo hi ao n cap (mkMF K k) K (paM 14 13 K k L n) ∧ KeptS (inE ao n K) w w' := by
 have HK : Hid _ := hK
 have HF : Hid _ := hF
 clear hK hF
 go_enter Tryz.func35, Tryz.ntmps35
 go_wp2
 go_loopw [1, 5] (fun v j wr => ∃ i : Nat, i ≤ n ∧ j = .int .i64 i ∧ v = .int .i64 (kE 14 K k i) ∧ ElsAt 15 wr true lo hi ao n cap (paG (mkMF K k) F i) K (paM 14 13 K k L i) ∧ KeptS (inE ao n K) w wr) (fun _ j _ => n - (intOf j).toNat)
 case atStart => exact ⟨0, Nat.zero_le _, rfl, rfl, h.congr (fun a c _ _ => by simp [paG]) (fun a _ => by simp [paM]), KeptS.refl _ _⟩
 case round =>
  obtain ⟨i, hi, rfl, rfl, E, hS⟩ := hrel
  by_cases hlt : i < n
  ·obtain ⟨b, off, rfl, hlo, hhi, hbs, hc, hf⟩ := E.el hlt (by omega)
   have hpF : ∀ c, paG (mkMF K k) F i i c = F i c := fun c => by unfold paG;rw [if_neg (Nat.lt_irrefl _)]
   have c0 := hc 0 (by omega)
   have c1 := hc 1 (by omega)
   have c2 := hc 2 (by omega)
   have c3 := hc 3 (by omega)
   have c4 := hc 4 (by omega)
   have c5 := hc 5 (by omega)
   have c6 := hc 6 (by omega)
   have c7 := hc 7 (by omega)
   have c8 := hc 8 (by omega)
   have c9 := hc 9 (by omega)
   have c10 := hc 10 (by omega)
   have c11 := hc 11 (by omega)
   have c12 := hc 12 (by omega)
   have c13 := hc 13 (by omega)
   have c14 := hc 14 (by omega)
   have f0 := hf rfl 0 (by omega)
   have f1 := hf rfl 1 (by omega)
   have f2 := hf rfl 2 (by omega)
   have f3 := hf rfl 3 (by omega)
   have f4 := hf rfl 4 (by omega)
   have f5 := hf rfl 5 (by omega)
   have f6 := hf rfl 6 (by omega)
   have f7 := hf rfl 7 (by omega)
   have f8 := hf rfl 8 (by omega)
   have f9 := hf rfl 9 (by omega)
   have f10 := hf rfl 10 (by omega)
   have f11 := hf rfl 11 (by omega)
   have f12 := hf rfl 12 (by omega)
   have f13 := hf rfl 13 (by omega)
   have f14 := hf rfl 14 (by omega)
   rw [hpF] at c0 c1 c2 c3 c4 c5 c6 c7 c8 c9 c10 c11 c12 c13 c14;clear hpF hc hf;rw [HF.out i hlt] at c13
   have hq0 := Int.le_trans hk0 (kE_ge (t := 14) (by omega) K k i)
   have hq1 := kE_le (t := 14) (by omega) (by omega) K k HK.out i (by omega)
   have hq2 : kE 14 K k i ≤ 200000000000000 := by omega
   have hm := HK.out i hlt;have E1 := mails_pre E hlt (kE 14 K k i)
   have KS1 : KeptS (inE (some ⟨b, off, none⟩) n K) w (((((((((((((wr.setCell ⟨b, off + (i * 15 + 0), none⟩ (.int .i64 (kE 14 K k i))).setCell ⟨b, off + (i * 15 + 1), none⟩ (.int .i64 (kE 14 K k i + 1))).setCell ⟨b, off + (i * 15 + 2), none⟩ (.int .i64 (kE 14 K k i + 2))).setCell ⟨b, off + (i * 15 + 3), none⟩ (.int .i64 (kE 14 K k i + 3))).setCell ⟨b, off + (i * 15 + 4), none⟩ (.int .i64 (kE 14 K k i + 4))).setCell ⟨b, off + (i * 15 + 5), none⟩ (.bool ((kE 14 K k i + 5) % 3 == 0))).setCell ⟨b, off + (i * 15 + 6), none⟩ (.int .i64 (kE 14 K k i + 6))).setCell ⟨b, off + (i * 15 + 7), none⟩ (.int .i64 (kE 14 K k i + 7))).setCell ⟨b, off + (i * 15 + 8), none⟩ (.int .i64 (kE 14 K k i + 8))).setCell ⟨b, off + (i * 15 + 9), none⟩ (.int .i64 (kE 14 K k i + 9))).setCell ⟨b, off + (i * 15 + 10), none⟩ (.int .i64 (kE 14 K k i + 10))).setCell ⟨b, off + (i * 15 + 11), none⟩ (.int .i64 (kE 14 K k i + 11))).setCell ⟨b, off + (i * 15 + 12), none⟩ (.int .i64 (kE 14 K k i + 12))) := by
    have hin : inE (some ⟨b, off, none⟩) n K b := Or.inl ⟨by omega, rfl⟩
    exact (((((((((((((hS.setCell (p := ⟨b, off + (i * 15 + 0), none⟩) hin _).setCell (p := ⟨b, off + (i * 15 + 1), none⟩) hin _).setCell (p := ⟨b, off + (i * 15 + 2), none⟩) hin _).setCell (p := ⟨b, off + (i * 15 + 3), none⟩) hin _).setCell (p := ⟨b, off + (i * 15 + 4), none⟩) hin _).setCell (p := ⟨b, off + (i * 15 + 5), none⟩) hin _).setCell (p := ⟨b, off + (i * 15 + 6), none⟩) hin _).setCell (p := ⟨b, off + (i * 15 + 7), none⟩) hin _).setCell (p := ⟨b, off + (i * 15 + 8), none⟩) hin _).setCell (p := ⟨b, off + (i * 15 + 9), none⟩) hin _).setCell (p := ⟨b, off + (i * 15 + 10), none⟩) hin _).setCell (p := ⟨b, off + (i * 15 + 11), none⟩) hin _).setCell (p := ⟨b, off + (i * 15 + 12), none⟩) hin _)
   have MO := mails_more (n := n) (k := k) (HF.out i hlt)
   have HMO : Hid _ := MO
   have HEx : Hid (paM 14 13 K k L i i = L i) := by show _ = _;unfold paM;rw [if_neg (Nat.lt_irrefl _)]
   have R1 := E1.logs i hlt
   obtain ⟨b1, o1, e1, _, _, hb1, hc1, hf1⟩ := E1.el hlt (by omega)
   simp only [Option.some.injEq, Addr.mk.injEq, and_true] at e1
   obtain ⟨rfl, rfl⟩ := e1
   have g3 := hc1 14 (by omega)
   have y3 := hf1 rfl 14 (by omega)
   clear hc1 hf1
   have hsep : ¬ inR (K i).1 (K i).2.1 b := fun z => (E1.sep rfl i hlt z.1).1 z.2.symm
   have HSEP : Hid _ := hsep
   have HB1 : Hid _ := hb1
   have HG3 : Hid _ := g3
   have HY3 : Hid _ := y3
   have HE1 : Hid _ := E1
   have HK1 : Hid _ := KS1
   have HR1 : Hid _ := R1
   have e4 : kE 14 K k i + 13 + 6 * ((K i).2.1 : Int) + 1 = kE 14 K k (i + 1) := by simp only [kE];omega
   have HE4 : Hid _ := e4
   clear hsep hb1 g3 y3 E1 KS1 R1 MO e4 E hS hq1;simp only [hv] at c13;generalize hq : kE 14 K k i = q at *
   have HQ : Hid _ := hq
   clear hq;simp only [Nat.add_zero, ← Nat.add_assoc] at c0 c1 c2 c3 c4 c5 c6 c7 c8 c9 c10 c11 c12 c13 c14 f0 f1 f2 f3 f4 f5 f6 f7 f8 f9 f10 f11 f12 f13 f14 HE1 HK1 HR1 HG3 HY3 HB1
   have hQ3 : (K i).2.1 ≤ 4194304 := by omega
   have hl : (i : Int) < n := by omega
   have hQ1 : 0 ≤ q + 13 := by omega
   have hQ2 : q + 13 ≤ 1000000000000000 := by omega
   have hQ4 : i + 1 ≤ n := hlt
   have HV : Hid (∀ j : Int, 0 ≤ j → j ≤ 20 → IntKind.i64.wrap (q + j) = q + j) := fun j _ _ => wrapI_same _ (by omega)
   have r5 : Int.tmod (q + 5) 3 = (q + 5) % 3 := Int.tmod_eq_emod_of_nonneg (by omega)
   have u5 : IntKind.i64.wrap ((q + 5) % 3) = (q + 5) % 3 := wrapI_same _ (by omega)
   have v1 : IntKind.i64.wrap (q + 1) = q + 1 := HV.out 1 (by decide) (by decide)
   have v2 : IntKind.i64.wrap (q + 2) = q + 2 := HV.out 2 (by decide) (by decide)
   have v3 : IntKind.i64.wrap (q + 3) = q + 3 := HV.out 3 (by decide) (by decide)
   have v4 : IntKind.i64.wrap (q + 4) = q + 4 := HV.out 4 (by decide) (by decide)
   have v5 : IntKind.i64.wrap (q + 5) = q + 5 := HV.out 5 (by decide) (by decide)
   have v6 : IntKind.i64.wrap (q + 6) = q + 6 := HV.out 6 (by decide) (by decide)
   have v7 : IntKind.i64.wrap (q + 7) = q + 7 := HV.out 7 (by decide) (by decide)
   have v8 : IntKind.i64.wrap (q + 8) = q + 8 := HV.out 8 (by decide) (by decide)
   have v9 : IntKind.i64.wrap (q + 9) = q + 9 := HV.out 9 (by decide) (by decide)
   have v10 : IntKind.i64.wrap (q + 10) = q + 10 := HV.out 10 (by decide) (by decide)
   have v11 : IntKind.i64.wrap (q + 11) = q + 11 := HV.out 11 (by decide) (by decide)
   have v12 : IntKind.i64.wrap (q + 12) = q + 12 := HV.out 12 (by decide) (by decide)
   have v13 : IntKind.i64.wrap (q + 13) = q + 13 := HV.out 13 (by decide) (by decide)
   have a2 : q + 1 + 1 = q + 2 := Int.add_assoc q 1 1
   have a3 : q + 2 + 1 = q + 3 := Int.add_assoc q 2 1
   have a4 : q + 3 + 1 = q + 4 := Int.add_assoc q 3 1
   have a5 : q + 4 + 1 = q + 5 := Int.add_assoc q 4 1
   have a6 : q + 5 + 1 = q + 6 := Int.add_assoc q 5 1
   have a7 : q + 6 + 1 = q + 7 := Int.add_assoc q 6 1
   have a8 : q + 7 + 1 = q + 8 := Int.add_assoc q 7 1
   have a9 : q + 8 + 1 = q + 9 := Int.add_assoc q 8 1
   have a10 : q + 9 + 1 = q + 10 := Int.add_assoc q 9 1
   have a11 : q + 10 + 1 = q + 11 := Int.add_assoc q 10 1
   have a12 : q + 11 + 1 = q + 12 := Int.add_assoc q 11 1
   have a13 : q + 12 + 1 = q + 13 := Int.add_assoc q 12 1
   go_wp2_with fail;refine (markEntries_any _ _ _ _ (q + 13) _ HR1.out.pinR hQ3 hQ1 hQ2).mono ?_;rintro e w1 ⟨rfl, R2, K2⟩;clear HV r5 u5 v1 v2 v3 v4 v5 v6 v7 v8 v9 v10 v11 v12 v13 a2 a3 a4 a5 a6 a7 a8 a9 a10 a11 a12 a13;have KS2 := Kept.pinR K2;have E2 := HE1.out.log hlt (marks6 (q + 13) (K i).2.1) KS2 (HR1.out.repin R2)
   have KS3 := HK1.out.trans (KS2.mono (fun z hz => Or.inr ⟨i, hlt, hz⟩))
   have z3 := KS2.cell HG3.out HB1.out HSEP.out;have x3 := KS2.frozen HY3.out HB1.out HSEP.out
   have E3 := E2.store (i := i) (j := 14) hlt (by omega) (.int .i64 (q + 13 + 6 * ((K i).2.1 : Int)))
   have KS4 := KS3.setCell (p := ⟨b, off + (i * 15 + 14), none⟩) (Or.inl ⟨by omega, rfl⟩) (.int .i64 (q + 13 + 6 * ((K i).2.1 : Int)))
   have E4 := E3.congr HMO.out (M := paM 14 13 K k L (i + 1)) (fun a _ => by
    unfold paM
    by_cases e : a = i
    ·subst e;rw [if_pos rfl, if_pos (by omega), HQ.out]
    ·rw [if_neg e]
     by_cases e2 : a < i
     ·rw [if_pos e2, if_pos (by omega)]
     ·rw [if_neg e2, if_neg (by omega)])
   have HE5 : Hid _ := E4
   have HK5 : Hid _ := KS4
   clear R2 K2 KS2 E2 KS3 E3 KS4 E4 HG3 HY3 HE1 HK1 HR1 c0 c1 c2 c3 c4 c5 c6 c7 c8 c9 c10 c11 c12 c13 c14 f0 f1 f2 f3 f4 f5 f6 f7 f8 f9 f10 f11 f12 f13 f14;simp only [← Nat.add_assoc] at z3 x3 HE5 HK5;generalize hzz : (K i).2.1 = km at *
   have w5 : IntKind.i64.wrap (q + 13 + 6 * (km : Int) + 1) = q + 13 + 6 * (km : Int) + 1 := wrapI_same _ (by omega)
   go_wp2
   go_roundw
   case rel => exact ⟨i + 1, by omega, by go_num, by rw [← HE4.out], HE5.out, HK5.out⟩
   case measure => simp [intOf];omega
  ·have hjn : i = n := by omega
   subst hjn;go_wp2;go_ret
   refine ⟨rfl, E.congr (fun a c ha _ => by simp [paG, ha]) (fun _ _ => rfl), hS⟩
def marksB (k : Int) (n : Nat) : List Bool := (List.range n).map fun j : Nat => (k + (j : Int)) % 3 == 0
theorem marksB_len (k : Int) (n : Nat) : (marksB k n).length = n := by simp [marksB]
theorem marksB_getD (k : Int) (n j : Nat) (h : j < n) : (marksB k n).getD j false = ((k + (j : Int)) % 3 == 0) := by simp [marksB, List.getD, h]
def mkB (bs : List Bool) (k : Int) (i : Nat) : List Bool := marksB k i ++ bs.drop i
theorem mkB_set (bs : List Bool) (k : Int) (i : Nat) (h : i < bs.length) : (mkB bs k i).set i ((k + (i : Int)) % 3 == 0) = mkB bs k (i + 1) := by
 unfold mkB
 rw [List.set_append, if_neg (by rw [marksB_len];omega), marksB_len, Nat.sub_self, List.drop_eq_getElem_cons h, List.set_cons_zero]
 simp [marksB, List.range_succ]
theorem mkB_zero (bs : List Bool) (k : Int) : mkB bs k 0 = bs := by simp [mkB, marksB]
theorem mkB_all (bs : List Bool) (k : Int) : mkB bs k bs.length = marksB k bs.length := by simp [mkB]
theorem RowAt.nBls {w : World} {own : Bool} {lo hi : Nat} {ao : Option Addr} {n cap : Nat} {bs : List Bool} (h : RowAt w own lo hi 1 ao n cap (bls bs)) : bs.length = n := by have := h.len; rw [bls_length] at this; omega
theorem markBools_m {lo hi : Nat} (ao : Option Addr) (n cap : Nat) (bs : List Bool) (k : Int) (w : World) (h : RowAt w true lo hi 1 ao n cap (bls bs)) (hn : n ≤ 4194304) (hk0 : 0 ≤ k) (hk1 : k ≤ 33554432) :
  Calls Tryz.prog 70 #[.slice ao n cap, .int .i64 k] w fun e w' => e = .returned (.int .i64 (k + n)) ∧ RowAt w' true lo hi 1 ao n cap (bls (marksB k n)) ∧ Kept lo hi w w' := by
 have hx := h.nBls
 go_enter Tryz.func70, Tryz.ntmps70
 go_wp2
 go_loopw [1, 5] (fun v i wr => ∃ j : Nat, j ≤ n ∧ i = .int .i64 j ∧ v = .int .i64 (k + j) ∧ RowAt wr true lo hi 1 ao n cap (bls (mkB bs k j)) ∧ Kept lo hi w wr) (fun _ i _ => n - (intOf i).toNat)
 case atStart => exact ⟨0, Nat.zero_le _, rfl, by simp, by rw [mkB_zero];exact h, Kept.refl _ _ _⟩
 case round =>
  obtain ⟨j, hj, rfl, rfl, R, hK⟩ := hrel
  by_cases hlt : j < n
  ·obtain ⟨b, off, rfl, hlo, hhi, hbs, hc, hf0⟩ := R.bool hlt
   have hf := hf0 rfl;have R2 := R.boolSet (i := j) hlt ((k + (j : Int)) % 3 == 0)
   rw [mkB_set bs k j (by omega)] at R2
   have K2 : Kept lo hi w (wr.setCell ⟨b, off + j, none⟩ (.bool ((k + (j : Int)) % 3 == 0))) := hK.setCell (p := ⟨b, off + j, none⟩) hlo hhi _
   have hl : (j : Int) < n := by omega
   clear R hf0 hK
   have r0 : Int.tmod (k + (j : Int)) 3 = (k + (j : Int)) % 3 := Int.tmod_eq_emod_of_nonneg (by omega)
   have u0 : IntKind.i64.wrap ((k + (j : Int)) % 3) = (k + (j : Int)) % 3 := wrapI_same _ (by omega)
   generalize (mkB bs k j).getD j false = old at *;go_wp2
   go_roundw
   case rel => exact ⟨j + 1, by omega, by go_num, by simp;omega, R2, K2⟩
   case measure => simp [intOf];omega
  ·have hjn : j = n := by omega
   subst hjn;rw [← hx, mkB_all] at R;go_wp2;go_ret
   exact ⟨rfl, by rw [← hx];exact R, hK⟩
theorem heldBools_any {o : Bool} {lo hi : Nat} (ao : Option Addr) (n cap : Nat) (k : Int) (w : World) (h : RowAt w o lo hi 1 ao n cap (bls (marksB k n))) (hn : n ≤ 4194304) (hk0 : 0 ≤ k) (hk1 : k ≤ 33554432) :
  Calls Tryz.prog 111 #[.slice ao n cap, .int .i64 k] w fun e w' => e = .returned (.int .i64 (k + n)) ∧ w' = w := by
 go_enter Tryz.func111, Tryz.ntmps111
 go_wp2
 go_loop [1, 5] (fun v i => ∃ j : Nat, j ≤ n ∧ i = .int .i64 j ∧ v = .int .i64 (k + j)) (fun _ i => n - (intOf i).toNat)
 case atStart => exact ⟨0, Nat.zero_le _, rfl, by simp⟩
 case round =>
  obtain ⟨j, hj, rfl, rfl⟩ := hrel
  by_cases hlt : j < n
  ·obtain ⟨b, off, rfl, hlo, hhi, hbs, hc, hf0⟩ := h.bool hlt
   rw [marksB_getD k n j hlt] at hc
   have r0 : Int.tmod (k + (j : Int)) 3 = (k + (j : Int)) % 3 := Int.tmod_eq_emod_of_nonneg (by omega)
   have u0 : IntKind.i64.wrap ((k + (j : Int)) % 3) = (k + (j : Int)) % 3 := wrapI_same _ (by omega)
   have he : (((k + (j : Int)) % 3 == 0) != ((k + (j : Int)) % 3 == 0)) = false := by simp
   have hl : (j : Int) < n := by omega
   clear hf0;go_wp2
   go_round
   case rel => exact ⟨j + 1, by omega, by go_num, by simp;omega⟩
   case measure => simp [intOf];omega
  ·have hjn : j = n := by omega
   subst hjn;go_wp2;go_ret;exact ⟨rfl, rfl⟩
def mkO (h : RH) (k : Int) : Int := k + 6 * (h.L.2.1 : Int)
def mkA (h : RH) (k : Int) : Int := mkO h k + h.O.2.1
def mkD (h : RH) (k : Int) : Int := mkA h k + h.A.2.1
def mkEnd (h : RH) (k : Int) : Int := kE 3 h.K (mkD h k) h.D.2.1
structure MarkAt (w : World) (o : Bool) (lo hi : Nat) (h : RH) (k : Int) : Prop where
 log : RowAt w o lo hi 6 h.L.1 h.L.2.1 h.L.2.2 (sixs (marks6 k h.L.2.1))
 oks : RowAt w o lo hi 1 h.O.1 h.O.2.1 h.O.2.2 (ints (marks (mkO h k) h.O.2.1))
 asks : RowAt w o lo hi 1 h.A.1 h.A.2.1 h.A.2.2 (bls (marksB (mkA h k) h.A.2.1))
 doers : ElsAt 4 w o lo hi h.D.1 h.D.2.1 h.D.2.2 (mkDF h.K (mkD h k)) h.K (paM 3 2 h.K (mkD h k) (fun _ => []) h.D.2.1)
theorem Sep.symm {S T : Nat → Prop} (h : Sep S T) : Sep T S := fun x a b => h x b a
theorem MailsAt.mailC {w : World} {own : Bool} {lo hi : Nat} {ao : Option Addr} {n cap : Nat} {K : Nat → Hd} {ms : List Ml} (h : MailsAt w own lo hi ao n cap K ms) {i : Nat} (hi' : i < n) :
  ∃ b off, ao = some ⟨b, off, none⟩ ∧ lo ≤ b ∧ b < hi ∧ b < w.heap.size ∧ (∀ j, j < 15 → w.cell? ⟨b, off + i * 15 + j, none⟩ = (mlV (K i) (ms.getD i ml0))[j]?) ∧ RowAt w own lo hi 6 (K i).1 (K i).2.1 (K i).2.2 (sixs (ms.getD i ml0).log) := by
 obtain ⟨b, off, e, h1, h2, h3, hc, _⟩ := h.els.el hi' (by omega)
 refine ⟨b, off, e, h1, h2, h3, fun j hj => ?_, h.els.logs i hi'⟩
 have := hc j hj
 rw [← Nat.add_assoc] at this
 rw [this, mlF, List.getD_eq_getElem?_getD, List.getElem?_eq_getElem (by simpa [mlV] using hj)]
 rfl
theorem eqMails_yes {o1 o2 : Bool} {l1 u1 l2 u2 : Nat} (a1 a2 : Option Addr) (n c1 m c2 : Nat) (K1 K2 : Nat → Hd) (ms : List Ml) (w : World) (h1 : MailsAt w o1 l1 u1 a1 n c1 K1 ms) (h2 : MailsAt w o2 l2 u2 a2 m c2 K2 ms) (hn : n ≤ 2097152) (hm : ∀ i, i < n → (K1 i).2.1 ≤ 2097152) :
  Calls Tryz.prog 32 #[.slice a1 n c1, .slice a2 m c2] w fun e w' => e = .returned (.bool true) ∧ Below w.heap.size w w' := by
 obtain rfl : n = m := by rw [← h1.len, ← h2.len]
 have hb0 : ((n : Int) != (n : Int)) = false := by simp
 have HM : Hid _ := hm
 clear hm
 go_enter Tryz.func32, Tryz.ntmps32
 go_wp2
 go_loopw [5] (fun i wr => ∃ k : Nat, k ≤ n ∧ i = .int .i64 k ∧ Below w.heap.size w wr) (fun i _ => n - (intOf i).toNat)
 case atStart => exact ⟨0, Nat.zero_le _, rfl, Below.refl _ _⟩
 case round =>
  obtain ⟨k, hk, rfl, hb⟩ := hrel
  by_cases hlt : k < n
  ·have hlk : (k : Int) < (n : Int) := by omega
   have D : Below wr.heap.size wr wr.drew := (Below.refl _ _).drew
   replace hb := below_next hb D;clear D
   obtain ⟨b1, f1, rfl, _, _, _, e1, g1⟩ := (h1.below hb).mailC hlt
   obtain ⟨b2, f2, rfl, _, _, _, e2, g2⟩ := (h2.below hb).mailC hlt
   have hmk := HM.out k hlt;generalize K1 k = q1 at *;generalize K2 k = q2 at *;generalize ms.getD k ml0 = d at *;unfold mlV hv at e1 e2
   have x0 := e1 0 (by decide)
   have x1 := e1 1 (by decide)
   have x2 := e1 2 (by decide)
   have x3 := e1 3 (by decide)
   have x4 := e1 4 (by decide)
   have x5 := e1 5 (by decide)
   have x6 := e1 6 (by decide)
   have x7 := e1 7 (by decide)
   have x8 := e1 8 (by decide)
   have x9 := e1 9 (by decide)
   have x10 := e1 10 (by decide)
   have x11 := e1 11 (by decide)
   have x12 := e1 12 (by decide)
   have x13 := e1 13 (by decide)
   have x14 := e1 14 (by decide)
   have y0 := e2 0 (by decide)
   have y1 := e2 1 (by decide)
   have y2 := e2 2 (by decide)
   have y3 := e2 3 (by decide)
   have y4 := e2 4 (by decide)
   have y5 := e2 5 (by decide)
   have y6 := e2 6 (by decide)
   have y7 := e2 7 (by decide)
   have y8 := e2 8 (by decide)
   have y9 := e2 9 (by decide)
   have y10 := e2 10 (by decide)
   have y11 := e2 11 (by decide)
   have y12 := e2 12 (by decide)
   have y13 := e2 13 (by decide)
   have y14 := e2 14 (by decide)
   simp only [List.getElem?_cons_zero, List.getElem?_cons_succ, Nat.add_zero] at x0 x1 x2 x3 x4 x5 x6 x7 x8 x9 x10 x11 x12 x13 x14 y0 y1 y2 y3 y4 y5 y6 y7 y8 y9 y10 y11 y12 y13 y14;clear e1 e2;go_wp2_with fail
   refine wp_region_held_drew (S := (fun w' => w'.cell? ⟨b1, f1 + k * 15, none⟩ = some (.int .i64 d.kind) ∧ w'.cell? ⟨b1, f1 + k * 15 + 1, none⟩ = some (.int .i64 d.fr) ∧ w'.cell? ⟨b1, f1 + k * 15 + 2, none⟩ = some (.int .i64 d.to) ∧ w'.cell? ⟨b1, f1 + k * 15 + 3, none⟩ = some (.int .i64 d.view) ∧ w'.cell? ⟨b1, f1 + k * 15 + 4, none⟩ = some (.int .i64 d.at_) ∧ w'.cell? ⟨b1, f1 + k * 15 + 5, none⟩ = some (.bool d.has) ∧ w'.cell? ⟨b1, f1 + k * 15 + 6, none⟩ = some (.int .i64 d.en.1) ∧ w'.cell? ⟨b1, f1 + k * 15 + 7, none⟩ = some (.int .i64 d.en.2.1) ∧ w'.cell? ⟨b1, f1 + k * 15 + 8, none⟩ = some (.int .i64 d.en.2.2.1) ∧ w'.cell? ⟨b1, f1 + k * 15 + 9, none⟩ = some (.int .i64 d.en.2.2.2.1) ∧ w'.cell? ⟨b1, f1 + k * 15 + 10, none⟩ = some (.int .i64 d.en.2.2.2.2.1) ∧ w'.cell? ⟨b1, f1 + k * 15 + 11, none⟩ = some (.int .i64 d.en.2.2.2.2.2) ∧ w'.cell? ⟨b1, f1 + k * 15 + 12, none⟩ = some (.int .i64 d.last) ∧ w'.cell? ⟨b1, f1 + k * 15 + 13, none⟩ = some (.slice q1.1 q1.2.1 q1.2.2) ∧ w'.cell? ⟨b1, f1 + k * 15 + 14, none⟩ = some (.int .i64 d.commit) ∧ w'.cell? ⟨b2, f2 + k * 15, none⟩ = some (.int .i64 d.kind) ∧ w'.cell? ⟨b2, f2 + k * 15 + 1, none⟩ = some (.int .i64 d.fr) ∧ w'.cell? ⟨b2, f2 + k * 15 + 2, none⟩ = some (.int .i64 d.to) ∧ w'.cell? ⟨b2, f2 + k * 15 + 3, none⟩ = some (.int .i64 d.view) ∧ w'.cell? ⟨b2, f2 + k * 15 + 4, none⟩ = some (.int .i64 d.at_) ∧ w'.cell? ⟨b2, f2 + k * 15 + 5, none⟩ = some (.bool d.has) ∧ w'.cell? ⟨b2, f2 + k * 15 + 6, none⟩ = some (.int .i64 d.en.1) ∧ w'.cell? ⟨b2, f2 + k * 15 + 7, none⟩ = some (.int .i64 d.en.2.1) ∧ w'.cell? ⟨b2, f2 + k * 15 + 8, none⟩ = some (.int .i64 d.en.2.2.1) ∧ w'.cell? ⟨b2, f2 + k * 15 + 9, none⟩ = some (.int .i64 d.en.2.2.2.1) ∧ w'.cell? ⟨b2, f2 + k * 15 + 10, none⟩ = some (.int .i64 d.en.2.2.2.2.1) ∧ w'.cell? ⟨b2, f2 + k * 15 + 11, none⟩ = some (.int .i64 d.en.2.2.2.2.2) ∧ w'.cell? ⟨b2, f2 + k * 15 + 12, none⟩ = some (.int .i64 d.last) ∧ w'.cell? ⟨b2, f2 + k * 15 + 13, none⟩ = some (.slice q2.1 q2.2.1 q2.2.2) ∧ w'.cell? ⟨b2, f2 + k * 15 + 14, none⟩ = some (.int .i64 d.commit))) (by kernel_rfl) ⟨x0, x1, x2, x3, x4, x5, x6, x7, x8, x9, x10, x11, x12, x13, x14, y0, y1, y2, y3, y4, y5, y6, y7, y8, y9, y10, y11, y12, y13, y14⟩ (fun hZq => ?_)
   refine tk 0 hZq ?_;refine tk 1 hZq ?_;refine tk 2 hZq ?_;refine tk 3 hZq ?_;refine tk 4 hZq ?_;refine tk 5 hZq ?_;refine tk 6 hZq ?_;refine tk 7 hZq ?_
   refine rd1 8 (fun KK hKK => ?_)
   go_simp
   go_at_call 67
   refine (eqMail_yes d q1 q2 _ g1 g2 hmk).mono ?_;rintro e w1 ⟨rfl, BB⟩;replace x0 := cell_later BB x0;replace x1 := cell_later BB x1;replace x2 := cell_later BB x2;replace x3 := cell_later BB x3;replace x4 := cell_later BB x4;replace x5 := cell_later BB x5;replace x6 := cell_later BB x6;replace x7 := cell_later BB x7;replace x8 := cell_later BB x8;replace x9 := cell_later BB x9;replace x10 := cell_later BB x10;replace x11 := cell_later BB x11;replace x12 := cell_later BB x12;replace x13 := cell_later BB x13;replace x14 := cell_later BB x14;replace y0 := cell_later BB y0;replace y1 := cell_later BB y1;replace y2 := cell_later BB y2;replace y3 := cell_later BB y3;replace y4 := cell_later BB y4;replace y5 := cell_later BB y5;replace y6 := cell_later BB y6;replace y7 := cell_later BB y7;replace y8 := cell_later BB y8;replace y9 := cell_later BB y9;replace y10 := cell_later BB y10;replace y11 := cell_later BB y11;replace y12 := cell_later BB y12;replace y13 := cell_later BB y13;replace y14 := cell_later BB y14;replace hb := below_next hb BB;clear BB g1 g2;clear hZq
   refine hKK _ _ ⟨x0, x1, x2, x3, x4, x5, x6, x7, x8, x9, x10, x11, x12, x13, x14, y0, y1, y2, y3, y4, y5, y6, y7, y8, y9, y10, y11, y12, y13, y14⟩ (fun hZq => ?_)
   clear hKK KK;refine tk 9 hZq ?_
   refine wpAnyH_done (by kernel_rfl) ?_ _
   clear x0 x1 x2 x3 x4 x5 x6 x7 x8 x9 x10 x11 x12 x13 x14 y0 y1 y2 y3 y4 y5 y6 y7 y8 y9 y10 y11 y12 y13 y14;go_wp2
   go_roundw
   case rel => exact ⟨k + 1, by omega, by go_num, hb⟩
   case measure => simp [intOf];omega
  ·obtain rfl : k = n := by omega
   go_wp2;go_ret;exact ⟨rfl, hb⟩
structure AnsAt (w : World) (own : Bool) (lo hi : Nat) (h : RH) (s : Hd) (Km : Nat → Hd) (r : Rep) (ms : List Ml) : Prop where
 rep : RepAt w own lo hi h r
 send : MailsAt w own lo hi s.1 s.2.1 s.2.2 Km ms
 sep : own = true → Sep (inRep h) (inE s.1 s.2.1 Km)
structure ASz (h : RH) (s : Hd) (Km : Nat → Hd) (m : Nat) : Prop where
 rep : RSz h m
 n : s.2.1 ≤ m
 K : ∀ i, i < s.2.1 → (Km i).2.1 ≤ m
def inAns (h : RH) (s : Hd) (Km : Nat → Hd) (k : Nat) : Prop := inRep h k ∨ inE s.1 s.2.1 Km k
section
variable {w w' : World} {own : Bool} {lo hi : Nat} {h : RH} {s : Hd} {Km : Nat → Hd} {r : Rep} {ms : List Ml}
theorem AnsAt.bare (x : RepAt w own lo hi h r) (a : Option Addr) (c : Nat) : AnsAt w own lo hi h (a, 0, c) Km r [] :=
 ⟨x, ⟨rfl, ElsAt.nil _ _ _ _ _ _ _ _ _ _⟩, fun _ k _ h2 => by rcases h2 with ⟨h0, _⟩ | ⟨i, hi, _⟩;exact h0 rfl;exact absurd hi (Nat.not_lt_zero _)⟩
theorem AnsAt.none (w : World) (own : Bool) (lo hi : Nat) : AnsAt w own lo hi ⟨(none, 0, 0), (none, 0, 0), (none, 0, 0), (none, 0, 0), fun _ => (none, 0, 0)⟩ (none, 0, 0) (fun _ => (none, 0, 0)) rep0 [] :=
 AnsAt.bare ⟨RowAt.nilR _ _ _ _ _ _ _, RowAt.nilR _ _ _ _ _ _ _, RowAt.nilR _ _ _ _ _ _ _, ⟨rfl, ElsAt.nil _ _ _ _ _ _ _ _ _ _⟩, fun _ => ⟨fun _ a => absurd rfl a.1, fun _ a => absurd rfl a.1, fun _ a => absurd rfl a.1, fun _ a => absurd rfl a.1, fun _ a => absurd rfl a.1, fun _ a => absurd rfl a.1⟩⟩ _ _
end
structure MAns (w : World) (o : Bool) (lo hi : Nat) (h : RH) (s : Hd) (Km : Nat → Hd) : Prop where
 rep : MarkAt w o lo hi h 1
 send : ElsAt 15 w o lo hi s.1 s.2.1 s.2.2 (mkMF Km (mkEnd h 1)) Km (paM 14 13 Km (mkEnd h 1) (fun _ => []) s.2.1)
end Go.Proofs.YtclghfoinologaaGreat
