/- What the draws answer of great numbers; what they pick. -/
import Derived.Test.YtlblbjebbecgbaaSB
namespace Go.Proofs.Ytlblbjebbecgbaa
open Go.RowKit

set_option maxRecDepth 20000 in
set_option maxHeartbeats 1000000 in
theorem l1Next_big {o : Bool} {lo hi : Nat} (ac : Option Addr) (nc cc : Nat) (bs : List Nat) (g p n : Nat) (w : World) (hs : SrcAt w g p ac nc cc) (hr : RowAt w o lo hi 1 ac nc cc (bys bs)) (hb : ∀ i, bs.getD i 0 < 256) (hd : hi ≤ g ∨ g < lo) (hp : p ≤ 100000) (hn0 : 200 < n) (hn : n ≤ 1000) (hc : nc ≤ 1048576) :
    Calls Try.prog 74 #[.pointer (some ⟨g, 0, none⟩), .int .i64 n] w fun e w' => ∃ v : Int, e = .returned (.int .i64 v) ∧ SrcAt w' g (p + 1) ac nc cc ∧ Kept g (g + 1) w w' ∧ w'.heap.size = w.heap.size := by
  have hN := hs.step
  unfold SrcAt at hs
  have K : Kept g (g + 1) w (w.setCell ⟨g, 1, none⟩ (.int .i64 ((p + 1 : Nat) : Int))) := Kept.setCell (p := ⟨g, 1, none⟩) (Kept.refl _ _ _) (Nat.le_refl _) (Nat.lt_succ_self _) _
  have hsz : (w.setCell ⟨g, 1, none⟩ (.int .i64 ((p + 1 : Nat) : Int))).heap.size = w.heap.size := by simp
  have HN : Hid (SrcAt _ g (p + 1) ac nc cc ∧ Kept g (g + 1) w _ ∧ _) := ⟨hN, K, hsz⟩
  clear hN hsz
  have c0 : w.cell? ⟨g, 0, none⟩ = some (.slice ac nc cc) := by rw [cell_of_row w _ 0 _ _ _ hs]; rfl
  have c1 : w.cell? ⟨g, 1, none⟩ = some (.int .i64 p) := by rw [cell_of_row w _ 1 _ _ _ hs]; rfl
  have f1 : w.frozen? ⟨g, 1, none⟩ = false := frozen_of_row w _ 1 _ _ hs
  have hx := hr.nBytes
  have hlt : ¬ ((n : Int) < 1) := by omega
  by_cases h0 : nc = 0
  · subst h0
    go_enter Try.func74, Try.ntmps74
    go_wp2
    go_ret
    first | exact ⟨⟨_, rfl⟩, HN.out⟩ | exact ⟨by trivial, HN.out⟩ | exact ⟨_, rfl, HN.out⟩
  · have hr2 := hr.kept K (by omega)
    obtain ⟨m, hm⟩ : ∃ m, p % nc = m := ⟨_, rfl⟩
    obtain ⟨q, hq⟩ : ∃ q, p / nc = q := ⟨_, rfl⟩
    have hm' : (p : Int) % (nc : Int) = (m : Int) := by rw [← hm]; rfl
    have hq' : (p : Int) / (nc : Int) = (q : Int) := by rw [← hq]; rfl
    have hk : m < nc := by rw [← hm]; exact Nat.mod_lt _ (by omega)
    have hq2 : q ≤ p := by rw [← hq]; exact Nat.div_le_self _ _
    obtain ⟨b, off, rfl, _, _, _, e1⟩ := hr2.byte hk
    obtain ⟨v, hv⟩ : ∃ v, bs.getD m 0 = v := ⟨_, rfl⟩
    have hv2 := hb m
    rw [hv] at e1 hv2
    have t0 : 0 ≤ (p : Int) % (nc : Int) := by omega
    have t1 : ¬ ((p : Int) % (nc : Int) < 0) := by omega
    have t2 : (p : Int) % (nc : Int) < nc := by omega
    have t5 : p % nc < nc := by omega
    have t6 : ((p % nc : Nat) : Int) < nc := by omega
    have t7 : (p : Int).tmod (nc : Int) = (m : Int) := by rw [Int.tmod_eq_emod_of_nonneg (by omega)]; exact hm'
    have t8 : (p : Int).tdiv (nc : Int) = (q : Int) := by rw [Int.tdiv_eq_ediv_of_nonneg (by omega)]; exact hq'
    have hk2 : (m : Int) < nc := by omega
    obtain ⟨m2, hm2⟩ : ∃ m2, (p + 1) % nc = m2 := ⟨_, rfl⟩
    have hm2' : ((p : Int) + 1) % (nc : Int) = (m2 : Int) := by rw [← hm2]; push_cast; rfl
    have hj : m2 < nc := by rw [← hm2]; exact Nat.mod_lt _ (by omega)
    have hj2 : (m2 : Int) < nc := by omega
    have t9 : ((p : Int) + 1).tmod (nc : Int) = (m2 : Int) := by rw [Int.tmod_eq_emod_of_nonneg (by omega)]; exact hm2'
    obtain ⟨_, _, e', _, _, _, e2⟩ := hr2.byte hj
    cases e'
    obtain ⟨v2, hv2'⟩ : ∃ v2, bs.getD m2 0 = v2 := ⟨_, rfl⟩
    have hv3 := hb m2
    rw [hv2'] at e2 hv3
    have h200 : (200 : Int) < n := by omega
    have u0 : 0 ≤ ((p : Int) + 1) % (nc : Int) := by omega
    have u1 : ¬ (((p : Int) + 1) % (nc : Int) < 0) := by omega
    have u2 : ((p : Int) + 1) % (nc : Int) < nc := by omega
    have u5 : (p + 1) % nc < nc := by omega
    have u6 : (((p + 1) % nc : Nat) : Int) < nc := by omega
    have q9 : IntKind.i64.wrap ((p : Int) + 1) = (p : Int) + 1 := wrapI_same _ (by omega)
    clear hv2' hv
    go_enter Try.func74, Try.ntmps74
    go_wp2
    have d0 : (w.setCell ⟨g, 1, none⟩ (.int .i64 ((p + 1 : Nat) : Int))).cell? ⟨g, 0, none⟩ = some (.slice (some ⟨b, off, none⟩) nc cc) := by
      rw [World.cell?_setCell_other _ _ _ _ (by intro e; simp at e)]; exact c0
    go_region_held3 (fun w' => w'.cell? ⟨g, 0, none⟩ = some (.slice (some ⟨b, off, none⟩) nc cc) ∧ w'.cell? ⟨b, off + m, none⟩ = some (.int .u8 v)) (exact ⟨d0, e1⟩) (fail)
    go_wp2
    go_region_held3 (fun w' => w'.cell? ⟨g, 0, none⟩ = some (.slice (some ⟨b, off, none⟩) nc cc) ∧ w'.cell? ⟨b, off + m2, none⟩ = some (.int .u8 v2)) (exact ⟨d0, e2⟩) (fail)
    go_wp2
    go_ret
    first | exact ⟨HN.out.1, ⟨HN.out.2.1.os, HN.out.2.1.tape, HN.out.2.1.output, HN.out.2.1.size, HN.out.2.1.block⟩, HN.out.2.2⟩ | exact ⟨_, rfl, HN.out.1, ⟨HN.out.2.1.os, HN.out.2.1.tape, HN.out.2.1.output, HN.out.2.1.size, HN.out.2.1.block⟩, HN.out.2.2⟩

section
variable {W : World} {g p : Nat} {ac : Option Addr} {nc cc : Nat} {bs : List Nat}
theorem big_sb (h : SB W g p ac nc cc bs) (n : Nat) {N : Int} (hN : N = (n : Int)) (hn0 : 200 < n) (hn : n ≤ 1000) (hp : p ≤ 100000) :
    Calls Try.prog 74 #[.pointer (some ⟨g, 0, none⟩), .int .i64 N] W fun e w' => ∃ v : Int, e = .returned (.int .i64 v) ∧ SB w' g (p + 1) ac nc cc bs ∧ Kept g (g + 1) W w' ∧ w'.heap.size = W.heap.size := by
  obtain ⟨o, lo, hi, r, d⟩ := h.row
  subst hN
  refine (l1Next_big ac nc cc bs g p n W h.src r h.byte d hp hn0 hn h.few).mono ?_
  rintro e w' ⟨v, rfl, s, k, z⟩
  exact ⟨v, rfl, h.move k s, k, z⟩
theorem pick_sb (h : SB W g p ac nc cc bs) (n : Nat) {N : Nat} (hN : N = n) (hn0 : 0 < n) (hn : n ≤ 200) (hp : p ≤ 100000) {o2 : Bool} {l2 u2 : Nat} (al : Option Addr) (cl : Nat) (zs : List Int) (hl : RowAt W o2 l2 u2 1 al n cl (ints zs)) (hd2 : u2 ≤ g ∨ g < l2) :
    Calls Try.prog 86 #[.pointer (some ⟨g, 0, none⟩), .slice al N cl] W fun e w' => ∃ v : Int, e = .returned (.int .i64 v) ∧ SB w' g (p + 1) ac nc cc bs ∧ Kept g (g + 1) W w' ∧ w'.heap.size = W.heap.size := by
  obtain ⟨o, lo, hi, r, d⟩ := h.row
  subst hN
  refine (l1Pick_any ac nc cc bs g p N W h.src r h.byte d hp hn0 hn h.few al cl zs hl hd2).mono ?_
  rintro e w' ⟨v, rfl, s, k, z⟩
  exact ⟨v, rfl, h.move k s, k, z⟩
end

end Go.Proofs.Ytlblbjebbecgbaa
