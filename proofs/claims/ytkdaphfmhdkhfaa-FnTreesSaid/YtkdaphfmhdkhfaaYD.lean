/- Where the draws stand; and what they answer. -/
import Derived.Test.YtkdaphfmhdkhfaaDrawB
import Derived.Test.YtkdaphfmhdkhfaaFacts
import Derived.Test.YtkdaphfmhdkhfaaP2
namespace Go.Proofs.Ytkdaphfmhdkhfaa
open Go.RowKit

/-- where the draws stand: the source and its bytes -/
structure SB (W : World) (g p : Nat) (ac : Option Addr) (nc cc : Nat) (bs : List Nat) : Prop where
  src : SrcAt W g p ac nc cc
  row : ∃ o lo hi, RowAt W o lo hi 1 ac nc cc (bys bs) ∧ (hi ≤ g ∨ g < lo)
  byte : ∀ i, bs.getD i 0 < 256
  few : nc ≤ 1048576
section
variable {W : World} {g p : Nat} {ac : Option Addr} {nc cc : Nat} {bs : List Nat}
theorem SB.move (h : SB W g p ac nc cc bs) {W' : World} {p' : Nat} (hk : Kept g (g + 1) W W') (hs : SrcAt W' g p' ac nc cc) : SB W' g p' ac nc cc bs := by
  obtain ⟨o, lo, hi, r, d⟩ := h.row
  exact ⟨hs, ⟨o, lo, hi, r.kept hk (by omega), d⟩, h.byte, h.few⟩
theorem SB.below (h : SB W g p ac nc cc bs) {W' : World} (hb : Below W.heap.size W W') : SB W' g p ac nc cc bs := h.move (Kept.of_below hb) (h.src.below hb)
theorem next_sb (h : SB W g p ac nc cc bs) (n : Nat) {N : Int} (hN : N = (n : Int)) (hn0 : 0 < n) (hn : n ≤ 200) (hp : p ≤ 100000) :
    Calls Try.prog 138 #[.pointer (some ⟨g, 0, none⟩), .int .i64 N] W fun e w' => ∃ v : Nat, v < n ∧ e = .returned (.int .i64 v) ∧ SB w' g (p + 1) ac nc cc bs ∧ Kept g (g + 1) W w' ∧ w'.heap.size = W.heap.size := by
  obtain ⟨o, lo, hi, r, d⟩ := h.row
  subst hN
  refine (l1Next_any ac nc cc bs g p n W h.src r h.byte d hp hn0 hn h.few).mono ?_
  rintro e w' ⟨v, hv, rfl, s, k, z⟩
  exact ⟨v, hv, rfl, h.move k s, k, z⟩
theorem chance_sb (h : SB W g p ac nc cc bs) (n : Nat) {N : Int} (hN : N = (n : Int)) (hn0 : 0 < n) (hn : n ≤ 200) (hp : p ≤ 100000) :
    Calls Try.prog 139 #[.pointer (some ⟨g, 0, none⟩), .int .i64 N] W fun e w' => ∃ b : Bool, e = .returned (.bool b) ∧ SB w' g (p + 1) ac nc cc bs ∧ Kept g (g + 1) W w' ∧ w'.heap.size = W.heap.size := by
  obtain ⟨o, lo, hi, r, d⟩ := h.row
  subst hN
  refine (l1Chance_any ac nc cc bs g p n W h.src r h.byte d hp hn0 hn h.few).mono ?_
  rintro e w' ⟨v, rfl, s, k, z⟩
  exact ⟨v, rfl, h.move k s, k, z⟩
theorem Kept.low {lo hi : Nat} {a w w' : World} (h : Kept lo hi a w) (hb : Below a.heap.size w w') : Kept lo hi a w' := ⟨hb.os.trans h.os, hb.tape.trans h.tape, hb.output.trans h.output, Nat.le_trans h.size hb.size, fun k hk hd => (hb.block k hk).trans (h.block k hk hd)⟩
theorem SrcAt.low {B : Nat} {w w' : World} (h : SrcAt w g p ac nc cc) (hb : Below B w w') (hg : g < B) : SrcAt w' g p ac nc cc := by unfold SrcAt; rw [hb.block g hg]; exact h
theorem SB.lt (h : SB W g p ac nc cc bs) : g < W.heap.size := h.src.lt
end


end Go.Proofs.Ytkdaphfmhdkhfaa

/- What the draws answer of great numbers; what they pick. -/
namespace Go.Proofs.Ytkdaphfmhdkhfaa
open Go.RowKit

set_option maxRecDepth 20000 in
set_option maxHeartbeats 1000000 in
theorem l1Next_big {o : Bool} {lo hi : Nat} (ac : Option Addr) (nc cc : Nat) (bs : List Nat) (g p n : Nat) (w : World) (hs : SrcAt w g p ac nc cc) (hr : RowAt w o lo hi 1 ac nc cc (bys bs)) (hb : ∀ i, bs.getD i 0 < 256) (hd : hi ≤ g ∨ g < lo) (hp : p ≤ 100000) (hn0 : 200 < n) (hn : n ≤ 1000) (hc : nc ≤ 1048576) :
    Calls Try.prog 138 #[.pointer (some ⟨g, 0, none⟩), .int .i64 n] w fun e w' => ∃ v : Int, e = .returned (.int .i64 v) ∧ SrcAt w' g (p + 1) ac nc cc ∧ Kept g (g + 1) w w' ∧ w'.heap.size = w.heap.size := by
  have hN := hs.step
  unfold SrcAt at hs
  have K : Kept g (g + 1) w (w.setCell ⟨g, 1, none⟩ (.int .i64 ((p + 1 : Nat) : Int))) := Kept.setCell (p := ⟨g, 1, none⟩) (Kept.refl _ _ _) (Nat.le_refl _) (Nat.lt_succ_self _) _
  have hsz : (w.setCell ⟨g, 1, none⟩ (.int .i64 ((p + 1 : Nat) : Int))).heap.size = w.heap.size := by simp
  have HN : Hid (SrcAt _ g (p + 1) ac nc cc ∧ Kept g (g + 1) w _ ∧ _) := ⟨hN, K, hsz⟩
  clear hN hsz
  have c0 : w.cell? ⟨g, 0, none⟩ = some (.slice ac nc cc) := by rw [cell_of_row w _ 0 _ _ _ hs]; rfl
  have c1 : w.cell? ⟨g, 1, none⟩ = some (.int .i64 p) := by rw [cell_of_row w _ 1 _ _ _ hs]; rfl
  have f1 : w.frozen? ⟨g, 1, none⟩ = false := frozen_of_row w _ 1 _ _ hs
  have hx := hr.nBytes
  have hlt : ¬ ((n : Int) < 1) := by omega
  by_cases h0 : nc = 0
  · subst h0
    go_enter Try.func138, Try.ntmps138
    go_wp2
    go_ret
    first | exact ⟨⟨_, rfl⟩, HN.out⟩ | exact ⟨by trivial, HN.out⟩ | exact ⟨_, rfl, HN.out⟩
  · have hr2 := hr.kept K (by omega)
    obtain ⟨m, hm⟩ : ∃ m, p % nc = m := ⟨_, rfl⟩
    obtain ⟨q, hq⟩ : ∃ q, p / nc = q := ⟨_, rfl⟩
    have hm' : (p : Int) % (nc : Int) = (m : Int) := by rw [← hm]; rfl
    have hq' : (p : Int) / (nc : Int) = (q : Int) := by rw [← hq]; rfl
    have hk : m < nc := by rw [← hm]; exact Nat.mod_lt _ (by omega)
    have hq2 : q ≤ p := by rw [← hq]; exact Nat.div_le_self _ _
    obtain ⟨b, off, rfl, _, _, _, e1⟩ := hr2.byte hk
    obtain ⟨v, hv⟩ : ∃ v, bs.getD m 0 = v := ⟨_, rfl⟩
    have hv2 := hb m
    rw [hv] at e1 hv2
    have t0 : 0 ≤ (p : Int) % (nc : Int) := by omega
    have t1 : ¬ ((p : Int) % (nc : Int) < 0) := by omega
    have t2 : (p : Int) % (nc : Int) < nc := by omega
    have t5 : p % nc < nc := by omega
    have t6 : ((p % nc : Nat) : Int) < nc := by omega
    have t7 : (p : Int).tmod (nc : Int) = (m : Int) := by rw [Int.tmod_eq_emod_of_nonneg (by omega)]; exact hm'
    have t8 : (p : Int).tdiv (nc : Int) = (q : Int) := by rw [Int.tdiv_eq_ediv_of_nonneg (by omega)]; exact hq'
    have hk2 : (m : Int) < nc := by omega
    obtain ⟨m2, hm2⟩ : ∃ m2, (p + 1) % nc = m2 := ⟨_, rfl⟩
    have hm2' : ((p : Int) + 1) % (nc : Int) = (m2 : Int) := by rw [← hm2]; push_cast; rfl
    have hj : m2 < nc := by rw [← hm2]; exact Nat.mod_lt _ (by omega)
    have hj2 : (m2 : Int) < nc := by omega
    have t9 : ((p : Int) + 1).tmod (nc : Int) = (m2 : Int) := by rw [Int.tmod_eq_emod_of_nonneg (by omega)]; exact hm2'
    obtain ⟨_, _, e', _, _, _, e2⟩ := hr2.byte hj
    cases e'
    obtain ⟨v2, hv2'⟩ : ∃ v2, bs.getD m2 0 = v2 := ⟨_, rfl⟩
    have hv3 := hb m2
    rw [hv2'] at e2 hv3
    have h200 : (200 : Int) < n := by omega
    have u0 : 0 ≤ ((p : Int) + 1) % (nc : Int) := by omega
    have u1 : ¬ (((p : Int) + 1) % (nc : Int) < 0) := by omega
    have u2 : ((p : Int) + 1) % (nc : Int) < nc := by omega
    have u5 : (p + 1) % nc < nc := by omega
    have u6 : (((p + 1) % nc : Nat) : Int) < nc := by omega
    have q9 : IntKind.i64.wrap ((p : Int) + 1) = (p : Int) + 1 := wrapI_same _ (by omega)
    clear hv2' hv
    go_enter Try.func138, Try.ntmps138
    go_wp2
    have d0 : (w.setCell ⟨g, 1, none⟩ (.int .i64 ((p + 1 : Nat) : Int))).cell? ⟨g, 0, none⟩ = some (.slice (some ⟨b, off, none⟩) nc cc) := by
      rw [World.cell?_setCell_other _ _ _ _ (by intro e; simp at e)]; exact c0
    go_region_held3 (fun w' => w'.cell? ⟨g, 0, none⟩ = some (.slice (some ⟨b, off, none⟩) nc cc) ∧ w'.cell? ⟨b, off + m, none⟩ = some (.int .u8 v)) (exact ⟨d0, e1⟩) (fail)
    go_wp2
    go_region_held3 (fun w' => w'.cell? ⟨g, 0, none⟩ = some (.slice (some ⟨b, off, none⟩) nc cc) ∧ w'.cell? ⟨b, off + m2, none⟩ = some (.int .u8 v2)) (exact ⟨d0, e2⟩) (fail)
    go_wp2
    go_ret
    first | exact ⟨HN.out.1, ⟨HN.out.2.1.os, HN.out.2.1.tape, HN.out.2.1.output, HN.out.2.1.size, HN.out.2.1.block⟩, HN.out.2.2⟩ | exact ⟨_, rfl, HN.out.1, ⟨HN.out.2.1.os, HN.out.2.1.tape, HN.out.2.1.output, HN.out.2.1.size, HN.out.2.1.block⟩, HN.out.2.2⟩

section
variable {W : World} {g p : Nat} {ac : Option Addr} {nc cc : Nat} {bs : List Nat}
theorem big_sb (h : SB W g p ac nc cc bs) (n : Nat) {N : Int} (hN : N = (n : Int)) (hn0 : 200 < n) (hn : n ≤ 1000) (hp : p ≤ 100000) :
    Calls Try.prog 138 #[.pointer (some ⟨g, 0, none⟩), .int .i64 N] W fun e w' => ∃ v : Int, e = .returned (.int .i64 v) ∧ SB w' g (p + 1) ac nc cc bs ∧ Kept g (g + 1) W w' ∧ w'.heap.size = W.heap.size := by
  obtain ⟨o, lo, hi, r, d⟩ := h.row
  subst hN
  refine (l1Next_big ac nc cc bs g p n W h.src r h.byte d hp hn0 hn h.few).mono ?_
  rintro e w' ⟨v, rfl, s, k, z⟩
  exact ⟨v, rfl, h.move k s, k, z⟩
theorem pick_sb (h : SB W g p ac nc cc bs) (n : Nat) {N : Nat} (hN : N = n) (hn0 : 0 < n) (hn : n ≤ 200) (hp : p ≤ 100000) {o2 : Bool} {l2 u2 : Nat} (al : Option Addr) (cl : Nat) (zs : List Int) (hl : RowAt W o2 l2 u2 1 al n cl (ints zs)) (hd2 : u2 ≤ g ∨ g < l2) :
    Calls Try.prog 150 #[.pointer (some ⟨g, 0, none⟩), .slice al N cl] W fun e w' => ∃ v : Int, e = .returned (.int .i64 v) ∧ SB w' g (p + 1) ac nc cc bs ∧ Kept g (g + 1) W w' ∧ w'.heap.size = W.heap.size := by
  obtain ⟨o, lo, hi, r, d⟩ := h.row
  subst hN
  refine (l1Pick_any ac nc cc bs g p N W h.src r h.byte d hp hn0 hn h.few al cl zs hl hd2).mono ?_
  rintro e w' ⟨v, rfl, s, k, z⟩
  exact ⟨v, rfl, h.move k s, k, z⟩
end

end Go.Proofs.Ytkdaphfmhdkhfaa

/- The draws out of a longer code. -/
namespace Go.Proofs.Ytkdaphfmhdkhfaa
open Go.RowKit

set_option maxRecDepth 20000 in
set_option maxHeartbeats 1000000 in
theorem l1Next_anyW {o : Bool} {lo hi : Nat} (ac : Option Addr) (nc cc : Nat) (bs : List Nat) (g p n : Nat) (w : World) (hs : SrcAt w g p ac nc cc) (hr : RowAt w o lo hi 1 ac nc cc (bys bs)) (hb : ∀ i, bs.getD i 0 < 256) (hd : hi ≤ g ∨ g < lo) (hp : p ≤ 100000) (hn0 : 0 < n) (hn : n ≤ 200) (hc : nc ≤ 2097152) :
    Calls Try.prog 138 #[.pointer (some ⟨g, 0, none⟩), .int .i64 n] w fun e w' => ∃ v : Nat, v < n ∧ e = .returned (.int .i64 v) ∧ SrcAt w' g (p + 1) ac nc cc ∧ Kept g (g + 1) w w' ∧ w'.heap.size = w.heap.size := by
  have hN := hs.step
  unfold SrcAt at hs
  have K : Kept g (g + 1) w (w.setCell ⟨g, 1, none⟩ (.int .i64 ((p + 1 : Nat) : Int))) := Kept.setCell (p := ⟨g, 1, none⟩) (Kept.refl _ _ _) (Nat.le_refl _) (Nat.lt_succ_self _) _
  have hsz : (w.setCell ⟨g, 1, none⟩ (.int .i64 ((p + 1 : Nat) : Int))).heap.size = w.heap.size := by simp
  have HN : Hid (SrcAt _ g (p + 1) ac nc cc ∧ Kept g (g + 1) w _ ∧ _) := ⟨hN, K, hsz⟩
  clear hN hsz
  have c0 : w.cell? ⟨g, 0, none⟩ = some (.slice ac nc cc) := by rw [cell_of_row w _ 0 _ _ _ hs]; rfl
  have c1 : w.cell? ⟨g, 1, none⟩ = some (.int .i64 p) := by rw [cell_of_row w _ 1 _ _ _ hs]; rfl
  have f1 : w.frozen? ⟨g, 1, none⟩ = false := frozen_of_row w _ 1 _ _ hs
  have hx := hr.nBytes
  have hlt : ¬ ((n : Int) < 1) := by omega
  by_cases h0 : nc = 0
  · subst h0
    go_enter Try.func138, Try.ntmps138
    go_wp2
    go_ret
    have hm : 0 ≤ (p : Int) * 7 % n ∧ (p : Int) * 7 % n < n := ⟨Int.emod_nonneg _ (by omega), Int.emod_lt_of_pos _ (by omega)⟩
    exact ⟨((p : Int) * 7 % n).toNat, by omega, ret_int (Int.toNat_of_nonneg hm.1).symm, HN.out⟩
  · have hr2 := hr.kept K (by omega)
    obtain ⟨m, hm⟩ : ∃ m, p % nc = m := ⟨_, rfl⟩
    obtain ⟨q, hq⟩ : ∃ q, p / nc = q := ⟨_, rfl⟩
    have hm' : (p : Int) % (nc : Int) = (m : Int) := by rw [← hm]; rfl
    have hq' : (p : Int) / (nc : Int) = (q : Int) := by rw [← hq]; rfl
    have hk : m < nc := by rw [← hm]; exact Nat.mod_lt _ (by omega)
    have hq2 : q ≤ p := by rw [← hq]; exact Nat.div_le_self _ _
    obtain ⟨b, off, rfl, _, _, _, e1⟩ := hr2.byte hk
    obtain ⟨v, hv⟩ : ∃ v, bs.getD m 0 = v := ⟨_, rfl⟩
    have hv2 := hb m
    rw [hv] at e1 hv2
    have t0 : 0 ≤ (p : Int) % (nc : Int) := by omega
    have t1 : ¬ ((p : Int) % (nc : Int) < 0) := by omega
    have t2 : (p : Int) % (nc : Int) < nc := by omega
    have t5 : p % nc < nc := by omega
    have t6 : ((p % nc : Nat) : Int) < nc := by omega
    have t7 : (p : Int).tmod (nc : Int) = (m : Int) := by rw [Int.tmod_eq_emod_of_nonneg (by omega)]; exact hm'
    have t8 : (p : Int).tdiv (nc : Int) = (q : Int) := by rw [Int.tdiv_eq_ediv_of_nonneg (by omega)]; exact hq'
    have hk2 : (m : Int) < nc := by omega
    go_enter Try.func138, Try.ntmps138
    go_wp2
    have d0 : (w.setCell ⟨g, 1, none⟩ (.int .i64 ((p + 1 : Nat) : Int))).cell? ⟨g, 0, none⟩ = some (.slice (some ⟨b, off, none⟩) nc cc) := by
      rw [World.cell?_setCell_other _ _ _ _ (by intro e; simp at e)]; exact c0
    go_region_held3 (fun w' => w'.cell? ⟨g, 0, none⟩ = some (.slice (some ⟨b, off, none⟩) nc cc) ∧ w'.cell? ⟨b, off + m, none⟩ = some (.int .u8 v)) (exact ⟨d0, e1⟩) (fail)
    go_wp2
    go_ret
    have hm : 0 ≤ ((v : Int) + q * 37) % n ∧ ((v : Int) + q * 37) % n < n := ⟨Int.emod_nonneg _ (by omega), Int.emod_lt_of_pos _ (by omega)⟩
    exact ⟨(((v : Int) + q * 37) % n).toNat, by omega, ret_int (Int.toNat_of_nonneg hm.1).symm, HN.out.1, ⟨HN.out.2.1.os, HN.out.2.1.tape, HN.out.2.1.output, HN.out.2.1.size, HN.out.2.1.block⟩, HN.out.2.2⟩

set_option maxRecDepth 20000 in
set_option maxHeartbeats 1000000 in
theorem l1Next_bigW {o : Bool} {lo hi : Nat} (ac : Option Addr) (nc cc : Nat) (bs : List Nat) (g p n : Nat) (w : World) (hs : SrcAt w g p ac nc cc) (hr : RowAt w o lo hi 1 ac nc cc (bys bs)) (hb : ∀ i, bs.getD i 0 < 256) (hd : hi ≤ g ∨ g < lo) (hp : p ≤ 100000) (hn0 : 200 < n) (hn : n ≤ 1000) (hc : nc ≤ 2097152) :
    Calls Try.prog 138 #[.pointer (some ⟨g, 0, none⟩), .int .i64 n] w fun e w' => ∃ v : Int, e = .returned (.int .i64 v) ∧ SrcAt w' g (p + 1) ac nc cc ∧ Kept g (g + 1) w w' ∧ w'.heap.size = w.heap.size := by
  have hN := hs.step
  unfold SrcAt at hs
  have K : Kept g (g + 1) w (w.setCell ⟨g, 1, none⟩ (.int .i64 ((p + 1 : Nat) : Int))) := Kept.setCell (p := ⟨g, 1, none⟩) (Kept.refl _ _ _) (Nat.le_refl _) (Nat.lt_succ_self _) _
  have hsz : (w.setCell ⟨g, 1, none⟩ (.int .i64 ((p + 1 : Nat) : Int))).heap.size = w.heap.size := by simp
  have HN : Hid (SrcAt _ g (p + 1) ac nc cc ∧ Kept g (g + 1) w _ ∧ _) := ⟨hN, K, hsz⟩
  clear hN hsz
  have c0 : w.cell? ⟨g, 0, none⟩ = some (.slice ac nc cc) := by rw [cell_of_row w _ 0 _ _ _ hs]; rfl
  have c1 : w.cell? ⟨g, 1, none⟩ = some (.int .i64 p) := by rw [cell_of_row w _ 1 _ _ _ hs]; rfl
  have f1 : w.frozen? ⟨g, 1, none⟩ = false := frozen_of_row w _ 1 _ _ hs
  have hx := hr.nBytes
  have hlt : ¬ ((n : Int) < 1) := by omega
  by_cases h0 : nc = 0
  · subst h0
    go_enter Try.func138, Try.ntmps138
    go_wp2
    go_ret
    first | exact ⟨⟨_, rfl⟩, HN.out⟩ | exact ⟨by trivial, HN.out⟩ | exact ⟨_, rfl, HN.out⟩
  · have hr2 := hr.kept K (by omega)
    obtain ⟨m, hm⟩ : ∃ m, p % nc = m := ⟨_, rfl⟩
    obtain ⟨q, hq⟩ : ∃ q, p / nc = q := ⟨_, rfl⟩
    have hm' : (p : Int) % (nc : Int) = (m : Int) := by rw [← hm]; rfl
    have hq' : (p : Int) / (nc : Int) = (q : Int) := by rw [← hq]; rfl
    have hk : m < nc := by rw [← hm]; exact Nat.mod_lt _ (by omega)
    have hq2 : q ≤ p := by rw [← hq]; exact Nat.div_le_self _ _
    obtain ⟨b, off, rfl, _, _, _, e1⟩ := hr2.byte hk
    obtain ⟨v, hv⟩ : ∃ v, bs.getD m 0 = v := ⟨_, rfl⟩
    have hv2 := hb m
    rw [hv] at e1 hv2
    have t0 : 0 ≤ (p : Int) % (nc : Int) := by omega
    have t1 : ¬ ((p : Int) % (nc : Int) < 0) := by omega
    have t2 : (p : Int) % (nc : Int) < nc := by omega
    have t5 : p % nc < nc := by omega
    have t6 : ((p % nc : Nat) : Int) < nc := by omega
    have t7 : (p : Int).tmod (nc : Int) = (m : Int) := by rw [Int.tmod_eq_emod_of_nonneg (by omega)]; exact hm'
    have t8 : (p : Int).tdiv (nc : Int) = (q : Int) := by rw [Int.tdiv_eq_ediv_of_nonneg (by omega)]; exact hq'
    have hk2 : (m : Int) < nc := by omega
    obtain ⟨m2, hm2⟩ : ∃ m2, (p + 1) % nc = m2 := ⟨_, rfl⟩
    have hm2' : ((p : Int) + 1) % (nc : Int) = (m2 : Int) := by rw [← hm2]; push_cast; rfl
    have hj : m2 < nc := by rw [← hm2]; exact Nat.mod_lt _ (by omega)
    have hj2 : (m2 : Int) < nc := by omega
    have t9 : ((p : Int) + 1).tmod (nc : Int) = (m2 : Int) := by rw [Int.tmod_eq_emod_of_nonneg (by omega)]; exact hm2'
    obtain ⟨_, _, e', _, _, _, e2⟩ := hr2.byte hj
    cases e'
    obtain ⟨v2, hv2'⟩ : ∃ v2, bs.getD m2 0 = v2 := ⟨_, rfl⟩
    have hv3 := hb m2
    rw [hv2'] at e2 hv3
    have h200 : (200 : Int) < n := by omega
    have u0 : 0 ≤ ((p : Int) + 1) % (nc : Int) := by omega
    have u1 : ¬ (((p : Int) + 1) % (nc : Int) < 0) := by omega
    have u2 : ((p : Int) + 1) % (nc : Int) < nc := by omega
    have u5 : (p + 1) % nc < nc := by omega
    have u6 : (((p + 1) % nc : Nat) : Int) < nc := by omega
    have q9 : IntKind.i64.wrap ((p : Int) + 1) = (p : Int) + 1 := wrapI_same _ (by omega)
    clear hv2' hv
    go_enter Try.func138, Try.ntmps138
    go_wp2
    have d0 : (w.setCell ⟨g, 1, none⟩ (.int .i64 ((p + 1 : Nat) : Int))).cell? ⟨g, 0, none⟩ = some (.slice (some ⟨b, off, none⟩) nc cc) := by
      rw [World.cell?_setCell_other _ _ _ _ (by intro e; simp at e)]; exact c0
    go_region_held3 (fun w' => w'.cell? ⟨g, 0, none⟩ = some (.slice (some ⟨b, off, none⟩) nc cc) ∧ w'.cell? ⟨b, off + m, none⟩ = some (.int .u8 v)) (exact ⟨d0, e1⟩) (fail)
    go_wp2
    go_region_held3 (fun w' => w'.cell? ⟨g, 0, none⟩ = some (.slice (some ⟨b, off, none⟩) nc cc) ∧ w'.cell? ⟨b, off + m2, none⟩ = some (.int .u8 v2)) (exact ⟨d0, e2⟩) (fail)
    go_wp2
    go_ret
    first | exact ⟨HN.out.1, ⟨HN.out.2.1.os, HN.out.2.1.tape, HN.out.2.1.output, HN.out.2.1.size, HN.out.2.1.block⟩, HN.out.2.2⟩ | exact ⟨_, rfl, HN.out.1, ⟨HN.out.2.1.os, HN.out.2.1.tape, HN.out.2.1.output, HN.out.2.1.size, HN.out.2.1.block⟩, HN.out.2.2⟩

set_option maxHeartbeats 400000 in
theorem l1Pick_anyW {o : Bool} {lo hi : Nat} (ac : Option Addr) (nc cc : Nat) (bs : List Nat) (g p n : Nat) (w : World) (hs : SrcAt w g p ac nc cc) (hr : RowAt w o lo hi 1 ac nc cc (bys bs)) (hb : ∀ i, bs.getD i 0 < 256) (hd : hi ≤ g ∨ g < lo) (hp : p ≤ 100000) (hn0 : 0 < n) (hn : n ≤ 200) (hc : nc ≤ 2097152)
    {o2 : Bool} {l2 u2 : Nat} (al : Option Addr) (cl : Nat) (zs : List Int) (hl : RowAt w o2 l2 u2 1 al n cl (ints zs)) (hd2 : u2 ≤ g ∨ g < l2) :
    Calls Try.prog 150 #[.pointer (some ⟨g, 0, none⟩), .slice al n cl] w fun e w' => ∃ v : Int, e = .returned (.int .i64 v) ∧ SrcAt w' g (p + 1) ac nc cc ∧ Kept g (g + 1) w w' ∧ w'.heap.size = w.heap.size := by
  go_enter Try.func150, Try.ntmps150
  go_wp2_with fail
  refine (l1Next_anyW ac nc cc bs g p n w hs hr hb hd hp hn0 hn hc).mono ?_
  rintro e w1 ⟨v, hv, rfl, h1, h2, h3⟩
  obtain ⟨b, off, rfl, _, _, _, c1, _⟩ := (hl.kept h2 (by omega)).int hv
  have hv2 : (v : Int) < n := by omega
  go_wp2
  go_ret
  exact ⟨_, rfl, h1, h2, h3⟩


structure SBW (W : World) (g p : Nat) (ac : Option Addr) (nc cc : Nat) (bs : List Nat) : Prop where
  src : SrcAt W g p ac nc cc
  row : ∃ o lo hi, RowAt W o lo hi 1 ac nc cc (bys bs) ∧ (hi ≤ g ∨ g < lo)
  byte : ∀ i, bs.getD i 0 < 256
  few : nc ≤ 2097152
section
variable {W : World} {g p : Nat} {ac : Option Addr} {nc cc : Nat} {bs : List Nat}
theorem SBW.move (h : SBW W g p ac nc cc bs) {W' : World} {p' : Nat} (hk : Kept g (g + 1) W W') (hs : SrcAt W' g p' ac nc cc) : SBW W' g p' ac nc cc bs := by
  obtain ⟨o, lo, hi, r, d⟩ := h.row
  exact ⟨hs, ⟨o, lo, hi, r.kept hk (by omega), d⟩, h.byte, h.few⟩
theorem SBW.below (h : SBW W g p ac nc cc bs) {W' : World} (hb : Below W.heap.size W W') : SBW W' g p ac nc cc bs := h.move (Kept.of_below hb) (h.src.below hb)
theorem big_sbW (h : SBW W g p ac nc cc bs) (n : Nat) {N : Int} (hN : N = (n : Int)) (hn0 : 200 < n) (hn : n ≤ 1000) (hp : p ≤ 100000) :
    Calls Try.prog 138 #[.pointer (some ⟨g, 0, none⟩), .int .i64 N] W fun e w' => ∃ v : Int, e = .returned (.int .i64 v) ∧ SBW w' g (p + 1) ac nc cc bs ∧ Kept g (g + 1) W w' ∧ w'.heap.size = W.heap.size := by
  obtain ⟨o, lo, hi, r, d⟩ := h.row
  subst hN
  refine (l1Next_bigW ac nc cc bs g p n W h.src r h.byte d hp hn0 hn h.few).mono ?_
  rintro e w' ⟨v, rfl, s, k, z⟩
  exact ⟨v, rfl, h.move k s, k, z⟩
theorem pick_sbW (h : SBW W g p ac nc cc bs) (n : Nat) {N : Nat} (hN : N = n) (hn0 : 0 < n) (hn : n ≤ 200) (hp : p ≤ 100000) {o2 : Bool} {l2 u2 : Nat} (al : Option Addr) (cl : Nat) (zs : List Int) (hl : RowAt W o2 l2 u2 1 al n cl (ints zs)) (hd2 : u2 ≤ g ∨ g < l2) :
    Calls Try.prog 150 #[.pointer (some ⟨g, 0, none⟩), .slice al N cl] W fun e w' => ∃ v : Int, e = .returned (.int .i64 v) ∧ SBW w' g (p + 1) ac nc cc bs ∧ Kept g (g + 1) W w' ∧ w'.heap.size = W.heap.size := by
  obtain ⟨o, lo, hi, r, d⟩ := h.row
  subst hN
  refine (l1Pick_anyW ac nc cc bs g p N W h.src r h.byte d hp hn0 hn h.few al cl zs hl hd2).mono ?_
  rintro e w' ⟨v, rfl, s, k, z⟩
  exact ⟨v, rfl, h.move k s, k, z⟩
end

end Go.Proofs.Ytkdaphfmhdkhfaa

/- Chapter 3: how blocks are drawn: what the model's l3Blocks answers. -/
namespace Go.Proofs.Ytkdaphfmhdkhfaa
open Go.RowKit

set_option maxRecDepth 20000 in
set_option maxHeartbeats 4000000 in
theorem l3Blocks_any (g p : Nat) (ac : Option Addr) (nc cc : Nat) (bs : List Nat) (w : World) (h : SB w g p ac nc cc bs) (hp : p ≤ 500) :
    Calls Try.prog 149 #[.pointer (some ⟨g, 0, none⟩)] w fun e w' => ∃ ao n c bl p', e = .returned (.slice ao n c) ∧ n ≤ 25 ∧ p' ≤ p + 40 ∧ RowAt w' true w.heap.size w'.heap.size 2 ao n c (pairs bl) ∧ SB w' g p' ac nc cc bs ∧ Kept g (g + 1) w w' := by
  have hg := h.lt
  obtain ⟨j0, hj0, hy0, hy1, hy2⟩ := info_parts Try.infoBlk
  have A : Below w.heap.size w (w.alloc (.cells #[] 55)) := (Below.refl _ _).alloc (Nat.le_refl _) _
  have O0 : (w.alloc (.cells #[] 55)).ownsRow w.heap.size 55 2 (.slice (some ⟨w.heap.size, 0, none⟩) 0 0) 0 [] := World.ownsRow_lit w #[] 0 (Nat.le_refl _) (Nat.zero_le _) rfl
  have D0 := h.below A
  go_enter Try.func149, Try.ntmps149
  go_wp2_with fail
  refine (next_sb D0 9 rfl (by omega) (by omega) (by omega)).mono ?_
  rintro e w1 ⟨v, hv, rfl, D1, K1, z1⟩
  have O1 := owns_kept O0 K1 (fun k e => by have := (O0.lt k e).1; omega)
  have KK : Kept g (g + 1) w w1 := (Kept.of_below A).trans K1
  clear A O0 D0 K1 z1
  go_wp2
  go_loopw [3, 4] (fun u i wr => ∃ (j m q : Nat) (bl : List (Int × Int)), i = .int .i64 j ∧ j + m ≤ 8 ∧ q + 2 * j ≤ p + 17 ∧ wr.ownsRow w.heap.size 55 2 u m (pairs bl) ∧ SrcAt wr g q ac nc cc ∧ Kept g (g + 1) w wr) (fun _ i _ => (intOf i).toNat)
  case atStart => exact ⟨v, 0, p + 1, [], rfl, by omega, by omega, O1, D1.src, KK⟩
  case round =>
    obtain ⟨j, m, q, bl, rfl, hjm, hq, O, S, hk⟩ := hrel
    clear O1 D1 KK
    have hsw := hk.size
    have D := h.move hk S
    by_cases hj : j = 0
    · subst hj
      by_cases hm : m = 0
      · subst hm
        obtain ⟨ua, uc, rfl, rt⟩ := RowAt.of_owned O
        have Dt := D
        have hkt := hk
        clear O D hk
        go_wp2_with fail
        refine (chance_sb Dt 40 rfl (by omega) (by omega) (by omega)).mono ?_
        rintro e wt ⟨bb, rfl, Du, Ku, zu⟩
        have ru := rt.kept Ku (by omega)
        have hku := hkt.trans Ku
        have hsu := Nat.le_of_eq zu
        have hsu' := Nat.le_of_eq zu.symm
        have hwu := hku.size
        clear Dt Ku zu rt hkt
        cases bb with
        | false =>
          go_wp2
          go_ret
          exact ⟨_, _, _, _, _, rfl, by omega, by omega, ru.widen (by omega) (by omega), Du, hku⟩
        | true =>
          go_wp2_with (first | (at_make; refine wpList_make_full _ rfl _ _ 47 rfl wt.heap.size 55 j0 (.agg #[.int .i64 0, .int .i64 0]) 2 Try.underlying47 hj0 hy0 hy1 _ _ _ _ 25 rfl rfl rfl rfl ?b1 ?b2 ?b3 ?_))
          case b1 => rw [hy2]; omega
          case b2 => unfold maxLen; omega
          case b3 => exact Nat.le_refl _
          intro wv hown hgrow
          have hbv : Below wt.heap.size wt wv := (Below.refl _ _).grown hgrow (Nat.le_refl _) (fun k hk => by cases hk)
          replace hown : wv.ownsRow wt.heap.size 55 2 (.slice (some ⟨wt.heap.size, 0, none⟩) 25 25) 25 (pairs (List.replicate 25 (0, 0))) := by rw [← made_pairs]; exact hown
          obtain ⟨_, _, e', R⟩ := RowAt.of_owned hown
          cases e'
          have Dv := Du.below hbv
          have hkv := hku.next hbv
          clear hgrow hown hbv
          go_wp2
          go_ret
          exact ⟨_, _, _, _, _, rfl, by omega, by omega, R.widen hwu (Nat.le_refl _), Dv, hkv⟩
      have hmp : 0 < m := by omega
      have hmi : (0 : Int) < m := by omega
      obtain ⟨gb, cb, rfl, hgb, hgb', rt⟩ := own_block O hm
      clear O
      go_wp2_with fail
      refine (next_sb D 16 rfl (by omega) (by omega) (by omega)).mono ?_
      rintro e w2 ⟨sw, hsw2, rfl, D2, K2, z2⟩
      replace rt := rt.kept K2 (by omega)
      replace hk := hk.trans K2
      have hz2 := Nat.le_of_eq z2.symm
      have hw2 := hk.size
      clear D K2 z2 S
      by_cases s0 : sw = 0
      · subst s0
        have AL : Below w2.heap.size w2 (w2.alloc (.cells #[.int .i64 (-1), .int .i64 (201), .int .i64 (0)] 2)) := (Below.refl _ _).alloc (Nat.le_refl _) _
        have rl := row_lit w2 [.int .i64 (-1), .int .i64 (201), .int .i64 (0)] 2 3 1 rfl
        have D3 := D2.below AL
        go_wp2_with fail
        refine (pick_sb D3 3 rfl (by omega) (by omega) (by omega) _ _ [-1, 201, 0] (by exact rl) (by omega)).mono ?_
        rintro e w3 ⟨x, rfl, D4, K4, z4⟩
        have hAL := AL.size
        replace rt := (rt.below AL).kept K4 (by omega)
        have hk4 := (hk.next AL).trans K4
        have hw4 := hk4.size
        have hs4 := K4.size
        obtain ⟨_, _, e', _, _, _, gc, gf⟩ := rt.cells (by omega)
        cases e'
        have c0 := gc 0 (by omega)
        have f0 := gf rfl 0 (by omega)
        rw [Nat.zero_add] at c0 f0
        have rs := rt.stored (i := 0) (by omega) (.int .i64 x)
        rw [Nat.zero_add] at rs
        have e9 := pairs_set1 bl 0 x
        simp only [Nat.zero_mul] at e9
        rw [e9] at rs
        have K5 : Kept gb (gb + 1) w3 (w3.setCell ⟨gb, 0, none⟩ (.int .i64 x)) := by refine Kept.setCell (Kept.refl _ _ _) ?_ ?_ _ <;> simp
        have hs5 := K5.size
        have hkt : Kept g (g + 1) w (w3.setCell ⟨gb, 0, none⟩ (.int .i64 x)) := hk4.low (K5.below _ (by omega) (by omega))
        have Dt : SB (w3.setCell ⟨gb, 0, none⟩ (.int .i64 x)) g (q + 1 + 1) ac nc cc bs := h.move hkt (D4.src.kept K5 (by omega))
        have hgbs : gb < w3.heap.size := by omega
        have hss : (w3.setCell ⟨gb, 0, none⟩ (.int .i64 x)).heap.size = w3.heap.size := by simp
        have hss' := Nat.le_of_eq hss.symm
        clear AL rl D3 D4 K4 z4 rt gc gf e9 K5 hk4 hk D2 hss
        go_wp2_with fail
        refine (chance_sb Dt 40 rfl (by omega) (by omega) (by omega)).mono ?_
        rintro e wt ⟨bb, rfl, Du, Ku, zu⟩
        have ru := rs.kept Ku (by omega)
        have hku := hkt.trans Ku
        have hsu := Nat.le_of_eq zu
        have hsu' := Nat.le_of_eq zu.symm
        have hwu := hku.size
        clear Dt Ku zu rs hkt
        cases bb with
        | false =>
          go_wp2
          go_ret
          exact ⟨_, _, _, _, _, rfl, by omega, by omega, ru.widen (by omega) (by omega), Du, hku⟩
        | true =>
          go_wp2_with (first | (at_make; refine wpList_make_full _ rfl _ _ 47 rfl wt.heap.size 55 j0 (.agg #[.int .i64 0, .int .i64 0]) 2 Try.underlying47 hj0 hy0 hy1 _ _ _ _ 25 rfl rfl rfl rfl ?b1 ?b2 ?b3 ?_))
          case b1 => rw [hy2]; omega
          case b2 => unfold maxLen; omega
          case b3 => exact Nat.le_refl _
          intro wv hown hgrow
          have hbv : Below wt.heap.size wt wv := (Below.refl _ _).grown hgrow (Nat.le_refl _) (fun k hk => by cases hk)
          replace hown : wv.ownsRow wt.heap.size 55 2 (.slice (some ⟨wt.heap.size, 0, none⟩) 25 25) 25 (pairs (List.replicate 25 (0, 0))) := by rw [← made_pairs]; exact hown
          obtain ⟨_, _, e', R⟩ := RowAt.of_owned hown
          cases e'
          have Dv := Du.below hbv
          have hkv := hku.next hbv
          clear hgrow hown hbv
          go_wp2
          go_ret
          exact ⟨_, _, _, _, _, rfl, by omega, by omega, R.widen hwu (Nat.le_refl _), Dv, hkv⟩
      by_cases s1 : sw = 1
      · subst s1
        have AL : Below w2.heap.size w2 (w2.alloc (.cells #[.int .i64 (-1), .int .i64 (256), .int .i64 (5)] 2)) := (Below.refl _ _).alloc (Nat.le_refl _) _
        have rl := row_lit w2 [.int .i64 (-1), .int .i64 (256), .int .i64 (5)] 2 3 1 rfl
        have D3 := D2.below AL
        go_wp2_with fail
        refine (pick_sb D3 3 rfl (by omega) (by omega) (by omega) _ _ [-1, 256, 5] (by exact rl) (by omega)).mono ?_
        rintro e w3 ⟨x, rfl, D4, K4, z4⟩
        have hAL := AL.size
        replace rt := (rt.below AL).kept K4 (by omega)
        have hk4 := (hk.next AL).trans K4
        have hw4 := hk4.size
        have hs4 := K4.size
        obtain ⟨_, _, e', _, _, _, gc, gf⟩ := rt.cells (by omega)
        cases e'
        have c0 := gc 1 (by omega)
        have f0 := gf rfl 1 (by omega)
        rw [Nat.zero_add] at c0 f0
        have rs := rt.stored (i := 1) (by omega) (.int .i64 x)
        rw [Nat.zero_add] at rs
        have e9 := pairs_set2 bl 0 x
        simp only [Nat.zero_mul, Nat.zero_add] at e9
        rw [e9] at rs
        have K5 : Kept gb (gb + 1) w3 (w3.setCell ⟨gb, 1, none⟩ (.int .i64 x)) := by refine Kept.setCell (Kept.refl _ _ _) ?_ ?_ _ <;> simp
        have hs5 := K5.size
        have hkt : Kept g (g + 1) w (w3.setCell ⟨gb, 1, none⟩ (.int .i64 x)) := hk4.low (K5.below _ (by omega) (by omega))
        have Dt : SB (w3.setCell ⟨gb, 1, none⟩ (.int .i64 x)) g (q + 1 + 1) ac nc cc bs := h.move hkt (D4.src.kept K5 (by omega))
        have hgbs : gb < w3.heap.size := by omega
        have hss : (w3.setCell ⟨gb, 1, none⟩ (.int .i64 x)).heap.size = w3.heap.size := by simp
        have hss' := Nat.le_of_eq hss.symm
        clear AL rl D3 D4 K4 z4 rt gc gf e9 K5 hk4 hk D2 hss
        go_wp2_with fail
        refine (chance_sb Dt 40 rfl (by omega) (by omega) (by omega)).mono ?_
        rintro e wt ⟨bb, rfl, Du, Ku, zu⟩
        have ru := rs.kept Ku (by omega)
        have hku := hkt.trans Ku
        have hsu := Nat.le_of_eq zu
        have hsu' := Nat.le_of_eq zu.symm
        have hwu := hku.size
        clear Dt Ku zu rs hkt
        cases bb with
        | false =>
          go_wp2
          go_ret
          exact ⟨_, _, _, _, _, rfl, by omega, by omega, ru.widen (by omega) (by omega), Du, hku⟩
        | true =>
          go_wp2_with (first | (at_make; refine wpList_make_full _ rfl _ _ 47 rfl wt.heap.size 55 j0 (.agg #[.int .i64 0, .int .i64 0]) 2 Try.underlying47 hj0 hy0 hy1 _ _ _ _ 25 rfl rfl rfl rfl ?b1 ?b2 ?b3 ?_))
          case b1 => rw [hy2]; omega
          case b2 => unfold maxLen; omega
          case b3 => exact Nat.le_refl _
          intro wv hown hgrow
          have hbv : Below wt.heap.size wt wv := (Below.refl _ _).grown hgrow (Nat.le_refl _) (fun k hk => by cases hk)
          replace hown : wv.ownsRow wt.heap.size 55 2 (.slice (some ⟨wt.heap.size, 0, none⟩) 25 25) 25 (pairs (List.replicate 25 (0, 0))) := by rw [← made_pairs]; exact hown
          obtain ⟨_, _, e', R⟩ := RowAt.of_owned hown
          cases e'
          have Dv := Du.below hbv
          have hkv := hku.next hbv
          clear hgrow hown hbv
          go_wp2
          go_ret
          exact ⟨_, _, _, _, _, rfl, by omega, by omega, R.widen hwu (Nat.le_refl _), Dv, hkv⟩
      have i0 : ¬ (sw : Int) = 0 := by omega
      have i1 : ¬ (sw : Int) = 1 := by omega
      have Dt := D2
      have hkt := hk
      clear D2 hk
      go_wp2_with fail
      refine (chance_sb Dt 40 rfl (by omega) (by omega) (by omega)).mono ?_
      rintro e wt ⟨bb, rfl, Du, Ku, zu⟩
      have ru := rt.kept Ku (by omega)
      have hku := hkt.trans Ku
      have hsu := Nat.le_of_eq zu
      have hsu' := Nat.le_of_eq zu.symm
      have hwu := hku.size
      clear Dt Ku zu rt hkt
      cases bb with
      | false =>
        go_wp2
        go_ret
        exact ⟨_, _, _, _, _, rfl, by omega, by omega, ru.widen (by omega) (by omega), Du, hku⟩
      | true =>
        go_wp2_with (first | (at_make; refine wpList_make_full _ rfl _ _ 47 rfl wt.heap.size 55 j0 (.agg #[.int .i64 0, .int .i64 0]) 2 Try.underlying47 hj0 hy0 hy1 _ _ _ _ 25 rfl rfl rfl rfl ?b1 ?b2 ?b3 ?_))
        case b1 => rw [hy2]; omega
        case b2 => unfold maxLen; omega
        case b3 => exact Nat.le_refl _
        intro wv hown hgrow
        have hbv : Below wt.heap.size wt wv := (Below.refl _ _).grown hgrow (Nat.le_refl _) (fun k hk => by cases hk)
        replace hown : wv.ownsRow wt.heap.size 55 2 (.slice (some ⟨wt.heap.size, 0, none⟩) 25 25) 25 (pairs (List.replicate 25 (0, 0))) := by rw [← made_pairs]; exact hown
        obtain ⟨_, _, e', R⟩ := RowAt.of_owned hown
        cases e'
        have Dv := Du.below hbv
        have hkv := hku.next hbv
        clear hgrow hown hbv
        go_wp2
        go_ret
        exact ⟨_, _, _, _, _, rfl, by omega, by omega, R.widen hwu (Nat.le_refl _), Dv, hkv⟩
    · have hjp : (0 : Int) < j := by omega
      have AL : Below wr.heap.size wr (wr.alloc (.cells #[.int .i64 0, .int .i64 1, .int .i64 1, .int .i64 2, .int .i64 200] 2)) := (Below.refl _ _).alloc (Nat.le_refl _) _
      have rl := row_lit wr [.int .i64 0, .int .i64 1, .int .i64 1, .int .i64 2, .int .i64 200] 2 5 1 rfl
      have OA := O.alloc (.cells #[.int .i64 0, .int .i64 1, .int .i64 1, .int .i64 2, .int .i64 200] 2)
      go_wp2_with fail
      refine (pick_sb (D.below AL) 5 rfl (by omega) (by omega) (by omega) _ _ [0, 1, 1, 2, 200] (by exact rl) (by omega)).mono ?_
      rintro e w2 ⟨x, rfl, D2, K2, z2⟩
      have O2 := owns_kept OA K2 (fun k e => by have := (OA.lt k e).1; omega)
      have hk2 := (hk.next AL).trans K2
      have hs2 := hk2.size
      have hO2 := fun k e => (O2.lt k e).2
      clear AL rl OA K2 z2 O D hk S
      have AB : Below w2.heap.size w2 (w2.alloc (.cells #[.int .i64 x, .int .i64 0] 55)) := (Below.refl _ _).alloc (Nat.le_refl _) _
      have O3 := O2.alloc (.cells #[.int .i64 x, .int .i64 0] 55)
      have D3 := D2.below AB
      have hk3 := hk2.next AB
      have c0 : (w2.alloc (.cells #[.int .i64 x, .int .i64 0] 55)).cell? ⟨w2.heap.size, 0, none⟩ = some (.int .i64 x) := by simp
      have c1 : (w2.alloc (.cells #[.int .i64 x, .int .i64 0] 55)).cell? ⟨w2.heap.size, 1, none⟩ = some (.int .i64 0) := by simp
      have f1 : (w2.alloc (.cells #[.int .i64 x, .int .i64 0] 55)).frozen? ⟨w2.heap.size, 1, none⟩ = false := by simp
      have hbs : w2.heap.size + 1 ≤ (w2.alloc (.cells #[.int .i64 x, .int .i64 0] 55)).heap.size := by simp
      clear AB D2 hk2 O2
      by_cases hx : 0 < x
      · go_wp2_with fail
        refine (big_sb D3 256 rfl (by omega) (by omega) (by omega)).mono ?_
        rintro e w3 ⟨y, rfl, D4, K4, z4⟩
        replace c0 := K4.cell c0 (by omega)
        replace c1 := K4.cell c1 (by omega)
        replace f1 := K4.frozen (by omega) (by omega) f1
        have O4 := owns_kept O3 K4 (fun k e => by have := (O3.lt k e).1; omega)
        have hk4 := hk3.trans K4
        have hs4 := K4.size
        clear O3 D3 K4 z4 hk3
        have K5 : Kept w2.heap.size (w2.heap.size + 1) w3 (w3.setCell ⟨w2.heap.size, 1, none⟩ (.int .i64 y)) := by refine Kept.setCell (Kept.refl _ _ _) ?_ ?_ _ <;> simp
        have O5 := owns_kept O4 K5 (fun k e => Or.inl (hO2 k e))
        have hk5 := hk4.low (K5.below w.heap.size (by omega) (by omega))
        have s5 := D4.src.kept K5 (Or.inl (by omega))
        have e0 : (w3.setCell ⟨w2.heap.size, 1, none⟩ (.int .i64 y)).cell? ⟨w2.heap.size, 0, none⟩ = some (.int .i64 x) := (World.cell?_setCell_other _ _ _ _ (by intro e; simp at e)).trans c0
        have e1 : (w3.setCell ⟨w2.heap.size, 1, none⟩ (.int .i64 y)).cell? ⟨w2.heap.size, 1, none⟩ = some (.int .i64 y) := World.cell?_setCell_same _ _ _ c1
        clear K5 O4 hk4 D4
        have OB := O5.alloc (.cells #[.int .i64 x, .int .i64 y] 55)
        have hsz : w.heap.size ≤ (w3.setCell ⟨w2.heap.size, 1, none⟩ (.int .i64 y)).heap.size := hk5.size
        have rn := row_lit (w3.setCell ⟨w2.heap.size, 1, none⟩ (.int .i64 y)) [.int .i64 x, .int .i64 y] 55 1 2 rfl
        rw [show (w3.setCell ⟨w2.heap.size, 1, none⟩ (.int .i64 y)).heap.size = w3.heap.size by simp] at rn
        have HNW : Hid _ := rn.news (by omega)
        clear rn
        go_wp2_with (first | (at_builtin; refine wpList_append_own _ rfl _ _ 47 rfl w.heap.size 55 j0 (.agg #[.int .i64 0, .int .i64 0]) 2 16 Try.underlying47 hj0 hy0 hy1 hy2 rfl (by decide) _ _ _ rfl OB ⟨w3.heap.size, 0, none⟩ 1 1 [.int .i64 x, .int .i64 y] rfl rfl ?d1 ?d2 ?d3 ?d4 ?d5 ?_))
        case d1 => exact HNW.out
        case d2 => intro u hu; simp at hu; rcases hu with rfl | rfl <;> rfl
        case d3 => unfold maxLen; omega
        case d4 => omega
        case d5 => simp at hsz ⊢; omega
        intro v2 w6 O6 hgrow _
        have B6 : Below w.heap.size (w3.setCell ⟨w2.heap.size, 1, none⟩ (.int .i64 y)) w6 := (((Below.refl _ _).alloc hsz _ : Below w.heap.size (w3.setCell ⟨w2.heap.size, 1, none⟩ (.int .i64 y)) _)).grown hgrow (by simp at hsz ⊢; omega) (fun g hg => (OB.lt g hg).1)
        have hk6 := hk5.low B6
        have s6 := SrcAt.low s5 B6 hg
        have O7 : w6.ownsRow w.heap.size 55 2 v2 (m + 1) (pairs (bl ++ [(x, y)])) := by rw [pairs_append]; simpa [pairs] using O6
        clear O6 hgrow OB B6
        go_wp2
        go_roundw
        case rel => exact ⟨j - 1, m + 1, q + 1 + 1, _, by go_num, by omega, by omega, O7, s6, hk6⟩
        case measure => simp [intOf]; omega
      · have s3 := D3.src
        have OB := O3.alloc (.cells #[.int .i64 x, .int .i64 0] 55)
        have hsz : w.heap.size ≤ (w2.alloc (.cells #[.int .i64 x, .int .i64 0] 55)).heap.size := hk3.size
        have rn := row_lit (w2.alloc (.cells #[.int .i64 x, .int .i64 0] 55)) [.int .i64 x, .int .i64 0] 55 1 2 rfl
        rw [show (w2.alloc (.cells #[.int .i64 x, .int .i64 0] 55)).heap.size = w2.heap.size + 1 by simp] at rn
        have HNW : Hid _ := rn.news (by omega)
        clear rn
        go_wp2_with (first | (at_builtin; refine wpList_append_own _ rfl _ _ 47 rfl w.heap.size 55 j0 (.agg #[.int .i64 0, .int .i64 0]) 2 16 Try.underlying47 hj0 hy0 hy1 hy2 rfl (by decide) _ _ _ rfl OB ⟨w2.heap.size + 1, 0, none⟩ 1 1 [.int .i64 x, .int .i64 0] rfl rfl ?d1 ?d2 ?d3 ?d4 ?d5 ?_))
        case d1 => exact HNW.out
        case d2 => intro u hu; simp at hu; rcases hu with rfl | rfl <;> rfl
        case d3 => unfold maxLen; omega
        case d4 => omega
        case d5 => simp at hsz ⊢; omega
        intro v2 w6 O6 hgrow _
        have B6 : Below w.heap.size (w2.alloc (.cells #[.int .i64 x, .int .i64 0] 55)) w6 := (((Below.refl _ _).alloc hsz _ : Below w.heap.size (w2.alloc (.cells #[.int .i64 x, .int .i64 0] 55)) _)).grown hgrow (by simp at hsz ⊢; omega) (fun g hg => (OB.lt g hg).1)
        have hk6 := hk3.low B6
        have s6 := SrcAt.low s3 B6 hg
        have O7 : w6.ownsRow w.heap.size 55 2 v2 (m + 1) (pairs (bl ++ [(x, 0)])) := by rw [pairs_append]; simpa [pairs] using O6
        clear O6 hgrow OB B6
        go_wp2
        go_roundw
        case rel => exact ⟨j - 1, m + 1, q + 1, _, by go_num, by omega, by omega, O7, s6, hk6⟩
        case measure => simp [intOf]; omega

end Go.Proofs.Ytkdaphfmhdkhfaa
