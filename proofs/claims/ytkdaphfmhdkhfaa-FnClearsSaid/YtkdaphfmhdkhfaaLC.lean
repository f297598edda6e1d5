/- A place that is cleared has nothing, all others have what they had: the walk of FnClears. -/
import Derived.Test.YtkdaphfmhdkhfaaYC
import Derived.Test.YtkdaphfmhdkhfaaZX
import Derived.Test.YtkdaphfmhdkhfaaZZ
import Derived.Test.YtkdaphfmhdkhfaaFacts2
namespace Go.Proofs.Ytkdaphfmhdkhfaa
open Go.RowKit

theorem nresField (c v : Int) (w : World) : (Instr.field 43 (.agg #[.int .i64 c, .int .i64 v]) 1).run Try.prog w = .ok (.int .i64 v) w := by kernel_rfl
theorem iresField (c : Int) (b0 : Option Addr) (m0 d0 : Nat) (w : World) : (Instr.field 37 (.agg #[.int .i64 c, .slice b0 m0 d0]) 1).run Try.prog w = .ok (.slice b0 m0 d0) w := by kernel_rfl
theorem fresCode (c a : Int) (b0 : Option Addr) (m0 d0 : Nat) (b1 : Option Addr) (m1 d1 : Nat) (w : World) : (Instr.field 64 (.agg #[.int .i64 c, .int .i64 a, .slice b0 m0 d0, .slice b1 m1 d1]) 0).run Try.prog w = .ok (.int .i64 c) w := by kernel_rfl
theorem fo_lens {w : World} {o : Bool} {l u : Nat} {an : Option Addr} {nn cn : Nat} {ab : Option Addr} {nb cb : Nat} {K : Nat → KS} {f : Fo} (h : FoAt w o l u an nn cn ab nb cb K f) {N : Nat} (hk : kl f.1 nn ≤ N) : ∀ i, i < nn → (K i).2.1 ≤ N := fun i hi => by
  have h1 := h.nodes.nKids hi
  have h2 := kl_at (ns := f.1) (i := i) (by rw [h.nodes.len]; exact hi)
  rw [h.nodes.len] at h2
  omega

set_option maxRecDepth 20000 in
set_option maxHeartbeats 8000000 in
theorem lawClears (ac : Option Addr) (nc cc : Nat) (cs : List Nat) (w : World) (h : RowAt w false 0 w.heap.size 1 ac nc cc (bys cs)) (hcs : ∀ i, cs.getD i 0 < 256) (hn : nc ≤ maxLen) :
    Calls Try.prog 6 #[.slice ac nc cc] w fun e w' => e = .returned (.bool true) ∧ Below w.heap.size w w' := by
  unfold maxLen at hn
  have B : Below w.heap.size w w := Below.refl _ _
  by_cases hbig : 1048576 < nc
  · go_enter Try.func6, Try.ntmps6
    go_wp2_with fail
    refine (lwBig_is ac nc cc _ true (by simp; exact hbig)).mono ?_
    rintro e w1 ⟨rfl, rfl⟩
    go_wp2
    go_ret
    exact ⟨rfl, B⟩
  have hc : nc ≤ 1048576 := by omega
  go_enter Try.func6, Try.ntmps6
  go_wp2_with fail
  refine (lwBig_is ac nc cc _ false (by simp; omega)).mono ?_
  rintro e w0 ⟨rfl, rfl⟩
  go_wp2_with fail
  refine (drawClear_any ac nc cc cs _ (by exact h) hcs (Nat.le_refl _) hc).mono ?_
  rintro e w1 ⟨an, nn, cn, ab, nb, cb, K, f, root, at', rfl, r0, hn0, hm0, hK0, hb⟩
  replace B := below_next B hb
  have S1 := hb.size
  clear hb
  go_wp2_with fail
  have A2 : Below w1.heap.size w1 (w1.alloc (.cells #[.slice an nn cn, .slice ab nb cb] 60)) := (Below.refl _ _).alloc (Nat.le_refl _) _
  replace r0 := r0.below A2
  replace B := below_next B A2
  have S3 := A2.size
  clear A2
  have fb0 : (w1.alloc (.cells #[.slice an nn cn, .slice ab nb cb] 60)).cell? ⟨w1.heap.size, 0, none⟩ = some (.slice an nn cn) := by simp
  have fb1 : (w1.alloc (.cells #[.slice an nn cn, .slice ab nb cb] 60)).cell? ⟨w1.heap.size, 1, none⟩ = some (.slice ab nb cb) := by simp
  have lfb : w1.heap.size < (w1.alloc (.cells #[.slice an nn cn, .slice ab nb cb] 60)).heap.size := by simp
  have HK0 : Hid _ := hK0
  clear hK0
  by_cases hk : clearTCode f root at' = 0
  rotate_left 1
  · obtain ⟨k, hkk⟩ : ∃ k, clearTCode f root at' = k := ⟨_, rfl⟩
    rw [hkk] at hk
    have hne : (k != 0) = true := by simp [hk]
    have HK : Hid _ := hkk
    obtain ⟨rt, hrt⟩ : ∃ rt, clearRootT f root at' = rt := ⟨_, rfl⟩
    have HRT : Hid _ := hrt
    clear hkk hk hrt
    go_wp2_with fail
    refine (implClearT_is an nn cn ab nb cb K f _ r0 hn0 hm0 HK0.out root at' k rt _ HK.out HRT.out rfl).mono ?_
    rintro e w2 ⟨pn, p1, p2, pb, p3, p4, pK, rfl, -, hb⟩
    replace fb0 := cell_later hb fb0
    replace fb1 := cell_later hb fb1
    replace r0 := r0.below hb
    replace lfb := Nat.lt_of_lt_of_le lfb hb.size
    replace B := below_next B hb
    have S4 := hb.size
    clear hb
    go_wp2_with fail
    have A5 : Below w2.heap.size w2 (w2.alloc (.cells #[.int .i64 k, .int .i64 rt, .slice pn p1 p2, .slice pb p3 p4] 64)) := (Below.refl _ _).alloc (Nat.le_refl _) _
    replace fb0 := cell_later A5 fb0
    replace fb1 := cell_later A5 fb1
    replace r0 := r0.below A5
    replace lfb := Nat.lt_of_lt_of_le lfb A5.size
    replace B := below_next B A5
    have S6 := A5.size
    clear A5
    have rb0 : (w2.alloc (.cells #[.int .i64 k, .int .i64 rt, .slice pn p1 p2, .slice pb p3 p4] 64)).cell? ⟨w2.heap.size, 0, none⟩ = some (.int .i64 k) := by simp
    have rb1 : (w2.alloc (.cells #[.int .i64 k, .int .i64 rt, .slice pn p1 p2, .slice pb p3 p4] 64)).cell? ⟨w2.heap.size, 1, none⟩ = some (.int .i64 rt) := by simp
    have rb2 : (w2.alloc (.cells #[.int .i64 k, .int .i64 rt, .slice pn p1 p2, .slice pb p3 p4] 64)).cell? ⟨w2.heap.size, 2, none⟩ = some (.slice pn p1 p2) := by simp
    have rb3 : (w2.alloc (.cells #[.int .i64 k, .int .i64 rt, .slice pn p1 p2, .slice pb p3 p4] 64)).cell? ⟨w2.heap.size, 3, none⟩ = some (.slice pb p3 p4) := by simp
    have lrb : w2.heap.size < (w2.alloc (.cells #[.int .i64 k, .int .i64 rt, .slice pn p1 p2, .slice pb p3 p4] 64)).heap.size := by simp
    have D4 : Below (w2.alloc (.cells #[.int .i64 k, .int .i64 rt, .slice pn p1 p2, .slice pb p3 p4] 64)).heap.size (w2.alloc (.cells #[.int .i64 k, .int .i64 rt, .slice pn p1 p2, .slice pb p3 p4] 64)) (w2.alloc (.cells #[.int .i64 k, .int .i64 rt, .slice pn p1 p2, .slice pb p3 p4] 64)).drew := (Below.refl _ _).drew
    replace fb0 := cell_later D4 fb0
    replace fb1 := cell_later D4 fb1
    replace rb0 := cell_later D4 rb0
    replace rb1 := cell_later D4 rb1
    replace rb2 := cell_later D4 rb2
    replace rb3 := cell_later D4 rb3
    replace r0 := r0.below D4
    replace lfb := Nat.lt_of_lt_of_le lfb D4.size
    replace lrb := Nat.lt_of_lt_of_le lrb D4.size
    replace B := below_next B D4
    have S7 := D4.size
    clear D4
    go_wp2_with fail
    go_region_held3 (fun w' => w'.cell? ⟨w1.heap.size, 0, none⟩ = some (.slice an nn cn) ∧ w'.cell? ⟨w1.heap.size, 1, none⟩ = some (.slice ab nb cb) ∧ w'.cell? ⟨w2.heap.size, 0, none⟩ = some (.int .i64 k)) (exact ⟨fb0, fb1, rb0⟩)
      (first | (go_at_call 67; refine (specClearT_is an nn cn ab nb cb K f _ r0 hn0 hm0 HK0.out root at' k rt _ HK.out HRT.out rfl).mono ?_; rintro e w4 ⟨qn, q1, q2, qb, q3, q4, qK, rfl, -, hb⟩; replace fb0 := cell_later hb fb0; replace fb1 := cell_later hb fb1; replace rb0 := cell_later hb rb0; replace rb1 := cell_later hb rb1; replace rb2 := cell_later hb rb2; replace rb3 := cell_later hb rb3; replace r0 := r0.below hb; replace lfb := Nat.lt_of_lt_of_le lfb hb.size; replace lrb := Nat.lt_of_lt_of_le lrb hb.size; replace B := below_next B hb; clear hb; have hfld := fresCode k rt qn q1 q2 qb q3 q4))
    go_wp2
    go_ret
    exact ⟨by first | rfl | exact ret_bool (by simp), B⟩
  obtain ⟨R, hR⟩ : ∃ R, (setPlace f root at' (-1)).1 = R := ⟨_, rfl⟩
  obtain ⟨G, hG⟩ : ∃ G, (setPlace f root at' (-1)).2.2 = G := ⟨_, rfl⟩
  have HLK : Hid _ := fun k k0 k1 => look_clear hk hR hG (k := k) k0 k1
  have HCL : Hid _ := clears hk hR hG
  have HRT : Hid (clearRootT f root at' = R) := by show _ = _; rw [clearRootT, hk]; exact hR
  have HFO : Hid (clearFo f root at' = G) := by show _ = _; rw [clearFo, hk]; exact hG
  have hgs : Lesser G := by rw [← HFO.out]; exact clear_size f root at'
  obtain ⟨hg1, hg2, hg3⟩ := hgs
  have HK : Hid _ := hk
  clear hR hG hk
  go_wp2_with fail
  refine (implClearT_is an nn cn ab nb cb K f _ r0 hn0 hm0 HK0.out root at' 0 R G HK.out HRT.out HFO.out).mono ?_
  rintro e w2 ⟨pn, p1, p2, pb, p3, p4, pK, rfl, d1, hb⟩
  replace fb0 := cell_later hb fb0
  replace fb1 := cell_later hb fb1
  replace r0 := r0.below hb
  replace lfb := Nat.lt_of_lt_of_le lfb hb.size
  replace B := below_next B hb
  have S8 := hb.size
  clear hb
  have hpL : p1 ≤ 2097152 := by rw [← d1.nodes.len]; omega
  have hpM : p3 ≤ 2097152 := by rw [← d1.blocks.nPairs]; omega
  have HPK : Hid _ := fo_lens d1 (N := 2097152) (by rw [← d1.nodes.len]; omega)
  go_wp2_with fail
  have A9 : Below w2.heap.size w2 (w2.alloc (.cells #[.int .i64 0, .int .i64 R, .slice pn p1 p2, .slice pb p3 p4] 64)) := (Below.refl _ _).alloc (Nat.le_refl _) _
  replace fb0 := cell_later A9 fb0
  replace fb1 := cell_later A9 fb1
  replace r0 := r0.below A9
  replace d1 := d1.below A9
  replace lfb := Nat.lt_of_lt_of_le lfb A9.size
  replace B := below_next B A9
  have S10 := A9.size
  clear A9
  have rb0 : (w2.alloc (.cells #[.int .i64 0, .int .i64 R, .slice pn p1 p2, .slice pb p3 p4] 64)).cell? ⟨w2.heap.size, 0, none⟩ = some (.int .i64 0) := by simp
  have rb1 : (w2.alloc (.cells #[.int .i64 0, .int .i64 R, .slice pn p1 p2, .slice pb p3 p4] 64)).cell? ⟨w2.heap.size, 1, none⟩ = some (.int .i64 R) := by simp
  have rb2 : (w2.alloc (.cells #[.int .i64 0, .int .i64 R, .slice pn p1 p2, .slice pb p3 p4] 64)).cell? ⟨w2.heap.size, 2, none⟩ = some (.slice pn p1 p2) := by simp
  have rb3 : (w2.alloc (.cells #[.int .i64 0, .int .i64 R, .slice pn p1 p2, .slice pb p3 p4] 64)).cell? ⟨w2.heap.size, 3, none⟩ = some (.slice pb p3 p4) := by simp
  have lrb : w2.heap.size < (w2.alloc (.cells #[.int .i64 0, .int .i64 R, .slice pn p1 p2, .slice pb p3 p4] 64)).heap.size := by simp
  generalize hW3 : (w2.alloc (.cells #[.int .i64 0, .int .i64 R, .slice pn p1 p2, .slice pb p3 p4] 64)) = W3 at *
  clear hW3
  go_wp2
  go_loopw [7] (fun i wq => ∃ j : Nat, j ≤ 16 ∧ i = .int .i64 j ∧ Below W3.heap.size W3 wq) (fun i _ => 16 - (intOf i).toNat)
  case atStart => exact ⟨0, by omega, rfl, Below.refl _ _⟩
  case round =>
    obtain ⟨j, hj, rfl, hq⟩ := hrel
    by_cases hlt : j < 16
    · have hlk : (j : Int) < 16 := by omega
      replace fb0 := cell_later hq fb0
      replace fb1 := cell_later hq fb1
      replace rb0 := cell_later hq rb0
      replace rb1 := cell_later hq rb1
      replace rb2 := cell_later hq rb2
      replace rb3 := cell_later hq rb3
      replace r0 := r0.below hq
      replace d1 := d1.below hq
      replace lfb := Nat.lt_of_lt_of_le lfb hq.size
      replace lrb := Nat.lt_of_lt_of_le lrb hq.size
      replace B := below_next B hq
      have S11 := hq.size
      have Q := hq
      clear hq
      have hLj := HLK.out (j : Int) (by omega) (by omega)
      obtain ⟨cd, hcd⟩ : ∃ cd, lookCode G R (j : Int) = cd := ⟨_, rfl⟩
      obtain ⟨vl, hvl⟩ : ∃ vl, lookVal G R (j : Int) = vl := ⟨_, rfl⟩
      rw [hcd, hvl] at hLj
      have HCD : Hid _ := hcd
      have HVL : Hid _ := hvl
      clear hcd hvl
      go_wp2_with fail
      refine (implLook_is pn p1 p2 pb p3 p4 pK G _ d1 hpL hpM HPK.out R (j : Int) cd vl HCD.out HVL.out).mono ?_
      rintro e w4 ⟨rfl, hb⟩
      replace fb0 := cell_later hb fb0
      replace fb1 := cell_later hb fb1
      replace rb0 := cell_later hb rb0
      replace rb1 := cell_later hb rb1
      replace rb2 := cell_later hb rb2
      replace rb3 := cell_later hb rb3
      replace r0 := r0.below hb
      replace d1 := d1.below hb
      replace lfb := Nat.lt_of_lt_of_le lfb hb.size
      replace lrb := Nat.lt_of_lt_of_le lrb hb.size
      replace B := below_next B hb
      replace Q := below_next Q hb
      have S12 := hb.size
      clear hb
      go_wp2_with fail
      have A13 : Below w4.heap.size w4 (w4.alloc (.cells #[.int .i64 cd, .int .i64 vl] 43)) := (Below.refl _ _).alloc (Nat.le_refl _) _
      replace fb0 := cell_later A13 fb0
      replace fb1 := cell_later A13 fb1
      replace rb0 := cell_later A13 rb0
      replace rb1 := cell_later A13 rb1
      replace rb2 := cell_later A13 rb2
      replace rb3 := cell_later A13 rb3
      replace r0 := r0.below A13
      replace d1 := d1.below A13
      replace lfb := Nat.lt_of_lt_of_le lfb A13.size
      replace lrb := Nat.lt_of_lt_of_le lrb A13.size
      replace B := below_next B A13
      replace Q := below_next Q A13
      have S14 := A13.size
      clear A13
      have lb0 : (w4.alloc (.cells #[.int .i64 cd, .int .i64 vl] 43)).cell? ⟨w4.heap.size, 0, none⟩ = some (.int .i64 cd) := by simp
      have lb1 : (w4.alloc (.cells #[.int .i64 cd, .int .i64 vl] 43)).cell? ⟨w4.heap.size, 1, none⟩ = some (.int .i64 vl) := by simp
      have llb : w4.heap.size < (w4.alloc (.cells #[.int .i64 cd, .int .i64 vl] 43)).heap.size := by simp
      by_cases je : (j : Int) = at'
      · subst je
        obtain rfl : cd = 4 := hLj.1 rfl
        clear hLj HCD
        go_wp2_with fail
        go_quiet (fail)
        go_wp2
        go_roundw
        case rel => exact ⟨j + 1, by omega, by go_num, below_next Q (below_drewN (Below.refl _ _) _)⟩
        case measure => simp [intOf]; omega
      · have je' : ((j : Int) == at') = false := by simp [je]
        have je2 : ((j : Int) != at') = true := by simp [je]
        have je3 : decide ((j : Int) = at') = false := decide_eq_false je
        obtain ⟨hl1, hl2⟩ := hLj.2 je
        have HL1 : Hid _ := hl1
        have HL2 : Hid _ := hl2
        clear hLj hl1 hl2 HCD HVL je
        have D5 : Below (w4.alloc (.cells #[.int .i64 cd, .int .i64 vl] 43)).heap.size (w4.alloc (.cells #[.int .i64 cd, .int .i64 vl] 43)) (w4.alloc (.cells #[.int .i64 cd, .int .i64 vl] 43)).drew := (Below.refl _ _).drew
        replace fb0 := cell_later D5 fb0
        replace fb1 := cell_later D5 fb1
        replace rb0 := cell_later D5 rb0
        replace rb1 := cell_later D5 rb1
        replace rb2 := cell_later D5 rb2
        replace rb3 := cell_later D5 rb3
        replace lb0 := cell_later D5 lb0
        replace lb1 := cell_later D5 lb1
        replace r0 := r0.below D5
        replace d1 := d1.below D5
        replace lfb := Nat.lt_of_lt_of_le lfb D5.size
        replace lrb := Nat.lt_of_lt_of_le lrb D5.size
        replace llb := Nat.lt_of_lt_of_le llb D5.size
        replace B := below_next B D5
        replace Q := below_next Q D5
        have S15 := D5.size
        clear D5
        go_wp2_with fail
        refine wp_region_held_drew (S := (fun w' => w'.cell? ⟨w1.heap.size, 0, none⟩ = some (.slice an nn cn) ∧ w'.cell? ⟨w1.heap.size, 1, none⟩ = some (.slice ab nb cb) ∧ w'.cell? ⟨w4.heap.size, 0, none⟩ = some (.int .i64 cd) ∧ w'.cell? ⟨w4.heap.size, 1, none⟩ = some (.int .i64 vl))) (by kernel_rfl) ⟨fb0, fb1, lb0, lb1⟩ (fun hHeld => ?_)
        refine wpAnyH_take (i := 0) (v := ?_) rfl (by kernel_rfl) (by kernel_rfl) (by kernel_rfl) (fun _ _ _ h => h) (Or.inl ⟨by rfl, ?_⟩) hHeld ?_
        rotate_left 1
        · intro w hSw
          try dsimp only at hSw
          first | (go_simp; done) | (go_simp; with_reducible rfl)
        simp only [Act.put, List.setIfInBounds_toArray, List.set_cons_zero, List.set_cons_succ, List.getElem_toArray, List.getElem_cons_zero]
        refine wpAnyH_take (i := 1) (v := ?_) rfl (by kernel_rfl) (by kernel_rfl) (by kernel_rfl) (fun _ _ _ h => h) (Or.inl ⟨by rfl, ?_⟩) hHeld ?_
        rotate_left 1
        · intro w hSw
          try dsimp only at hSw
          first | (go_simp; done) | (go_simp; with_reducible rfl)
        simp only [Act.put, List.setIfInBounds_toArray, List.set_cons_zero, List.set_cons_succ, List.getElem_toArray, List.getElem_cons_zero, List.getElem_cons_succ]
        refine wpAnyH_take (i := 2) (v := ?_) rfl (by kernel_rfl) (by kernel_rfl) (by kernel_rfl) (fun _ _ _ h => h) (Or.inl ⟨by rfl, ?_⟩) hHeld ?_
        rotate_left 1
        · intro w hSw
          try dsimp only at hSw
          first | (go_simp; done) | (go_simp; with_reducible rfl)
        simp only [Act.put, List.setIfInBounds_toArray, List.set_cons_zero, List.set_cons_succ, List.getElem_toArray, List.getElem_cons_zero, List.getElem_cons_succ]
        refine wpAnyH_take (i := 3) (v := ?_) rfl (by kernel_rfl) (by kernel_rfl) (by kernel_rfl) (fun _ _ _ h => h) (Or.inl ⟨by rfl, ?_⟩) hHeld ?_
        rotate_left 1
        · intro w hSw
          try dsimp only at hSw
          first | (go_simp; done) | (go_simp; with_reducible rfl)
        simp only [Act.put, List.setIfInBounds_toArray, List.set_cons_zero, List.set_cons_succ, List.getElem_toArray, List.getElem_cons_zero, List.getElem_cons_succ]
        refine wpAnyH_take (i := 4) (v := undef) rfl (by kernel_rfl) (by kernel_rfl) (by kernel_rfl) (fun _ _ _ h => h) (Or.inr ⟨by rfl, rfl⟩) hHeld ?_
        simp only [Act.put, List.setIfInBounds_toArray, List.set_cons_zero, List.set_cons_succ, List.getElem_toArray, List.getElem_cons_zero, List.getElem_cons_succ]
        refine wpAnyH_take (i := 5) (v := undef) rfl (by kernel_rfl) (by kernel_rfl) (by kernel_rfl) (fun _ _ _ h => h) (Or.inr ⟨by rfl, rfl⟩) hHeld ?_
        simp only [Act.put, List.setIfInBounds_toArray, List.set_cons_zero, List.set_cons_succ, List.getElem_toArray, List.getElem_cons_zero, List.getElem_cons_succ]
        refine wpAnyH_take (i := 6) (v := undef) rfl (by kernel_rfl) (by kernel_rfl) (by kernel_rfl) (fun _ _ _ h => h) (Or.inr ⟨by rfl, rfl⟩) hHeld ?_
        simp only [Act.put, List.setIfInBounds_toArray, List.set_cons_zero, List.set_cons_succ, List.getElem_toArray, List.getElem_cons_zero, List.getElem_cons_succ]
        refine wpAnyH_take (i := 7) (v := ?_) rfl (by kernel_rfl) (by kernel_rfl) (by kernel_rfl) (fun _ _ _ h => h) (Or.inl ⟨by rfl, ?_⟩) hHeld ?_
        rotate_left 1
        · intro w hSw
          try dsimp only at hSw
          first | (go_simp; done) | (go_simp; with_reducible rfl)
        simp only [Act.put, List.setIfInBounds_toArray, List.set_cons_zero, List.set_cons_succ, List.getElem_toArray, List.getElem_cons_zero, List.getElem_cons_succ]
        refine wpAnyH_take (i := 8) (v := ?_) rfl (by kernel_rfl) (by kernel_rfl) (by kernel_rfl) (fun _ _ _ h => h) (Or.inl ⟨by rfl, ?_⟩) hHeld ?_
        rotate_left 1
        · intro w hSw
          try dsimp only at hSw
          first | (go_simp; done) | (go_simp; with_reducible rfl)
        simp only [Act.put, List.setIfInBounds_toArray, List.set_cons_zero, List.set_cons_succ, List.getElem_toArray, List.getElem_cons_zero, List.getElem_cons_succ]
        refine wpAnyH_take (i := 9) (v := ?_) rfl (by kernel_rfl) (by kernel_rfl) (by kernel_rfl) (fun _ _ _ h => h) (Or.inl ⟨by rfl, ?_⟩) hHeld ?_
        rotate_left 1
        · intro w hSw
          try dsimp only at hSw
          first | (go_simp; done) | (go_simp; with_reducible rfl)
        simp only [Act.put, List.setIfInBounds_toArray, List.set_cons_zero, List.set_cons_succ, List.getElem_toArray, List.getElem_cons_zero, List.getElem_cons_succ]
        refine wpAnyH_take (i := 10) (v := ?_) rfl (by kernel_rfl) (by kernel_rfl) (by kernel_rfl) (fun _ _ _ h => h) (Or.inl ⟨by rfl, ?_⟩) hHeld ?_
        rotate_left 1
        · intro w hSw
          try dsimp only at hSw
          first | (go_simp; done) | (go_simp; with_reducible rfl)
        simp only [Act.put, List.setIfInBounds_toArray, List.set_cons_zero, List.set_cons_succ, List.getElem_toArray, List.getElem_cons_zero, List.getElem_cons_succ]
        refine wpAnyH_take (i := 11) (v := ?_) rfl (by kernel_rfl) (by kernel_rfl) (by kernel_rfl) (fun _ _ _ h => h) (Or.inl ⟨by rfl, ?_⟩) hHeld ?_
        rotate_left 1
        · intro w hSw
          try dsimp only at hSw
          first | (go_simp; done) | (go_simp; with_reducible rfl)
        simp only [Act.put, List.setIfInBounds_toArray, List.set_cons_zero, List.set_cons_succ, List.getElem_toArray, List.getElem_cons_zero, List.getElem_cons_succ]
        refine wpAnyH_take (i := 12) (v := ?_) rfl (by kernel_rfl) (by kernel_rfl) (by kernel_rfl) (fun _ _ _ h => h) (Or.inl ⟨by rfl, ?_⟩) hHeld ?_
        rotate_left 1
        · intro w hSw
          try dsimp only at hSw
          first | (go_simp; done) | (go_simp; with_reducible rfl)
        simp only [Act.put, List.setIfInBounds_toArray, List.set_cons_zero, List.set_cons_succ, List.getElem_toArray, List.getElem_cons_zero, List.getElem_cons_succ]
        refine wpAnyH_take (i := 13) (v := ?_) rfl (by kernel_rfl) (by kernel_rfl) (by kernel_rfl) (fun _ _ _ h => h) (Or.inl ⟨by rfl, ?_⟩) hHeld ?_
        rotate_left 1
        · intro w hSw
          try dsimp only at hSw
          first | (go_simp; done) | (go_simp; with_reducible rfl)
        simp only [Act.put, List.setIfInBounds_toArray, List.set_cons_zero, List.set_cons_succ, List.getElem_toArray, List.getElem_cons_zero, List.getElem_cons_succ]
        refine wpAnyH_take (i := 14) (v := ?_) rfl (by kernel_rfl) (by kernel_rfl) (by kernel_rfl) (fun _ _ _ h => h) (Or.inl ⟨by rfl, ?_⟩) hHeld ?_
        rotate_left 1
        · intro w hSw
          try dsimp only at hSw
          first | (go_simp; done) | (go_simp; with_reducible rfl)
        simp only [Act.put, List.setIfInBounds_toArray, List.set_cons_zero, List.set_cons_succ, List.getElem_toArray, List.getElem_cons_zero, List.getElem_cons_succ]
        refine wpAnyH_take (i := 15) (v := ?_) rfl (by kernel_rfl) (by kernel_rfl) (by kernel_rfl) (fun _ _ _ h => h) (Or.inl ⟨by rfl, ?_⟩) hHeld ?_
        rotate_left 1
        · intro w hSw
          try dsimp only at hSw
          first | (go_simp; done) | (go_simp; with_reducible rfl)
        simp only [Act.put, List.setIfInBounds_toArray, List.set_cons_zero, List.set_cons_succ, List.getElem_toArray, List.getElem_cons_zero, List.getElem_cons_succ]
        refine wpAnyH_take (i := 16) (v := ?_) rfl (by kernel_rfl) (by kernel_rfl) (by kernel_rfl) (fun _ _ _ h => h) (Or.inl ⟨by rfl, ?_⟩) hHeld ?_
        rotate_left 1
        · intro w hSw
          try dsimp only at hSw
          first | (go_simp; done) | (go_simp; with_reducible rfl)
        simp only [Act.put, List.setIfInBounds_toArray, List.set_cons_zero, List.set_cons_succ, List.getElem_toArray, List.getElem_cons_zero, List.getElem_cons_succ]
        refine wpAnyH_ready (rs := [17]) (by kernel_rfl) (by simp) ?_
        refine AllReadyH.cons rfl (fun KK hKK => ?_) AllReadyH.nil
        go_simp
        go_at_call 61
        refine (implLook_is an nn cn ab nb cb K f _ r0 hn0 hm0 HK0.out root (j : Int) cd vl HL1.out HL2.out).mono ?_
        rintro e w6 ⟨rfl, hb⟩
        replace fb0 := cell_later hb fb0
        replace fb1 := cell_later hb fb1
        replace rb0 := cell_later hb rb0
        replace rb1 := cell_later hb rb1
        replace rb2 := cell_later hb rb2
        replace rb3 := cell_later hb rb3
        replace lb0 := cell_later hb lb0
        replace lb1 := cell_later hb lb1
        replace r0 := r0.below hb
        replace d1 := d1.below hb
        replace lfb := Nat.lt_of_lt_of_le lfb hb.size
        replace lrb := Nat.lt_of_lt_of_le lrb hb.size
        replace llb := Nat.lt_of_lt_of_le llb hb.size
        replace B := below_next B hb
        replace Q := below_next Q hb
        clear hb hHeld
        refine hKK _ _ ⟨fb0, fb1, lb0, lb1⟩ (fun hHeld => ?_)
        clear hKK KK
        refine wpAnyH_take (i := 18) (v := ?_) rfl (by kernel_rfl) (by kernel_rfl) (by kernel_rfl) (fun _ _ _ h => h) (Or.inl ⟨by rfl, ?_⟩) hHeld ?_
        rotate_left 1
        · intro w hSw
          try dsimp only at hSw
          first | (go_simp; done) | (go_simp; with_reducible rfl)
        simp only [Act.put, List.setIfInBounds_toArray, List.set_cons_zero, List.set_cons_succ, List.getElem_toArray, List.getElem_cons_zero, List.getElem_cons_succ]
        refine wpAnyH_take (i := 19) (v := ?_) rfl (by kernel_rfl) (by kernel_rfl) (by kernel_rfl) (fun _ _ _ h => h) (Or.inl ⟨by rfl, ?_⟩) hHeld ?_
        rotate_left 1
        · intro w hSw
          try dsimp only at hSw
          first | (go_simp; done) | (go_simp; with_reducible rfl)
        simp only [Act.put, List.setIfInBounds_toArray, List.set_cons_zero, List.set_cons_succ, List.getElem_toArray, List.getElem_cons_zero, List.getElem_cons_succ]
        refine wpAnyH_take (i := 20) (v := ?_) rfl (by kernel_rfl) (by kernel_rfl) (by kernel_rfl) (fun _ _ _ h => h) (Or.inl ⟨by rfl, ?_⟩) hHeld ?_
        rotate_left 1
        · intro w hSw
          try dsimp only at hSw
          first | (go_simp; done) | (go_simp; with_reducible rfl)
        simp only [Act.put, List.setIfInBounds_toArray, List.set_cons_zero, List.set_cons_succ, List.getElem_toArray, List.getElem_cons_zero, List.getElem_cons_succ]
        refine wpAnyH_done (by kernel_rfl) ?_ _
        go_wp2
        go_roundw
        case rel => exact ⟨j + 1, by omega, by go_num, Q⟩
        case measure => simp [intOf]; omega
    · obtain rfl : j = 16 := by omega
      replace fb0 := cell_later hq fb0
      replace fb1 := cell_later hq fb1
      replace rb0 := cell_later hq rb0
      replace rb1 := cell_later hq rb1
      replace rb2 := cell_later hq rb2
      replace rb3 := cell_later hq rb3
      replace r0 := r0.below hq
      replace d1 := d1.below hq
      replace lfb := Nat.lt_of_lt_of_le lfb hq.size
      replace lrb := Nat.lt_of_lt_of_le lrb hq.size
      replace B := below_next B hq
      have S16 := hq.size
      clear hq HLK
      obtain ⟨hF, hN0, hNF, hFr, hWk⟩ := HCL.out
      have hbl := r0.blocks.nPairs
      rw [hbl] at hN0 hNF
      obtain ⟨nf, hnf⟩ : ∃ nf, newFoList (nb : Int) = nf := ⟨_, rfl⟩
      have hns : Lesser nf := by rw [← hnf]; exact newF_size _
      obtain ⟨hs1, hs2, hs3⟩ := hns
      rw [hnf] at hNF
      have HN0 : Hid _ := hN0
      have HNR : Hid ((if newBCode (nb : Int) = 0 then (-1 : Int) else 0) = -1) := by show _ = _; rw [hN0]; rfl
      have HNF : Hid _ := hnf
      have HF : Hid _ := hF
      have HFN : Hid _ := hNF
      clear hN0 hnf hF hNF HCL hbl
      go_wp2_with fail
      refine (implNewF_is (nb : Int) _ 0 (-1) nf HN0.out HNR.out HNF.out).mono ?_
      rintro e w7 ⟨yn, y1, y2, yb, y3, y4, yK, rfl, d2, hb⟩
      replace fb0 := cell_later hb fb0
      replace fb1 := cell_later hb fb1
      replace rb0 := cell_later hb rb0
      replace rb1 := cell_later hb rb1
      replace rb2 := cell_later hb rb2
      replace rb3 := cell_later hb rb3
      replace r0 := r0.below hb
      replace d1 := d1.below hb
      replace lfb := Nat.lt_of_lt_of_le lfb hb.size
      replace lrb := Nat.lt_of_lt_of_le lrb hb.size
      replace B := below_next B hb
      have S17 := hb.size
      clear hb
      have hyL : y1 ≤ 2097152 := by rw [← d2.nodes.len]; omega
      have hyM : y3 ≤ 2097152 := by rw [← d2.blocks.nPairs]; omega
      have HYK : Hid _ := fo_lens d2 (N := 2097152) (by rw [← d2.nodes.len]; omega)
      go_wp2_with fail
      have A18 : Below w7.heap.size w7 (w7.alloc (.cells #[.int .i64 0, .int .i64 (-1), .slice yn y1 y2, .slice yb y3 y4] 64)) := (Below.refl _ _).alloc (Nat.le_refl _) _
      replace fb0 := cell_later A18 fb0
      replace fb1 := cell_later A18 fb1
      replace rb0 := cell_later A18 rb0
      replace rb1 := cell_later A18 rb1
      replace rb2 := cell_later A18 rb2
      replace rb3 := cell_later A18 rb3
      replace r0 := r0.below A18
      replace d1 := d1.below A18
      replace d2 := d2.below A18
      replace lfb := Nat.lt_of_lt_of_le lfb A18.size
      replace lrb := Nat.lt_of_lt_of_le lrb A18.size
      replace B := below_next B A18
      have S19 := A18.size
      clear A18
      have yb0 : (w7.alloc (.cells #[.int .i64 0, .int .i64 (-1), .slice yn y1 y2, .slice yb y3 y4] 64)).cell? ⟨w7.heap.size, 0, none⟩ = some (.int .i64 0) := by simp
      have yb1 : (w7.alloc (.cells #[.int .i64 0, .int .i64 (-1), .slice yn y1 y2, .slice yb y3 y4] 64)).cell? ⟨w7.heap.size, 1, none⟩ = some (.int .i64 (-1)) := by simp
      have yb2 : (w7.alloc (.cells #[.int .i64 0, .int .i64 (-1), .slice yn y1 y2, .slice yb y3 y4] 64)).cell? ⟨w7.heap.size, 2, none⟩ = some (.slice yn y1 y2) := by simp
      have yb3 : (w7.alloc (.cells #[.int .i64 0, .int .i64 (-1), .slice yn y1 y2, .slice yb y3 y4] 64)).cell? ⟨w7.heap.size, 3, none⟩ = some (.slice yb y3 y4) := by simp
      have lyb : w7.heap.size < (w7.alloc (.cells #[.int .i64 0, .int .i64 (-1), .slice yn y1 y2, .slice yb y3 y4] 64)).heap.size := by simp
      obtain ⟨vf, hvf⟩ : ∃ v, freeVal f.2 = v := ⟨_, rfl⟩
      obtain ⟨vg, hvg⟩ : ∃ v, freeVal G.2 = v := ⟨_, rfl⟩
      rw [hvf, hvg] at hFr
      obtain ⟨bf, hbf⟩ : ∃ v, blkFault f.2 = v := ⟨_, rfl⟩
      obtain ⟨bg, hbg⟩ : ∃ v, blkFault G.2 = v := ⟨_, rfl⟩
      have HVF : Hid _ := hvf
      have HVG : Hid _ := hvg
      have HBF : Hid _ := hbf
      have HBG : Hid _ := hbg
      have hwl := walk_len f root
      obtain ⟨lf, hlf⟩ : ∃ v, (walkList f root).length = v := ⟨_, rfl⟩
      obtain ⟨lg, hlg⟩ : ∃ v, (walkList G R).length = v := ⟨_, rfl⟩
      obtain ⟨tf, htf⟩ : ∃ v, treeCode f root 0 = v := ⟨_, rfl⟩
      obtain ⟨tg, htg⟩ : ∃ v, treeCode G R 0 = v := ⟨_, rfl⟩
      have HTF : Hid _ := htf
      have HTG : Hid _ := htg
      rw [hlf] at hwl hWk
      rw [hlg] at hWk
      have HLF : Hid _ := hlf
      have HLG : Hid _ := hlg
      have q9 : IntKind.i64.wrap ((lf : Int) - 2) = (lg : Int) := by rw [wrapI_same _ (by omega)]; omega
      have q8 : ((lg : Int) == (lg : Int)) = true := by simp
      clear hvf hvg hbf hbg hlf hlg htf htg hWk
      have g1 := nresField bg vg
      have g2 := nresField bf vf
      have D8 : Below (w7.alloc (.cells #[.int .i64 0, .int .i64 (-1), .slice yn y1 y2, .slice yb y3 y4] 64)).heap.size (w7.alloc (.cells #[.int .i64 0, .int .i64 (-1), .slice yn y1 y2, .slice yb y3 y4] 64)) (w7.alloc (.cells #[.int .i64 0, .int .i64 (-1), .slice yn y1 y2, .slice yb y3 y4] 64)).drew := (Below.refl _ _).drew
      replace fb0 := cell_later D8 fb0
      replace fb1 := cell_later D8 fb1
      replace rb0 := cell_later D8 rb0
      replace rb1 := cell_later D8 rb1
      replace rb2 := cell_later D8 rb2
      replace rb3 := cell_later D8 rb3
      replace yb0 := cell_later D8 yb0
      replace yb1 := cell_later D8 yb1
      replace yb2 := cell_later D8 yb2
      replace yb3 := cell_later D8 yb3
      replace r0 := r0.below D8
      replace d1 := d1.below D8
      replace d2 := d2.below D8
      replace lfb := Nat.lt_of_lt_of_le lfb D8.size
      replace lrb := Nat.lt_of_lt_of_le lrb D8.size
      replace lyb := Nat.lt_of_lt_of_le lyb D8.size
      replace B := below_next B D8
      have S20 := D8.size
      clear D8
      go_wp2_with fail
      go_region_held3 (fun w' => w'.cell? ⟨w1.heap.size, 0, none⟩ = some (.slice an nn cn) ∧ w'.cell? ⟨w1.heap.size, 1, none⟩ = some (.slice ab nb cb) ∧ w'.cell? ⟨w2.heap.size, 1, none⟩ = some (.int .i64 R) ∧ w'.cell? ⟨w2.heap.size, 2, none⟩ = some (.slice pn p1 p2) ∧ w'.cell? ⟨w2.heap.size, 3, none⟩ = some (.slice pb p3 p4) ∧ w'.cell? ⟨w7.heap.size, 0, none⟩ = some (.int .i64 0) ∧ w'.cell? ⟨w7.heap.size, 2, none⟩ = some (.slice yn y1 y2) ∧ w'.cell? ⟨w7.heap.size, 3, none⟩ = some (.slice yb y3 y4)) (exact ⟨fb0, fb1, rb1, rb2, rb3, yb0, yb2, yb3⟩)
        (first | (go_at_call 63; (with_reducible refine (implFF_b pn p1 p2 pb p3 p4 pK G _ d1 hpL hpM HPK.out 0 HF.out).mono ?_); rintro e wa ⟨rfl, hb⟩; replace fb0 := cell_later hb fb0; replace fb1 := cell_later hb fb1; replace rb0 := cell_later hb rb0; replace rb1 := cell_later hb rb1; replace rb2 := cell_later hb rb2; replace rb3 := cell_later hb rb3; replace yb0 := cell_later hb yb0; replace yb1 := cell_later hb yb1; replace yb2 := cell_later hb yb2; replace yb3 := cell_later hb yb3; replace r0 := r0.below hb; replace d1 := d1.below hb; replace d2 := d2.below hb; replace lfb := Nat.lt_of_lt_of_le lfb hb.size; replace lrb := Nat.lt_of_lt_of_le lrb hb.size; replace lyb := Nat.lt_of_lt_of_le lyb hb.size; replace B := below_next B hb; clear hb) | (go_at_call 63; (with_reducible refine (implFF_b yn y1 y2 yb y3 y4 yK nf _ d2 hyL hyM HYK.out 0 HFN.out).mono ?_); rintro e wb ⟨rfl, hb⟩; replace fb0 := cell_later hb fb0; replace fb1 := cell_later hb fb1; replace rb0 := cell_later hb rb0; replace rb1 := cell_later hb rb1; replace rb2 := cell_later hb rb2; replace rb3 := cell_later hb rb3; replace yb0 := cell_later hb yb0; replace yb1 := cell_later hb yb1; replace yb2 := cell_later hb yb2; replace yb3 := cell_later hb yb3; replace r0 := r0.below hb; replace d1 := d1.below hb; replace d2 := d2.below hb; replace lfb := Nat.lt_of_lt_of_le lfb hb.size; replace lrb := Nat.lt_of_lt_of_le lrb hb.size; replace lyb := Nat.lt_of_lt_of_le lyb hb.size; replace B := below_next B hb; clear hb) | (go_at_call 50; (with_reducible refine (implFree_is pb p3 p4 G.2 _ d1.blocks hpM bg vg HBG.out HVG.out).mono ?_); rintro e wc ⟨rfl, hb⟩; replace fb0 := cell_later hb fb0; replace fb1 := cell_later hb fb1; replace rb0 := cell_later hb rb0; replace rb1 := cell_later hb rb1; replace rb2 := cell_later hb rb2; replace rb3 := cell_later hb rb3; replace yb0 := cell_later hb yb0; replace yb1 := cell_later hb yb1; replace yb2 := cell_later hb yb2; replace yb3 := cell_later hb yb3; replace r0 := r0.below hb; replace d1 := d1.below hb; replace d2 := d2.below hb; replace lfb := Nat.lt_of_lt_of_le lfb hb.size; replace lrb := Nat.lt_of_lt_of_le lrb hb.size; replace lyb := Nat.lt_of_lt_of_le lyb hb.size; replace B := below_next B hb; clear hb) | (go_at_call 50; (with_reducible refine (implFree_is ab nb cb f.2 _ r0.blocks hm0 bf vf HBF.out HVF.out).mono ?_); rintro e wd ⟨rfl, hb⟩; replace fb0 := cell_later hb fb0; replace fb1 := cell_later hb fb1; replace rb0 := cell_later hb rb0; replace rb1 := cell_later hb rb1; replace rb2 := cell_later hb rb2; replace rb3 := cell_later hb rb3; replace yb0 := cell_later hb yb0; replace yb1 := cell_later hb yb1; replace yb2 := cell_later hb yb2; replace yb3 := cell_later hb yb3; replace r0 := r0.below hb; replace d1 := d1.below hb; replace d2 := d2.below hb; replace lfb := Nat.lt_of_lt_of_le lfb hb.size; replace lrb := Nat.lt_of_lt_of_le lrb hb.size; replace lyb := Nat.lt_of_lt_of_le lyb hb.size; replace B := below_next B hb; clear hb) | (go_at_call 60; (with_reducible refine (implWalk_is pn p1 p2 pb p3 p4 pK G _ d1 hpL hpM HPK.out R tg _ HTG.out rfl).mono ?_); rintro e we ⟨ea, en, ec, rfl, eR, hb⟩; replace fb0 := cell_later hb fb0; replace fb1 := cell_later hb fb1; replace rb0 := cell_later hb rb0; replace rb1 := cell_later hb rb1; replace rb2 := cell_later hb rb2; replace rb3 := cell_later hb rb3; replace yb0 := cell_later hb yb0; replace yb1 := cell_later hb yb1; replace yb2 := cell_later hb yb2; replace yb3 := cell_later hb yb3; replace r0 := r0.below hb; replace d1 := d1.below hb; replace d2 := d2.below hb; replace lfb := Nat.lt_of_lt_of_le lfb hb.size; replace lrb := Nat.lt_of_lt_of_le lrb hb.size; replace lyb := Nat.lt_of_lt_of_le lyb hb.size; replace B := below_next B hb; clear hb; (obtain rfl : lg = en := (by rw [← eR.nInts]; exact HLG.out.symm)); clear eR; have g3 := iresField tg ea lg ec) | (go_at_call 60; (with_reducible refine (implWalk_is an nn cn ab nb cb K f _ r0 hn0 hm0 HK0.out root tf _ HTF.out rfl).mono ?_); rintro e wf ⟨ea, en, ec, rfl, eR, hb⟩; replace fb0 := cell_later hb fb0; replace fb1 := cell_later hb fb1; replace rb0 := cell_later hb rb0; replace rb1 := cell_later hb rb1; replace rb2 := cell_later hb rb2; replace rb3 := cell_later hb rb3; replace yb0 := cell_later hb yb0; replace yb1 := cell_later hb yb1; replace yb2 := cell_later hb yb2; replace yb3 := cell_later hb yb3; replace r0 := r0.below hb; replace d1 := d1.below hb; replace d2 := d2.below hb; replace lfb := Nat.lt_of_lt_of_le lfb hb.size; replace lrb := Nat.lt_of_lt_of_le lrb hb.size; replace lyb := Nat.lt_of_lt_of_le lyb hb.size; replace B := below_next B hb; clear hb; (obtain rfl : lf = en := (by rw [← eR.nInts]; exact HLF.out.symm)); clear eR; have g4 := iresField tf ea lf ec))
      go_wp2
      go_ret
      exact ⟨by first | rfl | exact ret_bool (by simp), B⟩

end Go.Proofs.Ytkdaphfmhdkhfaa
