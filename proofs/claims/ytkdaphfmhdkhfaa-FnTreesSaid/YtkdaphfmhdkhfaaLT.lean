/- A tree that is set has what it had and the new one, all others are as they were: the walk of FnTrees. -/
import Derived.Test.YtkdaphfmhdkhfaaYC
import Derived.Test.YtkdaphfmhdkhfaaZX
import Derived.Test.YtkdaphfmhdkhfaaZZ
import Derived.Test.YtkdaphfmhdkhfaaFacts2
namespace Go.Proofs.Ytkdaphfmhdkhfaa
open Go.RowKit

theorem iresField (c : Int) (b0 : Option Addr) (m0 d0 : Nat) (w : World) : (Instr.field 37 (.agg #[.int .i64 c, .slice b0 m0 d0]) 1).run Try.prog w = .ok (.slice b0 m0 d0) w := by kernel_rfl
theorem fresCode (c a : Int) (b0 : Option Addr) (m0 d0 : Nat) (b1 : Option Addr) (m1 d1 : Nat) (w : World) : (Instr.field 64 (.agg #[.int .i64 c, .int .i64 a, .slice b0 m0 d0, .slice b1 m1 d1]) 0).run Try.prog w = .ok (.int .i64 c) w := by kernel_rfl
theorem fo_lens {w : World} {o : Bool} {l u : Nat} {an : Option Addr} {nn cn : Nat} {ab : Option Addr} {nb cb : Nat} {K : Nat → KS} {f : Fo} (h : FoAt w o l u an nn cn ab nb cb K f) {N : Nat} (hk : kl f.1 nn ≤ N) : ∀ i, i < nn → (K i).2.1 ≤ N := fun i hi => by
  have h1 := h.nodes.nKids hi
  have h2 := kl_at (ns := f.1) (i := i) (by rw [h.nodes.len]; exact hi)
  rw [h.nodes.len] at h2
  omega

set_option maxRecDepth 20000 in
set_option maxHeartbeats 8000000 in
theorem lawTrees (ac : Option Addr) (nc cc : Nat) (cs : List Nat) (w : World) (h : RowAt w false 0 w.heap.size 1 ac nc cc (bys cs)) (hcs : ∀ i, cs.getD i 0 < 256) (hn : nc ≤ maxLen) :
    Calls Try.prog 5 #[.slice ac nc cc] w fun e w' => e = .returned (.bool true) ∧ Below w.heap.size w w' := by
  unfold maxLen at hn
  have B : Below w.heap.size w w := Below.refl _ _
  by_cases hbig : 1048576 < nc
  · go_enter Try.func5, Try.ntmps5
    go_wp2_with fail
    refine (lwBig_is ac nc cc _ true (by simp; exact hbig)).mono ?_
    rintro e w1 ⟨rfl, rfl⟩
    go_wp2
    go_ret
    exact ⟨rfl, B⟩
  have hc : nc ≤ 1048576 := by omega
  go_enter Try.func5, Try.ntmps5
  go_wp2_with fail
  refine (lwBig_is ac nc cc _ false (by simp; omega)).mono ?_
  rintro e w0 ⟨rfl, rfl⟩
  go_wp2_with fail
  refine (drawSet_any ac nc cc cs _ (by exact h) hcs (Nat.le_refl _) hc).mono ?_
  rintro e w1 ⟨an, nn, cn, ab, nb, cb, K, f, root, at', x, rfl, r0, hn0, hm0, hK0, hb⟩
  replace B := below_next B hb
  have S1 := hb.size
  clear hb
  go_wp2_with fail
  have A2 : Below w1.heap.size w1 (w1.alloc (.cells #[.slice an nn cn, .slice ab nb cb] 60)) := (Below.refl _ _).alloc (Nat.le_refl _) _
  replace r0 := r0.below A2
  replace B := below_next B A2
  have S3 := A2.size
  clear A2
  have fb0 : (w1.alloc (.cells #[.slice an nn cn, .slice ab nb cb] 60)).cell? ⟨w1.heap.size, 0, none⟩ = some (.slice an nn cn) := by simp
  have fb1 : (w1.alloc (.cells #[.slice an nn cn, .slice ab nb cb] 60)).cell? ⟨w1.heap.size, 1, none⟩ = some (.slice ab nb cb) := by simp
  have lfb : w1.heap.size < (w1.alloc (.cells #[.slice an nn cn, .slice ab nb cb] 60)).heap.size := by simp
  have HK0 : Hid _ := hK0
  clear hK0
  by_cases hk : shareTCode f root = 0
  rotate_left 1
  · obtain ⟨k, hkk⟩ : ∃ k, shareTCode f root = k := ⟨_, rfl⟩
    rw [hkk] at hk
    have hne : (k != 0) = true := by simp [hk]
    have HK : Hid _ := hkk
    obtain ⟨rt, hrt⟩ : ∃ rt, atIf (shareTCode f root) root = rt := ⟨_, rfl⟩
    have HRT : Hid _ := hrt
    obtain ⟨c2, hc2⟩ : ∃ c2, setTCode f root at' x = c2 := ⟨_, rfl⟩
    have HC2 : Hid _ := hc2
    obtain ⟨t2, ht2⟩ : ∃ t2, setRootT f root at' x = t2 := ⟨_, rfl⟩
    have HT2 : Hid _ := ht2
    clear hkk hk hrt hc2 ht2
    have e1 : (k == k) = true := by simp
    have e2 : (c2 == c2) = true := by simp
    go_wp2_with fail
    refine (implShareT_is an nn cn ab nb cb K f _ r0 hn0 hm0 HK0.out root k rt _ HK.out HRT.out rfl).mono ?_
    rintro e w2 ⟨pn, p1, p2, pb, p3, p4, pK, rfl, -, hb⟩
    replace fb0 := cell_later hb fb0
    replace fb1 := cell_later hb fb1
    replace r0 := r0.below hb
    replace lfb := Nat.lt_of_lt_of_le lfb hb.size
    replace B := below_next B hb
    have S4 := hb.size
    clear hb
    go_wp2_with fail
    have A5 : Below w2.heap.size w2 (w2.alloc (.cells #[.int .i64 k, .int .i64 rt, .slice pn p1 p2, .slice pb p3 p4] 64)) := (Below.refl _ _).alloc (Nat.le_refl _) _
    replace fb0 := cell_later A5 fb0
    replace fb1 := cell_later A5 fb1
    replace r0 := r0.below A5
    replace lfb := Nat.lt_of_lt_of_le lfb A5.size
    replace B := below_next B A5
    have S6 := A5.size
    clear A5
    have rb0 : (w2.alloc (.cells #[.int .i64 k, .int .i64 rt, .slice pn p1 p2, .slice pb p3 p4] 64)).cell? ⟨w2.heap.size, 0, none⟩ = some (.int .i64 k) := by simp
    have rb1 : (w2.alloc (.cells #[.int .i64 k, .int .i64 rt, .slice pn p1 p2, .slice pb p3 p4] 64)).cell? ⟨w2.heap.size, 1, none⟩ = some (.int .i64 rt) := by simp
    have rb2 : (w2.alloc (.cells #[.int .i64 k, .int .i64 rt, .slice pn p1 p2, .slice pb p3 p4] 64)).cell? ⟨w2.heap.size, 2, none⟩ = some (.slice pn p1 p2) := by simp
    have rb3 : (w2.alloc (.cells #[.int .i64 k, .int .i64 rt, .slice pn p1 p2, .slice pb p3 p4] 64)).cell? ⟨w2.heap.size, 3, none⟩ = some (.slice pb p3 p4) := by simp
    have lrb : w2.heap.size < (w2.alloc (.cells #[.int .i64 k, .int .i64 rt, .slice pn p1 p2, .slice pb p3 p4] 64)).heap.size := by simp
    have D4 : Below (w2.alloc (.cells #[.int .i64 k, .int .i64 rt, .slice pn p1 p2, .slice pb p3 p4] 64)).heap.size (w2.alloc (.cells #[.int .i64 k, .int .i64 rt, .slice pn p1 p2, .slice pb p3 p4] 64)) (w2.alloc (.cells #[.int .i64 k, .int .i64 rt, .slice pn p1 p2, .slice pb p3 p4] 64)).drew := (Below.refl _ _).drew
    replace fb0 := cell_later D4 fb0
    replace fb1 := cell_later D4 fb1
    replace rb0 := cell_later D4 rb0
    replace rb1 := cell_later D4 rb1
    replace rb2 := cell_later D4 rb2
    replace rb3 := cell_later D4 rb3
    replace r0 := r0.below D4
    replace lfb := Nat.lt_of_lt_of_le lfb D4.size
    replace lrb := Nat.lt_of_lt_of_le lrb D4.size
    replace B := below_next B D4
    have S7 := D4.size
    clear D4
    go_wp2_with fail
    go_region_held3 (fun w' => w'.cell? ⟨w1.heap.size, 0, none⟩ = some (.slice an nn cn) ∧ w'.cell? ⟨w1.heap.size, 1, none⟩ = some (.slice ab nb cb) ∧ w'.cell? ⟨w2.heap.size, 0, none⟩ = some (.int .i64 k)) (exact ⟨fb0, fb1, rb0⟩)
      (first | (go_at_call 57; (with_reducible refine (specShareT_is an nn cn ab nb cb K f _ r0 hn0 hm0 HK0.out root k rt _ HK.out HRT.out rfl).mono ?_); rintro e w4 ⟨qn, q1, q2, qb, q3, q4, qK, rfl, -, hb⟩; replace fb0 := cell_later hb fb0; replace fb1 := cell_later hb fb1; replace rb0 := cell_later hb rb0; replace rb1 := cell_later hb rb1; replace rb2 := cell_later hb rb2; replace rb3 := cell_later hb rb3; replace r0 := r0.below hb; replace lfb := Nat.lt_of_lt_of_le lfb hb.size; replace lrb := Nat.lt_of_lt_of_le lrb hb.size; replace B := below_next B hb; clear hb; have hfld := fresCode k rt qn q1 q2 qb q3 q4) | (go_at_call 58; (with_reducible refine (implSetT_is an nn cn ab nb cb K f _ r0 hn0 hm0 HK0.out root at' x c2 t2 _ HC2.out HT2.out rfl).mono ?_); rintro e w5 ⟨un, u1, u2, ub, u3, u4, uK, rfl, -, hb⟩; replace fb0 := cell_later hb fb0; replace fb1 := cell_later hb fb1; replace rb0 := cell_later hb rb0; replace rb1 := cell_later hb rb1; replace rb2 := cell_later hb rb2; replace rb3 := cell_later hb rb3; replace r0 := r0.below hb; replace lfb := Nat.lt_of_lt_of_le lfb hb.size; replace lrb := Nat.lt_of_lt_of_le lrb hb.size; replace B := below_next B hb; clear hb; have hfl2 := fresCode c2 t2 un u1 u2 ub u3 u4) | (go_at_call 59; (with_reducible refine (specSetT_is an nn cn ab nb cb K f _ r0 hn0 hm0 HK0.out root at' x c2 t2 _ HC2.out HT2.out rfl).mono ?_); rintro e w6 ⟨vn, v1, v2, vb, v3, v4, vK, rfl, -, hb⟩; replace fb0 := cell_later hb fb0; replace fb1 := cell_later hb fb1; replace rb0 := cell_later hb rb0; replace rb1 := cell_later hb rb1; replace rb2 := cell_later hb rb2; replace rb3 := cell_later hb rb3; replace r0 := r0.below hb; replace lfb := Nat.lt_of_lt_of_le lfb hb.size; replace lrb := Nat.lt_of_lt_of_le lrb hb.size; replace B := below_next B hb; clear hb; have hfl3 := fresCode c2 t2 vn v1 v2 vb v3 v4))
    go_wp2
    go_ret
    exact ⟨by first | rfl | exact ret_bool (by simp), B⟩
  obtain ⟨F, hF⟩ : ∃ F, shareF f root = F := ⟨_, rfl⟩
  have HFO : Hid (shareFo f root = F) := by show _ = _; rw [shareFo, hk]; exact hF
  have HRT : Hid (atIf (shareTCode f root) root = root) := by show _ = _; rw [hk]; rfl
  have hfs : Lesser F := by rw [← HFO.out]; exact share_size f root
  obtain ⟨hf1, hf2, hf3⟩ := hfs
  have HK : Hid _ := hk
  have HFS : Hid _ := hF
  clear hk hF
  go_wp2_with fail
  refine (implShareT_is an nn cn ab nb cb K f _ r0 hn0 hm0 HK0.out root 0 root F HK.out HRT.out HFO.out).mono ?_
  rintro e w2 ⟨pn, p1, p2, pb, p3, p4, pK, rfl, d1, hb⟩
  replace fb0 := cell_later hb fb0
  replace fb1 := cell_later hb fb1
  replace r0 := r0.below hb
  replace lfb := Nat.lt_of_lt_of_le lfb hb.size
  replace B := below_next B hb
  have S8 := hb.size
  clear hb
  have pL : p1 ≤ 2097152 := by rw [← d1.nodes.len]; omega
  have pM : p3 ≤ 2097152 := by rw [← d1.blocks.nPairs]; omega
  have pX : Hid _ := fo_lens d1 (N := 2097152) (by rw [← d1.nodes.len]; omega)
  go_wp2_with fail
  have A9 : Below w2.heap.size w2 (w2.alloc (.cells #[.int .i64 0, .int .i64 root, .slice pn p1 p2, .slice pb p3 p4] 64)) := (Below.refl _ _).alloc (Nat.le_refl _) _
  replace fb0 := cell_later A9 fb0
  replace fb1 := cell_later A9 fb1
  replace r0 := r0.below A9
  replace d1 := d1.below A9
  replace lfb := Nat.lt_of_lt_of_le lfb A9.size
  replace B := below_next B A9
  have S10 := A9.size
  clear A9
  have rb0 : (w2.alloc (.cells #[.int .i64 0, .int .i64 root, .slice pn p1 p2, .slice pb p3 p4] 64)).cell? ⟨w2.heap.size, 0, none⟩ = some (.int .i64 0) := by simp
  have rb1 : (w2.alloc (.cells #[.int .i64 0, .int .i64 root, .slice pn p1 p2, .slice pb p3 p4] 64)).cell? ⟨w2.heap.size, 1, none⟩ = some (.int .i64 root) := by simp
  have rb2 : (w2.alloc (.cells #[.int .i64 0, .int .i64 root, .slice pn p1 p2, .slice pb p3 p4] 64)).cell? ⟨w2.heap.size, 2, none⟩ = some (.slice pn p1 p2) := by simp
  have rb3 : (w2.alloc (.cells #[.int .i64 0, .int .i64 root, .slice pn p1 p2, .slice pb p3 p4] 64)).cell? ⟨w2.heap.size, 3, none⟩ = some (.slice pb p3 p4) := by simp
  have lrb : w2.heap.size < (w2.alloc (.cells #[.int .i64 0, .int .i64 root, .slice pn p1 p2, .slice pb p3 p4] 64)).heap.size := by simp
  by_cases hk2 : setTCode F root at' x = 0
  rotate_left 1
  · obtain ⟨k, hkk⟩ : ∃ k, setTCode F root at' x = k := ⟨_, rfl⟩
    rw [hkk] at hk2
    have hne : (k != 0) = true := by simp [hk2]
    have HK2 : Hid _ := hkk
    obtain ⟨rt, hrt⟩ : ∃ rt, setRootT F root at' x = rt := ⟨_, rfl⟩
    have HRT2 : Hid _ := hrt
    clear hkk hk2 hrt
    go_wp2_with fail
    refine (implSetT_is pn p1 p2 pb p3 p4 pK F _ d1 pL pM pX.out root at' x k rt _ HK2.out HRT2.out rfl).mono ?_
    rintro e w3 ⟨qn, q1, q2, qb, q3, q4, qK, rfl, -, hb⟩
    replace fb0 := cell_later hb fb0
    replace fb1 := cell_later hb fb1
    replace rb0 := cell_later hb rb0
    replace rb1 := cell_later hb rb1
    replace rb2 := cell_later hb rb2
    replace rb3 := cell_later hb rb3
    replace r0 := r0.below hb
    replace d1 := d1.below hb
    replace lfb := Nat.lt_of_lt_of_le lfb hb.size
    replace lrb := Nat.lt_of_lt_of_le lrb hb.size
    replace B := below_next B hb
    have S11 := hb.size
    clear hb
    go_wp2_with fail
    have A12 : Below w3.heap.size w3 (w3.alloc (.cells #[.int .i64 k, .int .i64 rt, .slice qn q1 q2, .slice qb q3 q4] 64)) := (Below.refl _ _).alloc (Nat.le_refl _) _
    replace fb0 := cell_later A12 fb0
    replace fb1 := cell_later A12 fb1
    replace rb0 := cell_later A12 rb0
    replace rb1 := cell_later A12 rb1
    replace rb2 := cell_later A12 rb2
    replace rb3 := cell_later A12 rb3
    replace r0 := r0.below A12
    replace d1 := d1.below A12
    replace lfb := Nat.lt_of_lt_of_le lfb A12.size
    replace lrb := Nat.lt_of_lt_of_le lrb A12.size
    replace B := below_next B A12
    have S13 := A12.size
    clear A12
    have qb0 : (w3.alloc (.cells #[.int .i64 k, .int .i64 rt, .slice qn q1 q2, .slice qb q3 q4] 64)).cell? ⟨w3.heap.size, 0, none⟩ = some (.int .i64 k) := by simp
    have qb1 : (w3.alloc (.cells #[.int .i64 k, .int .i64 rt, .slice qn q1 q2, .slice qb q3 q4] 64)).cell? ⟨w3.heap.size, 1, none⟩ = some (.int .i64 rt) := by simp
    have qb2 : (w3.alloc (.cells #[.int .i64 k, .int .i64 rt, .slice qn q1 q2, .slice qb q3 q4] 64)).cell? ⟨w3.heap.size, 2, none⟩ = some (.slice qn q1 q2) := by simp
    have qb3 : (w3.alloc (.cells #[.int .i64 k, .int .i64 rt, .slice qn q1 q2, .slice qb q3 q4] 64)).cell? ⟨w3.heap.size, 3, none⟩ = some (.slice qb q3 q4) := by simp
    have lqb : w3.heap.size < (w3.alloc (.cells #[.int .i64 k, .int .i64 rt, .slice qn q1 q2, .slice qb q3 q4] 64)).heap.size := by simp
    have D4 : Below (w3.alloc (.cells #[.int .i64 k, .int .i64 rt, .slice qn q1 q2, .slice qb q3 q4] 64)).heap.size (w3.alloc (.cells #[.int .i64 k, .int .i64 rt, .slice qn q1 q2, .slice qb q3 q4] 64)) (w3.alloc (.cells #[.int .i64 k, .int .i64 rt, .slice qn q1 q2, .slice qb q3 q4] 64)).drew := (Below.refl _ _).drew
    replace fb0 := cell_later D4 fb0
    replace fb1 := cell_later D4 fb1
    replace rb0 := cell_later D4 rb0
    replace rb1 := cell_later D4 rb1
    replace rb2 := cell_later D4 rb2
    replace rb3 := cell_later D4 rb3
    replace qb0 := cell_later D4 qb0
    replace qb1 := cell_later D4 qb1
    replace qb2 := cell_later D4 qb2
    replace qb3 := cell_later D4 qb3
    replace r0 := r0.below D4
    replace d1 := d1.below D4
    replace lfb := Nat.lt_of_lt_of_le lfb D4.size
    replace lrb := Nat.lt_of_lt_of_le lrb D4.size
    replace lqb := Nat.lt_of_lt_of_le lqb D4.size
    replace B := below_next B D4
    have S14 := D4.size
    clear D4
    go_wp2_with fail
    go_region_held3 (fun w' => w'.cell? ⟨w2.heap.size, 2, none⟩ = some (.slice pn p1 p2) ∧ w'.cell? ⟨w2.heap.size, 3, none⟩ = some (.slice pb p3 p4) ∧ w'.cell? ⟨w3.heap.size, 0, none⟩ = some (.int .i64 k)) (exact ⟨rb2, rb3, qb0⟩)
      (first | (go_at_call 59; (with_reducible refine (specSetT_is pn p1 p2 pb p3 p4 pK F _ d1 pL pM pX.out root at' x k rt _ HK2.out HRT2.out rfl).mono ?_); rintro e w6 ⟨vn, v1, v2, vb, v3, v4, vK, rfl, -, hb⟩; replace fb0 := cell_later hb fb0; replace fb1 := cell_later hb fb1; replace rb0 := cell_later hb rb0; replace rb1 := cell_later hb rb1; replace rb2 := cell_later hb rb2; replace rb3 := cell_later hb rb3; replace qb0 := cell_later hb qb0; replace qb1 := cell_later hb qb1; replace qb2 := cell_later hb qb2; replace qb3 := cell_later hb qb3; replace r0 := r0.below hb; replace d1 := d1.below hb; replace lfb := Nat.lt_of_lt_of_le lfb hb.size; replace lrb := Nat.lt_of_lt_of_le lrb hb.size; replace lqb := Nat.lt_of_lt_of_le lqb hb.size; replace B := below_next B hb; clear hb; have hfl3 := fresCode k rt vn v1 v2 vb v3 v4))
    go_wp2
    go_ret
    exact ⟨by first | rfl | exact ret_bool (by simp), B⟩
  obtain ⟨R, hR⟩ : ∃ R, (setTF F root at' x).1 = R := ⟨_, rfl⟩
  obtain ⟨G, hG⟩ : ∃ G, (setTF F root at' x).2.2 = G := ⟨_, rfl⟩
  have HLK : Hid _ := fun k k0 k1 => look_set hk2 (k := k) k0 k1
  rw [hR, hG] at HLK
  have hkeep := trees_keep (R := R) (G := G) HK.out (by rw [HFS.out]; exact hk2) (by rw [HFS.out]; exact hR) (by rw [HFS.out]; exact hG)
  obtain ⟨t0, t1, S1, S2⟩ := hkeep
  have HT0 : Hid _ := t0
  have HT1 : Hid _ := t1
  have HW1 : Hid _ := S1.walk t0
  have HW2 : Hid _ := S2.walk t0
  have HC1 : Hid (treeCode G root 0 = 0) := tree_is ⟨S1.right, S1.ro, by decide, by decide⟩
  have HC2 : Hid (treeCode (dropF G R) root 0 = 0) := tree_is ⟨S2.right, S2.ro, by decide, by decide⟩
  have HFG : Hid _ := fault_of_right S1.right
  have HFD : Hid _ := fault_of_right S2.right
  have HRT2 : Hid (setRootT F root at' x = R) := by show _ = _; rw [setRootT, hk2]; exact hR
  have HFO2 : Hid (setFo F root at' x = G) := by show _ = _; rw [setFo, hk2]; exact hG
  have hgs : Lesser G := by rw [← HFO2.out]; exact set_size F root at' x
  obtain ⟨hg1, hg2, hg3⟩ := hgs
  have HK2 : Hid _ := hk2
  obtain ⟨D, hD⟩ : ∃ D, dropF G R = D := ⟨_, rfl⟩
  rw [hD] at HW2 HC2 HFD
  have HFO3 : Hid (dropFo G R = D) := by show _ = _; rw [dropFo, t1]; exact hD
  have HRT3 : Hid (dropRoot G R = -1) := by show _ = _; rw [dropRoot, t1]; rfl
  have hds : Lesser D := by rw [← HFO3.out]; exact drop_size G R
  obtain ⟨hd1, hd2, hd3⟩ := hds
  obtain ⟨wl, hwl⟩ : ∃ wl, walkList f root = wl := ⟨_, rfl⟩
  have hwn : wl.length ≤ 32 := by rw [← hwl]; exact walk_len f root
  rw [hwl] at HW1 HW2
  have HWL : Hid _ := hwl
  clear hR hG hk2 t0 t1 S1 S2 hD hwl
  go_wp2_with fail
  refine (implSetT_is pn p1 p2 pb p3 p4 pK F _ d1 pL pM pX.out root at' x 0 R G HK2.out HRT2.out HFO2.out).mono ?_
  rintro e w3 ⟨qn, q1, q2, qb, q3, q4, qK, rfl, d2, hb⟩
  replace fb0 := cell_later hb fb0
  replace fb1 := cell_later hb fb1
  replace rb0 := cell_later hb rb0
  replace rb1 := cell_later hb rb1
  replace rb2 := cell_later hb rb2
  replace rb3 := cell_later hb rb3
  replace r0 := r0.below hb
  replace d1 := d1.below hb
  replace lfb := Nat.lt_of_lt_of_le lfb hb.size
  replace lrb := Nat.lt_of_lt_of_le lrb hb.size
  replace B := below_next B hb
  have S15 := hb.size
  clear hb
  have qL : q1 ≤ 2097152 := by rw [← d2.nodes.len]; omega
  have qM : q3 ≤ 2097152 := by rw [← d2.blocks.nPairs]; omega
  have qX : Hid _ := fo_lens d2 (N := 2097152) (by rw [← d2.nodes.len]; omega)
  go_wp2_with fail
  have A16 : Below w3.heap.size w3 (w3.alloc (.cells #[.int .i64 0, .int .i64 R, .slice qn q1 q2, .slice qb q3 q4] 64)) := (Below.refl _ _).alloc (Nat.le_refl _) _
  replace fb0 := cell_later A16 fb0
  replace fb1 := cell_later A16 fb1
  replace rb0 := cell_later A16 rb0
  replace rb1 := cell_later A16 rb1
  replace rb2 := cell_later A16 rb2
  replace rb3 := cell_later A16 rb3
  replace r0 := r0.below A16
  replace d1 := d1.below A16
  replace d2 := d2.below A16
  replace lfb := Nat.lt_of_lt_of_le lfb A16.size
  replace lrb := Nat.lt_of_lt_of_le lrb A16.size
  replace B := below_next B A16
  have S17 := A16.size
  clear A16
  have qb0 : (w3.alloc (.cells #[.int .i64 0, .int .i64 R, .slice qn q1 q2, .slice qb q3 q4] 64)).cell? ⟨w3.heap.size, 0, none⟩ = some (.int .i64 0) := by simp
  have qb1 : (w3.alloc (.cells #[.int .i64 0, .int .i64 R, .slice qn q1 q2, .slice qb q3 q4] 64)).cell? ⟨w3.heap.size, 1, none⟩ = some (.int .i64 R) := by simp
  have qb2 : (w3.alloc (.cells #[.int .i64 0, .int .i64 R, .slice qn q1 q2, .slice qb q3 q4] 64)).cell? ⟨w3.heap.size, 2, none⟩ = some (.slice qn q1 q2) := by simp
  have qb3 : (w3.alloc (.cells #[.int .i64 0, .int .i64 R, .slice qn q1 q2, .slice qb q3 q4] 64)).cell? ⟨w3.heap.size, 3, none⟩ = some (.slice qb q3 q4) := by simp
  have lqb : w3.heap.size < (w3.alloc (.cells #[.int .i64 0, .int .i64 R, .slice qn q1 q2, .slice qb q3 q4] 64)).heap.size := by simp
  go_wp2_with fail
  refine (implWalk_is an nn cn ab nb cb K f _ r0 hn0 hm0 HK0.out root 0 wl HT0.out HWL.out).mono ?_
  rintro e w4 ⟨wa, wn, wc, rfl, dW, hb⟩
  replace fb0 := cell_later hb fb0
  replace fb1 := cell_later hb fb1
  replace rb0 := cell_later hb rb0
  replace rb1 := cell_later hb rb1
  replace rb2 := cell_later hb rb2
  replace rb3 := cell_later hb rb3
  replace qb0 := cell_later hb qb0
  replace qb1 := cell_later hb qb1
  replace qb2 := cell_later hb qb2
  replace qb3 := cell_later hb qb3
  replace r0 := r0.below hb
  replace d1 := d1.below hb
  replace d2 := d2.below hb
  replace lfb := Nat.lt_of_lt_of_le lfb hb.size
  replace lrb := Nat.lt_of_lt_of_le lrb hb.size
  replace lqb := Nat.lt_of_lt_of_le lqb hb.size
  replace B := below_next B hb
  have S18 := hb.size
  clear hb
  have hwe : wl.length = wn := dW.nInts
  go_wp2_with fail
  have A19 : Below w4.heap.size w4 (w4.alloc (.cells #[.int .i64 0, .slice wa wn wc] 37)) := (Below.refl _ _).alloc (Nat.le_refl _) _
  replace fb0 := cell_later A19 fb0
  replace fb1 := cell_later A19 fb1
  replace rb0 := cell_later A19 rb0
  replace rb1 := cell_later A19 rb1
  replace rb2 := cell_later A19 rb2
  replace rb3 := cell_later A19 rb3
  replace qb0 := cell_later A19 qb0
  replace qb1 := cell_later A19 qb1
  replace qb2 := cell_later A19 qb2
  replace qb3 := cell_later A19 qb3
  replace r0 := r0.below A19
  replace d1 := d1.below A19
  replace d2 := d2.below A19
  replace dW := dW.below A19
  replace lfb := Nat.lt_of_lt_of_le lfb A19.size
  replace lrb := Nat.lt_of_lt_of_le lrb A19.size
  replace lqb := Nat.lt_of_lt_of_le lqb A19.size
  replace B := below_next B A19
  have S20 := A19.size
  clear A19
  have wb0 : (w4.alloc (.cells #[.int .i64 0, .slice wa wn wc] 37)).cell? ⟨w4.heap.size, 0, none⟩ = some (.int .i64 0) := by simp
  have wb1 : (w4.alloc (.cells #[.int .i64 0, .slice wa wn wc] 37)).cell? ⟨w4.heap.size, 1, none⟩ = some (.slice wa wn wc) := by simp
  have lwb : w4.heap.size < (w4.alloc (.cells #[.int .i64 0, .slice wa wn wc] 37)).heap.size := by simp
  generalize hW3 : (w4.alloc (.cells #[.int .i64 0, .slice wa wn wc] 37)) = W3 at *
  clear hW3
  go_wp2
  go_loopw [10] (fun i wq => ∃ j : Nat, j ≤ 16 ∧ i = .int .i64 j ∧ Below W3.heap.size W3 wq) (fun i _ => 16 - (intOf i).toNat)
  case atStart => exact ⟨0, by omega, rfl, Below.refl _ _⟩
  case round =>
    obtain ⟨j, hj, rfl, hq⟩ := hrel
    by_cases hlt : j < 16
    · have hlk : (j : Int) < 16 := by omega
      replace fb0 := cell_later hq fb0
      replace fb1 := cell_later hq fb1
      replace rb0 := cell_later hq rb0
      replace rb1 := cell_later hq rb1
      replace rb2 := cell_later hq rb2
      replace rb3 := cell_later hq rb3
      replace qb0 := cell_later hq qb0
      replace qb1 := cell_later hq qb1
      replace qb2 := cell_later hq qb2
      replace qb3 := cell_later hq qb3
      replace wb0 := cell_later hq wb0
      replace wb1 := cell_later hq wb1
      replace r0 := r0.below hq
      replace d1 := d1.below hq
      replace d2 := d2.below hq
      replace dW := dW.below hq
      replace lfb := Nat.lt_of_lt_of_le lfb hq.size
      replace lrb := Nat.lt_of_lt_of_le lrb hq.size
      replace lqb := Nat.lt_of_lt_of_le lqb hq.size
      replace lwb := Nat.lt_of_lt_of_le lwb hq.size
      replace B := below_next B hq
      have S21 := hq.size
      have Q := hq
      clear hq
      have hLj := HLK.out (j : Int) (by omega) (by omega)
      obtain ⟨cd, hcd⟩ : ∃ cd, lookCode G R (j : Int) = cd := ⟨_, rfl⟩
      obtain ⟨vl, hvl⟩ : ∃ vl, lookVal G R (j : Int) = vl := ⟨_, rfl⟩
      rw [hcd, hvl] at hLj
      have HCD : Hid _ := hcd
      have HVL : Hid _ := hvl
      obtain ⟨ce, hce⟩ : ∃ cd, lookCode F root (j : Int) = cd := ⟨_, rfl⟩
      obtain ⟨ve, hve⟩ : ∃ vl, lookVal F root (j : Int) = vl := ⟨_, rfl⟩
      rw [hce, hve] at hLj
      have HCE : Hid _ := hce
      have HVE : Hid _ := hve
      clear hcd hvl hce hve
      go_wp2_with fail
      refine (implLook_is pn p1 p2 pb p3 p4 pK F _ d1 pL pM pX.out root (j : Int) ce ve HCE.out HVE.out).mono ?_
      rintro e w5 ⟨rfl, hb⟩
      replace fb0 := cell_later hb fb0
      replace fb1 := cell_later hb fb1
      replace rb0 := cell_later hb rb0
      replace rb1 := cell_later hb rb1
      replace rb2 := cell_later hb rb2
      replace rb3 := cell_later hb rb3
      replace qb0 := cell_later hb qb0
      replace qb1 := cell_later hb qb1
      replace qb2 := cell_later hb qb2
      replace qb3 := cell_later hb qb3
      replace wb0 := cell_later hb wb0
      replace wb1 := cell_later hb wb1
      replace r0 := r0.below hb
      replace d1 := d1.below hb
      replace d2 := d2.below hb
      replace dW := dW.below hb
      replace lfb := Nat.lt_of_lt_of_le lfb hb.size
      replace lrb := Nat.lt_of_lt_of_le lrb hb.size
      replace lqb := Nat.lt_of_lt_of_le lqb hb.size
      replace lwb := Nat.lt_of_lt_of_le lwb hb.size
      replace B := below_next B hb
      replace Q := below_next Q hb
      have S22 := hb.size
      clear hb
      go_wp2_with fail
      have A23 : Below w5.heap.size w5 (w5.alloc (.cells #[.int .i64 ce, .int .i64 ve] 43)) := (Below.refl _ _).alloc (Nat.le_refl _) _
      replace fb0 := cell_later A23 fb0
      replace fb1 := cell_later A23 fb1
      replace rb0 := cell_later A23 rb0
      replace rb1 := cell_later A23 rb1
      replace rb2 := cell_later A23 rb2
      replace rb3 := cell_later A23 rb3
      replace qb0 := cell_later A23 qb0
      replace qb1 := cell_later A23 qb1
      replace qb2 := cell_later A23 qb2
      replace qb3 := cell_later A23 qb3
      replace wb0 := cell_later A23 wb0
      replace wb1 := cell_later A23 wb1
      replace r0 := r0.below A23
      replace d1 := d1.below A23
      replace d2 := d2.below A23
      replace dW := dW.below A23
      replace lfb := Nat.lt_of_lt_of_le lfb A23.size
      replace lrb := Nat.lt_of_lt_of_le lrb A23.size
      replace lqb := Nat.lt_of_lt_of_le lqb A23.size
      replace lwb := Nat.lt_of_lt_of_le lwb A23.size
      replace B := below_next B A23
      replace Q := below_next Q A23
      have S24 := A23.size
      clear A23
      have ka0 : (w5.alloc (.cells #[.int .i64 ce, .int .i64 ve] 43)).cell? ⟨w5.heap.size, 0, none⟩ = some (.int .i64 ce) := by simp
      have ka1 : (w5.alloc (.cells #[.int .i64 ce, .int .i64 ve] 43)).cell? ⟨w5.heap.size, 1, none⟩ = some (.int .i64 ve) := by simp
      have lka : w5.heap.size < (w5.alloc (.cells #[.int .i64 ce, .int .i64 ve] 43)).heap.size := by simp
      go_wp2_with fail
      refine (implLook_is qn q1 q2 qb q3 q4 qK G _ d2 qL qM qX.out R (j : Int) cd vl HCD.out HVL.out).mono ?_
      rintro e w6 ⟨rfl, hb⟩
      replace fb0 := cell_later hb fb0
      replace fb1 := cell_later hb fb1
      replace rb0 := cell_later hb rb0
      replace rb1 := cell_later hb rb1
      replace rb2 := cell_later hb rb2
      replace rb3 := cell_later hb rb3
      replace qb0 := cell_later hb qb0
      replace qb1 := cell_later hb qb1
      replace qb2 := cell_later hb qb2
      replace qb3 := cell_later hb qb3
      replace wb0 := cell_later hb wb0
      replace wb1 := cell_later hb wb1
      replace ka0 := cell_later hb ka0
      replace ka1 := cell_later hb ka1
      replace r0 := r0.below hb
      replace d1 := d1.below hb
      replace d2 := d2.below hb
      replace dW := dW.below hb
      replace lfb := Nat.lt_of_lt_of_le lfb hb.size
      replace lrb := Nat.lt_of_lt_of_le lrb hb.size
      replace lqb := Nat.lt_of_lt_of_le lqb hb.size
      replace lwb := Nat.lt_of_lt_of_le lwb hb.size
      replace lka := Nat.lt_of_lt_of_le lka hb.size
      replace B := below_next B hb
      replace Q := below_next Q hb
      have S25 := hb.size
      clear hb
      by_cases je : (j : Int) = at'
      · have je' : ((j : Int) == at') = true := by simp [je]
        have je2 : ((j : Int) != at') = false := by simp [je]
        go_wp2_with fail
        have A26 : Below w6.heap.size w6 (w6.alloc (.cells #[.int .i64 cd, .int .i64 vl] 43)) := (Below.refl _ _).alloc (Nat.le_refl _) _
        replace fb0 := cell_later A26 fb0
        replace fb1 := cell_later A26 fb1
        replace rb0 := cell_later A26 rb0
        replace rb1 := cell_later A26 rb1
        replace rb2 := cell_later A26 rb2
        replace rb3 := cell_later A26 rb3
        replace qb0 := cell_later A26 qb0
        replace qb1 := cell_later A26 qb1
        replace qb2 := cell_later A26 qb2
        replace qb3 := cell_later A26 qb3
        replace wb0 := cell_later A26 wb0
        replace wb1 := cell_later A26 wb1
        replace ka0 := cell_later A26 ka0
        replace ka1 := cell_later A26 ka1
        replace r0 := r0.below A26
        replace d1 := d1.below A26
        replace d2 := d2.below A26
        replace dW := dW.below A26
        replace lfb := Nat.lt_of_lt_of_le lfb A26.size
        replace lrb := Nat.lt_of_lt_of_le lrb A26.size
        replace lqb := Nat.lt_of_lt_of_le lqb A26.size
        replace lwb := Nat.lt_of_lt_of_le lwb A26.size
        replace lka := Nat.lt_of_lt_of_le lka A26.size
        replace B := below_next B A26
        replace Q := below_next Q A26
        have S27 := A26.size
        clear A26
        have kb0 : (w6.alloc (.cells #[.int .i64 cd, .int .i64 vl] 43)).cell? ⟨w6.heap.size, 0, none⟩ = some (.int .i64 cd) := by simp
        have kb1 : (w6.alloc (.cells #[.int .i64 cd, .int .i64 vl] 43)).cell? ⟨w6.heap.size, 1, none⟩ = some (.int .i64 vl) := by simp
        have lkb : w6.heap.size < (w6.alloc (.cells #[.int .i64 cd, .int .i64 vl] 43)).heap.size := by simp
        obtain ⟨h0, h1⟩ := hLj.1 je
        subst h0
        subst h1
        have ex : ∀ z : Int, (z != z) = false := fun z => by simp
        clear hLj HCD HVL HCE HVE
        go_wp2
        go_roundw
        case rel => exact ⟨j + 1, by omega, by go_num, Q⟩
        case measure => simp [intOf]; omega
      · have je' : ((j : Int) == at') = false := by simp [je]
        have je2 : ((j : Int) != at') = true := by simp [je]
        have je3 : decide ((j : Int) = at') = false := decide_eq_false je
        go_wp2_with fail
        have A28 : Below w6.heap.size w6 (w6.alloc (.cells #[.int .i64 cd, .int .i64 vl] 43)) := (Below.refl _ _).alloc (Nat.le_refl _) _
        replace fb0 := cell_later A28 fb0
        replace fb1 := cell_later A28 fb1
        replace rb0 := cell_later A28 rb0
        replace rb1 := cell_later A28 rb1
        replace rb2 := cell_later A28 rb2
        replace rb3 := cell_later A28 rb3
        replace qb0 := cell_later A28 qb0
        replace qb1 := cell_later A28 qb1
        replace qb2 := cell_later A28 qb2
        replace qb3 := cell_later A28 qb3
        replace wb0 := cell_later A28 wb0
        replace wb1 := cell_later A28 wb1
        replace ka0 := cell_later A28 ka0
        replace ka1 := cell_later A28 ka1
        replace r0 := r0.below A28
        replace d1 := d1.below A28
        replace d2 := d2.below A28
        replace dW := dW.below A28
        replace lfb := Nat.lt_of_lt_of_le lfb A28.size
        replace lrb := Nat.lt_of_lt_of_le lrb A28.size
        replace lqb := Nat.lt_of_lt_of_le lqb A28.size
        replace lwb := Nat.lt_of_lt_of_le lwb A28.size
        replace lka := Nat.lt_of_lt_of_le lka A28.size
        replace B := below_next B A28
        replace Q := below_next Q A28
        have S29 := A28.size
        clear A28
        have kb0 : (w6.alloc (.cells #[.int .i64 cd, .int .i64 vl] 43)).cell? ⟨w6.heap.size, 0, none⟩ = some (.int .i64 cd) := by simp
        have kb1 : (w6.alloc (.cells #[.int .i64 cd, .int .i64 vl] 43)).cell? ⟨w6.heap.size, 1, none⟩ = some (.int .i64 vl) := by simp
        have lkb : w6.heap.size < (w6.alloc (.cells #[.int .i64 cd, .int .i64 vl] 43)).heap.size := by simp
        obtain ⟨h0, h1⟩ := hLj.2 je
        subst h0
        subst h1
        clear hLj HCD HVL HCE HVE je
        go_wp2
        go_roundw
        case rel => exact ⟨j + 1, by omega, by go_num, Q⟩
        case measure => simp [intOf]; omega
    · obtain rfl : j = 16 := by omega
      replace fb0 := cell_later hq fb0
      replace fb1 := cell_later hq fb1
      replace rb0 := cell_later hq rb0
      replace rb1 := cell_later hq rb1
      replace rb2 := cell_later hq rb2
      replace rb3 := cell_later hq rb3
      replace qb0 := cell_later hq qb0
      replace qb1 := cell_later hq qb1
      replace qb2 := cell_later hq qb2
      replace qb3 := cell_later hq qb3
      replace wb0 := cell_later hq wb0
      replace wb1 := cell_later hq wb1
      replace r0 := r0.below hq
      replace d1 := d1.below hq
      replace d2 := d2.below hq
      replace dW := dW.below hq
      replace lfb := Nat.lt_of_lt_of_le lfb hq.size
      replace lrb := Nat.lt_of_lt_of_le lrb hq.size
      replace lqb := Nat.lt_of_lt_of_le lqb hq.size
      replace lwb := Nat.lt_of_lt_of_le lwb hq.size
      replace B := below_next B hq
      have S30 := hq.size
      clear hq HLK
      go_wp2_with fail
      refine (implDropT_is qn q1 q2 qb q3 q4 qK G _ d2 qL qM qX.out R 0 (-1) D HT1.out HRT3.out HFO3.out).mono ?_
      rintro e w7 ⟨yn, y1, y2, yb, y3, y4, yK, rfl, d3, hb⟩
      replace fb0 := cell_later hb fb0
      replace fb1 := cell_later hb fb1
      replace rb0 := cell_later hb rb0
      replace rb1 := cell_later hb rb1
      replace rb2 := cell_later hb rb2
      replace rb3 := cell_later hb rb3
      replace qb0 := cell_later hb qb0
      replace qb1 := cell_later hb qb1
      replace qb2 := cell_later hb qb2
      replace qb3 := cell_later hb qb3
      replace wb0 := cell_later hb wb0
      replace wb1 := cell_later hb wb1
      replace r0 := r0.below hb
      replace d1 := d1.below hb
      replace d2 := d2.below hb
      replace dW := dW.below hb
      replace lfb := Nat.lt_of_lt_of_le lfb hb.size
      replace lrb := Nat.lt_of_lt_of_le lrb hb.size
      replace lqb := Nat.lt_of_lt_of_le lqb hb.size
      replace lwb := Nat.lt_of_lt_of_le lwb hb.size
      replace B := below_next B hb
      have S31 := hb.size
      clear hb
      have yL : y1 ≤ 2097152 := by rw [← d3.nodes.len]; omega
      have yM : y3 ≤ 2097152 := by rw [← d3.blocks.nPairs]; omega
      have yX : Hid _ := fo_lens d3 (N := 2097152) (by rw [← d3.nodes.len]; omega)
      go_wp2_with fail
      have A32 : Below w7.heap.size w7 (w7.alloc (.cells #[.int .i64 0, .int .i64 (-1), .slice yn y1 y2, .slice yb y3 y4] 64)) := (Below.refl _ _).alloc (Nat.le_refl _) _
      replace fb0 := cell_later A32 fb0
      replace fb1 := cell_later A32 fb1
      replace rb0 := cell_later A32 rb0
      replace rb1 := cell_later A32 rb1
      replace rb2 := cell_later A32 rb2
      replace rb3 := cell_later A32 rb3
      replace qb0 := cell_later A32 qb0
      replace qb1 := cell_later A32 qb1
      replace qb2 := cell_later A32 qb2
      replace qb3 := cell_later A32 qb3
      replace wb0 := cell_later A32 wb0
      replace wb1 := cell_later A32 wb1
      replace r0 := r0.below A32
      replace d1 := d1.below A32
      replace d2 := d2.below A32
      replace dW := dW.below A32
      replace d3 := d3.below A32
      replace lfb := Nat.lt_of_lt_of_le lfb A32.size
      replace lrb := Nat.lt_of_lt_of_le lrb A32.size
      replace lqb := Nat.lt_of_lt_of_le lqb A32.size
      replace lwb := Nat.lt_of_lt_of_le lwb A32.size
      replace B := below_next B A32
      have S33 := A32.size
      clear A32
      have yb0 : (w7.alloc (.cells #[.int .i64 0, .int .i64 (-1), .slice yn y1 y2, .slice yb y3 y4] 64)).cell? ⟨w7.heap.size, 0, none⟩ = some (.int .i64 0) := by simp
      have yb1 : (w7.alloc (.cells #[.int .i64 0, .int .i64 (-1), .slice yn y1 y2, .slice yb y3 y4] 64)).cell? ⟨w7.heap.size, 1, none⟩ = some (.int .i64 (-1)) := by simp
      have yb2 : (w7.alloc (.cells #[.int .i64 0, .int .i64 (-1), .slice yn y1 y2, .slice yb y3 y4] 64)).cell? ⟨w7.heap.size, 2, none⟩ = some (.slice yn y1 y2) := by simp
      have yb3 : (w7.alloc (.cells #[.int .i64 0, .int .i64 (-1), .slice yn y1 y2, .slice yb y3 y4] 64)).cell? ⟨w7.heap.size, 3, none⟩ = some (.slice yb y3 y4) := by simp
      have lyb : w7.heap.size < (w7.alloc (.cells #[.int .i64 0, .int .i64 (-1), .slice yn y1 y2, .slice yb y3 y4] 64)).heap.size := by simp
      have D8 : Below (w7.alloc (.cells #[.int .i64 0, .int .i64 (-1), .slice yn y1 y2, .slice yb y3 y4] 64)).heap.size (w7.alloc (.cells #[.int .i64 0, .int .i64 (-1), .slice yn y1 y2, .slice yb y3 y4] 64)) (w7.alloc (.cells #[.int .i64 0, .int .i64 (-1), .slice yn y1 y2, .slice yb y3 y4] 64)).drew := (Below.refl _ _).drew
      replace fb0 := cell_later D8 fb0
      replace fb1 := cell_later D8 fb1
      replace rb0 := cell_later D8 rb0
      replace rb1 := cell_later D8 rb1
      replace rb2 := cell_later D8 rb2
      replace rb3 := cell_later D8 rb3
      replace qb0 := cell_later D8 qb0
      replace qb1 := cell_later D8 qb1
      replace qb2 := cell_later D8 qb2
      replace qb3 := cell_later D8 qb3
      replace wb0 := cell_later D8 wb0
      replace wb1 := cell_later D8 wb1
      replace yb0 := cell_later D8 yb0
      replace yb1 := cell_later D8 yb1
      replace yb2 := cell_later D8 yb2
      replace yb3 := cell_later D8 yb3
      replace r0 := r0.below D8
      replace d1 := d1.below D8
      replace d2 := d2.below D8
      replace dW := dW.below D8
      replace d3 := d3.below D8
      replace lfb := Nat.lt_of_lt_of_le lfb D8.size
      replace lrb := Nat.lt_of_lt_of_le lrb D8.size
      replace lqb := Nat.lt_of_lt_of_le lqb D8.size
      replace lwb := Nat.lt_of_lt_of_le lwb D8.size
      replace lyb := Nat.lt_of_lt_of_le lyb D8.size
      replace B := below_next B D8
      have S34 := D8.size
      clear D8
      go_wp2_with fail
      go_region_held3 (fun w' => w'.cell? ⟨w1.heap.size, 0, none⟩ = some (.slice an nn cn) ∧ w'.cell? ⟨w1.heap.size, 1, none⟩ = some (.slice ab nb cb) ∧ w'.cell? ⟨w3.heap.size, 2, none⟩ = some (.slice qn q1 q2) ∧ w'.cell? ⟨w3.heap.size, 3, none⟩ = some (.slice qb q3 q4) ∧ w'.cell? ⟨w4.heap.size, 0, none⟩ = some (.int .i64 0) ∧ w'.cell? ⟨w4.heap.size, 1, none⟩ = some (.slice wa wn wc) ∧ w'.cell? ⟨w7.heap.size, 0, none⟩ = some (.int .i64 0) ∧ w'.cell? ⟨w7.heap.size, 2, none⟩ = some (.slice yn y1 y2) ∧ w'.cell? ⟨w7.heap.size, 3, none⟩ = some (.slice yb y3 y4)) (exact ⟨fb0, fb1, qb2, qb3, wb0, wb1, yb0, yb2, yb3⟩)
        (first | (go_at_call 63; (with_reducible refine (implFF_b qn q1 q2 qb q3 q4 qK G _ d2 qL qM qX.out 0 HFG.out).mono ?_); rintro e wa1 ⟨rfl, hb⟩; replace fb0 := cell_later hb fb0; replace fb1 := cell_later hb fb1; replace rb0 := cell_later hb rb0; replace rb1 := cell_later hb rb1; replace rb2 := cell_later hb rb2; replace rb3 := cell_later hb rb3; replace qb0 := cell_later hb qb0; replace qb1 := cell_later hb qb1; replace qb2 := cell_later hb qb2; replace qb3 := cell_later hb qb3; replace wb0 := cell_later hb wb0; replace wb1 := cell_later hb wb1; replace yb0 := cell_later hb yb0; replace yb1 := cell_later hb yb1; replace yb2 := cell_later hb yb2; replace yb3 := cell_later hb yb3; replace r0 := r0.below hb; replace d1 := d1.below hb; replace d2 := d2.below hb; replace dW := dW.below hb; replace d3 := d3.below hb; replace lfb := Nat.lt_of_lt_of_le lfb hb.size; replace lrb := Nat.lt_of_lt_of_le lrb hb.size; replace lqb := Nat.lt_of_lt_of_le lqb hb.size; replace lwb := Nat.lt_of_lt_of_le lwb hb.size; replace lyb := Nat.lt_of_lt_of_le lyb hb.size; replace B := below_next B hb; clear hb) | (go_at_call 60; (with_reducible refine (implWalk_is qn q1 q2 qb q3 q4 qK G _ d2 qL qM qX.out root 0 wl HC1.out HW1.out).mono ?_); rintro e wa2 ⟨ea, en, ec, rfl, eR, hb⟩; replace fb0 := cell_later hb fb0; replace fb1 := cell_later hb fb1; replace rb0 := cell_later hb rb0; replace rb1 := cell_later hb rb1; replace rb2 := cell_later hb rb2; replace rb3 := cell_later hb rb3; replace qb0 := cell_later hb qb0; replace qb1 := cell_later hb qb1; replace qb2 := cell_later hb qb2; replace qb3 := cell_later hb qb3; replace wb0 := cell_later hb wb0; replace wb1 := cell_later hb wb1; replace yb0 := cell_later hb yb0; replace yb1 := cell_later hb yb1; replace yb2 := cell_later hb yb2; replace yb3 := cell_later hb yb3; replace r0 := r0.below hb; replace d1 := d1.below hb; replace d2 := d2.below hb; replace dW := dW.below hb; replace d3 := d3.below hb; replace lfb := Nat.lt_of_lt_of_le lfb hb.size; replace lrb := Nat.lt_of_lt_of_le lrb hb.size; replace lqb := Nat.lt_of_lt_of_le lqb hb.size; replace lwb := Nat.lt_of_lt_of_le lwb hb.size; replace lyb := Nat.lt_of_lt_of_le lyb hb.size; replace B := below_next B hb; clear hb; (obtain rfl : wn = en := (by rw [← eR.nInts]; exact hwe.symm)); have eF := iresField 0 ea wn ec) | (go_at_call 43; (with_reducible refine (lwNums_yes _ _ _ _ _ wl _ eR dW (by omega)).mono ?_); rintro e wa3 ⟨rfl, hb⟩; replace fb0 := cell_later hb fb0; replace fb1 := cell_later hb fb1; replace rb0 := cell_later hb rb0; replace rb1 := cell_later hb rb1; replace rb2 := cell_later hb rb2; replace rb3 := cell_later hb rb3; replace qb0 := cell_later hb qb0; replace qb1 := cell_later hb qb1; replace qb2 := cell_later hb qb2; replace qb3 := cell_later hb qb3; replace wb0 := cell_later hb wb0; replace wb1 := cell_later hb wb1; replace yb0 := cell_later hb yb0; replace yb1 := cell_later hb yb1; replace yb2 := cell_later hb yb2; replace yb3 := cell_later hb yb3; replace r0 := r0.below hb; replace d1 := d1.below hb; replace d2 := d2.below hb; replace dW := dW.below hb; replace d3 := d3.below hb; replace eR := eR.below hb; replace lfb := Nat.lt_of_lt_of_le lfb hb.size; replace lrb := Nat.lt_of_lt_of_le lrb hb.size; replace lqb := Nat.lt_of_lt_of_le lqb hb.size; replace lwb := Nat.lt_of_lt_of_le lwb hb.size; replace lyb := Nat.lt_of_lt_of_le lyb hb.size; replace B := below_next B hb; clear hb; clear eR) | (go_at_call 63; (with_reducible refine (implFF_b yn y1 y2 yb y3 y4 yK D _ d3 yL yM yX.out 0 HFD.out).mono ?_); rintro e wa4 ⟨rfl, hb⟩; replace fb0 := cell_later hb fb0; replace fb1 := cell_later hb fb1; replace rb0 := cell_later hb rb0; replace rb1 := cell_later hb rb1; replace rb2 := cell_later hb rb2; replace rb3 := cell_later hb rb3; replace qb0 := cell_later hb qb0; replace qb1 := cell_later hb qb1; replace qb2 := cell_later hb qb2; replace qb3 := cell_later hb qb3; replace wb0 := cell_later hb wb0; replace wb1 := cell_later hb wb1; replace yb0 := cell_later hb yb0; replace yb1 := cell_later hb yb1; replace yb2 := cell_later hb yb2; replace yb3 := cell_later hb yb3; replace r0 := r0.below hb; replace d1 := d1.below hb; replace d2 := d2.below hb; replace dW := dW.below hb; replace d3 := d3.below hb; replace lfb := Nat.lt_of_lt_of_le lfb hb.size; replace lrb := Nat.lt_of_lt_of_le lrb hb.size; replace lqb := Nat.lt_of_lt_of_le lqb hb.size; replace lwb := Nat.lt_of_lt_of_le lwb hb.size; replace lyb := Nat.lt_of_lt_of_le lyb hb.size; replace B := below_next B hb; clear hb) | (go_at_call 60; (with_reducible refine (implWalk_is yn y1 y2 yb y3 y4 yK D _ d3 yL yM yX.out root 0 wl HC2.out HW2.out).mono ?_); rintro e wa5 ⟨ga, gn, gc, rfl, gR, hb⟩; replace fb0 := cell_later hb fb0; replace fb1 := cell_later hb fb1; replace rb0 := cell_later hb rb0; replace rb1 := cell_later hb rb1; replace rb2 := cell_later hb rb2; replace rb3 := cell_later hb rb3; replace qb0 := cell_later hb qb0; replace qb1 := cell_later hb qb1; replace qb2 := cell_later hb qb2; replace qb3 := cell_later hb qb3; replace wb0 := cell_later hb wb0; replace wb1 := cell_later hb wb1; replace yb0 := cell_later hb yb0; replace yb1 := cell_later hb yb1; replace yb2 := cell_later hb yb2; replace yb3 := cell_later hb yb3; replace r0 := r0.below hb; replace d1 := d1.below hb; replace d2 := d2.below hb; replace dW := dW.below hb; replace d3 := d3.below hb; replace lfb := Nat.lt_of_lt_of_le lfb hb.size; replace lrb := Nat.lt_of_lt_of_le lrb hb.size; replace lqb := Nat.lt_of_lt_of_le lqb hb.size; replace lwb := Nat.lt_of_lt_of_le lwb hb.size; replace lyb := Nat.lt_of_lt_of_le lyb hb.size; replace B := below_next B hb; clear hb; (obtain rfl : wn = gn := (by rw [← gR.nInts]; exact hwe.symm)); have gF := iresField 0 ga wn gc) | (go_at_call 43; (with_reducible refine (lwNums_yes _ _ _ _ _ wl _ gR dW (by omega)).mono ?_); rintro e wa6 ⟨rfl, hb⟩; replace fb0 := cell_later hb fb0; replace fb1 := cell_later hb fb1; replace rb0 := cell_later hb rb0; replace rb1 := cell_later hb rb1; replace rb2 := cell_later hb rb2; replace rb3 := cell_later hb rb3; replace qb0 := cell_later hb qb0; replace qb1 := cell_later hb qb1; replace qb2 := cell_later hb qb2; replace qb3 := cell_later hb qb3; replace wb0 := cell_later hb wb0; replace wb1 := cell_later hb wb1; replace yb0 := cell_later hb yb0; replace yb1 := cell_later hb yb1; replace yb2 := cell_later hb yb2; replace yb3 := cell_later hb yb3; replace r0 := r0.below hb; replace d1 := d1.below hb; replace d2 := d2.below hb; replace dW := dW.below hb; replace d3 := d3.below hb; replace gR := gR.below hb; replace lfb := Nat.lt_of_lt_of_le lfb hb.size; replace lrb := Nat.lt_of_lt_of_le lrb hb.size; replace lqb := Nat.lt_of_lt_of_le lqb hb.size; replace lwb := Nat.lt_of_lt_of_le lwb hb.size; replace lyb := Nat.lt_of_lt_of_le lyb hb.size; replace B := below_next B hb; clear hb; clear gR) | (go_at_call 64; (with_reducible refine (specWalk_is an nn cn ab nb cb K f _ r0 hn0 hm0 HK0.out root 0 wl HT0.out HWL.out).mono ?_); rintro e wa7 ⟨va, vn, vc, rfl, vR, hb⟩; replace fb0 := cell_later hb fb0; replace fb1 := cell_later hb fb1; replace rb0 := cell_later hb rb0; replace rb1 := cell_later hb rb1; replace rb2 := cell_later hb rb2; replace rb3 := cell_later hb rb3; replace qb0 := cell_later hb qb0; replace qb1 := cell_later hb qb1; replace qb2 := cell_later hb qb2; replace qb3 := cell_later hb qb3; replace wb0 := cell_later hb wb0; replace wb1 := cell_later hb wb1; replace yb0 := cell_later hb yb0; replace yb1 := cell_later hb yb1; replace yb2 := cell_later hb yb2; replace yb3 := cell_later hb yb3; replace r0 := r0.below hb; replace d1 := d1.below hb; replace d2 := d2.below hb; replace dW := dW.below hb; replace d3 := d3.below hb; replace lfb := Nat.lt_of_lt_of_le lfb hb.size; replace lrb := Nat.lt_of_lt_of_le lrb hb.size; replace lqb := Nat.lt_of_lt_of_le lqb hb.size; replace lwb := Nat.lt_of_lt_of_le lwb hb.size; replace lyb := Nat.lt_of_lt_of_le lyb hb.size; replace B := below_next B hb; clear hb; (obtain rfl : wn = vn := (by rw [← vR.nInts]; exact hwe.symm)); have vF := iresField 0 va wn vc) | (go_at_call 43; (with_reducible refine (lwNums_yes _ _ _ _ _ wl _ dW vR (by omega)).mono ?_); rintro e wa8 ⟨rfl, hb⟩; replace fb0 := cell_later hb fb0; replace fb1 := cell_later hb fb1; replace rb0 := cell_later hb rb0; replace rb1 := cell_later hb rb1; replace rb2 := cell_later hb rb2; replace rb3 := cell_later hb rb3; replace qb0 := cell_later hb qb0; replace qb1 := cell_later hb qb1; replace qb2 := cell_later hb qb2; replace qb3 := cell_later hb qb3; replace wb0 := cell_later hb wb0; replace wb1 := cell_later hb wb1; replace yb0 := cell_later hb yb0; replace yb1 := cell_later hb yb1; replace yb2 := cell_later hb yb2; replace yb3 := cell_later hb yb3; replace r0 := r0.below hb; replace d1 := d1.below hb; replace d2 := d2.below hb; replace dW := dW.below hb; replace d3 := d3.below hb; replace vR := vR.below hb; replace lfb := Nat.lt_of_lt_of_le lfb hb.size; replace lrb := Nat.lt_of_lt_of_le lrb hb.size; replace lqb := Nat.lt_of_lt_of_le lqb hb.size; replace lwb := Nat.lt_of_lt_of_le lwb hb.size; replace lyb := Nat.lt_of_lt_of_le lyb hb.size; replace B := below_next B hb; clear hb; clear vR))
      go_wp2
      go_ret
      exact ⟨by first | rfl | exact ret_bool (by simp), B⟩

end Go.Proofs.Ytkdaphfmhdkhfaa
