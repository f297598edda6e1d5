/- Chapter 4: the program shares and drops trees. -/
import Derived.Test.YtikjndmgljkhhaaZG
import Derived.Test.YtikjndmgljkhhaaZV
import Derived.Test.YtikjndmgljkhhaaT8
namespace Go.Proofs.Ytikjndmgljkhhaa
open Go.RowKit

theorem below_S {B : Nat} {a b c : World} (h : Below B a b) (k : KeptS (fun x => B ≤ x) b c) (hB : B ≤ b.heap.size) : Below B a c := h.trans ⟨k.os, k.tape, k.output, k.size, fun i hi => k.block i (by omega) (by omega)⟩
/-- the answer with a code -/
theorem FoRes.bad {w w' : World} (cd : Int) (hb : Below w.heap.size w w') : FoRes true w w' (.returned (.agg #[.int .i64 cd, .int .i64 0, .slice none 0 0, .slice none 0 0])) cd 0 ([], []) := ⟨_, _, _, _, _, _, _, rfl, FoAt.nil _ _ _ _, hb⟩
theorem right_extB {f : Fo} (h : Right f) (j : Nat) : 0 ≤ extB f j := by
  by_cases hj : j < f.2.length
  · rw [h.bl j hj]; omega
  · have h1 : named f true j = 0 := Decidable.byContradiction fun hn => hj (h.inv.block hn).1
    unfold extB
    rw [h1, blockOf_out (by omega)]
    decide
theorem right_ext {f : Fo} (h : Right f) (m : Nat) : 0 ≤ ext f m := by
  by_cases hm : m < f.1.length
  · cases hl : (nodeOf f m).2.1 with
    | true => exact h.le m hm hl
    | false =>
      have h1 := h.inv.own hl
      have h2 := (h.inv.nd m).r0
      unfold ext
      omega
  · have h1 : named f false m = 0 := Decidable.byContradiction fun hn => hm (h.inv.leaf hn).1
    unfold ext
    rw [h1, nodeOf_out (by omega)]
    decide
theorem lessRoot_len (f : Fo) (i : Nat) : (lessRoot f i).1.length = f.1.length := by
  unfold lessRoot
  split
  · simp
  · rw [lessLeaves_len]; simp
section
variable {o : Bool} {l u : Nat} (an : Option Addr) (nn cn : Nat) (ab : Option Addr) (nb cb : Nat) (K : Nat → KS) (f : Fo) (w : World) (h : FoAt w o l u an nn cn ab nb cb K f) (hn : nn ≤ 2097152) (hb : nb ≤ 2097152) (hK : ∀ i, i < nn → (K i).2.1 ≤ 2097152)
include h hn hb hK

set_option maxRecDepth 20000 in
set_option maxHeartbeats 4000000 in
theorem implShareT_is (root : Int) (cd rt : Int) (g : Fo) (hc : shareTCode f root = cd) (hr : atIf (shareTCode f root) root = rt) (hf : shareFo f root = g) : Calls Try.prog 162 #[.agg #[.slice an nn cn, .slice ab nb cb], .int .i64 root] w fun e w' => FoRes true w w' e cd rt g := by
  have B : Below w.heap.size w ((w.alloc (.cells #[.slice an nn cn, .slice ab nb cb] 28)).alloc (.cells #[.int .i64 0, .int .i64 0, .slice none 0 0, .slice none 0 0] 88)) := ((Below.refl _ _).alloc (Nat.le_refl _) _).alloc (by simp) _
  have g0 : ((w.alloc (.cells #[.slice an nn cn, .slice ab nb cb] 28)).alloc (.cells #[.int .i64 0, .int .i64 0, .slice none 0 0, .slice none 0 0] 88)).cell? ⟨w.heap.size, 0, none⟩ = some (.slice an nn cn) := by simp
  have g1 : ((w.alloc (.cells #[.slice an nn cn, .slice ab nb cb] 28)).alloc (.cells #[.int .i64 0, .int .i64 0, .slice none 0 0, .slice none 0 0] 88)).cell? ⟨w.heap.size, 1, none⟩ = some (.slice ab nb cb) := by simp
  have z0 : ((w.alloc (.cells #[.slice an nn cn, .slice ab nb cb] 28)).alloc (.cells #[.int .i64 0, .int .i64 0, .slice none 0 0, .slice none 0 0] 88)).cell? ⟨w.heap.size + 1, 0, none⟩ = some (.int .i64 0) := by simp
  have y0 : ((w.alloc (.cells #[.slice an nn cn, .slice ab nb cb] 28)).alloc (.cells #[.int .i64 0, .int .i64 0, .slice none 0 0, .slice none 0 0] 88)).frozen? ⟨w.heap.size + 1, 0, none⟩ = false := by simp
  have z1 : ((w.alloc (.cells #[.slice an nn cn, .slice ab nb cb] 28)).alloc (.cells #[.int .i64 0, .int .i64 0, .slice none 0 0, .slice none 0 0] 88)).cell? ⟨w.heap.size + 1, 1, none⟩ = some (.int .i64 0) := by simp
  have y1 : ((w.alloc (.cells #[.slice an nn cn, .slice ab nb cb] 28)).alloc (.cells #[.int .i64 0, .int .i64 0, .slice none 0 0, .slice none 0 0] 88)).frozen? ⟨w.heap.size + 1, 1, none⟩ = false := by simp
  have z2 : ((w.alloc (.cells #[.slice an nn cn, .slice ab nb cb] 28)).alloc (.cells #[.int .i64 0, .int .i64 0, .slice none 0 0, .slice none 0 0] 88)).cell? ⟨w.heap.size + 1, 2, none⟩ = some (.slice none 0 0) := by simp
  have y2 : ((w.alloc (.cells #[.slice an nn cn, .slice ab nb cb] 28)).alloc (.cells #[.int .i64 0, .int .i64 0, .slice none 0 0, .slice none 0 0] 88)).frozen? ⟨w.heap.size + 1, 2, none⟩ = false := by simp
  have z3 : ((w.alloc (.cells #[.slice an nn cn, .slice ab nb cb] 28)).alloc (.cells #[.int .i64 0, .int .i64 0, .slice none 0 0, .slice none 0 0] 88)).cell? ⟨w.heap.size + 1, 3, none⟩ = some (.slice none 0 0) := by simp
  have y3 : ((w.alloc (.cells #[.slice an nn cn, .slice ab nb cb] 28)).alloc (.cells #[.int .i64 0, .int .i64 0, .slice none 0 0, .slice none 0 0] 88)).frozen? ⟨w.heap.size + 1, 3, none⟩ = false := by simp
  have hz : w.heap.size + 1 < ((w.alloc (.cells #[.slice an nn cn, .slice ab nb cb] 28)).alloc (.cells #[.int .i64 0, .int .i64 0, .slice none 0 0, .slice none 0 0] 88)).heap.size := by simp
  have r := h.below B
  obtain ⟨t, ht⟩ : ∃ t, treeCode f root 0 = t := ⟨_, rfl⟩
  have HT : Hid _ := ht
  unfold shareFo at hf
  rw [hc] at hr hf
  unfold shareTCode at hc
  rw [ht] at hc
  by_cases h0 : t = 0
  · subst h0
    obtain ⟨tr, hro, _, _⟩ := tree_of ht
    have HV : Hid _ := tr.inv
    have hlen60 := tr.inv.nn
    have hneg : root = -1 ∨ 0 ≤ root := by rcases hro with e | e <;> omega
    rw [if_pos rfl] at hc
    by_cases hm1 : root = -1
    · subst hm1
      rw [if_neg (by omega)] at hc
      subst hc
      simp only [atIf, foIf, if_true, shareF] at hr hf
      rw [if_neg (by omega)] at hf
      subst hr
      subst hf
      clear ht tr hro hneg
      go_enter Try.func162, Try.ntmps162
      go_wp2_with fail
      refine (rootFault_is an nn cn ab nb cb K f _ (by exact r) hn hb hK (-1) 0 HT.out).mono ?_
      rintro e w1 ⟨rfl, hb1⟩
      replace r := r.below hb1
      replace g0 := cell_later hb1 g0
      replace g1 := cell_later hb1 g1
      replace z0 := cell_later hb1 z0
      replace y0 := frozen_later hb1 hz y0
      replace z1 := cell_later hb1 z1
      replace y1 := frozen_later hb1 hz y1
      replace z2 := cell_later hb1 z2
      replace y2 := frozen_later hb1 hz y2
      replace z3 := cell_later hb1 z3
      replace y3 := frozen_later hb1 hz y3
      replace hz := Nat.lt_of_lt_of_le hz hb1.size
      replace B := below_next B hb1
      have hz1 := hz
      clear hb1
      go_wp2_with fail
      refine (groveOf_is an nn cn ab nb cb K f _ (by exact r) HV.out).mono ?_
      rintro e w2 ⟨gb, vn, ab2, nb2, cb2, P, rfl, J, hb2⟩
      have hw12 := hb2.size
      have HJ : Hid _ := J
      clear J
      have hbW := hb2
      clear hb2
      go_wp2_with fail
      refine (answer_is HJ.out hlen60 (by omega) (-1)).mono ?_
      rintro e w4 ⟨pa, pn, pc, qa, qn, qc, PK, rfl, FA, hb4⟩
      have hb5 : Below w1.heap.size w1 w4 := hbW.trans (hb4.mono hbW.size)
      replace z0 := cell_later hb5 z0
      replace y0 := frozen_later hb5 hz y0
      replace z1 := cell_later hb5 z1
      replace y1 := frozen_later hb5 hz y1
      replace z2 := cell_later hb5 z2
      replace y2 := frozen_later hb5 hz y2
      replace z3 := cell_later hb5 z3
      replace y3 := frozen_later hb5 hz y3
      replace hz := Nat.lt_of_lt_of_le hz hb5.size
      replace B := below_next B hb5
      clear hb5 hb4 hbW g0 g1 r
      have hw1z := B.size
      go_wp2
      refine bodyPost_ret (v := .agg #[.int .i64 0, .int .i64 (-1), .slice pa pn pc, .slice qa qn qc]) (by simp [results, Try.results162, go_sem, z0, z1, z2, z3]) rfl ⟨_, _, _, _, _, _, PK, rfl, ?_, ?_⟩
      · refine FoAt.widen (FoAt.kept FA (l := w.heap.size + 1) (u := w.heap.size + 2) ?_ (by omega)) (by omega) ?_
        · refine Kept.setCell (Kept.setCell (Kept.setCell (Kept.setCell (Kept.refl _ _ _) ?_ ?_ _) ?_ ?_ _) ?_ ?_ _) ?_ ?_ _ <;> simp
        · simp
      · refine Below.setCell (Below.setCell (Below.setCell (Below.setCell B ?_ _) ?_ _) ?_ _) ?_ _ <;> simp
    · obtain ⟨i, rfl⟩ : ∃ i : Nat, root = i := ⟨root.toNat, by omega⟩
      have hin : ((i : Int) != -1) = true := by simp
      obtain ⟨_, hlv, hlf⟩ := hro.resolve_left hm1
      rw [Int.toNat_natCast] at hlv hlf
      have hil := live_lt hlv
      have hnd := tr.inv.nd i
      have hr0 := hnd.r0
      have hr1 := hnd.r1
      simp only [Int.toNat_natCast] at hc
      by_cases h200 : 200 ≤ (nodeOf f i).1
      · rw [if_pos ⟨by omega, h200⟩] at hc
        subst hc
        simp only [atIf, foIf] at hr hf
        rw [if_neg (by decide)] at hr hf
        subst hr
        subst hf
        have H2 : Hid ((nodeOf f i).1 = 200) := by show _ = _; omega
        clear ht tr hro hneg hnd hr0 hr1 h200
        go_enter Try.func162, Try.ntmps162
        go_wp2_with fail
        refine (rootFault_is an nn cn ab nb cb K f _ (by exact r) hn hb hK (i : Int) 0 HT.out).mono ?_
        rintro e w1 ⟨rfl, hb1⟩
        replace r := r.below hb1
        replace g0 := cell_later hb1 g0
        replace g1 := cell_later hb1 g1
        replace z0 := cell_later hb1 z0
        replace y0 := frozen_later hb1 hz y0
        replace z1 := cell_later hb1 z1
        replace y1 := frozen_later hb1 hz y1
        replace z2 := cell_later hb1 z2
        replace y2 := frozen_later hb1 hz y2
        replace z3 := cell_later hb1 z3
        replace y3 := frozen_later hb1 hz y3
        replace hz := Nat.lt_of_lt_of_le hz hb1.size
        replace B := below_next B hb1
        have hz1 := hz
        clear hb1
        go_wp2_with fail
        refine (groveOf_is an nn cn ab nb cb K f _ (by exact r) HV.out).mono ?_
        rintro e w2 ⟨gb, vn, ab2, nb2, cb2, P, rfl, J, hb2⟩
        have hw12 := hb2.size
        have HJ : Hid _ := J
        clear J
        go_wp2_with fail
        refine (share_many HJ.out hil (fun x => x) H2.out).mono ?_
        rintro e w3 ⟨rfl, rfl⟩
        replace z0 := cell_later hb2 z0
        replace y0 := frozen_later hb2 hz y0
        replace z1 := cell_later hb2 z1
        replace y1 := frozen_later hb2 hz y1
        replace z2 := cell_later hb2 z2
        replace y2 := frozen_later hb2 hz y2
        replace z3 := cell_later hb2 z3
        replace y3 := frozen_later hb2 hz y3
        replace hz := Nat.lt_of_lt_of_le hz hb2.size
        replace B := below_next B hb2
        clear hb2 g0 g1 r
        go_wp2
        refine bodyPost_ret (v := .agg #[.int .i64 2, .int .i64 0, .slice none 0 0, .slice none 0 0]) (by simp [results, Try.results162, go_sem, z0, z1, z2, z3]) rfl (FoRes.bad 2 ?_)
        refine Below.setCell (Below.setCell (Below.setCell (Below.setCell B ?_ _) ?_ _) ?_ _) ?_ _ <;> simp
      · rw [if_neg (fun e => h200 e.2)] at hc
        subst hc
        simp only [atIf, foIf, if_true, shareF] at hr hf
        rw [if_pos (by omega), Int.toNat_natCast] at hf
        subst hr
        subst hf
        have H1 : Hid (0 < (nodeOf f i).1) := by show _ < _; omega
        have H2 : Hid ((nodeOf f i).1 < 200) := by show _ < _; omega
        clear ht tr hro hneg hnd hr0 hr1 h200
        go_enter Try.func162, Try.ntmps162
        go_wp2_with fail
        refine (rootFault_is an nn cn ab nb cb K f _ (by exact r) hn hb hK (i : Int) 0 HT.out).mono ?_
        rintro e w1 ⟨rfl, hb1⟩
        replace r := r.below hb1
        replace g0 := cell_later hb1 g0
        replace g1 := cell_later hb1 g1
        replace z0 := cell_later hb1 z0
        replace y0 := frozen_later hb1 hz y0
        replace z1 := cell_later hb1 z1
        replace y1 := frozen_later hb1 hz y1
        replace z2 := cell_later hb1 z2
        replace y2 := frozen_later hb1 hz y2
        replace z3 := cell_later hb1 z3
        replace y3 := frozen_later hb1 hz y3
        replace hz := Nat.lt_of_lt_of_le hz hb1.size
        replace B := below_next B hb1
        have hz1 := hz
        clear hb1
        go_wp2_with fail
        refine (groveOf_is an nn cn ab nb cb K f _ (by exact r) HV.out).mono ?_
        rintro e w2 ⟨gb, vn, ab2, nb2, cb2, P, rfl, J, hb2⟩
        have hw12 := hb2.size
        have HJ : Hid _ := J
        clear J
        go_wp2_with fail
        refine (share_is HJ.out hil (fun x => x) H1.out H2.out).mono ?_
        rintro e w3 ⟨rfl, ⟨vn3, ab3, nb3, cb3, P3, J3⟩, K3⟩
        have hbW := below_S hb2 K3 hw12
        have HJ3 : Hid _ := J3
        have hs3 := K3.size
        clear J3 K3 hb2 HJ
        go_wp2_with fail
        refine (answer_is HJ3.out (by show (f.1.set i _).length ≤ 60; rw [List.length_set]; exact hlen60) (by omega) (i : Int)).mono ?_
        rintro e w4 ⟨pa, pn, pc, qa, qn, qc, PK, rfl, FA, hb4⟩
        have hb5 : Below w1.heap.size w1 w4 := hbW.trans (hb4.mono hbW.size)
        replace z0 := cell_later hb5 z0
        replace y0 := frozen_later hb5 hz y0
        replace z1 := cell_later hb5 z1
        replace y1 := frozen_later hb5 hz y1
        replace z2 := cell_later hb5 z2
        replace y2 := frozen_later hb5 hz y2
        replace z3 := cell_later hb5 z3
        replace y3 := frozen_later hb5 hz y3
        replace hz := Nat.lt_of_lt_of_le hz hb5.size
        replace B := below_next B hb5
        clear hb5 hb4 hbW g0 g1 r
        have hw1z := B.size
        go_wp2
        refine bodyPost_ret (v := .agg #[.int .i64 0, .int .i64 (i : Int), .slice pa pn pc, .slice qa qn qc]) (by simp [results, Try.results162, go_sem, z0, z1, z2, z3]) rfl ⟨_, _, _, _, _, _, PK, rfl, ?_, ?_⟩
        · refine FoAt.widen (FoAt.kept FA (l := w.heap.size + 1) (u := w.heap.size + 2) ?_ (by omega)) (by omega) ?_
          · refine Kept.setCell (Kept.setCell (Kept.setCell (Kept.setCell (Kept.refl _ _ _) ?_ ?_ _) ?_ ?_ _) ?_ ?_ _) ?_ ?_ _ <;> simp
          · simp
        · refine Below.setCell (Below.setCell (Below.setCell (Below.setCell B ?_ _) ?_ _) ?_ _) ?_ _ <;> simp
  · rw [if_neg h0] at hc
    subst hc
    simp only [atIf, foIf] at hr hf
    rw [if_neg h0] at hr hf
    subst hr
    subst hf
    have hne : (t != 0) = true := by simp [h0]
    clear h0 ht
    go_enter Try.func162, Try.ntmps162
    go_wp2_with fail
    refine (rootFault_is an nn cn ab nb cb K f _ (by exact r) hn hb hK root t HT.out).mono ?_
    rintro e w1 ⟨rfl, hb1⟩
    replace r := r.below hb1
    replace g0 := cell_later hb1 g0
    replace g1 := cell_later hb1 g1
    replace z0 := cell_later hb1 z0
    replace y0 := frozen_later hb1 hz y0
    replace z1 := cell_later hb1 z1
    replace y1 := frozen_later hb1 hz y1
    replace z2 := cell_later hb1 z2
    replace y2 := frozen_later hb1 hz y2
    replace z3 := cell_later hb1 z3
    replace y3 := frozen_later hb1 hz y3
    replace hz := Nat.lt_of_lt_of_le hz hb1.size
    replace B := below_next B hb1
    have hz1 := hz
    clear hb1
    clear g0 g1 r
    go_wp2
    refine bodyPost_ret (v := .agg #[.int .i64 t, .int .i64 0, .slice none 0 0, .slice none 0 0]) (by simp [results, Try.results162, go_sem, z0, z1, z2, z3]) rfl (FoRes.bad t ?_)
    refine Below.setCell (Below.setCell (Below.setCell (Below.setCell B ?_ _) ?_ _) ?_ _) ?_ _ <;> simp

set_option maxRecDepth 20000 in
set_option maxHeartbeats 4000000 in
theorem implDropT_is (root : Int) (cd rt : Int) (g : Fo) (hc : treeCode f root 0 = cd) (hr : dropRoot f root = rt) (hf : dropFo f root = g) : Calls Try.prog 163 #[.agg #[.slice an nn cn, .slice ab nb cb], .int .i64 root] w fun e w' => FoRes true w w' e cd rt g := by
  have B : Below w.heap.size w ((w.alloc (.cells #[.slice an nn cn, .slice ab nb cb] 28)).alloc (.cells #[.int .i64 0, .int .i64 0, .slice none 0 0, .slice none 0 0] 88)) := ((Below.refl _ _).alloc (Nat.le_refl _) _).alloc (by simp) _
  have g0 : ((w.alloc (.cells #[.slice an nn cn, .slice ab nb cb] 28)).alloc (.cells #[.int .i64 0, .int .i64 0, .slice none 0 0, .slice none 0 0] 88)).cell? ⟨w.heap.size, 0, none⟩ = some (.slice an nn cn) := by simp
  have g1 : ((w.alloc (.cells #[.slice an nn cn, .slice ab nb cb] 28)).alloc (.cells #[.int .i64 0, .int .i64 0, .slice none 0 0, .slice none 0 0] 88)).cell? ⟨w.heap.size, 1, none⟩ = some (.slice ab nb cb) := by simp
  have z0 : ((w.alloc (.cells #[.slice an nn cn, .slice ab nb cb] 28)).alloc (.cells #[.int .i64 0, .int .i64 0, .slice none 0 0, .slice none 0 0] 88)).cell? ⟨w.heap.size + 1, 0, none⟩ = some (.int .i64 0) := by simp
  have y0 : ((w.alloc (.cells #[.slice an nn cn, .slice ab nb cb] 28)).alloc (.cells #[.int .i64 0, .int .i64 0, .slice none 0 0, .slice none 0 0] 88)).frozen? ⟨w.heap.size + 1, 0, none⟩ = false := by simp
  have z1 : ((w.alloc (.cells #[.slice an nn cn, .slice ab nb cb] 28)).alloc (.cells #[.int .i64 0, .int .i64 0, .slice none 0 0, .slice none 0 0] 88)).cell? ⟨w.heap.size + 1, 1, none⟩ = some (.int .i64 0) := by simp
  have y1 : ((w.alloc (.cells #[.slice an nn cn, .slice ab nb cb] 28)).alloc (.cells #[.int .i64 0, .int .i64 0, .slice none 0 0, .slice none 0 0] 88)).frozen? ⟨w.heap.size + 1, 1, none⟩ = false := by simp
  have z2 : ((w.alloc (.cells #[.slice an nn cn, .slice ab nb cb] 28)).alloc (.cells #[.int .i64 0, .int .i64 0, .slice none 0 0, .slice none 0 0] 88)).cell? ⟨w.heap.size + 1, 2, none⟩ = some (.slice none 0 0) := by simp
  have y2 : ((w.alloc (.cells #[.slice an nn cn, .slice ab nb cb] 28)).alloc (.cells #[.int .i64 0, .int .i64 0, .slice none 0 0, .slice none 0 0] 88)).frozen? ⟨w.heap.size + 1, 2, none⟩ = false := by simp
  have z3 : ((w.alloc (.cells #[.slice an nn cn, .slice ab nb cb] 28)).alloc (.cells #[.int .i64 0, .int .i64 0, .slice none 0 0, .slice none 0 0] 88)).cell? ⟨w.heap.size + 1, 3, none⟩ = some (.slice none 0 0) := by simp
  have y3 : ((w.alloc (.cells #[.slice an nn cn, .slice ab nb cb] 28)).alloc (.cells #[.int .i64 0, .int .i64 0, .slice none 0 0, .slice none 0 0] 88)).frozen? ⟨w.heap.size + 1, 3, none⟩ = false := by simp
  have hz : w.heap.size + 1 < ((w.alloc (.cells #[.slice an nn cn, .slice ab nb cb] 28)).alloc (.cells #[.int .i64 0, .int .i64 0, .slice none 0 0, .slice none 0 0] 88)).heap.size := by simp
  have r := h.below B
  obtain ⟨t, ht⟩ : ∃ t, treeCode f root 0 = t := ⟨_, rfl⟩
  have HT : Hid _ := ht
  unfold dropRoot at hr
  unfold dropFo at hf
  rw [hc] at hr hf
  rw [ht] at hc
  by_cases h0 : t = 0
  · subst h0
    obtain ⟨tr, hro, _, _⟩ := tree_of ht
    have HV : Hid _ := tr.inv
    have hlen60 := tr.inv.nn
    have hneg : root = -1 ∨ 0 ≤ root := by rcases hro with e | e <;> omega
    by_cases hm1 : root = -1
    · subst hm1
      subst hc
      simp only [atIf, foIf, if_true, dropF] at hr hf
      rw [if_neg (by omega)] at hf
      subst hr
      subst hf
      clear ht tr hro hneg
      go_enter Try.func163, Try.ntmps163
      go_wp2_with fail
      refine (rootFault_is an nn cn ab nb cb K f _ (by exact r) hn hb hK (-1) 0 HT.out).mono ?_
      rintro e w1 ⟨rfl, hb1⟩
      replace r := r.below hb1
      replace g0 := cell_later hb1 g0
      replace g1 := cell_later hb1 g1
      replace z0 := cell_later hb1 z0
      replace y0 := frozen_later hb1 hz y0
      replace z1 := cell_later hb1 z1
      replace y1 := frozen_later hb1 hz y1
      replace z2 := cell_later hb1 z2
      replace y2 := frozen_later hb1 hz y2
      replace z3 := cell_later hb1 z3
      replace y3 := frozen_later hb1 hz y3
      replace hz := Nat.lt_of_lt_of_le hz hb1.size
      replace B := below_next B hb1
      have hz1 := hz
      clear hb1
      go_wp2_with fail
      refine (groveOf_is an nn cn ab nb cb K f _ (by exact r) HV.out).mono ?_
      rintro e w2 ⟨gb, vn, ab2, nb2, cb2, P, rfl, J, hb2⟩
      have hw12 := hb2.size
      have HJ : Hid _ := J
      clear J
      have hbW := hb2
      clear hb2
      go_wp2_with fail
      refine (answer_is HJ.out hlen60 (by omega) (-1)).mono ?_
      rintro e w4 ⟨pa, pn, pc, qa, qn, qc, PK, rfl, FA, hb4⟩
      have hb5 : Below w1.heap.size w1 w4 := hbW.trans (hb4.mono hbW.size)
      replace z0 := cell_later hb5 z0
      replace y0 := frozen_later hb5 hz y0
      replace z1 := cell_later hb5 z1
      replace y1 := frozen_later hb5 hz y1
      replace z2 := cell_later hb5 z2
      replace y2 := frozen_later hb5 hz y2
      replace z3 := cell_later hb5 z3
      replace y3 := frozen_later hb5 hz y3
      replace hz := Nat.lt_of_lt_of_le hz hb5.size
      replace B := below_next B hb5
      clear hb5 hb4 hbW g0 g1 r
      have hw1z := B.size
      go_wp2
      refine bodyPost_ret (v := .agg #[.int .i64 0, .int .i64 (-1), .slice pa pn pc, .slice qa qn qc]) (by simp [results, Try.results163, go_sem, z0, z1, z2, z3]) rfl ⟨_, _, _, _, _, _, PK, rfl, ?_, ?_⟩
      · refine FoAt.widen (FoAt.kept FA (l := w.heap.size + 1) (u := w.heap.size + 2) ?_ (by omega)) (by omega) ?_
        · refine Kept.setCell (Kept.setCell (Kept.setCell (Kept.setCell (Kept.refl _ _ _) ?_ ?_ _) ?_ ?_ _) ?_ ?_ _) ?_ ?_ _ <;> simp
        · simp
      · refine Below.setCell (Below.setCell (Below.setCell (Below.setCell B ?_ _) ?_ _) ?_ _) ?_ _ <;> simp
    · obtain ⟨i, rfl⟩ : ∃ i : Nat, root = i := ⟨root.toNat, by omega⟩
      have hin : ((i : Int) != -1) = true := by simp
      obtain ⟨_, hlv, hlf⟩ := hro.resolve_left hm1
      rw [Int.toNat_natCast] at hlv hlf
      have HP : Hid _ := rootP_of tr.inv (fun j => right_extB tr j) (fun m => right_ext tr m) hlv hlf
      subst hc
      simp only [atIf, foIf, if_true, dropF] at hr hf
      rw [if_pos (by omega), Int.toNat_natCast] at hf
      subst hr
      have HL : Hid _ := hf
      have hgl : g.1.length ≤ 60 := by rw [← hf]; rw [lessRoot_len]; exact hlen60
      clear ht tr hro hneg hf
      go_enter Try.func163, Try.ntmps163
      go_wp2_with fail
      refine (rootFault_is an nn cn ab nb cb K f _ (by exact r) hn hb hK (i : Int) 0 HT.out).mono ?_
      rintro e w1 ⟨rfl, hb1⟩
      replace r := r.below hb1
      replace g0 := cell_later hb1 g0
      replace g1 := cell_later hb1 g1
      replace z0 := cell_later hb1 z0
      replace y0 := frozen_later hb1 hz y0
      replace z1 := cell_later hb1 z1
      replace y1 := frozen_later hb1 hz y1
      replace z2 := cell_later hb1 z2
      replace y2 := frozen_later hb1 hz y2
      replace z3 := cell_later hb1 z3
      replace y3 := frozen_later hb1 hz y3
      replace hz := Nat.lt_of_lt_of_le hz hb1.size
      replace B := below_next B hb1
      have hz1 := hz
      clear hb1
      go_wp2_with fail
      refine (groveOf_is an nn cn ab nb cb K f _ (by exact r) HV.out).mono ?_
      rintro e w2 ⟨gb, vn, ab2, nb2, cb2, P, rfl, J, hb2⟩
      have hw12 := hb2.size
      have HJ : Hid _ := J
      clear J
      go_wp2_with fail
      refine (drop_root HJ.out (fun k hk => Nat.le_trans hw12 hk) hw12 HP.out g HL.out).mono ?_
      rintro e w3 ⟨⟨v, rfl⟩, ⟨vn3, ab3, nb3, cb3, P3, J3⟩, K3⟩
      have hbW := below_S hb2 K3 hw12
      have HJ3 : Hid _ := J3
      have hs3 := K3.size
      clear J3 K3 hb2 HJ
      go_wp2_with fail
      refine (answer_is HJ3.out hgl (by omega) (-1)).mono ?_
      rintro e w4 ⟨pa, pn, pc, qa, qn, qc, PK, rfl, FA, hb4⟩
      have hb5 : Below w1.heap.size w1 w4 := hbW.trans (hb4.mono hbW.size)
      replace z0 := cell_later hb5 z0
      replace y0 := frozen_later hb5 hz y0
      replace z1 := cell_later hb5 z1
      replace y1 := frozen_later hb5 hz y1
      replace z2 := cell_later hb5 z2
      replace y2 := frozen_later hb5 hz y2
      replace z3 := cell_later hb5 z3
      replace y3 := frozen_later hb5 hz y3
      replace hz := Nat.lt_of_lt_of_le hz hb5.size
      replace B := below_next B hb5
      clear hb5 hb4 hbW g0 g1 r
      have hw1z := B.size
      go_wp2
      refine bodyPost_ret (v := .agg #[.int .i64 0, .int .i64 (-1), .slice pa pn pc, .slice qa qn qc]) (by simp [results, Try.results163, go_sem, z0, z1, z2, z3]) rfl ⟨_, _, _, _, _, _, PK, rfl, ?_, ?_⟩
      · refine FoAt.widen (FoAt.kept FA (l := w.heap.size + 1) (u := w.heap.size + 2) ?_ (by omega)) (by omega) ?_
        · refine Kept.setCell (Kept.setCell (Kept.setCell (Kept.setCell (Kept.refl _ _ _) ?_ ?_ _) ?_ ?_ _) ?_ ?_ _) ?_ ?_ _ <;> simp
        · simp
      · refine Below.setCell (Below.setCell (Below.setCell (Below.setCell B ?_ _) ?_ _) ?_ _) ?_ _ <;> simp
  · subst hc
    simp only [atIf, foIf] at hr hf
    rw [if_neg h0] at hr hf
    subst hr
    subst hf
    have hne : (t != 0) = true := by simp [h0]
    clear h0 ht
    go_enter Try.func163, Try.ntmps163
    go_wp2_with fail
    refine (rootFault_is an nn cn ab nb cb K f _ (by exact r) hn hb hK root t HT.out).mono ?_
    rintro e w1 ⟨rfl, hb1⟩
    replace r := r.below hb1
    replace g0 := cell_later hb1 g0
    replace g1 := cell_later hb1 g1
    replace z0 := cell_later hb1 z0
    replace y0 := frozen_later hb1 hz y0
    replace z1 := cell_later hb1 z1
    replace y1 := frozen_later hb1 hz y1
    replace z2 := cell_later hb1 z2
    replace y2 := frozen_later hb1 hz y2
    replace z3 := cell_later hb1 z3
    replace y3 := frozen_later hb1 hz y3
    replace hz := Nat.lt_of_lt_of_le hz hb1.size
    replace B := below_next B hb1
    have hz1 := hz
    clear hb1
    clear g0 g1 r
    go_wp2
    refine bodyPost_ret (v := .agg #[.int .i64 t, .int .i64 0, .slice none 0 0, .slice none 0 0]) (by simp [results, Try.results163, go_sem, z0, z1, z2, z3]) rfl (FoRes.bad t ?_)
    refine Below.setCell (Below.setCell (Below.setCell (Below.setCell B ?_ _) ?_ _) ?_ _) ?_ _ <;> simp
end

end Go.Proofs.Ytikjndmgljkhhaa
