/- Chapter 4: the program shares and drops trees. -/
import Derived.Test.YtgkfkkeaffphlaaZG
import Derived.Test.YtgkfkkeaffphlaaZV
import Derived.Test.YtgkfkkeaffphlaaT8
import Derived.Test.YtgkfkkeaffphlaaZW
namespace Go.Proofs.Ytgkfkkeaffphlaa
open Go.RowKit

theorem below_S {B : Nat} {a b c : World} (h : Below B a b) (k : KeptS (fun x => B ≤ x) b c) (hB : B ≤ b.heap.size) : Below B a c := h.trans ⟨k.os, k.tape, k.output, k.size, fun i hi => k.block i (by omega) (by omega)⟩
/-- the answer with a code -/
theorem FoRes.bad {w w' : World} (cd : Int) (hb : Below w.heap.size w w') : FoRes true w w' (.returned (.agg #[.int .i64 cd, .int .i64 0, .slice none 0 0, .slice none 0 0])) cd 0 ([], []) := ⟨_, _, _, _, _, _, _, rfl, FoAt.nil _ _ _ _, hb⟩
theorem right_extB {f : Fo} (h : Right f) (j : Nat) : 0 ≤ extB f j := by
  by_cases hj : j < f.2.length
  · rw [h.bl j hj]; omega
  · have h1 : named f true j = 0 := Decidable.byContradiction fun hn => hj (h.inv.block hn).1
    unfold extB
    rw [h1, blockOf_out (by omega)]
    decide
theorem right_ext {f : Fo} (h : Right f) (m : Nat) : 0 ≤ ext f m := by
  by_cases hm : m < f.1.length
  · cases hl : (nodeOf f m).2.1 with
    | true => exact h.le m hm hl
    | false =>
      have h1 := h.inv.own hl
      have h2 := (h.inv.nd m).r0
      unfold ext
      omega
  · have h1 : named f false m = 0 := Decidable.byContradiction fun hn => hm (h.inv.leaf hn).1
    unfold ext
    rw [h1, nodeOf_out (by omega)]
    decide
theorem lessRoot_len (f : Fo) (i : Nat) : (lessRoot f i).1.length = f.1.length := by
  unfold lessRoot
  split
  · simp
  · rw [lessLeaves_len]; simp
section
variable {o : Bool} {l u : Nat} (an : Option Addr) (nn cn : Nat) (ab : Option Addr) (nb cb : Nat) (K : Nat → KS) (f : Fo) (w : World) (h : FoAt w o l u an nn cn ab nb cb K f) (hn : nn ≤ 2097152) (hb : nb ≤ 2097152) (hK : ∀ i, i < nn → (K i).2.1 ≤ 2097152)
include h hn hb hK

set_option maxRecDepth 20000 in
set_option maxHeartbeats 4000000 in
theorem implShareT_is (root : Int) (cd rt : Int) (g : Fo) (hc : shareTCode f root = cd) (hr : atIf (shareTCode f root) root = rt) (hf : shareFo f root = g) : Calls Try.prog 48 #[.agg #[.slice an nn cn, .slice ab nb cb], .int .i64 root] w fun e w' => FoRes true w w' e cd rt g := by
  have B : Below w.heap.size w ((w.alloc (.cells #[.slice an nn cn, .slice ab nb cb] 60)).alloc (.cells #[.int .i64 0, .int .i64 0, .slice none 0 0, .slice none 0 0] 64)) := ((Below.refl _ _).alloc (Nat.le_refl _) _).alloc (by simp) _
  have g0 : ((w.alloc (.cells #[.slice an nn cn, .slice ab nb cb] 60)).alloc (.cells #[.int .i64 0, .int .i64 0, .slice none 0 0, .slice none 0 0] 64)).cell? ⟨w.heap.size, 0, none⟩ = some (.slice an nn cn) := by simp
  have g1 : ((w.alloc (.cells #[.slice an nn cn, .slice ab nb cb] 60)).alloc (.cells #[.int .i64 0, .int .i64 0, .slice none 0 0, .slice none 0 0] 64)).cell? ⟨w.heap.size, 1, none⟩ = some (.slice ab nb cb) := by simp
  have z0 : ((w.alloc (.cells #[.slice an nn cn, .slice ab nb cb] 60)).alloc (.cells #[.int .i64 0, .int .i64 0, .slice none 0 0, .slice none 0 0] 64)).cell? ⟨w.heap.size + 1, 0, none⟩ = some (.int .i64 0) := by simp
  have y0 : ((w.alloc (.cells #[.slice an nn cn, .slice ab nb cb] 60)).alloc (.cells #[.int .i64 0, .int .i64 0, .slice none 0 0, .slice none 0 0] 64)).frozen? ⟨w.heap.size + 1, 0, none⟩ = false := by simp
  have z1 : ((w.alloc (.cells #[.slice an nn cn, .slice ab nb cb] 60)).alloc (.cells #[.int .i64 0, .int .i64 0, .slice none 0 0, .slice none 0 0] 64)).cell? ⟨w.heap.size + 1, 1, none⟩ = some (.int .i64 0) := by simp
  have y1 : ((w.alloc (.cells #[.slice an nn cn, .slice ab nb cb] 60)).alloc (.cells #[.int .i64 0, .int .i64 0, .slice none 0 0, .slice none 0 0] 64)).frozen? ⟨w.heap.size + 1, 1, none⟩ = false := by simp
  have z2 : ((w.alloc (.cells #[.slice an nn cn, .slice ab nb cb] 60)).alloc (.cells #[.int .i64 0, .int .i64 0, .slice none 0 0, .slice none 0 0] 64)).cell? ⟨w.heap.size + 1, 2, none⟩ = some (.slice none 0 0) := by simp
  have y2 : ((w.alloc (.cells #[.slice an nn cn, .slice ab nb cb] 60)).alloc (.cells #[.int .i64 0, .int .i64 0, .slice none 0 0, .slice none 0 0] 64)).frozen? ⟨w.heap.size + 1, 2, none⟩ = false := by simp
  have z3 : ((w.alloc (.cells #[.slice an nn cn, .slice ab nb cb] 60)).alloc (.cells #[.int .i64 0, .int .i64 0, .slice none 0 0, .slice none 0 0] 64)).cell? ⟨w.heap.size + 1, 3, none⟩ = some (.slice none 0 0) := by simp
  have y3 : ((w.alloc (.cells #[.slice an nn cn, .slice ab nb cb] 60)).alloc (.cells #[.int .i64 0, .int .i64 0, .slice none 0 0, .slice none 0 0] 64)).frozen? ⟨w.heap.size + 1, 3, none⟩ = false := by simp
  have hz : w.heap.size + 1 < ((w.alloc (.cells #[.slice an nn cn, .slice ab nb cb] 60)).alloc (.cells #[.int .i64 0, .int .i64 0, .slice none 0 0, .slice none 0 0] 64)).heap.size := by simp
  have r := h.below B
  obtain ⟨t, ht⟩ : ∃ t, treeCode f root 0 = t := ⟨_, rfl⟩
  have HT : Hid _ := ht
  unfold shareFo at hf
  rw [hc] at hr hf
  unfold shareTCode at hc
  rw [ht] at hc
  by_cases h0 : t = 0
  · subst h0
    obtain ⟨tr, hro, _, _⟩ := tree_of ht
    have HV : Hid _ := tr.inv
    have hlen60 := tr.inv.nn
    have hneg : root = -1 ∨ 0 ≤ root := by rcases hro with e | e <;> omega
    rw [if_pos rfl] at hc
    by_cases hm1 : root = -1
    · subst hm1
      rw [if_neg (by omega)] at hc
      subst hc
      simp only [atIf, foIf, if_true, shareF] at hr hf
      rw [if_neg (by omega)] at hf
      subst hr
      subst hf
      clear ht tr hro hneg
      go_enter Try.func48, Try.ntmps48
      go_wp2_with fail
      refine (rootFault_is an nn cn ab nb cb K f _ (by exact r) hn hb hK (-1) 0 HT.out).mono ?_
      rintro e w1 ⟨rfl, hb1⟩
      replace r := r.below hb1
      replace g0 := cell_later hb1 g0
      replace g1 := cell_later hb1 g1
      replace z0 := cell_later hb1 z0
      replace y0 := frozen_later hb1 hz y0
      replace z1 := cell_later hb1 z1
      replace y1 := frozen_later hb1 hz y1
      replace z2 := cell_later hb1 z2
      replace y2 := frozen_later hb1 hz y2
      replace z3 := cell_later hb1 z3
      replace y3 := frozen_later hb1 hz y3
      replace hz := Nat.lt_of_lt_of_le hz hb1.size
      replace B := below_next B hb1
      have hz1 := hz
      clear hb1
      go_wp2_with fail
      refine (groveOf_is an nn cn ab nb cb K f _ (by exact r) HV.out).mono ?_
      rintro e w2 ⟨gb, vn, ab2, nb2, cb2, P, rfl, J, hb2⟩
      have hw12 := hb2.size
      have HJ : Hid _ := J
      clear J
      have hbW := hb2
      clear hb2
      go_wp2_with fail
      refine (answer_is HJ.out hlen60 (by omega) (-1)).mono ?_
      rintro e w4 ⟨pa, pn, pc, qa, qn, qc, PK, rfl, FA, hb4⟩
      have hb5 : Below w1.heap.size w1 w4 := hbW.trans (hb4.mono hbW.size)
      replace z0 := cell_later hb5 z0
      replace y0 := frozen_later hb5 hz y0
      replace z1 := cell_later hb5 z1
      replace y1 := frozen_later hb5 hz y1
      replace z2 := cell_later hb5 z2
      replace y2 := frozen_later hb5 hz y2
      replace z3 := cell_later hb5 z3
      replace y3 := frozen_later hb5 hz y3
      replace hz := Nat.lt_of_lt_of_le hz hb5.size
      replace B := below_next B hb5
      clear hb5 hb4 hbW g0 g1 r
      have hw1z := B.size
      go_wp2
      refine bodyPost_ret (v := .agg #[.int .i64 0, .int .i64 (-1), .slice pa pn pc, .slice qa qn qc]) (by simp [results, Try.results48, go_sem, z0, z1, z2, z3]) rfl ⟨_, _, _, _, _, _, PK, rfl, ?_, ?_⟩
      · refine FoAt.widen (FoAt.kept FA (l := w.heap.size + 1) (u := w.heap.size + 2) ?_ (by omega)) (by omega) ?_
        · refine Kept.setCell (Kept.setCell (Kept.setCell (Kept.setCell (Kept.refl _ _ _) ?_ ?_ _) ?_ ?_ _) ?_ ?_ _) ?_ ?_ _ <;> simp
        · simp
      · refine Below.setCell (Below.setCell (Below.setCell (Below.setCell B ?_ _) ?_ _) ?_ _) ?_ _ <;> simp
    · obtain ⟨i, rfl⟩ : ∃ i : Nat, root = i := ⟨root.toNat, by omega⟩
      have hin : ((i : Int) != -1) = true := by simp
      obtain ⟨_, hlv, hlf⟩ := hro.resolve_left hm1
      rw [Int.toNat_natCast] at hlv hlf
      have hil := live_lt hlv
      have hnd := tr.inv.nd i
      have hr0 := hnd.r0
      have hr1 := hnd.r1
      simp only [Int.toNat_natCast] at hc
      by_cases h200 : 200 ≤ (nodeOf f i).1
      · rw [if_pos ⟨by omega, h200⟩] at hc
        subst hc
        simp only [atIf, foIf] at hr hf
        rw [if_neg (by decide)] at hr hf
        subst hr
        subst hf
        have H2 : Hid ((nodeOf f i).1 = 200) := by show _ = _; omega
        clear ht tr hro hneg hnd hr0 hr1 h200
        go_enter Try.func48, Try.ntmps48
        go_wp2_with fail
        refine (rootFault_is an nn cn ab nb cb K f _ (by exact r) hn hb hK (i : Int) 0 HT.out).mono ?_
        rintro e w1 ⟨rfl, hb1⟩
        replace r := r.below hb1
        replace g0 := cell_later hb1 g0
        replace g1 := cell_later hb1 g1
        replace z0 := cell_later hb1 z0
        replace y0 := frozen_later hb1 hz y0
        replace z1 := cell_later hb1 z1
        replace y1 := frozen_later hb1 hz y1
        replace z2 := cell_later hb1 z2
        replace y2 := frozen_later hb1 hz y2
        replace z3 := cell_later hb1 z3
        replace y3 := frozen_later hb1 hz y3
        replace hz := Nat.lt_of_lt_of_le hz hb1.size
        replace B := below_next B hb1
        have hz1 := hz
        clear hb1
        go_wp2_with fail
        refine (groveOf_is an nn cn ab nb cb K f _ (by exact r) HV.out).mono ?_
        rintro e w2 ⟨gb, vn, ab2, nb2, cb2, P, rfl, J, hb2⟩
        have hw12 := hb2.size
        have HJ : Hid _ := J
        clear J
        go_wp2_with fail
        refine (share_many HJ.out hil (fun x => x) H2.out).mono ?_
        rintro e w3 ⟨rfl, rfl⟩
        replace z0 := cell_later hb2 z0
        replace y0 := frozen_later hb2 hz y0
        replace z1 := cell_later hb2 z1
        replace y1 := frozen_later hb2 hz y1
        replace z2 := cell_later hb2 z2
        replace y2 := frozen_later hb2 hz y2
        replace z3 := cell_later hb2 z3
        replace y3 := frozen_later hb2 hz y3
        replace hz := Nat.lt_of_lt_of_le hz hb2.size
        replace B := below_next B hb2
        clear hb2 g0 g1 r
        go_wp2
        refine bodyPost_ret (v := .agg #[.int .i64 2, .int .i64 0, .slice none 0 0, .slice none 0 0]) (by simp [results, Try.results48, go_sem, z0, z1, z2, z3]) rfl (FoRes.bad 2 ?_)
        refine Below.setCell (Below.setCell (Below.setCell (Below.setCell B ?_ _) ?_ _) ?_ _) ?_ _ <;> simp
      · rw [if_neg (fun e => h200 e.2)] at hc
        subst hc
        simp only [atIf, foIf, if_true, shareF] at hr hf
        rw [if_pos (by omega), Int.toNat_natCast] at hf
        subst hr
        subst hf
        have H1 : Hid (0 < (nodeOf f i).1) := by show _ < _; omega
        have H2 : Hid ((nodeOf f i).1 < 200) := by show _ < _; omega
        clear ht tr hro hneg hnd hr0 hr1 h200
        go_enter Try.func48, Try.ntmps48
        go_wp2_with fail
        refine (rootFault_is an nn cn ab nb cb K f _ (by exact r) hn hb hK (i : Int) 0 HT.out).mono ?_
        rintro e w1 ⟨rfl, hb1⟩
        replace r := r.below hb1
        replace g0 := cell_later hb1 g0
        replace g1 := cell_later hb1 g1
        replace z0 := cell_later hb1 z0
        replace y0 := frozen_later hb1 hz y0
        replace z1 := cell_later hb1 z1
        replace y1 := frozen_later hb1 hz y1
        replace z2 := cell_later hb1 z2
        replace y2 := frozen_later hb1 hz y2
        replace z3 := cell_later hb1 z3
        replace y3 := frozen_later hb1 hz y3
        replace hz := Nat.lt_of_lt_of_le hz hb1.size
        replace B := below_next B hb1
        have hz1 := hz
        clear hb1
        go_wp2_with fail
        refine (groveOf_is an nn cn ab nb cb K f _ (by exact r) HV.out).mono ?_
        rintro e w2 ⟨gb, vn, ab2, nb2, cb2, P, rfl, J, hb2⟩
        have hw12 := hb2.size
        have HJ : Hid _ := J
        clear J
        go_wp2_with fail
        refine (share_is HJ.out hil (fun x => x) H1.out H2.out).mono ?_
        rintro e w3 ⟨rfl, ⟨vn3, ab3, nb3, cb3, P3, J3⟩, K3⟩
        have hbW := below_S hb2 K3 hw12
        have HJ3 : Hid _ := J3
        have hs3 := K3.size
        clear J3 K3 hb2 HJ
        go_wp2_with fail
        refine (answer_is HJ3.out (by show (f.1.set i _).length ≤ 60; rw [List.length_set]; exact hlen60) (by omega) (i : Int)).mono ?_
        rintro e w4 ⟨pa, pn, pc, qa, qn, qc, PK, rfl, FA, hb4⟩
        have hb5 : Below w1.heap.size w1 w4 := hbW.trans (hb4.mono hbW.size)
        replace z0 := cell_later hb5 z0
        replace y0 := frozen_later hb5 hz y0
        replace z1 := cell_later hb5 z1
        replace y1 := frozen_later hb5 hz y1
        replace z2 := cell_later hb5 z2
        replace y2 := frozen_later hb5 hz y2
        replace z3 := cell_later hb5 z3
        replace y3 := frozen_later hb5 hz y3
        replace hz := Nat.lt_of_lt_of_le hz hb5.size
        replace B := below_next B hb5
        clear hb5 hb4 hbW g0 g1 r
        have hw1z := B.size
        go_wp2
        refine bodyPost_ret (v := .agg #[.int .i64 0, .int .i64 (i : Int), .slice pa pn pc, .slice qa qn qc]) (by simp [results, Try.results48, go_sem, z0, z1, z2, z3]) rfl ⟨_, _, _, _, _, _, PK, rfl, ?_, ?_⟩
        · refine FoAt.widen (FoAt.kept FA (l := w.heap.size + 1) (u := w.heap.size + 2) ?_ (by omega)) (by omega) ?_
          · refine Kept.setCell (Kept.setCell (Kept.setCell (Kept.setCell (Kept.refl _ _ _) ?_ ?_ _) ?_ ?_ _) ?_ ?_ _) ?_ ?_ _ <;> simp
          · simp
        · refine Below.setCell (Below.setCell (Below.setCell (Below.setCell B ?_ _) ?_ _) ?_ _) ?_ _ <;> simp
  · rw [if_neg h0] at hc
    subst hc
    simp only [atIf, foIf] at hr hf
    rw [if_neg h0] at hr hf
    subst hr
    subst hf
    have hne : (t != 0) = true := by simp [h0]
    clear h0 ht
    go_enter Try.func48, Try.ntmps48
    go_wp2_with fail
    refine (rootFault_is an nn cn ab nb cb K f _ (by exact r) hn hb hK root t HT.out).mono ?_
    rintro e w1 ⟨rfl, hb1⟩
    replace r := r.below hb1
    replace g0 := cell_later hb1 g0
    replace g1 := cell_later hb1 g1
    replace z0 := cell_later hb1 z0
    replace y0 := frozen_later hb1 hz y0
    replace z1 := cell_later hb1 z1
    replace y1 := frozen_later hb1 hz y1
    replace z2 := cell_later hb1 z2
    replace y2 := frozen_later hb1 hz y2
    replace z3 := cell_later hb1 z3
    replace y3 := frozen_later hb1 hz y3
    replace hz := Nat.lt_of_lt_of_le hz hb1.size
    replace B := below_next B hb1
    have hz1 := hz
    clear hb1
    clear g0 g1 r
    go_wp2
    refine bodyPost_ret (v := .agg #[.int .i64 t, .int .i64 0, .slice none 0 0, .slice none 0 0]) (by simp [results, Try.results48, go_sem, z0, z1, z2, z3]) rfl (FoRes.bad t ?_)
    refine Below.setCell (Below.setCell (Below.setCell (Below.setCell B ?_ _) ?_ _) ?_ _) ?_ _ <;> simp

set_option maxRecDepth 20000 in
set_option maxHeartbeats 4000000 in
theorem implDropT_is (root : Int) (cd rt : Int) (g : Fo) (hc : treeCode f root 0 = cd) (hr : dropRoot f root = rt) (hf : dropFo f root = g) : Calls Try.prog 54 #[.agg #[.slice an nn cn, .slice ab nb cb], .int .i64 root] w fun e w' => FoRes true w w' e cd rt g := by
  have B : Below w.heap.size w ((w.alloc (.cells #[.slice an nn cn, .slice ab nb cb] 60)).alloc (.cells #[.int .i64 0, .int .i64 0, .slice none 0 0, .slice none 0 0] 64)) := ((Below.refl _ _).alloc (Nat.le_refl _) _).alloc (by simp) _
  have g0 : ((w.alloc (.cells #[.slice an nn cn, .slice ab nb cb] 60)).alloc (.cells #[.int .i64 0, .int .i64 0, .slice none 0 0, .slice none 0 0] 64)).cell? ⟨w.heap.size, 0, none⟩ = some (.slice an nn cn) := by simp
  have g1 : ((w.alloc (.cells #[.slice an nn cn, .slice ab nb cb] 60)).alloc (.cells #[.int .i64 0, .int .i64 0, .slice none 0 0, .slice none 0 0] 64)).cell? ⟨w.heap.size, 1, none⟩ = some (.slice ab nb cb) := by simp
  have z0 : ((w.alloc (.cells #[.slice an nn cn, .slice ab nb cb] 60)).alloc (.cells #[.int .i64 0, .int .i64 0, .slice none 0 0, .slice none 0 0] 64)).cell? ⟨w.heap.size + 1, 0, none⟩ = some (.int .i64 0) := by simp
  have y0 : ((w.alloc (.cells #[.slice an nn cn, .slice ab nb cb] 60)).alloc (.cells #[.int .i64 0, .int .i64 0, .slice none 0 0, .slice none 0 0] 64)).frozen? ⟨w.heap.size + 1, 0, none⟩ = false := by simp
  have z1 : ((w.alloc (.cells #[.slice an nn cn, .slice ab nb cb] 60)).alloc (.cells #[.int .i64 0, .int .i64 0, .slice none 0 0, .slice none 0 0] 64)).cell? ⟨w.heap.size + 1, 1, none⟩ = some (.int .i64 0) := by simp
  have y1 : ((w.alloc (.cells #[.slice an nn cn, .slice ab nb cb] 60)).alloc (.cells #[.int .i64 0, .int .i64 0, .slice none 0 0, .slice none 0 0] 64)).frozen? ⟨w.heap.size + 1, 1, none⟩ = false := by simp
  have z2 : ((w.alloc (.cells #[.slice an nn cn, .slice ab nb cb] 60)).alloc (.cells #[.int .i64 0, .int .i64 0, .slice none 0 0, .slice none 0 0] 64)).cell? ⟨w.heap.size + 1, 2, none⟩ = some (.slice none 0 0) := by simp
  have y2 : ((w.alloc (.cells #[.slice an nn cn, .slice ab nb cb] 60)).alloc (.cells #[.int .i64 0, .int .i64 0, .slice none 0 0, .slice none 0 0] 64)).frozen? ⟨w.heap.size + 1, 2, none⟩ = false := by simp
  have z3 : ((w.alloc (.cells #[.slice an nn cn, .slice ab nb cb] 60)).alloc (.cells #[.int .i64 0, .int .i64 0, .slice none 0 0, .slice none 0 0] 64)).cell? ⟨w.heap.size + 1, 3, none⟩ = some (.slice none 0 0) := by simp
  have y3 : ((w.alloc (.cells #[.slice an nn cn, .slice ab nb cb] 60)).alloc (.cells #[.int .i64 0, .int .i64 0, .slice none 0 0, .slice none 0 0] 64)).frozen? ⟨w.heap.size + 1, 3, none⟩ = false := by simp
  have hz : w.heap.size + 1 < ((w.alloc (.cells #[.slice an nn cn, .slice ab nb cb] 60)).alloc (.cells #[.int .i64 0, .int .i64 0, .slice none 0 0, .slice none 0 0] 64)).heap.size := by simp
  have r := h.below B
  obtain ⟨t, ht⟩ : ∃ t, treeCode f root 0 = t := ⟨_, rfl⟩
  have HT : Hid _ := ht
  unfold dropRoot at hr
  unfold dropFo at hf
  rw [hc] at hr hf
  rw [ht] at hc
  by_cases h0 : t = 0
  · subst h0
    obtain ⟨tr, hro, _, _⟩ := tree_of ht
    have HV : Hid _ := tr.inv
    have hlen60 := tr.inv.nn
    have hneg : root = -1 ∨ 0 ≤ root := by rcases hro with e | e <;> omega
    by_cases hm1 : root = -1
    · subst hm1
      subst hc
      simp only [atIf, foIf, if_true, dropF] at hr hf
      rw [if_neg (by omega)] at hf
      subst hr
      subst hf
      clear ht tr hro hneg
      go_enter Try.func54, Try.ntmps54
      go_wp2_with fail
      refine (rootFault_is an nn cn ab nb cb K f _ (by exact r) hn hb hK (-1) 0 HT.out).mono ?_
      rintro e w1 ⟨rfl, hb1⟩
      replace r := r.below hb1
      replace g0 := cell_later hb1 g0
      replace g1 := cell_later hb1 g1
      replace z0 := cell_later hb1 z0
      replace y0 := frozen_later hb1 hz y0
      replace z1 := cell_later hb1 z1
      replace y1 := frozen_later hb1 hz y1
      replace z2 := cell_later hb1 z2
      replace y2 := frozen_later hb1 hz y2
      replace z3 := cell_later hb1 z3
      replace y3 := frozen_later hb1 hz y3
      replace hz := Nat.lt_of_lt_of_le hz hb1.size
      replace B := below_next B hb1
      have hz1 := hz
      clear hb1
      go_wp2_with fail
      refine (groveOf_is an nn cn ab nb cb K f _ (by exact r) HV.out).mono ?_
      rintro e w2 ⟨gb, vn, ab2, nb2, cb2, P, rfl, J, hb2⟩
      have hw12 := hb2.size
      have HJ : Hid _ := J
      clear J
      have hbW := hb2
      clear hb2
      go_wp2_with fail
      refine (answer_is HJ.out hlen60 (by omega) (-1)).mono ?_
      rintro e w4 ⟨pa, pn, pc, qa, qn, qc, PK, rfl, FA, hb4⟩
      have hb5 : Below w1.heap.size w1 w4 := hbW.trans (hb4.mono hbW.size)
      replace z0 := cell_later hb5 z0
      replace y0 := frozen_later hb5 hz y0
      replace z1 := cell_later hb5 z1
      replace y1 := frozen_later hb5 hz y1
      replace z2 := cell_later hb5 z2
      replace y2 := frozen_later hb5 hz y2
      replace z3 := cell_later hb5 z3
      replace y3 := frozen_later hb5 hz y3
      replace hz := Nat.lt_of_lt_of_le hz hb5.size
      replace B := below_next B hb5
      clear hb5 hb4 hbW g0 g1 r
      have hw1z := B.size
      go_wp2
      refine bodyPost_ret (v := .agg #[.int .i64 0, .int .i64 (-1), .slice pa pn pc, .slice qa qn qc]) (by simp [results, Try.results54, go_sem, z0, z1, z2, z3]) rfl ⟨_, _, _, _, _, _, PK, rfl, ?_, ?_⟩
      · refine FoAt.widen (FoAt.kept FA (l := w.heap.size + 1) (u := w.heap.size + 2) ?_ (by omega)) (by omega) ?_
        · refine Kept.setCell (Kept.setCell (Kept.setCell (Kept.setCell (Kept.refl _ _ _) ?_ ?_ _) ?_ ?_ _) ?_ ?_ _) ?_ ?_ _ <;> simp
        · simp
      · refine Below.setCell (Below.setCell (Below.setCell (Below.setCell B ?_ _) ?_ _) ?_ _) ?_ _ <;> simp
    · obtain ⟨i, rfl⟩ : ∃ i : Nat, root = i := ⟨root.toNat, by omega⟩
      have hin : ((i : Int) != -1) = true := by simp
      obtain ⟨_, hlv, hlf⟩ := hro.resolve_left hm1
      rw [Int.toNat_natCast] at hlv hlf
      have HP : Hid _ := rootP_of tr.inv (fun j => right_extB tr j) (fun m => right_ext tr m) hlv hlf
      subst hc
      simp only [atIf, foIf, if_true, dropF] at hr hf
      rw [if_pos (by omega), Int.toNat_natCast] at hf
      subst hr
      have HL : Hid _ := hf
      have hgl : g.1.length ≤ 60 := by rw [← hf]; rw [lessRoot_len]; exact hlen60
      clear ht tr hro hneg hf
      go_enter Try.func54, Try.ntmps54
      go_wp2_with fail
      refine (rootFault_is an nn cn ab nb cb K f _ (by exact r) hn hb hK (i : Int) 0 HT.out).mono ?_
      rintro e w1 ⟨rfl, hb1⟩
      replace r := r.below hb1
      replace g0 := cell_later hb1 g0
      replace g1 := cell_later hb1 g1
      replace z0 := cell_later hb1 z0
      replace y0 := frozen_later hb1 hz y0
      replace z1 := cell_later hb1 z1
      replace y1 := frozen_later hb1 hz y1
      replace z2 := cell_later hb1 z2
      replace y2 := frozen_later hb1 hz y2
      replace z3 := cell_later hb1 z3
      replace y3 := frozen_later hb1 hz y3
      replace hz := Nat.lt_of_lt_of_le hz hb1.size
      replace B := below_next B hb1
      have hz1 := hz
      clear hb1
      go_wp2_with fail
      refine (groveOf_is an nn cn ab nb cb K f _ (by exact r) HV.out).mono ?_
      rintro e w2 ⟨gb, vn, ab2, nb2, cb2, P, rfl, J, hb2⟩
      have hw12 := hb2.size
      have HJ : Hid _ := J
      clear J
      go_wp2_with fail
      refine (drop_root HJ.out (fun k hk => Nat.le_trans hw12 hk) hw12 HP.out g HL.out).mono ?_
      rintro e w3 ⟨⟨v, rfl⟩, ⟨vn3, ab3, nb3, cb3, P3, J3⟩, K3⟩
      have hbW := below_S hb2 K3 hw12
      have HJ3 : Hid _ := J3
      have hs3 := K3.size
      clear J3 K3 hb2 HJ
      go_wp2_with fail
      refine (answer_is HJ3.out hgl (by omega) (-1)).mono ?_
      rintro e w4 ⟨pa, pn, pc, qa, qn, qc, PK, rfl, FA, hb4⟩
      have hb5 : Below w1.heap.size w1 w4 := hbW.trans (hb4.mono hbW.size)
      replace z0 := cell_later hb5 z0
      replace y0 := frozen_later hb5 hz y0
      replace z1 := cell_later hb5 z1
      replace y1 := frozen_later hb5 hz y1
      replace z2 := cell_later hb5 z2
      replace y2 := frozen_later hb5 hz y2
      replace z3 := cell_later hb5 z3
      replace y3 := frozen_later hb5 hz y3
      replace hz := Nat.lt_of_lt_of_le hz hb5.size
      replace B := below_next B hb5
      clear hb5 hb4 hbW g0 g1 r
      have hw1z := B.size
      go_wp2
      refine bodyPost_ret (v := .agg #[.int .i64 0, .int .i64 (-1), .slice pa pn pc, .slice qa qn qc]) (by simp [results, Try.results54, go_sem, z0, z1, z2, z3]) rfl ⟨_, _, _, _, _, _, PK, rfl, ?_, ?_⟩
      · refine FoAt.widen (FoAt.kept FA (l := w.heap.size + 1) (u := w.heap.size + 2) ?_ (by omega)) (by omega) ?_
        · refine Kept.setCell (Kept.setCell (Kept.setCell (Kept.setCell (Kept.refl _ _ _) ?_ ?_ _) ?_ ?_ _) ?_ ?_ _) ?_ ?_ _ <;> simp
        · simp
      · refine Below.setCell (Below.setCell (Below.setCell (Below.setCell B ?_ _) ?_ _) ?_ _) ?_ _ <;> simp
  · subst hc
    simp only [atIf, foIf] at hr hf
    rw [if_neg h0] at hr hf
    subst hr
    subst hf
    have hne : (t != 0) = true := by simp [h0]
    clear h0 ht
    go_enter Try.func54, Try.ntmps54
    go_wp2_with fail
    refine (rootFault_is an nn cn ab nb cb K f _ (by exact r) hn hb hK root t HT.out).mono ?_
    rintro e w1 ⟨rfl, hb1⟩
    replace r := r.below hb1
    replace g0 := cell_later hb1 g0
    replace g1 := cell_later hb1 g1
    replace z0 := cell_later hb1 z0
    replace y0 := frozen_later hb1 hz y0
    replace z1 := cell_later hb1 z1
    replace y1 := frozen_later hb1 hz y1
    replace z2 := cell_later hb1 z2
    replace y2 := frozen_later hb1 hz y2
    replace z3 := cell_later hb1 z3
    replace y3 := frozen_later hb1 hz y3
    replace hz := Nat.lt_of_lt_of_le hz hb1.size
    replace B := below_next B hb1
    have hz1 := hz
    clear hb1
    clear g0 g1 r
    go_wp2
    refine bodyPost_ret (v := .agg #[.int .i64 t, .int .i64 0, .slice none 0 0, .slice none 0 0]) (by simp [results, Try.results54, go_sem, z0, z1, z2, z3]) rfl (FoRes.bad t ?_)
    refine Below.setCell (Below.setCell (Below.setCell (Below.setCell B ?_ _) ?_ _) ?_ _) ?_ _ <;> simp
end

end Go.Proofs.Ytgkfkkeaffphlaa

/- Chapter 4: the program finds a place for a new node, and shares what the node names. -/
namespace Go.Proofs.Ytgkfkkeaffphlaa
open Go.RowKit

theorem moreStep_set {lf : Bool} {but i : Nat} {nd : Nd} {F : Fo} {j : Nat} {k : Int} (hk : lf = false → j ≠ but → k < 0 ∨ k.toNat ≠ i) : moreStep lf but (F.1.set i nd, F.2) j k = (moreStep lf but F j k).map fun F => (F.1.set i nd, F.2) := by
  unfold moreStep
  by_cases hc : j = but ∨ k < 0
  · rw [if_pos hc, if_pos hc]; rfl
  · rw [if_neg hc, if_neg hc]
    cases lf with
    | true =>
      rw [if_pos rfl, if_pos rfl]
      show (if 200 ≤ (blockOf F k.toNat).1 then none else some (F.1.set i nd, moreB F.2 k.toNat)) = _
      split <;> rfl
    | false =>
      have hne : k.toNat ≠ i := (hk rfl (fun e => hc (Or.inl e))).resolve_left (fun e => hc (Or.inr e))
      have e1 : nodeOf (F.1.set i nd, F.2) k.toNat = nodeOf F k.toNat := by
        unfold nodeOf
        rw [List.getD_eq_getElem?_getD, List.getElem?_set_ne (Ne.symm hne), ← List.getD_eq_getElem?_getD]
      show (if 200 ≤ (nodeOf (F.1.set i nd, F.2) k.toNat).1 then none else some (moreAt (F.1.set i nd, F.2) k.toNat)) = (if 200 ≤ (nodeOf F k.toNat).1 then none else some (moreAt F k.toNat)).map _
      rw [e1]
      split
      · rfl
      · show some ((F.1.set i nd).set k.toNat (moreNd (nodeOf (F.1.set i nd, F.2) k.toNat)), F.2) = some ((F.1.set k.toNat (moreNd (nodeOf F k.toNat))).set i nd, F.2)
        rw [e1, List.set_comm _ _ (Ne.symm hne)]
theorem more_set {lf : Bool} {ks : List Int} {but i : Nat} {nd : Nd} {f : Fo} (hk : lf = false → ∀ p, p < 4 → p ≠ but → ks.getD p 0 < 0 ∨ (ks.getD p 0).toNat ≠ i) : ∀ j, j ≤ 4 → moreTo lf but ks j (f.1.set i nd, f.2) = (moreTo lf but ks j f).map fun F => (F.1.set i nd, F.2) := by
  intro j
  induction j with
  | zero => intro _; rfl
  | succ j ih =>
    intro hj
    rw [moreTo, moreTo, ih (by omega)]
    cases moreTo lf but ks j f with
    | none => rfl
    | some F => exact moreStep_set fun e hb => hk e j (by omega) hb

section
variable {w : World} {S H : Nat → Prop} {base g : Nat} {vn : Value} {ab : Option Addr} {nb cb : Nat} {P : Nat → Option Nat} {f : Fo} (I : GAt w S H base g vn ab nb cb P f)
theorem shareKid_none (g : Nat) (lf : Bool) (w : World) : Calls Try.prog 216 #[.pointer (some ⟨g, 0, none⟩), .bool lf, .int .i64 (-1)] w fun e w' => e = .returned (.int .i64 0) ∧ w' = w := by
  go_enter Try.func216, Try.ntmps216
  go_wp2
  go_ret
  exact ⟨rfl, rfl⟩
include I
set_option maxRecDepth 20000 in
set_option maxHeartbeats 1000000 in
theorem shareKid_many {i : Nat} (hi : i < f.1.length) (hH : ¬ H i) (hq : (nodeOf f i).1 = 200) :
    Calls Try.prog 216 #[.pointer (some ⟨g, 0, none⟩), .bool false, .int .i64 (i : Int)] w fun e w' => e = .returned (.int .i64 2) ∧ KeptS S w w' := by
  have HI : Hid _ := I
  have HQ : Hid _ := hq
  have hi1 : ((i : Int) == -1) = false := by simp
  clear I hq
  go_enter Try.func216, Try.ntmps216
  go_wp2_with fail
  refine (share_many HI.out hi hH HQ.out).mono ?_
  rintro e w1 ⟨rfl, rfl⟩
  go_wp2
  go_ret
  exact ⟨rfl, KeptS.refl _ _⟩
set_option maxRecDepth 20000 in
set_option maxHeartbeats 1000000 in
theorem shareKid_node {i : Nat} (hi : i < f.1.length) (hH : ¬ H i) (h0 : 0 < (nodeOf f i).1) (hq : (nodeOf f i).1 < 200) :
    Calls Try.prog 216 #[.pointer (some ⟨g, 0, none⟩), .bool false, .int .i64 (i : Int)] w fun e w' => e = .returned (.int .i64 0) ∧ GRes S H base g w w' (moreAt f i) := by
  have HI : Hid _ := I
  have H0 : Hid _ := h0
  have HQ : Hid _ := hq
  have hi1 : ((i : Int) == -1) = false := by simp
  clear I hq h0
  go_enter Try.func216, Try.ntmps216
  go_wp2_with fail
  refine (share_is HI.out hi hH H0.out HQ.out).mono ?_
  rintro e w1 ⟨rfl, hr⟩
  have HR : Hid _ := hr
  clear hr
  go_wp2
  go_ret
  exact ⟨rfl, HR.out⟩
set_option maxRecDepth 20000 in
set_option maxHeartbeats 1000000 in
theorem shareKid_block (hS : ∀ k, w.heap.size ≤ k → S k) (hbase : base ≤ w.heap.size) (h24 : f.2.length ≤ 24) (hbo : ∀ m, blkOne (f.2.getD m (0, 0)) = 0) (k : Nat) (hk : k < f.2.length) (h0 : (f.2.getD k (0, 0)).1 ≠ 0) (c : Int) (hc : (if 200 ≤ (f.2.getD k (0, 0)).1 then (2 : Int) else 0) = c) :
    Calls Try.prog 216 #[.pointer (some ⟨g, 0, none⟩), .bool true, .int .i64 (k : Int)] w fun e w' => e = .returned (.int .i64 c) ∧ KeptS S w w' ∧ (c = 0 → GRes S H base g w w' (f.1, moreB f.2 k)) := by
  have hbl := I.blk.nPairs
  have hbf : blkFault f.2 = 0 := noFault_of h24 hbo
  have ha : askCode f.2 (k : Int) = 0 := by
    unfold askCode
    rw [if_pos hbf, if_pos (by omega), Int.toNat_natCast, if_neg h0]
  have hs : shareCode f.2 (k : Int) = c := by
    unfold shareCode
    rw [if_pos ha, Int.toNat_natCast]; exact hc
  obtain ⟨bl, hd⟩ : ∃ bl, shareList f.2 (k : Int) = bl := ⟨_, rfl⟩
  obtain ⟨at', hat⟩ : ∃ a, atIf (shareCode f.2 (k : Int)) (k : Int) = a := ⟨_, rfl⟩
  have HB : Hid (c = 0 → bl = moreB f.2 k) := fun e => by
    rw [← hd]
    unfold shareList moreB
    rw [hs, if_pos e, Int.toNat_natCast]
  have HS : Hid _ := hs
  have HD : Hid _ := hd
  have HT : Hid _ := hat
  have HI : Hid _ := I
  have c1 := I.c1
  have hgl := I.hg.2
  have hk1 : ((k : Int) == -1) = false := by simp
  clear ha hd hbf hs hat hc
  go_enter Try.func216, Try.ntmps216
  go_wp2_with fail
  refine (implShareBlock_is ab nb cb f.2 _ I.blk (by omega) (k : Int) c at' bl HS.out HT.out HD.out).mono ?_
  rintro e w1 ⟨ra, rn, rc, rfl, RR, hb1⟩
  have A : Below w1.heap.size w1 (w1.alloc (.cells #[.int .i64 c, .int .i64 at', .slice ra rn rc] 51)) := (Below.refl _ _).alloc (Nat.le_refl _) _
  have n0 : (w1.alloc (.cells #[.int .i64 c, .int .i64 at', .slice ra rn rc] 51)).cell? ⟨w1.heap.size, 0, none⟩ = some (.int .i64 c) := by simp
  have n2 : (w1.alloc (.cells #[.int .i64 c, .int .i64 at', .slice ra rn rc] 51)).cell? ⟨w1.heap.size, 2, none⟩ = some (.slice ra rn rc) := by simp
  have hgw : g < w1.heap.size := Nat.lt_of_lt_of_le hgl hb1.size
  have hb2 := below_next hb1 A
  have J := HI.out.blocks hb2 ((RR.below A).widen (Nat.le_refl _) A.size) hS hbase
  have z1 := (HI.out.below hb2).z1
  replace c1 := cell_later hb2 c1
  have hgw2 := Nat.lt_of_lt_of_le hgw A.size
  have K1 : KeptS S w ((w1.alloc (.cells #[.int .i64 c, .int .i64 at', .slice ra rn rc] 51)).setCell ⟨g, 1, none⟩ (.slice ra rn rc)) := (KeptS.below hb2).setCell (p := ⟨g, 1, none⟩) HI.out.hg.1 _
  have HK : Hid _ := K1
  have HJ : Hid _ := J
  generalize hW : w1.alloc (.cells #[.int .i64 c, .int .i64 at', .slice ra rn rc] 51) = W at *
  have HW : Hid _ := hW
  have n0' : (W.setCell ⟨g, 1, none⟩ (.slice ra rn rc)).cell? ⟨w1.heap.size, 0, none⟩ = some (.int .i64 c) := by rw [World.cell?_setCell_other _ _ _ _ (by intro e; have := congrArg Addr.block e; simp at this; omega)]; exact n0
  clear hb1 RR J K1 A hb2 hW
  go_wp2_with (simp only [HW.out])
  go_ret
  exact ⟨rfl, HK.out, fun e => ⟨⟨_, _, _, _, _, by rw [← HB.out e]; exact HJ.out⟩, HK.out⟩⟩
end

theorem freeNd_none {ns : List Nd} (h : ∀ j, j < ns.length → (ns.getD j nd0).1 ≠ 0) : freeNd ns = none := by
  induction ns with
  | nil => rfl
  | cons p r ih =>
    have h0 : p.1 ≠ 0 := h 0 (by simp)
    rw [freeNd, if_neg h0, ih fun j hj => by simpa using h (j + 1) (by simpa using hj)]
    rfl
theorem freeNd_first {ns : List Nd} : ∀ (k : Nat), k < ns.length → (∀ j, j < k → (ns.getD j nd0).1 ≠ 0) → (ns.getD k nd0).1 = 0 → freeNd ns = some k := by
  induction ns with
  | nil => intro k hk; simp at hk
  | cons p r ih =>
    intro k hk h hn
    cases k with
    | zero => rw [freeNd, if_pos (by simpa using hn)]
    | succ k =>
      have h0 : p.1 ≠ 0 := h 0 (by omega)
      rw [freeNd, if_neg h0, ih k (by simpa using hk) (fun j hj => by simpa using h (j + 1) (by omega)) (by simpa using hn)]
      rfl
set_option maxRecDepth 20000 in
set_option maxHeartbeats 1000000 in
theorem indexP_is {w : World} {S : Nat → Prop} {base g : Nat} {vn : Value} {ab : Option Addr} {nb cb : Nat} {P : Nat → Option Nat} {f : Fo} (I : GAt w S (fun _ => False) base g vn ab nb cb P f) (hn : f.1.length ≤ 60) (d : Int) (hd : (match freeNd f.1 with | some i => (i : Int) | none => -1) = d) :
    Calls Try.prog 215 #[vn, .pointer none] w fun e w' => e = .returned (.int .i64 d) ∧ w' = w := by
  obtain ⟨m, hm⟩ : ∃ m, f.1.length = m := ⟨_, rfl⟩
  obtain ⟨ar, cr, hv, RV⟩ := RowAt.of_owned I.own
  subst hv
  have HD : Hid _ := hd
  have HM : Hid _ := hm
  have HI : Hid _ := I
  rw [hm] at hn ⊢
  clear hd I RV hm
  go_enter Try.func215, Try.ntmps215
  go_wp2
  go_loop [8] (fun i => ∃ k : Nat, k ≤ m ∧ i = .int .i64 k ∧ ∀ j, j < k → (f.1.getD j nd0).1 ≠ 0) (fun i => m - (intOf i).toNat)
  case atStart => exact ⟨0, Nat.zero_le _, rfl, fun j hj => absurd hj (by omega)⟩
  case round =>
    obtain ⟨k, hk, rfl, ha⟩ := hrel
    have HA : Hid _ := ha
    clear ha
    by_cases hlt : k < m
    · have hkf : k < f.1.length := by rw [HM.out]; exact hlt
      have hlk : (k : Int) < (m : Int) := by omega
      obtain ⟨r, cap, e', hrr, -, -, q0, -⟩ := HI.out.ptr hkf
      have er := (Value.slice.inj e').1
      subst er
      clear e'
      cases hp : P k with
      | none =>
        rw [hp] at q0
        simp only [ptrV] at q0
        have HE : Hid ((k : Int) = d) := by
          have h0 := HI.out.no k hkf (fun x => x) hp
          have := freeNd_first (ns := f.1) k hkf HA.out (by rw [h0]; rfl)
          show _ = _
          rw [← HD.out, this]
        clear hp
        go_wp2
        go_ret
        exact ⟨ret_int HE.out, rfl⟩
      | some b =>
        rw [hp] at q0
        simp only [ptrV] at q0
        have HN : Hid (∀ j, j < k + 1 → (f.1.getD j nd0).1 ≠ 0) := fun j hj => by
          by_cases e : j = k
          · rw [e]; exact (HI.out.yes k hkf (fun x => x) b hp).2.1
          · exact HA.out j (by omega)
        have hq : ∀ W, (binOp .eql 194 (.pointer none) (.pointer (some ⟨b, 0, none⟩))).run Try.prog W = .ok (.bool false) W := fun W => by kernel_rfl
        clear hp
        go_wp2
        go_round
        case rel => exact ⟨k + 1, by omega, by go_num, HN.out⟩
        case measure => simp [intOf]; omega
    · obtain rfl : k = m := by omega
      have HE : Hid (-1 = d) := by
        have := freeNd_none (ns := f.1) (fun j hj => HA.out j (by rw [← HM.out]; exact hj))
        show _ = _
        rw [← HD.out, this]
      go_wp2
      go_ret
      exact ⟨ret_int HE.out, rfl⟩

/-- a place for a node behind all others -/
theorem GAt.grow {w w' : World} {S H : Nat → Prop} {base g : Nat} {vn : Value} {ab : Option Addr} {nb cb : Nat} {P : Nat → Option Nat} {f : Fo} (h : GAt w S H base g vn ab nb cb P f) (hk : w.grownBy w' vn.ownBlock) {r cap : Nat} (ho : w'.ownsRow base 194 1 (.slice (some ⟨r, 0, none⟩) (f.1.length + 1) cap) (f.1.length + 1) (ptrs P f.1.length ++ [.pointer none])) (hr : vn.ownBlock = some r ∨ r = w.heap.size) (hS : ∀ k, w.heap.size ≤ k → S k) :
    GAt (w'.setCell ⟨g, 0, none⟩ (.slice (some ⟨r, 0, none⟩) (f.1.length + 1) cap)) S H base g (.slice (some ⟨r, 0, none⟩) (f.1.length + 1) cap) ab nb cb (updP P f.1.length none) (f.1 ++ [nd0], f.2) ∧ KeptS S w (w'.setCell ⟨g, 0, none⟩ (.slice (some ⟨r, 0, none⟩) (f.1.length + 1) cap)) := by
  have SG := grown_S hk
  have hgl := h.hg.2
  have nV : ¬ vn.ownBlock = some g := fun e => (h.ownS g e).2 rfl
  have hrg : r ≠ g := by
    rcases hr with e | e
    · exact (h.ownS r e).2
    · omega
  have hrS : S r := by
    rcases hr with e | e
    · exact (h.ownS r e).1
    · exact hS r (by omega)
  have c0 := SG.cell h.c0 hgl nV
  have c1 := SG.cell h.c1 hgl nV
  have z0 := SG.frozen h.z0 hgl nV
  have z1 := SG.frozen h.z1 hgl nV
  have SP : KeptS (fun x => x = g) w' (w'.setCell ⟨g, 0, none⟩ (.slice (some ⟨r, 0, none⟩) (f.1.length + 1) cap)) := by
    refine KeptS.setCell (KeptS.refl _ _) ?_ _; rfl
  have hsz : (w'.setCell ⟨g, 0, none⟩ (.slice (some ⟨r, 0, none⟩) (f.1.length + 1) cap)).heap.size = w'.heap.size := by simp
  have hl : (f.1 ++ [nd0]).length = f.1.length + 1 := by simp
  have hget : ∀ j, j < f.1.length → (f.1 ++ [nd0]).getD j nd0 = f.1.getD j nd0 := fun j hj => by rw [List.getD_eq_getElem?_getD, List.getElem?_append_left hj, ← List.getD_eq_getElem?_getD]
  have hlast : (f.1 ++ [nd0]).getD f.1.length nd0 = nd0 := by simp [List.getD]
  refine ⟨⟨World.cell?_setCell_same _ _ _ c0, ?_, by simpa using z0, by simpa using z1, ⟨h.hg.1, by rw [hsz]; exact Nat.lt_of_lt_of_le hgl hk.size⟩, ?_, fun x e => ?_, ?_, fun hne => ?_, fun j hj hJ hp => ?_, fun j hj hJ c hc => ?_, fun i j b hi hj hI hJ e1 e2 => ?_⟩, ?_⟩
  · rw [World.cell?_setCell_other _ _ _ _ (by intro e; simp at e)]; exact c1
  · show World.ownsRow _ _ _ _ _ (f.1 ++ [nd0]).length (ptrs (updP P f.1.length none) (f.1 ++ [nd0]).length)
    rw [hl, ptrs_snoc]
    refine owns_keptS ho SP fun k e e2 => ?_
    simp [Value.ownBlock] at e
    omega
  · simp [Value.ownBlock] at e
    subst e
    exact ⟨hrS, hrg⟩
  · rw [hsz]
    refine RowAt.widen ((h.blk.keptS SG fun a hn e => ?_).keptS SP fun a hn e => ?_) (Nat.le_refl _) hk.size
    · have := (h.blkS hn).2.2; rw [e] at this; exact this
    · have := (h.blkS hn).2.1; rw [e] at this; exact this
  · obtain ⟨b1, b2, b3⟩ := h.blkS hne
    refine ⟨b1, b2, fun e => ?_⟩
    simp [Value.ownBlock] at e
    rcases hr with e2 | e2
    · exact b3 (by rw [e2, e])
    · have := (h.blk.block_lt hne).2.2; omega
  · show (f.1 ++ [nd0]).getD j nd0 = nd0
    by_cases e : j = f.1.length
    · rw [e]; exact hlast
    · have hj' : j < f.1.length := by have : j < (f.1 ++ [nd0]).length := hj; omega
      rw [hget j hj']
      simp only [updP, if_neg e] at hp
      exact h.no j hj' hJ hp
  · have e : j ≠ f.1.length := fun e => by simp only [updP, if_pos e] at hc; cases hc
    have hj' : j < f.1.length := by have : j < (f.1 ++ [nd0]).length := hj; omega
    simp only [updP, if_neg e] at hc
    obtain ⟨y1, y2, y3, y4, y5, y6⟩ := h.yes j hj' hJ c hc
    show BoxAt _ c ((f.1 ++ [nd0]).getD j nd0) ∧ ((f.1 ++ [nd0]).getD j nd0).1 ≠ 0 ∧ _
    rw [hget j hj']
    refine ⟨(y1.keptS SG y5).keptS SP y4, y2, y3, y4, fun e2 => ?_, y6⟩
    simp [Value.ownBlock] at e2
    rcases hr with e3 | e3
    · exact y5 (by rw [e3, e2])
    · have := y1.lt; omega
  · have a1 : i ≠ f.1.length := fun e => by simp only [updP, if_pos e] at e1; cases e1
    have a2 : j ≠ f.1.length := fun e => by simp only [updP, if_pos e] at e2; cases e2
    simp only [updP, if_neg a1] at e1
    simp only [updP, if_neg a2] at e2
    have hi' : i < (f.1 ++ [nd0]).length := hi
    have hj' : j < (f.1 ++ [nd0]).length := hj
    exact h.inj i j b (by omega) (by omega) hI hJ e1 e2
  · exact KeptS.setCell (SG.mono fun k e => (h.ownS k e).1) (p := ⟨g, 0, none⟩) h.hg.1 _

end Go.Proofs.Ytgkfkkeaffphlaa
