/- Chapter 2: what is drawn for an append, and the laws' own choices. -/
import Derived.Test.YtkpbmffklcgecaaE2
namespace Go.Proofs.Ytkpbmffklcgecaa
open Go.RowKit

set_option maxRecDepth 20000 in
set_option maxHeartbeats 1000000 in
theorem lwAt_any {o : Bool} {lo hi : Nat} (ac : Option Addr) (nc cc : Nat) (bs : List Nat) (i : Nat) (w : World) (hr : RowAt w o lo hi 1 ac nc cc (bys bs)) (hb : ∀ i, bs.getD i 0 < 256) (hi : i ≤ 100000) (hc : nc ≤ 1048576) :
    Calls Try.prog 58 #[.slice ac nc cc, .int .i64 (i : Int), .int .i64 2] w fun e w' => ∃ r : Int, e = .returned (.int .i64 r) ∧ Below w.heap.size w w' := by
  have hx := hr.nBytes
  by_cases h0 : nc = 0
  · subst h0
    go_enter Try.func58, Try.ntmps58
    go_wp2
    go_ret
    exact ⟨_, rfl, Below.refl _ _⟩
  · obtain ⟨m, hm⟩ : ∃ m, i % nc = m := ⟨_, rfl⟩
    obtain ⟨q, hq⟩ : ∃ q, i / nc = q := ⟨_, rfl⟩
    have hm' : (i : Int) % (nc : Int) = (m : Int) := by rw [← hm]; rfl
    have hq' : (i : Int) / (nc : Int) = (q : Int) := by rw [← hq]; rfl
    have hk : m < nc := by rw [← hm]; exact Nat.mod_lt _ (by omega)
    have hq2 : q ≤ i := by rw [← hq]; exact Nat.div_le_self _ _
    have D : Below w.heap.size w w.drew := (Below.refl _ _).drew
    obtain ⟨b, off, rfl, _, _, _, e1⟩ := (hr.below D).byte hk
    obtain ⟨v, hv⟩ : ∃ v, bs.getD m 0 = v := ⟨_, rfl⟩
    have hv2 := hb m
    rw [hv] at e1 hv2
    have h0i : ¬ (nc : Int) = 0 := by omega
    have t0 : 0 ≤ (i : Int) % (nc : Int) := by omega
    have t1 : ¬ ((i : Int) % (nc : Int) < 0) := by omega
    have t2 : (i : Int) % (nc : Int) < nc := by omega
    have t5 : i % nc < nc := by omega
    have t6 : ((i % nc : Nat) : Int) < nc := by omega
    have t7 : (i : Int).tmod (nc : Int) = (m : Int) := by rw [Int.tmod_eq_emod_of_nonneg (by omega)]; exact hm'
    have t8 : (i : Int).tdiv (nc : Int) = (q : Int) := by rw [Int.tdiv_eq_ediv_of_nonneg (by omega)]; exact hq'
    have hk2 : (m : Int) < nc := by omega
    go_enter Try.func58, Try.ntmps58
    go_wp2
    go_region_held3 (fun w' => w'.cell? ⟨b, off + m, none⟩ = some (.int .u8 v)) (exact e1) (fail)
    go_wp2
    go_ret
    exact ⟨_, rfl, D⟩

set_option maxRecDepth 20000 in
set_option maxHeartbeats 1000000 in
theorem drawRec_any {o : Bool} {lo hi : Nat} (ac : Option Addr) (nc cc : Nat) (bs : List Nat) (w : World) (hr : RowAt w o lo hi 1 ac nc cc (bys bs)) (hb : ∀ i, bs.getD i 0 < 256) (hhi : hi ≤ w.heap.size) (hc : nc ≤ 1048576) :
    Calls Try.prog 96 #[.slice ac nc cc] w fun e w' => ∃ ao n c ws, e = .returned (.slice ao n c) ∧ n ≤ 9 ∧ RowAt w' true w.heap.size w'.heap.size 1 ao n c (ints ws) ∧ Below w.heap.size w w' := by
  go_enter Try.func96, Try.ntmps96
  go_wp2_with fail
  refine (l1Source_any _ _ _ _).mono ?_
  rintro e w1 ⟨rfl, s1, B1, z1⟩
  have S1 : SB w1 w.heap.size 0 ac nc cc bs := ⟨s1, ⟨_, _, _, hr.below B1, Or.inl hhi⟩, hb, hc⟩
  have hz1 := Nat.le_of_eq z1.symm
  clear s1 z1
  go_wp2_with fail
  refine (l2Record_any w.heap.size 0 ac nc cc bs w1 S1 (by omega)).mono ?_
  rintro e w2 ⟨ra, rn, rc, ws, p2, rfl, hr1, hr5, hp2, RR, S2, K2⟩
  have B2 : Below w.heap.size w w2 := B1.trans (K2.below _ (Nat.le_refl _) B1.size)
  have hs2 := K2.size
  clear S1 B1 K2
  go_wp2_with fail
  refine (next_sb S2 6 rfl (by omega) (by omega) (by omega)).mono ?_
  rintro e w3 ⟨v, hv, rfl, S3, K3, z3⟩
  have B3 : Below w.heap.size w w3 := B2.trans (K3.below _ (Nat.le_refl _) B2.size)
  replace RR := RR.kept K3 (by omega)
  have hz3 := Nat.le_of_eq z3
  have hz3' := Nat.le_of_eq z3.symm
  clear S2 K3 z3 B2
  by_cases v0 : v = 0
  · subst v0
    have A : Below w3.heap.size w3 (w3.alloc (.cells #[.int .i64 (-1), .int .i64 65536] 2)) := (Below.refl _ _).alloc (Nat.le_refl _) _
    obtain ⟨oo, rlo, rhi, rr, rd⟩ := S3.row
    have rl := row_lit w3 [.int .i64 (-1), .int .i64 65536] 2 2 1 rfl
    go_wp2_with fail
    refine (l1Pick_any ac nc cc bs w.heap.size (p2 + 1) 2 _ (S3.src.below A) (rr.below A) hb rd (by omega) (by omega) (by omega) hc _ _ [-1, 65536] (by exact rl) (by omega)).mono ?_
    rintro e w4 ⟨x, rfl, s4, K4, z4⟩
    have B4 : Below w.heap.size w w4 := (below_next B3 A).trans (K4.below _ (Nat.le_refl _) (Nat.le_trans B3.size A.size))
    replace RR := (RR.below A).kept K4 (by omega)
    have hz4 := Nat.le_of_eq z4
    have hA := A.size
    obtain ⟨bw, fw, e', g1, g2, g3, cw, fz⟩ := RR.int (k := 0) (by omega)
    cases e'
    have fz' := fz rfl
    rw [Nat.add_zero] at cw fz'
    have RS := RR.stored (i := 0) (by omega) (.int .i64 x)
    rw [Nat.add_zero] at RS
    have e2 : (ints ws).set 0 (.int .i64 x) = ints (ws.set 0 x) := by rw [ints, ints, List.map_set]
    rw [e2] at RS
    have hs4 := K4.size
    have hr0 : (0 : Int) < rn := by omega
    have hr0' : 0 < rn := by omega
    clear rl A K4 z4 s4 rr RR e2 fz
    go_wp2
    go_ret
    exact ⟨_, _, _, _, rfl, by omega, RS.widen (by omega) (by simp; omega), B4.setCell (p := ⟨bw, fw, none⟩) (by show _ ≤ bw; omega) _⟩
  · have i0 : ¬ (v : Int) = 0 := by omega
    by_cases v1 : v = 1
    · subst v1
      go_wp2
      go_ret
      exact ⟨_, _, _, [], rfl, by omega, RowAt.nil _ _ _ _ _, B3⟩
    · have i1 : ¬ (v : Int) = 1 := by omega
      by_cases v2 : v = 2
      · subst v2
        obtain ⟨j0, hj0, hz0, hz1', hz2⟩ := info_parts Try.info2'
        go_wp2_with (first | (at_make; refine wpList_make_full _ rfl _ _ 24 rfl w3.heap.size 2 j0 (.int .i64 0) 1 Try.underlying24 hj0 hz0 hz1' _ _ _ _ 9 rfl rfl rfl rfl ?b1 ?b2 ?b3 ?_))
        case b1 => rw [hz2]; omega
        case b2 => unfold maxLen; omega
        case b3 => exact Nat.le_refl _
        intro w4 hown hgrow
        have hb4 : Below w3.heap.size w3 w4 := (Below.refl _ _).grown hgrow (Nat.le_refl _) (fun k hk => by cases hk)
        have e9 : ints (List.replicate 9 0) = List.replicate 9 (Value.int .i64 0) := by simp [ints]
        rw [toList_madeCells_one, ← e9] at hown
        obtain ⟨_, _, e', R⟩ := RowAt.of_owned hown
        cases e'
        have B4 := below_next B3 hb4
        have hs3 := B3.size
        clear hgrow hb4 hown e9
        go_wp2
        go_ret
        exact ⟨_, _, _, _, rfl, by omega, R.widen hs3 (Nat.le_refl _), B4⟩
      · have i2 : ¬ (v : Int) = 2 := by omega
        go_wp2
        go_ret
        exact ⟨_, _, _, _, rfl, by omega, RR.widen (by omega) (by omega), B3⟩

set_option maxRecDepth 20000 in
set_option maxHeartbeats 2000000 in
theorem drawApp_any {o : Bool} {lo hi : Nat} (ac : Option Addr) (nc cc : Nat) (bs : List Nat) (w : World) (hr : RowAt w o lo hi 1 ac nc cc (bys bs)) (hb : ∀ i, bs.getD i 0 < 256) (hhi : hi ≤ w.heap.size) (hc : nc ≤ 1048576) :
    Calls Try.prog 52 #[.slice ac nc cc] w fun e w' => ∃ a0 n0 c0 a1 n1 c1 xs ys a2 n2 c2 ws, e = .returned (.tuple #[.agg #[.slice a0 n0 c0, .slice a1 n1 c1], .slice a2 n2 c2]) ∧ n0 ≤ 64 ∧ n1 ≤ 300 ∧ n2 ≤ 9 ∧ DiskAt w' w.heap.size w'.heap.size a0 n0 c0 a1 n1 c1 xs ys ∧ RowAt w' true w.heap.size w'.heap.size 1 a2 n2 c2 (ints ws) ∧ Below w.heap.size w w' := by
  have A0 : Below w.heap.size w (w.alloc (.cells #[.slice none 0 0, .slice none 0 0] 27)) := (Below.refl _ _).alloc (Nat.le_refl _) _
  have e0 : (w.alloc (.cells #[.slice none 0 0, .slice none 0 0] 27)).heap.size = w.heap.size + 1 := by simp
  go_enter Try.func52, Try.ntmps52
  go_wp2_with fail
  refine (l1Source_any _ _ _ _).mono ?_
  rintro e w1 ⟨rfl, s1, B1, z1⟩
  rw [e0] at s1 z1
  have G1 : w1.heap[w.heap.size]? = some (.cells #[.slice none 0 0, .slice none 0 0] 27 (0, 0)) := by rw [B1.block _ (by simp)]; exact heap_alloc_new _ _
  have B2 := below_next A0 B1
  have S1 : SB w1 (w.heap.size + 1) 0 ac nc cc bs := ⟨s1, ⟨_, _, _, hr.below B2, Or.inl (by omega)⟩, hb, hc⟩
  have hz1 := Nat.le_of_eq z1.symm
  clear A0 e0 B1 s1
  go_wp2_with fail
  refine (l2Disk_any (w.heap.size + 1) 0 ac nc cc bs w1 S1 (by omega)).mono ?_
  rintro e w2 ⟨a0, n0, c0, a1, n1, c1, xs, ys, p2, rfl, hn0, hn1, hp2, dD, s2, K2⟩
  have hs2 := K2.size
  have S2 := S1.move K2 s2
  have G2 : w2.heap[w.heap.size]? = some (.cells #[.slice none 0 0, .slice none 0 0] 27 (0, 0)) := by rw [K2.block _ (by omega) (by omega)]; exact G1
  have B3 : Below w.heap.size w w2 := B2.trans (K2.below _ (by omega) (by omega))
  have hw12 : w1.heap.size = w.heap.size + 1 + 1 := z1
  clear S1 s2 K2 G1 B2 z1
  have A2 : Below w2.heap.size w2 (w2.alloc (.cells #[.slice a0 n0 c0, .slice a1 n1 c1] 27)) := (Below.refl _ _).alloc (Nat.le_refl _) _
  have S2' := S2.below A2
  have d0 : (w2.alloc (.cells #[.slice a0 n0 c0, .slice a1 n1 c1] 27)).cell? ⟨w2.heap.size, 0, none⟩ = some (.slice a0 n0 c0) := by simp
  have d1 : (w2.alloc (.cells #[.slice a0 n0 c0, .slice a1 n1 c1] 27)).cell? ⟨w2.heap.size, 1, none⟩ = some (.slice a1 n1 c1) := by simp
  have hA2 : (w2.alloc (.cells #[.slice a0 n0 c0, .slice a1 n1 c1] 27)).heap.size = w2.heap.size + 1 := by simp
  replace dD := dD.below A2
  replace B3 := below_next B3 A2
  have G2' := (A2.block _ (by omega)).trans G2
  clear A2 G2 S2
  go_wp2_with fail
  refine (l2Record_any (w.heap.size + 1) p2 ac nc cc bs _ S2' (by omega)).mono ?_
  rintro e w3 ⟨ra, rn, rc, ws, p3, rfl, hr1, hr5, hp3, RR, S3, K3⟩
  rw [hA2] at RR
  have hs3 := K3.size
  rw [hA2] at hs3
  replace d0 := K3.cell d0 (by omega)
  replace d1 := K3.cell d1 (by omega)
  replace dD := dD.kept K3 (by omega)
  replace G2' := (K3.block _ (by omega) (by omega)).trans G2'
  replace B3 := B3.trans (K3.below _ (by omega) (by omega))
  clear K3 S2' hA2
  go_wp2_with fail
  refine (chance_sb S3 10 rfl (by omega) (by omega) (by omega)).mono ?_
  rintro e w4 ⟨b, rfl, S4, K4, z4⟩
  replace d0 := K4.cell d0 (by omega)
  replace d1 := K4.cell d1 (by omega)
  replace dD := dD.kept K4 (by omega)
  replace RR := RR.kept K4 (by omega)
  replace G2' := (K4.block _ (by omega) (by omega)).trans G2'
  replace B3 := B3.trans (K4.below _ (by omega) (by omega))
  have hz4 := Nat.le_of_eq z4
  have hz4' := Nat.le_of_eq z4.symm
  clear K4 S3 S4 z4
  cases b with
  | false =>
    have r0 : w4.cell? ⟨w.heap.size, 0, none⟩ = some (.slice none 0 0) := by rw [cell_of_row w4 _ 0 _ _ _ G2']; rfl
    have r1 : w4.cell? ⟨w.heap.size, 1, none⟩ = some (.slice none 0 0) := by rw [cell_of_row w4 _ 1 _ _ _ G2']; rfl
    have y0 : w4.frozen? ⟨w.heap.size, 0, none⟩ = false := frozen_of_row w4 _ 0 _ _ G2'
    have y1 : w4.frozen? ⟨w.heap.size, 1, none⟩ = false := frozen_of_row w4 _ 1 _ _ G2'
    have K : Kept w.heap.size (w.heap.size + 1) w4 ((w4.setCell ⟨w.heap.size, 0, none⟩ (.slice a0 n0 c0)).setCell ⟨w.heap.size, 1, none⟩ (.slice a1 n1 c1)) := by refine Kept.setCell (Kept.setCell (Kept.refl _ _ _) ?_ ?_ _) ?_ ?_ _ <;> simp
    have e1 : ((w4.setCell ⟨w.heap.size, 0, none⟩ (.slice a0 n0 c0)).setCell ⟨w.heap.size, 1, none⟩ (.slice a1 n1 c1)).heap.size = w4.heap.size := by simp
    have O1 := (dD.kept K (by omega)).widen (lo' := w.heap.size) (hi' := ((w4.setCell ⟨w.heap.size, 0, none⟩ (.slice a0 n0 c0)).setCell ⟨w.heap.size, 1, none⟩ (.slice a1 n1 c1)).heap.size) (by omega) (by omega)
    have O2 := (RR.kept K (by omega)).widen (lo' := w.heap.size) (hi' := ((w4.setCell ⟨w.heap.size, 0, none⟩ (.slice a0 n0 c0)).setCell ⟨w.heap.size, 1, none⟩ (.slice a1 n1 c1)).heap.size) (by omega) (by omega)
    have O3 := B3.trans (K.below w.heap.size (by omega) (by omega))
    clear K e1 dD RR B3 G2'
    go_wp2
    refine bodyPost_ret (v := .tuple #[.agg #[.slice a0 n0 c0, .slice a1 n1 c1], .slice (some ra) rn rc]) (by simp [results, Try.results52, go_sem, r0, r1]) rfl ?_
    exact ⟨_, _, _, _, _, _, _, _, _, _, _, _, rfl, hn0, hn1, by omega, O1, O2, O3⟩
  | true =>
    go_wp2_with fail
    refine (drawRec_any ac nc cc bs _ (by exact hr.below B3) hb (by omega) hc).mono ?_
    rintro e w5 ⟨qa, qn, qc, qs, rfl, hqn, RQ, hb5⟩
    have hs5 := hb5.size
    replace d0 := cell_later hb5 d0
    replace d1 := cell_later hb5 d1
    replace dD := dD.below hb5
    replace G2' := (hb5.block _ (by omega)).trans G2'
    replace B3 := below_next B3 hb5
    clear hb5 RR
    have r0 : w5.cell? ⟨w.heap.size, 0, none⟩ = some (.slice none 0 0) := by rw [cell_of_row w5 _ 0 _ _ _ G2']; rfl
    have r1 : w5.cell? ⟨w.heap.size, 1, none⟩ = some (.slice none 0 0) := by rw [cell_of_row w5 _ 1 _ _ _ G2']; rfl
    have y0 : w5.frozen? ⟨w.heap.size, 0, none⟩ = false := frozen_of_row w5 _ 0 _ _ G2'
    have y1 : w5.frozen? ⟨w.heap.size, 1, none⟩ = false := frozen_of_row w5 _ 1 _ _ G2'
    have K : Kept w.heap.size (w.heap.size + 1) w5 ((w5.setCell ⟨w.heap.size, 0, none⟩ (.slice a0 n0 c0)).setCell ⟨w.heap.size, 1, none⟩ (.slice a1 n1 c1)) := by refine Kept.setCell (Kept.setCell (Kept.refl _ _ _) ?_ ?_ _) ?_ ?_ _ <;> simp
    have e1 : ((w5.setCell ⟨w.heap.size, 0, none⟩ (.slice a0 n0 c0)).setCell ⟨w.heap.size, 1, none⟩ (.slice a1 n1 c1)).heap.size = w5.heap.size := by simp
    have O1 := (dD.kept K (by omega)).widen (lo' := w.heap.size) (hi' := ((w5.setCell ⟨w.heap.size, 0, none⟩ (.slice a0 n0 c0)).setCell ⟨w.heap.size, 1, none⟩ (.slice a1 n1 c1)).heap.size) (by omega) (by omega)
    have O2 := (RQ.kept K (by omega)).widen (lo' := w.heap.size) (hi' := ((w5.setCell ⟨w.heap.size, 0, none⟩ (.slice a0 n0 c0)).setCell ⟨w.heap.size, 1, none⟩ (.slice a1 n1 c1)).heap.size) (by omega) (by omega)
    have O3 := B3.trans (K.below w.heap.size (by omega) (by omega))
    clear K e1 dD RQ B3 G2'
    go_wp2
    refine bodyPost_ret (v := .tuple #[.agg #[.slice a0 n0 c0, .slice a1 n1 c1], .slice qa qn qc]) (by simp [results, Try.results52, go_sem, r0, r1]) rfl ?_
    exact ⟨_, _, _, _, _, _, _, _, _, _, _, _, rfl, hn0, hn1, hqn, O1, O2, O3⟩

end Go.Proofs.Ytkpbmffklcgecaa
