/- Draws: a disk and picks. -/
import Derived.Test.YtkpbmffklcgecaaDrawC
namespace Go.Proofs.Ytkpbmffklcgecaa
open Go.RowKit

theorem l1Chance_at {o : Bool} {lo hi : Nat} (ac : Option Addr) (nc cc : Nat) (bs : List Nat) (g p n : Nat) {N : Int} (w : World) (hs : SrcAt w g p ac nc cc) (hr : RowAt w o lo hi 1 ac nc cc (bys bs)) (hb : ∀ i, bs.getD i 0 < 256) (hd : hi ≤ g ∨ g < lo) (hp : p ≤ 100000) (hN : N = (n : Int)) (hn0 : 0 < n) (hn : n ≤ 200) (hc : nc ≤ 1048576) :
    Calls Try.prog 72 #[.pointer (some ⟨g, 0, none⟩), .int .i64 N] w fun e w' => ∃ b : Bool, e = .returned (.bool b) ∧ SrcAt w' g (p + 1) ac nc cc ∧ Kept g (g + 1) w w' ∧ w'.heap.size = w.heap.size := by
  subst hN; exact l1Chance_any ac nc cc bs g p n w hs hr hb hd hp hn0 hn hc

structure DB (w : World) (g h2 : Nat) (ac : Option Addr) (nc cc : Nat) (a0 : Option Addr) (n0 c0 : Nat) (a1 : Option Addr) (n1 c1 : Nat) (xs : List Int) (ys : List (Int × Int)) (W : World) (p : Nat) (v : Value) (n : Nat) (ps : List Bool) : Prop where
  res : W.heap[w.heap.size]? = some (.cells #[.slice none 0 0, .slice none 0 0] 27 (0, 0))
  box : W.heap[h2]? = some (.cells #[.slice a0 n0 c0, .slice a1 n1 c1] 27 (0, 0))
  disk : DiskAt W (g + 1) h2 a0 n0 c0 a1 n1 c1 xs ys
  out : W.ownsRow (h2 + 1) 4 1 v n (bls ps)
  src : SrcAt W g p ac nc cc
  bel : Below w.heap.size w W
  hg : w.heap.size < g
  hx : g < h2

section
variable {w : World} {g h2 : Nat} {ac : Option Addr} {nc cc : Nat} {a0 : Option Addr} {n0 c0 : Nat} {a1 : Option Addr} {n1 c1 : Nat} {xs : List Int} {ys : List (Int × Int)} {W : World} {p : Nat} {v : Value} {n : Nat} {ps : List Bool}
theorem DB.blt (h : DB w g h2 ac nc cc a0 n0 c0 a1 n1 c1 xs ys W p v n ps) : h2 < W.heap.size := (Array.getElem?_eq_some_iff.1 h.box).1
theorem DB.move (h : DB w g h2 ac nc cc a0 n0 c0 a1 n1 c1 xs ys W p v n ps) {W' : World} {p' : Nat} (hk : Kept g (g + 1) W W') (hs : SrcAt W' g p' ac nc cc) : DB w g h2 ac nc cc a0 n0 c0 a1 n1 c1 xs ys W' p' v n ps := by
  have h1 := h.hg
  have h3 := h.hx
  have h4 := h.blt
  refine ⟨?_, ?_, h.disk.kept hk (by omega), owns_kept h.out hk ?_, hs, h.bel.trans (hk.below _ (by omega) (by omega)), h1, h3⟩
  · rw [hk.block _ (by omega) (by omega)]; exact h.res
  · rw [hk.block _ (by omega) (by omega)]; exact h.box
  · intro k hk; have := (h.out.lt k hk).1; omega
theorem DB.below (h : DB w g h2 ac nc cc a0 n0 c0 a1 n1 c1 xs ys W p v n ps) {W' : World} (hb : Below W.heap.size W W') : DB w g h2 ac nc cc a0 n0 c0 a1 n1 c1 xs ys W' p v n ps := h.move (Kept.of_below hb) (h.src.below hb)
theorem DB.put (h : DB w g h2 ac nc cc a0 n0 c0 a1 n1 c1 xs ys W p v n ps) {W' : World} {v' : Value} {n' : Nat} {ps' : List Bool} (hown : W'.ownsRow (h2 + 1) 4 1 v' n' (bls ps')) (hgrow : W.grownBy W' v.ownBlock) : DB w g h2 ac nc cc a0 n0 c0 a1 n1 c1 xs ys W' p v' n' ps' := by
  have h1 := h.hg
  have h3 := h.hx
  have h4 := h.blt
  have hk : Kept (h2 + 1) W.heap.size W W' := ⟨hgrow.os, hgrow.tape, hgrow.output, hgrow.size, fun k hk hd => hgrow.block k hk (fun e => by have := (h.out.lt k e.symm); omega)⟩
  refine ⟨?_, ?_, h.disk.kept hk (by omega), hown, h.src.kept hk (by omega), h.bel.trans (hk.below _ (by omega) (by omega)), h1, h3⟩
  · rw [hk.block _ (by omega) (by omega)]; exact h.res
  · rw [hk.block _ (by omega) (by omega)]; exact h.box
end

set_option maxRecDepth 20000 in
set_option maxHeartbeats 2000000 in
theorem drawCrash_any {o : Bool} {lo hi : Nat} (ac : Option Addr) (nc cc : Nat) (bs : List Nat) (w : World) (hr : RowAt w o lo hi 1 ac nc cc (bys bs)) (hb : ∀ i, bs.getD i 0 < 256) (hhi : hi ≤ w.heap.size) (hc : nc ≤ 1048576) :
    Calls Try.prog 19 #[.slice ac nc cc] w fun e w' => ∃ a0 n0 c0 a1 n1 c1 xs ys a2 n2 c2 ps, e = .returned (.tuple #[.agg #[.slice a0 n0 c0, .slice a1 n1 c1], .slice a2 n2 c2]) ∧ n0 ≤ 64 ∧ n1 ≤ 300 ∧ n2 ≤ 20 ∧ DiskAt w' w.heap.size w'.heap.size a0 n0 c0 a1 n1 c1 xs ys ∧ RowAt w' true w.heap.size w'.heap.size 1 a2 n2 c2 (bls ps) ∧ Below w.heap.size w w' := by
  go_enter Try.func19, Try.ntmps19
  obtain ⟨i4, hi4, hz0, hz1, hz2⟩ := info_parts Try.info4'
  have A0 : Below w.heap.size w (w.alloc (.cells #[.slice none 0 0, .slice none 0 0] 27)) := (Below.refl _ _).alloc (Nat.le_refl _) _
  have e0 : (w.alloc (.cells #[.slice none 0 0, .slice none 0 0] 27)).heap.size = w.heap.size + 1 := by simp
  go_wp2_with fail
  refine (l1Source_any _ _ _ _).mono ?_
  rintro e w1 ⟨rfl, s1, B1, z1⟩
  rw [e0] at s1 z1
  have G1 : w1.heap[w.heap.size]? = some (.cells #[.slice none 0 0, .slice none 0 0] 27 (0, 0)) := by rw [B1.block _ (by simp)]; exact heap_alloc_new _ _
  have B2 := below_next A0 B1
  clear A0 e0 B1
  go_wp2_with fail
  refine (l1Disk_any ac nc cc bs (w.heap.size + 1) 0 w1 s1 (hr.below B2) hb (by omega) (by omega) hc).mono ?_
  rintro e w2 ⟨a0, n0, c0, a1, n1, c1, xs, ys, p, rfl, hn0, hn1, hp, dD, s2, K2⟩
  have hr2 := (hr.below B2).kept K2 (by omega)
  have G2 : w2.heap[w.heap.size]? = some (.cells #[.slice none 0 0, .slice none 0 0] 27 (0, 0)) := by rw [K2.block _ (by omega) (by omega)]; exact G1
  have S2 := K2.size
  have B3 : Below w.heap.size w w2 := B2.trans (K2.below w.heap.size (by omega) (by omega))
  clear s1 G1 B2 K2
  have D0 : DB w (w.heap.size + 1) w2.heap.size ac nc cc a0 n0 c0 a1 n1 c1 xs ys ((w2.alloc (.cells #[.slice a0 n0 c0, .slice a1 n1 c1] 27)).alloc (.cells #[] 4)) p (.slice (some ⟨w2.heap.size + 1, 0, none⟩) 0 0) 0 [] := by
    have AA : Below w2.heap.size w2 ((w2.alloc (.cells #[.slice a0 n0 c0, .slice a1 n1 c1] 27)).alloc (.cells #[] 4)) := ((Below.refl _ _).alloc (Nat.le_refl _) _).alloc (by simp) _
    have O := World.ownsRow_lit (base := w2.heap.size + 1) (e := 4) (size := 1) (w2.alloc (.cells #[.slice a0 n0 c0, .slice a1 n1 c1] 27)) #[] 0 (by simp) (Nat.zero_le _) rfl
    refine ⟨?_, heap_alloc2_old _ _ _, ?_, by simpa [bls] using O, s2.below AA, below_next B3 AA, by omega, by omega⟩
    · rw [AA.block _ (by omega)]; exact G2
    · rw [← z1]; exact dD.below AA
  clear G2 B3 s2 dD
  have hr3 := hr.below D0.bel
  go_wp2_with fail
  refine (l1Next_at ac nc cc bs (w.heap.size + 1) p 12 _ D0.src hr3 hb (by omega) (by omega) rfl (by omega) (by omega) hc).mono ?_
  rintro e w3 ⟨k0, hk0, rfl, s3, K3, -⟩
  have D1 := D0.move K3 s3
  clear s3 K3 D0 hr3 hr2
  go_wp2
  go_loopw [6, 7] (fun v k wr => ∃ (kk q n : Nat) (ps : List Bool), kk ≤ 12 ∧ n + kk ≤ 12 ∧ q + kk ≤ 120 ∧ k = .int .i64 kk ∧ DB w (w.heap.size + 1) w2.heap.size ac nc cc a0 n0 c0 a1 n1 c1 xs ys wr q v n ps) (fun _ k _ => (intOf k).toNat)
  case atStart => exact ⟨k0, _, _, _, by omega, by omega, by omega, rfl, D1⟩
  case round =>
    obtain ⟨kk, q, n, ps, h9, hn9, hq, rfl, D⟩ := hrel
    clear D1
    have hr4 := hr.below D.bel
    obtain ⟨ao, cap, rfl, R⟩ := RowAt.of_owned D.out
    by_cases hk : kk = 0
    · subst hk
      have r0 : wr.cell? ⟨w.heap.size, 0, none⟩ = some (.slice none 0 0) := by rw [cell_of_row wr _ 0 _ _ _ D.res]; rfl
      have r1 : wr.cell? ⟨w.heap.size, 1, none⟩ = some (.slice none 0 0) := by rw [cell_of_row wr _ 1 _ _ _ D.res]; rfl
      have y0 : wr.frozen? ⟨w.heap.size, 0, none⟩ = false := frozen_of_row wr _ 0 _ _ D.res
      have y1 : wr.frozen? ⟨w.heap.size, 1, none⟩ = false := frozen_of_row wr _ 1 _ _ D.res
      have b0 : wr.cell? ⟨w2.heap.size, 0, none⟩ = some (.slice a0 n0 c0) := by rw [cell_of_row wr _ 0 _ _ _ D.box]; rfl
      have b1 : wr.cell? ⟨w2.heap.size, 1, none⟩ = some (.slice a1 n1 c1) := by rw [cell_of_row wr _ 1 _ _ _ D.box]; rfl
      have hlt := D.blt
      have h2x := D.hx
      go_wp2
      refine bodyPost_ret (v := .tuple #[.agg #[.slice a0 n0 c0, .slice a1 n1 c1], .slice ao n cap]) (by simp [results, Try.results19, go_sem, r0, r1]) rfl ?_
      have K : Kept w.heap.size (w.heap.size + 1) wr ((wr.setCell ⟨w.heap.size, 0, none⟩ (.slice a0 n0 c0)).setCell ⟨w.heap.size, 1, none⟩ (.slice a1 n1 c1)) := by refine Kept.setCell (Kept.setCell (Kept.refl _ _ _) ?_ ?_ _) ?_ ?_ _ <;> simp
      have e1 : ((wr.setCell ⟨w.heap.size, 0, none⟩ (.slice a0 n0 c0)).setCell ⟨w.heap.size, 1, none⟩ (.slice a1 n1 c1)).heap.size = wr.heap.size := by simp
      exact ⟨_, _, _, _, _, _, _, _, _, _, _, _, rfl, hn0, hn1, by omega, (D.disk.kept K (by omega)).widen (by omega) (by omega), (R.kept K (by omega)).widen (by omega) (by omega), D.bel.trans (K.below _ (by omega) (by omega))⟩
    · have hk1 : (0 : Int) < kk := by omega
      go_wp2_with fail
      refine (l1Chance_at ac nc cc bs (w.heap.size + 1) q 2 _ D.src hr4 hb (by omega) (by omega) rfl (by omega) (by omega) hc).mono ?_
      rintro e w4 ⟨b, rfl, s4, K4, -⟩
      have D2 := D.move K4 s4
      have D3 := D2.below ((Below.refl _ _).alloc (Nat.le_refl _) (.cells #[.bool b] 4))
      have HO : Hid _ := D3.out
      clear s4 K4 D D2 hr4 R
      have hl3 := D3.blt
      go_wp2_with (first | (at_builtin; refine wpList_append_own _ rfl _ _ 28 rfl (w2.heap.size + 1) 4 i4 (.bool false) 1 1 Try.underlying28 hi4 hz0 hz1 hz2 rfl (by decide) _ _ _ rfl HO.out ⟨w4.heap.size, 0, none⟩ 1 1 [.bool b] rfl rfl ?g1 ?g2 ?g3 ?g4 ?g5 ?_))
      case g1 =>
        intro j u hj
        match j, hj with
        | 0, hj => simp at hj; subst hj; simp [Addr.add]
      case g2 => intro u hu; simp at hu; subst hu; rfl
      case g3 => unfold maxLen; omega
      case g4 => omega
      case g5 => exact Nat.succ_le_of_lt hl3
      intro v' w5 hown' hgrow _
      have D4 := DB.put (ps' := ps ++ [b]) D3 (by simpa [bls] using hown') hgrow
      clear hown' hgrow D3 HO
      go_wp2
      go_roundw
      case rel => exact ⟨kk - 1, q + 1, n + 1, _, by omega, by omega, by omega, by go_num, D4⟩
      case measure => simp [intOf]; omega

end Go.Proofs.Ytkpbmffklcgecaa
