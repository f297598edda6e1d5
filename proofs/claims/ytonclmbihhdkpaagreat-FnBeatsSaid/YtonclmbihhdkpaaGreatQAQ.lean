/- Draws: how a code of bytes is read, and what the source's next number is like. -/
import Derived.Test.YtonclmbihhdkpaaGreatQAE
import Derived.Test.YtonclmbihhdkpaaGreatQAP
import Derived.Lib.AppendZeros
import Derived.Test.YtonclmbihhdkpaaGreatQAB
import Derived.Test.YtonclmbihhdkpaaGreatQAH
import Derived.Test.YtonclmbihhdkpaaGreatQAC
set_option maxRecDepth 20000
set_option maxHeartbeats 16000000
namespace Go.Proofs.YtonclmbihhdkpaaGreat
open Go.RowKit Go.ChangeShapes Go.WideShapes Go.Deep
def bys (bs : List Nat) : List Value := bs.map fun (b : Nat) => Value.int .u8 (b : Int)
theorem bys_length (bs : List Nat) : (bys bs).length = bs.length := by simp [bys]
theorem RowAt.nBytes {w : World} {own : Bool} {lo hi : Nat} {ao : Option Addr} {n cap : Nat} {bs : List Nat} (h : RowAt w own lo hi 1 ao n cap (bys bs)) : bs.length = n := by
 have hl := h.len; rw [bys_length, Nat.mul_one] at hl; exact hl
theorem RowAt.byte {w : World} {own : Bool} {lo hi : Nat} {ao : Option Addr} {n cap : Nat} {bs : List Nat} (h : RowAt w own lo hi 1 ao n cap (bys bs)) {k : Nat} (hk : k < n) :
  ∃ b off, ao = some ⟨b, off, none⟩ ∧ lo ≤ b ∧ b < hi ∧ b < w.heap.size ∧ w.cell? ⟨b, off + k, none⟩ = some (.int .u8 (bs.getD k 0 : Nat)) := by
 obtain ⟨b, off, rfl, g1, g2, g3, g4, g5⟩ := h.cells (by omega)
 have hl := h.nBytes
 refine ⟨b, off, rfl, g1, g2, g3, ?_⟩
 rw [g4 k (by omega)]
 simp [bys, List.getD, show k < bs.length by omega]
theorem read_bytes {H : Type} {enc : TypeId × Value → H} {P : Program} {w : World} {t e : TypeId} {fuel : Nat} {v : Value} {x : DataW H × List MemPlace} (ht : P.underlying t = some (.slice e)) (he : P.underlying e = some (.int .u8)) (hc : P.cellsOf e = 1)
  (h : DataW.trod enc P w 0 (fun _ => true) true fuel t [v] = some x) :
  ∃ ao n cap bs, v = .slice ao n cap ∧ n ≤ maxLen ∧ (∀ i, bs.getD i 0 < 256) ∧ RowAt w false 0 w.heap.size 1 ao n cap (bys bs) := by
 rcases open_ints ht he hc h with ⟨hcs, _⟩ | ⟨a, len, cap, zs, hcs, _, hl, hm, hz, _, hcell, hwf⟩
 ·simp only [List.cons.injEq, and_true] at hcs
  exact ⟨none, 0, 0, [], hcs, Nat.zero_le _, fun i => by simp, rfl, Nat.le_refl _, fun h => absurd rfl h⟩
 ·simp only [List.cons.injEq, and_true] at hcs
  simp only [if_true] at hz
  have hr : ∀ z ∈ zs, 0 ≤ z ∧ z < 256 := fun z hz => by
   have := hwf z hz
   simp [Lit.wf, IntKind.min, IntKind.max, IntKind.bits, IntKind.signed] at this
   omega
  refine ⟨some a, len, cap, (zs.take len).map Int.toNat, hcs, Nat.le_trans hl hm, fun i => ?_, ?_, hl, fun hn => ?_⟩
  ·by_cases hi : i < (zs.take len).length
   ·have : (zs.take len)[i] ∈ zs := List.mem_of_mem_take (List.getElem_mem hi)
    have := hr _ this
    simp only [List.getD, List.getElem?_map, List.getElem?_eq_getElem hi, Option.map_some, Option.getD_some]
    omega
   ·simp only [List.getD, List.getElem?_map, List.getElem?_eq_none (Nat.not_lt.1 hi)]
    simp
  ·rw [bys_length]; simp; omega
  ·have h0 := hcell 0 (by omega)
   obtain ⟨b, off, spot⟩ := a
   have hspot : spot = none := by simpa [Addr.add] using World.cell?_spot h0
   subst hspot
   refine ⟨b, off, rfl, Nat.zero_le _, World.block_lt_of_cell? w _ h0, World.block_lt_of_cell? w _ h0, fun i hi => ?_, fun h => by cases h⟩
   have hi2 : i < zs.length := by omega
   have := hr zs[i] (List.getElem_mem hi2)
   rw [← addr_add, hcell i (by omega)]
   simp [bys, List.getD, show i < len by omega, hi2]
   omega
def SrcAt (w : World) (g p : Nat) (ac : Option Addr) (nc cc : Nat) : Prop := w.heap[g]? = some (.cells #[.slice ac nc cc, .int .i64 p] 160 (0, 0))
theorem SrcAt.step {w : World} {g p : Nat} {ac : Option Addr} {nc cc : Nat} (h : SrcAt w g p ac nc cc) : SrcAt (w.setCell ⟨g, 1, none⟩ (.int .i64 ((p + 1 : Nat) : Int))) g (p + 1) ac nc cc := by
 have := heap_setCell_same w g 1 _ _ (.int .i64 ((p + 1 : Nat) : Int)) h
 unfold SrcAt
 simpa using this
theorem SrcAt.kept {w w' : World} {g p : Nat} {ac : Option Addr} {nc cc : Nat} (h : SrcAt w g p ac nc cc) {l u : Nat} (hk : Kept l u w w') (hd : g < l ∨ u ≤ g) : SrcAt w' g p ac nc cc := by
 unfold SrcAt at h ⊢
 rw [hk.block g (Array.getElem?_eq_some_iff.1 h).1 hd]; exact h
theorem SrcAt.below {w w' : World} {g p : Nat} {ac : Option Addr} {nc cc : Nat} (h : SrcAt w g p ac nc cc) (hb : Below w.heap.size w w') : SrcAt w' g p ac nc cc := h.kept (l := g + 1) (u := g + 1) (Kept.of_below hb) (Or.inl (Nat.lt_succ_self _))
theorem SrcAt.lt {w : World} {g p : Nat} {ac : Option Addr} {nc cc : Nat} (h : SrcAt w g p ac nc cc) : g < w.heap.size := (Array.getElem?_eq_some_iff.1 h).1
theorem l1Next_any {o : Bool} {lo hi : Nat} (ac : Option Addr) (nc cc : Nat) (bs : List Nat) (g p n : Nat) (w : World) (hs : SrcAt w g p ac nc cc) (hr : RowAt w o lo hi 1 ac nc cc (bys bs)) (hb : ∀ i, bs.getD i 0 < 256) (hd : hi ≤ g ∨ g < lo) (hp : p ≤ 100000) (hn0 : 0 < n) (hn : n ≤ 200) (hc : nc ≤ 1048576) :
  Calls Tryz.prog 121 #[.pointer (some ⟨g, 0, none⟩), .int .i64 n] w fun e w' => ∃ v : Nat, v < n ∧ e = .returned (.int .i64 v) ∧ SrcAt w' g (p + 1) ac nc cc ∧ Kept g (g + 1) w w' ∧ w'.heap.size = w.heap.size := by
 have hN := hs.step
 unfold SrcAt at hs
 have K : Kept g (g + 1) w (w.setCell ⟨g, 1, none⟩ (.int .i64 ((p + 1 : Nat) : Int))) := Kept.setCell (p := ⟨g, 1, none⟩) (Kept.refl _ _ _) (Nat.le_refl _) (Nat.lt_succ_self _) _
 have hsz : (w.setCell ⟨g, 1, none⟩ (.int .i64 ((p + 1 : Nat) : Int))).heap.size = w.heap.size := by simp
 have HN : Hid (SrcAt _ g (p + 1) ac nc cc ∧ Kept g (g + 1) w _ ∧ _) := ⟨hN, K, hsz⟩
 clear hN hsz
 have c0 : w.cell? ⟨g, 0, none⟩ = some (.slice ac nc cc) := by rw [cell_of_row w _ 0 _ _ _ hs]; rfl
 have c1 : w.cell? ⟨g, 1, none⟩ = some (.int .i64 p) := by rw [cell_of_row w _ 1 _ _ _ hs]; rfl
 have f1 : w.frozen? ⟨g, 1, none⟩ = false := frozen_of_row w _ 1 _ _ hs
 have hx := hr.nBytes
 have hlt : ¬ ((n : Int) < 1) := by omega
 by_cases h0 : nc = 0
 ·subst h0
  go_enter Tryz.func121, Tryz.ntmps121
  go_wp2
  go_ret
  have hm : 0 ≤ (p : Int) * 7 % n ∧ (p : Int) * 7 % n < n := ⟨Int.emod_nonneg _ (by omega), Int.emod_lt_of_pos _ (by omega)⟩
  exact ⟨((p : Int) * 7 % n).toNat, by omega, ret_int (Int.toNat_of_nonneg hm.1).symm, HN.out⟩
 ·have hr2 := hr.kept K (by omega)
  obtain ⟨m, hm⟩ : ∃ m, p % nc = m := ⟨_, rfl⟩
  obtain ⟨q, hq⟩ : ∃ q, p / nc = q := ⟨_, rfl⟩
  have hm' : (p : Int) % (nc : Int) = (m : Int) := by rw [← hm]; rfl
  have hq' : (p : Int) / (nc : Int) = (q : Int) := by rw [← hq]; rfl
  have hk : m < nc := by rw [← hm]; exact Nat.mod_lt _ (by omega)
  have hq2 : q ≤ p := by rw [← hq]; exact Nat.div_le_self _ _
  obtain ⟨b, off, rfl, _, _, _, e1⟩ := hr2.byte hk
  obtain ⟨v, hv⟩ : ∃ v, bs.getD m 0 = v := ⟨_, rfl⟩
  have hv2 := hb m
  rw [hv] at e1 hv2
  have t0 : 0 ≤ (p : Int) % (nc : Int) := by omega
  have t1 : ¬ ((p : Int) % (nc : Int) < 0) := by omega
  have t2 : (p : Int) % (nc : Int) < nc := by omega
  have t5 : p % nc < nc := by omega
  have t6 : ((p % nc : Nat) : Int) < nc := by omega
  have t7 : (p : Int).tmod (nc : Int) = (m : Int) := by rw [Int.tmod_eq_emod_of_nonneg (by omega)]; exact hm'
  have t8 : (p : Int).tdiv (nc : Int) = (q : Int) := by rw [Int.tdiv_eq_ediv_of_nonneg (by omega)]; exact hq'
  have hk2 : (m : Int) < nc := by omega
  go_enter Tryz.func121, Tryz.ntmps121
  go_wp2
  have d0 : (w.setCell ⟨g, 1, none⟩ (.int .i64 ((p + 1 : Nat) : Int))).cell? ⟨g, 0, none⟩ = some (.slice (some ⟨b, off, none⟩) nc cc) := by
   rw [World.cell?_setCell_other _ _ _ _ (by intro e; simp at e)]; exact c0
  go_region_held3 (fun w' => w'.cell? ⟨g, 0, none⟩ = some (.slice (some ⟨b, off, none⟩) nc cc) ∧ w'.cell? ⟨b, off + m, none⟩ = some (.int .u8 v)) (exact ⟨d0, e1⟩) (fail)
  go_wp2
  go_ret
  have hm : 0 ≤ ((v : Int) + q * 37) % n ∧ ((v : Int) + q * 37) % n < n := ⟨Int.emod_nonneg _ (by omega), Int.emod_lt_of_pos _ (by omega)⟩
  exact ⟨(((v : Int) + q * 37) % n).toNat, by omega, ret_int (Int.toNat_of_nonneg hm.1).symm, HN.out.1, ⟨HN.out.2.1.os, HN.out.2.1.tape, HN.out.2.1.output, HN.out.2.1.size, HN.out.2.1.block⟩, HN.out.2.2⟩
theorem l1Source_any (ac : Option Addr) (nc cc : Nat) (w : World) :
  Calls Tryz.prog 46 #[.slice ac nc cc] w fun e w' => e = .returned (.pointer (some ⟨w.heap.size, 0, none⟩)) ∧ SrcAt w' w.heap.size 0 ac nc cc ∧ Below w.heap.size w w' ∧ w'.heap.size = w.heap.size + 1 := by
 go_enter Tryz.func46, Tryz.ntmps46
 go_wp2
 go_ret
 exact ⟨rfl, heap_alloc_new _ _, (Below.refl _ _).alloc (Nat.le_refl _) _, by simp⟩
theorem l1Chance_any {o : Bool} {lo hi : Nat} (ac : Option Addr) (nc cc : Nat) (bs : List Nat) (g p n : Nat) (w : World) (hs : SrcAt w g p ac nc cc) (hr : RowAt w o lo hi 1 ac nc cc (bys bs)) (hb : ∀ i, bs.getD i 0 < 256) (hd : hi ≤ g ∨ g < lo) (hp : p ≤ 100000) (hn0 : 0 < n) (hn : n ≤ 200) (hc : nc ≤ 1048576) :
  Calls Tryz.prog 181 #[.pointer (some ⟨g, 0, none⟩), .int .i64 n] w fun e w' => ∃ b : Bool, e = .returned (.bool b) ∧ SrcAt w' g (p + 1) ac nc cc ∧ Kept g (g + 1) w w' ∧ w'.heap.size = w.heap.size := by
 go_enter Tryz.func181, Tryz.ntmps181
 go_wp2_with fail
 refine (l1Next_any ac nc cc bs g p n w hs hr hb hd hp hn0 hn hc).mono ?_
 rintro e w1 ⟨v, _, rfl, h1, h2, h3⟩
 go_wp2
 go_ret
 exact ⟨_, rfl, h1, h2, h3⟩
structure SB (W : World) (g p : Nat) (ac : Option Addr) (nc cc : Nat) (bs : List Nat) : Prop where
 src : SrcAt W g p ac nc cc
 row : ∃ o lo hi, RowAt W o lo hi 1 ac nc cc (bys bs) ∧ (hi ≤ g ∨ g < lo)
 byte : ∀ i, bs.getD i 0 < 256
 few : nc ≤ 1048576
section
variable {W : World} {g p : Nat} {ac : Option Addr} {nc cc : Nat} {bs : List Nat}
theorem SB.move (h : SB W g p ac nc cc bs) {W' : World} {p' : Nat} (hk : Kept g (g + 1) W W') (hs : SrcAt W' g p' ac nc cc) : SB W' g p' ac nc cc bs := by
 obtain ⟨o, lo, hi, r, d⟩ := h.row
 exact ⟨hs, ⟨o, lo, hi, r.kept hk (by omega), d⟩, h.byte, h.few⟩
theorem SB.below (h : SB W g p ac nc cc bs) {W' : World} (hb : Below W.heap.size W W') : SB W' g p ac nc cc bs := h.move (Kept.of_below hb) (h.src.below hb)
theorem next_sb (h : SB W g p ac nc cc bs) (n : Nat) {N : Int} (hN : N = (n : Int)) (hn0 : 0 < n) (hn : n ≤ 200) (hp : p ≤ 100000) :
  Calls Tryz.prog 121 #[.pointer (some ⟨g, 0, none⟩), .int .i64 N] W fun e w' => ∃ v : Nat, v < n ∧ e = .returned (.int .i64 v) ∧ SB w' g (p + 1) ac nc cc bs ∧ Kept g (g + 1) W w' ∧ w'.heap.size = W.heap.size := by
 obtain ⟨o, lo, hi, r, d⟩ := h.row
 subst hN
 refine (l1Next_any ac nc cc bs g p n W h.src r h.byte d hp hn0 hn h.few).mono ?_
 rintro e w' ⟨v, hv, rfl, s, k, z⟩
 exact ⟨v, hv, rfl, h.move k s, k, z⟩
theorem chance_sb (h : SB W g p ac nc cc bs) (n : Nat) {N : Int} (hN : N = (n : Int)) (hn0 : 0 < n) (hn : n ≤ 200) (hp : p ≤ 100000) :
  Calls Tryz.prog 181 #[.pointer (some ⟨g, 0, none⟩), .int .i64 N] W fun e w' => ∃ b : Bool, e = .returned (.bool b) ∧ SB w' g (p + 1) ac nc cc bs ∧ Kept g (g + 1) W w' ∧ w'.heap.size = W.heap.size := by
 obtain ⟨o, lo, hi, r, d⟩ := h.row
 subst hN
 refine (l1Chance_any ac nc cc bs g p n W h.src r h.byte d hp hn0 hn h.few).mono ?_
 rintro e w' ⟨v, rfl, s, k, z⟩
 exact ⟨v, rfl, h.move k s, k, z⟩
theorem Kept.low {lo hi : Nat} {a w w' : World} (h : Kept lo hi a w) (hb : Below a.heap.size w w') : Kept lo hi a w' := ⟨hb.os.trans h.os, hb.tape.trans h.tape, hb.output.trans h.output, Nat.le_trans h.size hb.size, fun k hk hd => (hb.block k hk).trans (h.block k hk hd)⟩
theorem SrcAt.low {B : Nat} {w w' : World} (h : SrcAt w g p ac nc cc) (hb : Below B w w') (hg : g < B) : SrcAt w' g p ac nc cc := by unfold SrcAt; rw [hb.block g hg]; exact h
theorem SB.lt (h : SB W g p ac nc cc bs) : g < W.heap.size := h.src.lt
end
section
variable {W : World} {g p : Nat} {ac : Option Addr} {nc cc : Nat} {bs : List Nat}
end
theorem l5Op_any (g p : Nat) (ac : Option Addr) (nc cc : Nat) (bs : List Nat) (w : World) (h : SB w g p ac nc cc bs) (hp : p ≤ 90000) : Calls Tryz.prog 231 #[.pointer (some ⟨g, 0, none⟩)] w fun e w' => ∃ (k v a x : Int) (p' : Nat), e = .returned (.agg #[.int .i64 k, .int .i64 v, .int .i64 a, .int .i64 x]) ∧ (1 ≤ k ∧ k ≤ 6) ∧ (1 ≤ v ∧ v ≤ 4) ∧ (0 ≤ a ∧ a ≤ 7) ∧ (0 ≤ x ∧ x ≤ 99) ∧ p' ≤ p + 5 ∧ SB w' g p' ac nc cc bs ∧ Kept g (g + 1) w w' := by
 have hg : g < w.heap.size := h.lt
 have KK : Kept g (g + 1) w w := Kept.refl _ _ _
 have D := h
 go_enter Tryz.func231, Tryz.ntmps231
 go_wp2_with (first | ((with_reducible refine alloc_new 42 #[.int .i64 0, .int .i64 0, .int .i64 0, .int .i64 0] (fun _ => by kernel_rfl) ?_); intro b0 X0 N0; have O0 : Hid (g + 1 ≤ b0) := Nat.le_trans (Nat.le_trans hg KK.size) N0.ge; have P0 : Hid (w.heap.size ≤ b0) := Nat.le_trans KK.size N0.ge; replace D := D.below N0.below; replace KK := KK.next N0.below; have H0 : Hid (b0 < X0.heap.size) := N0.lt; have c0_0 : X0.cell? ⟨b0, 0, none⟩ = some (.int .i64 0) := N0.cell 0 _ rfl; have c0_1 : X0.cell? ⟨b0, 1, none⟩ = some (.int .i64 0) := N0.cell 1 _ rfl; have c0_2 : X0.cell? ⟨b0, 2, none⟩ = some (.int .i64 0) := N0.cell 2 _ rfl; have c0_3 : X0.cell? ⟨b0, 3, none⟩ = some (.int .i64 0) := N0.cell 3 _ rfl; have y0_0 : X0.frozen? ⟨b0, 0, none⟩ = false := N0.froz 0; have y0_1 : X0.frozen? ⟨b0, 1, none⟩ = false := N0.froz 1; have y0_2 : X0.frozen? ⟨b0, 2, none⟩ = false := N0.froz 2; have y0_3 : X0.frozen? ⟨b0, 3, none⟩ = false := N0.froz 3; clear N0) | fail)
 refine (next_sb D 4 rfl (by omega) (by omega) (by omega)).mono ?_
 rintro e u1 ⟨v, hv, rfl, D', K', -⟩
 replace c0_0 := K'.cell c0_0 (Or.inr O0.out)
 replace c0_1 := K'.cell c0_1 (Or.inr O0.out)
 replace c0_2 := K'.cell c0_2 (Or.inr O0.out)
 replace c0_3 := K'.cell c0_3 (Or.inr O0.out)
 replace y0_0 := K'.fr y0_0 (Or.inr O0.out) H0.out
 replace y0_1 := K'.fr y0_1 (Or.inr O0.out) H0.out
 replace y0_2 := K'.fr y0_2 (Or.inr O0.out) H0.out
 replace y0_3 := K'.fr y0_3 (Or.inr O0.out) H0.out
 replace H0 : Hid (b0 < u1.heap.size) := Nat.lt_of_lt_of_le H0.out K'.size
 replace KK := KK.trans K'
 replace D := D'
 clear D' K'
 have hw1 : IntKind.i64.wrap (1 + (v : Int)) = 1 + (v : Int) := wrapI_same _ (by omega)
 go_wp2_with fail
 refine (next_sb D 10 rfl (by omega) (by omega) (by omega)).mono ?_
 rintro e u2 ⟨u, hu, rfl, D', K', -⟩
 replace c0_0 := K'.cell c0_0 (Or.inr O0.out)
 replace c0_1 := K'.cell c0_1 (Or.inr O0.out)
 replace c0_2 := K'.cell c0_2 (Or.inr O0.out)
 replace c0_3 := K'.cell c0_3 (Or.inr O0.out)
 replace y0_0 := K'.fr y0_0 (Or.inr O0.out) H0.out
 replace y0_1 := K'.fr y0_1 (Or.inr O0.out) H0.out
 replace y0_2 := K'.fr y0_2 (Or.inr O0.out) H0.out
 replace y0_3 := K'.fr y0_3 (Or.inr O0.out) H0.out
 replace H0 : Hid (b0 < u2.heap.size) := Nat.lt_of_lt_of_le H0.out K'.size
 replace KK := KK.trans K'
 replace D := D'
 clear D' K'
 rcases (by omega : u = 0 ∨ u = 1 ∨ u = 2 ∨ u = 3 ∨ u = 4 ∨ 5 ≤ u) with hu | hu | hu | hu | hu | hu
 ·subst hu
  go_wp2_with fail
  refine (next_sb D 9 rfl (by omega) (by omega) (by omega)).mono ?_
  rintro e u3 ⟨x, hx, rfl, D', K', -⟩
  replace c0_0 := K'.cell c0_0 (Or.inr O0.out)
  replace c0_1 := K'.cell c0_1 (Or.inr O0.out)
  replace c0_2 := K'.cell c0_2 (Or.inr O0.out)
  replace c0_3 := K'.cell c0_3 (Or.inr O0.out)
  replace y0_0 := K'.fr y0_0 (Or.inr O0.out) H0.out
  replace y0_1 := K'.fr y0_1 (Or.inr O0.out) H0.out
  replace y0_2 := K'.fr y0_2 (Or.inr O0.out) H0.out
  replace y0_3 := K'.fr y0_3 (Or.inr O0.out) H0.out
  replace H0 : Hid (b0 < u3.heap.size) := Nat.lt_of_lt_of_le H0.out K'.size
  replace KK := KK.trans K'
  replace D := D'
  clear D' K'
  have hw2 : IntKind.i64.wrap (1 + (x : Int)) = 1 + (x : Int) := wrapI_same _ (by omega)
  go_wp2
  refine bodyPost_ret (v := .agg #[.int .i64 1, .int .i64 (1 + (v : Int)), .int .i64 0, .int .i64 (1 + (x : Int))]) (by simp [results, Tryz.results231, go_sem, c0_0, c0_1, c0_2, c0_3]) rfl ?_
  have KZ : Kept b0 (b0 + 1) u3 ((((u3.setCell ⟨b0, 0, none⟩ (.int .i64 1)).setCell ⟨b0, 1, none⟩ (.int .i64 (1 + (v : Int)))).setCell ⟨b0, 2, none⟩ (.int .i64 0)).setCell ⟨b0, 3, none⟩ (.int .i64 (1 + (x : Int)))) := by refine Kept.setCell (Kept.setCell (Kept.setCell (Kept.setCell (Kept.refl _ _ _) ?_ ?_ _) ?_ ?_ _) ?_ ?_ _) ?_ ?_ _ <;> simp
  replace KK := KK.low (KZ.below _ P0.out KK.size)
  have DF := h.move KK (D.src.kept KZ (Or.inl O0.out))
  clear KZ
  exact ⟨1, 1 + (v : Int), 0, 1 + (x : Int), _, rfl, by omega, by omega, by omega, by omega, by omega, DF, KK⟩
 ·subst hu
  go_wp2_with fail
  refine (next_sb D 6 rfl (by omega) (by omega) (by omega)).mono ?_
  rintro e u3 ⟨x, hx, rfl, D', K', -⟩
  replace c0_0 := K'.cell c0_0 (Or.inr O0.out)
  replace c0_1 := K'.cell c0_1 (Or.inr O0.out)
  replace c0_2 := K'.cell c0_2 (Or.inr O0.out)
  replace c0_3 := K'.cell c0_3 (Or.inr O0.out)
  replace y0_0 := K'.fr y0_0 (Or.inr O0.out) H0.out
  replace y0_1 := K'.fr y0_1 (Or.inr O0.out) H0.out
  replace y0_2 := K'.fr y0_2 (Or.inr O0.out) H0.out
  replace y0_3 := K'.fr y0_3 (Or.inr O0.out) H0.out
  replace H0 : Hid (b0 < u3.heap.size) := Nat.lt_of_lt_of_le H0.out K'.size
  replace KK := KK.trans K'
  replace D := D'
  clear D' K'
  have hw2 : IntKind.i64.wrap (1 + (x : Int)) = 1 + (x : Int) := wrapI_same _ (by omega)
  go_wp2
  refine bodyPost_ret (v := .agg #[.int .i64 5, .int .i64 (1 + (v : Int)), .int .i64 0, .int .i64 (1 + (x : Int))]) (by simp [results, Tryz.results231, go_sem, c0_0, c0_1, c0_2, c0_3]) rfl ?_
  have KZ : Kept b0 (b0 + 1) u3 ((((u3.setCell ⟨b0, 0, none⟩ (.int .i64 5)).setCell ⟨b0, 1, none⟩ (.int .i64 (1 + (v : Int)))).setCell ⟨b0, 2, none⟩ (.int .i64 0)).setCell ⟨b0, 3, none⟩ (.int .i64 (1 + (x : Int)))) := by refine Kept.setCell (Kept.setCell (Kept.setCell (Kept.setCell (Kept.refl _ _ _) ?_ ?_ _) ?_ ?_ _) ?_ ?_ _) ?_ ?_ _ <;> simp
  replace KK := KK.low (KZ.below _ P0.out KK.size)
  have DF := h.move KK (D.src.kept KZ (Or.inl O0.out))
  clear KZ
  exact ⟨5, 1 + (v : Int), 0, 1 + (x : Int), _, rfl, by omega, by omega, by omega, by omega, by omega, DF, KK⟩
 ·subst hu
  go_wp2_with fail
  refine (next_sb D 8 rfl (by omega) (by omega) (by omega)).mono ?_
  rintro e u3 ⟨x, hx, rfl, D', K', -⟩
  replace c0_0 := K'.cell c0_0 (Or.inr O0.out)
  replace c0_1 := K'.cell c0_1 (Or.inr O0.out)
  replace c0_2 := K'.cell c0_2 (Or.inr O0.out)
  replace c0_3 := K'.cell c0_3 (Or.inr O0.out)
  replace y0_0 := K'.fr y0_0 (Or.inr O0.out) H0.out
  replace y0_1 := K'.fr y0_1 (Or.inr O0.out) H0.out
  replace y0_2 := K'.fr y0_2 (Or.inr O0.out) H0.out
  replace y0_3 := K'.fr y0_3 (Or.inr O0.out) H0.out
  replace H0 : Hid (b0 < u3.heap.size) := Nat.lt_of_lt_of_le H0.out K'.size
  replace KK := KK.trans K'
  replace D := D'
  clear D' K'
  go_wp2
  refine bodyPost_ret (v := .agg #[.int .i64 3, .int .i64 (1 + (v : Int)), .int .i64 (x : Int), .int .i64 0]) (by simp [results, Tryz.results231, go_sem, c0_0, c0_1, c0_2, c0_3]) rfl ?_
  have KZ : Kept b0 (b0 + 1) u3 ((((u3.setCell ⟨b0, 0, none⟩ (.int .i64 3)).setCell ⟨b0, 1, none⟩ (.int .i64 (1 + (v : Int)))).setCell ⟨b0, 2, none⟩ (.int .i64 (x : Int))).setCell ⟨b0, 3, none⟩ (.int .i64 0)) := by refine Kept.setCell (Kept.setCell (Kept.setCell (Kept.setCell (Kept.refl _ _ _) ?_ ?_ _) ?_ ?_ _) ?_ ?_ _) ?_ ?_ _ <;> simp
  replace KK := KK.low (KZ.below _ P0.out KK.size)
  have DF := h.move KK (D.src.kept KZ (Or.inl O0.out))
  clear KZ
  exact ⟨3, 1 + (v : Int), (x : Int), 0, _, rfl, by omega, by omega, by omega, by omega, by omega, DF, KK⟩
 ·subst hu
  go_wp2_with fail
  refine (next_sb D 8 rfl (by omega) (by omega) (by omega)).mono ?_
  rintro e u3 ⟨x, hx, rfl, D', K', -⟩
  replace c0_0 := K'.cell c0_0 (Or.inr O0.out)
  replace c0_1 := K'.cell c0_1 (Or.inr O0.out)
  replace c0_2 := K'.cell c0_2 (Or.inr O0.out)
  replace c0_3 := K'.cell c0_3 (Or.inr O0.out)
  replace y0_0 := K'.fr y0_0 (Or.inr O0.out) H0.out
  replace y0_1 := K'.fr y0_1 (Or.inr O0.out) H0.out
  replace y0_2 := K'.fr y0_2 (Or.inr O0.out) H0.out
  replace y0_3 := K'.fr y0_3 (Or.inr O0.out) H0.out
  replace H0 : Hid (b0 < u3.heap.size) := Nat.lt_of_lt_of_le H0.out K'.size
  replace KK := KK.trans K'
  replace D := D'
  clear D' K'
  go_wp2
  refine bodyPost_ret (v := .agg #[.int .i64 4, .int .i64 (1 + (v : Int)), .int .i64 (x : Int), .int .i64 0]) (by simp [results, Tryz.results231, go_sem, c0_0, c0_1, c0_2, c0_3]) rfl ?_
  have KZ : Kept b0 (b0 + 1) u3 ((((u3.setCell ⟨b0, 0, none⟩ (.int .i64 4)).setCell ⟨b0, 1, none⟩ (.int .i64 (1 + (v : Int)))).setCell ⟨b0, 2, none⟩ (.int .i64 (x : Int))).setCell ⟨b0, 3, none⟩ (.int .i64 0)) := by refine Kept.setCell (Kept.setCell (Kept.setCell (Kept.setCell (Kept.refl _ _ _) ?_ ?_ _) ?_ ?_ _) ?_ ?_ _) ?_ ?_ _ <;> simp
  replace KK := KK.low (KZ.below _ P0.out KK.size)
  have DF := h.move KK (D.src.kept KZ (Or.inl O0.out))
  clear KZ
  exact ⟨4, 1 + (v : Int), (x : Int), 0, _, rfl, by omega, by omega, by omega, by omega, by omega, DF, KK⟩
 ·subst hu
  go_wp2_with fail
  refine (chance_sb D 3 rfl (by omega) (by omega) (by omega)).mono ?_
  rintro e u3 ⟨bb, rfl, D', K', -⟩
  replace c0_0 := K'.cell c0_0 (Or.inr O0.out)
  replace c0_1 := K'.cell c0_1 (Or.inr O0.out)
  replace c0_2 := K'.cell c0_2 (Or.inr O0.out)
  replace c0_3 := K'.cell c0_3 (Or.inr O0.out)
  replace y0_0 := K'.fr y0_0 (Or.inr O0.out) H0.out
  replace y0_1 := K'.fr y0_1 (Or.inr O0.out) H0.out
  replace y0_2 := K'.fr y0_2 (Or.inr O0.out) H0.out
  replace y0_3 := K'.fr y0_3 (Or.inr O0.out) H0.out
  replace H0 : Hid (b0 < u3.heap.size) := Nat.lt_of_lt_of_le H0.out K'.size
  replace KK := KK.trans K'
  replace D := D'
  clear D' K'
  cases bb with
  | true =>
   go_wp2
   refine bodyPost_ret (v := .agg #[.int .i64 6, .int .i64 (1 + (v : Int)), .int .i64 0, .int .i64 0]) (by simp [results, Tryz.results231, go_sem, c0_0, c0_1, c0_2, c0_3]) rfl ?_
   have KZ : Kept b0 (b0 + 1) u3 ((((u3.setCell ⟨b0, 0, none⟩ (.int .i64 6)).setCell ⟨b0, 1, none⟩ (.int .i64 (1 + (v : Int)))).setCell ⟨b0, 2, none⟩ (.int .i64 0)).setCell ⟨b0, 3, none⟩ (.int .i64 0)) := by refine Kept.setCell (Kept.setCell (Kept.setCell (Kept.setCell (Kept.refl _ _ _) ?_ ?_ _) ?_ ?_ _) ?_ ?_ _) ?_ ?_ _ <;> simp
   replace KK := KK.low (KZ.below _ P0.out KK.size)
   have DF := h.move KK (D.src.kept KZ (Or.inl O0.out))
   clear KZ
   exact ⟨6, 1 + (v : Int), 0, 0, _, rfl, by omega, by omega, by omega, by omega, by omega, DF, KK⟩
  | false =>
   go_wp2_with fail
   refine (next_sb D 8 rfl (by omega) (by omega) (by omega)).mono ?_
   rintro e u4 ⟨x, hx, rfl, D', K', -⟩
   replace c0_0 := K'.cell c0_0 (Or.inr O0.out)
   replace c0_1 := K'.cell c0_1 (Or.inr O0.out)
   replace c0_2 := K'.cell c0_2 (Or.inr O0.out)
   replace c0_3 := K'.cell c0_3 (Or.inr O0.out)
   replace y0_0 := K'.fr y0_0 (Or.inr O0.out) H0.out
   replace y0_1 := K'.fr y0_1 (Or.inr O0.out) H0.out
   replace y0_2 := K'.fr y0_2 (Or.inr O0.out) H0.out
   replace y0_3 := K'.fr y0_3 (Or.inr O0.out) H0.out
   replace H0 : Hid (b0 < u4.heap.size) := Nat.lt_of_lt_of_le H0.out K'.size
   replace KK := KK.trans K'
   replace D := D'
   clear D' K'
   go_wp2_with fail
   refine (next_sb D 99 rfl (by omega) (by omega) (by omega)).mono ?_
   rintro e u5 ⟨y, hy, rfl, D', K', -⟩
   replace c0_0 := K'.cell c0_0 (Or.inr O0.out)
   replace c0_1 := K'.cell c0_1 (Or.inr O0.out)
   replace c0_2 := K'.cell c0_2 (Or.inr O0.out)
   replace c0_3 := K'.cell c0_3 (Or.inr O0.out)
   replace y0_0 := K'.fr y0_0 (Or.inr O0.out) H0.out
   replace y0_1 := K'.fr y0_1 (Or.inr O0.out) H0.out
   replace y0_2 := K'.fr y0_2 (Or.inr O0.out) H0.out
   replace y0_3 := K'.fr y0_3 (Or.inr O0.out) H0.out
   replace H0 : Hid (b0 < u5.heap.size) := Nat.lt_of_lt_of_le H0.out K'.size
   replace KK := KK.trans K'
   replace D := D'
   clear D' K'
   go_wp2
   refine bodyPost_ret (v := .agg #[.int .i64 2, .int .i64 (1 + (v : Int)), .int .i64 (x : Int), .int .i64 (y : Int)]) (by simp [results, Tryz.results231, go_sem, c0_0, c0_1, c0_2, c0_3]) rfl ?_
   have KZ : Kept b0 (b0 + 1) u5 ((((u5.setCell ⟨b0, 0, none⟩ (.int .i64 2)).setCell ⟨b0, 1, none⟩ (.int .i64 (1 + (v : Int)))).setCell ⟨b0, 2, none⟩ (.int .i64 (x : Int))).setCell ⟨b0, 3, none⟩ (.int .i64 (y : Int))) := by refine Kept.setCell (Kept.setCell (Kept.setCell (Kept.setCell (Kept.refl _ _ _) ?_ ?_ _) ?_ ?_ _) ?_ ?_ _) ?_ ?_ _ <;> simp
   replace KK := KK.low (KZ.below _ P0.out KK.size)
   have DF := h.move KK (D.src.kept KZ (Or.inl O0.out))
   clear KZ
   exact ⟨2, 1 + (v : Int), (x : Int), (y : Int), _, rfl, by omega, by omega, by omega, by omega, by omega, DF, KK⟩
 ·have n0 : ((u : Int) == 0) = false := by simp; omega
  have n1 : ((u : Int) == 1) = false := by simp; omega
  have n2 : ((u : Int) == 2) = false := by simp; omega
  have n3 : ((u : Int) == 3) = false := by simp; omega
  have n4 : ((u : Int) == 4) = false := by simp; omega
  go_wp2_with fail
  refine (next_sb D 8 rfl (by omega) (by omega) (by omega)).mono ?_
  rintro e u3 ⟨x, hx, rfl, D', K', -⟩
  replace c0_0 := K'.cell c0_0 (Or.inr O0.out)
  replace c0_1 := K'.cell c0_1 (Or.inr O0.out)
  replace c0_2 := K'.cell c0_2 (Or.inr O0.out)
  replace c0_3 := K'.cell c0_3 (Or.inr O0.out)
  replace y0_0 := K'.fr y0_0 (Or.inr O0.out) H0.out
  replace y0_1 := K'.fr y0_1 (Or.inr O0.out) H0.out
  replace y0_2 := K'.fr y0_2 (Or.inr O0.out) H0.out
  replace y0_3 := K'.fr y0_3 (Or.inr O0.out) H0.out
  replace H0 : Hid (b0 < u3.heap.size) := Nat.lt_of_lt_of_le H0.out K'.size
  replace KK := KK.trans K'
  replace D := D'
  clear D' K'
  go_wp2_with fail
  refine (next_sb D 99 rfl (by omega) (by omega) (by omega)).mono ?_
  rintro e u4 ⟨y, hy, rfl, D', K', -⟩
  replace c0_0 := K'.cell c0_0 (Or.inr O0.out)
  replace c0_1 := K'.cell c0_1 (Or.inr O0.out)
  replace c0_2 := K'.cell c0_2 (Or.inr O0.out)
  replace c0_3 := K'.cell c0_3 (Or.inr O0.out)
  replace y0_0 := K'.fr y0_0 (Or.inr O0.out) H0.out
  replace y0_1 := K'.fr y0_1 (Or.inr O0.out) H0.out
  replace y0_2 := K'.fr y0_2 (Or.inr O0.out) H0.out
  replace y0_3 := K'.fr y0_3 (Or.inr O0.out) H0.out
  replace H0 : Hid (b0 < u4.heap.size) := Nat.lt_of_lt_of_le H0.out K'.size
  replace KK := KK.trans K'
  replace D := D'
  clear D' K'
  go_wp2
  refine bodyPost_ret (v := .agg #[.int .i64 2, .int .i64 (1 + (v : Int)), .int .i64 (x : Int), .int .i64 (y : Int)]) (by simp [results, Tryz.results231, go_sem, c0_0, c0_1, c0_2, c0_3]) rfl ?_
  have KZ : Kept b0 (b0 + 1) u4 ((((u4.setCell ⟨b0, 0, none⟩ (.int .i64 2)).setCell ⟨b0, 1, none⟩ (.int .i64 (1 + (v : Int)))).setCell ⟨b0, 2, none⟩ (.int .i64 (x : Int))).setCell ⟨b0, 3, none⟩ (.int .i64 (y : Int))) := by refine Kept.setCell (Kept.setCell (Kept.setCell (Kept.setCell (Kept.refl _ _ _) ?_ ?_ _) ?_ ?_ _) ?_ ?_ _) ?_ ?_ _ <;> simp
  replace KK := KK.low (KZ.below _ P0.out KK.size)
  have DF := h.move KK (D.src.kept KZ (Or.inl O0.out))
  clear KZ
  exact ⟨2, 1 + (v : Int), (x : Int), (y : Int), _, rfl, by omega, by omega, by omega, by omega, by omega, DF, KK⟩
theorem l8Entry_any (g p : Nat) (ac : Option Addr) (nc cc : Nat) (bs : List Nat) (w : World) (h : SB w g p ac nc cc bs) (hp : p ≤ 80000) : Calls Tryz.prog 217 #[.pointer (some ⟨g, 0, none⟩)] w fun e w' => ∃ (p1 q k v a x : Int) (p' : Nat), e = .returned (.agg #[.int .i64 p1, .int .i64 q, .int .i64 k, .int .i64 v, .int .i64 a, .int .i64 x]) ∧ (1 ≤ k ∧ k ≤ 6) ∧ (1 ≤ v ∧ v ≤ 4) ∧ p' ≤ p + 7 ∧ SB w' g p' ac nc cc bs ∧ Kept g (g + 1) w w' := by
 have hg : g < w.heap.size := h.lt
 have KK : Kept g (g + 1) w w := Kept.refl _ _ _
 have D := h
 go_enter Tryz.func217, Tryz.ntmps217
 go_wp2_with (first | ((with_reducible refine alloc_new 44 #[.int .i64 0, .int .i64 0, .int .i64 0, .int .i64 0, .int .i64 0, .int .i64 0] (fun _ => by kernel_rfl) ?_); intro b0 X0 N0; have O0 : Hid (g + 1 ≤ b0) := Nat.le_trans (Nat.le_trans hg KK.size) N0.ge; have P0 : Hid (w.heap.size ≤ b0) := Nat.le_trans KK.size N0.ge; replace D := D.below N0.below; replace KK := KK.next N0.below; have H0 : Hid (b0 < X0.heap.size) := N0.lt; have c0_0 : X0.cell? ⟨b0, 0, none⟩ = some (.int .i64 0) := N0.cell 0 _ rfl; have c0_1 : X0.cell? ⟨b0, 1, none⟩ = some (.int .i64 0) := N0.cell 1 _ rfl; have c0_2 : X0.cell? ⟨b0, 2, none⟩ = some (.int .i64 0) := N0.cell 2 _ rfl; have c0_3 : X0.cell? ⟨b0, 3, none⟩ = some (.int .i64 0) := N0.cell 3 _ rfl; have c0_4 : X0.cell? ⟨b0, 4, none⟩ = some (.int .i64 0) := N0.cell 4 _ rfl; have c0_5 : X0.cell? ⟨b0, 5, none⟩ = some (.int .i64 0) := N0.cell 5 _ rfl; have y0_0 : X0.frozen? ⟨b0, 0, none⟩ = false := N0.froz 0; have y0_1 : X0.frozen? ⟨b0, 1, none⟩ = false := N0.froz 1; have y0_2 : X0.frozen? ⟨b0, 2, none⟩ = false := N0.froz 2; have y0_3 : X0.frozen? ⟨b0, 3, none⟩ = false := N0.froz 3; have y0_4 : X0.frozen? ⟨b0, 4, none⟩ = false := N0.froz 4; have y0_5 : X0.frozen? ⟨b0, 5, none⟩ = false := N0.froz 5; clear N0) | fail)
 refine (next_sb D 3 rfl (by omega) (by omega) (by omega)).mono ?_
 rintro e u1 ⟨a1, ha1, rfl, D', K', -⟩
 replace c0_0 := K'.cell c0_0 (Or.inr O0.out)
 replace c0_1 := K'.cell c0_1 (Or.inr O0.out)
 replace c0_2 := K'.cell c0_2 (Or.inr O0.out)
 replace c0_3 := K'.cell c0_3 (Or.inr O0.out)
 replace c0_4 := K'.cell c0_4 (Or.inr O0.out)
 replace c0_5 := K'.cell c0_5 (Or.inr O0.out)
 replace y0_0 := K'.fr y0_0 (Or.inr O0.out) H0.out
 replace y0_1 := K'.fr y0_1 (Or.inr O0.out) H0.out
 replace y0_2 := K'.fr y0_2 (Or.inr O0.out) H0.out
 replace y0_3 := K'.fr y0_3 (Or.inr O0.out) H0.out
 replace y0_4 := K'.fr y0_4 (Or.inr O0.out) H0.out
 replace y0_5 := K'.fr y0_5 (Or.inr O0.out) H0.out
 replace H0 : Hid (b0 < u1.heap.size) := Nat.lt_of_lt_of_le H0.out K'.size
 replace KK := KK.trans K'
 replace D := D'
 clear D' K'
 have hw1 : IntKind.i64.wrap (1 + (a1 : Int)) = 1 + (a1 : Int) := wrapI_same _ (by omega)
 go_wp2_with fail
 refine (next_sb D 9 rfl (by omega) (by omega) (by omega)).mono ?_
 rintro e u2 ⟨a2, ha2, rfl, D', K', -⟩
 replace c0_0 := K'.cell c0_0 (Or.inr O0.out)
 replace c0_1 := K'.cell c0_1 (Or.inr O0.out)
 replace c0_2 := K'.cell c0_2 (Or.inr O0.out)
 replace c0_3 := K'.cell c0_3 (Or.inr O0.out)
 replace c0_4 := K'.cell c0_4 (Or.inr O0.out)
 replace c0_5 := K'.cell c0_5 (Or.inr O0.out)
 replace y0_0 := K'.fr y0_0 (Or.inr O0.out) H0.out
 replace y0_1 := K'.fr y0_1 (Or.inr O0.out) H0.out
 replace y0_2 := K'.fr y0_2 (Or.inr O0.out) H0.out
 replace y0_3 := K'.fr y0_3 (Or.inr O0.out) H0.out
 replace y0_4 := K'.fr y0_4 (Or.inr O0.out) H0.out
 replace y0_5 := K'.fr y0_5 (Or.inr O0.out) H0.out
 replace H0 : Hid (b0 < u2.heap.size) := Nat.lt_of_lt_of_le H0.out K'.size
 replace KK := KK.trans K'
 replace D := D'
 clear D' K'
 have hw2 : IntKind.i64.wrap (1 + (a2 : Int)) = 1 + (a2 : Int) := wrapI_same _ (by omega)
 go_wp2_with fail
 refine (l5Op_any g _ ac nc cc bs _ D (by omega)).mono ?_
 rintro e u3 ⟨k, v, a, x, p', rfl, hk, hv, ha, hx, hp', D', K'⟩
 replace c0_0 := K'.cell c0_0 (Or.inr O0.out)
 replace c0_1 := K'.cell c0_1 (Or.inr O0.out)
 replace c0_2 := K'.cell c0_2 (Or.inr O0.out)
 replace c0_3 := K'.cell c0_3 (Or.inr O0.out)
 replace c0_4 := K'.cell c0_4 (Or.inr O0.out)
 replace c0_5 := K'.cell c0_5 (Or.inr O0.out)
 replace y0_0 := K'.fr y0_0 (Or.inr O0.out) H0.out
 replace y0_1 := K'.fr y0_1 (Or.inr O0.out) H0.out
 replace y0_2 := K'.fr y0_2 (Or.inr O0.out) H0.out
 replace y0_3 := K'.fr y0_3 (Or.inr O0.out) H0.out
 replace y0_4 := K'.fr y0_4 (Or.inr O0.out) H0.out
 replace y0_5 := K'.fr y0_5 (Or.inr O0.out) H0.out
 replace H0 : Hid (b0 < u3.heap.size) := Nat.lt_of_lt_of_le H0.out K'.size
 replace KK := KK.trans K'
 replace D := D'
 clear D' K'
 go_wp2
 refine bodyPost_ret (v := .agg #[.int .i64 (1 + (a1 : Int)), .int .i64 (1 + (a2 : Int)), .int .i64 k, .int .i64 v, .int .i64 a, .int .i64 x]) (by simp [results, Tryz.results217, go_sem, c0_0, c0_1, c0_2, c0_3, c0_4, c0_5]) rfl ?_
 have KZ : Kept b0 (b0 + 1) u3 ((((((u3.setCell ⟨b0, 0, none⟩ (.int .i64 (1 + (a1 : Int)))).setCell ⟨b0, 1, none⟩ (.int .i64 (1 + (a2 : Int)))).setCell ⟨b0, 2, none⟩ (.int .i64 k)).setCell ⟨b0, 3, none⟩ (.int .i64 v)).setCell ⟨b0, 4, none⟩ (.int .i64 a)).setCell ⟨b0, 5, none⟩ (.int .i64 x)) := by refine Kept.setCell (Kept.setCell (Kept.setCell (Kept.setCell (Kept.setCell (Kept.setCell (Kept.refl _ _ _) ?_ ?_ _) ?_ ?_ _) ?_ ?_ _) ?_ ?_ _) ?_ ?_ _) ?_ ?_ _ <;> simp
 replace KK := KK.low (KZ.below _ P0.out KK.size)
 have DF := h.move KK (D.src.kept KZ (Or.inl O0.out))
 clear KZ
 exact ⟨_, _, k, v, a, x, p', rfl, hk, hv, by omega, DF, KK⟩
end Go.Proofs.YtonclmbihhdkpaaGreat
