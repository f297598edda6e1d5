/- Chapter 10: who is chosen has the greatest last view among those who told of themselves. No program is named here. -/
import Derived.Test.YtlmefgpgfdgimaaWU
import Derived.Test.YtlmefgpgfdgimaaWV
set_option maxRecDepth 20000
set_option maxHeartbeats 16000000
namespace Go.Proofs.Ytlmefgpgfdgimaa
open Go.RowKit
theorem cho_best {r : Rep} (h : repF r = 0) : ∃ j : Nat, choV r = (j : Int) ∧ j < r.size.toNat ∧ telB r j ∧ ∀ i, i < r.size.toNat → telB r i → (toldD r i).2.1 ≤ (toldD r j).2.1 := by
 obtain ⟨⟨_, hid, _, _⟩, _⟩ := rep_ok h
 have hp := telL_pos hid
 have hl1 : (lstL r r.size.toNat).length = (telL r r.size.toNat).length := by unfold lstL; rw [List.length_map]
 have hl2 : (logL r r.size.toNat).length = (telL r r.size.toNat).length := by unfold logL; rw [List.length_map]
 obtain ⟨e1, e2⟩ := bestR_of (ls := lstL r r.size.toNat) (xss := logL r r.size.toNat) (by rw [hl1, hl2]) (by rw [hl2]; exact hp)
 have BM := best_max (lstL r r.size.toNat) (logL r r.size.toNat) (logL r r.size.toNat).length
 obtain ⟨x, hx⟩ : ∃ x, bestTo (lstL r r.size.toNat) (logL r r.size.toNat) (logL r r.size.toNat).length = x := ⟨_, rfl⟩
 rw [hx] at e1 e2 BM
 rw [hl2] at e2 BM
 have get : ∀ a, a < (telL r r.size.toNat).length → (lstL r r.size.toNat).getD a 0 = (toldD r ((telL r r.size.toNat).getD a 0).toNat).2.1 := fun a ha => by
  unfold lstL
  simp [List.getD, ha]
 have hc : choV r = (telL r r.size.toNat).getD x 0 := by unfold choV; rw [e1]
 have hmem : choV r ∈ telL r r.size.toNat := by
  rw [hc, List.getD_eq_getElem?_getD, List.getElem?_eq_getElem e2]
  exact List.getElem_mem _
 obtain ⟨j, hj, hjm, hjt⟩ := telL_mem hmem
 refine ⟨j, hj, hjm, hjt, fun i hi ht => ?_⟩
 obtain ⟨a, ha, hai⟩ := List.mem_iff_getElem.1 (telL_has ht hi)
 have b := BM a ha
 rw [get a ha, get x e2, ← hc, hj, Int.toNat_natCast] at b
 have ea : (telL r r.size.toNat).getD a 0 = (i : Int) := by rw [List.getD_eq_getElem?_getD, List.getElem?_eq_getElem ha]; exact hai
 rw [ea, Int.toNat_natCast] at b
 omega
structure ChoOk (r : Rep) (v : Nat) (la : Int) : Prop where
 val : choV r = (v : Int)
 low : v < r.size.toNat
 own : (v : Int) = r.id → r.last = la
 oth : (v : Int) ≠ r.id → (r.doers.getD v dr0).1 = true ∧ (r.doers.getD v dr0).2.1 = la
 self : r.last ≤ la
 all : ∀ i, i < r.size.toNat → (i : Int) ≠ r.id → (r.doers.getD i dr0).1 = true → (r.doers.getD i dr0).2.1 ≤ la
theorem cho_ok {r : Rep} (h : repF r = 0) (hn : r.normal = false) : ∃ v la, ChoOk r v la := by
 obtain ⟨⟨_, hid, _, _⟩, _⟩ := rep_ok h
 obtain ⟨j, hj, hjm, hjt, ha⟩ := cho_best h
 have told : ∀ k : Nat, (k : Int) ≠ r.id → toldD r k = r.doers.getD k dr0 := fun k hk => by unfold toldD; rw [if_neg hk]
 refine ⟨j, (toldD r j).2.1, hj, hjm, fun e => by unfold toldD; rw [if_pos e], fun e => ?_, ?_, fun i hi e hk => ?_⟩
 ·rcases hjt with q | q
  ·exact absurd q e
  ·rw [told j e]; exact ⟨q.2, rfl⟩
 ·have := ha r.id.toNat (by omega) (Or.inl (by omega))
  unfold toldD at this
  rw [if_pos (by omega)] at this
  exact this
 ·have := ha i hi (Or.inr ⟨hn, hk⟩)
  rw [told i e] at this
  exact this
theorem ch_ok {r : Rep} (h : chC r = 0) : repF r = 0 ∧ r.normal = false ∧ (r.view % r.size == r.id) = true := by
 unfold chC at h
 by_cases h0 : repF r = 0
 ·rw [if_pos h0] at h
  by_cases h1 : r.normal = true
  ·rw [if_pos h1] at h; cases h
  ·rw [if_neg h1] at h
   by_cases h2 : (r.view % r.size == r.id) = true
   ·exact ⟨h0, by simpa using h1, h2⟩
   ·rw [if_neg h2] at h; cases h
 ·rw [if_neg h0] at h; exact absurd h h0
theorem te_ok {r : Rep} (h : chC r = 0) : teC r = 0 ∧ teM r = [] := by
 obtain ⟨h0, h1, h2⟩ := ch_ok h
 have e : teC r = 0 := by unfold teC; rw [if_pos h0, h1]; rfl
 exact ⟨e, by unfold teM tellM; rw [if_pos e, if_pos h2]⟩
def CS (w w' : World) : Prop := w'.there (w.heap.size + 1) 0 2 ∧ Below w.heap.size w w' ∧ w.heap.size + 1 < w'.heap.size
def CpS (w : World) (v0 v1 : Value) (w' : World) : Prop := w'.cell? ⟨w.heap.size, 0, none⟩ = some v0 ∧ w'.cell? ⟨w.heap.size, 1, none⟩ = some v1 ∧ CS w w'
end Go.Proofs.Ytlmefgpgfdgimaa
namespace Go.Proofs.Ytlmefgpgfdgimaa
open Go.RowKit Go.ChangeShapes Go.WideShapes Go.Deep
def bys (bs : List Nat) : List Value := bs.map fun (b : Nat) => Value.int .u8 (b : Int)
theorem bys_length (bs : List Nat) : (bys bs).length = bs.length := by simp [bys]
theorem RowAt.nBytes {w : World} {own : Bool} {lo hi : Nat} {ao : Option Addr} {n cap : Nat} {bs : List Nat} (h : RowAt w own lo hi 1 ao n cap (bys bs)) : bs.length = n := by
 have hl := h.len; rw [bys_length, Nat.mul_one] at hl; exact hl
theorem RowAt.byte {w : World} {own : Bool} {lo hi : Nat} {ao : Option Addr} {n cap : Nat} {bs : List Nat} (h : RowAt w own lo hi 1 ao n cap (bys bs)) {k : Nat} (hk : k < n) :
  ∃ b off, ao = some ⟨b, off, none⟩ ∧ lo ≤ b ∧ b < hi ∧ b < w.heap.size ∧ w.cell? ⟨b, off + k, none⟩ = some (.int .u8 (bs.getD k 0 : Nat)) := by
 obtain ⟨b, off, rfl, g1, g2, g3, g4, g5⟩ := h.cells (by omega)
 have hl := h.nBytes
 refine ⟨b, off, rfl, g1, g2, g3, ?_⟩
 rw [g4 k (by omega)]
 simp [bys, List.getD, show k < bs.length by omega]
theorem read_bytes {H : Type} {enc : TypeId × Value → H} {P : Program} {w : World} {t e : TypeId} {fuel : Nat} {v : Value} {x : DataW H × List MemPlace} (ht : P.underlying t = some (.slice e)) (he : P.underlying e = some (.int .u8)) (hc : P.cellsOf e = 1)
  (h : DataW.trod enc P w 0 (fun _ => true) true fuel t [v] = some x) :
  ∃ ao n cap bs, v = .slice ao n cap ∧ n ≤ maxLen ∧ (∀ i, bs.getD i 0 < 256) ∧ RowAt w false 0 w.heap.size 1 ao n cap (bys bs) := by
 rcases open_ints ht he hc h with ⟨hcs, _⟩ | ⟨a, len, cap, zs, hcs, _, hl, hm, hz, _, hcell, hwf⟩
 ·simp only [List.cons.injEq, and_true] at hcs
  exact ⟨none, 0, 0, [], hcs, Nat.zero_le _, fun i => by simp, rfl, Nat.le_refl _, fun h => absurd rfl h⟩
 ·simp only [List.cons.injEq, and_true] at hcs
  simp only [if_true] at hz
  have hr : ∀ z ∈ zs, 0 ≤ z ∧ z < 256 := fun z hz => by
   have := hwf z hz
   simp [Lit.wf, IntKind.min, IntKind.max, IntKind.bits, IntKind.signed] at this
   omega
  refine ⟨some a, len, cap, (zs.take len).map Int.toNat, hcs, Nat.le_trans hl hm, fun i => ?_, ?_, hl, fun hn => ?_⟩
  ·by_cases hi : i < (zs.take len).length
   ·have : (zs.take len)[i] ∈ zs := List.mem_of_mem_take (List.getElem_mem hi)
    have := hr _ this
    simp only [List.getD, List.getElem?_map, List.getElem?_eq_getElem hi, Option.map_some, Option.getD_some]
    omega
   ·simp only [List.getD, List.getElem?_map, List.getElem?_eq_none (Nat.not_lt.1 hi)]
    simp
  ·rw [bys_length]; simp; omega
  ·have h0 := hcell 0 (by omega)
   obtain ⟨b, off, spot⟩ := a
   have hspot : spot = none := by simpa [Addr.add] using World.cell?_spot h0
   subst hspot
   refine ⟨b, off, rfl, Nat.zero_le _, World.block_lt_of_cell? w _ h0, World.block_lt_of_cell? w _ h0, fun i hi => ?_, fun h => by cases h⟩
   have hi2 : i < zs.length := by omega
   have := hr zs[i] (List.getElem_mem hi2)
   rw [← addr_add, hcell i (by omega)]
   simp [bys, List.getD, show i < len by omega, hi2]
   omega
def SrcAt (w : World) (g p : Nat) (ac : Option Addr) (nc cc : Nat) : Prop := w.heap[g]? = some (.cells #[.slice ac nc cc, .int .i64 p] 78 (0, 0))
theorem SrcAt.step {w : World} {g p : Nat} {ac : Option Addr} {nc cc : Nat} (h : SrcAt w g p ac nc cc) : SrcAt (w.setCell ⟨g, 1, none⟩ (.int .i64 ((p + 1 : Nat) : Int))) g (p + 1) ac nc cc := by
 have := heap_setCell_same w g 1 _ _ (.int .i64 ((p + 1 : Nat) : Int)) h
 unfold SrcAt
 simpa using this
theorem SrcAt.kept {w w' : World} {g p : Nat} {ac : Option Addr} {nc cc : Nat} (h : SrcAt w g p ac nc cc) {l u : Nat} (hk : Kept l u w w') (hd : g < l ∨ u ≤ g) : SrcAt w' g p ac nc cc := by
 unfold SrcAt at h ⊢
 rw [hk.block g (Array.getElem?_eq_some_iff.1 h).1 hd]; exact h
theorem SrcAt.below {w w' : World} {g p : Nat} {ac : Option Addr} {nc cc : Nat} (h : SrcAt w g p ac nc cc) (hb : Below w.heap.size w w') : SrcAt w' g p ac nc cc := h.kept (l := g + 1) (u := g + 1) (Kept.of_below hb) (Or.inl (Nat.lt_succ_self _))
theorem SrcAt.lt {w : World} {g p : Nat} {ac : Option Addr} {nc cc : Nat} (h : SrcAt w g p ac nc cc) : g < w.heap.size := (Array.getElem?_eq_some_iff.1 h).1
theorem l1Next_any {o : Bool} {lo hi : Nat} (ac : Option Addr) (nc cc : Nat) (bs : List Nat) (g p n : Nat) (w : World) (hs : SrcAt w g p ac nc cc) (hr : RowAt w o lo hi 1 ac nc cc (bys bs)) (hb : ∀ i, bs.getD i 0 < 256) (hd : hi ≤ g ∨ g < lo) (hp : p ≤ 100000) (hn0 : 0 < n) (hn : n ≤ 200) (hc : nc ≤ 1048576) :
  Calls Try.prog 50 #[.pointer (some ⟨g, 0, none⟩), .int .i64 n] w fun e w' => ∃ v : Nat, v < n ∧ e = .returned (.int .i64 v) ∧ SrcAt w' g (p + 1) ac nc cc ∧ Kept g (g + 1) w w' ∧ w'.heap.size = w.heap.size := by
 have hN := hs.step
 unfold SrcAt at hs
 have K : Kept g (g + 1) w (w.setCell ⟨g, 1, none⟩ (.int .i64 ((p + 1 : Nat) : Int))) := Kept.setCell (p := ⟨g, 1, none⟩) (Kept.refl _ _ _) (Nat.le_refl _) (Nat.lt_succ_self _) _
 have hsz : (w.setCell ⟨g, 1, none⟩ (.int .i64 ((p + 1 : Nat) : Int))).heap.size = w.heap.size := by simp
 have HN : Hid (SrcAt _ g (p + 1) ac nc cc ∧ Kept g (g + 1) w _ ∧ _) := ⟨hN, K, hsz⟩
 clear hN hsz
 have c0 : w.cell? ⟨g, 0, none⟩ = some (.slice ac nc cc) := by rw [cell_of_row w _ 0 _ _ _ hs]; rfl
 have c1 : w.cell? ⟨g, 1, none⟩ = some (.int .i64 p) := by rw [cell_of_row w _ 1 _ _ _ hs]; rfl
 have f1 : w.frozen? ⟨g, 1, none⟩ = false := frozen_of_row w _ 1 _ _ hs
 have hx := hr.nBytes
 have hlt : ¬ ((n : Int) < 1) := by omega
 by_cases h0 : nc = 0
 ·subst h0
  go_enter Try.func50, Try.ntmps50
  go_wp2
  go_ret
  have hm : 0 ≤ (p : Int) * 7 % n ∧ (p : Int) * 7 % n < n := ⟨Int.emod_nonneg _ (by omega), Int.emod_lt_of_pos _ (by omega)⟩
  exact ⟨((p : Int) * 7 % n).toNat, by omega, ret_int (Int.toNat_of_nonneg hm.1).symm, HN.out⟩
 ·have hr2 := hr.kept K (by omega)
  obtain ⟨m, hm⟩ : ∃ m, p % nc = m := ⟨_, rfl⟩
  obtain ⟨q, hq⟩ : ∃ q, p / nc = q := ⟨_, rfl⟩
  have hm' : (p : Int) % (nc : Int) = (m : Int) := by rw [← hm]; rfl
  have hq' : (p : Int) / (nc : Int) = (q : Int) := by rw [← hq]; rfl
  have hk : m < nc := by rw [← hm]; exact Nat.mod_lt _ (by omega)
  have hq2 : q ≤ p := by rw [← hq]; exact Nat.div_le_self _ _
  obtain ⟨b, off, rfl, _, _, _, e1⟩ := hr2.byte hk
  obtain ⟨v, hv⟩ : ∃ v, bs.getD m 0 = v := ⟨_, rfl⟩
  have hv2 := hb m
  rw [hv] at e1 hv2
  have t0 : 0 ≤ (p : Int) % (nc : Int) := by omega
  have t1 : ¬ ((p : Int) % (nc : Int) < 0) := by omega
  have t2 : (p : Int) % (nc : Int) < nc := by omega
  have t5 : p % nc < nc := by omega
  have t6 : ((p % nc : Nat) : Int) < nc := by omega
  have t7 : (p : Int).tmod (nc : Int) = (m : Int) := by rw [Int.tmod_eq_emod_of_nonneg (by omega)]; exact hm'
  have t8 : (p : Int).tdiv (nc : Int) = (q : Int) := by rw [Int.tdiv_eq_ediv_of_nonneg (by omega)]; exact hq'
  have hk2 : (m : Int) < nc := by omega
  go_enter Try.func50, Try.ntmps50
  go_wp2
  have d0 : (w.setCell ⟨g, 1, none⟩ (.int .i64 ((p + 1 : Nat) : Int))).cell? ⟨g, 0, none⟩ = some (.slice (some ⟨b, off, none⟩) nc cc) := by
   rw [World.cell?_setCell_other _ _ _ _ (by intro e; simp at e)]; exact c0
  go_region_held3 (fun w' => w'.cell? ⟨g, 0, none⟩ = some (.slice (some ⟨b, off, none⟩) nc cc) ∧ w'.cell? ⟨b, off + m, none⟩ = some (.int .u8 v)) (exact ⟨d0, e1⟩) (fail)
  go_wp2
  go_ret
  have hm : 0 ≤ ((v : Int) + q * 37) % n ∧ ((v : Int) + q * 37) % n < n := ⟨Int.emod_nonneg _ (by omega), Int.emod_lt_of_pos _ (by omega)⟩
  exact ⟨(((v : Int) + q * 37) % n).toNat, by omega, ret_int (Int.toNat_of_nonneg hm.1).symm, HN.out.1, ⟨HN.out.2.1.os, HN.out.2.1.tape, HN.out.2.1.output, HN.out.2.1.size, HN.out.2.1.block⟩, HN.out.2.2⟩
theorem l1Source_any (ac : Option Addr) (nc cc : Nat) (w : World) :
  Calls Try.prog 24 #[.slice ac nc cc] w fun e w' => e = .returned (.pointer (some ⟨w.heap.size, 0, none⟩)) ∧ SrcAt w' w.heap.size 0 ac nc cc ∧ Below w.heap.size w w' ∧ w'.heap.size = w.heap.size + 1 := by
 go_enter Try.func24, Try.ntmps24
 go_wp2
 go_ret
 exact ⟨rfl, heap_alloc_new _ _, (Below.refl _ _).alloc (Nat.le_refl _) _, by simp⟩
theorem l1Chance_any {o : Bool} {lo hi : Nat} (ac : Option Addr) (nc cc : Nat) (bs : List Nat) (g p n : Nat) (w : World) (hs : SrcAt w g p ac nc cc) (hr : RowAt w o lo hi 1 ac nc cc (bys bs)) (hb : ∀ i, bs.getD i 0 < 256) (hd : hi ≤ g ∨ g < lo) (hp : p ≤ 100000) (hn0 : 0 < n) (hn : n ≤ 200) (hc : nc ≤ 1048576) :
  Calls Try.prog 26 #[.pointer (some ⟨g, 0, none⟩), .int .i64 n] w fun e w' => ∃ b : Bool, e = .returned (.bool b) ∧ SrcAt w' g (p + 1) ac nc cc ∧ Kept g (g + 1) w w' ∧ w'.heap.size = w.heap.size := by
 go_enter Try.func26, Try.ntmps26
 go_wp2_with fail
 refine (l1Next_any ac nc cc bs g p n w hs hr hb hd hp hn0 hn hc).mono ?_
 rintro e w1 ⟨v, _, rfl, h1, h2, h3⟩
 go_wp2
 go_ret
 exact ⟨_, rfl, h1, h2, h3⟩
structure SB (W : World) (g p : Nat) (ac : Option Addr) (nc cc : Nat) (bs : List Nat) : Prop where
 src : SrcAt W g p ac nc cc
 row : ∃ o lo hi, RowAt W o lo hi 1 ac nc cc (bys bs) ∧ (hi ≤ g ∨ g < lo)
 byte : ∀ i, bs.getD i 0 < 256
 few : nc ≤ 1048576
section
variable {W : World} {g p : Nat} {ac : Option Addr} {nc cc : Nat} {bs : List Nat}
theorem SB.move (h : SB W g p ac nc cc bs) {W' : World} {p' : Nat} (hk : Kept g (g + 1) W W') (hs : SrcAt W' g p' ac nc cc) : SB W' g p' ac nc cc bs := by
 obtain ⟨o, lo, hi, r, d⟩ := h.row
 exact ⟨hs, ⟨o, lo, hi, r.kept hk (by omega), d⟩, h.byte, h.few⟩
theorem SB.below (h : SB W g p ac nc cc bs) {W' : World} (hb : Below W.heap.size W W') : SB W' g p ac nc cc bs := h.move (Kept.of_below hb) (h.src.below hb)
theorem next_sb (h : SB W g p ac nc cc bs) (n : Nat) {N : Int} (hN : N = (n : Int)) (hn0 : 0 < n) (hn : n ≤ 200) (hp : p ≤ 100000) :
  Calls Try.prog 50 #[.pointer (some ⟨g, 0, none⟩), .int .i64 N] W fun e w' => ∃ v : Nat, v < n ∧ e = .returned (.int .i64 v) ∧ SB w' g (p + 1) ac nc cc bs ∧ Kept g (g + 1) W w' ∧ w'.heap.size = W.heap.size := by
 obtain ⟨o, lo, hi, r, d⟩ := h.row
 subst hN
 refine (l1Next_any ac nc cc bs g p n W h.src r h.byte d hp hn0 hn h.few).mono ?_
 rintro e w' ⟨v, hv, rfl, s, k, z⟩
 exact ⟨v, hv, rfl, h.move k s, k, z⟩
theorem chance_sb (h : SB W g p ac nc cc bs) (n : Nat) {N : Int} (hN : N = (n : Int)) (hn0 : 0 < n) (hn : n ≤ 200) (hp : p ≤ 100000) :
  Calls Try.prog 26 #[.pointer (some ⟨g, 0, none⟩), .int .i64 N] W fun e w' => ∃ b : Bool, e = .returned (.bool b) ∧ SB w' g (p + 1) ac nc cc bs ∧ Kept g (g + 1) W w' ∧ w'.heap.size = W.heap.size := by
 obtain ⟨o, lo, hi, r, d⟩ := h.row
 subst hN
 refine (l1Chance_any ac nc cc bs g p n W h.src r h.byte d hp hn0 hn h.few).mono ?_
 rintro e w' ⟨v, rfl, s, k, z⟩
 exact ⟨v, rfl, h.move k s, k, z⟩
theorem Kept.low {lo hi : Nat} {a w w' : World} (h : Kept lo hi a w) (hb : Below a.heap.size w w') : Kept lo hi a w' := ⟨hb.os.trans h.os, hb.tape.trans h.tape, hb.output.trans h.output, Nat.le_trans h.size hb.size, fun k hk hd => (hb.block k hk).trans (h.block k hk hd)⟩
theorem SrcAt.low {B : Nat} {w w' : World} (h : SrcAt w g p ac nc cc) (hb : Below B w w') (hg : g < B) : SrcAt w' g p ac nc cc := by unfold SrcAt; rw [hb.block g hg]; exact h
theorem SB.lt (h : SB W g p ac nc cc bs) : g < W.heap.size := h.src.lt
end
section
variable {W : World} {g p : Nat} {ac : Option Addr} {nc cc : Nat} {bs : List Nat}
end
end Go.Proofs.Ytlmefgpgfdgimaa
