/- Draws: how a code of bytes is read, and what the source's next number is like. -/
import Derived.Test.YtikplcpgocgogaaBools
import Derived.Test.YtikplcpgocgogaaPutC
import Derived.Lib.AppendZeros
namespace Go.Proofs.Ytikplcpgocgogaa
open Go.RowKit Go.ChangeShapes Go.WideShapes Go.Deep

def bys (bs : List Nat) : List Value := bs.map fun (b : Nat) => Value.int .u8 (b : Int)
theorem bys_length (bs : List Nat) : (bys bs).length = bs.length := by simp [bys]
theorem RowAt.nBytes {w : World} {own : Bool} {lo hi : Nat} {ao : Option Addr} {n cap : Nat} {bs : List Nat} (h : RowAt w own lo hi 1 ao n cap (bys bs)) : bs.length = n := by
  have hl := h.len; rw [bys_length, Nat.mul_one] at hl; exact hl
theorem RowAt.byte {w : World} {own : Bool} {lo hi : Nat} {ao : Option Addr} {n cap : Nat} {bs : List Nat} (h : RowAt w own lo hi 1 ao n cap (bys bs)) {k : Nat} (hk : k < n) :
    ∃ b off, ao = some ⟨b, off, none⟩ ∧ lo ≤ b ∧ b < hi ∧ b < w.heap.size ∧ w.cell? ⟨b, off + k, none⟩ = some (.int .u8 (bs.getD k 0 : Nat)) := by
  obtain ⟨b, off, rfl, g1, g2, g3, g4, g5⟩ := h.cells (by omega)
  have hl := h.nBytes
  refine ⟨b, off, rfl, g1, g2, g3, ?_⟩
  rw [g4 k (by omega)]
  simp [bys, List.getD, show k < bs.length by omega]

theorem read_bytes {H : Type} {enc : TypeId × Value → H} {P : Program} {w : World} {t e : TypeId} {fuel : Nat} {v : Value} {x : DataW H × List MemPlace} (ht : P.underlying t = some (.slice e)) (he : P.underlying e = some (.int .u8)) (hc : P.cellsOf e = 1)
    (h : DataW.trod enc P w 0 (fun _ => true) true fuel t [v] = some x) :
    ∃ ao n cap bs, v = .slice ao n cap ∧ n ≤ maxLen ∧ (∀ i, bs.getD i 0 < 256) ∧ RowAt w false 0 w.heap.size 1 ao n cap (bys bs) := by
  rcases open_ints ht he hc h with ⟨hcs, _⟩ | ⟨a, len, cap, zs, hcs, _, hl, hm, hz, _, hcell, hwf⟩
  · simp only [List.cons.injEq, and_true] at hcs
    exact ⟨none, 0, 0, [], hcs, Nat.zero_le _, fun i => by simp, rfl, Nat.le_refl _, fun h => absurd rfl h⟩
  · simp only [List.cons.injEq, and_true] at hcs
    simp only [if_true] at hz
    have hr : ∀ z ∈ zs, 0 ≤ z ∧ z < 256 := fun z hz => by
      have := hwf z hz
      simp [Lit.wf, IntKind.min, IntKind.max, IntKind.bits, IntKind.signed] at this
      omega
    refine ⟨some a, len, cap, (zs.take len).map Int.toNat, hcs, Nat.le_trans hl hm, fun i => ?_, ?_, hl, fun hn => ?_⟩
    · by_cases hi : i < (zs.take len).length
      · have : (zs.take len)[i] ∈ zs := List.mem_of_mem_take (List.getElem_mem hi)
        have := hr _ this
        simp only [List.getD, List.getElem?_map, List.getElem?_eq_getElem hi, Option.map_some, Option.getD_some]
        omega
      · simp only [List.getD, List.getElem?_map, List.getElem?_eq_none (Nat.not_lt.1 hi)]
        simp
    · rw [bys_length]; simp; omega
    · have h0 := hcell 0 (by omega)
      obtain ⟨b, off, spot⟩ := a
      have hspot : spot = none := by simpa [Addr.add] using World.cell?_spot h0
      subst hspot
      refine ⟨b, off, rfl, Nat.zero_le _, World.block_lt_of_cell? w _ h0, World.block_lt_of_cell? w _ h0, fun i hi => ?_, fun h => by cases h⟩
      have hi2 : i < zs.length := by omega
      have := hr zs[i] (List.getElem_mem hi2)
      rw [← addr_add, hcell i (by omega)]
      simp [bys, List.getD, show i < len by omega, hi2]
      omega

/-- The source of draws: its code and how many have been drawn. -/
def SrcAt (w : World) (g p : Nat) (ac : Option Addr) (nc cc : Nat) : Prop := w.heap[g]? = some (.cells #[.slice ac nc cc, .int .i64 p] 147 (0, 0))

theorem SrcAt.step {w : World} {g p : Nat} {ac : Option Addr} {nc cc : Nat} (h : SrcAt w g p ac nc cc) : SrcAt (w.setCell ⟨g, 1, none⟩ (.int .i64 ((p + 1 : Nat) : Int))) g (p + 1) ac nc cc := by
  have := heap_setCell_same w g 1 _ _ (.int .i64 ((p + 1 : Nat) : Int)) h
  unfold SrcAt
  simpa using this
theorem SrcAt.kept {w w' : World} {g p : Nat} {ac : Option Addr} {nc cc : Nat} (h : SrcAt w g p ac nc cc) {l u : Nat} (hk : Kept l u w w') (hd : g < l ∨ u ≤ g) : SrcAt w' g p ac nc cc := by
  unfold SrcAt at h ⊢
  rw [hk.block g (Array.getElem?_eq_some_iff.1 h).1 hd]; exact h
theorem SrcAt.below {w w' : World} {g p : Nat} {ac : Option Addr} {nc cc : Nat} (h : SrcAt w g p ac nc cc) (hb : Below w.heap.size w w') : SrcAt w' g p ac nc cc := h.kept (l := g + 1) (u := g + 1) (Kept.of_below hb) (Or.inl (Nat.lt_succ_self _))
theorem SrcAt.lt {w : World} {g p : Nat} {ac : Option Addr} {nc cc : Nat} (h : SrcAt w g p ac nc cc) : g < w.heap.size := (Array.getElem?_eq_some_iff.1 h).1

set_option maxRecDepth 20000 in
set_option maxHeartbeats 1000000 in
theorem l1Next_any {o : Bool} {lo hi : Nat} (ac : Option Addr) (nc cc : Nat) (bs : List Nat) (g p n : Nat) (w : World) (hs : SrcAt w g p ac nc cc) (hr : RowAt w o lo hi 1 ac nc cc (bys bs)) (hb : ∀ i, bs.getD i 0 < 256) (hd : hi ≤ g ∨ g < lo) (hp : p ≤ 100000) (hn0 : 0 < n) (hn : n ≤ 200) (hc : nc ≤ 1048576) :
    Calls Try.prog 110 #[.pointer (some ⟨g, 0, none⟩), .int .i64 n] w fun e w' => ∃ v : Nat, v < n ∧ e = .returned (.int .i64 v) ∧ SrcAt w' g (p + 1) ac nc cc ∧ Kept g (g + 1) w w' ∧ w'.heap.size = w.heap.size := by
  have hN := hs.step
  unfold SrcAt at hs
  have K : Kept g (g + 1) w (w.setCell ⟨g, 1, none⟩ (.int .i64 ((p + 1 : Nat) : Int))) := Kept.setCell (p := ⟨g, 1, none⟩) (Kept.refl _ _ _) (Nat.le_refl _) (Nat.lt_succ_self _) _
  have hsz : (w.setCell ⟨g, 1, none⟩ (.int .i64 ((p + 1 : Nat) : Int))).heap.size = w.heap.size := by simp
  have HN : Hid (SrcAt _ g (p + 1) ac nc cc ∧ Kept g (g + 1) w _ ∧ _) := ⟨hN, K, hsz⟩
  clear hN hsz
  have c0 : w.cell? ⟨g, 0, none⟩ = some (.slice ac nc cc) := by rw [cell_of_row w _ 0 _ _ _ hs]; rfl
  have c1 : w.cell? ⟨g, 1, none⟩ = some (.int .i64 p) := by rw [cell_of_row w _ 1 _ _ _ hs]; rfl
  have f1 : w.frozen? ⟨g, 1, none⟩ = false := frozen_of_row w _ 1 _ _ hs
  have hx := hr.nBytes
  have hlt : ¬ ((n : Int) < 1) := by omega
  by_cases h0 : nc = 0
  · subst h0
    go_enter Try.func110, Try.ntmps110
    go_wp2
    go_ret
    have hm : 0 ≤ (p : Int) * 7 % n ∧ (p : Int) * 7 % n < n := ⟨Int.emod_nonneg _ (by omega), Int.emod_lt_of_pos _ (by omega)⟩
    exact ⟨((p : Int) * 7 % n).toNat, by omega, ret_int (Int.toNat_of_nonneg hm.1).symm, HN.out⟩
  · have hr2 := hr.kept K (by omega)
    obtain ⟨m, hm⟩ : ∃ m, p % nc = m := ⟨_, rfl⟩
    obtain ⟨q, hq⟩ : ∃ q, p / nc = q := ⟨_, rfl⟩
    have hm' : (p : Int) % (nc : Int) = (m : Int) := by rw [← hm]; rfl
    have hq' : (p : Int) / (nc : Int) = (q : Int) := by rw [← hq]; rfl
    have hk : m < nc := by rw [← hm]; exact Nat.mod_lt _ (by omega)
    have hq2 : q ≤ p := by rw [← hq]; exact Nat.div_le_self _ _
    obtain ⟨b, off, rfl, _, _, _, e1⟩ := hr2.byte hk
    obtain ⟨v, hv⟩ : ∃ v, bs.getD m 0 = v := ⟨_, rfl⟩
    have hv2 := hb m
    rw [hv] at e1 hv2
    have t0 : 0 ≤ (p : Int) % (nc : Int) := by omega
    have t1 : ¬ ((p : Int) % (nc : Int) < 0) := by omega
    have t2 : (p : Int) % (nc : Int) < nc := by omega
    have t5 : p % nc < nc := by omega
    have t6 : ((p % nc : Nat) : Int) < nc := by omega
    have t7 : (p : Int).tmod (nc : Int) = (m : Int) := by rw [Int.tmod_eq_emod_of_nonneg (by omega)]; exact hm'
    have t8 : (p : Int).tdiv (nc : Int) = (q : Int) := by rw [Int.tdiv_eq_ediv_of_nonneg (by omega)]; exact hq'
    have hk2 : (m : Int) < nc := by omega
    go_enter Try.func110, Try.ntmps110
    go_wp2
    have d0 : (w.setCell ⟨g, 1, none⟩ (.int .i64 ((p + 1 : Nat) : Int))).cell? ⟨g, 0, none⟩ = some (.slice (some ⟨b, off, none⟩) nc cc) := by
      rw [World.cell?_setCell_other _ _ _ _ (by intro e; simp at e)]; exact c0
    go_region_held3 (fun w' => w'.cell? ⟨g, 0, none⟩ = some (.slice (some ⟨b, off, none⟩) nc cc) ∧ w'.cell? ⟨b, off + m, none⟩ = some (.int .u8 v)) (exact ⟨d0, e1⟩) (fail)
    go_wp2
    go_ret
    have hm : 0 ≤ ((v : Int) + q * 37) % n ∧ ((v : Int) + q * 37) % n < n := ⟨Int.emod_nonneg _ (by omega), Int.emod_lt_of_pos _ (by omega)⟩
    exact ⟨(((v : Int) + q * 37) % n).toNat, by omega, ret_int (Int.toNat_of_nonneg hm.1).symm, HN.out.1, ⟨HN.out.2.1.os, HN.out.2.1.tape, HN.out.2.1.output, HN.out.2.1.size, HN.out.2.1.block⟩, HN.out.2.2⟩

end Go.Proofs.Ytikplcpgocgogaa

/- Draws: the source, a chance, a pick, a new disk. -/
namespace Go.Proofs.Ytikplcpgocgogaa
open Go.RowKit

theorem l1Source_any (ac : Option Addr) (nc cc : Nat) (w : World) :
    Calls Try.prog 40 #[.slice ac nc cc] w fun e w' => e = .returned (.pointer (some ⟨w.heap.size, 0, none⟩)) ∧ SrcAt w' w.heap.size 0 ac nc cc ∧ Below w.heap.size w w' ∧ w'.heap.size = w.heap.size + 1 := by
  go_enter Try.func40, Try.ntmps40
  go_wp2
  go_ret
  exact ⟨rfl, heap_alloc_new _ _, (Below.refl _ _).alloc (Nat.le_refl _) _, by simp⟩

theorem l1Chance_any {o : Bool} {lo hi : Nat} (ac : Option Addr) (nc cc : Nat) (bs : List Nat) (g p n : Nat) (w : World) (hs : SrcAt w g p ac nc cc) (hr : RowAt w o lo hi 1 ac nc cc (bys bs)) (hb : ∀ i, bs.getD i 0 < 256) (hd : hi ≤ g ∨ g < lo) (hp : p ≤ 100000) (hn0 : 0 < n) (hn : n ≤ 200) (hc : nc ≤ 1048576) :
    Calls Try.prog 42 #[.pointer (some ⟨g, 0, none⟩), .int .i64 n] w fun e w' => ∃ b : Bool, e = .returned (.bool b) ∧ SrcAt w' g (p + 1) ac nc cc ∧ Kept g (g + 1) w w' ∧ w'.heap.size = w.heap.size := by
  go_enter Try.func42, Try.ntmps42
  go_wp2_with fail
  refine (l1Next_any ac nc cc bs g p n w hs hr hb hd hp hn0 hn hc).mono ?_
  rintro e w1 ⟨v, _, rfl, h1, h2, h3⟩
  go_wp2
  go_ret
  exact ⟨_, rfl, h1, h2, h3⟩

set_option maxHeartbeats 400000 in
theorem l1Pick_any {o : Bool} {lo hi : Nat} (ac : Option Addr) (nc cc : Nat) (bs : List Nat) (g p n : Nat) (w : World) (hs : SrcAt w g p ac nc cc) (hr : RowAt w o lo hi 1 ac nc cc (bys bs)) (hb : ∀ i, bs.getD i 0 < 256) (hd : hi ≤ g ∨ g < lo) (hp : p ≤ 100000) (hn0 : 0 < n) (hn : n ≤ 200) (hc : nc ≤ 1048576)
    {o2 : Bool} {l2 u2 : Nat} (al : Option Addr) (cl : Nat) (zs : List Int) (hl : RowAt w o2 l2 u2 1 al n cl (ints zs)) (hd2 : u2 ≤ g ∨ g < l2) :
    Calls Try.prog 111 #[.pointer (some ⟨g, 0, none⟩), .slice al n cl] w fun e w' => ∃ v : Int, e = .returned (.int .i64 v) ∧ SrcAt w' g (p + 1) ac nc cc ∧ Kept g (g + 1) w w' ∧ w'.heap.size = w.heap.size := by
  go_enter Try.func111, Try.ntmps111
  go_wp2_with fail
  refine (l1Next_any ac nc cc bs g p n w hs hr hb hd hp hn0 hn hc).mono ?_
  rintro e w1 ⟨v, hv, rfl, h1, h2, h3⟩
  obtain ⟨b, off, rfl, _, _, _, c1, _⟩ := (hl.kept h2 (by omega)).int hv
  have hv2 : (v : Int) < n := by omega
  go_wp2
  go_ret
  exact ⟨_, rfl, h1, h2, h3⟩

end Go.Proofs.Ytikplcpgocgogaa
