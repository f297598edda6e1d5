/- Draws: the source, a chance, a pick, a new disk. -/
import Derived.Test.YtlblbjebbecgbaaDrawA
namespace Go.Proofs.Ytlblbjebbecgbaa
open Go.RowKit

theorem l1Source_any (ac : Option Addr) (nc cc : Nat) (w : World) :
    Calls Try.prog 72 #[.slice ac nc cc] w fun e w' => e = .returned (.pointer (some ⟨w.heap.size, 0, none⟩)) ∧ SrcAt w' w.heap.size 0 ac nc cc ∧ Below w.heap.size w w' ∧ w'.heap.size = w.heap.size + 1 := by
  go_enter Try.func72, Try.ntmps72
  go_wp2
  go_ret
  exact ⟨rfl, heap_alloc_new _ _, (Below.refl _ _).alloc (Nat.le_refl _) _, by simp⟩

theorem l1Chance_any {o : Bool} {lo hi : Nat} (ac : Option Addr) (nc cc : Nat) (bs : List Nat) (g p n : Nat) (w : World) (hs : SrcAt w g p ac nc cc) (hr : RowAt w o lo hi 1 ac nc cc (bys bs)) (hb : ∀ i, bs.getD i 0 < 256) (hd : hi ≤ g ∨ g < lo) (hp : p ≤ 100000) (hn0 : 0 < n) (hn : n ≤ 200) (hc : nc ≤ 1048576) :
    Calls Try.prog 75 #[.pointer (some ⟨g, 0, none⟩), .int .i64 n] w fun e w' => ∃ b : Bool, e = .returned (.bool b) ∧ SrcAt w' g (p + 1) ac nc cc ∧ Kept g (g + 1) w w' ∧ w'.heap.size = w.heap.size := by
  go_enter Try.func75, Try.ntmps75
  go_wp2_with fail
  refine (l1Next_any ac nc cc bs g p n w hs hr hb hd hp hn0 hn hc).mono ?_
  rintro e w1 ⟨v, _, rfl, h1, h2, h3⟩
  go_wp2
  go_ret
  exact ⟨_, rfl, h1, h2, h3⟩

set_option maxHeartbeats 400000 in
theorem l1Pick_any {o : Bool} {lo hi : Nat} (ac : Option Addr) (nc cc : Nat) (bs : List Nat) (g p n : Nat) (w : World) (hs : SrcAt w g p ac nc cc) (hr : RowAt w o lo hi 1 ac nc cc (bys bs)) (hb : ∀ i, bs.getD i 0 < 256) (hd : hi ≤ g ∨ g < lo) (hp : p ≤ 100000) (hn0 : 0 < n) (hn : n ≤ 200) (hc : nc ≤ 1048576)
    {o2 : Bool} {l2 u2 : Nat} (al : Option Addr) (cl : Nat) (zs : List Int) (hl : RowAt w o2 l2 u2 1 al n cl (ints zs)) (hd2 : u2 ≤ g ∨ g < l2) :
    Calls Try.prog 86 #[.pointer (some ⟨g, 0, none⟩), .slice al n cl] w fun e w' => ∃ v : Int, e = .returned (.int .i64 v) ∧ SrcAt w' g (p + 1) ac nc cc ∧ Kept g (g + 1) w w' ∧ w'.heap.size = w.heap.size := by
  go_enter Try.func86, Try.ntmps86
  go_wp2_with fail
  refine (l1Next_any ac nc cc bs g p n w hs hr hb hd hp hn0 hn hc).mono ?_
  rintro e w1 ⟨v, hv, rfl, h1, h2, h3⟩
  obtain ⟨b, off, rfl, _, _, _, c1, _⟩ := (hl.kept h2 (by omega)).int hv
  have hv2 : (v : Int) < n := by omega
  go_wp2
  go_ret
  exact ⟨_, rfl, h1, h2, h3⟩

def zeros64 : List Int := List.replicate 64 0
theorem zeros64_len : zeros64.length = 64 := by unfold zeros64; rw [List.length_replicate]
theorem zeros64_ints : ints zeros64 = List.replicate 64 (Value.int .i64 0) := by unfold ints zeros64; rw [List.map_replicate]

set_option maxRecDepth 20000 in
set_option maxHeartbeats 400000 in
theorem l1New_any (w : World) :
    Calls Try.prog 117 #[] w fun e w' => e = .returned (.agg #[.slice (some ⟨w.heap.size + 1, 0, none⟩) 64 64, .slice none 0 0]) ∧ w'.ownsRow (w.heap.size + 1) 2 1 (.slice (some ⟨w.heap.size + 1, 0, none⟩) 64 64) 64 (ints zeros64) ∧ Below w.heap.size w w' := by
  obtain ⟨i0, hi0, hz0, hz1, hz2⟩ := info_parts Try.info2'
  go_enter Try.func117, Try.ntmps117
  go_wp2_with (first | (at_make; refine wpList_make_full _ rfl _ _ 24 rfl (w.heap.size + 1) 2 i0 (.int .i64 0) 1 Try.underlying24 hi0 hz0 hz1 _ _ _ _ 64 rfl rfl rfl rfl ?b1 ?b2 ?b3 ?_))
  case b1 => rw [hz2]; omega
  case b2 => unfold maxLen; omega
  case b3 => simp
  intro w1 hown hgrow
  have hb1 : Below w.heap.size w w1 := ((Below.refl _ _).alloc (Nat.le_refl _) _).grown hgrow (by simp) (fun k hk => by cases hk)
  have hown0 : w1.ownsRow (w.heap.size + 1) 2 1 (.slice (some ⟨w.heap.size + 1, 0, none⟩) 64 64) 64 (ints zeros64) := by
    rw [zeros64_ints, ← toList_madeCells_one]; exact hown
  have F : w1.heap[w.heap.size]? = some (.cells #[.slice none 0 0, .slice none 0 0] 27 (0, 0)) := by
    rw [hgrow.block _ (by simp) (by simp)]; exact heap_alloc_new _ _
  have z0 : w1.cell? ⟨w.heap.size, 0, none⟩ = some (.slice none 0 0) := by rw [cell_of_row w1 _ 0 _ _ _ F]; rfl
  have z1 : w1.cell? ⟨w.heap.size, 1, none⟩ = some (.slice none 0 0) := by rw [cell_of_row w1 _ 1 _ _ _ F]; rfl
  have y0 : w1.frozen? ⟨w.heap.size, 0, none⟩ = false := frozen_of_row w1 _ 0 _ _ F
  have y1 : w1.frozen? ⟨w.heap.size, 1, none⟩ = false := frozen_of_row w1 _ 1 _ _ F
  have K : Kept w.heap.size (w.heap.size + 1) w1 ((w1.setCell ⟨w.heap.size, 0, none⟩ (.slice (some ⟨w.heap.size + 1, 0, none⟩) 64 64)).setCell ⟨w.heap.size, 1, none⟩ (.slice none 0 0)) := by
    refine Kept.setCell (Kept.setCell (Kept.refl _ _ _) ?_ ?_ _) ?_ ?_ _ <;> simp
  have hown1 := owns_kept hown0 K (fun k hk => by simp [Value.ownBlock] at hk; omega)
  have hb2 : Below w.heap.size w _ := hb1.trans (K.below w.heap.size (Nat.le_refl _) hb1.size)
  have HO : Hid _ := hown1
  have HB : Hid _ := hb2
  clear hown hgrow hown0 F K hown1 hb1 hb2
  go_wp2
  refine bodyPost_ret (v := .agg #[.slice (some ⟨w.heap.size + 1, 0, none⟩) 64 64, .slice none 0 0]) (by simp [results, Try.results117, go_sem, z0, z1]) rfl ⟨rfl, HO.out, HB.out⟩

end Go.Proofs.Ytlblbjebbecgbaa
