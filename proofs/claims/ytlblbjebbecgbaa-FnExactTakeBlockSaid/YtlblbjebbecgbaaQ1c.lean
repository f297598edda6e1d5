/- Chapter 3: the program's blocks as numbers, and the first free one. -/
import Derived.Test.YtlblbjebbecgbaaQ1b
namespace Go.Proofs.Ytlblbjebbecgbaa
open Go.RowKit

theorem RowAt.one {w : World} {own : Bool} {lo hi : Nat} {ao : Option Addr} {n cap : Nat} {cs : List Value} (h : RowAt w own lo hi 1 ao n cap cs) {k : Nat} (hk : k < n) :
    ∃ b off, ao = some ⟨b, off, none⟩ ∧ lo ≤ b ∧ b < hi ∧ b < w.heap.size ∧ w.cell? ⟨b, off + k, none⟩ = some (cs.getD k default) ∧ (own = true → w.frozen? ⟨b, off + k, none⟩ = false) := by
  obtain ⟨b, off, rfl, g1, g2, g3, g4, g5⟩ := h.cells (by omega)
  exact ⟨b, off, rfl, g1, g2, g3, g4 k (by omega), fun ho => g5 ho k (by omega)⟩
theorem RowAt.nNums {w : World} {own : Bool} {lo hi : Nat} {ao : Option Addr} {n cap : Nat} {bs : List (Int × Int)} (h : RowAt w own lo hi 1 ao n cap (nums bs)) : bs.length = n := by
  have hl := h.len; rw [nums_len, Nat.mul_one] at hl; exact hl
theorem cop_mid (cs : List Value) (z : Value) (m : Nat) (h : m < cs.length) : (cop cs z m).getD m default = z := by
  simp [List.getD, cop_get cs z m m (Nat.le_refl _) h]
theorem made_nums (n : Nat) : (madeCells #[Value.complex .f64 0 0] n).toList = List.replicate n (.complex .f64 0 0) := by
  apply List.ext_getElem?
  intro j
  by_cases hj : j < n
  · simp [madeCells, hj, Nat.mod_one]
  · simp [madeCells, hj]
theorem store_num {w : World} {a : Addr} {v : Value} (hc : w.cell? a = some v) (hf : w.frozen? a = false) (x y : Nat) (m : Mode) : (store a (.complex .f64 x y) m).run Try.prog w = .ok () (w.setCell a (.complex .f64 x y)) := by
  rw [run_store Try.prog w a _ m rfl, hc, hf]; rfl
theorem Try.infoNum : (Try.prog.info? 111).map (fun i => (i.zero, i.size, i.bytes)) = some (some (.complex .f64 0 0), 1, 16) := by kernel_rfl

set_option maxRecDepth 20000 in
set_option maxHeartbeats 2000000 in
theorem numbersOf_any {o : Bool} {l u : Nat} (ao : Option Addr) (n cap : Nat) (bs : List (Int × Int)) (w : World) (h : RowAt w o l u 2 ao n cap (pairs bs)) (hn : n ≤ 24) :
    Calls Try.prog 88 #[.slice ao n cap] w fun e w' => e = .returned (.slice (some ⟨w.heap.size, 0, none⟩) n n) ∧ RowAt w' true w.heap.size (w.heap.size + 1) 1 (some ⟨w.heap.size, 0, none⟩) n n (nums bs) ∧ Below w.heap.size w w' := by
  have hl := h.nPairs
  have hnl := nums_len bs
  obtain ⟨i0, hi0, hz0, hz1, hz2⟩ := info_parts Try.infoNum
  go_enter Try.func88, Try.ntmps88
  go_wp2_with (first | (at_make; refine wpList_make_full _ rfl _ _ 107 rfl w.heap.size 111 i0 (.complex .f64 0 0) 1 Try.underlying107 hi0 hz0 hz1 _ _ _ _ n rfl rfl rfl rfl ?b1 ?b2 ?b3 ?_))
  case b1 => rw [hz2]; omega
  case b2 => unfold maxLen; omega
  case b3 => exact Nat.le_refl _
  intro w1 hown hgrow
  have hb1 : Below w.heap.size w w1 := (Below.refl _ _).grown hgrow (Nat.le_refl _) (fun k hk => by cases hk)
  have R0 : RowAt w1 true w.heap.size (w.heap.size + 1) 1 (some ⟨w.heap.size, 0, none⟩) n n (cop (nums bs) (.complex .f64 0 0) 0) := by
    rw [cop_zero, hnl, hl, ← made_nums]; exact (RowAt.of_owns hown (Nat.le_refl _)).pin
  clear hown hgrow
  go_wp2
  go_loopw [11] (fun i wr => ∃ k : Nat, k ≤ n ∧ i = .int .i64 k ∧ RowAt wr true w.heap.size (w.heap.size + 1) 1 (some ⟨w.heap.size, 0, none⟩) n n (cop (nums bs) (.complex .f64 0 0) k) ∧ Below w.heap.size w wr) (fun i _ => n - (intOf i).toNat)
  case atStart => exact ⟨0, Nat.zero_le _, rfl, R0, hb1⟩
  case round =>
    obtain ⟨k, hk, rfl, R, B⟩ := hrel
    clear R0 hb1
    by_cases hlt : k < n
    · obtain ⟨b, f, rfl, _, _, hbs, e1, e2, _⟩ := h.pair hlt
      replace e1 := (B.cell (p := ⟨b, f + k * 2, none⟩) hbs).trans e1
      replace e2 := (B.cell (p := ⟨b, f + k * 2 + 1, none⟩) hbs).trans e2
      have hlk : (k : Int) < (n : Int) := by omega
      have hg := nums_getD bs k (by omega)
      obtain ⟨⟨x, y⟩, hxy⟩ : ∃ p, bs.getD k (0, 0) = p := ⟨_, rfl⟩
      rw [hxy] at e1 e2 hg
      simp only [numOf] at e1 e2 hg
      have A : Below wr.heap.size wr (wr.alloc (.cells #[.int .i64 x, .int .i64 y] 55)) := (Below.refl _ _).alloc (Nat.le_refl _) _
      have R1 := R.below A
      have B1 := B.trans (A.mono B.size)
      obtain ⟨_, _, e', _, _, _, c0, f0⟩ := R1.one hlt
      cases e'
      replace f0 := f0 rfl
      rw [cop_mid _ _ _ (by omega)] at c0
      have R2 := R1.stored (i := k) (by omega) (.complex .f64 (floatOfInt .f64 x) (floatOfInt .f64 y))
      rw [cop_set (nums bs) _ _ k (by omega) hg] at R2
      have B2 := B1.setCell (p := ⟨w.heap.size, k, none⟩) (Nat.le_refl _) (.complex .f64 (floatOfInt .f64 x) (floatOfInt .f64 y))
      rw [Nat.zero_add] at c0 f0 R2
      have hst := store_num c0 f0
      clear hxy hg R R1 A B B1
      go_wp2_with (simp only [hst])
      go_roundw
      case rel => exact ⟨k + 1, by omega, by go_num, R2, B2⟩
      case measure => simp [intOf]; omega
    · obtain rfl : k = n := by omega
      rw [show cop (nums bs) (.complex .f64 0 0) k = nums bs by rw [← hl, ← hnl, cop_all]] at R
      go_wp2
      go_ret
      exact ⟨rfl, R, B⟩

def Fine (bs : List (Int × Int)) : Prop := ∀ p ∈ bs, Small p ∧ (p.1 = 0 → p.2 = 0)
theorem fine_of {bs : List (Int × Int)} (h : blkGo bs = 0) : Fine bs := fun p hp => by
  obtain ⟨h1, h2, h3, h4, h5⟩ := blkOne_zero (blkGo_all h p hp)
  exact ⟨⟨⟨h1, by omega⟩, h3, by omega⟩, h5⟩
theorem Fine.at {bs : List (Int × Int)} (h : Fine bs) {k : Nat} (hk : k < bs.length) : Small (bs.getD k (0, 0)) ∧ ((bs.getD k (0, 0)).1 = 0 → (bs.getD k (0, 0)).2 = 0) :=
  h _ (by rw [List.getD_eq_getElem?_getD, List.getElem?_eq_getElem hk]; exact List.getElem_mem hk)

set_option maxHeartbeats 1000000 in
theorem index_any {o : Bool} {l u : Nat} (ao : Option Addr) (n cap : Nat) (bs : List (Int × Int)) (w : World) (h : RowAt w o l u 1 ao n cap (nums bs)) (hf : Fine bs) (hn : n ≤ 2097152) :
    Calls Try.prog 89 #[.slice ao n cap, .complex .f64 0 0] w fun e w' => ((∃ k : Nat, freeAt bs = some k ∧ k < n ∧ e = .returned (.int .i64 (k : Int))) ∨ (freeAt bs = none ∧ e = .returned (.int .i64 (-1)))) ∧ w' = w := by
  have hl := h.nNums
  go_enter Try.func89, Try.ntmps89
  go_wp2
  go_loop [8] (fun i => ∃ k : Nat, k ≤ n ∧ i = .int .i64 k ∧ ∀ j, j < k → (bs.getD j (0, 0)).1 ≠ 0) (fun i => n - (intOf i).toNat)
  case atStart => exact ⟨0, by omega, rfl, fun j hj => absurd hj (by omega)⟩
  case round =>
    obtain ⟨k, hk, rfl, ha⟩ := hrel
    have HA : Hid _ := ha
    clear ha
    by_cases hlt : k < n
    · obtain ⟨b, f, rfl, _, _, _, e1, _⟩ := h.one hlt
      have hlk : (k : Int) < (n : Int) := by omega
      have HF : Hid _ := freeAt_some bs k (by omega) HA.out
      have HN : Hid ((bs.getD k (0, 0)).1 ≠ 0 → ∀ j, j < k + 1 → (bs.getD j (0, 0)).1 ≠ 0) := fun h0 j hj => by
        by_cases e : j = k
        · subst e; exact h0
        · exact HA.out j (by omega)
      obtain ⟨g1, g2⟩ := hf.at (k := k) (by omega)
      have hq := num_free2 g1 g2
      rw [nums_getD bs k (by omega), numOf] at e1
      obtain ⟨⟨x, y⟩, hxy⟩ : ∃ p, bs.getD k (0, 0) = p := ⟨_, rfl⟩
      rw [hxy] at e1 hq HF HN
      simp only at e1 hq HF HN
      clear hxy g1 g2
      by_cases hz : x = 0
      · rw [decide_eq_true hz] at hq
        have HZ : Hid _ := hz
        clear hz
        go_wp2
        go_ret
        exact ⟨Or.inl ⟨k, HF.out HZ.out, hlt, rfl⟩, rfl⟩
      · rw [decide_eq_false hz] at hq
        have HZ : Hid _ := hz
        clear hz
        go_wp2
        go_round
        case rel => exact ⟨k + 1, by omega, by go_num, HN.out HZ.out⟩
        case measure => simp [intOf]; omega
    · obtain rfl : k = n := by omega
      have HZ : Hid (freeAt bs = none) := freeAt_none bs fun j hj => HA.out j (by omega)
      go_wp2
      go_ret
      exact ⟨Or.inr ⟨HZ.out, rfl⟩, rfl⟩

end Go.Proofs.Ytlblbjebbecgbaa
