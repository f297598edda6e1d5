/- What the library's slices.Grow (of a nil slice) and slices.Concat (of any number of slices) answer, for words and for puts. -/
import Derived.Test.YtkpbmffklcgecaaPutG
import Derived.Test.YtkpbmffklcgecaaJ2
namespace Go.Proofs.Ytkpbmffklcgecaa
open Go.RowKit

structure Piece where
  a : Option Addr
  n : Nat
  c : Nat
  cs : List Value
def Piece.val (p : Piece) : Value := .slice p.a p.n p.c
def totOf (L : List Piece) (k : Nat) : Nat := ((L.take k).map Piece.n).sum
def gotOf (L : List Piece) (k : Nat) : List Value := (L.take k).flatMap Piece.cs
theorem totOf_succ {L : List Piece} {k : Nat} {p : Piece} (h : L[k]? = some p) : totOf L (k + 1) = totOf L k + p.n := by
  unfold totOf; rw [List.take_add_one, h]; simp
theorem gotOf_succ {L : List Piece} {k : Nat} {p : Piece} (h : L[k]? = some p) : gotOf L (k + 1) = gotOf L k ++ p.cs := by
  unfold gotOf; rw [List.take_add_one, h]; simp
theorem totOf_step (L : List Piece) (k : Nat) : totOf L k ≤ totOf L (k + 1) := by
  unfold totOf; rw [List.take_add_one]; simp
theorem totOf_mono (L : List Piece) {j k : Nat} (h : j ≤ k) : totOf L j ≤ totOf L k := by
  induction h with
  | refl => exact Nat.le_refl _
  | step _ ih => exact Nat.le_trans ih (totOf_step L _)

set_option maxRecDepth 20000 in
set_option maxHeartbeats 1000000 in
theorem growI (n : Nat) (w : World) (h0 : 0 < n) (hn : n ≤ 1048577) :
    Calls Try.prog 118 #[.slice none 0 0, .int .i64 n] w fun e w' => ∃ v, e = .returned v ∧ w'.ownsRow w.heap.size 2 1 v 0 [] ∧ Below w.heap.size w w' := by
  obtain ⟨j0, hj0, hy0, hy1, hy2⟩ := info_parts Try.info2'
  have hrz : ∀ ty, (Builtin.append_ #[24, 3] ty #[.slice none 0 0, .int .i64 n]).run Try.prog w = _ := fun ty => Lib.run_append_nil_zeros (P := Try.prog) w 24 3 ty 2 j0 _ .i64 .i64 Try.underlying24 Try.underlying3 hj0 hy0 n h0 (by omega) (by omega) (by rw [hy2]; omega)
  obtain ⟨G, hG⟩ : ∃ G, G = grownCap w n 0 2 := ⟨_, rfl⟩
  have hGn : n ≤ G := by rw [hG]; exact grownCap_ge w _ _ _
  have hGm : G ≤ maxLen := by rw [hG]; exact grownCap_le_maxLen w n 0 _ (by unfold maxLen; omega)
  rw [← hG] at hrz
  obtain ⟨W1, hW1⟩ : ∃ W1, W1 = w.drew.alloc (.cells (Builtin.zeroCells (Value.cells (.int .i64 0)) n ++ Builtin.zeroCells (Value.cells (.int .i64 0)) (G - n)) 2) := ⟨_, rfl⟩
  rw [← hW1] at hrz
  have HO : Hid (W1.ownsRow w.heap.size 2 1 (.slice (some ⟨w.heap.size, 0, none⟩) 0 G) 0 []) := by
    rw [hW1]
    refine ⟨by simp, Or.inr ⟨w.heap.size, G, _, rfl, Nat.le_refl _, heap_alloc_new w.drew _, Nat.zero_le _, hGm, ?_, by simp⟩⟩
    rw [Array.size_append, size_zeroCells, size_zeroCells]
    show n * 1 + (G - n) * 1 = G * 1
    omega
  have HB : Hid (Below w.heap.size w W1) := by rw [hW1]; exact (Below.refl _ _).drew.alloc (Nat.le_refl _) _
  have HR : Hid _ := hrz
  clear hG hW1 hrz
  have hG63 := hGm
  unfold maxLen at hG63
  have t1 : ¬ ((n : Int) < 0) := by omega
  have t2 : (0 : Int) < n := by omega
  go_enter Try.func118, Try.ntmps118
  go_wp2_with (first | (at_builtin; (with_reducible refine append_run 24 3 _ _ _ _ HR.out ?_ ?_ ?_); rfl; rfl))
  go_ret
  exact ⟨_, rfl, HO.out, HB.out⟩

set_option maxRecDepth 20000 in
set_option maxHeartbeats 2000000 in
theorem concatI {o : Bool} {l u : Nat} (ad : Addr) (m : Nat) (L : List Piece) (w : World) (hm : L.length = m) (hm0 : 0 < m) (hm9 : m ≤ 1000) (ha : RowAt w o l u 1 (some ad) m m (L.map Piece.val)) (hR : ∀ p ∈ L, ∃ o l u, RowAt w o l u 1 p.a p.n p.c p.cs) (h1 : ∀ p ∈ L, ∀ x ∈ p.cs, x.oneCell' = true)
    (hN : 0 < totOf L m) (hB : totOf L m ≤ 1048577) :
    Calls Try.prog 117 #[.slice (some ad) m m] w fun e w' => ∃ ao cap, e = .returned (.slice ao (totOf L m) cap) ∧ RowAt w' true w.heap.size w'.heap.size 1 ao (totOf L m) cap (gotOf L m) ∧ Below w.heap.size w w' := by
  obtain ⟨j0, hj0, hy0, hy1, hy2⟩ := info_parts Try.info2'
  obtain ⟨bA, fA, e, _, _, _, hcA, _⟩ := ha.cells (by omega)
  injection e with e
  subst e
  have hmono : ∀ k, k ≤ m → totOf L k ≤ 1048577 := fun k hk => Nat.le_trans (totOf_mono L hk) hB
  go_enter Try.func117, Try.ntmps117
  go_wp2
  go_loop [3, 11] (fun s i => ∃ k : Nat, k ≤ m ∧ i = .int .i64 k ∧ s = .int .i64 (totOf L k : Nat)) (fun _ i => m - (intOf i).toNat)
  case atStart => exact ⟨0, Nat.zero_le _, rfl, rfl⟩
  case round =>
    obtain ⟨k, hk, rfl, rfl⟩ := hrel
    by_cases hlt : k < m
    · have hlk : (k : Int) < m := by omega
      obtain ⟨p, hp⟩ : ∃ p, L[k]? = some p := ⟨L[k]'(by omega), List.getElem?_eq_getElem _⟩
      have hcell : w.cell? ⟨bA, fA + k, none⟩ = some (.slice p.a p.n p.c) := by rw [hcA k (by omega)]; simp [List.getD, hp, Piece.val]
      have hs := totOf_succ hp
      have hs2 := hmono (k + 1) hlt
      have hk2 := hmono k hk
      have HS : Hid _ := hs
      generalize totOf L k = T0 at *
      have hsum : totOf L (k + 1) = T0 + p.n := hs
      rw [hsum] at hs2
      have ht : ¬ ((T0 : Int) + p.n < 0) := by omega
      have q9 : IntKind.i64.wrap ((T0 : Int) + p.n) = (T0 : Int) + p.n := wrapI_same _ (by omega)
      clear hcA hs hmono hsum
      go_wp2
      go_round
      case rel => exact ⟨k + 1, by omega, by go_num, by rw [HS.out]; go_num⟩
      case measure => simp [intOf]; omega
    · obtain rfl : k = m := by omega
      go_wp2_with fail
      refine (growI (totOf L k) _ hN hB).mono ?_
      rintro e w1 ⟨v, rfl, hown, hb1⟩
      go_wp2
      go_loopw [6, 27] (fun v i wr => ∃ j : Nat, j ≤ k ∧ i = .int .i64 j ∧ wr.ownsRow w.heap.size 2 1 v (totOf L j) (gotOf L j) ∧ Below w.heap.size w wr) (fun _ i _ => k - (intOf i).toNat)
      case atStart => exact ⟨0, Nat.zero_le _, rfl, hown, hb1⟩
      case round =>
        obtain ⟨j, hj, rfl, hown, hb⟩ := hrel
        have hB2 := hb.size
        by_cases hlt : j < k
        · have hlk : (j : Int) < k := by omega
          obtain ⟨⟨a1, n1, c1, cs⟩, hp⟩ : ∃ p, L[j]? = some p := ⟨L[j]'(by omega), List.getElem?_eq_getElem _⟩
          have hcell : wr.cell? ⟨bA, fA + j, none⟩ = some (.slice a1 n1 c1) := cell_later_of hb (by rw [hcA j (by omega)]; simp [List.getD, hp, Piece.val])
          obtain ⟨o1, l1, u1, r1⟩ := hR _ (List.mem_of_getElem? hp)
          have hr := r1.below hb
          have ho1 := h1 _ (List.mem_of_getElem? hp)
          have hs := totOf_succ hp
          have hg := gotOf_succ hp
          have hs2 := hmono (j + 1) hlt
          have HO : Hid _ := hown
          rw [hs] at hs2
          have hs3 : totOf L j + n1 ≤ 1048577 := hs2
          simp only at hr ho1 hs hg
          clear hcA hR h1 r1 hs2 hmono ha
          cases a1 with
          | none =>
            have hn1 : n1 = 0 := by
              by_cases hz : n1 = 0
              · exact hz
              · obtain ⟨_, _, e, _⟩ := hr.cells hz; cases e
            subst hn1
            have hR' : Hid (∀ ty, (Builtin.append_ #[24, 24] ty #[_, .slice none 0 c1]).run Try.prog wr = _) := fun ty => run_append_none 24 ty j0 Try.underlying24 hj0 hown c1
            have hcs : cs = [] := List.eq_nil_of_length_eq_zero (by have := hr.len; omega)
            subst hcs
            have e1 : totOf L j = totOf L (j + 1) := by rw [hs, Nat.add_zero]
            have e2 : gotOf L j = gotOf L (j + 1) := by rw [hg, List.append_nil]
            have HO2 := hown
            rw [e1, e2] at HO2
            have HO2 : Hid _ := HO2
            clear hown hr hs hg HO e1 e2
            go_wp2_with (first | (at_builtin; (with_reducible refine append_run 24 24 _ _ _ _ hR'.out ?_ ?_ ?_); rfl; rfl))
            go_roundw
            case rel => first | exact ⟨j + 1, by omega, by go_num, HO2.out, hb⟩ | ((repeat apply Exists.intro); exact ⟨⟨j + 1, by omega, by go_num, HO2.out, hb⟩, rfl⟩)
            case measure => simp [intOf]; omega
          | some ad =>
            go_wp2_with (first | (at_builtin; refine wpList_append_own _ rfl _ _ 24 rfl w.heap.size 2 j0 (.int .i64 0) 1 8 Try.underlying24 hj0 hy0 hy1 hy2 rfl (by decide) _ _ _ rfl HO.out ad n1 c1 cs rfl hr.len ?d1 ho1 ?d3 ?d4 ?d5 ?_))
            case d1 =>
              intro i u hi
              have hi' := (List.getElem?_eq_some_iff.1 hi).1
              have hl' := hr.len
              have hz : n1 ≠ 0 := by rintro rfl; simp at hl'; simp [hl'] at hi'
              obtain ⟨b, off, e, _, _, _, hc, _⟩ := hr.cells hz
              cases e
              rw [show (⟨b, off, none⟩ : Addr).add i = ⟨b, off + i, none⟩ by simp [Addr.add], hc i (by omega)]
              simp [List.getD, hi]
            case d3 => unfold maxLen; omega
            case d4 => omega
            case d5 => exact hB2
            intro v' w2 hown' hgrow _
            have hb2 : Below w.heap.size w w2 := hb.grown hgrow hB2 (fun g hg => (World.ownsRow.lt HO.out g hg).1)
            have hown2 : w2.ownsRow w.heap.size 2 1 v' (totOf L (j + 1)) (gotOf L (j + 1)) := by rw [hs, hg]; exact hown'
            clear hown' hgrow hown hb hr hs hg
            go_wp2
            go_roundw
            case rel => exact ⟨j + 1, by omega, by go_num, hown2, hb2⟩
            case measure => simp [intOf]; omega
        · obtain rfl : j = k := by omega
          obtain ⟨ao, cap, rfl, R⟩ := RowAt.of_owned hown
          clear hown hcA
          go_wp2
          go_ret
          exact ⟨_, _, rfl, R, hb⟩

set_option maxRecDepth 20000 in
set_option maxHeartbeats 1000000 in
theorem growP (n : Nat) (w : World) (h0 : 0 < n) (hn : n ≤ 1048577) :
    Calls Try.prog 110 #[.slice none 0 0, .int .i64 n] w fun e w' => ∃ v, e = .returned v ∧ w'.ownsRow w.heap.size 41 2 v 0 [] ∧ Below w.heap.size w w' := by
  obtain ⟨j0, hj0, hy0, hy1, hy2⟩ := info_parts Try.infoPut
  have hrz : ∀ ty, (Builtin.append_ #[25, 3] ty #[.slice none 0 0, .int .i64 n]).run Try.prog w = _ := fun ty => Lib.run_append_nil_zeros (P := Try.prog) w 25 3 ty 41 j0 _ .i64 .i64 Try.underlying25 Try.underlying3 hj0 hy0 n h0 (by omega) (by omega) (by rw [hy2]; omega)
  obtain ⟨G, hG⟩ : ∃ G, G = grownCap w n 0 41 := ⟨_, rfl⟩
  have hGn : n ≤ G := by rw [hG]; exact grownCap_ge w _ _ _
  have hGm : G ≤ maxLen := by rw [hG]; exact grownCap_le_maxLen w n 0 _ (by unfold maxLen; omega)
  rw [← hG] at hrz
  obtain ⟨W1, hW1⟩ : ∃ W1, W1 = w.drew.alloc (.cells (Builtin.zeroCells (Value.cells (.agg #[.int .i64 0, .int .i64 0])) n ++ Builtin.zeroCells (Value.cells (.agg #[.int .i64 0, .int .i64 0])) (G - n)) 41) := ⟨_, rfl⟩
  rw [← hW1] at hrz
  have HO : Hid (W1.ownsRow w.heap.size 41 2 (.slice (some ⟨w.heap.size, 0, none⟩) 0 G) 0 []) := by
    rw [hW1]
    refine ⟨by simp, Or.inr ⟨w.heap.size, G, _, rfl, Nat.le_refl _, heap_alloc_new w.drew _, Nat.zero_le _, hGm, ?_, by simp⟩⟩
    rw [Array.size_append, size_zeroCells, size_zeroCells]
    show n * 2 + (G - n) * 2 = G * 2
    omega
  have HB : Hid (Below w.heap.size w W1) := by rw [hW1]; exact (Below.refl _ _).drew.alloc (Nat.le_refl _) _
  have HR : Hid _ := hrz
  clear hG hW1 hrz
  have hG63 := hGm
  unfold maxLen at hG63
  have t1 : ¬ ((n : Int) < 0) := by omega
  have t2 : (0 : Int) < n := by omega
  go_enter Try.func110, Try.ntmps110
  go_wp2_with (first | (at_builtin; (with_reducible refine append_run 25 3 _ _ _ _ HR.out ?_ ?_ ?_); rfl; rfl))
  go_ret
  exact ⟨_, rfl, HO.out, HB.out⟩

set_option maxRecDepth 20000 in
set_option maxHeartbeats 2000000 in
theorem concatP {o : Bool} {l u : Nat} (ad : Addr) (m : Nat) (L : List Piece) (w : World) (hm : L.length = m) (hm0 : 0 < m) (hm9 : m ≤ 1000) (ha : RowAt w o l u 1 (some ad) m m (L.map Piece.val)) (hR : ∀ p ∈ L, ∃ o l u, RowAt w o l u 2 p.a p.n p.c p.cs) (h1 : ∀ p ∈ L, ∀ x ∈ p.cs, x.oneCell' = true)
    (hN : 0 < totOf L m) (hB : totOf L m ≤ 1048577) :
    Calls Try.prog 81 #[.slice (some ad) m m] w fun e w' => ∃ ao cap, e = .returned (.slice ao (totOf L m) cap) ∧ RowAt w' true w.heap.size w'.heap.size 2 ao (totOf L m) cap (gotOf L m) ∧ Below w.heap.size w w' := by
  obtain ⟨j0, hj0, hy0, hy1, hy2⟩ := info_parts Try.infoPut
  obtain ⟨bA, fA, e, _, _, _, hcA, _⟩ := ha.cells (by omega)
  injection e with e
  subst e
  have hmono : ∀ k, k ≤ m → totOf L k ≤ 1048577 := fun k hk => Nat.le_trans (totOf_mono L hk) hB
  go_enter Try.func81, Try.ntmps81
  go_wp2
  go_loop [3, 11] (fun s i => ∃ k : Nat, k ≤ m ∧ i = .int .i64 k ∧ s = .int .i64 (totOf L k : Nat)) (fun _ i => m - (intOf i).toNat)
  case atStart => exact ⟨0, Nat.zero_le _, rfl, rfl⟩
  case round =>
    obtain ⟨k, hk, rfl, rfl⟩ := hrel
    by_cases hlt : k < m
    · have hlk : (k : Int) < m := by omega
      obtain ⟨p, hp⟩ : ∃ p, L[k]? = some p := ⟨L[k]'(by omega), List.getElem?_eq_getElem _⟩
      have hcell : w.cell? ⟨bA, fA + k, none⟩ = some (.slice p.a p.n p.c) := by rw [hcA k (by omega)]; simp [List.getD, hp, Piece.val]
      have hs := totOf_succ hp
      have hs2 := hmono (k + 1) hlt
      have hk2 := hmono k hk
      have HS : Hid _ := hs
      generalize totOf L k = T0 at *
      have hsum : totOf L (k + 1) = T0 + p.n := hs
      rw [hsum] at hs2
      have ht : ¬ ((T0 : Int) + p.n < 0) := by omega
      have q9 : IntKind.i64.wrap ((T0 : Int) + p.n) = (T0 : Int) + p.n := wrapI_same _ (by omega)
      clear hcA hs hmono hsum
      go_wp2
      go_round
      case rel => exact ⟨k + 1, by omega, by go_num, by rw [HS.out]; go_num⟩
      case measure => simp [intOf]; omega
    · obtain rfl : k = m := by omega
      go_wp2_with fail
      refine (growP (totOf L k) _ hN hB).mono ?_
      rintro e w1 ⟨v, rfl, hown, hb1⟩
      go_wp2
      go_loopw [6, 27] (fun v i wr => ∃ j : Nat, j ≤ k ∧ i = .int .i64 j ∧ wr.ownsRow w.heap.size 41 2 v (totOf L j) (gotOf L j) ∧ Below w.heap.size w wr) (fun _ i _ => k - (intOf i).toNat)
      case atStart => exact ⟨0, Nat.zero_le _, rfl, hown, hb1⟩
      case round =>
        obtain ⟨j, hj, rfl, hown, hb⟩ := hrel
        have hB2 := hb.size
        by_cases hlt : j < k
        · have hlk : (j : Int) < k := by omega
          obtain ⟨⟨a1, n1, c1, cs⟩, hp⟩ : ∃ p, L[j]? = some p := ⟨L[j]'(by omega), List.getElem?_eq_getElem _⟩
          have hcell : wr.cell? ⟨bA, fA + j, none⟩ = some (.slice a1 n1 c1) := cell_later_of hb (by rw [hcA j (by omega)]; simp [List.getD, hp, Piece.val])
          obtain ⟨o1, l1, u1, r1⟩ := hR _ (List.mem_of_getElem? hp)
          have hr := r1.below hb
          have ho1 := h1 _ (List.mem_of_getElem? hp)
          have hs := totOf_succ hp
          have hg := gotOf_succ hp
          have hs2 := hmono (j + 1) hlt
          have HO : Hid _ := hown
          rw [hs] at hs2
          have hs3 : totOf L j + n1 ≤ 1048577 := hs2
          simp only at hr ho1 hs hg
          clear hcA hR h1 r1 hs2 hmono ha
          cases a1 with
          | none =>
            have hn1 : n1 = 0 := by
              by_cases hz : n1 = 0
              · exact hz
              · obtain ⟨_, _, e, _⟩ := hr.cells hz; cases e
            subst hn1
            have hR' : Hid (∀ ty, (Builtin.append_ #[25, 25] ty #[_, .slice none 0 c1]).run Try.prog wr = _) := fun ty => run_append_none 25 ty j0 Try.underlying25 hj0 hown c1
            have hcs : cs = [] := List.eq_nil_of_length_eq_zero (by have := hr.len; omega)
            subst hcs
            have e1 : totOf L j = totOf L (j + 1) := by rw [hs, Nat.add_zero]
            have e2 : gotOf L j = gotOf L (j + 1) := by rw [hg, List.append_nil]
            have HO2 := hown
            rw [e1, e2] at HO2
            have HO2 : Hid _ := HO2
            clear hown hr hs hg HO e1 e2
            go_wp2_with (first | (at_builtin; (with_reducible refine append_run 25 25 _ _ _ _ hR'.out ?_ ?_ ?_); rfl; rfl))
            go_roundw
            case rel => first | exact ⟨j + 1, by omega, by go_num, HO2.out, hb⟩ | ((repeat apply Exists.intro); exact ⟨⟨j + 1, by omega, by go_num, HO2.out, hb⟩, rfl⟩)
            case measure => simp [intOf]; omega
          | some ad =>
            go_wp2_with (first | (at_builtin; refine wpList_append_own _ rfl _ _ 25 rfl w.heap.size 41 j0 (.agg #[.int .i64 0, .int .i64 0]) 2 16 Try.underlying25 hj0 hy0 hy1 hy2 rfl (by decide) _ _ _ rfl HO.out ad n1 c1 cs rfl hr.len ?d1 ho1 ?d3 ?d4 ?d5 ?_))
            case d1 =>
              intro i u hi
              have hi' := (List.getElem?_eq_some_iff.1 hi).1
              have hl' := hr.len
              have hz : n1 ≠ 0 := by rintro rfl; simp at hl'; simp [hl'] at hi'
              obtain ⟨b, off, e, _, _, _, hc, _⟩ := hr.cells hz
              cases e
              rw [show (⟨b, off, none⟩ : Addr).add i = ⟨b, off + i, none⟩ by simp [Addr.add], hc i (by omega)]
              simp [List.getD, hi]
            case d3 => unfold maxLen; omega
            case d4 => omega
            case d5 => exact hB2
            intro v' w2 hown' hgrow _
            have hb2 : Below w.heap.size w w2 := hb.grown hgrow hB2 (fun g hg => (World.ownsRow.lt HO.out g hg).1)
            have hown2 : w2.ownsRow w.heap.size 41 2 v' (totOf L (j + 1)) (gotOf L (j + 1)) := by rw [hs, hg]; exact hown'
            clear hown' hgrow hown hb hr hs hg
            go_wp2
            go_roundw
            case rel => exact ⟨j + 1, by omega, by go_num, hown2, hb2⟩
            case measure => simp [intOf]; omega
        · obtain rfl : j = k := by omega
          obtain ⟨ao, cap, rfl, R⟩ := RowAt.of_owned hown
          clear hown hcA
          go_wp2
          go_ret
          exact ⟨_, _, rfl, R, hb⟩

end Go.Proofs.Ytkpbmffklcgecaa
