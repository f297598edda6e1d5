/- Chapter 2: whether there is room, and the puts of a record: what the program's functions answer. -/
import Derived.Test.YtkpbmffklcgecaaK4
import Derived.Test.YtkpbmffklcgecaaFacts
import Derived.Test.YtkpbmffklcgecaaJ4a
import Derived.Deep.RegionLaw
namespace Go.Proofs.Ytkpbmffklcgecaa
open Go.RowKit

theorem hasRoom_any (d0 : Value) (a1 : Option Addr) (n1 c1 : Nat) (uu : Nat) (a2 : Option Addr) (n2 c2 : Nat) (w : World) (hu : uu ≤ 64) (hn2 : n2 ≤ 8) (x0 : Option Addr) (m0 k0 : Nat) (hd : d0 = .slice x0 m0 k0) (d : Bool) (h : decide (uu + 2 + n2 ≤ 64 ∧ n1 + 3 + n2 ≤ 200) = d) :
    Calls Try.prog 98 #[.agg #[d0, .slice a1 n1 c1], .int .i64 (uu : Int), .slice a2 n2 c2] w fun e w' => e = .returned (.bool d) ∧ Below w.heap.size w w' := by
  subst hd
  subst h
  have A : Below w.heap.size w (w.alloc (.cells #[.slice x0 m0 k0, .slice a1 n1 c1] 27)) := (Below.refl _ _).alloc (Nat.le_refl _) _
  by_cases h1 : uu + 2 + n2 ≤ 64
  · have i1 : (n2 : Int) + 2 ≤ 64 - uu := by omega
    by_cases h2 : n1 + 3 + n2 ≤ 200
    · have i2 : (n1 : Int) ≤ 200 - (n2 + 2) - 1 := by omega
      have e : decide (uu + 2 + n2 ≤ 64 ∧ n1 + 3 + n2 ≤ 200) = true := by simp [h1, h2]
      rw [e]
      go_enter Try.func98, Try.ntmps98
      go_wp2
      go_ret
      exact ⟨rfl, A⟩
    · have i2 : ¬ (n1 : Int) ≤ 200 - (n2 + 2) - 1 := by omega
      have e : decide (uu + 2 + n2 ≤ 64 ∧ n1 + 3 + n2 ≤ 200) = false := by simp [h2]
      rw [e]
      go_enter Try.func98, Try.ntmps98
      go_wp2
      go_ret
      exact ⟨rfl, A⟩
  · have i1 : ¬ (n2 : Int) + 2 ≤ 64 - uu := by omega
    have e : decide (uu + 2 + n2 ≤ 64 ∧ n1 + 3 + n2 ≤ 200) = false := by simp [h1]
    rw [e]
    go_enter Try.func98, Try.ntmps98
    go_wp2
    go_ret
    exact ⟨rfl, A⟩

set_option maxRecDepth 20000 in
set_option maxHeartbeats 2000000 in
theorem recordPuts_is {o : Bool} {l u : Nat} (cd : Int) (uu : Nat) (sa : Option Addr) (sn sc : Nat) (a2 : Option Addr) (n2 c2 : Nat) (ws : List Int) (w : World) (h2 : RowAt w o l u 1 a2 n2 c2 (ints ws)) (hn1 : 1 ≤ n2) (hn2 : n2 ≤ 8) (hfit : uu + 2 + n2 ≤ 64) (aw : List Int) (haw : ((n2 : Int) :: sumOf ((sn : Int) :: ws) :: ws) ++ (if uu + 2 + n2 < 64 then [0] else []) = aw) :
    Calls Try.prog 99 #[.agg #[.int .i64 cd, .int .i64 (uu : Int), .slice sa sn sc], .slice a2 n2 c2] w fun e w' => ∃ ao cap, e = .returned (.slice ao aw.length cap) ∧ RowAt w' true w.heap.size w'.heap.size 2 ao aw.length cap (pairs (puts uu aw)) ∧ Below w.heap.size w w' := by
  have hl2 := h2.nInts
  obtain ⟨j0, hj0, hy0, hy1, hy2⟩ := info_parts Try.infoPut
  have hyj : (Value.agg #[.int .i64 0, .int .i64 0]).cells.size = j0.size := by rw [hy1]; rfl
  have A : Below w.heap.size w (w.alloc (.cells #[.int .i64 cd, .int .i64 (uu : Int), .slice sa sn sc] 73)) := (Below.refl _ _).alloc (Nat.le_refl _) _
  obtain ⟨S, hS⟩ : ∃ S, sumOf ((sn : Int) :: ws) = S := ⟨_, rfl⟩
  rw [hS] at haw
  have HS : Hid _ := hS
  have HAW : Hid _ := haw
  clear hS haw
  go_enter Try.func99, Try.ntmps99
  go_wp2_with fail
  refine (recordSum_is (sn : Int) a2 n2 c2 ws _ (by exact h2.below A) (by omega) S HS.out).mono ?_
  rintro e w1 ⟨rfl, hb1⟩
  have k1 : w1.cell? ⟨w.heap.size, 1, none⟩ = some (.int .i64 (uu : Int)) := cell_later hb1 (by simp)
  have hs1 : w.heap.size + 1 ≤ w1.heap.size := by have := hb1.size; simpa using this
  have B1 := below_next A hb1
  clear hb1 A
  have A1 : Below w1.heap.size w1 (w1.alloc (.cells #[.int .i64 (n2 : Int), .int .i64 S] 2)) := (Below.refl _ _).alloc (Nat.le_refl _) _
  have A2 : Below (w1.alloc (.cells #[.int .i64 (n2 : Int), .int .i64 S] 2)).heap.size (w1.alloc (.cells #[.int .i64 (n2 : Int), .int .i64 S] 2)) ((w1.alloc (.cells #[.int .i64 (n2 : Int), .int .i64 S] 2)).alloc (.cells #[.int .i64 0] 2)) := (Below.refl _ _).alloc (Nat.le_refl _) _
  have hA2 : ((w1.alloc (.cells #[.int .i64 (n2 : Int), .int .i64 S] 2)).alloc (.cells #[.int .i64 0] 2)).heap.size = w1.heap.size + 2 := by simp
  have r1 : RowAt ((w1.alloc (.cells #[.int .i64 (n2 : Int), .int .i64 S] 2)).alloc (.cells #[.int .i64 0] 2)) true w1.heap.size (w1.heap.size + 1) 1 (some ⟨w1.heap.size, 0, none⟩) 2 2 (ints [(n2 : Int), S]) := (row_lit w1 [.int .i64 (n2 : Int), .int .i64 S] 2 2 1 rfl).below A2
  have r3 : RowAt ((w1.alloc (.cells #[.int .i64 (n2 : Int), .int .i64 S] 2)).alloc (.cells #[.int .i64 0] 2)) true (w1.heap.size + 1) (w1.heap.size + 2) 1 (some ⟨w1.heap.size + 1, 0, none⟩) 1 1 (ints [0]) := by
    have := row_lit (w1.alloc (.cells #[.int .i64 (n2 : Int), .int .i64 S] 2)) [.int .i64 0] 2 1 1 rfl
    rw [show (w1.alloc (.cells #[.int .i64 (n2 : Int), .int .i64 S] 2)).heap.size = w1.heap.size + 1 by simp] at this
    exact this
  have B3 : Below w.heap.size w ((w1.alloc (.cells #[.int .i64 (n2 : Int), .int .i64 S] 2)).alloc (.cells #[.int .i64 0] 2)) := below_next (below_next B1 A1) A2
  have r2 := h2.below B3
  have k3 : ((w1.alloc (.cells #[.int .i64 (n2 : Int), .int .i64 S] 2)).alloc (.cells #[.int .i64 0] 2)).cell? ⟨w.heap.size, 1, none⟩ = some (.int .i64 (uu : Int)) := cell_later A2 (cell_later A1 k1)
  go_wp2_with fail
  generalize hW : ((w1.alloc (.cells #[.int .i64 (n2 : Int), .int .i64 S] 2)).alloc (.cells #[.int .i64 0] 2)) = W at *
  clear hW A1 A2 k1 B1
  have A3 : Below W.heap.size W (W.alloc (.cells #[.slice (some ⟨w1.heap.size, 0, none⟩) 2 2, .slice a2 n2 c2, .slice (some ⟨w1.heap.size + 1, 0, none⟩) 1 1] 24)) := (Below.refl _ _).alloc (Nat.le_refl _) _
  have ra := row_lit W [.slice (some ⟨w1.heap.size, 0, none⟩) 2 2, .slice a2 n2 c2, .slice (some ⟨w1.heap.size + 1, 0, none⟩) 1 1] 24 3 1 rfl
  rw [hA2] at ra
  refine (concatI ⟨w1.heap.size + 2, 0, none⟩ 3 [⟨some ⟨w1.heap.size, 0, none⟩, 2, 2, ints [(n2 : Int), S]⟩, ⟨a2, n2, c2, ints ws⟩, ⟨some ⟨w1.heap.size + 1, 0, none⟩, 1, 1, ints [0]⟩] _ rfl (by omega) (by omega) ra ?_ ?_ ?_ ?_).mono ?_
  · intro p hp
    simp at hp
    rcases hp with rfl | rfl | rfl
    · exact ⟨_, _, _, r1.below A3⟩
    · exact ⟨_, _, _, r2.below A3⟩
    · exact ⟨_, _, _, r3.below A3⟩
  · intro p hp
    simp at hp
    rcases hp with rfl | rfl | rfl <;> exact ints_cell _
  · simp [totOf]; omega
  · simp [totOf]; omega
  rintro e w2 ⟨al, cl, rfl, R, hb⟩
  have ht : totOf [⟨some ⟨w1.heap.size, 0, none⟩, 2, 2, ints [(n2 : Int), S]⟩, ⟨a2, n2, c2, ints ws⟩, ⟨some ⟨w1.heap.size + 1, 0, none⟩, 1, 1, ints [0]⟩] 3 = n2 + 3 := by simp [totOf]; omega
  have hg : gotOf [⟨some ⟨w1.heap.size, 0, none⟩, 2, 2, ints [(n2 : Int), S]⟩, ⟨a2, n2, c2, ints ws⟩, ⟨some ⟨w1.heap.size + 1, 0, none⟩, 1, 1, ints [0]⟩] 3 = ints (((n2 : Int) :: S :: ws) ++ [0]) := by simp [gotOf, ints]
  rw [ht, hg] at R
  rw [ht]
  have k2 := cell_later hb (cell_later A3 k3)
  have B2 := below_next (below_next B3 A3) hb
  have hs2 : w.heap.size + 1 ≤ w2.heap.size := by have h1 := hb.size; have h2 := A3.size; omega
  clear hb A3 B3 k3 r1 r2 r3 ra ht hg hA2
  obtain ⟨line, hline⟩ : ∃ line, ((n2 : Int) :: S :: ws) ++ [0] = line := ⟨_, rfl⟩
  have hll : line.length = n2 + 3 := by rw [← hline]; simp [hl2]
  rw [hline] at R
  obtain ⟨bl, fl, rfl, _, _, _, _, _⟩ := R.int (k := 0) (by omega)
  by_cases h64 : uu + 2 + n2 < 64
  · have HAL : Hid (aw = line.take (n2 + 3)) := by show aw = _; rw [← HAW.out, if_pos h64, hline, List.take_of_length_le (by omega)]
    have hmin : (n2 : Int) + 3 ≤ 64 - uu := by omega
    clear HAW hline
    have hal : aw.length = (n2 + 3) := by rw [HAL.out, List.length_take]; omega
    have HL : Hid _ := hal
    clear hal
    go_wp2
    go_loopw [7, 28] (fun v i wr => ∃ k : Nat, k ≤ (n2 + 3) ∧ i = .int .i64 k ∧ wr.ownsRow w2.heap.size 41 2 v k (pairs (puts uu (line.take k))) ∧ Below w2.heap.size w2 wr) (fun _ i _ => (n2 + 3) - (intOf i).toNat)
    case atStart => exact ⟨0, by omega, rfl, ⟨rfl, Or.inl ⟨rfl, rfl⟩⟩, Below.refl _ _⟩
    case round =>
      obtain ⟨k, hk, rfl, hown, hb⟩ := hrel
      have hsw := hb.size
      by_cases hlt : k < (n2 + 3)
      · have hlk : (k : Int) < ((n2 : Int) + 3) := by omega
        have hlk3 : (k : Int) < (n2 : Int) + 3 := by omega
        have hlk4 : k < n2 + 3 := by omega
        have HPS : Hid _ := puts_snoc line uu k (by omega)
        have D' := below_next hb ((Below.refl _ _).drew : Below wr.heap.size wr wr.drew)
        obtain ⟨_, _, e', _, _, _, ca, _⟩ := (R.below D').int (k := k) (by omega)
        cases e'
        have cU := cell_later D' k2
        generalize line.getD k 0 = X at *
        have A1 : Below wr.heap.size wr (wr.alloc (.cells #[.int .i64 ((uu : Int) + k), .int .i64 X] 41)) := (Below.refl _ _).alloc (Nat.le_refl _) _
        have A2 : Below (wr.alloc (.cells #[.int .i64 ((uu : Int) + k), .int .i64 X] 41)).heap.size (wr.alloc (.cells #[.int .i64 ((uu : Int) + k), .int .i64 X] 41)) (wr.alloc (.cells #[.int .i64 ((uu : Int) + k), .int .i64 X] 41)).drew := (Below.refl _ _).drew
        have O1 := owns_below (owns_below hown A1) A2
        have hb2 : Below w2.heap.size w2 (wr.alloc (.cells #[.int .i64 ((uu : Int) + k), .int .i64 X] 41)).drew := below_next (below_next hb A1) A2
        have rw4 : RowAt (wr.alloc (.cells #[.int .i64 ((uu : Int) + k), .int .i64 X] 41)).drew true wr.heap.size (wr.heap.size + 1) 2 (some ⟨wr.heap.size, 0, none⟩) 1 1 (pairs [((uu : Int) + k, X)]) := (row_two wr 41 ((uu : Int) + k) X).below A2
        have hlo1 : w2.heap.size ≤ (wr.alloc (.cells #[.int .i64 ((uu : Int) + k), .int .i64 X] 41)).drew.heap.size := hb2.size
        have hn63 : k + 1 ≤ 1048576 := by omega
        have hb16 : 16 ≤ 1048576 := by omega
        have hsz2 : 0 < 2 := by omega
        have h10 : 1 ≠ 0 := by omega
        have q9 : IntKind.i64.wrap ((uu : Int) + k) = (uu : Int) + k := wrapI_same _ (by omega)
        clear A1 A2 D'
        go_wp2_with fail
        have T := fun ops dst type pos after a K Q E s x => step_append_own (P := Try.prog) (ops := ops) (dst := dst) (type := type) (pos := pos) (after := after) (a := a) (K := K) (Q := Q) (E := E) (s := s) (x := x) 25 41 j0 (.agg #[.int .i64 0, .int .i64 0]) 2 16 Try.underlying25 hj0 hy0 hy1 hy2 hyj hsz2 w2.heap.size _ k (pairs (puts uu (line.take k))) O1 hlo1 ⟨wr.heap.size, 0, none⟩ 1 1 (pairs [((uu : Int) + k, X)]) rw4 h10 (pairs_one _) hn63 hb16
        have HT : Hid _ := T
        clear T
        go_region_law (first | ((with_reducible refine HT.out _ _ _ _ _ _ _ _ _ _ _ ?_ ?_ ?_); rfl; rfl; intro v5 wz O5 G5; have hb5 : Below w2.heap.size w2 wz := hb2.grown G5 hlo1 (fun g hg => (O1.lt g hg).1)))
        all_goals
          have O6 : wz.ownsRow w2.heap.size 41 2 v5 (k + 1) (pairs (puts uu (line.take (k + 1)))) := by rw [HPS.out, pairs_append]; exact O5
          clear O5 G5 O1 hown hb hb2 HT rw4 ca cU
          go_wp2
          go_roundw
          case rel => exact ⟨k + 1, by omega, by go_num, O6, hb5⟩
          case measure => simp [intOf]; omega
      · obtain rfl : k = (n2 + 3) := by omega
        obtain ⟨ao, cap, rfl, RA⟩ := RowAt.of_owned hown
        have hlk : ¬ (((n2 : Int) + 3) < ((n2 : Int) + 3)) := by omega
        clear hown
        go_wp2
        go_ret
        exact ⟨ao, cap, by rw [HL.out]; rfl, by rw [HL.out, HAL.out]; exact RA.widen (by omega) (Nat.le_refl _), below_next B2 hb⟩
  · have HAL : Hid (aw = line.take (n2 + 2)) := by
      show aw = _
      rw [← HAW.out, if_neg h64, ← hline, List.append_nil, List.take_append_of_le_length (by simp [hl2]), List.take_of_length_le (by simp [hl2])]
    have hmin : ¬ (n2 : Int) + 3 ≤ 64 - uu := by omega
    have hmin2 : (64 : Int) - uu = n2 + 2 := by omega
    clear HAW hline
    have hal : aw.length = (n2 + 2) := by rw [HAL.out, List.length_take]; omega
    have HL : Hid _ := hal
    clear hal
    go_wp2
    go_loopw [7, 28] (fun v i wr => ∃ k : Nat, k ≤ (n2 + 2) ∧ i = .int .i64 k ∧ wr.ownsRow w2.heap.size 41 2 v k (pairs (puts uu (line.take k))) ∧ Below w2.heap.size w2 wr) (fun _ i _ => (n2 + 2) - (intOf i).toNat)
    case atStart => exact ⟨0, by omega, rfl, ⟨rfl, Or.inl ⟨rfl, rfl⟩⟩, Below.refl _ _⟩
    case round =>
      obtain ⟨k, hk, rfl, hown, hb⟩ := hrel
      have hsw := hb.size
      by_cases hlt : k < (n2 + 2)
      · have hlk : (k : Int) < ((n2 : Int) + 2) := by omega
        have hlk3 : (k : Int) < (n2 : Int) + 3 := by omega
        have hlk4 : k < n2 + 3 := by omega
        have HPS : Hid _ := puts_snoc line uu k (by omega)
        have D' := below_next hb ((Below.refl _ _).drew : Below wr.heap.size wr wr.drew)
        obtain ⟨_, _, e', _, _, _, ca, _⟩ := (R.below D').int (k := k) (by omega)
        cases e'
        have cU := cell_later D' k2
        generalize line.getD k 0 = X at *
        have A1 : Below wr.heap.size wr (wr.alloc (.cells #[.int .i64 ((uu : Int) + k), .int .i64 X] 41)) := (Below.refl _ _).alloc (Nat.le_refl _) _
        have A2 : Below (wr.alloc (.cells #[.int .i64 ((uu : Int) + k), .int .i64 X] 41)).heap.size (wr.alloc (.cells #[.int .i64 ((uu : Int) + k), .int .i64 X] 41)) (wr.alloc (.cells #[.int .i64 ((uu : Int) + k), .int .i64 X] 41)).drew := (Below.refl _ _).drew
        have O1 := owns_below (owns_below hown A1) A2
        have hb2 : Below w2.heap.size w2 (wr.alloc (.cells #[.int .i64 ((uu : Int) + k), .int .i64 X] 41)).drew := below_next (below_next hb A1) A2
        have rw4 : RowAt (wr.alloc (.cells #[.int .i64 ((uu : Int) + k), .int .i64 X] 41)).drew true wr.heap.size (wr.heap.size + 1) 2 (some ⟨wr.heap.size, 0, none⟩) 1 1 (pairs [((uu : Int) + k, X)]) := (row_two wr 41 ((uu : Int) + k) X).below A2
        have hlo1 : w2.heap.size ≤ (wr.alloc (.cells #[.int .i64 ((uu : Int) + k), .int .i64 X] 41)).drew.heap.size := hb2.size
        have hn63 : k + 1 ≤ 1048576 := by omega
        have hb16 : 16 ≤ 1048576 := by omega
        have hsz2 : 0 < 2 := by omega
        have h10 : 1 ≠ 0 := by omega
        have q9 : IntKind.i64.wrap ((uu : Int) + k) = (uu : Int) + k := wrapI_same _ (by omega)
        clear A1 A2 D'
        go_wp2_with fail
        have T := fun ops dst type pos after a K Q E s x => step_append_own (P := Try.prog) (ops := ops) (dst := dst) (type := type) (pos := pos) (after := after) (a := a) (K := K) (Q := Q) (E := E) (s := s) (x := x) 25 41 j0 (.agg #[.int .i64 0, .int .i64 0]) 2 16 Try.underlying25 hj0 hy0 hy1 hy2 hyj hsz2 w2.heap.size _ k (pairs (puts uu (line.take k))) O1 hlo1 ⟨wr.heap.size, 0, none⟩ 1 1 (pairs [((uu : Int) + k, X)]) rw4 h10 (pairs_one _) hn63 hb16
        have HT : Hid _ := T
        clear T
        go_region_law (first | ((with_reducible refine HT.out _ _ _ _ _ _ _ _ _ _ _ ?_ ?_ ?_); rfl; rfl; intro v5 wz O5 G5; have hb5 : Below w2.heap.size w2 wz := hb2.grown G5 hlo1 (fun g hg => (O1.lt g hg).1)))
        all_goals
          have O6 : wz.ownsRow w2.heap.size 41 2 v5 (k + 1) (pairs (puts uu (line.take (k + 1)))) := by rw [HPS.out, pairs_append]; exact O5
          clear O5 G5 O1 hown hb hb2 HT rw4 ca cU
          go_wp2
          go_roundw
          case rel => exact ⟨k + 1, by omega, by go_num, O6, hb5⟩
          case measure => simp [intOf]; omega
      · obtain rfl : k = (n2 + 2) := by omega
        obtain ⟨ao, cap, rfl, RA⟩ := RowAt.of_owned hown
        have hlk : ¬ (((n2 : Int) + 2) < ((n2 : Int) + 2)) := by omega
        clear hown
        go_wp2
        go_ret
        exact ⟨ao, cap, by rw [HL.out]; rfl, by rw [HL.out, HAL.out]; exact RA.widen (by omega) (Nat.le_refl _), below_next B2 hb⟩

end Go.Proofs.Ytkpbmffklcgecaa
