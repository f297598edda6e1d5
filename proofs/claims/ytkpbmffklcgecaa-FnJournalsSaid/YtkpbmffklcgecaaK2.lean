/- Chapter 2: the sum of a record and the copy of a slice: what the program's functions answer. -/
import Derived.Test.YtkpbmffklcgecaaK1
import Derived.Test.YtkpbmffklcgecaaJC
namespace Go.Proofs.Ytkpbmffklcgecaa
open Go.RowKit

set_option maxRecDepth 20000 in
set_option maxHeartbeats 1000000 in
theorem recordSum_is {o : Bool} {l u : Nat} (x : Int) (ao : Option Addr) (n cap : Nat) (xs : List Int) (w : World) (h : RowAt w o l u 1 ao n cap (ints xs)) (hn : n ≤ 1000) (r : Int) (hr : sumOf (x :: xs) = r) :
    Calls Try.prog 116 #[.int .i64 x, .slice ao n cap] w fun e w' => e = .returned (.int .i64 r) ∧ Below w.heap.size w w' := by
  have B1 : Below w.heap.size w (w.alloc (.cells #[.int .i64 x] 2)) := (Below.refl _ _).alloc (Nat.le_refl _) _
  have B2 : Below (w.alloc (.cells #[.int .i64 x] 2)).heap.size (w.alloc (.cells #[.int .i64 x] 2)) ((w.alloc (.cells #[.int .i64 x] 2)).alloc (.cells #[.slice (some ⟨w.heap.size, 0, none⟩) 1 1, .slice ao n cap] 24)) := (Below.refl _ _).alloc (Nat.le_refl _) _
  have r1 : RowAt ((w.alloc (.cells #[.int .i64 x] 2)).alloc (.cells #[.slice (some ⟨w.heap.size, 0, none⟩) 1 1, .slice ao n cap] 24)) true w.heap.size (w.heap.size + 1) 1 (some ⟨w.heap.size, 0, none⟩) 1 1 (ints [x]) := (row_lit w [.int .i64 x] 2 1 1 rfl).below B2
  have r2 := (h.below B1).below B2
  have ra : RowAt ((w.alloc (.cells #[.int .i64 x] 2)).alloc (.cells #[.slice (some ⟨w.heap.size, 0, none⟩) 1 1, .slice ao n cap] 24)) true (w.heap.size + 1) (w.heap.size + 2) 1 (some ⟨w.heap.size + 1, 0, none⟩) 2 2 [.slice (some ⟨w.heap.size, 0, none⟩) 1 1, .slice ao n cap] := by
    have := row_lit (w.alloc (.cells #[.int .i64 x] 2)) [.slice (some ⟨w.heap.size, 0, none⟩) 1 1, .slice ao n cap] 24 2 1 rfl
    simpa using this
  have B := below_next B1 B2
  go_enter Try.func116, Try.ntmps116
  go_wp2_with fail
  refine (concatI ⟨w.heap.size + 1, 0, none⟩ 2 [⟨some ⟨w.heap.size, 0, none⟩, 1, 1, ints [x]⟩, ⟨ao, n, cap, ints xs⟩] _ rfl (by omega) (by omega) ra ?_ ?_ ?_ ?_).mono ?_
  · intro p hp
    simp at hp
    rcases hp with rfl | rfl
    · exact ⟨_, _, _, r1⟩
    · exact ⟨_, _, _, r2⟩
  · intro p hp
    simp at hp
    rcases hp with rfl | rfl <;> exact ints_cell _
  · simp [totOf]; omega
  · simp [totOf]; omega
  rintro e w1 ⟨a1, c1, rfl, R, hb⟩
  have ht : totOf [⟨some ⟨w.heap.size, 0, none⟩, 1, 1, ints [x]⟩, ⟨ao, n, cap, ints xs⟩] 2 = 1 + n := by simp [totOf]
  have hg : gotOf [⟨some ⟨w.heap.size, 0, none⟩, 1, 1, ints [x]⟩, ⟨ao, n, cap, ints xs⟩] 2 = ints (x :: xs) := by simp [gotOf, ints]
  rw [ht, hg] at R
  rw [ht]
  have B3 := below_next B hb
  clear B hb B1 B2 r1 r2 ra ht hg
  go_wp2_with fail
  refine (implSum_any a1 (1 + n) c1 (x :: xs) _ R (by omega)).mono ?_
  rintro e w2 ⟨rfl, rfl⟩
  go_wp2
  go_ret
  exact ⟨by first | exact ret_int hr | rfl, B3⟩

set_option maxRecDepth 20000 in
set_option maxHeartbeats 1000000 in
theorem clone_any {o : Bool} {l u : Nat} (ad : Addr) (n cap : Nat) (xs : List Int) (w : World) (h : RowAt w o l u 1 (some ad) n cap (ints xs)) (hn0 : n ≠ 0) (hn : n ≤ 1000) :
    Calls Try.prog 115 #[.slice (some ad) n cap] w fun e w' => ∃ g c, e = .returned (.slice (some ⟨g, 0, none⟩) n c) ∧ w.heap.size ≤ g ∧ g < w'.heap.size ∧ RowAt w' true g (g + 1) 1 (some ⟨g, 0, none⟩) n c (ints xs) ∧ Below w.heap.size w w' := by
  obtain ⟨i0, hi0, hz0, hz1, hz2⟩ := info_parts Try.info2'
  have hown0 : (w.alloc (.cells #[] 2)).ownsRow w.heap.size 2 1 (.slice (some ⟨w.heap.size, 0, none⟩) 0 0) 0 [] := World.ownsRow_lit w #[] 0 (Nat.le_refl _) (Nat.zero_le _) rfl
  have B1 : Below w.heap.size w (w.alloc (.cells #[] 2)) := (Below.refl _ _).alloc (Nat.le_refl _) _
  have R := h.below B1
  have hq : ∀ W, (binOp .eql 24 (.slice (some ad) n cap) (.slice none 0 0)).run Try.prog W = .ok (.bool false) W := fun W => Lib.run_eql_slice_nil W 24 2 (some ad) n cap 0 0 Try.underlying24
  go_enter Try.func115, Try.ntmps115
  go_wp2_with (first | (at_builtin; refine wpList_append_own_at _ rfl _ _ 24 rfl w.heap.size 2 i0 (.int .i64 0) 1 8 Try.underlying24 hi0 hz0 hz1 hz2 rfl (by decide) _ _ _ rfl hown0 ad n cap (ints xs) rfl ?c0 ?c1 ?c2 ?c3 ?c4 ?c5 ?_))
  case c0 => exact R.len
  case c1 => exact R.news hn0
  case c2 => exact ints_cell _
  case c3 => unfold maxLen; omega
  case c4 => omega
  case c5 => simp
  intro v1 w2 hown1 hgrow1 _ _
  have B2 : Below w.heap.size w w2 := B1.grown hgrow1 (by simp) (fun g hg => (hown0.lt g hg).1)
  have hown1' : w2.ownsRow w.heap.size 2 1 v1 n (ints xs) := by simpa using hown1
  obtain ⟨g1, cap1, rfl, hg1, hg1', RR⟩ := own_block hown1' hn0
  clear hown1 hown1' hgrow1 hown0 R B1
  go_wp2
  go_ret
  exact ⟨_, _, rfl, hg1, hg1', RR, B2⟩

end Go.Proofs.Ytkpbmffklcgecaa
