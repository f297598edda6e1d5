/- Chapter 5: new pools; the answers of pools compared, marked and held. -/
import Derived.Test.YtikjndmgljkhhaaYP
import Derived.Test.YtikjndmgljkhhaaZM
import Derived.Test.YtikjndmgljkhhaaZV
import Derived.Test.YtikjndmgljkhhaaZU
namespace Go.Proofs.Ytikjndmgljkhhaa
open Go.RowKit

def PoRes0 (o : Bool) (w w' : World) (e : Ending) (code : Int) (f : Fo) : Prop :=
  ∃ an nn cn ab nb cb lo mid K, e = .returned (.agg #[.int .i64 code, .int .i64 0, .int .i64 0, .slice an nn cn, .slice ab nb cb, .slice none 0 0]) ∧ FoAt w' o lo mid an nn cn ab nb cb K f ∧ w.heap.size ≤ lo ∧ mid ≤ w'.heap.size ∧ Below w.heap.size w w'
theorem fo_nil (o : Bool) (w : World) (lo hi : Nat) : FoAt w o lo hi none 0 0 none 0 0 (fun _ => (none, 0, 0)) ([], []) := ⟨⟨rfl, RowAt.nil _ _ _ _ _, fun i hi => absurd hi (by omega), fun _ i hi => absurd hi (by omega)⟩, RowAt.nil _ _ _ _ _, fun _ h => absurd rfl h⟩

set_option maxRecDepth 20000 in
set_option maxHeartbeats 1000000 in
theorem implNewP_is (x : Int) (w : World) (cd : Int) (g : Fo) (hc : newBCode x = cd) (hf : newFoList x = g) : Calls Try.prog 13 #[.int .i64 x] w fun e w' => PoRes0 true w w' e cd g := by
  have A : Below w.heap.size w (w.alloc (.cells #[.int .i64 0, .int .i64 0, .int .i64 0, .slice none 0 0, .slice none 0 0, .slice none 0 0] 33)) := (Below.refl _ _).alloc (Nat.le_refl _) _
  have z0 : (w.alloc (.cells #[.int .i64 0, .int .i64 0, .int .i64 0, .slice none 0 0, .slice none 0 0, .slice none 0 0] 33)).cell? ⟨w.heap.size, 0, none⟩ = some (.int .i64 0) := by simp
  have y0 : (w.alloc (.cells #[.int .i64 0, .int .i64 0, .int .i64 0, .slice none 0 0, .slice none 0 0, .slice none 0 0] 33)).frozen? ⟨w.heap.size, 0, none⟩ = false := by simp
  have z1 : (w.alloc (.cells #[.int .i64 0, .int .i64 0, .int .i64 0, .slice none 0 0, .slice none 0 0, .slice none 0 0] 33)).cell? ⟨w.heap.size, 1, none⟩ = some (.int .i64 0) := by simp
  have y1 : (w.alloc (.cells #[.int .i64 0, .int .i64 0, .int .i64 0, .slice none 0 0, .slice none 0 0, .slice none 0 0] 33)).frozen? ⟨w.heap.size, 1, none⟩ = false := by simp
  have z2 : (w.alloc (.cells #[.int .i64 0, .int .i64 0, .int .i64 0, .slice none 0 0, .slice none 0 0, .slice none 0 0] 33)).cell? ⟨w.heap.size, 2, none⟩ = some (.int .i64 0) := by simp
  have y2 : (w.alloc (.cells #[.int .i64 0, .int .i64 0, .int .i64 0, .slice none 0 0, .slice none 0 0, .slice none 0 0] 33)).frozen? ⟨w.heap.size, 2, none⟩ = false := by simp
  have z3 : (w.alloc (.cells #[.int .i64 0, .int .i64 0, .int .i64 0, .slice none 0 0, .slice none 0 0, .slice none 0 0] 33)).cell? ⟨w.heap.size, 3, none⟩ = some (.slice none 0 0) := by simp
  have y3 : (w.alloc (.cells #[.int .i64 0, .int .i64 0, .int .i64 0, .slice none 0 0, .slice none 0 0, .slice none 0 0] 33)).frozen? ⟨w.heap.size, 3, none⟩ = false := by simp
  have z4 : (w.alloc (.cells #[.int .i64 0, .int .i64 0, .int .i64 0, .slice none 0 0, .slice none 0 0, .slice none 0 0] 33)).cell? ⟨w.heap.size, 4, none⟩ = some (.slice none 0 0) := by simp
  have y4 : (w.alloc (.cells #[.int .i64 0, .int .i64 0, .int .i64 0, .slice none 0 0, .slice none 0 0, .slice none 0 0] 33)).frozen? ⟨w.heap.size, 4, none⟩ = false := by simp
  have z5 : (w.alloc (.cells #[.int .i64 0, .int .i64 0, .int .i64 0, .slice none 0 0, .slice none 0 0, .slice none 0 0] 33)).cell? ⟨w.heap.size, 5, none⟩ = some (.slice none 0 0) := by simp
  have y5 : (w.alloc (.cells #[.int .i64 0, .int .i64 0, .int .i64 0, .slice none 0 0, .slice none 0 0, .slice none 0 0] 33)).frozen? ⟨w.heap.size, 5, none⟩ = false := by simp
  have hz : w.heap.size < (w.alloc (.cells #[.int .i64 0, .int .i64 0, .int .i64 0, .slice none 0 0, .slice none 0 0, .slice none 0 0] 33)).heap.size := by simp
  have hs0 : (w.alloc (.cells #[.int .i64 0, .int .i64 0, .int .i64 0, .slice none 0 0, .slice none 0 0, .slice none 0 0] 33)).heap.size = w.heap.size + 1 := by simp
  obtain ⟨rt, hrt⟩ : ∃ rt, (if newBCode x = 0 then (-1 : Int) else 0) = rt := ⟨_, rfl⟩
  have HC : Hid _ := hc
  have HF : Hid _ := hf
  have HR : Hid _ := hrt
  clear hc hf hrt
  go_enter Try.func13, Try.ntmps13
  go_wp2_with fail
  refine (implNewF_is x _ cd rt g HC.out HR.out HF.out).mono ?_
  rintro e w1 ⟨an, nn, cn, ab, nb, cb, K, rfl, D, B⟩
  rw [hs0] at D
  replace z0 := cell_later B z0
  replace y0 := frozen_later B hz y0
  replace z1 := cell_later B z1
  replace y1 := frozen_later B hz y1
  replace z2 := cell_later B z2
  replace y2 := frozen_later B hz y2
  replace z3 := cell_later B z3
  replace y3 := frozen_later B hz y3
  replace z4 := cell_later B z4
  replace y4 := frozen_later B hz y4
  replace z5 := cell_later B z5
  replace y5 := frozen_later B hz y5
  have s1 : w.heap.size + 1 ≤ w1.heap.size := by have := B.size; omega
  replace hz := Nat.lt_of_lt_of_le hz B.size
  replace B := below_next A B
  clear A
  have A2 : Below w1.heap.size w1 (w1.alloc (.cells #[.int .i64 cd, .int .i64 rt, .slice an nn cn, .slice ab nb cb] 88)) := (Below.refl _ _).alloc (Nat.le_refl _) _
  have x0 : (w1.alloc (.cells #[.int .i64 cd, .int .i64 rt, .slice an nn cn, .slice ab nb cb] 88)).cell? ⟨w1.heap.size, 0, none⟩ = some (.int .i64 cd) := by simp
  have x2 : (w1.alloc (.cells #[.int .i64 cd, .int .i64 rt, .slice an nn cn, .slice ab nb cb] 88)).cell? ⟨w1.heap.size, 2, none⟩ = some (.slice an nn cn) := by simp
  have x3 : (w1.alloc (.cells #[.int .i64 cd, .int .i64 rt, .slice an nn cn, .slice ab nb cb] 88)).cell? ⟨w1.heap.size, 3, none⟩ = some (.slice ab nb cb) := by simp
  replace z0 := cell_later A2 z0
  replace y0 := frozen_later A2 hz y0
  replace z1 := cell_later A2 z1
  replace y1 := frozen_later A2 hz y1
  replace z2 := cell_later A2 z2
  replace y2 := frozen_later A2 hz y2
  replace z3 := cell_later A2 z3
  replace y3 := frozen_later A2 hz y3
  replace z4 := cell_later A2 z4
  replace y4 := frozen_later A2 hz y4
  replace z5 := cell_later A2 z5
  replace y5 := frozen_later A2 hz y5
  replace D := D.below A2
  have s2 := A2.size
  replace hz := Nat.lt_of_lt_of_le hz A2.size
  replace B := below_step B B.size A2
  clear A2 hz
  by_cases hc0 : cd = 0
  · subst hc0
    clear HC HF HR
    go_wp2
    refine bodyPost_ret (v := .agg #[.int .i64 0, .int .i64 0, .int .i64 0, .slice an nn cn, .slice ab nb cb, .slice none 0 0]) (by simp [results, Try.results13, go_sem, z0, z1, z2, z3, z4, z5]) rfl ?_
    refine ⟨an, nn, cn, ab, nb, cb, w.heap.size + 1, w1.heap.size, K, rfl, FoAt.kept (l := w.heap.size) (u := w.heap.size + 1) D ?_ (by omega), by omega, ?_, ?_⟩
    · refine Kept.setCell (Kept.setCell (Kept.setCell (Kept.setCell (Kept.setCell (Kept.setCell (Kept.refl _ _ _) ?_ ?_ _) ?_ ?_ _) ?_ ?_ _) ?_ ?_ _) ?_ ?_ _) ?_ ?_ _ <;> simp
    · simp
    · refine Below.setCell (Below.setCell (Below.setCell (Below.setCell (Below.setCell (Below.setCell B ?_ _) ?_ _) ?_ _) ?_ _) ?_ _) ?_ _ <;> simp
  · have hne : (cd != 0) = true := by simp [hc0]
    have hg : g = ([], []) := by
      rw [← HF.out]
      unfold newFoList newBList
      rw [if_neg (by rw [HC.out]; exact hc0)]
    subst hg
    clear HC HF HR hc0
    go_wp2
    refine bodyPost_ret (v := .agg #[.int .i64 cd, .int .i64 0, .int .i64 0, .slice none 0 0, .slice none 0 0, .slice none 0 0]) (by simp [results, Try.results13, go_sem, z0, z1, z2, z3, z4, z5]) rfl ?_
    refine ⟨none, 0, 0, none, 0, 0, w.heap.size + 1, w.heap.size + 1, fun _ => (none, 0, 0), rfl, fo_nil _ _ _ _, by omega, ?_, ?_⟩
    · have := Nat.le_trans s1 s2; simpa using this
    · refine Below.setCell (Below.setCell (Below.setCell (Below.setCell (Below.setCell (Below.setCell B ?_ _) ?_ _) ?_ _) ?_ _) ?_ _) ?_ _ <;> simp

end Go.Proofs.Ytikjndmgljkhhaa
