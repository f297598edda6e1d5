/- What the laws' marks and their reading answer: numbers that rise from k on. -/
import Derived.Test.YtikplcpgocgogaaCopy
namespace Go.Proofs.Ytikplcpgocgogaa
open Go.RowKit

def marks (k : Int) (n : Nat) : List Int := (List.range n).map fun (i : Nat) => k + (i : Int)
theorem marks_len (k : Int) (n : Nat) : (marks k n).length = n := by simp [marks]
theorem marks_getD (k : Int) (n i : Nat) (h : i < n) : (marks k n).getD i 0 = k + i := by simp [marks, List.getD, h]
/-- A store into a row that is the call's own. -/
theorem RowAt.stored {w : World} {lo hi size : Nat} {b off n cap : Nat} {cs : List Value} (h : RowAt w true lo hi size (some ⟨b, off, none⟩) n cap cs) {i : Nat} (hi' : i < n * size) (v : Value) :
    RowAt (w.setCell ⟨b, off + i, none⟩ v) true lo hi size (some ⟨b, off, none⟩) n cap (cs.set i v) := by
  refine ⟨by rw [List.length_set]; exact h.len, h.le, fun hn => ?_⟩
  obtain ⟨b', off', e, g1, g2, g3, g4, g5⟩ := h.cells hn
  simp only [Option.some.injEq, Addr.mk.injEq, and_true] at e
  obtain ⟨rfl, rfl⟩ := e
  refine ⟨b, off, rfl, g1, g2, by simpa [World.setCell] using g3, fun j hj => ?_, fun ho j hj => ?_⟩
  · have hl := h.len
    by_cases e : j = i
    · subst e
      rw [World.cell?_setCell_same _ _ _ (g4 j hj)]
      simp [List.getD, show j < cs.length by omega]
    · rw [World.cell?_setCell_other _ _ _ _ (by intro h; simp at h <;> omega), g4 j hj]
      simp [List.getD, show ¬ i = j by omega]
  · rw [World.frozen?_setCell]; exact g5 ho j hj

/-- What has been marked so far. -/
def mk1 (xs : List Int) (k : Int) (i : Nat) : List Int := marks k i ++ xs.drop i
theorem mk1_set (xs : List Int) (k : Int) (i : Nat) (h : i < xs.length) : (ints (mk1 xs k i)).set i (.int .i64 (k + i)) = ints (mk1 xs k (i + 1)) := by
  unfold ints mk1
  rw [← List.map_set, List.set_append, if_neg (by rw [marks_len]; omega), marks_len, Nat.sub_self, List.drop_eq_getElem_cons h, List.set_cons_zero]
  simp [marks, List.range_succ]
theorem mk1_all (xs : List Int) (k : Int) : mk1 xs k xs.length = marks k xs.length := by simp [mk1]
theorem mk1_zero (xs : List Int) (k : Int) : mk1 xs k 0 = xs := by simp [mk1, marks]

set_option maxHeartbeats 400000 in
theorem markInts_any {lo hi : Nat} (ao : Option Addr) (n cap : Nat) (xs : List Int) (k : Int) (w : World) (h : RowAt w true lo hi 1 ao n cap (ints xs)) (hn : n ≤ 4194304) (hk0 : 0 ≤ k) (hk1 : k ≤ 16777216) :
    Calls Try.prog 171 #[.slice ao n cap, .int .i64 k] w fun e w' => e = .returned (.int .i64 (k + n)) ∧ RowAt w' true lo hi 1 ao n cap (ints (marks k n)) ∧ Kept lo hi w w' := by
  have hx := h.nInts
  go_enter Try.func171, Try.ntmps171
  go_wp2
  go_loopw [1, 5] (fun v i wr => ∃ j : Nat, j ≤ n ∧ i = .int .i64 j ∧ v = .int .i64 (k + j) ∧ RowAt wr true lo hi 1 ao n cap (ints (mk1 xs k j)) ∧ Kept lo hi w wr) (fun _ i _ => n - (intOf i).toNat)
  case atStart => exact ⟨0, Nat.zero_le _, rfl, by simp, by rw [mk1_zero]; exact h, Kept.refl _ _ _⟩
  case round =>
    obtain ⟨j, hj, rfl, rfl, R, hK⟩ := hrel
    by_cases hlt : j < n
    · obtain ⟨b, off, rfl, hlo, hhi, hbs, hc, hf0⟩ := R.int hlt
      have hf := hf0 rfl
      have R2 := R.stored (i := j) (by omega) (.int .i64 (k + j))
      rw [mk1_set xs k j (by omega)] at R2
      have K2 : Kept lo hi w (wr.setCell ⟨b, off + j, none⟩ (.int .i64 (k + j))) := hK.setCell (p := ⟨b, off + j, none⟩) hlo hhi _
      have hl : (j : Int) < n := by omega
      clear R hf0 hK
      generalize (mk1 xs k j).getD j 0 = old at *
      go_wp2
      go_roundw
      case rel => exact ⟨j + 1, by omega, by go_num, by simp; omega, R2, K2⟩
      case measure => simp [intOf]; omega
    · have hjn : j = n := by omega
      subst hjn
      rw [← hx, mk1_all] at R
      go_wp2
      go_ret
      exact ⟨rfl, by rw [← hx]; exact R, hK⟩

set_option maxHeartbeats 400000 in
theorem heldInts_any {o : Bool} {lo hi : Nat} (ao : Option Addr) (n cap : Nat) (k : Int) (w : World) (h : RowAt w o lo hi 1 ao n cap (ints (marks k n))) (hn : n ≤ 4194304) (hk0 : 0 ≤ k) (hk1 : k ≤ 16777216) :
    Calls Try.prog 174 #[.slice ao n cap, .int .i64 k] w fun e w' => e = .returned (.int .i64 (k + n)) ∧ w' = w := by
  go_enter Try.func174, Try.ntmps174
  go_wp2
  go_loop [1, 5] (fun v i => ∃ j : Nat, j ≤ n ∧ i = .int .i64 j ∧ v = .int .i64 (k + j)) (fun _ i => n - (intOf i).toNat)
  case atStart => exact ⟨0, Nat.zero_le _, rfl, by simp⟩
  case round =>
    obtain ⟨j, hj, rfl, rfl⟩ := hrel
    by_cases hlt : j < n
    · obtain ⟨b, off, rfl, hlo, hhi, hbs, hc, hf0⟩ := h.int hlt
      rw [marks_getD k n j hlt] at hc
      have he : ((k + (j : Int)) != (k + (j : Int))) = false := by simp
      have hl : (j : Int) < n := by omega
      clear hf0
      go_wp2
      go_round
      case rel => exact ⟨j + 1, by omega, by go_num, by simp; omega⟩
      case measure => simp [intOf]; omega
    · have hjn : j = n := by omega
      subst hjn
      go_wp2
      go_ret
      exact ⟨rfl, rfl⟩

end Go.Proofs.Ytikplcpgocgogaa
