/- Chapter 5: volumes marked and held by the laws. -/
import Derived.Test.YtcbfmjanjciodaaEX
import Derived.Test.YtcbfmjanjciodaaYP
import Derived.Test.YtcbfmjanjciodaaZM
namespace Go.Proofs.Ytcbfmjanjciodaa
open Go.RowKit

theorem list_eq3 {xs ys : List Vo} (hl : xs.length = ys.length) (h : ∀ j, j < xs.length → xs.getD j vo0 = ys.getD j vo0) : xs = ys := by
  apply List.ext_getElem hl
  intro j h1 h2
  have := h j h1
  simpa [List.getD, h1, h2] using this
def mark3 (k : Int) (j : Nat) : Vo := (k + 3 * (j : Int), k + 3 * (j : Int) + 1, k + 3 * (j : Int) + 2)
def marks3 (k : Int) (n : Nat) : List Vo := (List.range n).map (mark3 k)
def mk3 (vs : List Vo) (k : Int) (i : Nat) : List Vo := (List.range vs.length).map fun j => if j < i then mark3 k j else vs.getD j vo0
theorem mk3_len (vs : List Vo) (k : Int) (i : Nat) : (mk3 vs k i).length = vs.length := by simp [mk3]
theorem mk3_get (vs : List Vo) (k : Int) (i j : Nat) (h : j < vs.length) : (mk3 vs k i).getD j vo0 = if j < i then mark3 k j else vs.getD j vo0 := by simp [mk3, List.getD, h]
theorem marks3_get (k : Int) (n j : Nat) (h : j < n) : (marks3 k n).getD j vo0 = mark3 k j := by simp [marks3, List.getD, h]
theorem mk3_zero (vs : List Vo) (k : Int) : mk3 vs k 0 = vs := list_eq3 (by rw [mk3_len]) fun j hj => by rw [mk3_get _ _ _ _ (by rwa [mk3_len] at hj), if_neg (Nat.not_lt_zero _)]
theorem mk3_all (vs : List Vo) (k : Int) : mk3 vs k vs.length = marks3 k vs.length := list_eq3 (by rw [mk3_len]; simp [marks3]) fun j hj => by rw [mk3_len] at hj; rw [mk3_get _ _ _ _ hj, if_pos hj, marks3_get _ _ _ hj]
theorem mk3_set (vs : List Vo) (k : Int) (i : Nat) (h : i < vs.length) : (((trips (mk3 vs k i)).set (i * 3) (.int .i64 (k + 3 * i))).set (i * 3 + 1) (.int .i64 (k + 3 * i + 1))).set (i * 3 + 2) (.int .i64 (k + 3 * i + 2)) = trips (mk3 vs k (i + 1)) := by
  unfold trips
  rw [flat3_set (by rw [mk3_len]; exact h), mk3_len, mk3_len]
  refine flat3_congr fun j hj => ?_
  rw [mk3_get _ _ _ _ hj, mk3_get _ _ _ _ hj]
  by_cases e : j = i
  · subst e
    rw [if_pos rfl, if_pos rfl, if_pos rfl, if_pos (by omega)]
    exact ⟨rfl, rfl, rfl⟩
  · rw [if_neg e, if_neg e, if_neg e]
    by_cases e2 : j < i
    · rw [if_pos e2, if_pos (by omega)]; exact ⟨rfl, rfl, rfl⟩
    · rw [if_neg e2, if_neg (by omega)]; exact ⟨rfl, rfl, rfl⟩

set_option maxRecDepth 20000 in
set_option maxHeartbeats 800000 in
theorem markVols_any {lo hi : Nat} (ao : Option Addr) (n cap : Nat) (vs : List Vo) (k : Int) (w : World) (h : RowAt w true lo hi 3 ao n cap (trips vs)) (hn : n ≤ 4194304) (hk0 : 0 ≤ k) (hk1 : k ≤ 33554432) :
    Calls Try.prog 75 #[.slice ao n cap, .int .i64 k] w fun e w' => e = .returned (.int .i64 (k + 3 * n)) ∧ RowAt w' true lo hi 3 ao n cap (trips (marks3 k n)) ∧ Kept lo hi w w' := by
  have hx := h.nTrips
  go_enter Try.func75, Try.ntmps75
  go_wp2
  go_loopw [1, 5] (fun v i wr => ∃ j : Nat, j ≤ n ∧ i = .int .i64 j ∧ v = .int .i64 (k + 3 * j) ∧ RowAt wr true lo hi 3 ao n cap (trips (mk3 vs k j)) ∧ Kept lo hi w wr) (fun _ i _ => n - (intOf i).toNat)
  case atStart => exact ⟨0, Nat.zero_le _, rfl, by simp, by rw [mk3_zero]; exact h, Kept.refl _ _ _⟩
  case round =>
    obtain ⟨j, hj, rfl, rfl, R, hK⟩ := hrel
    by_cases hlt : j < n
    · obtain ⟨b, off, rfl, hlo, hhi, hbs, hc, hc', hc'', hf0⟩ := R.trip hlt
      obtain ⟨hf, hf', hf''⟩ := hf0 rfl
      have R2 := ((R.stored (i := j * 3) (by omega) (.int .i64 (k + 3 * j))).stored (i := j * 3 + 1) (by omega) (.int .i64 (k + 3 * j + 1))).stored (i := j * 3 + 2) (by omega) (.int .i64 (k + 3 * j + 2))
      rw [mk3_set vs k j (by omega), ← Nat.add_assoc, ← Nat.add_assoc] at R2
      have K2 : Kept lo hi w (((wr.setCell ⟨b, off + j * 3, none⟩ (.int .i64 (k + 3 * j))).setCell ⟨b, off + j * 3 + 1, none⟩ (.int .i64 (k + 3 * j + 1))).setCell ⟨b, off + j * 3 + 2, none⟩ (.int .i64 (k + 3 * j + 2))) := ((hK.setCell (p := ⟨b, off + j * 3, none⟩) hlo hhi _).setCell (p := ⟨b, off + j * 3 + 1, none⟩) hlo hhi _).setCell (p := ⟨b, off + j * 3 + 2, none⟩) hlo hhi _
      have hl : (j : Int) < n := by omega
      clear R hf0 hK
      generalize ((mk3 vs k j).getD j vo0).1 = old at *
      generalize ((mk3 vs k j).getD j vo0).2.1 = old2 at *
      generalize ((mk3 vs k j).getD j vo0).2.2 = old3 at *
      have e2 : k + 3 * (j : Int) + 1 + 1 = k + 3 * (j : Int) + 2 := by omega
      go_wp2
      go_roundw
      case rel => exact ⟨j + 1, by omega, by go_num, by simp; omega, R2, K2⟩
      case measure => simp [intOf]; omega
    · have hjn : j = n := by omega
      subst hjn
      rw [← hx, mk3_all] at R
      go_wp2
      go_ret
      exact ⟨rfl, by rw [← hx]; exact R, hK⟩

end Go.Proofs.Ytcbfmjanjciodaa
