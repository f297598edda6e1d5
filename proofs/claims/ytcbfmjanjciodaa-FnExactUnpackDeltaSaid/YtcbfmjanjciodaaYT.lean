/- Chapter 5: volumes marked and held by the laws. -/
import Derived.Test.YtcbfmjanjciodaaEX
import Derived.Test.YtcbfmjanjciodaaYP
import Derived.Test.YtcbfmjanjciodaaZM
import Derived.Test.YtcbfmjanjciodaaYQ
namespace Go.Proofs.Ytcbfmjanjciodaa
open Go.RowKit

theorem list_eq3 {xs ys : List Vo} (hl : xs.length = ys.length) (h : ∀ j, j < xs.length → xs.getD j vo0 = ys.getD j vo0) : xs = ys := by
  apply List.ext_getElem hl
  intro j h1 h2
  have := h j h1
  simpa [List.getD, h1, h2] using this
def mark3 (k : Int) (j : Nat) : Vo := (k + 3 * (j : Int), k + 3 * (j : Int) + 1, k + 3 * (j : Int) + 2)
def marks3 (k : Int) (n : Nat) : List Vo := (List.range n).map (mark3 k)
def mk3 (vs : List Vo) (k : Int) (i : Nat) : List Vo := (List.range vs.length).map fun j => if j < i then mark3 k j else vs.getD j vo0
theorem mk3_len (vs : List Vo) (k : Int) (i : Nat) : (mk3 vs k i).length = vs.length := by simp [mk3]
theorem mk3_get (vs : List Vo) (k : Int) (i j : Nat) (h : j < vs.length) : (mk3 vs k i).getD j vo0 = if j < i then mark3 k j else vs.getD j vo0 := by simp [mk3, List.getD, h]
theorem marks3_get (k : Int) (n j : Nat) (h : j < n) : (marks3 k n).getD j vo0 = mark3 k j := by simp [marks3, List.getD, h]
theorem mk3_zero (vs : List Vo) (k : Int) : mk3 vs k 0 = vs := list_eq3 (by rw [mk3_len]) fun j hj => by rw [mk3_get _ _ _ _ (by rwa [mk3_len] at hj), if_neg (Nat.not_lt_zero _)]
theorem mk3_all (vs : List Vo) (k : Int) : mk3 vs k vs.length = marks3 k vs.length := list_eq3 (by rw [mk3_len]; simp [marks3]) fun j hj => by rw [mk3_len] at hj; rw [mk3_get _ _ _ _ hj, if_pos hj, marks3_get _ _ _ hj]
theorem mk3_set (vs : List Vo) (k : Int) (i : Nat) (h : i < vs.length) : (((trips (mk3 vs k i)).set (i * 3) (.int .i64 (k + 3 * i))).set (i * 3 + 1) (.int .i64 (k + 3 * i + 1))).set (i * 3 + 2) (.int .i64 (k + 3 * i + 2)) = trips (mk3 vs k (i + 1)) := by
  unfold trips
  rw [flat3_set (by rw [mk3_len]; exact h), mk3_len, mk3_len]
  refine flat3_congr fun j hj => ?_
  rw [mk3_get _ _ _ _ hj, mk3_get _ _ _ _ hj]
  by_cases e : j = i
  · subst e
    rw [if_pos rfl, if_pos rfl, if_pos rfl, if_pos (by omega)]
    exact ⟨rfl, rfl, rfl⟩
  · rw [if_neg e, if_neg e, if_neg e]
    by_cases e2 : j < i
    · rw [if_pos e2, if_pos (by omega)]; exact ⟨rfl, rfl, rfl⟩
    · rw [if_neg e2, if_neg (by omega)]; exact ⟨rfl, rfl, rfl⟩

set_option maxRecDepth 20000 in
set_option maxHeartbeats 800000 in
theorem markVols_any {lo hi : Nat} (ao : Option Addr) (n cap : Nat) (vs : List Vo) (k : Int) (w : World) (h : RowAt w true lo hi 3 ao n cap (trips vs)) (hn : n ≤ 4194304) (hk0 : 0 ≤ k) (hk1 : k ≤ 33554432) :
    Calls Try.prog 75 #[.slice ao n cap, .int .i64 k] w fun e w' => e = .returned (.int .i64 (k + 3 * n)) ∧ RowAt w' true lo hi 3 ao n cap (trips (marks3 k n)) ∧ Kept lo hi w w' := by
  have hx := h.nTrips
  go_enter Try.func75, Try.ntmps75
  go_wp2
  go_loopw [1, 5] (fun v i wr => ∃ j : Nat, j ≤ n ∧ i = .int .i64 j ∧ v = .int .i64 (k + 3 * j) ∧ RowAt wr true lo hi 3 ao n cap (trips (mk3 vs k j)) ∧ Kept lo hi w wr) (fun _ i _ => n - (intOf i).toNat)
  case atStart => exact ⟨0, Nat.zero_le _, rfl, by simp, by rw [mk3_zero]; exact h, Kept.refl _ _ _⟩
  case round =>
    obtain ⟨j, hj, rfl, rfl, R, hK⟩ := hrel
    by_cases hlt : j < n
    · obtain ⟨b, off, rfl, hlo, hhi, hbs, hc, hc', hc'', hf0⟩ := R.trip hlt
      obtain ⟨hf, hf', hf''⟩ := hf0 rfl
      have R2 := ((R.stored (i := j * 3) (by omega) (.int .i64 (k + 3 * j))).stored (i := j * 3 + 1) (by omega) (.int .i64 (k + 3 * j + 1))).stored (i := j * 3 + 2) (by omega) (.int .i64 (k + 3 * j + 2))
      rw [mk3_set vs k j (by omega), ← Nat.add_assoc, ← Nat.add_assoc] at R2
      have K2 : Kept lo hi w (((wr.setCell ⟨b, off + j * 3, none⟩ (.int .i64 (k + 3 * j))).setCell ⟨b, off + j * 3 + 1, none⟩ (.int .i64 (k + 3 * j + 1))).setCell ⟨b, off + j * 3 + 2, none⟩ (.int .i64 (k + 3 * j + 2))) := ((hK.setCell (p := ⟨b, off + j * 3, none⟩) hlo hhi _).setCell (p := ⟨b, off + j * 3 + 1, none⟩) hlo hhi _).setCell (p := ⟨b, off + j * 3 + 2, none⟩) hlo hhi _
      have hl : (j : Int) < n := by omega
      clear R hf0 hK
      generalize ((mk3 vs k j).getD j vo0).1 = old at *
      generalize ((mk3 vs k j).getD j vo0).2.1 = old2 at *
      generalize ((mk3 vs k j).getD j vo0).2.2 = old3 at *
      have e2 : k + 3 * (j : Int) + 1 + 1 = k + 3 * (j : Int) + 2 := by omega
      go_wp2
      go_roundw
      case rel => exact ⟨j + 1, by omega, by go_num, by simp; omega, R2, K2⟩
      case measure => simp [intOf]; omega
    · have hjn : j = n := by omega
      subst hjn
      rw [← hx, mk3_all] at R
      go_wp2
      go_ret
      exact ⟨rfl, by rw [← hx]; exact R, hK⟩

set_option maxRecDepth 20000 in
set_option maxHeartbeats 800000 in
theorem heldVols_any {o : Bool} {lo hi : Nat} (ao : Option Addr) (n cap : Nat) (k : Int) (w : World) (h : RowAt w o lo hi 3 ao n cap (trips (marks3 k n))) (hn : n ≤ 4194304) (hk0 : 0 ≤ k) (hk1 : k ≤ 33554432) :
    Calls Try.prog 153 #[.slice ao n cap, .int .i64 k] w fun e w' => e = .returned (.int .i64 (k + 3 * n)) ∧ w' = w := by
  go_enter Try.func153, Try.ntmps153
  go_wp2
  go_loop [1, 5] (fun v i => ∃ j : Nat, j ≤ n ∧ i = .int .i64 j ∧ v = .int .i64 (k + 3 * j)) (fun _ i => n - (intOf i).toNat)
  case atStart => exact ⟨0, Nat.zero_le _, rfl, by simp⟩
  case round =>
    obtain ⟨j, hj, rfl, rfl⟩ := hrel
    by_cases hlt : j < n
    · obtain ⟨b, off, rfl, hlo, hhi, hbs, hc, hc', hc'', hf0⟩ := h.trip hlt
      rw [marks3_get k n j hlt] at hc hc' hc''
      simp only [mark3] at hc hc' hc''
      have e2 : k + 3 * (j : Int) + 1 + 1 = k + 3 * (j : Int) + 2 := by omega
      have he : ((k + 3 * (j : Int)) != (k + 3 * (j : Int))) = false := by simp
      have he' : ((k + 3 * (j : Int) + 1) != (k + 3 * (j : Int) + 1)) = false := by simp
      have he'' : ((k + 3 * (j : Int) + 2) != (k + 3 * (j : Int) + 2)) = false := by simp
      have hl : (j : Int) < n := by omega
      clear hf0
      go_wp2
      go_round
      case rel => exact ⟨j + 1, by omega, by go_num, by simp; omega⟩
      case measure => simp [intOf]; omega
    · have hjn : j = n := by omega
      subst hjn
      go_wp2
      go_ret
      exact ⟨rfl, rfl⟩

end Go.Proofs.Ytcbfmjanjciodaa

/- Chapter 7: steps and differences marked and held by the laws. -/
namespace Go.Proofs.Ytcbfmjanjciodaa
open Go.RowKit

theorem RowAt.quadF {w : World} {lo hi : Nat} {b off n cap : Nat} {cs : List Value} (h : RowAt w true lo hi 4 (some ⟨b, off, none⟩) n cap cs) {i : Nat} (hi' : i < n) : w.frozen? ⟨b, off + i * 4, none⟩ = false ∧ w.frozen? ⟨b, off + i * 4 + 1, none⟩ = false ∧ w.frozen? ⟨b, off + i * 4 + 2, none⟩ = false ∧ w.frozen? ⟨b, off + i * 4 + 3, none⟩ = false := by
  obtain ⟨b', off', e, _, _, _, _, h5⟩ := h.cells (by omega)
  simp only [Option.some.injEq, Addr.mk.injEq, and_true] at e
  obtain ⟨rfl, rfl⟩ := e
  exact ⟨h5 rfl _ (by omega), by rw [Nat.add_assoc]; exact h5 rfl _ (by omega), by rw [Nat.add_assoc]; exact h5 rfl _ (by omega), by rw [Nat.add_assoc]; exact h5 rfl _ (by omega)⟩
theorem list_eq4 {xs ys : List St} (hl : xs.length = ys.length) (h : ∀ j, j < xs.length → xs.getD j st0 = ys.getD j st0) : xs = ys := by
  apply List.ext_getElem hl
  intro j h1 h2
  have := h j h1
  simpa [List.getD, h1, h2] using this
def mark4 (k : Int) (j : Nat) : St := (((k + 4 * (j : Int)) % 3 == 0), k + 4 * (j : Int) + 1, k + 4 * (j : Int) + 2, k + 4 * (j : Int) + 3)
def marks4 (k : Int) (n : Nat) : List St := (List.range n).map (mark4 k)
def mk4 (vs : List St) (k : Int) (i : Nat) : List St := (List.range vs.length).map fun j => if j < i then mark4 k j else vs.getD j st0
theorem mk4_len (vs : List St) (k : Int) (i : Nat) : (mk4 vs k i).length = vs.length := by simp [mk4]
theorem mk4_get (vs : List St) (k : Int) (i j : Nat) (h : j < vs.length) : (mk4 vs k i).getD j st0 = if j < i then mark4 k j else vs.getD j st0 := by simp [mk4, List.getD, h]
theorem marks4_get (k : Int) (n j : Nat) (h : j < n) : (marks4 k n).getD j st0 = mark4 k j := by simp [marks4, List.getD, h]
theorem mk4_zero (vs : List St) (k : Int) : mk4 vs k 0 = vs := list_eq4 (by rw [mk4_len]) fun j hj => by rw [mk4_get _ _ _ _ (by rwa [mk4_len] at hj), if_neg (Nat.not_lt_zero _)]
theorem mk4_all (vs : List St) (k : Int) : mk4 vs k vs.length = marks4 k vs.length := list_eq4 (by rw [mk4_len]; simp [marks4]) fun j hj => by rw [mk4_len] at hj; rw [mk4_get _ _ _ _ hj, if_pos hj, marks4_get _ _ _ hj]
theorem mk4_set (vs : List St) (k : Int) (i : Nat) (h : i < vs.length) : (mk4 vs k i).set i (mark4 k i) = mk4 vs k (i + 1) := list_eq4 (by rw [List.length_set, mk4_len, mk4_len]) fun j hj => by
  rw [List.length_set, mk4_len] at hj
  rw [mk4_get _ _ _ _ hj]
  by_cases e : j = i
  · subst e
    rw [if_pos (by omega)]
    simp [List.getD, mk4_len, h]
  · rw [show ((mk4 vs k i).set i (mark4 k i)).getD j st0 = (mk4 vs k i).getD j st0 from by simp [List.getD, Ne.symm e], mk4_get _ _ _ _ hj]
    by_cases e2 : j < i
    · rw [if_pos e2, if_pos (by omega)]
    · rw [if_neg e2, if_neg (by omega)]

set_option maxRecDepth 20000 in
set_option maxHeartbeats 2000000 in
theorem markSteps_any {lo hi : Nat} (ao : Option Addr) (n cap : Nat) (vs : List St) (k : Int) (w : World) (h : RowAt w true lo hi 4 ao n cap (quads vs)) (hn : n ≤ 4194304) (hk0 : 0 ≤ k) (hk1 : k ≤ 33554432) :
    Calls Try.prog 116 #[.slice ao n cap, .int .i64 k] w fun e w' => e = .returned (.int .i64 (k + 4 * n)) ∧ RowAt w' true lo hi 4 ao n cap (quads (marks4 k n)) ∧ Kept lo hi w w' := by
  have hx := h.nQuads
  go_enter Try.func116, Try.ntmps116
  go_wp2
  go_loopw [1, 5] (fun v i wr => ∃ j : Nat, j ≤ n ∧ i = .int .i64 j ∧ v = .int .i64 (k + 4 * (j : Int)) ∧ RowAt wr true lo hi 4 ao n cap (quads (mk4 vs k j)) ∧ Kept lo hi w wr) (fun _ i _ => n - (intOf i).toNat)
  case atStart => exact ⟨0, Nat.zero_le _, rfl, by simp, by rw [mk4_zero]; exact h, Kept.refl _ _ _⟩
  case round =>
    obtain ⟨j, hj, rfl, rfl, R, hK⟩ := hrel
    by_cases hlt : j < n
    · obtain ⟨b, off, rfl, hlo, hhi, hbs, c0, c1, c2, c3⟩ := R.quad hlt
      obtain ⟨f0, f1, f2, f3⟩ := R.quadF hlt
      have hq0 : 0 ≤ k + 4 * (j : Int) := by omega
      have hq1 : k + 4 * (j : Int) ≤ 100000000 := by omega
      have q4 : ((((quads (mk4 vs k j)).set (j * 4) (.bool ((k + 4 * (j : Int)) % 3 == 0))).set (j * 4 + 1) (.int .i64 (k + 4 * (j : Int) + 1))).set (j * 4 + 2) (.int .i64 (k + 4 * (j : Int) + 2))).set (j * 4 + 3) (.int .i64 (k + 4 * (j : Int) + 3)) = quads (mk4 vs k (j + 1)) := (quads_set (xs := mk4 vs k j) (by rw [mk4_len]; omega) (mark4 k j)).trans (by rw [mk4_set vs k j (by omega)])
      have R2 := (((R.stored (i := j * 4) (by omega) (.bool ((k + 4 * (j : Int)) % 3 == 0))).stored (i := j * 4 + 1) (by omega) (.int .i64 (k + 4 * (j : Int) + 1))).stored (i := j * 4 + 2) (by omega) (.int .i64 (k + 4 * (j : Int) + 2))).stored (i := j * 4 + 3) (by omega) (.int .i64 (k + 4 * (j : Int) + 3))
      rw [q4, ← Nat.add_assoc, ← Nat.add_assoc, ← Nat.add_assoc] at R2
      clear q4
      have K2 : Kept lo hi w ((((wr.setCell ⟨b, off + j * 4, none⟩ (.bool ((k + 4 * (j : Int)) % 3 == 0))).setCell ⟨b, off + j * 4 + 1, none⟩ (.int .i64 (k + 4 * (j : Int) + 1))).setCell ⟨b, off + j * 4 + 2, none⟩ (.int .i64 (k + 4 * (j : Int) + 2))).setCell ⟨b, off + j * 4 + 3, none⟩ (.int .i64 (k + 4 * (j : Int) + 3))) := (((hK.setCell (p := ⟨b, off + j * 4, none⟩) hlo hhi _).setCell (p := ⟨b, off + j * 4 + 1, none⟩) hlo hhi _).setCell (p := ⟨b, off + j * 4 + 2, none⟩) hlo hhi _).setCell (p := ⟨b, off + j * 4 + 3, none⟩) hlo hhi _
      have hl : (j : Int) < n := by omega
      clear R hK
      generalize ((mk4 vs k j).getD j st0).1 = old0 at *
      generalize ((mk4 vs k j).getD j st0).2.1 = old at *
      generalize ((mk4 vs k j).getD j st0).2.2.1 = old2 at *
      generalize ((mk4 vs k j).getD j st0).2.2.2 = old3 at *
      have e4 : k + 4 * (j : Int) + 4 = k + 4 * ((j + 1 : Nat) : Int) := by omega
      have HR2 : Hid _ := R2
      have HK2 : Hid _ := K2
      clear R2 K2
      have HE4 : Hid _ := e4
      clear e4
      generalize hq : k + 4 * (j : Int) = q at *
      clear hq
      have w1 : IntKind.i64.wrap (q + 1) = q + 1 := wrapI_same _ (by omega)
      have w2 : IntKind.i64.wrap (q + 2) = q + 2 := wrapI_same _ (by omega)
      have w3 : IntKind.i64.wrap (q + 3) = q + 3 := wrapI_same _ (by omega)
      have w4 : IntKind.i64.wrap (q + 4) = q + 4 := wrapI_same _ (by omega)
      have a2 : q + 1 + 1 = q + 2 := by omega
      have a3 : q + 2 + 1 = q + 3 := by omega
      have a4 : q + 3 + 1 = q + 4 := by omega
      have hr : q.tmod 3 = q % 3 := Int.tmod_eq_emod_of_nonneg hq0
      have wr3 : IntKind.i64.wrap (q % 3) = q % 3 := wrapI_same _ (by omega)
      go_wp2
      go_roundw
      case rel => exact ⟨j + 1, by omega, by go_num, by rw [← HE4.out], HR2.out, HK2.out⟩
      case measure => simp [intOf]; omega
    · have hjn : j = n := by omega
      subst hjn
      rw [← hx, mk4_all] at R
      go_wp2
      go_ret
      exact ⟨rfl, by rw [← hx]; exact R, hK⟩

set_option maxRecDepth 20000 in
set_option maxHeartbeats 2000000 in
theorem heldSteps_any {o : Bool} {lo hi : Nat} (ao : Option Addr) (n cap : Nat) (k : Int) (w : World) (h : RowAt w o lo hi 4 ao n cap (quads (marks4 k n))) (hn : n ≤ 4194304) (hk0 : 0 ≤ k) (hk1 : k ≤ 33554432) :
    Calls Try.prog 180 #[.slice ao n cap, .int .i64 k] w fun e w' => e = .returned (.int .i64 (k + 4 * n)) ∧ w' = w := by
  go_enter Try.func180, Try.ntmps180
  go_wp2
  go_loop [1, 5] (fun v i => ∃ j : Nat, j ≤ n ∧ i = .int .i64 j ∧ v = .int .i64 (k + 4 * (j : Int))) (fun _ i => n - (intOf i).toNat)
  case atStart => exact ⟨0, Nat.zero_le _, rfl, by simp⟩
  case round =>
    obtain ⟨j, hj, rfl, rfl⟩ := hrel
    by_cases hlt : j < n
    · obtain ⟨b, off, rfl, hlo, hhi, hbs, c0, c1, c2, c3⟩ := h.quad hlt
      rw [marks4_get k n j hlt] at c0 c1 c2 c3
      simp only [mark4] at c0 c1 c2 c3
      have hq0 : 0 ≤ k + 4 * (j : Int) := by omega
      have hq1 : k + 4 * (j : Int) ≤ 100000000 := by omega
      have e4 : k + 4 * (j : Int) + 4 = k + 4 * ((j + 1 : Nat) : Int) := by omega
      have HE4 : Hid _ := e4
      clear e4
      have hl : (j : Int) < n := by omega
      generalize hq : k + 4 * (j : Int) = q at *
      clear hq
      have w1 : IntKind.i64.wrap (q + 1) = q + 1 := wrapI_same _ (by omega)
      have w2 : IntKind.i64.wrap (q + 2) = q + 2 := wrapI_same _ (by omega)
      have w3 : IntKind.i64.wrap (q + 3) = q + 3 := wrapI_same _ (by omega)
      have w4 : IntKind.i64.wrap (q + 4) = q + 4 := wrapI_same _ (by omega)
      have a2 : q + 1 + 1 = q + 2 := by omega
      have a3 : q + 2 + 1 = q + 3 := by omega
      have a4 : q + 3 + 1 = q + 4 := by omega
      have hr : q.tmod 3 = q % 3 := Int.tmod_eq_emod_of_nonneg hq0
      have wr3 : IntKind.i64.wrap (q % 3) = q % 3 := wrapI_same _ (by omega)
      have d0 : ((q % 3 == 0) != (q % 3 == 0)) = false := by simp
      have d1 : ((q + 1) != (q + 1)) = false := by simp
      have d2 : ((q + 2) != (q + 2)) = false := by simp
      have d3 : ((q + 3) != (q + 3)) = false := by simp
      go_wp2
      go_round
      case rel => exact ⟨j + 1, by omega, by go_num, by rw [← HE4.out]⟩
      case measure => simp [intOf]; omega
    · have hjn : j = n := by omega
      subst hjn
      go_wp2
      go_ret
      exact ⟨rfl, rfl⟩
set_option maxRecDepth 20000 in
set_option maxHeartbeats 2000000 in
theorem markDelta_any {lo mid hi : Nat} (fr tt : Int) (av : Option Addr) (nv cv : Nat) (aq : Option Addr) (nq cq : Nat) (vs : List Vo) (ss : List St) (w : World) (hv : RowAt w true lo mid 3 av nv cv (trips vs)) (hs : RowAt w true mid hi 4 aq nq cq (quads ss)) (h1 : nv ≤ 4194304) (h2 : nq ≤ 4194304) (hm : lo ≤ mid) (hm2 : mid ≤ hi) (hm3 : mid ≤ w.heap.size) :
    Calls Try.prog 49 #[.agg #[.int .i64 fr, .int .i64 tt, .slice av nv cv, .slice aq nq cq], .int .i64 1] w fun e w' => e = .returned (.int .i64 (1 + 3 * nv + 4 * nq)) ∧ RowAt w' true lo mid 3 av nv cv (trips (marks3 1 nv)) ∧ RowAt w' true mid hi 4 aq nq cq (quads (marks4 (1 + 3 * nv) nq)) ∧ Kept lo hi w w' := by
  have B1 : Below w.heap.size w (w.alloc (.cells #[.int .i64 fr, .int .i64 tt, .slice av nv cv, .slice aq nq cq] 78)) := (Below.refl _ _).alloc (Nat.le_refl _) _
  have g3 : (w.alloc (.cells #[.int .i64 fr, .int .i64 tt, .slice av nv cv, .slice aq nq cq] 78)).cell? ⟨w.heap.size, 3, none⟩ = some (.slice aq nq cq) := by simp
  go_enter Try.func49, Try.ntmps49
  go_wp2_with fail
  refine (markVols_any av nv cv vs 1 _ (hv.below B1) h1 (by omega) (by omega)).mono ?_
  rintro e w1 ⟨rfl, v1, K1⟩
  replace g3 := K1.cell g3 (Or.inr hm3)
  have s1 := (hs.below B1).kept K1 (Or.inr (Nat.le_refl _))
  go_wp2_with fail
  refine (markSteps_any aq nq cq ss (1 + 3 * nv) _ s1 h2 (by omega) (by omega)).mono ?_
  rintro e w2 ⟨rfl, s2, K2⟩
  have v2 := v1.kept K2 (Or.inl (Nat.le_refl _))
  go_wp2
  go_ret
  exact ⟨rfl, v2, s2, ((Kept.of_below B1).trans (K1.mono (Nat.le_refl _) hm2)).trans (K2.mono hm (Nat.le_refl _))⟩

end Go.Proofs.Ytcbfmjanjciodaa
