/- Chapter 11: lists of nodes compared by the laws. -/
import Derived.Test.YtikplcpgocgogaaCO1
namespace Go.Proofs.Ytikplcpgocgogaa
open Go.RowKit

set_option maxRecDepth 20000 in
set_option maxHeartbeats 2000000 in
theorem eqReplicas_yes {o1 o2 : Bool} {l1 u1 l2 u2 : Nat} (a1 a2 : Option Addr) (n c1 m c2 : Nat) (xs ys : List Nod) (w : World) (h1 : LAt nodeK w o1 l1 u1 a1 n c1 xs) (h2 : LAt nodeK w o2 l2 u2 a2 m c2 ys) (hxy : ys.map (·.1) = xs.map (·.1)) (hn : n ≤ 1048576) (hs : (∀ (i : Nat) (a : Nod), xs[i]? = some a → RSz a.2 1048576)) :
    Calls Try.prog 102 #[.slice a1 n c1, .slice a2 m c2] w fun e w' => e = .returned (.bool true) ∧ Below w.heap.size w w' := by
  obtain rfl : n = m := by rw [← h1.len, ← h2.len]; simpa using (congrArg List.length hxy).symm
  have hb0 : ((n : Int) != (n : Int)) = false := by simp
  have HS : Hid _ := hs
  have HXY : Hid (∀ (i : Nat) (a b : Nod), xs[i]? = some a → ys[i]? = some b → b.1 = a.1) := fun i a b e1 e2 => by
    have t := congrArg (·[i]?) hxy
    simpa [e1, e2] using t
  clear hs hxy
  go_enter Try.func102, Try.ntmps102
  go_wp2
  go_loopw [5] (fun i wr => ∃ k : Nat, k ≤ n ∧ i = .int .i64 k ∧ Below w.heap.size w wr) (fun i _ => n - (intOf i).toNat)
  case atStart => exact ⟨0, Nat.zero_le _, rfl, Below.refl _ _⟩
  case round =>
    obtain ⟨k, hk, rfl, hb⟩ := hrel
    by_cases hlt : k < n
    · have hlk : (k : Int) < (n : Int) := by omega
      have D : Below wr.heap.size wr wr.drew := (Below.refl _ _).drew
      replace hb := below_next hb D
      clear D
      obtain ⟨r, q1, b1, f1, ex1, rfl, _, _, X1, y1, _⟩ := (h1.below nodeOk hb).node hlt
      obtain ⟨r2, q2, b2, f2, ex2, rfl, _, _, X2, y2, _⟩ := (h2.below nodeOk hb).node hlt
      have hmk := HS.out k _ ex1
      obtain rfl : r2 = r := HXY.out k _ _ ex1 ex2
      clear ex1 ex2
      simp only at hmk
      have c1 := X1.cell
      have c2 := X2.cell
      go_wp2_with fail
      refine wp_region_held_drew (S := (fun w' => (w'.cell? ⟨b1, f1 + k * 10, none⟩ = [.int .i64 r2.id, .int .i64 r2.size, .int .i64 r2.view, .bool r2.normal, .int .i64 r2.last, .slice q1.L.1 q1.L.2.1 q1.L.2.2, .int .i64 r2.commit, .slice q1.O.1 q1.O.2.1 q1.O.2.2, .slice q1.A.1 q1.A.2.1 q1.A.2.2, .slice q1.D.1 q1.D.2.1 q1.D.2.2][0]? ∧ ∀ k_1 : Nat, k_1 < 10 → w'.cell? ⟨b1, f1 + k * 10 + k_1, none⟩ = [.int .i64 r2.id, .int .i64 r2.size, .int .i64 r2.view, .bool r2.normal, .int .i64 r2.last, .slice q1.L.1 q1.L.2.1 q1.L.2.2, .int .i64 r2.commit, .slice q1.O.1 q1.O.2.1 q1.O.2.2, .slice q1.A.1 q1.A.2.1 q1.A.2.2, .slice q1.D.1 q1.D.2.1 q1.D.2.2][k_1]?) ∧ (w'.cell? ⟨b2, f2 + k * 10, none⟩ = [.int .i64 r2.id, .int .i64 r2.size, .int .i64 r2.view, .bool r2.normal, .int .i64 r2.last, .slice q2.L.1 q2.L.2.1 q2.L.2.2, .int .i64 r2.commit, .slice q2.O.1 q2.O.2.1 q2.O.2.2, .slice q2.A.1 q2.A.2.1 q2.A.2.2, .slice q2.D.1 q2.D.2.1 q2.D.2.2][0]? ∧ ∀ k_1 : Nat, k_1 < 10 → w'.cell? ⟨b2, f2 + k * 10 + k_1, none⟩ = [.int .i64 r2.id, .int .i64 r2.size, .int .i64 r2.view, .bool r2.normal, .int .i64 r2.last, .slice q2.L.1 q2.L.2.1 q2.L.2.2, .int .i64 r2.commit, .slice q2.O.1 q2.O.2.1 q2.O.2.2, .slice q2.A.1 q2.A.2.1 q2.A.2.2, .slice q2.D.1 q2.D.2.1 q2.D.2.2][k_1]?))) (by kernel_rfl) ⟨c1, c2⟩ (fun hHeld => ?_)
      refine wpAnyH_take (i := 0) (v := ?_) rfl (by kernel_rfl) (by kernel_rfl) (by kernel_rfl) (fun _ _ _ h => h) (Or.inl ⟨by rfl, ?_⟩) hHeld ?_
      rotate_left 1
      · intro w hSw
        try dsimp only at hSw
        first | (go_simp; done) | (go_simp; with_reducible rfl)
      simp only [Act.put, List.setIfInBounds_toArray, List.set_cons_zero, List.set_cons_succ, List.getElem_toArray, List.getElem_cons_zero]
      refine wpAnyH_take (i := 1) (v := ?_) rfl (by kernel_rfl) (by kernel_rfl) (by kernel_rfl) (fun _ _ _ h => h) (Or.inl ⟨by rfl, ?_⟩) hHeld ?_
      rotate_left 1
      · intro w hSw
        try dsimp only at hSw
        first | (go_simp; done) | (go_simp; with_reducible rfl)
      simp only [Act.put, List.setIfInBounds_toArray, List.set_cons_zero, List.set_cons_succ, List.getElem_toArray, List.getElem_cons_zero, List.getElem_cons_succ]
      refine wpAnyH_take (i := 2) (v := ?_) rfl (by kernel_rfl) (by kernel_rfl) (by kernel_rfl) (fun _ _ _ h => h) (Or.inl ⟨by rfl, ?_⟩) hHeld ?_
      rotate_left 1
      · intro w hSw
        try dsimp only at hSw
        first | (go_simp; done) | (go_simp; with_reducible rfl)
      simp only [Act.put, List.setIfInBounds_toArray, List.set_cons_zero, List.set_cons_succ, List.getElem_toArray, List.getElem_cons_zero, List.getElem_cons_succ]
      refine wpAnyH_take (i := 3) (v := ?_) rfl (by kernel_rfl) (by kernel_rfl) (by kernel_rfl) (fun _ _ _ h => h) (Or.inl ⟨by rfl, ?_⟩) hHeld ?_
      rotate_left 1
      · intro w hSw
        try dsimp only at hSw
        first | (go_simp; done) | (go_simp; with_reducible rfl)
      simp only [Act.put, List.setIfInBounds_toArray, List.set_cons_zero, List.set_cons_succ, List.getElem_toArray, List.getElem_cons_zero, List.getElem_cons_succ]
      refine wpAnyH_take (i := 4) (v := ?_) rfl (by kernel_rfl) (by kernel_rfl) (by kernel_rfl) (fun _ _ _ h => h) (Or.inl ⟨by rfl, ?_⟩) hHeld ?_
      rotate_left 1
      · intro w hSw
        try dsimp only at hSw
        first | (go_simp; done) | (go_simp; with_reducible rfl)
      simp only [Act.put, List.setIfInBounds_toArray, List.set_cons_zero, List.set_cons_succ, List.getElem_toArray, List.getElem_cons_zero, List.getElem_cons_succ]
      refine wpAnyH_take (i := 5) (v := ?_) rfl (by kernel_rfl) (by kernel_rfl) (by kernel_rfl) (fun _ _ _ h => h) (Or.inl ⟨by rfl, ?_⟩) hHeld ?_
      rotate_left 1
      · intro w hSw
        try dsimp only at hSw
        first | (go_simp; done) | (go_simp; with_reducible rfl)
      simp only [Act.put, List.setIfInBounds_toArray, List.set_cons_zero, List.set_cons_succ, List.getElem_toArray, List.getElem_cons_zero, List.getElem_cons_succ]
      refine wpAnyH_take (i := 6) (v := ?_) rfl (by kernel_rfl) (by kernel_rfl) (by kernel_rfl) (fun _ _ _ h => h) (Or.inl ⟨by rfl, ?_⟩) hHeld ?_
      rotate_left 1
      · intro w hSw
        try dsimp only at hSw
        first | (go_simp; done) | (go_simp; with_reducible rfl)
      simp only [Act.put, List.setIfInBounds_toArray, List.set_cons_zero, List.set_cons_succ, List.getElem_toArray, List.getElem_cons_zero, List.getElem_cons_succ]
      refine wpAnyH_take (i := 7) (v := ?_) rfl (by kernel_rfl) (by kernel_rfl) (by kernel_rfl) (fun _ _ _ h => h) (Or.inl ⟨by rfl, ?_⟩) hHeld ?_
      rotate_left 1
      · intro w hSw
        try dsimp only at hSw
        first | (go_simp; done) | (go_simp; with_reducible rfl)
      simp only [Act.put, List.setIfInBounds_toArray, List.set_cons_zero, List.set_cons_succ, List.getElem_toArray, List.getElem_cons_zero, List.getElem_cons_succ]
      refine wpAnyH_ready (rs := [8]) (by kernel_rfl) (by simp) ?_
      refine AllReadyH.cons rfl (fun KK hKK => ?_) AllReadyH.nil
      go_simp
      go_at_call 28
      refine (eqReplica_yes r2 q1 q2 _ y1 y2 (hmk.mono (by omega))).mono ?_
      rintro e w1 ⟨rfl, BB⟩
      replace X1 := X1.below BB
      replace c1 := X1.cell
      replace X2 := X2.below BB
      replace c2 := X2.cell
      replace hb := below_next hb BB
      clear BB y1 y2
      clear hHeld
      refine hKK _ _ ⟨c1, c2⟩ (fun hHeld => ?_)
      clear hKK KK
      refine wpAnyH_take (i := 9) (v := ?_) rfl (by kernel_rfl) (by kernel_rfl) (by kernel_rfl) (fun _ _ _ h => h) (Or.inl ⟨by rfl, ?_⟩) hHeld ?_
      rotate_left 1
      · intro w hSw
        try dsimp only at hSw
        first | (go_simp; done) | (go_simp; with_reducible rfl)
      simp only [Act.put, List.setIfInBounds_toArray, List.set_cons_zero, List.set_cons_succ, List.getElem_toArray, List.getElem_cons_zero, List.getElem_cons_succ]
      refine wpAnyH_done (by kernel_rfl) ?_ _
      clear c1 c2 X1 X2
      go_wp2
      go_roundw
      case rel => exact ⟨k + 1, by omega, by go_num, hb⟩
      case measure => simp [intOf]; omega
    · obtain rfl : k = n := by omega
      go_wp2
      go_ret
      exact ⟨rfl, hb⟩

end Go.Proofs.Ytikplcpgocgogaa
