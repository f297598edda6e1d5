/- Chapter 9: empty lists marked and held by the laws; answers that have no list but Oks. -/
import Derived.Test.YtikplcpgocgogaaWB
import Derived.Test.YtikplcpgocgogaaFacts
import Derived.Test.YtikplcpgocgogaaI5a
import Derived.Test.YtikplcpgocgogaaWC
import Derived.Test.YtikplcpgocgogaaWA
namespace Go.Proofs.Ytikplcpgocgogaa
open Go.RowKit

end Go.Proofs.Ytikplcpgocgogaa

/- Chapter 9: a new replica, of the model and of the program. -/
namespace Go.Proofs.Ytikplcpgocgogaa
open Go.RowKit

def newC (id size : Int) : Int := if (1 ≤ size ∧ size ≤ 5) ∧ (0 ≤ id ∧ id ≤ size - 1) then 0 else 3
def newRep (id size : Int) : Rep := if (1 ≤ size ∧ size ≤ 5) ∧ (0 ≤ id ∧ id ≤ size - 1) then ⟨id, size, 0, true, 0, [], 0, if id = 0 then List.replicate size.toNat 0 else [], [], []⟩ else rep0
end Go.Proofs.Ytikplcpgocgogaa

/- Chapter 9: a new replica, of the model and of the program. -/
namespace Go.Proofs.Ytikplcpgocgogaa
open Go.RowKit

set_option maxRecDepth 20000 in
set_option maxHeartbeats 2000000 in
theorem answer_is (v0 v1 v2 : Int) (v3 : Bool) (v4 : Int) (v5 : Hd) (v6 : Int) (v7 v8 v9 v10 : Hd) (b : Nat) (w : World) (Y : Bx w b [.int .i64 v0, .int .i64 v1, .int .i64 v2, .bool v3, .int .i64 v4, .slice v5.1 v5.2.1 v5.2.2, .int .i64 v6, .slice v7.1 v7.2.1 v7.2.2, .slice v8.1 v8.2.1 v8.2.2, .slice v9.1 v9.2.1 v9.2.2, .slice v10.1 v10.2.1 v10.2.2]) :
    Calls Try.prog 50 #[.pointer (some ⟨b, 0, none⟩)] w fun e w' => e = .returned (.agg #[.int .i64 0, .int .i64 v0, .int .i64 v1, .int .i64 v2, .bool v3, .int .i64 v4, .slice v5.1 v5.2.1 v5.2.2, .int .i64 v6, .slice v7.1 v7.2.1 v7.2.2, .slice v8.1 v8.2.1 v8.2.2, .slice v9.1 v9.2.1 v9.2.2, .slice v10.1 v10.2.1 v10.2.2]) ∧ Below w.heap.size w w' := by
  have hbw := Y.lt
  go_enter Try.func50, Try.ntmps50
  go_wp2_with (first | ((with_reducible refine alloc_newX 38 [.int .i64 0, .int .i64 0, .int .i64 0, .int .i64 0, .bool false, .int .i64 0, .slice none 0 0, .int .i64 0, .slice none 0 0, .slice none 0 0, .slice none 0 0, .slice none 0 0] (fun _ => by kernel_rfl) ?_); intro b0 W0 N0; have ob0 : w.heap.size ≤ b0 := N0.ge; have B := N0.below; have X0 := N0.bx; have c0 := X0.cell; have f0 := X0.froz; clear N0) | fail)
  replace Y := Y.below B
  have DQ : Below W0.heap.size W0 W0.drew := (Below.refl _ _).drew
  replace X0 := X0.below DQ
  replace c0 := X0.cell
  replace f0 := X0.froz
  replace B := below_next B DQ
  clear DQ
  replace Y := Y.below (show Below W0.heap.size W0 W0.drew from (Below.refl _ _).drew)
  have cy := Y.cell
  refine wp_region_held_drew (S := (fun w' => ∀ k : Nat, w'.cell? ⟨b, k, none⟩ = [.int .i64 v0, .int .i64 v1, .int .i64 v2, .bool v3, .int .i64 v4, .slice v5.1 v5.2.1 v5.2.2, .int .i64 v6, .slice v7.1 v7.2.1 v7.2.2, .slice v8.1 v8.2.1 v8.2.2, .slice v9.1 v9.2.1 v9.2.2, .slice v10.1 v10.2.1 v10.2.2][k]?)) (by kernel_rfl) cy (fun hHeld => ?_)
  refine wpAnyH_take (i := 0) (v := ?_) rfl (by kernel_rfl) (by kernel_rfl) (by kernel_rfl) (fun _ _ _ h => h) (Or.inl ⟨by rfl, ?_⟩) hHeld ?_
  rotate_left 1
  · intro w hSw
    try dsimp only at hSw
    first | (go_simp; done) | (go_simp; with_reducible rfl)
  simp only [Act.put, List.setIfInBounds_toArray, List.set_cons_zero, List.set_cons_succ, List.getElem_toArray, List.getElem_cons_zero]
  refine wpAnyH_take (i := 1) (v := ?_) rfl (by kernel_rfl) (by kernel_rfl) (by kernel_rfl) (fun _ _ _ h => h) (Or.inl ⟨by rfl, ?_⟩) hHeld ?_
  rotate_left 1
  · intro w hSw
    try dsimp only at hSw
    first | (go_simp; done) | (go_simp; with_reducible rfl)
  simp only [Act.put, List.setIfInBounds_toArray, List.set_cons_zero, List.set_cons_succ, List.getElem_toArray, List.getElem_cons_zero, List.getElem_cons_succ]
  refine wpAnyH_take (i := 2) (v := ?_) rfl (by kernel_rfl) (by kernel_rfl) (by kernel_rfl) (fun _ _ _ h => h) (Or.inl ⟨by rfl, ?_⟩) hHeld ?_
  rotate_left 1
  · intro w hSw
    try dsimp only at hSw
    first | (go_simp; done) | (go_simp; with_reducible rfl)
  simp only [Act.put, List.setIfInBounds_toArray, List.set_cons_zero, List.set_cons_succ, List.getElem_toArray, List.getElem_cons_zero, List.getElem_cons_succ]
  refine wpAnyH_take (i := 3) (v := ?_) rfl (by kernel_rfl) (by kernel_rfl) (by kernel_rfl) (fun _ _ _ h => h) (Or.inl ⟨by rfl, ?_⟩) hHeld ?_
  rotate_left 1
  · intro w hSw
    try dsimp only at hSw
    first | (go_simp; done) | (go_simp; with_reducible rfl)
  simp only [Act.put, List.setIfInBounds_toArray, List.set_cons_zero, List.set_cons_succ, List.getElem_toArray, List.getElem_cons_zero, List.getElem_cons_succ]
  refine wpAnyH_take (i := 4) (v := ?_) rfl (by kernel_rfl) (by kernel_rfl) (by kernel_rfl) (fun _ _ _ h => h) (Or.inl ⟨by rfl, ?_⟩) hHeld ?_
  rotate_left 1
  · intro w hSw
    try dsimp only at hSw
    first | (go_simp; done) | (go_simp; with_reducible rfl)
  simp only [Act.put, List.setIfInBounds_toArray, List.set_cons_zero, List.set_cons_succ, List.getElem_toArray, List.getElem_cons_zero, List.getElem_cons_succ]
  refine wpAnyH_take (i := 5) (v := ?_) rfl (by kernel_rfl) (by kernel_rfl) (by kernel_rfl) (fun _ _ _ h => h) (Or.inl ⟨by rfl, ?_⟩) hHeld ?_
  rotate_left 1
  · intro w hSw
    try dsimp only at hSw
    first | (go_simp; done) | (go_simp; with_reducible rfl)
  simp only [Act.put, List.setIfInBounds_toArray, List.set_cons_zero, List.set_cons_succ, List.getElem_toArray, List.getElem_cons_zero, List.getElem_cons_succ]
  refine wpAnyH_take (i := 6) (v := ?_) rfl (by kernel_rfl) (by kernel_rfl) (by kernel_rfl) (fun _ _ _ h => h) (Or.inl ⟨by rfl, ?_⟩) hHeld ?_
  rotate_left 1
  · intro w hSw
    try dsimp only at hSw
    first | (go_simp; done) | (go_simp; with_reducible rfl)
  simp only [Act.put, List.setIfInBounds_toArray, List.set_cons_zero, List.set_cons_succ, List.getElem_toArray, List.getElem_cons_zero, List.getElem_cons_succ]
  refine wpAnyH_take (i := 7) (v := ?_) rfl (by kernel_rfl) (by kernel_rfl) (by kernel_rfl) (fun _ _ _ h => h) (Or.inl ⟨by rfl, ?_⟩) hHeld ?_
  rotate_left 1
  · intro w hSw
    try dsimp only at hSw
    first | (go_simp; done) | (go_simp; with_reducible rfl)
  simp only [Act.put, List.setIfInBounds_toArray, List.set_cons_zero, List.set_cons_succ, List.getElem_toArray, List.getElem_cons_zero, List.getElem_cons_succ]
  refine wpAnyH_take (i := 8) (v := ?_) rfl (by kernel_rfl) (by kernel_rfl) (by kernel_rfl) (fun _ _ _ h => h) (Or.inl ⟨by rfl, ?_⟩) hHeld ?_
  rotate_left 1
  · intro w hSw
    try dsimp only at hSw
    first | (go_simp; done) | (go_simp; with_reducible rfl)
  simp only [Act.put, List.setIfInBounds_toArray, List.set_cons_zero, List.set_cons_succ, List.getElem_toArray, List.getElem_cons_zero, List.getElem_cons_succ]
  refine wpAnyH_ready (rs := [9]) (by kernel_rfl) (by simp) ?_
  refine AllReadyH.cons rfl (fun KK hKK => ?_) AllReadyH.nil
  refine step_midX 38 X0 0 [.int .i64 0, .int .i64 v0, .int .i64 v1, .int .i64 v2, .bool v3, .int .i64 v4, .slice v5.1 v5.2.1 v5.2.2, .int .i64 v6, .slice v7.1 v7.2.1 v7.2.2, .slice v8.1 v8.2.1 v8.2.2, .slice v9.1 v9.2.1 v9.2.2, .slice v10.1 v10.2.1 v10.2.2] (by simp) (by kernel_rfl) (by simp [Value.oneCell']) rfl rfl ?_
  intro V1 S
  have cy := (Y.kept S.kept (by have := Y.lt; omega)).cell
  replace X0 : Bx V1 b0 [.int .i64 0, .int .i64 v0, .int .i64 v1, .int .i64 v2, .bool v3, .int .i64 v4, .slice v5.1 v5.2.1 v5.2.2, .int .i64 v6, .slice v7.1 v7.2.1 v7.2.2, .slice v8.1 v8.2.1 v8.2.2, .slice v9.1 v9.2.1 v9.2.2, .slice v10.1 v10.2.1 v10.2.2] := S.bx
  replace c0 := X0.cell
  replace f0 := X0.froz
  replace B := B.trans (S.kept.below _ (by omega) B.size)
  clear S
  clear hHeld
  refine hKK _ _ cy (fun hHeld => ?_)
  clear hKK KK
  refine wpAnyH_done (by kernel_rfl) ?_ _
  go_wp2
  refine bodyPost_ret (v := .agg #[.int .i64 0, .int .i64 v0, .int .i64 v1, .int .i64 v2, .bool v3, .int .i64 v4, .slice v5.1 v5.2.1 v5.2.2, .int .i64 v6, .slice v7.1 v7.2.1 v7.2.2, .slice v8.1 v8.2.1 v8.2.2, .slice v9.1 v9.2.1 v9.2.2, .slice v10.1 v10.2.1 v10.2.2]) (by simp [results, Try.results50, go_sem, *]) rfl ⟨rfl, B⟩

end Go.Proofs.Ytikplcpgocgogaa

/- Chapter 9: a new replica, of the model and of the program. -/
namespace Go.Proofs.Ytikplcpgocgogaa
open Go.RowKit

set_option maxRecDepth 20000 in
set_option maxHeartbeats 2000000 in
theorem l9Bad_is (c : Int) (w : World) : Calls Try.prog 52 #[.int .i64 c] w fun e w' => e = .returned (.agg #[.int .i64 c, .int .i64 0, .int .i64 0, .int .i64 0, .bool false, .int .i64 0, .slice none 0 0, .int .i64 0, .slice none 0 0, .slice none 0 0, .slice none 0 0, .slice none 0 0]) ∧ Below w.heap.size w w' := by
  go_enter Try.func52, Try.ntmps52
  go_wp2_with (first | ((with_reducible refine store_midX 38 X0 0 [.int .i64 c, .int .i64 0, .int .i64 0, .int .i64 0, .bool false, .int .i64 0, .slice none 0 0, .int .i64 0, .slice none 0 0, .slice none 0 0, .slice none 0 0, .slice none 0 0] (by simp) (by kernel_rfl) (by simp [Value.oneCell']) rfl rfl ?_); intro V1 S; replace X0 : Bx V1 b0 [.int .i64 c, .int .i64 0, .int .i64 0, .int .i64 0, .bool false, .int .i64 0, .slice none 0 0, .int .i64 0, .slice none 0 0, .slice none 0 0, .slice none 0 0, .slice none 0 0] := S.bx; replace c0 := X0.cell; replace f0 := X0.froz; replace B := B.trans (S.kept.below _ (by omega) B.size); clear S) | ((with_reducible refine alloc_newX 38 [.int .i64 0, .int .i64 0, .int .i64 0, .int .i64 0, .bool false, .int .i64 0, .slice none 0 0, .int .i64 0, .slice none 0 0, .slice none 0 0, .slice none 0 0, .slice none 0 0] (fun _ => by kernel_rfl) ?_); intro b0 W0 N0; have ob0 : w.heap.size ≤ b0 := N0.ge; have B := N0.below; have X0 := N0.bx; have c0 := X0.cell; have f0 := X0.froz; clear N0))
  refine bodyPost_ret (v := .agg #[.int .i64 c, .int .i64 0, .int .i64 0, .int .i64 0, .bool false, .int .i64 0, .slice none 0 0, .int .i64 0, .slice none 0 0, .slice none 0 0, .slice none 0 0, .slice none 0 0]) (by simp [results, Try.results52, go_sem, *]) rfl ⟨rfl, B⟩
set_option maxRecDepth 20000 in
set_option maxHeartbeats 2000000 in
theorem specNewR_is (id size : Int) (w : World) (c : Int) (q : Rep) (hc : newC id size = c) (hq : newRep id size = q) : Calls Try.prog 43 #[.int .i64 id, .int .i64 size] w fun e w' => ∃ oa on oc, e = .returned (.agg #[.int .i64 c, .int .i64 q.id, .int .i64 q.size, .int .i64 q.view, .bool q.normal, .int .i64 q.last, .slice none 0 0, .int .i64 q.commit, .slice oa on oc, .slice none 0 0, .slice none 0 0, .slice none 0 0]) ∧ on ≤ 5 ∧ RowAt w' true w.heap.size w'.heap.size 1 oa on oc (ints q.oks) ∧ Below w.heap.size w w' := by
  unfold newC at hc
  unfold newRep at hq
  by_cases hs : 1 ≤ size ∧ size ≤ 5
  rotate_left 1
  · rw [if_neg (by omega)] at hc hq
    subst hc
    subst hq
    go_enter Try.func43, Try.ntmps43
    go_wp2_with (first | ((with_reducible refine alloc_newX 38 [.int .i64 0, .int .i64 0, .int .i64 0, .int .i64 0, .bool false, .int .i64 0, .slice none 0 0, .int .i64 0, .slice none 0 0, .slice none 0 0, .slice none 0 0, .slice none 0 0] (fun _ => by kernel_rfl) ?_); intro b0 W0 N0; have ob0 : w.heap.size ≤ b0 := N0.ge; have B := N0.below; have X0 := N0.bx; have c0 := X0.cell; have f0 := X0.froz; clear N0) | fail)
    refine (l1In_is' size 1 5 _ false (by simp only [decide_eq_false_eq]; exact hs)).mono ?_
    rintro e W9 ⟨rfl, rfl⟩
    go_wp2_with fail
    refine (l9Bad_is 3 _).mono ?_
    rintro e u1 ⟨rfl, BB⟩
    replace X0 := X0.below BB
    replace c0 := X0.cell
    replace f0 := X0.froz
    replace B := below_next B BB
    clear BB
    go_wp2_with (first | ((with_reducible refine store_midX 38 X0 0 [.int .i64 3, .int .i64 0, .int .i64 0, .int .i64 0, .bool false, .int .i64 0, .slice none 0 0, .int .i64 0, .slice none 0 0, .slice none 0 0, .slice none 0 0, .slice none 0 0] (by simp) (by kernel_rfl) (by simp [Value.oneCell']) rfl rfl ?_); intro V1 S; replace X0 : Bx V1 b0 [.int .i64 3, .int .i64 0, .int .i64 0, .int .i64 0, .bool false, .int .i64 0, .slice none 0 0, .int .i64 0, .slice none 0 0, .slice none 0 0, .slice none 0 0, .slice none 0 0] := S.bx; replace c0 := X0.cell; replace f0 := X0.froz; replace B := B.trans (S.kept.below _ (by omega) B.size); clear S))
    refine bodyPost_ret (v := .agg #[.int .i64 3, .int .i64 0, .int .i64 0, .int .i64 0, .bool false, .int .i64 0, .slice none 0 0, .int .i64 0, .slice none 0 0, .slice none 0 0, .slice none 0 0, .slice none 0 0]) (by simp [results, Try.results43, go_sem, *]) rfl ⟨none, 0, 0, rfl, by omega, RowAt.nilR _ _ _ _ _ _ _, B⟩
  by_cases hi : 0 ≤ id ∧ id ≤ size - 1
  rotate_left 1
  · rw [if_neg (by omega)] at hc hq
    subst hc
    subst hq
    have hw : IntKind.i64.wrap (size - 1) = size - 1 := wrapI_same _ (by omega)
    go_enter Try.func43, Try.ntmps43
    go_wp2_with (first | ((with_reducible refine alloc_newX 38 [.int .i64 0, .int .i64 0, .int .i64 0, .int .i64 0, .bool false, .int .i64 0, .slice none 0 0, .int .i64 0, .slice none 0 0, .slice none 0 0, .slice none 0 0, .slice none 0 0] (fun _ => by kernel_rfl) ?_); intro b0 W0 N0; have ob0 : w.heap.size ≤ b0 := N0.ge; have B := N0.below; have X0 := N0.bx; have c0 := X0.cell; have f0 := X0.froz; clear N0) | fail)
    refine (l1In_is' size 1 5 _ true (by simp only [decide_eq_true_eq]; exact hs)).mono ?_
    rintro e W9 ⟨rfl, rfl⟩
    go_wp2_with fail
    refine (l1In_is' id 0 (size - 1) _ false (by simp only [decide_eq_false_eq]; exact hi)).mono ?_
    rintro e W8 ⟨rfl, rfl⟩
    go_wp2_with fail
    refine (l9Bad_is 3 _).mono ?_
    rintro e u1 ⟨rfl, BB⟩
    replace X0 := X0.below BB
    replace c0 := X0.cell
    replace f0 := X0.froz
    replace B := below_next B BB
    clear BB
    go_wp2_with (first | ((with_reducible refine store_midX 38 X0 0 [.int .i64 3, .int .i64 0, .int .i64 0, .int .i64 0, .bool false, .int .i64 0, .slice none 0 0, .int .i64 0, .slice none 0 0, .slice none 0 0, .slice none 0 0, .slice none 0 0] (by simp) (by kernel_rfl) (by simp [Value.oneCell']) rfl rfl ?_); intro V1 S; replace X0 : Bx V1 b0 [.int .i64 3, .int .i64 0, .int .i64 0, .int .i64 0, .bool false, .int .i64 0, .slice none 0 0, .int .i64 0, .slice none 0 0, .slice none 0 0, .slice none 0 0, .slice none 0 0] := S.bx; replace c0 := X0.cell; replace f0 := X0.froz; replace B := B.trans (S.kept.below _ (by omega) B.size); clear S))
    refine bodyPost_ret (v := .agg #[.int .i64 3, .int .i64 0, .int .i64 0, .int .i64 0, .bool false, .int .i64 0, .slice none 0 0, .int .i64 0, .slice none 0 0, .slice none 0 0, .slice none 0 0, .slice none 0 0]) (by simp [results, Try.results43, go_sem, *]) rfl ⟨none, 0, 0, rfl, by omega, RowAt.nilR _ _ _ _ _ _ _, B⟩
  rw [if_pos ⟨hs, hi⟩] at hc hq
  subst hc
  subst hq
  have hw : IntKind.i64.wrap (size - 1) = size - 1 := wrapI_same _ (by omega)
  obtain ⟨m, rfl⟩ : ∃ m : Nat, size = m := ⟨size.toNat, by omega⟩
  obtain ⟨i0, hi0, hi1, hi2, hi3⟩ := info_parts Try.info2'
  have hmm : ((m : Int)).toNat = m := by simp
  rw [hmm]
  clear hmm
  by_cases h0 : id = 0
  · subst h0
    rw [if_pos rfl]
    go_enter Try.func43, Try.ntmps43
    go_wp2_with (first | ((with_reducible refine alloc_newX 38 [.int .i64 0, .int .i64 0, .int .i64 0, .int .i64 0, .bool false, .int .i64 0, .slice none 0 0, .int .i64 0, .slice none 0 0, .slice none 0 0, .slice none 0 0, .slice none 0 0] (fun _ => by kernel_rfl) ?_); intro b0 W0 N0; have ob0 : w.heap.size ≤ b0 := N0.ge; have B := N0.below; have X0 := N0.bx; have c0 := X0.cell; have f0 := X0.froz; clear N0) | fail)
    refine (l1In_is' m 1 5 _ true (by simp only [decide_eq_true_eq]; exact hs)).mono ?_
    rintro e W9 ⟨rfl, rfl⟩
    go_wp2_with fail
    refine (l1In_is' 0 0 (m - 1) _ true (by simp only [decide_eq_true_eq]; exact hi)).mono ?_
    rintro e W8 ⟨rfl, rfl⟩
    go_wp2_with (first | ((with_reducible refine store_midX 29 X1 0 [.int .i64 0, .int .i64 m, .int .i64 0, .bool true, .int .i64 0, .slice none 0 0, .int .i64 0, .slice none 0 0, .slice none 0 0, .slice none 0 0] (by simp) (by kernel_rfl) (by simp [Value.oneCell']) rfl rfl ?_); intro V1 S; replace X0 := X0.kept S.kept (by omega); replace c0 := X0.cell; replace f0 := X0.froz; replace X1 : Bx V1 b1 [.int .i64 0, .int .i64 m, .int .i64 0, .bool true, .int .i64 0, .slice none 0 0, .int .i64 0, .slice none 0 0, .slice none 0 0, .slice none 0 0] := S.bx; replace c1 := X1.cell; replace f1 := X1.froz; replace B := B.trans (S.kept.below _ (by omega) B.size); clear S) | ((have g := ob0); clear g; (with_reducible refine alloc_newX 29 [.int .i64 0, .int .i64 0, .int .i64 0, .bool false, .int .i64 0, .slice none 0 0, .int .i64 0, .slice none 0 0, .slice none 0 0, .slice none 0 0] (fun _ => by kernel_rfl) ?_); intro b1 W1 N1; have ob1 : w.heap.size ≤ b1 := Nat.le_trans B.size N1.ge; have o0_b1 : b0 < b1 := Nat.lt_of_lt_of_le X0.lt N1.ge; replace X0 := X0.below N1.below; replace c0 := X0.cell; replace f0 := X0.froz; replace B := below_next B N1.below; have X1 := N1.bx; have c1 := X1.cell; have f1 := X1.froz; clear N1) | (at_make; refine wpList_make_full _ rfl _ _ 25 rfl V1.heap.size 2 i0 (.int .i64 0) 1 Try.underlying25 hi0 hi1 hi2 _ _ _ _ m rfl rfl rfl rfl ?b1 ?b2 ?b3 ?_))
    case b1 => rw [hi3]; omega
    case b2 => unfold maxLen; omega
    case b3 => exact Nat.le_refl _
    intro w1 hown hgrow
    have BB : Below V1.heap.size V1 w1 := (Below.refl _ _).grown hgrow (Nat.le_refl _) (fun k hk => by cases hk)
    have hown' : w1.ownsRow V1.heap.size 2 1 (.slice (some ⟨V1.heap.size, 0, none⟩) m m) m (ints (List.replicate m 0)) := by simpa [Value.cells, toList_madeCells_one, ints] using hown
    have R := (RowAt.of_owns hown' (Nat.le_refl _)).tightG
    have lR := (owns_lt hown').2
    obtain ⟨g, hgl⟩ : ∃ g, g = V1.heap.size := ⟨_, rfl⟩
    rw [← hgl] at R lR
    rw [← hgl]
    have Gg : V1.heap.size ≤ g := Nat.le_of_eq hgl.symm
    clear hown hown' hgrow hgl
    have og : w.heap.size ≤ g := Nat.le_trans B.size Gg
    have o0_g : b0 < g := Nat.lt_of_lt_of_le X0.lt Gg
    have o1_g : b1 < g := Nat.lt_of_lt_of_le X1.lt Gg
    clear Gg
    replace X0 := X0.below BB
    replace c0 := X0.cell
    replace f0 := X0.froz
    replace X1 := X1.below BB
    replace c1 := X1.cell
    replace f1 := X1.froz
    replace B := below_next B BB
    clear BB
    go_wp2_with (first | ((with_reducible refine store_midX 38 X0 0 [.int .i64 0, .int .i64 0, .int .i64 m, .int .i64 0, .bool true, .int .i64 0, .slice none 0 0, .int .i64 0, .slice (some ⟨g, 0, none⟩) m m, .slice none 0 0, .slice none 0 0, .slice none 0 0] (by simp) (by kernel_rfl) (by simp [Value.oneCell']) rfl rfl ?_); intro V3 S; replace X0 : Bx V3 b0 [.int .i64 0, .int .i64 0, .int .i64 m, .int .i64 0, .bool true, .int .i64 0, .slice none 0 0, .int .i64 0, .slice (some ⟨g, 0, none⟩) m m, .slice none 0 0, .slice none 0 0, .slice none 0 0] := S.bx; replace c0 := X0.cell; replace f0 := X0.froz; replace X1 := X1.kept S.kept (by omega); replace c1 := X1.cell; replace f1 := X1.froz; replace R := R.kept S.kept (by omega); replace lR := Nat.lt_of_lt_of_le lR S.kept.size; replace B := B.trans (S.kept.below _ (by omega) B.size); clear S) | ((with_reducible refine store_oneX 25 X1 7 (.slice (some ⟨g, 0, none⟩) m m) (by simp) (by kernel_rfl) rfl rfl rfl ?_); intro V2 S; replace X0 := X0.kept S.kept (by omega); replace c0 := X0.cell; replace f0 := X0.froz; replace X1 : Bx V2 b1 [.int .i64 0, .int .i64 m, .int .i64 0, .bool true, .int .i64 0, .slice none 0 0, .int .i64 0, .slice (some ⟨g, 0, none⟩) m m, .slice none 0 0, .slice none 0 0] := S.bx; replace c1 := X1.cell; replace f1 := X1.froz; replace R := R.kept S.kept (by omega); replace lR := Nat.lt_of_lt_of_le lR S.kept.size; replace B := B.trans (S.kept.below _ (by omega) B.size); clear S))
    refine bodyPost_ret (v := .agg #[.int .i64 0, .int .i64 0, .int .i64 m, .int .i64 0, .bool true, .int .i64 0, .slice none 0 0, .int .i64 0, .slice (some ⟨g, 0, none⟩) m m, .slice none 0 0, .slice none 0 0, .slice none 0 0]) (by simp [results, Try.results43, go_sem, *]) rfl ⟨(some ⟨g, 0, none⟩), m, m, rfl, by omega, R.widen (by omega) (by omega), B⟩
  rw [if_neg h0]
  have hid : 1 ≤ id ∧ id ≤ 4 := by omega
  go_enter Try.func43, Try.ntmps43
  go_wp2_with (first | ((with_reducible refine alloc_newX 38 [.int .i64 0, .int .i64 0, .int .i64 0, .int .i64 0, .bool false, .int .i64 0, .slice none 0 0, .int .i64 0, .slice none 0 0, .slice none 0 0, .slice none 0 0, .slice none 0 0] (fun _ => by kernel_rfl) ?_); intro b0 W0 N0; have ob0 : w.heap.size ≤ b0 := N0.ge; have B := N0.below; have X0 := N0.bx; have c0 := X0.cell; have f0 := X0.froz; clear N0) | fail)
  refine (l1In_is' m 1 5 _ true (by simp only [decide_eq_true_eq]; exact hs)).mono ?_
  rintro e W9 ⟨rfl, rfl⟩
  go_wp2_with fail
  refine (l1In_is' id 0 (m - 1) _ true (by simp only [decide_eq_true_eq]; exact hi)).mono ?_
  rintro e W8 ⟨rfl, rfl⟩
  have h0' : (id == 0) = false := by simp [h0]
  go_wp2_with (first | ((with_reducible refine store_midX 38 X0 0 [.int .i64 0, .int .i64 id, .int .i64 m, .int .i64 0, .bool true, .int .i64 0, .slice none 0 0, .int .i64 0, .slice none 0 0, .slice none 0 0, .slice none 0 0, .slice none 0 0] (by simp) (by kernel_rfl) (by simp [Value.oneCell']) rfl rfl ?_); intro V2 S; replace X0 : Bx V2 b0 [.int .i64 0, .int .i64 id, .int .i64 m, .int .i64 0, .bool true, .int .i64 0, .slice none 0 0, .int .i64 0, .slice none 0 0, .slice none 0 0, .slice none 0 0, .slice none 0 0] := S.bx; replace c0 := X0.cell; replace f0 := X0.froz; replace X1 := X1.kept S.kept (by omega); replace c1 := X1.cell; replace f1 := X1.froz; replace B := B.trans (S.kept.below _ (by omega) B.size); clear S) | ((with_reducible refine store_midX 29 X1 0 [.int .i64 id, .int .i64 m, .int .i64 0, .bool true, .int .i64 0, .slice none 0 0, .int .i64 0, .slice none 0 0, .slice none 0 0, .slice none 0 0] (by simp) (by kernel_rfl) (by simp [Value.oneCell']) rfl rfl ?_); intro V1 S; replace X0 := X0.kept S.kept (by omega); replace c0 := X0.cell; replace f0 := X0.froz; replace X1 : Bx V1 b1 [.int .i64 id, .int .i64 m, .int .i64 0, .bool true, .int .i64 0, .slice none 0 0, .int .i64 0, .slice none 0 0, .slice none 0 0, .slice none 0 0] := S.bx; replace c1 := X1.cell; replace f1 := X1.froz; replace B := B.trans (S.kept.below _ (by omega) B.size); clear S) | ((have g := ob0); clear g; (with_reducible refine alloc_newX 29 [.int .i64 0, .int .i64 0, .int .i64 0, .bool false, .int .i64 0, .slice none 0 0, .int .i64 0, .slice none 0 0, .slice none 0 0, .slice none 0 0] (fun _ => by kernel_rfl) ?_); intro b1 W1 N1; have ob1 : w.heap.size ≤ b1 := Nat.le_trans B.size N1.ge; have o0_b1 : b0 < b1 := Nat.lt_of_lt_of_le X0.lt N1.ge; replace X0 := X0.below N1.below; replace c0 := X0.cell; replace f0 := X0.froz; replace B := below_next B N1.below; have X1 := N1.bx; have c1 := X1.cell; have f1 := X1.froz; clear N1))
  refine bodyPost_ret (v := .agg #[.int .i64 0, .int .i64 id, .int .i64 m, .int .i64 0, .bool true, .int .i64 0, .slice none 0 0, .int .i64 0, .slice none 0 0, .slice none 0 0, .slice none 0 0, .slice none 0 0]) (by simp [results, Try.results43, go_sem, *]) rfl ⟨none, 0, 0, rfl, by omega, RowAt.nilR _ _ _ _ _ _ _, B⟩

end Go.Proofs.Ytikplcpgocgogaa
