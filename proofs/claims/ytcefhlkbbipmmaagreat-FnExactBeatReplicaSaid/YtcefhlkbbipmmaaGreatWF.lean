/- Chapter 9: empty lists marked and held by the laws; answers that have no list but Oks. -/
import Derived.Test.YtcefhlkbbipmmaaGreatWB
import Derived.Test.YtcefhlkbbipmmaaGreatFacts
import Derived.Test.YtcefhlkbbipmmaaGreatI5a
import Derived.Test.YtcefhlkbbipmmaaGreatWC
import Derived.Test.YtcefhlkbbipmmaaGreatWA
namespace Go.Proofs.YtcefhlkbbipmmaaGreat
open Go.RowKit

end Go.Proofs.YtcefhlkbbipmmaaGreat

/- Chapter 9: a new replica, of the model and of the program. -/
namespace Go.Proofs.YtcefhlkbbipmmaaGreat
open Go.RowKit

end Go.Proofs.YtcefhlkbbipmmaaGreat

/- Chapter 9: a new replica, of the model and of the program. -/
namespace Go.Proofs.YtcefhlkbbipmmaaGreat
open Go.RowKit

set_option maxRecDepth 20000 in
set_option maxHeartbeats 2000000 in
theorem answer_is (v0 v1 v2 : Int) (v3 : Bool) (v4 : Int) (v5 : Hd) (v6 : Int) (v7 v8 v9 v10 : Hd) (b : Nat) (w : World) (Y : Bx w b [.int .i64 v0, .int .i64 v1, .int .i64 v2, .bool v3, .int .i64 v4, .slice v5.1 v5.2.1 v5.2.2, .int .i64 v6, .slice v7.1 v7.2.1 v7.2.2, .slice v8.1 v8.2.1 v8.2.2, .slice v9.1 v9.2.1 v9.2.2, .slice v10.1 v10.2.1 v10.2.2]) :
    Calls Tryz.prog 44 #[.pointer (some ⟨b, 0, none⟩)] w fun e w' => e = .returned (.agg #[.int .i64 0, .int .i64 v0, .int .i64 v1, .int .i64 v2, .bool v3, .int .i64 v4, .slice v5.1 v5.2.1 v5.2.2, .int .i64 v6, .slice v7.1 v7.2.1 v7.2.2, .slice v8.1 v8.2.1 v8.2.2, .slice v9.1 v9.2.1 v9.2.2, .slice v10.1 v10.2.1 v10.2.2]) ∧ Below w.heap.size w w' := by
  have hbw := Y.lt
  go_enter Tryz.func44, Tryz.ntmps44
  go_wp2_with (first | ((with_reducible refine alloc_newX 40 [.int .i64 0, .int .i64 0, .int .i64 0, .int .i64 0, .bool false, .int .i64 0, .slice none 0 0, .int .i64 0, .slice none 0 0, .slice none 0 0, .slice none 0 0, .slice none 0 0] (fun _ => by kernel_rfl) ?_); intro b0 W0 N0; have ob0 : w.heap.size ≤ b0 := N0.ge; have B := N0.below; have X0 := N0.bx; have c0 := X0.cell; have f0 := X0.froz; clear N0) | fail)
  replace Y := Y.below B
  have DQ : Below W0.heap.size W0 W0.drew := (Below.refl _ _).drew
  replace X0 := X0.below DQ
  replace c0 := X0.cell
  replace f0 := X0.froz
  replace B := below_next B DQ
  clear DQ
  replace Y := Y.below (show Below W0.heap.size W0 W0.drew from (Below.refl _ _).drew)
  have cy := Y.cell
  refine wp_region_held_drew (S := (fun w' => ∀ k : Nat, w'.cell? ⟨b, k, none⟩ = [.int .i64 v0, .int .i64 v1, .int .i64 v2, .bool v3, .int .i64 v4, .slice v5.1 v5.2.1 v5.2.2, .int .i64 v6, .slice v7.1 v7.2.1 v7.2.2, .slice v8.1 v8.2.1 v8.2.2, .slice v9.1 v9.2.1 v9.2.2, .slice v10.1 v10.2.1 v10.2.2][k]?)) (by kernel_rfl) cy (fun hHeld => ?_)
  refine wpAnyH_take (i := 0) (v := ?_) rfl (by kernel_rfl) (by kernel_rfl) (by kernel_rfl) (fun _ _ _ h => h) (Or.inl ⟨by rfl, ?_⟩) hHeld ?_
  rotate_left 1
  · intro w hSw
    try dsimp only at hSw
    first | (go_simp; done) | (go_simp; with_reducible rfl)
  simp only [Act.put, List.setIfInBounds_toArray, List.set_cons_zero, List.set_cons_succ, List.getElem_toArray, List.getElem_cons_zero]
  refine wpAnyH_take (i := 1) (v := ?_) rfl (by kernel_rfl) (by kernel_rfl) (by kernel_rfl) (fun _ _ _ h => h) (Or.inl ⟨by rfl, ?_⟩) hHeld ?_
  rotate_left 1
  · intro w hSw
    try dsimp only at hSw
    first | (go_simp; done) | (go_simp; with_reducible rfl)
  simp only [Act.put, List.setIfInBounds_toArray, List.set_cons_zero, List.set_cons_succ, List.getElem_toArray, List.getElem_cons_zero, List.getElem_cons_succ]
  refine wpAnyH_take (i := 2) (v := ?_) rfl (by kernel_rfl) (by kernel_rfl) (by kernel_rfl) (fun _ _ _ h => h) (Or.inl ⟨by rfl, ?_⟩) hHeld ?_
  rotate_left 1
  · intro w hSw
    try dsimp only at hSw
    first | (go_simp; done) | (go_simp; with_reducible rfl)
  simp only [Act.put, List.setIfInBounds_toArray, List.set_cons_zero, List.set_cons_succ, List.getElem_toArray, List.getElem_cons_zero, List.getElem_cons_succ]
  refine wpAnyH_take (i := 3) (v := ?_) rfl (by kernel_rfl) (by kernel_rfl) (by kernel_rfl) (fun _ _ _ h => h) (Or.inl ⟨by rfl, ?_⟩) hHeld ?_
  rotate_left 1
  · intro w hSw
    try dsimp only at hSw
    first | (go_simp; done) | (go_simp; with_reducible rfl)
  simp only [Act.put, List.setIfInBounds_toArray, List.set_cons_zero, List.set_cons_succ, List.getElem_toArray, List.getElem_cons_zero, List.getElem_cons_succ]
  refine wpAnyH_take (i := 4) (v := ?_) rfl (by kernel_rfl) (by kernel_rfl) (by kernel_rfl) (fun _ _ _ h => h) (Or.inl ⟨by rfl, ?_⟩) hHeld ?_
  rotate_left 1
  · intro w hSw
    try dsimp only at hSw
    first | (go_simp; done) | (go_simp; with_reducible rfl)
  simp only [Act.put, List.setIfInBounds_toArray, List.set_cons_zero, List.set_cons_succ, List.getElem_toArray, List.getElem_cons_zero, List.getElem_cons_succ]
  refine wpAnyH_take (i := 5) (v := ?_) rfl (by kernel_rfl) (by kernel_rfl) (by kernel_rfl) (fun _ _ _ h => h) (Or.inl ⟨by rfl, ?_⟩) hHeld ?_
  rotate_left 1
  · intro w hSw
    try dsimp only at hSw
    first | (go_simp; done) | (go_simp; with_reducible rfl)
  simp only [Act.put, List.setIfInBounds_toArray, List.set_cons_zero, List.set_cons_succ, List.getElem_toArray, List.getElem_cons_zero, List.getElem_cons_succ]
  refine wpAnyH_take (i := 6) (v := ?_) rfl (by kernel_rfl) (by kernel_rfl) (by kernel_rfl) (fun _ _ _ h => h) (Or.inl ⟨by rfl, ?_⟩) hHeld ?_
  rotate_left 1
  · intro w hSw
    try dsimp only at hSw
    first | (go_simp; done) | (go_simp; with_reducible rfl)
  simp only [Act.put, List.setIfInBounds_toArray, List.set_cons_zero, List.set_cons_succ, List.getElem_toArray, List.getElem_cons_zero, List.getElem_cons_succ]
  refine wpAnyH_take (i := 7) (v := ?_) rfl (by kernel_rfl) (by kernel_rfl) (by kernel_rfl) (fun _ _ _ h => h) (Or.inl ⟨by rfl, ?_⟩) hHeld ?_
  rotate_left 1
  · intro w hSw
    try dsimp only at hSw
    first | (go_simp; done) | (go_simp; with_reducible rfl)
  simp only [Act.put, List.setIfInBounds_toArray, List.set_cons_zero, List.set_cons_succ, List.getElem_toArray, List.getElem_cons_zero, List.getElem_cons_succ]
  refine wpAnyH_take (i := 8) (v := ?_) rfl (by kernel_rfl) (by kernel_rfl) (by kernel_rfl) (fun _ _ _ h => h) (Or.inl ⟨by rfl, ?_⟩) hHeld ?_
  rotate_left 1
  · intro w hSw
    try dsimp only at hSw
    first | (go_simp; done) | (go_simp; with_reducible rfl)
  simp only [Act.put, List.setIfInBounds_toArray, List.set_cons_zero, List.set_cons_succ, List.getElem_toArray, List.getElem_cons_zero, List.getElem_cons_succ]
  refine wpAnyH_ready (rs := [9]) (by kernel_rfl) (by simp) ?_
  refine AllReadyH.cons rfl (fun KK hKK => ?_) AllReadyH.nil
  refine step_midX 40 X0 0 [.int .i64 0, .int .i64 v0, .int .i64 v1, .int .i64 v2, .bool v3, .int .i64 v4, .slice v5.1 v5.2.1 v5.2.2, .int .i64 v6, .slice v7.1 v7.2.1 v7.2.2, .slice v8.1 v8.2.1 v8.2.2, .slice v9.1 v9.2.1 v9.2.2, .slice v10.1 v10.2.1 v10.2.2] (by simp) (by kernel_rfl) (by simp [Value.oneCell']) rfl rfl ?_
  intro V1 S
  have cy := (Y.kept S.kept (by have := Y.lt; omega)).cell
  replace X0 : Bx V1 b0 [.int .i64 0, .int .i64 v0, .int .i64 v1, .int .i64 v2, .bool v3, .int .i64 v4, .slice v5.1 v5.2.1 v5.2.2, .int .i64 v6, .slice v7.1 v7.2.1 v7.2.2, .slice v8.1 v8.2.1 v8.2.2, .slice v9.1 v9.2.1 v9.2.2, .slice v10.1 v10.2.1 v10.2.2] := S.bx
  replace c0 := X0.cell
  replace f0 := X0.froz
  replace B := B.trans (S.kept.below _ (by omega) B.size)
  clear S
  clear hHeld
  refine hKK _ _ cy (fun hHeld => ?_)
  clear hKK KK
  refine wpAnyH_done (by kernel_rfl) ?_ _
  go_wp2
  refine bodyPost_ret (v := .agg #[.int .i64 0, .int .i64 v0, .int .i64 v1, .int .i64 v2, .bool v3, .int .i64 v4, .slice v5.1 v5.2.1 v5.2.2, .int .i64 v6, .slice v7.1 v7.2.1 v7.2.2, .slice v8.1 v8.2.1 v8.2.2, .slice v9.1 v9.2.1 v9.2.2, .slice v10.1 v10.2.1 v10.2.2]) (by simp [results, Tryz.results44, go_sem, *]) rfl ⟨rfl, B⟩

end Go.Proofs.YtcefhlkbbipmmaaGreat

/- Chapter 9: a new replica, of the model and of the program. -/
namespace Go.Proofs.YtcefhlkbbipmmaaGreat
open Go.RowKit

set_option maxRecDepth 20000 in
set_option maxHeartbeats 2000000 in
theorem l9Bad_is (c : Int) (w : World) : Calls Tryz.prog 46 #[.int .i64 c] w fun e w' => e = .returned (.agg #[.int .i64 c, .int .i64 0, .int .i64 0, .int .i64 0, .bool false, .int .i64 0, .slice none 0 0, .int .i64 0, .slice none 0 0, .slice none 0 0, .slice none 0 0, .slice none 0 0]) ∧ Below w.heap.size w w' := by
  go_enter Tryz.func46, Tryz.ntmps46
  go_wp2_with (first | ((with_reducible refine store_midX 40 X0 0 [.int .i64 c, .int .i64 0, .int .i64 0, .int .i64 0, .bool false, .int .i64 0, .slice none 0 0, .int .i64 0, .slice none 0 0, .slice none 0 0, .slice none 0 0, .slice none 0 0] (by simp) (by kernel_rfl) (by simp [Value.oneCell']) rfl rfl ?_); intro V1 S; replace X0 : Bx V1 b0 [.int .i64 c, .int .i64 0, .int .i64 0, .int .i64 0, .bool false, .int .i64 0, .slice none 0 0, .int .i64 0, .slice none 0 0, .slice none 0 0, .slice none 0 0, .slice none 0 0] := S.bx; replace c0 := X0.cell; replace f0 := X0.froz; replace B := B.trans (S.kept.below _ (by omega) B.size); clear S) | ((with_reducible refine alloc_newX 40 [.int .i64 0, .int .i64 0, .int .i64 0, .int .i64 0, .bool false, .int .i64 0, .slice none 0 0, .int .i64 0, .slice none 0 0, .slice none 0 0, .slice none 0 0, .slice none 0 0] (fun _ => by kernel_rfl) ?_); intro b0 W0 N0; have ob0 : w.heap.size ≤ b0 := N0.ge; have B := N0.below; have X0 := N0.bx; have c0 := X0.cell; have f0 := X0.froz; clear N0))
  refine bodyPost_ret (v := .agg #[.int .i64 c, .int .i64 0, .int .i64 0, .int .i64 0, .bool false, .int .i64 0, .slice none 0 0, .int .i64 0, .slice none 0 0, .slice none 0 0, .slice none 0 0, .slice none 0 0]) (by simp [results, Tryz.results46, go_sem, *]) rfl ⟨rfl, B⟩
end Go.Proofs.YtcefhlkbbipmmaaGreat
