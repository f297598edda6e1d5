/- Chapter 9: empty lists marked and held by the laws; answers that have no list but Oks. -/
import Derived.Test.YtclghfoinologaaGreatI5a
set_option maxRecDepth 20000
set_option maxHeartbeats 16000000
namespace Go.Proofs.YtclghfoinologaaGreat
open Go.RowKit
def newRep (id size : Int) : Rep := if (1 ≤ size ∧ size ≤ 5) ∧ (0 ≤ id ∧ id ≤ size - 1) then ⟨id, size, 0, true, 0, [], 0, if id = 0 then List.replicate size.toNat 0 else [], [], []⟩ else rep0
theorem answer_is (v0 v1 v2 : Int) (v3 : Bool) (v4 : Int) (v5 : Hd) (v6 : Int) (v7 v8 v9 v10 : Hd) (b : Nat) (w : World) (Y : Bx w b [.int .i64 v0, .int .i64 v1, .int .i64 v2, .bool v3, .int .i64 v4, .slice v5.1 v5.2.1 v5.2.2, .int .i64 v6, .slice v7.1 v7.2.1 v7.2.2, .slice v8.1 v8.2.1 v8.2.2, .slice v9.1 v9.2.1 v9.2.2, .slice v10.1 v10.2.1 v10.2.2]) :
  Calls Tryz.prog 65 #[.pointer (some ⟨b, 0, none⟩)] w fun e w' => e = .returned (.agg #[.int .i64 0, .int .i64 v0, .int .i64 v1, .int .i64 v2, .bool v3, .int .i64 v4, .slice v5.1 v5.2.1 v5.2.2, .int .i64 v6, .slice v7.1 v7.2.1 v7.2.2, .slice v8.1 v8.2.1 v8.2.2, .slice v9.1 v9.2.1 v9.2.2, .slice v10.1 v10.2.1 v10.2.2]) ∧ Below w.heap.size w w' := by
 have hbw := Y.lt
 go_enter Tryz.func65, Tryz.ntmps65
 go_wp2_with (first | ((with_reducible refine al 65 [.int .i64 0, .int .i64 0, .int .i64 0, .int .i64 0, .bool false, .int .i64 0, .slice none 0 0, .int .i64 0, .slice none 0 0, .slice none 0 0, .slice none 0 0, .slice none 0 0] ?_);intro b0 W0 N0;have ob0 := N0.ge;have B := N0.below;obtain ⟨X0, c0, f0⟩ := N0.a;clear N0) | fail)
 replace Y := Y.below B
 have DQ : Below W0.heap.size W0 W0.drew := (Below.refl _ _).drew
 replace X0 := X0.below DQ;replace c0 := X0.cell;replace f0 := X0.froz;replace B := below_next B DQ;clear DQ
 replace Y := Y.below (show Below W0.heap.size W0 W0.drew from (Below.refl _ _).drew)
 have cy := Y.cell
 refine wp_region_held_drew (S := (fun w' => ∀ k : Nat, w'.cell? ⟨b, k, none⟩ = [.int .i64 v0, .int .i64 v1, .int .i64 v2, .bool v3, .int .i64 v4, .slice v5.1 v5.2.1 v5.2.2, .int .i64 v6, .slice v7.1 v7.2.1 v7.2.2, .slice v8.1 v8.2.1 v8.2.2, .slice v9.1 v9.2.1 v9.2.2, .slice v10.1 v10.2.1 v10.2.2][k]?)) (by kernel_rfl) cy (fun hZq => ?_)
 refine tk 0 hZq ?_;refine tk 1 hZq ?_;refine tk 2 hZq ?_;refine tk 3 hZq ?_;refine tk 4 hZq ?_;refine tk 5 hZq ?_;refine tk 6 hZq ?_;refine tk 7 hZq ?_;refine tk 8 hZq ?_
 refine rd1 9 (fun KK hKK => ?_)
 refine step_midX 65 X0 0 [.int .i64 0, .int .i64 v0, .int .i64 v1, .int .i64 v2, .bool v3, .int .i64 v4, .slice v5.1 v5.2.1 v5.2.2, .int .i64 v6, .slice v7.1 v7.2.1 v7.2.2, .slice v8.1 v8.2.1 v8.2.2, .slice v9.1 v9.2.1 v9.2.2, .slice v10.1 v10.2.1 v10.2.2] (by simp) (by kernel_rfl) (by simp [Value.oneCell']) rfl rfl ?_
 intro V1 S
 have cy := (Y.kept S.kept (by have := Y.lt;omega)).cell
 replace X0 : Bx V1 b0 [.int .i64 0, .int .i64 v0, .int .i64 v1, .int .i64 v2, .bool v3, .int .i64 v4, .slice v5.1 v5.2.1 v5.2.2, .int .i64 v6, .slice v7.1 v7.2.1 v7.2.2, .slice v8.1 v8.2.1 v8.2.2, .slice v9.1 v9.2.1 v9.2.2, .slice v10.1 v10.2.1 v10.2.2] := S.bx
 replace c0 := X0.cell;replace f0 := X0.froz;replace B := bkp B S.kept;clear S;clear hZq
 refine hKK _ _ cy (fun hZq => ?_)
 clear hKK KK
 refine wpAnyH_done (by kernel_rfl) ?_ _
 go_wp2
 refine bodyPost_ret (v := .agg #[.int .i64 0, .int .i64 v0, .int .i64 v1, .int .i64 v2, .bool v3, .int .i64 v4, .slice v5.1 v5.2.1 v5.2.2, .int .i64 v6, .slice v7.1 v7.2.1 v7.2.2, .slice v8.1 v8.2.1 v8.2.2, .slice v9.1 v9.2.1 v9.2.2, .slice v10.1 v10.2.1 v10.2.2]) (by simp [results, Tryz.results65, go_sem, *]) rfl ⟨rfl, B⟩
theorem l9Bad_is (c : Int) (w : World) : Calls Tryz.prog 52 #[.int .i64 c] w fun e w' => e = .returned (.agg #[.int .i64 c, .int .i64 0, .int .i64 0, .int .i64 0, .bool false, .int .i64 0, .slice none 0 0, .int .i64 0, .slice none 0 0, .slice none 0 0, .slice none 0 0, .slice none 0 0]) ∧ Below w.heap.size w w' := by
 go_enter Tryz.func52, Tryz.ntmps52
 go_wp2_with (first | ((with_reducible refine sm 65 X0 0 [.int .i64 c, .int .i64 0, .int .i64 0, .int .i64 0, .bool false, .int .i64 0, .slice none 0 0, .int .i64 0, .slice none 0 0, .slice none 0 0, .slice none 0 0, .slice none 0 0] ?_);intro V1 S;replace X0 : Bx V1 b0 [.int .i64 c, .int .i64 0, .int .i64 0, .int .i64 0, .bool false, .int .i64 0, .slice none 0 0, .int .i64 0, .slice none 0 0, .slice none 0 0, .slice none 0 0, .slice none 0 0] := S.bx;replace c0 := X0.cell;replace f0 := X0.froz;replace B := bkp B S.kept;clear S) | ((with_reducible refine al 65 [.int .i64 0, .int .i64 0, .int .i64 0, .int .i64 0, .bool false, .int .i64 0, .slice none 0 0, .int .i64 0, .slice none 0 0, .slice none 0 0, .slice none 0 0, .slice none 0 0] ?_);intro b0 W0 N0;have ob0 := N0.ge;have B := N0.below;obtain ⟨X0, c0, f0⟩ := N0.a;clear N0))
 refine bodyPost_ret (v := .agg #[.int .i64 c, .int .i64 0, .int .i64 0, .int .i64 0, .bool false, .int .i64 0, .slice none 0 0, .int .i64 0, .slice none 0 0, .slice none 0 0, .slice none 0 0, .slice none 0 0]) (by simp [results, Tryz.results52, go_sem, *]) rfl ⟨rfl, B⟩
end Go.Proofs.YtclghfoinologaaGreat
