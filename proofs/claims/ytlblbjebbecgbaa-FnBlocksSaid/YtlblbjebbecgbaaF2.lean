/- Chapter 3: what is drawn for a take. -/
import Derived.Test.YtlblbjebbecgbaaF1
namespace Go.Proofs.Ytlblbjebbecgbaa
open Go.RowKit

def TakeDrawn (w w' : World) (e : Ending) : Prop := ∃ ao n c bl x, e = .returned (.tuple #[.slice ao n c, .int .i64 x]) ∧ n ≤ 25 ∧ RowAt w' true w.heap.size w'.heap.size 2 ao n c (pairs bl) ∧ Below w.heap.size w w'
set_option maxRecDepth 20000 in
set_option maxHeartbeats 1000000 in
theorem drawTake_any {o : Bool} {lo hi : Nat} (ac : Option Addr) (nc cc : Nat) (bs : List Nat) (w : World) (hr : RowAt w o lo hi 1 ac nc cc (bys bs)) (hb : ∀ i, bs.getD i 0 < 256) (hhi : hi ≤ w.heap.size) (hc : nc ≤ 1048576) :
    Calls Try.prog 29 #[.slice ac nc cc] w fun e w' => TakeDrawn w w' e := by
  go_enter Try.func29, Try.ntmps29
  go_wp2_with fail
  refine (l1Source_any _ _ _ _).mono ?_
  rintro e w1 ⟨rfl, s1, B1, z1⟩
  have S1 : SB w1 w.heap.size 0 ac nc cc bs := ⟨s1, ⟨_, _, _, hr.below B1, Or.inl hhi⟩, hb, hc⟩
  have hz1 := Nat.le_of_eq z1.symm
  clear s1 z1
  go_wp2_with fail
  refine (l3Blocks_any w.heap.size 0 ac nc cc bs w1 S1 (by omega)).mono ?_
  rintro e w2 ⟨ra, rn, rc, bl, p2, rfl, hr5, hp2, RR, S2, K2⟩
  have B2 : Below w.heap.size w w2 := B1.trans (K2.below _ (Nat.le_refl _) B1.size)
  have hs2 := K2.size
  clear S1 B1 K2
  go_wp2_with fail
  refine (big_sb S2 256 rfl (by omega) (by omega) (by omega)).mono ?_
  rintro e w3 ⟨y1, rfl, S3, K3, z3⟩
  have B3 : Below w.heap.size w w3 := B2.trans (K3.below _ (Nat.le_refl _) B2.size)
  replace RR := RR.kept K3 (by omega)
  have hs3 := Nat.le_of_eq z3.symm
  clear S2 K3 z3 B2
  go_wp2_with fail
  refine (big_sb S3 256 rfl (by omega) (by omega) (by omega)).mono ?_
  rintro e w4 ⟨y2, rfl, S4, K4, z4⟩
  have B4 : Below w.heap.size w w4 := B3.trans (K4.below _ (Nat.le_refl _) B3.size)
  replace RR := RR.kept K4 (by omega)
  have hs4 := Nat.le_of_eq z4.symm
  clear S3 K4 z4 B3
  have A : Below w4.heap.size w4 (w4.alloc (.cells #[.int .i64 y1, .int .i64 y2, .int .i64 256, .int .i64 (-1)] 2)) := (Below.refl _ _).alloc (Nat.le_refl _) _
  have rl := row_lit w4 [.int .i64 y1, .int .i64 y2, .int .i64 256, .int .i64 (-1)] 2 4 1 rfl
  have hA := A.size
  go_wp2_with fail
  refine (pick_sb (S4.below A) 4 rfl (by omega) (by omega) (by omega) _ _ [y1, y2, 256, -1] (by exact rl) (by omega)).mono ?_
  rintro e w5 ⟨x, rfl, S5, K5, z5⟩
  have B5 : Below w.heap.size w w5 := (below_next B4 A).trans (K5.below _ (Nat.le_refl _) (by omega))
  replace RR := (RR.below A).kept K5 (by omega)
  have hs5 := K5.size
  clear S4 S5 K5 z5 B4 A rl
  go_wp2
  go_ret2
  exact ⟨_, _, _, bl, x, rfl, hr5, RR.widen (by omega) (by omega), B5⟩

end Go.Proofs.Ytlblbjebbecgbaa
