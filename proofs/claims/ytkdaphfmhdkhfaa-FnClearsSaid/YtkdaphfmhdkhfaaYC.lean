/- Chapter 4: all answers of the program; what a draw of a forest tells. -/
import Derived.Test.YtkdaphfmhdkhfaaZV
import Derived.Test.YtkdaphfmhdkhfaaZH
import Derived.Test.YtkdaphfmhdkhfaaYD
import Derived.Test.YtkdaphfmhdkhfaaYB
namespace Go.Proofs.Ytkdaphfmhdkhfaa
open Go.RowKit

def ClearDrawn (w w' : World) (e : Ending) : Prop := ∃ an nn cn ab nb cb K f root at', e = .returned (.tuple #[.agg #[.slice an nn cn, .slice ab nb cb], .int .i64 root, .int .i64 at']) ∧ FoAt w' false w.heap.size w'.heap.size an nn cn ab nb cb K f ∧ nn ≤ 2097152 ∧ nb ≤ 2097152 ∧ (∀ i, i < nn → (K i).2.1 ≤ 2097152) ∧ Below w.heap.size w w'
end Go.Proofs.Ytkdaphfmhdkhfaa

/- 'append([]byte{3}, code...)'. -/
namespace Go.Proofs.Ytkdaphfmhdkhfaa
open Go.RowKit

end Go.Proofs.Ytkdaphfmhdkhfaa

/- Chapter 4: how a forest, a root and a place are drawn. -/
namespace Go.Proofs.Ytkdaphfmhdkhfaa
open Go.RowKit

set_option maxRecDepth 20000 in
set_option maxHeartbeats 2000000 in
theorem l4At_any {o : Bool} {lo hi : Nat} (ac : Option Addr) (nc cc : Nat) (bs : List Nat) (w : World) (hr : RowAt w o lo hi 1 ac nc cc (bys bs)) (hb : ∀ i, bs.getD i 0 < 256) (hhi : hi ≤ w.heap.size) (hc : nc ≤ 1048576) :
    Calls Try.prog 162 #[.slice ac nc cc] w fun e w' => ClearDrawn w w' e := by
  have A0 : Below w.heap.size w (w.alloc (.cells #[.slice none 0 0, .slice none 0 0] 60)) := (Below.refl _ _).alloc (Nat.le_refl _) _
  have e0 : (w.alloc (.cells #[.slice none 0 0, .slice none 0 0] 60)).heap.size = w.heap.size + 1 := by simp
  go_enter Try.func162, Try.ntmps162
  go_wp2_with fail
  refine (l1Source_any _ _ _ _).mono ?_
  rintro e w1 ⟨rfl, s1, B1, z1⟩
  rw [e0] at s1 z1
  have R0 : w1.cell? ⟨w.heap.size, 0, none⟩ = some (.slice none 0 0) := cell_later B1 (by simp)
  have R1 : w1.cell? ⟨w.heap.size, 1, none⟩ = some (.slice none 0 0) := cell_later B1 (by simp)
  have F0 : w1.frozen? ⟨w.heap.size, 0, none⟩ = false := frozen_later B1 (by simp) (by simp)
  have F1 : w1.frozen? ⟨w.heap.size, 1, none⟩ = false := frozen_later B1 (by simp) (by simp)
  have B := below_next A0 B1
  have S1 : SB w1 (w.heap.size + 1) 0 ac nc cc bs := ⟨s1, ⟨_, _, _, hr.below B, Or.inl (by omega)⟩, hb, hc⟩
  have wl : w.heap.size < w1.heap.size := by omega
  have gl : w.heap.size + 1 + 1 ≤ w1.heap.size := by omega
  clear A0 e0 B1 s1
  go_wp2_with fail
  refine (l4Draw_any (w.heap.size + 1) 0 ac nc cc bs w1 S1 (by omega)).mono ?_
  rintro e w2 ⟨an, nn, cn, ab, nb, cb, K0, f, root, p2, rfl, RR, hn, hm, hK, hp2, S2, K⟩
  have HK : Hid _ := hK
  clear hK
  have gR : w.heap.size < w.heap.size + 1 := by omega
  have gB : w.heap.size ≤ w.heap.size + 1 := by omega
  have gd : w.heap.size + 1 + 1 ≤ w2.heap.size := Nat.le_trans gl K.size
  replace R0 := K.cell R0 (Or.inl gR)
  replace R1 := K.cell R1 (Or.inl gR)
  replace F0 := K.frozen wl (Or.inl gR) F0
  replace F1 := K.frozen wl (Or.inl gR) F1
  replace B := B.trans (K.below _ gB B.size)
  replace wl := Nat.lt_of_lt_of_le wl K.size
  clear K S1 z1
  obtain ⟨W, hW⟩ : ∃ W, W = (w2.alloc (.cells #[.slice an nn cn, .slice ab nb cb] 60)) := ⟨_, rfl⟩
  have A : Below w2.heap.size w2 W.drew := by rw [hW]; exact ((Below.refl _ _).alloc (Nat.le_refl _) _).drew
  have d0 : W.drew.cell? ⟨w2.heap.size, 0, none⟩ = some (.slice an nn cn) := by rw [hW]; simp
  have d1 : W.drew.cell? ⟨w2.heap.size, 1, none⟩ = some (.slice ab nb cb) := by rw [hW]; simp
  have wz : w2.heap.size + 1 ≤ W.drew.heap.size := by rw [hW]; simp
  replace S2 := S2.below A
  replace R0 := cell_later A R0
  replace R1 := cell_later A R1
  replace F0 := frozen_later A wl F0
  replace F1 := frozen_later A wl F1
  replace RR := RR.below A
  replace B := below_next B A
  replace wl := Nat.lt_of_lt_of_le wl A.size
  have H16 : Hid ((16 : Int) = ((16 : Nat) : Int)) := rfl
  have hso : ∀ (W : World) (k : Nat) (v : Value) (k' : Nat) (v' : Value) (i : Nat), ((W.setCell ⟨w.heap.size, k, none⟩ v).setCell ⟨w.heap.size, k', none⟩ v').cell? ⟨w2.heap.size, i, none⟩ = W.cell? ⟨w2.heap.size, i, none⟩ := fun W k v k' v' i => (World.cell?_setCell_other _ _ _ _ (by intro e; injection e with e _; omega)).trans (World.cell?_setCell_other _ _ _ _ (by intro e; injection e with e _; omega))
  clear A
  go_wp2_with fail
  rw [← hW]
  clear hW
  go_region_held3 (fun w' => w'.cell? ⟨w2.heap.size, 0, none⟩ = some (.slice an nn cn) ∧ w'.cell? ⟨w2.heap.size, 1, none⟩ = some (.slice ab nb cb)) (first | exact ⟨d0, d1⟩ | exact ⟨cell_later ((Below.refl _ _).alloc (Nat.le_refl _) _) d0, cell_later ((Below.refl _ _).alloc (Nat.le_refl _) _) d1⟩ | exact ⟨(hso _ _ _ _ _ _).trans d0, (hso _ _ _ _ _ _).trans d1⟩)
    (first | (go_at_call 138; (with_reducible refine (next_sb S2 16 H16.out (by omega) (by omega) (by omega)).mono ?_); rintro e w3 ⟨v1, hv1, rfl, S3, K, z⟩; replace d0 := K.cell d0 (Or.inr gd); replace d1 := K.cell d1 (Or.inr gd); replace R0 := K.cell R0 (Or.inl gR); replace R1 := K.cell R1 (Or.inl gR); replace F0 := K.frozen wl (Or.inl gR) F0; replace F1 := K.frozen wl (Or.inl gR) F1; replace RR := RR.kept K (Or.inr gl); replace B := B.trans (K.below _ gB B.size); replace wl := Nat.lt_of_lt_of_le wl K.size; replace wz := Nat.le_trans wz K.size; clear K z) | (go_at_call 138; (with_reducible refine (next_sb S3 16 H16.out (by omega) (by omega) (by omega)).mono ?_); rintro e w4 ⟨v2, hv2, rfl, S4, K, z⟩; replace d0 := K.cell d0 (Or.inr gd); replace d1 := K.cell d1 (Or.inr gd); replace R0 := K.cell R0 (Or.inl gR); replace R1 := K.cell R1 (Or.inl gR); replace F0 := K.frozen wl (Or.inl gR) F0; replace F1 := K.frozen wl (Or.inl gR) F1; replace RR := RR.kept K (Or.inr gl); replace B := B.trans (K.below _ gB B.size); replace wl := Nat.lt_of_lt_of_le wl K.size; replace wz := Nat.le_trans wz K.size; clear K z) | (go_at_call 138; (with_reducible refine (next_sb S4 16 H16.out (by omega) (by omega) (by omega)).mono ?_); rintro e w5 ⟨v3, hv3, rfl, S5, K, z⟩; replace d0 := K.cell d0 (Or.inr gd); replace d1 := K.cell d1 (Or.inr gd); replace R0 := K.cell R0 (Or.inl gR); replace R1 := K.cell R1 (Or.inl gR); replace F0 := K.frozen wl (Or.inl gR) F0; replace F1 := K.frozen wl (Or.inl gR) F1; replace RR := RR.kept K (Or.inr gl); replace B := B.trans (K.below _ gB B.size); replace wl := Nat.lt_of_lt_of_le wl K.size; replace wz := Nat.le_trans wz K.size; clear K z) | (go_at_call 150; have A5 : Below w5.heap.size w5 (w5.alloc (.cells #[.int .i64 v1, .int .i64 v2, .int .i64 v3, .int .i64 16, .int .i64 (-1)] 2)) := (Below.refl _ _).alloc (Nat.le_refl _) _; have rl := row_lit w5 [.int .i64 v1, .int .i64 v2, .int .i64 v3, .int .i64 16, .int .i64 (-1)] 2 5 1 rfl; (refine (pick_sb (S5.below A5) 5 rfl (by omega) (by omega) (by omega) _ _ [(v1 : Int), (v2 : Int), (v3 : Int), 16, -1] (by exact rl) (by omega)).mono ?_); rintro e w6 ⟨x, rfl, S6, K, z⟩; replace d0 := cell_later A5 d0; replace d1 := cell_later A5 d1; replace R0 := cell_later A5 R0; replace R1 := cell_later A5 R1; replace F0 := frozen_later A5 wl F0; replace F1 := frozen_later A5 wl F1; replace RR := RR.below A5; replace B := below_next B A5; replace wl := Nat.lt_of_lt_of_le wl A5.size; replace wz := Nat.le_trans wz A5.size; replace d0 := K.cell d0 (Or.inr gd); replace d1 := K.cell d1 (Or.inr gd); replace R0 := K.cell R0 (Or.inl gR); replace R1 := K.cell R1 (Or.inl gR); replace F0 := K.frozen wl (Or.inl gR) F0; replace F1 := K.frozen wl (Or.inl gR) F1; replace RR := RR.kept K (Or.inr gl); replace B := B.trans (K.below _ gB B.size); replace wl := Nat.lt_of_lt_of_le wl K.size; replace wz := Nat.le_trans wz K.size; clear K z rl))
  have K7 : Kept w.heap.size (w.heap.size + 1) w6 ((w6.setCell ⟨w.heap.size, 0, none⟩ (.slice an nn cn)).setCell ⟨w.heap.size, 1, none⟩ (.slice ab nb cb)) := by refine Kept.setCell (Kept.setCell (Kept.refl _ _ _) ?_ ?_ _) ?_ ?_ _ <;> simp
  have hs := K7.size
  go_wp2
  refine bodyPost_ret (v := .tuple #[.agg #[.slice an nn cn, .slice ab nb cb], .int .i64 root, .int .i64 x]) (by simp [results, Try.results162, go_sem, R0, R1]) rfl ?_
  refine ⟨an, nn, cn, ab, nb, cb, K0, f, root, _, rfl, (RR.kept K7 (Or.inr (by omega))).widen (by omega) (by omega), hn, hm, HK.out, B.trans (K7.below _ (Nat.le_refl _) (by omega))⟩

set_option maxRecDepth 20000 in
set_option maxHeartbeats 2000000 in
theorem drawClear_any {o : Bool} {lo hi : Nat} (ac : Option Addr) (nc cc : Nat) (bs : List Nat) (w : World) (hr : RowAt w o lo hi 1 ac nc cc (bys bs)) (hb : ∀ i, bs.getD i 0 < 256) (hhi : hi ≤ w.heap.size) (hc : nc ≤ 1048576) :
    Calls Try.prog 65 #[.slice ac nc cc] w fun e w' => ClearDrawn w w' e := by
  have A0 : Below w.heap.size w (w.alloc (.cells #[.slice none 0 0, .slice none 0 0] 60)) := (Below.refl _ _).alloc (Nat.le_refl _) _
  have e0 : (w.alloc (.cells #[.slice none 0 0, .slice none 0 0] 60)).heap.size = w.heap.size + 1 := by simp
  go_enter Try.func65, Try.ntmps65
  go_wp2_with fail
  refine (l4At_any ac nc cc bs _ (by exact hr.below A0) hb (by omega) hc).mono ?_
  rintro e w1 ⟨an, nn, cn, ab, nb, cb, K0, f, root, x, rfl, RR, hn, hm, hK, B1⟩
  have R0 : w1.cell? ⟨w.heap.size, 0, none⟩ = some (.slice none 0 0) := cell_later B1 (by simp)
  have R1 : w1.cell? ⟨w.heap.size, 1, none⟩ = some (.slice none 0 0) := cell_later B1 (by simp)
  have F0 : w1.frozen? ⟨w.heap.size, 0, none⟩ = false := frozen_later B1 (by simp) (by simp)
  have F1 : w1.frozen? ⟨w.heap.size, 1, none⟩ = false := frozen_later B1 (by simp) (by simp)
  have B := below_next A0 B1
  rw [e0] at RR
  have K7 : Kept w.heap.size (w.heap.size + 1) w1 ((w1.setCell ⟨w.heap.size, 0, none⟩ (.slice an nn cn)).setCell ⟨w.heap.size, 1, none⟩ (.slice ab nb cb)) := by refine Kept.setCell (Kept.setCell (Kept.refl _ _ _) ?_ ?_ _) ?_ ?_ _ <;> simp
  have hs := K7.size
  have HK : Hid _ := hK
  clear hK A0 B1
  go_wp2
  refine bodyPost_ret (v := .tuple #[.agg #[.slice an nn cn, .slice ab nb cb], .int .i64 root, .int .i64 x]) (by simp [results, Try.results65, go_sem, R0, R1]) rfl ?_
  exact ⟨an, nn, cn, ab, nb, cb, K0, f, root, x, rfl, (RR.kept K7 (Or.inr (by omega))).widen (by omega) (by omega), hn, hm, HK.out, B.trans (K7.below _ (Nat.le_refl _) B.size)⟩

end Go.Proofs.Ytkdaphfmhdkhfaa
