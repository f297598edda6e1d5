/- Chapter 4: all answers of the program; what a draw of a forest tells. -/
import Derived.Test.YtkdaphfmhdkhfaaZV
import Derived.Test.YtkdaphfmhdkhfaaZH
import Derived.Test.YtkdaphfmhdkhfaaYD
import Derived.Test.YtkdaphfmhdkhfaaYB
namespace Go.Proofs.Ytkdaphfmhdkhfaa
open Go.RowKit

def ClearDrawn (w w' : World) (e : Ending) : Prop := ∃ an nn cn ab nb cb K f root at', e = .returned (.tuple #[.agg #[.slice an nn cn, .slice ab nb cb], .int .i64 root, .int .i64 at']) ∧ FoAt w' false w.heap.size w'.heap.size an nn cn ab nb cb K f ∧ nn ≤ 2097152 ∧ nb ≤ 2097152 ∧ (∀ i, i < nn → (K i).2.1 ≤ 2097152) ∧ Below w.heap.size w w'
def SetDrawn (w w' : World) (e : Ending) : Prop := ∃ an nn cn ab nb cb K f root at' x, e = .returned (.tuple #[.agg #[.slice an nn cn, .slice ab nb cb], .int .i64 root, .int .i64 at', .int .i64 x]) ∧ FoAt w' false w.heap.size w'.heap.size an nn cn ab nb cb K f ∧ nn ≤ 2097152 ∧ nb ≤ 2097152 ∧ (∀ i, i < nn → (K i).2.1 ≤ 2097152) ∧ Below w.heap.size w w'

end Go.Proofs.Ytkdaphfmhdkhfaa

/- 'append([]byte{3}, code...)'. -/
namespace Go.Proofs.Ytkdaphfmhdkhfaa
open Go.RowKit

theorem Try.infoU8 : (Try.prog.info? 5).map (fun i => (i.zero, i.size, i.bytes)) = some (some (.int .u8 0), 1, 1) := by kernel_rfl
theorem append_code {o : Bool} {lo hi : Nat} (ac : Option Addr) (nc cc : Nat) (bs : List Nat) (w : World) (hr : RowAt w o lo hi 1 ac nc cc (bys bs)) (hc : nc ≤ 1048576) :
    ∃ ad cap w', (∀ ty, (Builtin.append_ #[22, 22] ty #[.slice (some ⟨w.heap.size, 0, none⟩) 1 1, .slice ac nc cc]).run Try.prog (w.alloc (.cells #[.int .u8 3] 5)) = .ok (.slice ad (1 + nc) cap) w') ∧ RowAt w' true w.heap.size w'.heap.size 1 ad (1 + nc) cap (bys (3 :: bs)) ∧ Below w.heap.size w w' := by
  obtain ⟨j0, hj0, hy0, hy1, hy2⟩ := info_parts Try.infoU8
  have A : Below w.heap.size w (w.alloc (.cells #[.int .u8 3] 5)) := (Below.refl _ _).alloc (Nat.le_refl _) _
  have O : (w.alloc (.cells #[.int .u8 3] 5)).ownsRow w.heap.size 5 1 (.slice (some ⟨w.heap.size, 0, none⟩) 1 1) 1 [.int .u8 3] := World.ownsRow_lit w #[.int .u8 3] 1 (Nat.le_refl _) (by decide) rfl
  have hr' := hr.below A
  have hl := hr.nBytes
  cases ac with
  | none =>
    have h0 : nc = 0 := by
      by_cases h : nc = 0
      · exact h
      · obtain ⟨_, _, e, _⟩ := hr.cells h
        cases e
    subst h0
    have hbs : bs = [] := List.eq_nil_of_length_eq_zero hl
    subst hbs
    obtain ⟨_, _, e', R⟩ := RowAt.of_owned O
    cases e'
    exact ⟨_, _, _, fun ty => run_append_none _ ty j0 Try.underlying22 hj0 O cc, R, A⟩
  | some ad =>
    have key : ∀ ty, ∃ v' w', (Builtin.append_ #[22, 22] ty #[.slice (some ⟨w.heap.size, 0, none⟩) 1 1, .slice (some ad) nc cc]).run Try.prog (w.alloc (.cells #[.int .u8 3] 5)) = .ok v' w' ∧ w'.ownsRow w.heap.size 5 1 v' (1 + nc) ([.int .u8 3] ++ bys bs) ∧ Below w.heap.size w w' := fun ty => by
      obtain ⟨v', w', h1, h2, h3, _, _⟩ := run_append_own_at (P := Try.prog) (w.alloc (.cells #[.int .u8 3] 5)) w.heap.size 22 ty 5 j0 (.int .u8 0) 1 1 Try.underlying22 hj0 hy0 hy1 hy2 rfl (by decide) _ 1 _ O ad nc cc (bys bs) (by rw [bys_length, hl, Nat.mul_one]) (fun j u hj => by
        have hj' := (List.getElem?_eq_some_iff.1 hj).1
        rw [bys_length, hl] at hj'
        obtain ⟨b, off, e', _, _, _, hcell, _⟩ := hr'.cells (by omega)
        cases e'
        rw [show (⟨b, off, none⟩ : Addr).add j = ⟨b, off + j, none⟩ by simp [Addr.add], hcell j (by omega)]
        simp [List.getD, hj]) (fun u hu => by
        simp only [bys, List.mem_map] at hu
        obtain ⟨_, _, rfl⟩ := hu
        rfl) (by unfold maxLen; omega) (by omega) A.size
      exact ⟨v', w', h1, h2, A.grown h3 A.size (fun k hk => by cases hk; exact Nat.le_refl _)⟩
    obtain ⟨v1, w1, h1, h2, h3⟩ := key 0
    obtain ⟨ao, cp, rfl, R⟩ := RowAt.of_owned h2
    refine ⟨ao, cp, w1, fun ty => ?_, R, h3⟩
    exact h1

end Go.Proofs.Ytkdaphfmhdkhfaa

/- Chapter 4: how a forest, a root and a place are drawn. -/
namespace Go.Proofs.Ytkdaphfmhdkhfaa
open Go.RowKit

set_option maxRecDepth 20000 in
set_option maxHeartbeats 2000000 in
theorem l4At_any {o : Bool} {lo hi : Nat} (ac : Option Addr) (nc cc : Nat) (bs : List Nat) (w : World) (hr : RowAt w o lo hi 1 ac nc cc (bys bs)) (hb : ∀ i, bs.getD i 0 < 256) (hhi : hi ≤ w.heap.size) (hc : nc ≤ 1048576) :
    Calls Try.prog 162 #[.slice ac nc cc] w fun e w' => ClearDrawn w w' e := by
  have A0 : Below w.heap.size w (w.alloc (.cells #[.slice none 0 0, .slice none 0 0] 60)) := (Below.refl _ _).alloc (Nat.le_refl _) _
  have e0 : (w.alloc (.cells #[.slice none 0 0, .slice none 0 0] 60)).heap.size = w.heap.size + 1 := by simp
  go_enter Try.func162, Try.ntmps162
  go_wp2_with fail
  refine (l1Source_any _ _ _ _).mono ?_
  rintro e w1 ⟨rfl, s1, B1, z1⟩
  rw [e0] at s1 z1
  have R0 : w1.cell? ⟨w.heap.size, 0, none⟩ = some (.slice none 0 0) := cell_later B1 (by simp)
  have R1 : w1.cell? ⟨w.heap.size, 1, none⟩ = some (.slice none 0 0) := cell_later B1 (by simp)
  have F0 : w1.frozen? ⟨w.heap.size, 0, none⟩ = false := frozen_later B1 (by simp) (by simp)
  have F1 : w1.frozen? ⟨w.heap.size, 1, none⟩ = false := frozen_later B1 (by simp) (by simp)
  have B := below_next A0 B1
  have S1 : SB w1 (w.heap.size + 1) 0 ac nc cc bs := ⟨s1, ⟨_, _, _, hr.below B, Or.inl (by omega)⟩, hb, hc⟩
  have wl : w.heap.size < w1.heap.size := by omega
  have gl : w.heap.size + 1 + 1 ≤ w1.heap.size := by omega
  clear A0 e0 B1 s1
  go_wp2_with fail
  refine (l4Draw_any (w.heap.size + 1) 0 ac nc cc bs w1 S1 (by omega)).mono ?_
  rintro e w2 ⟨an, nn, cn, ab, nb, cb, K0, f, root, p2, rfl, RR, hn, hm, hK, hp2, S2, K⟩
  have HK : Hid _ := hK
  clear hK
  have gR : w.heap.size < w.heap.size + 1 := by omega
  have gB : w.heap.size ≤ w.heap.size + 1 := by omega
  have gd : w.heap.size + 1 + 1 ≤ w2.heap.size := Nat.le_trans gl K.size
  replace R0 := K.cell R0 (Or.inl gR)
  replace R1 := K.cell R1 (Or.inl gR)
  replace F0 := K.frozen wl (Or.inl gR) F0
  replace F1 := K.frozen wl (Or.inl gR) F1
  replace B := B.trans (K.below _ gB B.size)
  replace wl := Nat.lt_of_lt_of_le wl K.size
  clear K S1 z1
  obtain ⟨W, hW⟩ : ∃ W, W = (w2.alloc (.cells #[.slice an nn cn, .slice ab nb cb] 60)) := ⟨_, rfl⟩
  have A : Below w2.heap.size w2 W.drew := by rw [hW]; exact ((Below.refl _ _).alloc (Nat.le_refl _) _).drew
  have d0 : W.drew.cell? ⟨w2.heap.size, 0, none⟩ = some (.slice an nn cn) := by rw [hW]; simp
  have d1 : W.drew.cell? ⟨w2.heap.size, 1, none⟩ = some (.slice ab nb cb) := by rw [hW]; simp
  have wz : w2.heap.size + 1 ≤ W.drew.heap.size := by rw [hW]; simp
  replace S2 := S2.below A
  replace R0 := cell_later A R0
  replace R1 := cell_later A R1
  replace F0 := frozen_later A wl F0
  replace F1 := frozen_later A wl F1
  replace RR := RR.below A
  replace B := below_next B A
  replace wl := Nat.lt_of_lt_of_le wl A.size
  have H16 : Hid ((16 : Int) = ((16 : Nat) : Int)) := rfl
  have hso : ∀ (W : World) (k : Nat) (v : Value) (k' : Nat) (v' : Value) (i : Nat), ((W.setCell ⟨w.heap.size, k, none⟩ v).setCell ⟨w.heap.size, k', none⟩ v').cell? ⟨w2.heap.size, i, none⟩ = W.cell? ⟨w2.heap.size, i, none⟩ := fun W k v k' v' i => (World.cell?_setCell_other _ _ _ _ (by intro e; injection e with e _; omega)).trans (World.cell?_setCell_other _ _ _ _ (by intro e; injection e with e _; omega))
  clear A
  go_wp2_with fail
  rw [← hW]
  clear hW
  go_region_held3 (fun w' => w'.cell? ⟨w2.heap.size, 0, none⟩ = some (.slice an nn cn) ∧ w'.cell? ⟨w2.heap.size, 1, none⟩ = some (.slice ab nb cb)) (first | exact ⟨d0, d1⟩ | exact ⟨cell_later ((Below.refl _ _).alloc (Nat.le_refl _) _) d0, cell_later ((Below.refl _ _).alloc (Nat.le_refl _) _) d1⟩ | exact ⟨(hso _ _ _ _ _ _).trans d0, (hso _ _ _ _ _ _).trans d1⟩)
    (first | (go_at_call 138; (with_reducible refine (next_sb S2 16 H16.out (by omega) (by omega) (by omega)).mono ?_); rintro e w3 ⟨v1, hv1, rfl, S3, K, z⟩; replace d0 := K.cell d0 (Or.inr gd); replace d1 := K.cell d1 (Or.inr gd); replace R0 := K.cell R0 (Or.inl gR); replace R1 := K.cell R1 (Or.inl gR); replace F0 := K.frozen wl (Or.inl gR) F0; replace F1 := K.frozen wl (Or.inl gR) F1; replace RR := RR.kept K (Or.inr gl); replace B := B.trans (K.below _ gB B.size); replace wl := Nat.lt_of_lt_of_le wl K.size; replace wz := Nat.le_trans wz K.size; clear K z) | (go_at_call 138; (with_reducible refine (next_sb S3 16 H16.out (by omega) (by omega) (by omega)).mono ?_); rintro e w4 ⟨v2, hv2, rfl, S4, K, z⟩; replace d0 := K.cell d0 (Or.inr gd); replace d1 := K.cell d1 (Or.inr gd); replace R0 := K.cell R0 (Or.inl gR); replace R1 := K.cell R1 (Or.inl gR); replace F0 := K.frozen wl (Or.inl gR) F0; replace F1 := K.frozen wl (Or.inl gR) F1; replace RR := RR.kept K (Or.inr gl); replace B := B.trans (K.below _ gB B.size); replace wl := Nat.lt_of_lt_of_le wl K.size; replace wz := Nat.le_trans wz K.size; clear K z) | (go_at_call 138; (with_reducible refine (next_sb S4 16 H16.out (by omega) (by omega) (by omega)).mono ?_); rintro e w5 ⟨v3, hv3, rfl, S5, K, z⟩; replace d0 := K.cell d0 (Or.inr gd); replace d1 := K.cell d1 (Or.inr gd); replace R0 := K.cell R0 (Or.inl gR); replace R1 := K.cell R1 (Or.inl gR); replace F0 := K.frozen wl (Or.inl gR) F0; replace F1 := K.frozen wl (Or.inl gR) F1; replace RR := RR.kept K (Or.inr gl); replace B := B.trans (K.below _ gB B.size); replace wl := Nat.lt_of_lt_of_le wl K.size; replace wz := Nat.le_trans wz K.size; clear K z) | (go_at_call 150; have A5 : Below w5.heap.size w5 (w5.alloc (.cells #[.int .i64 v1, .int .i64 v2, .int .i64 v3, .int .i64 16, .int .i64 (-1)] 2)) := (Below.refl _ _).alloc (Nat.le_refl _) _; have rl := row_lit w5 [.int .i64 v1, .int .i64 v2, .int .i64 v3, .int .i64 16, .int .i64 (-1)] 2 5 1 rfl; (refine (pick_sb (S5.below A5) 5 rfl (by omega) (by omega) (by omega) _ _ [(v1 : Int), (v2 : Int), (v3 : Int), 16, -1] (by exact rl) (by omega)).mono ?_); rintro e w6 ⟨x, rfl, S6, K, z⟩; replace d0 := cell_later A5 d0; replace d1 := cell_later A5 d1; replace R0 := cell_later A5 R0; replace R1 := cell_later A5 R1; replace F0 := frozen_later A5 wl F0; replace F1 := frozen_later A5 wl F1; replace RR := RR.below A5; replace B := below_next B A5; replace wl := Nat.lt_of_lt_of_le wl A5.size; replace wz := Nat.le_trans wz A5.size; replace d0 := K.cell d0 (Or.inr gd); replace d1 := K.cell d1 (Or.inr gd); replace R0 := K.cell R0 (Or.inl gR); replace R1 := K.cell R1 (Or.inl gR); replace F0 := K.frozen wl (Or.inl gR) F0; replace F1 := K.frozen wl (Or.inl gR) F1; replace RR := RR.kept K (Or.inr gl); replace B := B.trans (K.below _ gB B.size); replace wl := Nat.lt_of_lt_of_le wl K.size; replace wz := Nat.le_trans wz K.size; clear K z rl))
  have K7 : Kept w.heap.size (w.heap.size + 1) w6 ((w6.setCell ⟨w.heap.size, 0, none⟩ (.slice an nn cn)).setCell ⟨w.heap.size, 1, none⟩ (.slice ab nb cb)) := by refine Kept.setCell (Kept.setCell (Kept.refl _ _ _) ?_ ?_ _) ?_ ?_ _ <;> simp
  have hs := K7.size
  go_wp2
  refine bodyPost_ret (v := .tuple #[.agg #[.slice an nn cn, .slice ab nb cb], .int .i64 root, .int .i64 x]) (by simp [results, Try.results162, go_sem, R0, R1]) rfl ?_
  refine ⟨an, nn, cn, ab, nb, cb, K0, f, root, _, rfl, (RR.kept K7 (Or.inr (by omega))).widen (by omega) (by omega), hn, hm, HK.out, B.trans (K7.below _ (Nat.le_refl _) (by omega))⟩

set_option maxRecDepth 20000 in
set_option maxHeartbeats 1000000 in
theorem drawSet_any {o : Bool} {lo hi : Nat} (ac : Option Addr) (nc cc : Nat) (bs : List Nat) (w : World) (hr : RowAt w o lo hi 1 ac nc cc (bys bs)) (hb : ∀ i, bs.getD i 0 < 256) (hhi : hi ≤ w.heap.size) (hc : nc ≤ 1048576) :
    Calls Try.prog 55 #[.slice ac nc cc] w fun e w' => SetDrawn w w' e := by
  have A0 : Below w.heap.size w (w.alloc (.cells #[.slice none 0 0, .slice none 0 0] 60)) := (Below.refl _ _).alloc (Nat.le_refl _) _
  have e0 : (w.alloc (.cells #[.slice none 0 0, .slice none 0 0] 60)).heap.size = w.heap.size + 1 := by simp
  go_enter Try.func55, Try.ntmps55
  go_wp2_with fail
  refine (l4At_any ac nc cc bs _ (by exact hr.below A0) hb (by omega) hc).mono ?_
  rintro e w1 ⟨an, nn, cn, ab, nb, cb, K0, f, root, at', rfl, RR, hn, hm, hK, B1⟩
  have R0 : w1.cell? ⟨w.heap.size, 0, none⟩ = some (.slice none 0 0) := cell_later B1 (by simp)
  have R1 : w1.cell? ⟨w.heap.size, 1, none⟩ = some (.slice none 0 0) := cell_later B1 (by simp)
  have F0 : w1.frozen? ⟨w.heap.size, 0, none⟩ = false := frozen_later B1 (by simp) (by simp)
  have F1 : w1.frozen? ⟨w.heap.size, 1, none⟩ = false := frozen_later B1 (by simp) (by simp)
  have B := below_next A0 B1
  rw [e0] at RR
  have wl : w.heap.size < w1.heap.size := by have := B1.size; omega
  have gw := wl
  have HK : Hid _ := hK
  clear hK A0 B1 e0
  have A : Below w1.heap.size w1 (w1.alloc (.cells #[.slice an nn cn, .slice ab nb cb] 60)) := (Below.refl _ _).alloc (Nat.le_refl _) _
  have d0 : (w1.alloc (.cells #[.slice an nn cn, .slice ab nb cb] 60)).cell? ⟨w1.heap.size, 0, none⟩ = some (.slice an nn cn) := by simp
  have d1 : (w1.alloc (.cells #[.slice an nn cn, .slice ab nb cb] 60)).cell? ⟨w1.heap.size, 1, none⟩ = some (.slice ab nb cb) := by simp
  have wz : w1.heap.size + 1 ≤ (w1.alloc (.cells #[.slice an nn cn, .slice ab nb cb] 60)).heap.size := by simp
  replace R0 := cell_later A R0
  replace R1 := cell_later A R1
  replace F0 := frozen_later A wl F0
  replace F1 := frozen_later A wl F1
  replace RR := RR.below A
  replace B := below_next B A
  replace wl := Nat.lt_of_lt_of_le wl A.size
  clear A
  obtain ⟨ad, cap, w3, hrun, R3, B3⟩ := append_code ac nc cc bs (w1.alloc (.cells #[.slice an nn cn, .slice ab nb cb] 60)) (hr.below B) hc
  have ex : (w1.alloc (.cells #[.slice an nn cn, .slice ab nb cb] 60)).heap.size = w1.heap.size + 1 := by simp
  rw [ex] at hrun
  clear ex
  replace hrun := hrun 22
  go_wp2_with (at_builtin; refine Lib.wpList_append_run _ rfl _ _ _ _ rfl _ _ rfl rfl _ _ hrun ?_)
  replace d0 := cell_later B3 d0
  replace d1 := cell_later B3 d1
  replace R0 := cell_later B3 R0
  replace R1 := cell_later B3 R1
  replace F0 := frozen_later B3 wl F0
  replace F1 := frozen_later B3 wl F1
  replace RR := RR.below B3
  replace B := below_next B B3
  replace wl := Nat.lt_of_lt_of_le wl B3.size
  replace wz := Nat.le_trans wz B3.size
  have gd : w1.heap.size < w3.heap.size := by omega
  clear hrun B3
  go_wp2_with fail
  refine (l1Source_any _ _ _ _).mono ?_
  rintro e w4 ⟨rfl, s4, B4, z4⟩
  have S4 : SBW w4 w3.heap.size 0 ad (1 + nc) cap (3 :: bs) := ⟨s4, ⟨_, _, _, R3.below B4, Or.inl (Nat.le_refl _)⟩, fun i => by cases i with | zero => simp | succ i => simpa using hb i, by omega⟩
  replace d0 := cell_later B4 d0
  replace d1 := cell_later B4 d1
  replace R0 := cell_later B4 R0
  replace R1 := cell_later B4 R1
  replace F0 := frozen_later B4 wl F0
  replace F1 := frozen_later B4 wl F1
  replace RR := RR.below B4
  replace B := below_next B B4
  replace wl := Nat.lt_of_lt_of_le wl B4.size
  replace wz := Nat.le_trans wz B4.size
  have D : Below w4.heap.size w4 w4.drew := (Below.refl _ _).drew
  replace S4 := S4.below D
  replace d0 := cell_later D d0
  replace d1 := cell_later D d1
  replace R0 := cell_later D R0
  replace R1 := cell_later D R1
  replace F0 := frozen_later D wl F0
  replace F1 := frozen_later D wl F1
  replace RR := RR.below D
  replace B := below_next B D
  replace wl := Nat.lt_of_lt_of_le wl D.size
  replace wz := Nat.le_trans wz D.size
  have gR : w.heap.size < w3.heap.size := by omega
  have gB : w.heap.size ≤ w3.heap.size := by omega
  have gl : w1.heap.size ≤ w3.heap.size := by omega
  have H256 : Hid ((256 : Int) = ((256 : Nat) : Int)) := rfl
  have hso : ∀ (W : World) (k : Nat) (v : Value) (k' : Nat) (v' : Value) (i : Nat), ((W.setCell ⟨w.heap.size, k, none⟩ v).setCell ⟨w.heap.size, k', none⟩ v').cell? ⟨w1.heap.size, i, none⟩ = W.cell? ⟨w1.heap.size, i, none⟩ := fun W k v k' v' i => (World.cell?_setCell_other _ _ _ _ (by intro e; injection e with e _; omega)).trans (World.cell?_setCell_other _ _ _ _ (by intro e; injection e with e _; omega))
  clear D B4 z4 s4 R3
  go_wp2_with fail
  go_region_held3 (fun w' => w'.cell? ⟨w1.heap.size, 0, none⟩ = some (.slice an nn cn) ∧ w'.cell? ⟨w1.heap.size, 1, none⟩ = some (.slice ab nb cb)) (first | exact ⟨d0, d1⟩ | exact ⟨cell_later ((Below.refl _ _).alloc (Nat.le_refl _) _) d0, cell_later ((Below.refl _ _).alloc (Nat.le_refl _) _) d1⟩ | exact ⟨(hso _ _ _ _ _ _).trans d0, (hso _ _ _ _ _ _).trans d1⟩)
    (first | (go_at_call 138; (with_reducible refine (big_sbW S4 256 H256.out (by omega) (by omega) (by omega)).mono ?_); rintro e w5 ⟨y1, rfl, S5, K, z⟩; replace d0 := K.cell d0 (Or.inl gd); replace d1 := K.cell d1 (Or.inl gd); replace R0 := K.cell R0 (Or.inl gR); replace R1 := K.cell R1 (Or.inl gR); replace F0 := K.frozen wl (Or.inl gR) F0; replace F1 := K.frozen wl (Or.inl gR) F1; replace RR := RR.kept K (Or.inl gl); replace B := B.trans (K.below _ gB B.size); replace wl := Nat.lt_of_lt_of_le wl K.size; replace wz := Nat.le_trans wz K.size; clear K z) | (go_at_call 138; (with_reducible refine (big_sbW S5 256 H256.out (by omega) (by omega) (by omega)).mono ?_); rintro e w6 ⟨y2, rfl, S6, K, z⟩; replace d0 := K.cell d0 (Or.inl gd); replace d1 := K.cell d1 (Or.inl gd); replace R0 := K.cell R0 (Or.inl gR); replace R1 := K.cell R1 (Or.inl gR); replace F0 := K.frozen wl (Or.inl gR) F0; replace F1 := K.frozen wl (Or.inl gR) F1; replace RR := RR.kept K (Or.inl gl); replace B := B.trans (K.below _ gB B.size); replace wl := Nat.lt_of_lt_of_le wl K.size; replace wz := Nat.le_trans wz K.size; clear K z) | (go_at_call 150; have A5 : Below w6.heap.size w6 (w6.alloc (.cells #[.int .i64 y1, .int .i64 y2, .int .i64 256, .int .i64 (-1)] 2)) := (Below.refl _ _).alloc (Nat.le_refl _) _; have rl := row_lit w6 [.int .i64 y1, .int .i64 y2, .int .i64 256, .int .i64 (-1)] 2 4 1 rfl; have g6 := S6.src.lt; (refine (pick_sbW (S6.below A5) 4 rfl (by omega) (by omega) (by omega) _ _ [y1, y2, 256, -1] (by exact rl) (by omega)).mono ?_); rintro e w7 ⟨x, rfl, S7, K, z⟩; replace d0 := cell_later A5 d0; replace d1 := cell_later A5 d1; replace R0 := cell_later A5 R0; replace R1 := cell_later A5 R1; replace F0 := frozen_later A5 wl F0; replace F1 := frozen_later A5 wl F1; replace RR := RR.below A5; replace B := below_next B A5; replace wl := Nat.lt_of_lt_of_le wl A5.size; replace wz := Nat.le_trans wz A5.size; replace d0 := K.cell d0 (Or.inl gd); replace d1 := K.cell d1 (Or.inl gd); replace R0 := K.cell R0 (Or.inl gR); replace R1 := K.cell R1 (Or.inl gR); replace F0 := K.frozen wl (Or.inl gR) F0; replace F1 := K.frozen wl (Or.inl gR) F1; replace RR := RR.kept K (Or.inl gl); replace B := B.trans (K.below _ gB B.size); replace wl := Nat.lt_of_lt_of_le wl K.size; replace wz := Nat.le_trans wz K.size; clear K z rl g6))
  have K7 : Kept w.heap.size (w.heap.size + 1) w7 ((w7.setCell ⟨w.heap.size, 0, none⟩ (.slice an nn cn)).setCell ⟨w.heap.size, 1, none⟩ (.slice ab nb cb)) := by refine Kept.setCell (Kept.setCell (Kept.refl _ _ _) ?_ ?_ _) ?_ ?_ _ <;> simp
  have hs := K7.size
  go_wp2
  refine bodyPost_ret (v := .tuple #[.agg #[.slice an nn cn, .slice ab nb cb], .int .i64 root, .int .i64 at', .int .i64 x]) (by simp [results, Try.results55, go_sem, R0, R1]) rfl ?_
  exact ⟨an, nn, cn, ab, nb, cb, K0, f, root, at', x, rfl, (RR.kept K7 (Or.inr (Nat.le_refl _))).widen (by omega) (by omega), hn, hm, HK.out, B.trans (K7.below _ (Nat.le_refl _) B.size)⟩

end Go.Proofs.Ytkdaphfmhdkhfaa
