/- An entry is read back from its words: the law FnEntries is true at every argument, with no condition. -/
import Derived.Test.YtpbhiednmnolgaaEX
import Derived.Test.YtpbhiednmnolgaaRows
import Derived.Test.YtpbhiednmnolgaaXD
import Derived.Test.YtpbhiednmnolgaaFacts2
import Derived.Test.YtpbhiednmnolgaaXB
namespace Go.Proofs.Ytpbhiednmnolgaa
open Go.RowKit

set_option maxRecDepth 20000 in
set_option maxHeartbeats 8000000 in
theorem lawEntries (ac : Option Addr) (nc cc : Nat) (cs : List Nat) (w : World) (h : RowAt w false 0 w.heap.size 1 ac nc cc (bys cs)) (hcs : ∀ i, cs.getD i 0 < 256) (hn : nc ≤ maxLen) :
    Calls Try.prog 3 #[.slice ac nc cc] w fun e w' => e = .returned (.bool true) ∧ Below w.heap.size w w' := by
  unfold maxLen at hn
  have B : Below w.heap.size w w := Below.refl _ _
  by_cases hbig : 1048576 < nc
  · go_enter Try.func3, Try.ntmps3
    go_wp2_with fail
    refine (lwBig_is ac nc cc _ true (by simp; exact hbig)).mono ?_
    rintro e w1 ⟨rfl, rfl⟩
    go_wp2
    go_ret
    exact ⟨rfl, B⟩
  have hc : nc ≤ 1048576 := by omega
  have fE : ∀ (a n c : _) (w : World), (Instr.field 35 (.agg #[.int .i64 0, .slice a n c]) 1).run Try.prog w = .ok (.slice a n c) w := fun a n c w => by kernel_rfl
  have fC : ∀ (c y0 y1 y2 y3 y4 y5 : Int) (w : World), (Instr.field 31 (.agg #[.int .i64 c, .int .i64 y0, .int .i64 y1, .int .i64 y2, .int .i64 y3, .int .i64 y4, .int .i64 y5]) 0).run Try.prog w = .ok (.int .i64 c) w := fun c y0 y1 y2 y3 y4 y5 w => by kernel_rfl
  have fX : ∀ (c y0 y1 y2 y3 y4 y5 : Int) (w : World), (Instr.field 31 (.agg #[.int .i64 c, .int .i64 y0, .int .i64 y1, .int .i64 y2, .int .i64 y3, .int .i64 y4, .int .i64 y5]) 1).run Try.prog w = .ok (.agg #[.int .i64 y0, .int .i64 y1, .int .i64 y2, .int .i64 y3, .int .i64 y4, .int .i64 y5]) w := fun c y0 y1 y2 y3 y4 y5 w => by kernel_rfl
  go_enter Try.func3, Try.ntmps3
  go_wp2_with fail
  refine (lwBig_is ac nc cc _ false (by simp; omega)).mono ?_
  rintro e w0 ⟨rfl, rfl⟩
  go_wp2_with fail
  refine (drawUnpackE_any ac nc cc cs _ (by exact h) hcs (Nat.le_refl _) hc).mono ?_
  rintro e w1 ⟨ra, rn, rc, ys, rfl, hn5, R, hb⟩
  replace B := below_next B hb
  have S1 := hb.size
  clear hb
  obtain ⟨⟨cd, y0, y1, y2, y3, y4, y5⟩, hr⟩ : ∃ r, unER ys = r := ⟨_, rfl⟩
  have hcd := unER_code hr
  have HR : Hid _ := hr
  clear hr
  go_wp2_with fail
  refine (implUnE_is _ _ _ ys _ R cd y0 y1 y2 y3 y4 y5 HR.out).mono ?_
  rintro e w2 ⟨rfl, hb⟩
  replace R := R.below hb
  replace B := below_next B hb
  have S2 := hb.size
  clear hb
  go_wp2_with fail
  have A3 : Below w2.heap.size w2 (w2.alloc (.cells #[.int .i64 cd, .int .i64 y0, .int .i64 y1, .int .i64 y2, .int .i64 y3, .int .i64 y4, .int .i64 y5] 31)) := (Below.refl _ _).alloc (Nat.le_refl _) _
  replace R := R.below A3
  replace B := below_next B A3
  have S4 := A3.size
  clear A3
  have E4 : w2.heap.size + 1 ≤ (w2.alloc (.cells #[.int .i64 cd, .int .i64 y0, .int .i64 y1, .int .i64 y2, .int .i64 y3, .int .i64 y4, .int .i64 y5] 31)).heap.size := by simp
  have pb0 : (w2.alloc (.cells #[.int .i64 cd, .int .i64 y0, .int .i64 y1, .int .i64 y2, .int .i64 y3, .int .i64 y4, .int .i64 y5] 31)).cell? ⟨w2.heap.size, 0, none⟩ = some (.int .i64 cd) := by simp
  have pb1 : (w2.alloc (.cells #[.int .i64 cd, .int .i64 y0, .int .i64 y1, .int .i64 y2, .int .i64 y3, .int .i64 y4, .int .i64 y5] 31)).cell? ⟨w2.heap.size, 1, none⟩ = some (.int .i64 y0) := by simp
  have pb2 : (w2.alloc (.cells #[.int .i64 cd, .int .i64 y0, .int .i64 y1, .int .i64 y2, .int .i64 y3, .int .i64 y4, .int .i64 y5] 31)).cell? ⟨w2.heap.size, 2, none⟩ = some (.int .i64 y1) := by simp
  have pb3 : (w2.alloc (.cells #[.int .i64 cd, .int .i64 y0, .int .i64 y1, .int .i64 y2, .int .i64 y3, .int .i64 y4, .int .i64 y5] 31)).cell? ⟨w2.heap.size, 3, none⟩ = some (.int .i64 y2) := by simp
  have pb4 : (w2.alloc (.cells #[.int .i64 cd, .int .i64 y0, .int .i64 y1, .int .i64 y2, .int .i64 y3, .int .i64 y4, .int .i64 y5] 31)).cell? ⟨w2.heap.size, 4, none⟩ = some (.int .i64 y3) := by simp
  have pb5 : (w2.alloc (.cells #[.int .i64 cd, .int .i64 y0, .int .i64 y1, .int .i64 y2, .int .i64 y3, .int .i64 y4, .int .i64 y5] 31)).cell? ⟨w2.heap.size, 5, none⟩ = some (.int .i64 y4) := by simp
  have pb6 : (w2.alloc (.cells #[.int .i64 cd, .int .i64 y0, .int .i64 y1, .int .i64 y2, .int .i64 y3, .int .i64 y4, .int .i64 y5] 31)).cell? ⟨w2.heap.size, 6, none⟩ = some (.int .i64 y5) := by simp
  have lpb : w2.heap.size < (w2.alloc (.cells #[.int .i64 cd, .int .i64 y0, .int .i64 y1, .int .i64 y2, .int .i64 y3, .int .i64 y4, .int .i64 y5] 31)).heap.size := by simp
  have D5 : Below (w2.alloc (.cells #[.int .i64 cd, .int .i64 y0, .int .i64 y1, .int .i64 y2, .int .i64 y3, .int .i64 y4, .int .i64 y5] 31)).heap.size (w2.alloc (.cells #[.int .i64 cd, .int .i64 y0, .int .i64 y1, .int .i64 y2, .int .i64 y3, .int .i64 y4, .int .i64 y5] 31)) (w2.alloc (.cells #[.int .i64 cd, .int .i64 y0, .int .i64 y1, .int .i64 y2, .int .i64 y3, .int .i64 y4, .int .i64 y5] 31)).drew := (Below.refl _ _).drew
  replace pb0 := cell_later D5 pb0
  replace pb1 := cell_later D5 pb1
  replace pb2 := cell_later D5 pb2
  replace pb3 := cell_later D5 pb3
  replace pb4 := cell_later D5 pb4
  replace pb5 := cell_later D5 pb5
  replace pb6 := cell_later D5 pb6
  replace R := R.below D5
  replace lpb := Nat.lt_of_lt_of_le lpb D5.size
  replace B := below_next B D5
  clear D5
  rcases hcd with rfl | rfl
  ·
    obtain ⟨hf, hp⟩ := un_pack HR.out
    have HF : Hid _ := hf
    have HP : Hid _ := hp
    clear hf hp
    refine wp_region_held_drew (S := (fun w' => w'.cell? ⟨w2.heap.size, 0, none⟩ = some (.int .i64 0) ∧ w'.cell? ⟨w2.heap.size, 1, none⟩ = some (.int .i64 y0) ∧ w'.cell? ⟨w2.heap.size, 2, none⟩ = some (.int .i64 y1) ∧ w'.cell? ⟨w2.heap.size, 3, none⟩ = some (.int .i64 y2) ∧ w'.cell? ⟨w2.heap.size, 4, none⟩ = some (.int .i64 y3) ∧ w'.cell? ⟨w2.heap.size, 5, none⟩ = some (.int .i64 y4) ∧ w'.cell? ⟨w2.heap.size, 6, none⟩ = some (.int .i64 y5))) (by kernel_rfl) ⟨pb0, pb1, pb2, pb3, pb4, pb5, pb6⟩ (fun hHeld => ?_)
    refine wpAnyH_take (i := 0) (v := ?_) rfl (by kernel_rfl) (by kernel_rfl) (by kernel_rfl) (fun _ _ _ h => h) (Or.inl ⟨by rfl, ?_⟩) hHeld ?_
    rotate_left 1
    · intro w hSw
      try dsimp only at hSw
      first | (go_simp; done) | (go_simp; with_reducible rfl)
    simp only [Act.put, List.setIfInBounds_toArray, List.set_cons_zero, List.set_cons_succ, List.getElem_toArray, List.getElem_cons_zero]
    refine wpAnyH_take (i := 1) (v := ?_) rfl (by kernel_rfl) (by kernel_rfl) (by kernel_rfl) (fun _ _ _ h => h) (Or.inl ⟨by rfl, ?_⟩) hHeld ?_
    rotate_left 1
    · intro w hSw
      try dsimp only at hSw
      first | (go_simp; done) | (go_simp; with_reducible rfl)
    simp only [Act.put, List.setIfInBounds_toArray, List.set_cons_zero, List.set_cons_succ, List.getElem_toArray, List.getElem_cons_zero, List.getElem_cons_succ]
    refine wpAnyH_take (i := 2) (v := ?_) rfl (by kernel_rfl) (by kernel_rfl) (by kernel_rfl) (fun _ _ _ h => h) (Or.inl ⟨by rfl, ?_⟩) hHeld ?_
    rotate_left 1
    · intro w hSw
      try dsimp only at hSw
      first | (go_simp; done) | (go_simp; with_reducible rfl)
    simp only [Act.put, List.setIfInBounds_toArray, List.set_cons_zero, List.set_cons_succ, List.getElem_toArray, List.getElem_cons_zero, List.getElem_cons_succ]
    refine wpAnyH_take (i := 3) (v := ?_) rfl (by kernel_rfl) (by kernel_rfl) (by kernel_rfl) (fun _ _ _ h => h) (Or.inl ⟨by rfl, ?_⟩) hHeld ?_
    rotate_left 1
    · intro w hSw
      try dsimp only at hSw
      first | (go_simp; done) | (go_simp; with_reducible rfl)
    simp only [Act.put, List.setIfInBounds_toArray, List.set_cons_zero, List.set_cons_succ, List.getElem_toArray, List.getElem_cons_zero, List.getElem_cons_succ]
    refine wpAnyH_take (i := 4) (v := ?_) rfl (by kernel_rfl) (by kernel_rfl) (by kernel_rfl) (fun _ _ _ h => h) (Or.inl ⟨by rfl, ?_⟩) hHeld ?_
    rotate_left 1
    · intro w hSw
      try dsimp only at hSw
      first | (go_simp; done) | (go_simp; with_reducible rfl)
    simp only [Act.put, List.setIfInBounds_toArray, List.set_cons_zero, List.set_cons_succ, List.getElem_toArray, List.getElem_cons_zero, List.getElem_cons_succ]
    refine wpAnyH_take (i := 5) (v := ?_) rfl (by kernel_rfl) (by kernel_rfl) (by kernel_rfl) (fun _ _ _ h => h) (Or.inl ⟨by rfl, ?_⟩) hHeld ?_
    rotate_left 1
    · intro w hSw
      try dsimp only at hSw
      first | (go_simp; done) | (go_simp; with_reducible rfl)
    simp only [Act.put, List.setIfInBounds_toArray, List.set_cons_zero, List.set_cons_succ, List.getElem_toArray, List.getElem_cons_zero, List.getElem_cons_succ]
    refine wpAnyH_take (i := 8) (v := ?_) rfl (by kernel_rfl) (by kernel_rfl) (by kernel_rfl) (fun _ _ _ h => h) (Or.inl ⟨by rfl, ?_⟩) hHeld ?_
    rotate_left 1
    · intro w hSw
      try dsimp only at hSw
      first | (go_simp; done) | (go_simp; with_reducible rfl)
    simp only [Act.put, List.setIfInBounds_toArray, List.set_cons_zero, List.set_cons_succ, List.getElem_toArray, List.getElem_cons_zero, List.getElem_cons_succ]
    refine wpAnyH_ready (rs := [6]) (by kernel_rfl) (by simp) ?_
    refine AllReadyH.cons rfl (fun KK hKK => ?_) AllReadyH.nil
    go_simp
    go_at_call 16
    refine (implPackE_is y0 y1 y2 y3 y4 y5 _ 0 ys HF.out HP.out).mono ?_
    rintro e w3 ⟨qa, qn, qc, rfl, RQ, hb⟩
    replace pb0 := cell_later hb pb0
    replace pb1 := cell_later hb pb1
    replace pb2 := cell_later hb pb2
    replace pb3 := cell_later hb pb3
    replace pb4 := cell_later hb pb4
    replace pb5 := cell_later hb pb5
    replace pb6 := cell_later hb pb6
    replace R := R.below hb
    replace lpb := Nat.lt_of_lt_of_le lpb hb.size
    replace B := below_next B hb
    clear hb
    obtain rfl : qn = rn := by rw [← RQ.nInts, ← R.nInts]
    clear hHeld
    refine hKK _ _ ⟨pb0, pb1, pb2, pb3, pb4, pb5, pb6⟩ (fun hHeld => ?_)
    clear hKK KK
    refine wpAnyH_take (i := 7) (v := ?_) rfl (by kernel_rfl) (by kernel_rfl) (by kernel_rfl) (fun _ _ _ h => h) (Or.inl ⟨by rfl, ?_⟩) hHeld ?_
    rotate_left 1
    · intro w hSw
      try dsimp only at hSw
      first | (go_simp; done) | (go_simp; with_reducible rfl)
    simp only [Act.put, List.setIfInBounds_toArray, List.set_cons_zero, List.set_cons_succ, List.getElem_toArray, List.getElem_cons_zero, List.getElem_cons_succ]
    refine wpAnyH_ready (rs := [9]) (by kernel_rfl) (by simp) ?_
    refine AllReadyH.cons rfl (fun KK hKK => ?_) AllReadyH.nil
    go_simp
    go_at_call 15
    refine (lwNums_yes _ _ _ _ _ ys _ RQ R (by omega)).mono ?_
    rintro e w4 ⟨rfl, hb⟩
    replace pb0 := cell_later hb pb0
    replace pb1 := cell_later hb pb1
    replace pb2 := cell_later hb pb2
    replace pb3 := cell_later hb pb3
    replace pb4 := cell_later hb pb4
    replace pb5 := cell_later hb pb5
    replace pb6 := cell_later hb pb6
    replace R := R.below hb
    replace lpb := Nat.lt_of_lt_of_le lpb hb.size
    replace B := below_next B hb
    clear hb
    clear RQ
    clear hHeld
    refine hKK _ _ ⟨pb0, pb1, pb2, pb3, pb4, pb5, pb6⟩ (fun hHeld => ?_)
    clear hKK KK
    refine wpAnyH_take (i := 10) (v := ?_) rfl (by kernel_rfl) (by kernel_rfl) (by kernel_rfl) (fun _ _ _ h => h) (Or.inl ⟨by rfl, ?_⟩) hHeld ?_
    rotate_left 1
    · intro w hSw
      try dsimp only at hSw
      first | (go_simp; done) | (go_simp; with_reducible rfl)
    simp only [Act.put, List.setIfInBounds_toArray, List.set_cons_zero, List.set_cons_succ, List.getElem_toArray, List.getElem_cons_zero, List.getElem_cons_succ]
    refine wpAnyH_take (i := 11) (v := ?_) rfl (by kernel_rfl) (by kernel_rfl) (by kernel_rfl) (fun _ _ _ h => h) (Or.inl ⟨by rfl, ?_⟩) hHeld ?_
    rotate_left 1
    · intro w hSw
      try dsimp only at hSw
      first | (go_simp; done) | (go_simp; with_reducible rfl)
    simp only [Act.put, List.setIfInBounds_toArray, List.set_cons_zero, List.set_cons_succ, List.getElem_toArray, List.getElem_cons_zero, List.getElem_cons_succ]
    refine wpAnyH_take (i := 12) (v := ?_) rfl (by kernel_rfl) (by kernel_rfl) (by kernel_rfl) (fun _ _ _ h => h) (Or.inl ⟨by rfl, ?_⟩) hHeld ?_
    rotate_left 1
    · intro w hSw
      try dsimp only at hSw
      first | (go_simp; done) | (go_simp; with_reducible rfl)
    simp only [Act.put, List.setIfInBounds_toArray, List.set_cons_zero, List.set_cons_succ, List.getElem_toArray, List.getElem_cons_zero, List.getElem_cons_succ]
    refine wpAnyH_take (i := 13) (v := ?_) rfl (by kernel_rfl) (by kernel_rfl) (by kernel_rfl) (fun _ _ _ h => h) (Or.inl ⟨by rfl, ?_⟩) hHeld ?_
    rotate_left 1
    · intro w hSw
      try dsimp only at hSw
      first | (go_simp; done) | (go_simp; with_reducible rfl)
    simp only [Act.put, List.setIfInBounds_toArray, List.set_cons_zero, List.set_cons_succ, List.getElem_toArray, List.getElem_cons_zero, List.getElem_cons_succ]
    refine wpAnyH_take (i := 14) (v := ?_) rfl (by kernel_rfl) (by kernel_rfl) (by kernel_rfl) (fun _ _ _ h => h) (Or.inl ⟨by rfl, ?_⟩) hHeld ?_
    rotate_left 1
    · intro w hSw
      try dsimp only at hSw
      first | (go_simp; done) | (go_simp; with_reducible rfl)
    simp only [Act.put, List.setIfInBounds_toArray, List.set_cons_zero, List.set_cons_succ, List.getElem_toArray, List.getElem_cons_zero, List.getElem_cons_succ]
    refine wpAnyH_take (i := 15) (v := ?_) rfl (by kernel_rfl) (by kernel_rfl) (by kernel_rfl) (fun _ _ _ h => h) (Or.inl ⟨by rfl, ?_⟩) hHeld ?_
    rotate_left 1
    · intro w hSw
      try dsimp only at hSw
      first | (go_simp; done) | (go_simp; with_reducible rfl)
    simp only [Act.put, List.setIfInBounds_toArray, List.set_cons_zero, List.set_cons_succ, List.getElem_toArray, List.getElem_cons_zero, List.getElem_cons_succ]
    refine wpAnyH_take (i := 16) (v := ?_) rfl (by kernel_rfl) (by kernel_rfl) (by kernel_rfl) (fun _ _ _ h => h) (Or.inl ⟨by rfl, ?_⟩) hHeld ?_
    rotate_left 1
    · intro w hSw
      try dsimp only at hSw
      first | (go_simp; done) | (go_simp; with_reducible rfl)
    simp only [Act.put, List.setIfInBounds_toArray, List.set_cons_zero, List.set_cons_succ, List.getElem_toArray, List.getElem_cons_zero, List.getElem_cons_succ]
    refine wpAnyH_take (i := 17) (v := undef) rfl (by kernel_rfl) (by kernel_rfl) (by kernel_rfl) (fun _ _ _ h => h) (Or.inr ⟨by rfl, rfl⟩) hHeld ?_
    simp only [Act.put, List.setIfInBounds_toArray, List.set_cons_zero, List.set_cons_succ, List.getElem_toArray, List.getElem_cons_zero, List.getElem_cons_succ]
    refine wpAnyH_take (i := 18) (v := undef) rfl (by kernel_rfl) (by kernel_rfl) (by kernel_rfl) (fun _ _ _ h => h) (Or.inr ⟨by rfl, rfl⟩) hHeld ?_
    simp only [Act.put, List.setIfInBounds_toArray, List.set_cons_zero, List.set_cons_succ, List.getElem_toArray, List.getElem_cons_zero, List.getElem_cons_succ]
    refine wpAnyH_take (i := 19) (v := undef) rfl (by kernel_rfl) (by kernel_rfl) (by kernel_rfl) (fun _ _ _ h => h) (Or.inr ⟨by rfl, rfl⟩) hHeld ?_
    simp only [Act.put, List.setIfInBounds_toArray, List.set_cons_zero, List.set_cons_succ, List.getElem_toArray, List.getElem_cons_zero, List.getElem_cons_succ]
    refine wpAnyH_take (i := 20) (v := undef) rfl (by kernel_rfl) (by kernel_rfl) (by kernel_rfl) (fun _ _ _ h => h) (Or.inr ⟨by rfl, rfl⟩) hHeld ?_
    simp only [Act.put, List.setIfInBounds_toArray, List.set_cons_zero, List.set_cons_succ, List.getElem_toArray, List.getElem_cons_zero, List.getElem_cons_succ]
    refine wpAnyH_take (i := 21) (v := undef) rfl (by kernel_rfl) (by kernel_rfl) (by kernel_rfl) (fun _ _ _ h => h) (Or.inr ⟨by rfl, rfl⟩) hHeld ?_
    simp only [Act.put, List.setIfInBounds_toArray, List.set_cons_zero, List.set_cons_succ, List.getElem_toArray, List.getElem_cons_zero, List.getElem_cons_succ]
    refine wpAnyH_take (i := 22) (v := undef) rfl (by kernel_rfl) (by kernel_rfl) (by kernel_rfl) (fun _ _ _ h => h) (Or.inr ⟨by rfl, rfl⟩) hHeld ?_
    simp only [Act.put, List.setIfInBounds_toArray, List.set_cons_zero, List.set_cons_succ, List.getElem_toArray, List.getElem_cons_zero, List.getElem_cons_succ]
    refine wpAnyH_take (i := 23) (v := ?_) rfl (by kernel_rfl) (by kernel_rfl) (by kernel_rfl) (fun _ _ _ h => h) (Or.inl ⟨by rfl, ?_⟩) hHeld ?_
    rotate_left 1
    · intro w hSw
      try dsimp only at hSw
      first | (go_simp; done) | (go_simp; with_reducible rfl)
    simp only [Act.put, List.setIfInBounds_toArray, List.set_cons_zero, List.set_cons_succ, List.getElem_toArray, List.getElem_cons_zero, List.getElem_cons_succ]
    refine wpAnyH_take (i := 24) (v := ?_) rfl (by kernel_rfl) (by kernel_rfl) (by kernel_rfl) (fun _ _ _ h => h) (Or.inl ⟨by rfl, ?_⟩) hHeld ?_
    rotate_left 1
    · intro w hSw
      try dsimp only at hSw
      first | (go_simp; done) | (go_simp; with_reducible rfl)
    simp only [Act.put, List.setIfInBounds_toArray, List.set_cons_zero, List.set_cons_succ, List.getElem_toArray, List.getElem_cons_zero, List.getElem_cons_succ]
    refine wpAnyH_done (by kernel_rfl) ?_ _
    clear HR pb0 pb1 pb2 pb3 pb4 pb5 pb6 R
    go_wp2_with fail
    refine (drawPackE_any ac nc cc cs _ (by exact h.below B) hcs B.size hc).mono ?_
    rintro e w5 ⟨p, q, k, v, a, x, rfl, hb⟩
    replace B := below_next B hb
    have S5 := hb.size
    clear hb
    go_wp2_with fail
    have A6 : Below w5.heap.size w5 (w5.alloc (.cells #[.int .i64 p, .int .i64 q, .int .i64 k, .int .i64 v, .int .i64 a, .int .i64 x] 29)) := (Below.refl _ _).alloc (Nat.le_refl _) _
    replace B := below_next B A6
    have S7 := A6.size
    clear A6
    have E7 : w5.heap.size + 1 ≤ (w5.alloc (.cells #[.int .i64 p, .int .i64 q, .int .i64 k, .int .i64 v, .int .i64 a, .int .i64 x] 29)).heap.size := by simp
    have xb0 : (w5.alloc (.cells #[.int .i64 p, .int .i64 q, .int .i64 k, .int .i64 v, .int .i64 a, .int .i64 x] 29)).cell? ⟨w5.heap.size, 0, none⟩ = some (.int .i64 p) := by simp
    have xb1 : (w5.alloc (.cells #[.int .i64 p, .int .i64 q, .int .i64 k, .int .i64 v, .int .i64 a, .int .i64 x] 29)).cell? ⟨w5.heap.size, 1, none⟩ = some (.int .i64 q) := by simp
    have xb2 : (w5.alloc (.cells #[.int .i64 p, .int .i64 q, .int .i64 k, .int .i64 v, .int .i64 a, .int .i64 x] 29)).cell? ⟨w5.heap.size, 2, none⟩ = some (.int .i64 k) := by simp
    have xb3 : (w5.alloc (.cells #[.int .i64 p, .int .i64 q, .int .i64 k, .int .i64 v, .int .i64 a, .int .i64 x] 29)).cell? ⟨w5.heap.size, 3, none⟩ = some (.int .i64 v) := by simp
    have xb4 : (w5.alloc (.cells #[.int .i64 p, .int .i64 q, .int .i64 k, .int .i64 v, .int .i64 a, .int .i64 x] 29)).cell? ⟨w5.heap.size, 4, none⟩ = some (.int .i64 a) := by simp
    have xb5 : (w5.alloc (.cells #[.int .i64 p, .int .i64 q, .int .i64 k, .int .i64 v, .int .i64 a, .int .i64 x] 29)).cell? ⟨w5.heap.size, 5, none⟩ = some (.int .i64 x) := by simp
    have lxb : w5.heap.size < (w5.alloc (.cells #[.int .i64 p, .int .i64 q, .int .i64 k, .int .i64 v, .int .i64 a, .int .i64 x] 29)).heap.size := by simp
    obtain ⟨c2, hc2⟩ : ∃ c2, enFault (p, q, k, v, a, x) = c2 := ⟨_, rfl⟩
    obtain ⟨ls, hls⟩ : ∃ ls, packEL (p, q, k, v, a, x) = ls := ⟨_, rfl⟩
    have HC2 : Hid _ := hc2
    have HLS : Hid _ := hls
    clear hc2 hls
    go_wp2_with fail
    refine (implPackE_is p q k v a x _ c2 ls HC2.out HLS.out).mono ?_
    rintro e w6 ⟨sa, sn, sc, rfl, R2, hb⟩
    replace xb0 := cell_later hb xb0
    replace xb1 := cell_later hb xb1
    replace xb2 := cell_later hb xb2
    replace xb3 := cell_later hb xb3
    replace xb4 := cell_later hb xb4
    replace xb5 := cell_later hb xb5
    replace lxb := Nat.lt_of_lt_of_le lxb hb.size
    replace B := below_next B hb
    have S8 := hb.size
    clear hb
    by_cases z : c2 = 0
    rotate_left 1
    · have hz : (c2 != 0) = true := by simp [z]
      have hq : (c2 == c2) = true := by simp
      go_wp2_with fail
      have A9 : Below w6.heap.size w6 (w6.alloc (.cells #[.int .i64 c2, .slice sa sn sc] 35)) := (Below.refl _ _).alloc (Nat.le_refl _) _
      replace xb0 := cell_later A9 xb0
      replace xb1 := cell_later A9 xb1
      replace xb2 := cell_later A9 xb2
      replace xb3 := cell_later A9 xb3
      replace xb4 := cell_later A9 xb4
      replace xb5 := cell_later A9 xb5
      replace R2 := R2.below A9
      replace lxb := Nat.lt_of_lt_of_le lxb A9.size
      replace B := below_next B A9
      have S10 := A9.size
      clear A9
      have E10 : w6.heap.size + 1 ≤ (w6.alloc (.cells #[.int .i64 c2, .slice sa sn sc] 35)).heap.size := by simp
      have sb0 : (w6.alloc (.cells #[.int .i64 c2, .slice sa sn sc] 35)).cell? ⟨w6.heap.size, 0, none⟩ = some (.int .i64 c2) := by simp
      have sb1 : (w6.alloc (.cells #[.int .i64 c2, .slice sa sn sc] 35)).cell? ⟨w6.heap.size, 1, none⟩ = some (.slice sa sn sc) := by simp
      have lsb : w6.heap.size < (w6.alloc (.cells #[.int .i64 c2, .slice sa sn sc] 35)).heap.size := by simp
      have D6 : Below (w6.alloc (.cells #[.int .i64 c2, .slice sa sn sc] 35)).heap.size (w6.alloc (.cells #[.int .i64 c2, .slice sa sn sc] 35)) (w6.alloc (.cells #[.int .i64 c2, .slice sa sn sc] 35)).drew := (Below.refl _ _).drew
      replace xb0 := cell_later D6 xb0
      replace xb1 := cell_later D6 xb1
      replace xb2 := cell_later D6 xb2
      replace xb3 := cell_later D6 xb3
      replace xb4 := cell_later D6 xb4
      replace xb5 := cell_later D6 xb5
      replace sb0 := cell_later D6 sb0
      replace sb1 := cell_later D6 sb1
      replace R2 := R2.below D6
      replace lxb := Nat.lt_of_lt_of_le lxb D6.size
      replace lsb := Nat.lt_of_lt_of_le lsb D6.size
      replace B := below_next B D6
      clear D6
      go_region_held3 (fun w' => w'.cell? ⟨w5.heap.size, 0, none⟩ = some (.int .i64 p) ∧ w'.cell? ⟨w5.heap.size, 1, none⟩ = some (.int .i64 q) ∧ w'.cell? ⟨w5.heap.size, 2, none⟩ = some (.int .i64 k) ∧ w'.cell? ⟨w5.heap.size, 3, none⟩ = some (.int .i64 v) ∧ w'.cell? ⟨w5.heap.size, 4, none⟩ = some (.int .i64 a) ∧ w'.cell? ⟨w5.heap.size, 5, none⟩ = some (.int .i64 x) ∧ w'.cell? ⟨w6.heap.size, 0, none⟩ = some (.int .i64 c2)) (with_reducible exact ⟨xb0, xb1, xb2, xb3, xb4, xb5, sb0⟩) (first | (go_at_call 19; (with_reducible refine (specEF_is p q k v a x _ c2 HC2.out).mono ?_); rintro e w7 ⟨rfl, hb⟩; replace xb0 := cell_later hb xb0; replace xb1 := cell_later hb xb1; replace xb2 := cell_later hb xb2; replace xb3 := cell_later hb xb3; replace xb4 := cell_later hb xb4; replace xb5 := cell_later hb xb5; replace sb0 := cell_later hb sb0; replace sb1 := cell_later hb sb1; replace R2 := R2.below hb; replace lxb := Nat.lt_of_lt_of_le lxb hb.size; replace lsb := Nat.lt_of_lt_of_le lsb hb.size; replace B := below_next B hb; clear hb) | (go_at_call 20; (with_reducible refine (implEF_is p q k v a x _ c2 HC2.out).mono ?_); rintro e w8 ⟨rfl, hb⟩; replace xb0 := cell_later hb xb0; replace xb1 := cell_later hb xb1; replace xb2 := cell_later hb xb2; replace xb3 := cell_later hb xb3; replace xb4 := cell_later hb xb4; replace xb5 := cell_later hb xb5; replace sb0 := cell_later hb sb0; replace sb1 := cell_later hb sb1; replace R2 := R2.below hb; replace lxb := Nat.lt_of_lt_of_le lxb hb.size; replace lsb := Nat.lt_of_lt_of_le lsb hb.size; replace B := below_next B hb; clear hb))
      go_wp2
      go_ret
      exact ⟨rfl, B⟩
    subst z
    have hz : ((0 : Int) != 0) = false := by simp
    have hl : ls = packE (p, q, k, v, a, x) := by rw [← HLS.out]; unfold packEL; rw [if_pos HC2.out]
    have HU : Hid (unER ls = (0, p, q, k, v, a, x)) := by show _ = _; rw [hl]; exact pack_un HC2.out
    obtain rfl : sn = 5 := by rw [← R2.nInts, hl]; rfl
    have HO : Hid _ := (en_ok HC2.out).2.2.1
    have RE := run_eqEn p q k v a x p q k v a x true (by simp)
    have RG := run_guEn
    clear hl HLS HC2
    go_wp2_with fail
    have A11 : Below w6.heap.size w6 (w6.alloc (.cells #[.int .i64 0, .slice sa 5 sc] 35)) := (Below.refl _ _).alloc (Nat.le_refl _) _
    replace xb0 := cell_later A11 xb0
    replace xb1 := cell_later A11 xb1
    replace xb2 := cell_later A11 xb2
    replace xb3 := cell_later A11 xb3
    replace xb4 := cell_later A11 xb4
    replace xb5 := cell_later A11 xb5
    replace R2 := R2.below A11
    replace lxb := Nat.lt_of_lt_of_le lxb A11.size
    replace B := below_next B A11
    have S12 := A11.size
    clear A11
    have E12 : w6.heap.size + 1 ≤ (w6.alloc (.cells #[.int .i64 0, .slice sa 5 sc] 35)).heap.size := by simp
    have sb0 : (w6.alloc (.cells #[.int .i64 0, .slice sa 5 sc] 35)).cell? ⟨w6.heap.size, 0, none⟩ = some (.int .i64 0) := by simp
    have sb1 : (w6.alloc (.cells #[.int .i64 0, .slice sa 5 sc] 35)).cell? ⟨w6.heap.size, 1, none⟩ = some (.slice sa 5 sc) := by simp
    have lsb : w6.heap.size < (w6.alloc (.cells #[.int .i64 0, .slice sa 5 sc] 35)).heap.size := by simp
    have D6 : Below (w6.alloc (.cells #[.int .i64 0, .slice sa 5 sc] 35)).heap.size (w6.alloc (.cells #[.int .i64 0, .slice sa 5 sc] 35)) (w6.alloc (.cells #[.int .i64 0, .slice sa 5 sc] 35)).drew := (Below.refl _ _).drew
    replace xb0 := cell_later D6 xb0
    replace xb1 := cell_later D6 xb1
    replace xb2 := cell_later D6 xb2
    replace xb3 := cell_later D6 xb3
    replace xb4 := cell_later D6 xb4
    replace xb5 := cell_later D6 xb5
    replace sb0 := cell_later D6 sb0
    replace sb1 := cell_later D6 sb1
    replace R2 := R2.below D6
    replace lxb := Nat.lt_of_lt_of_le lxb D6.size
    replace lsb := Nat.lt_of_lt_of_le lsb D6.size
    replace B := below_next B D6
    clear D6
    go_region_held3 (fun w' => w'.cell? ⟨w5.heap.size, 0, none⟩ = some (.int .i64 p) ∧ w'.cell? ⟨w5.heap.size, 1, none⟩ = some (.int .i64 q) ∧ w'.cell? ⟨w5.heap.size, 2, none⟩ = some (.int .i64 k) ∧ w'.cell? ⟨w5.heap.size, 3, none⟩ = some (.int .i64 v) ∧ w'.cell? ⟨w5.heap.size, 4, none⟩ = some (.int .i64 a) ∧ w'.cell? ⟨w5.heap.size, 5, none⟩ = some (.int .i64 x) ∧ w'.cell? ⟨w6.heap.size, 1, none⟩ = some (.slice sa 5 sc)) (with_reducible exact ⟨xb0, xb1, xb2, xb3, xb4, xb5, sb1⟩) (first | (go_at_call 14; (with_reducible refine (implUnE_is sa 5 sc ls _ R2 0 p q k v a x HU.out).mono ?_); rintro e w7 ⟨rfl, hb⟩; replace xb0 := cell_later hb xb0; replace xb1 := cell_later hb xb1; replace xb2 := cell_later hb xb2; replace xb3 := cell_later hb xb3; replace xb4 := cell_later hb xb4; replace xb5 := cell_later hb xb5; replace sb0 := cell_later hb sb0; replace sb1 := cell_later hb sb1; replace R2 := R2.below hb; replace lxb := Nat.lt_of_lt_of_le lxb hb.size; replace lsb := Nat.lt_of_lt_of_le lsb hb.size; replace B := below_next B hb; clear hb) | (go_at_call 21; (with_reducible refine (implOpF_is k v a x _ 0 HO.out).mono ?_); rintro e w8 ⟨rfl, hb⟩; replace xb0 := cell_later hb xb0; replace xb1 := cell_later hb xb1; replace xb2 := cell_later hb xb2; replace xb3 := cell_later hb xb3; replace xb4 := cell_later hb xb4; replace xb5 := cell_later hb xb5; replace sb0 := cell_later hb sb0; replace sb1 := cell_later hb sb1; replace R2 := R2.below hb; replace lxb := Nat.lt_of_lt_of_le lxb hb.size; replace lsb := Nat.lt_of_lt_of_le lsb hb.size; replace B := below_next B hb; clear hb))
    go_wp2
    go_ret
    exact ⟨rfl, B⟩
  ·
    refine wp_region_held_drew (S := (fun w' => w'.cell? ⟨w2.heap.size, 0, none⟩ = some (.int .i64 5) ∧ w'.cell? ⟨w2.heap.size, 1, none⟩ = some (.int .i64 y0) ∧ w'.cell? ⟨w2.heap.size, 2, none⟩ = some (.int .i64 y1) ∧ w'.cell? ⟨w2.heap.size, 3, none⟩ = some (.int .i64 y2) ∧ w'.cell? ⟨w2.heap.size, 4, none⟩ = some (.int .i64 y3) ∧ w'.cell? ⟨w2.heap.size, 5, none⟩ = some (.int .i64 y4) ∧ w'.cell? ⟨w2.heap.size, 6, none⟩ = some (.int .i64 y5))) (by kernel_rfl) ⟨pb0, pb1, pb2, pb3, pb4, pb5, pb6⟩ (fun hHeld => ?_)
    refine wpAnyH_take (i := 0) (v := ?_) rfl (by kernel_rfl) (by kernel_rfl) (by kernel_rfl) (fun _ _ _ h => h) (Or.inl ⟨by rfl, ?_⟩) hHeld ?_
    rotate_left 1
    · intro w hSw
      try dsimp only at hSw
      first | (go_simp; done) | (go_simp; with_reducible rfl)
    simp only [Act.put, List.setIfInBounds_toArray, List.set_cons_zero, List.set_cons_succ, List.getElem_toArray, List.getElem_cons_zero]
    refine wpAnyH_take (i := 1) (v := ?_) rfl (by kernel_rfl) (by kernel_rfl) (by kernel_rfl) (fun _ _ _ h => h) (Or.inl ⟨by rfl, ?_⟩) hHeld ?_
    rotate_left 1
    · intro w hSw
      try dsimp only at hSw
      first | (go_simp; done) | (go_simp; with_reducible rfl)
    simp only [Act.put, List.setIfInBounds_toArray, List.set_cons_zero, List.set_cons_succ, List.getElem_toArray, List.getElem_cons_zero, List.getElem_cons_succ]
    refine wpAnyH_take (i := 2) (v := ?_) rfl (by kernel_rfl) (by kernel_rfl) (by kernel_rfl) (fun _ _ _ h => h) (Or.inl ⟨by rfl, ?_⟩) hHeld ?_
    rotate_left 1
    · intro w hSw
      try dsimp only at hSw
      first | (go_simp; done) | (go_simp; with_reducible rfl)
    simp only [Act.put, List.setIfInBounds_toArray, List.set_cons_zero, List.set_cons_succ, List.getElem_toArray, List.getElem_cons_zero, List.getElem_cons_succ]
    refine wpAnyH_take (i := 3) (v := ?_) rfl (by kernel_rfl) (by kernel_rfl) (by kernel_rfl) (fun _ _ _ h => h) (Or.inl ⟨by rfl, ?_⟩) hHeld ?_
    rotate_left 1
    · intro w hSw
      try dsimp only at hSw
      first | (go_simp; done) | (go_simp; with_reducible rfl)
    simp only [Act.put, List.setIfInBounds_toArray, List.set_cons_zero, List.set_cons_succ, List.getElem_toArray, List.getElem_cons_zero, List.getElem_cons_succ]
    refine wpAnyH_take (i := 4) (v := undef) rfl (by kernel_rfl) (by kernel_rfl) (by kernel_rfl) (fun _ _ _ h => h) (Or.inr ⟨by rfl, rfl⟩) hHeld ?_
    simp only [Act.put, List.setIfInBounds_toArray, List.set_cons_zero, List.set_cons_succ, List.getElem_toArray, List.getElem_cons_zero, List.getElem_cons_succ]
    refine wpAnyH_take (i := 5) (v := undef) rfl (by kernel_rfl) (by kernel_rfl) (by kernel_rfl) (fun _ _ _ h => h) (Or.inr ⟨by rfl, rfl⟩) hHeld ?_
    simp only [Act.put, List.setIfInBounds_toArray, List.set_cons_zero, List.set_cons_succ, List.getElem_toArray, List.getElem_cons_zero, List.getElem_cons_succ]
    refine wpAnyH_take (i := 6) (v := undef) rfl (by kernel_rfl) (by kernel_rfl) (by kernel_rfl) (fun _ _ _ h => h) (Or.inr ⟨by rfl, rfl⟩) hHeld ?_
    simp only [Act.put, List.setIfInBounds_toArray, List.set_cons_zero, List.set_cons_succ, List.getElem_toArray, List.getElem_cons_zero, List.getElem_cons_succ]
    refine wpAnyH_take (i := 7) (v := undef) rfl (by kernel_rfl) (by kernel_rfl) (by kernel_rfl) (fun _ _ _ h => h) (Or.inr ⟨by rfl, rfl⟩) hHeld ?_
    simp only [Act.put, List.setIfInBounds_toArray, List.set_cons_zero, List.set_cons_succ, List.getElem_toArray, List.getElem_cons_zero, List.getElem_cons_succ]
    refine wpAnyH_take (i := 8) (v := undef) rfl (by kernel_rfl) (by kernel_rfl) (by kernel_rfl) (fun _ _ _ h => h) (Or.inr ⟨by rfl, rfl⟩) hHeld ?_
    simp only [Act.put, List.setIfInBounds_toArray, List.set_cons_zero, List.set_cons_succ, List.getElem_toArray, List.getElem_cons_zero, List.getElem_cons_succ]
    refine wpAnyH_take (i := 9) (v := undef) rfl (by kernel_rfl) (by kernel_rfl) (by kernel_rfl) (fun _ _ _ h => h) (Or.inr ⟨by rfl, rfl⟩) hHeld ?_
    simp only [Act.put, List.setIfInBounds_toArray, List.set_cons_zero, List.set_cons_succ, List.getElem_toArray, List.getElem_cons_zero, List.getElem_cons_succ]
    refine wpAnyH_take (i := 10) (v := undef) rfl (by kernel_rfl) (by kernel_rfl) (by kernel_rfl) (fun _ _ _ h => h) (Or.inr ⟨by rfl, rfl⟩) hHeld ?_
    simp only [Act.put, List.setIfInBounds_toArray, List.set_cons_zero, List.set_cons_succ, List.getElem_toArray, List.getElem_cons_zero, List.getElem_cons_succ]
    refine wpAnyH_take (i := 11) (v := ?_) rfl (by kernel_rfl) (by kernel_rfl) (by kernel_rfl) (fun _ _ _ h => h) (Or.inl ⟨by rfl, ?_⟩) hHeld ?_
    rotate_left 1
    · intro w hSw
      try dsimp only at hSw
      first | (go_simp; done) | (go_simp; with_reducible rfl)
    simp only [Act.put, List.setIfInBounds_toArray, List.set_cons_zero, List.set_cons_succ, List.getElem_toArray, List.getElem_cons_zero, List.getElem_cons_succ]
    refine wpAnyH_take (i := 12) (v := ?_) rfl (by kernel_rfl) (by kernel_rfl) (by kernel_rfl) (fun _ _ _ h => h) (Or.inl ⟨by rfl, ?_⟩) hHeld ?_
    rotate_left 1
    · intro w hSw
      try dsimp only at hSw
      first | (go_simp; done) | (go_simp; with_reducible rfl)
    simp only [Act.put, List.setIfInBounds_toArray, List.set_cons_zero, List.set_cons_succ, List.getElem_toArray, List.getElem_cons_zero, List.getElem_cons_succ]
    refine wpAnyH_take (i := 13) (v := ?_) rfl (by kernel_rfl) (by kernel_rfl) (by kernel_rfl) (fun _ _ _ h => h) (Or.inl ⟨by rfl, ?_⟩) hHeld ?_
    rotate_left 1
    · intro w hSw
      try dsimp only at hSw
      first | (go_simp; done) | (go_simp; with_reducible rfl)
    simp only [Act.put, List.setIfInBounds_toArray, List.set_cons_zero, List.set_cons_succ, List.getElem_toArray, List.getElem_cons_zero, List.getElem_cons_succ]
    refine wpAnyH_take (i := 14) (v := ?_) rfl (by kernel_rfl) (by kernel_rfl) (by kernel_rfl) (fun _ _ _ h => h) (Or.inl ⟨by rfl, ?_⟩) hHeld ?_
    rotate_left 1
    · intro w hSw
      try dsimp only at hSw
      first | (go_simp; done) | (go_simp; with_reducible rfl)
    simp only [Act.put, List.setIfInBounds_toArray, List.set_cons_zero, List.set_cons_succ, List.getElem_toArray, List.getElem_cons_zero, List.getElem_cons_succ]
    refine wpAnyH_take (i := 15) (v := ?_) rfl (by kernel_rfl) (by kernel_rfl) (by kernel_rfl) (fun _ _ _ h => h) (Or.inl ⟨by rfl, ?_⟩) hHeld ?_
    rotate_left 1
    · intro w hSw
      try dsimp only at hSw
      first | (go_simp; done) | (go_simp; with_reducible rfl)
    simp only [Act.put, List.setIfInBounds_toArray, List.set_cons_zero, List.set_cons_succ, List.getElem_toArray, List.getElem_cons_zero, List.getElem_cons_succ]
    refine wpAnyH_take (i := 16) (v := ?_) rfl (by kernel_rfl) (by kernel_rfl) (by kernel_rfl) (fun _ _ _ h => h) (Or.inl ⟨by rfl, ?_⟩) hHeld ?_
    rotate_left 1
    · intro w hSw
      try dsimp only at hSw
      first | (go_simp; done) | (go_simp; with_reducible rfl)
    simp only [Act.put, List.setIfInBounds_toArray, List.set_cons_zero, List.set_cons_succ, List.getElem_toArray, List.getElem_cons_zero, List.getElem_cons_succ]
    refine wpAnyH_take (i := 17) (v := ?_) rfl (by kernel_rfl) (by kernel_rfl) (by kernel_rfl) (fun _ _ _ h => h) (Or.inl ⟨by rfl, ?_⟩) hHeld ?_
    rotate_left 1
    · intro w hSw
      try dsimp only at hSw
      first | (go_simp; done) | (go_simp; with_reducible rfl)
    simp only [Act.put, List.setIfInBounds_toArray, List.set_cons_zero, List.set_cons_succ, List.getElem_toArray, List.getElem_cons_zero, List.getElem_cons_succ]
    refine wpAnyH_take (i := 20) (v := ?_) rfl (by kernel_rfl) (by kernel_rfl) (by kernel_rfl) (fun _ _ _ h => h) (Or.inl ⟨by rfl, ?_⟩) hHeld ?_
    rotate_left 1
    · intro w hSw
      try dsimp only at hSw
      first | (go_simp; done) | (go_simp; with_reducible rfl)
    simp only [Act.put, List.setIfInBounds_toArray, List.set_cons_zero, List.set_cons_succ, List.getElem_toArray, List.getElem_cons_zero, List.getElem_cons_succ]
    refine wpAnyH_take (i := 21) (v := ?_) rfl (by kernel_rfl) (by kernel_rfl) (by kernel_rfl) (fun _ _ _ h => h) (Or.inl ⟨by rfl, ?_⟩) hHeld ?_
    rotate_left 1
    · intro w hSw
      try dsimp only at hSw
      first | (go_simp; done) | (go_simp; with_reducible rfl)
    simp only [Act.put, List.setIfInBounds_toArray, List.set_cons_zero, List.set_cons_succ, List.getElem_toArray, List.getElem_cons_zero, List.getElem_cons_succ]
    refine wpAnyH_ready (rs := [18]) (by kernel_rfl) (by simp) ?_
    refine AllReadyH.cons rfl (fun KK hKK => ?_) AllReadyH.nil
    go_simp
    go_at_call 17
    refine (specUnE_is _ _ _ ys _ R 5 y0 y1 y2 y3 y4 y5 HR.out).mono ?_
    rintro e w4 ⟨rfl, hb⟩
    replace pb0 := cell_later hb pb0
    replace pb1 := cell_later hb pb1
    replace pb2 := cell_later hb pb2
    replace pb3 := cell_later hb pb3
    replace pb4 := cell_later hb pb4
    replace pb5 := cell_later hb pb5
    replace pb6 := cell_later hb pb6
    replace R := R.below hb
    replace lpb := Nat.lt_of_lt_of_le lpb hb.size
    replace B := below_next B hb
    clear hb
    clear hHeld
    refine hKK _ _ ⟨pb0, pb1, pb2, pb3, pb4, pb5, pb6⟩ (fun hHeld => ?_)
    clear hKK KK
    refine wpAnyH_take (i := 19) (v := ?_) rfl (by kernel_rfl) (by kernel_rfl) (by kernel_rfl) (fun _ _ _ h => h) (Or.inl ⟨by rfl, ?_⟩) hHeld ?_
    rotate_left 1
    · intro w hSw
      try dsimp only at hSw
      first | (go_simp; done) | (go_simp; with_reducible rfl)
    simp only [Act.put, List.setIfInBounds_toArray, List.set_cons_zero, List.set_cons_succ, List.getElem_toArray, List.getElem_cons_zero, List.getElem_cons_succ]
    refine wpAnyH_take (i := 22) (v := ?_) rfl (by kernel_rfl) (by kernel_rfl) (by kernel_rfl) (fun _ _ _ h => h) (Or.inl ⟨by rfl, ?_⟩) hHeld ?_
    rotate_left 1
    · intro w hSw
      try dsimp only at hSw
      first | (go_simp; done) | (go_simp; with_reducible rfl)
    simp only [Act.put, List.setIfInBounds_toArray, List.set_cons_zero, List.set_cons_succ, List.getElem_toArray, List.getElem_cons_zero, List.getElem_cons_succ]
    refine wpAnyH_take (i := 23) (v := ?_) rfl (by kernel_rfl) (by kernel_rfl) (by kernel_rfl) (fun _ _ _ h => h) (Or.inl ⟨by rfl, ?_⟩) hHeld ?_
    rotate_left 1
    · intro w hSw
      try dsimp only at hSw
      first | (go_simp; done) | (go_simp; with_reducible rfl)
    simp only [Act.put, List.setIfInBounds_toArray, List.set_cons_zero, List.set_cons_succ, List.getElem_toArray, List.getElem_cons_zero, List.getElem_cons_succ]
    refine wpAnyH_take (i := 24) (v := ?_) rfl (by kernel_rfl) (by kernel_rfl) (by kernel_rfl) (fun _ _ _ h => h) (Or.inl ⟨by rfl, ?_⟩) hHeld ?_
    rotate_left 1
    · intro w hSw
      try dsimp only at hSw
      first | (go_simp; done) | (go_simp; with_reducible rfl)
    simp only [Act.put, List.setIfInBounds_toArray, List.set_cons_zero, List.set_cons_succ, List.getElem_toArray, List.getElem_cons_zero, List.getElem_cons_succ]
    refine wpAnyH_done (by kernel_rfl) ?_ _
    clear HR pb0 pb1 pb2 pb3 pb4 pb5 pb6 R
    go_wp2_with fail
    refine (drawPackE_any ac nc cc cs _ (by exact h.below B) hcs B.size hc).mono ?_
    rintro e w5 ⟨p, q, k, v, a, x, rfl, hb⟩
    replace B := below_next B hb
    have S13 := hb.size
    clear hb
    go_wp2_with fail
    have A14 : Below w5.heap.size w5 (w5.alloc (.cells #[.int .i64 p, .int .i64 q, .int .i64 k, .int .i64 v, .int .i64 a, .int .i64 x] 29)) := (Below.refl _ _).alloc (Nat.le_refl _) _
    replace B := below_next B A14
    have S15 := A14.size
    clear A14
    have E15 : w5.heap.size + 1 ≤ (w5.alloc (.cells #[.int .i64 p, .int .i64 q, .int .i64 k, .int .i64 v, .int .i64 a, .int .i64 x] 29)).heap.size := by simp
    have xb0 : (w5.alloc (.cells #[.int .i64 p, .int .i64 q, .int .i64 k, .int .i64 v, .int .i64 a, .int .i64 x] 29)).cell? ⟨w5.heap.size, 0, none⟩ = some (.int .i64 p) := by simp
    have xb1 : (w5.alloc (.cells #[.int .i64 p, .int .i64 q, .int .i64 k, .int .i64 v, .int .i64 a, .int .i64 x] 29)).cell? ⟨w5.heap.size, 1, none⟩ = some (.int .i64 q) := by simp
    have xb2 : (w5.alloc (.cells #[.int .i64 p, .int .i64 q, .int .i64 k, .int .i64 v, .int .i64 a, .int .i64 x] 29)).cell? ⟨w5.heap.size, 2, none⟩ = some (.int .i64 k) := by simp
    have xb3 : (w5.alloc (.cells #[.int .i64 p, .int .i64 q, .int .i64 k, .int .i64 v, .int .i64 a, .int .i64 x] 29)).cell? ⟨w5.heap.size, 3, none⟩ = some (.int .i64 v) := by simp
    have xb4 : (w5.alloc (.cells #[.int .i64 p, .int .i64 q, .int .i64 k, .int .i64 v, .int .i64 a, .int .i64 x] 29)).cell? ⟨w5.heap.size, 4, none⟩ = some (.int .i64 a) := by simp
    have xb5 : (w5.alloc (.cells #[.int .i64 p, .int .i64 q, .int .i64 k, .int .i64 v, .int .i64 a, .int .i64 x] 29)).cell? ⟨w5.heap.size, 5, none⟩ = some (.int .i64 x) := by simp
    have lxb : w5.heap.size < (w5.alloc (.cells #[.int .i64 p, .int .i64 q, .int .i64 k, .int .i64 v, .int .i64 a, .int .i64 x] 29)).heap.size := by simp
    obtain ⟨c2, hc2⟩ : ∃ c2, enFault (p, q, k, v, a, x) = c2 := ⟨_, rfl⟩
    obtain ⟨ls, hls⟩ : ∃ ls, packEL (p, q, k, v, a, x) = ls := ⟨_, rfl⟩
    have HC2 : Hid _ := hc2
    have HLS : Hid _ := hls
    clear hc2 hls
    go_wp2_with fail
    refine (implPackE_is p q k v a x _ c2 ls HC2.out HLS.out).mono ?_
    rintro e w6 ⟨sa, sn, sc, rfl, R2, hb⟩
    replace xb0 := cell_later hb xb0
    replace xb1 := cell_later hb xb1
    replace xb2 := cell_later hb xb2
    replace xb3 := cell_later hb xb3
    replace xb4 := cell_later hb xb4
    replace xb5 := cell_later hb xb5
    replace lxb := Nat.lt_of_lt_of_le lxb hb.size
    replace B := below_next B hb
    have S16 := hb.size
    clear hb
    by_cases z : c2 = 0
    rotate_left 1
    · have hz : (c2 != 0) = true := by simp [z]
      have hq : (c2 == c2) = true := by simp
      go_wp2_with fail
      have A17 : Below w6.heap.size w6 (w6.alloc (.cells #[.int .i64 c2, .slice sa sn sc] 35)) := (Below.refl _ _).alloc (Nat.le_refl _) _
      replace xb0 := cell_later A17 xb0
      replace xb1 := cell_later A17 xb1
      replace xb2 := cell_later A17 xb2
      replace xb3 := cell_later A17 xb3
      replace xb4 := cell_later A17 xb4
      replace xb5 := cell_later A17 xb5
      replace R2 := R2.below A17
      replace lxb := Nat.lt_of_lt_of_le lxb A17.size
      replace B := below_next B A17
      have S18 := A17.size
      clear A17
      have E18 : w6.heap.size + 1 ≤ (w6.alloc (.cells #[.int .i64 c2, .slice sa sn sc] 35)).heap.size := by simp
      have sb0 : (w6.alloc (.cells #[.int .i64 c2, .slice sa sn sc] 35)).cell? ⟨w6.heap.size, 0, none⟩ = some (.int .i64 c2) := by simp
      have sb1 : (w6.alloc (.cells #[.int .i64 c2, .slice sa sn sc] 35)).cell? ⟨w6.heap.size, 1, none⟩ = some (.slice sa sn sc) := by simp
      have lsb : w6.heap.size < (w6.alloc (.cells #[.int .i64 c2, .slice sa sn sc] 35)).heap.size := by simp
      have D6 : Below (w6.alloc (.cells #[.int .i64 c2, .slice sa sn sc] 35)).heap.size (w6.alloc (.cells #[.int .i64 c2, .slice sa sn sc] 35)) (w6.alloc (.cells #[.int .i64 c2, .slice sa sn sc] 35)).drew := (Below.refl _ _).drew
      replace xb0 := cell_later D6 xb0
      replace xb1 := cell_later D6 xb1
      replace xb2 := cell_later D6 xb2
      replace xb3 := cell_later D6 xb3
      replace xb4 := cell_later D6 xb4
      replace xb5 := cell_later D6 xb5
      replace sb0 := cell_later D6 sb0
      replace sb1 := cell_later D6 sb1
      replace R2 := R2.below D6
      replace lxb := Nat.lt_of_lt_of_le lxb D6.size
      replace lsb := Nat.lt_of_lt_of_le lsb D6.size
      replace B := below_next B D6
      clear D6
      go_region_held3 (fun w' => w'.cell? ⟨w5.heap.size, 0, none⟩ = some (.int .i64 p) ∧ w'.cell? ⟨w5.heap.size, 1, none⟩ = some (.int .i64 q) ∧ w'.cell? ⟨w5.heap.size, 2, none⟩ = some (.int .i64 k) ∧ w'.cell? ⟨w5.heap.size, 3, none⟩ = some (.int .i64 v) ∧ w'.cell? ⟨w5.heap.size, 4, none⟩ = some (.int .i64 a) ∧ w'.cell? ⟨w5.heap.size, 5, none⟩ = some (.int .i64 x) ∧ w'.cell? ⟨w6.heap.size, 0, none⟩ = some (.int .i64 c2)) (with_reducible exact ⟨xb0, xb1, xb2, xb3, xb4, xb5, sb0⟩) (first | (go_at_call 19; (with_reducible refine (specEF_is p q k v a x _ c2 HC2.out).mono ?_); rintro e w7 ⟨rfl, hb⟩; replace xb0 := cell_later hb xb0; replace xb1 := cell_later hb xb1; replace xb2 := cell_later hb xb2; replace xb3 := cell_later hb xb3; replace xb4 := cell_later hb xb4; replace xb5 := cell_later hb xb5; replace sb0 := cell_later hb sb0; replace sb1 := cell_later hb sb1; replace R2 := R2.below hb; replace lxb := Nat.lt_of_lt_of_le lxb hb.size; replace lsb := Nat.lt_of_lt_of_le lsb hb.size; replace B := below_next B hb; clear hb) | (go_at_call 20; (with_reducible refine (implEF_is p q k v a x _ c2 HC2.out).mono ?_); rintro e w8 ⟨rfl, hb⟩; replace xb0 := cell_later hb xb0; replace xb1 := cell_later hb xb1; replace xb2 := cell_later hb xb2; replace xb3 := cell_later hb xb3; replace xb4 := cell_later hb xb4; replace xb5 := cell_later hb xb5; replace sb0 := cell_later hb sb0; replace sb1 := cell_later hb sb1; replace R2 := R2.below hb; replace lxb := Nat.lt_of_lt_of_le lxb hb.size; replace lsb := Nat.lt_of_lt_of_le lsb hb.size; replace B := below_next B hb; clear hb))
      go_wp2
      go_ret
      exact ⟨rfl, B⟩
    subst z
    have hz : ((0 : Int) != 0) = false := by simp
    have hl : ls = packE (p, q, k, v, a, x) := by rw [← HLS.out]; unfold packEL; rw [if_pos HC2.out]
    have HU : Hid (unER ls = (0, p, q, k, v, a, x)) := by show _ = _; rw [hl]; exact pack_un HC2.out
    obtain rfl : sn = 5 := by rw [← R2.nInts, hl]; rfl
    have HO : Hid _ := (en_ok HC2.out).2.2.1
    have RE := run_eqEn p q k v a x p q k v a x true (by simp)
    have RG := run_guEn
    clear hl HLS HC2
    go_wp2_with fail
    have A19 : Below w6.heap.size w6 (w6.alloc (.cells #[.int .i64 0, .slice sa 5 sc] 35)) := (Below.refl _ _).alloc (Nat.le_refl _) _
    replace xb0 := cell_later A19 xb0
    replace xb1 := cell_later A19 xb1
    replace xb2 := cell_later A19 xb2
    replace xb3 := cell_later A19 xb3
    replace xb4 := cell_later A19 xb4
    replace xb5 := cell_later A19 xb5
    replace R2 := R2.below A19
    replace lxb := Nat.lt_of_lt_of_le lxb A19.size
    replace B := below_next B A19
    have S20 := A19.size
    clear A19
    have E20 : w6.heap.size + 1 ≤ (w6.alloc (.cells #[.int .i64 0, .slice sa 5 sc] 35)).heap.size := by simp
    have sb0 : (w6.alloc (.cells #[.int .i64 0, .slice sa 5 sc] 35)).cell? ⟨w6.heap.size, 0, none⟩ = some (.int .i64 0) := by simp
    have sb1 : (w6.alloc (.cells #[.int .i64 0, .slice sa 5 sc] 35)).cell? ⟨w6.heap.size, 1, none⟩ = some (.slice sa 5 sc) := by simp
    have lsb : w6.heap.size < (w6.alloc (.cells #[.int .i64 0, .slice sa 5 sc] 35)).heap.size := by simp
    have D6 : Below (w6.alloc (.cells #[.int .i64 0, .slice sa 5 sc] 35)).heap.size (w6.alloc (.cells #[.int .i64 0, .slice sa 5 sc] 35)) (w6.alloc (.cells #[.int .i64 0, .slice sa 5 sc] 35)).drew := (Below.refl _ _).drew
    replace xb0 := cell_later D6 xb0
    replace xb1 := cell_later D6 xb1
    replace xb2 := cell_later D6 xb2
    replace xb3 := cell_later D6 xb3
    replace xb4 := cell_later D6 xb4
    replace xb5 := cell_later D6 xb5
    replace sb0 := cell_later D6 sb0
    replace sb1 := cell_later D6 sb1
    replace R2 := R2.below D6
    replace lxb := Nat.lt_of_lt_of_le lxb D6.size
    replace lsb := Nat.lt_of_lt_of_le lsb D6.size
    replace B := below_next B D6
    clear D6
    go_region_held3 (fun w' => w'.cell? ⟨w5.heap.size, 0, none⟩ = some (.int .i64 p) ∧ w'.cell? ⟨w5.heap.size, 1, none⟩ = some (.int .i64 q) ∧ w'.cell? ⟨w5.heap.size, 2, none⟩ = some (.int .i64 k) ∧ w'.cell? ⟨w5.heap.size, 3, none⟩ = some (.int .i64 v) ∧ w'.cell? ⟨w5.heap.size, 4, none⟩ = some (.int .i64 a) ∧ w'.cell? ⟨w5.heap.size, 5, none⟩ = some (.int .i64 x) ∧ w'.cell? ⟨w6.heap.size, 1, none⟩ = some (.slice sa 5 sc)) (with_reducible exact ⟨xb0, xb1, xb2, xb3, xb4, xb5, sb1⟩) (first | (go_at_call 14; (with_reducible refine (implUnE_is sa 5 sc ls _ R2 0 p q k v a x HU.out).mono ?_); rintro e w7 ⟨rfl, hb⟩; replace xb0 := cell_later hb xb0; replace xb1 := cell_later hb xb1; replace xb2 := cell_later hb xb2; replace xb3 := cell_later hb xb3; replace xb4 := cell_later hb xb4; replace xb5 := cell_later hb xb5; replace sb0 := cell_later hb sb0; replace sb1 := cell_later hb sb1; replace R2 := R2.below hb; replace lxb := Nat.lt_of_lt_of_le lxb hb.size; replace lsb := Nat.lt_of_lt_of_le lsb hb.size; replace B := below_next B hb; clear hb) | (go_at_call 21; (with_reducible refine (implOpF_is k v a x _ 0 HO.out).mono ?_); rintro e w8 ⟨rfl, hb⟩; replace xb0 := cell_later hb xb0; replace xb1 := cell_later hb xb1; replace xb2 := cell_later hb xb2; replace xb3 := cell_later hb xb3; replace xb4 := cell_later hb xb4; replace xb5 := cell_later hb xb5; replace sb0 := cell_later hb sb0; replace sb1 := cell_later hb sb1; replace R2 := R2.below hb; replace lxb := Nat.lt_of_lt_of_le lxb hb.size; replace lsb := Nat.lt_of_lt_of_le lsb hb.size; replace B := below_next B hb; clear hb))
    go_wp2
    go_ret
    exact ⟨rfl, B⟩

open Go.ChangeShapes Go.WideShapes Go.ChangeAt Go.Joins

set_option maxRecDepth 100000 in
theorem liftedEntries (os : Os) (started : os.Started) (H : Type) (enc : TypeId × Value → H) :
    ReturnsInHanded {} Try.checked os 3 .any (Rows.fnEntriesSpec.pre6 enc Try.prog Try.f3 Rows.fnEntriesRow.domain false) (Rows.fnEntriesSpec.post enc Try.prog Try.f3 false true false false) := by
  refine returnsInHanded_of_change (C := Try.checked) Try.own started (by kernel_rfl) Try.func3
    (ChangeSpec.witness6 (enc := enc) (C := Try.checked) false ⟨#[], #[.slice none 0 0], []⟩ 8 (by kernel_rfl) (by kernel_rfl) (by kernel_rfl) (by kernel_rfl)) ?_
  intro W base args ds gs before hval0 hW hcnd _
  have hval : ∀ (j : Nat) t v, Try.f3.params[j]? = some t → args[j]? = some v → Value.okWide Try.prog W .any base t v := hval0
  have hW' := hW
  obtain ⟨p, q, hA0, hV, rfl, hfz, hnd⟩ := hW
  have hA : DataW.TrodAll enc Try.prog W 0 (fun _ => true) true Try.f3.params.toList args.toList ds p := hA0
  rw [Try.params3] at hA hval
  obtain ⟨v0, vs0, d0, ds0, p0, q0, hargs, rfl, rfl, h0, r0⟩ := trodAll_cons hA
  obtain ⟨rfl, rfl, rfl⟩ := trodAll_nil r0
  obtain rfl : args = #[v0] := by cases args; simp_all
  obtain ⟨rfl, rfl⟩ := trodVars_none hV
  have lt0 : ∀ x ∈ p0, x.block < W.heap.size := by obtain ⟨m, hm⟩ := h0; exact DataW.trod_lt m _ _ _ hm
  have k0 := h0
  obtain ⟨fuel, hf⟩ := h0
  obtain ⟨av, lv, cv, rfl⟩ := okWide_slice Try.underlying22 (hval 0 22 v0 rfl rfl)
  obtain ⟨a2, n2, c2, zs, hv, hn2, hz2, s2⟩ := read_bytes Try.underlying22 Try.underlying5 (by kernel_rfl) (v := .slice av lv cv) (by simpa [Value.cells] using hf)
  obtain ⟨rfl, rfl, rfl⟩ := Value.slice.inj hv
  clear hA0 hval0
  refine (lawEntries _ _ _ zs W s2 hz2 hn2).mono fun e W' ⟨he, bel⟩ => ?_
  subst he
  exact ⟨_, rfl, _, _, _, [], _, [], hW', trodAll_mk1 (shut_bool Try.underlying4 _), (trodAll_cons_mk (Below.trod Try.laidOut (by kernel_rfl) (of_decide_eq_true (by kernel_rfl)) k0 bel lt0) trodAll_mk0), rfl, bel.frame _, fun h => by cases h⟩

set_option maxRecDepth 100000 in
set_option maxHeartbeats 0 in
theorem closedEntries : joinedFacts Try.prog 3 Try.f3 Rows.fnEntriesSpec Rows.fnEntriesRow = true := by
  have q1 : (Rows.fnEntriesRow.inPlace == Try.prog.inPlace 3) = true := by rw [inPlace_at leads_is inp_is]; kernel_rfl
  have q2 : (Rows.fnEntriesRow.unfollowed == Try.prog.unfollowed 3) = true := by rw [unfollowed_at leads_is unf_is]; kernel_rfl
  have q3 : (Rows.fnEntriesRow.recurses == Try.prog.recurses 3) = true := (by rw [recurses_unf leads_is (by rw [unfollowed_at leads_is unf_is]; kernel_rfl)]; rfl)
  have q4 : (Rows.fnEntriesRow.named == Try.prog.varsNamed 3) = true := by rw [varsNamed_at leads_is var_ok ent_is]; kernel_rfl
  have q5 : (Try.prog.make == some Rows.fnEntriesRow.make) = true := by rw [made_cut]; rfl
  have q6 : (Rows.fnEntriesRow.lifted == Try.prog.liftsFinal) = true := by rw [lifts_no]; rfl
  have q7 : Try.prog.mayEnter = true := may_enter
  have q8 : laidOutB Try.prog = true := Try.laidOut
  unfold joinedFacts
  repeat' (with_reducible refine Bool.and_eq_true_iff.2 ⟨?_, ?_⟩)
  all_goals (first | with_reducible exact q1 | with_reducible exact q2 | with_reducible exact q3 | with_reducible exact q4 | with_reducible exact q5 | with_reducible exact q6 | with_reducible exact q7 | with_reducible exact q8 | (as_aux_lemma => kernel_rfl))

theorem entries_holds : Rows.FnEntriesSaid :=
  OpenClaim.holds_of_wide 3 Try.f3 rfl rfl rfl rfl rfl rfl rfl ⟨rfl, rfl, rfl, rfl, rfl⟩ rfl rfl rfl rfl rfl (by as_aux_lemma => kernel_rfl) Try.func3 closedEntries
    (of_decide_eq_true (by as_aux_lemma => kernel_rfl)) (by unfold Func.isWrapper; first | (rw [if_pos (by decide +kernel)]; kernel_rfl) | (rw [if_neg (by decide +kernel)]; exact ⟨rfl, rfl⟩))
    (fun os started H enc _ => liftedEntries os started H enc)

#print axioms entries_holds

end Go.Proofs.Ytpbhiednmnolgaa
