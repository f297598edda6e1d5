/- At every replica and mail the program's MailFault answers as its model does and writes into no argument: the law FnExactMailFault is true at every argument, with no condition. -/
import Derived.Test.YtikplcpgocgogaaRows
import Derived.Test.YtikplcpgocgogaaWI
import Derived.Test.YtikplcpgocgogaaI16
import Derived.Test.YtikplcpgocgogaaWH
import Derived.Test.YtikplcpgocgogaaWG
namespace Go.Proofs.Ytikplcpgocgogaa
open Go.RowKit

set_option maxRecDepth 20000 in
set_option maxHeartbeats 16000000 in
theorem lawMailFault {own o2 : Bool} (r : Rep) (h : RH) (m : Ml) (hm : Hd) (w : World) (x : RepAt w own 0 w.heap.size h r) (hs : RSz h maxLen) (y : RowAt w o2 0 w.heap.size 6 hm.1 hm.2.1 hm.2.2 (sixs m.log)) (hn : hm.2.1 ≤ maxLen) : Calls Try.prog 5 #[.agg #[.int .i64 r.id, .int .i64 r.size, .int .i64 r.view, .bool r.normal, .int .i64 r.last, .slice h.L.1 h.L.2.1 h.L.2.2, .int .i64 r.commit, .slice h.O.1 h.O.2.1 h.O.2.2, .slice h.A.1 h.A.2.1 h.A.2.2, .slice h.D.1 h.D.2.1 h.D.2.2], .agg #[.int .i64 m.kind, .int .i64 m.fr, .int .i64 m.to, .int .i64 m.view, .int .i64 m.at_, .bool m.has, .int .i64 m.en.1, .int .i64 m.en.2.1, .int .i64 m.en.2.2.1, .int .i64 m.en.2.2.2.1, .int .i64 m.en.2.2.2.2.1, .int .i64 m.en.2.2.2.2.2, .int .i64 m.last, .slice hm.1 hm.2.1 hm.2.2, .int .i64 m.commit]] w fun e w' => e = .returned (.bool true) ∧ Below w.heap.size w w' := by
  obtain ⟨cd, hcd⟩ : ∃ cd, mailF r m = cd := ⟨_, rfl⟩
  have HC : Hid _ := hcd
  clear hcd
  have hd : (cd != cd) = false := by simp
  go_enter Try.func5, Try.ntmps5
  go_wp2_with (first | ((have g := ob0); clear g; (with_reducible refine box_newX 61 [.int .i64 m.kind, .int .i64 m.fr, .int .i64 m.to, .int .i64 m.view, .int .i64 m.at_, .bool m.has, .int .i64 m.en.1, .int .i64 m.en.2.1, .int .i64 m.en.2.2.1, .int .i64 m.en.2.2.2.1, .int .i64 m.en.2.2.2.2.1, .int .i64 m.en.2.2.2.2.2, .int .i64 m.last, .slice hm.1 hm.2.1 hm.2.2, .int .i64 m.commit] rfl ?_); intro b1 W1 N1; have ob1 : w.heap.size ≤ b1 := Nat.le_trans B.size N1.ge; have o0_b1 : b0 < b1 := Nat.lt_of_lt_of_le X0.lt N1.ge; replace X0 := X0.below N1.below; replace c0 := X0.cell; replace B := below_next B N1.below; have X1 := N1.bx; have c1 := X1.cell; clear N1) | ((with_reducible refine box_newX 56 [.int .i64 r.id, .int .i64 r.size, .int .i64 r.view, .bool r.normal, .int .i64 r.last, .slice h.L.1 h.L.2.1 h.L.2.2, .int .i64 r.commit, .slice h.O.1 h.O.2.1 h.O.2.2, .slice h.A.1 h.A.2.1 h.A.2.2, .slice h.D.1 h.D.2.1 h.D.2.2] rfl ?_); intro b0 W0 N0; have ob0 : w.heap.size ≤ b0 := N0.ge; have B := N0.below; have X0 := N0.bx; have c0 := X0.cell; clear N0) | fail)
  refine (szReplica_left r h _ (x.below B) hs).mono ?_
  rintro e w1 ⟨q, rfl, BB, hq⟩
  replace X0 := X0.below BB
  replace c0 := X0.cell
  replace X1 := X1.below BB
  replace c1 := X1.cell
  replace B := below_next B BB
  clear BB
  rcases hq with hq | ⟨hq0, hq1, HZ⟩
  · go_wp2
    go_ret
    exact ⟨rfl, B⟩
  have hq' : ¬ q < 0 := by omega
  go_wp2_with fail
  refine (szMail_left m hm q _ hn hq0 hq1).mono ?_
  rintro e w2 ⟨rfl, BB⟩
  replace X0 := X0.below BB
  replace c0 := X0.cell
  replace X1 := X1.below BB
  replace c1 := X1.cell
  replace B := below_next B BB
  clear BB
  by_cases hb : q < hm.2.1
  · rw [if_pos hb]
    go_wp2
    go_ret
    exact ⟨rfl, B⟩
  rw [if_neg hb]
  have hb2 : ¬ q - (hm.2.1 : Int) < 0 := by omega
  have hz1 : hm.2.1 ≤ 1048576 := by omega
  have hz2 : hm.2.1 ≤ 2097152 := by omega
  clear hq0 hq1
  go_wp2_with fail
  have DQ : Below w2.heap.size w2 w2.drew := (Below.refl _ _).drew
  replace X0 := X0.below DQ
  replace c0 := X0.cell
  replace X1 := X1.below DQ
  replace c1 := X1.cell
  replace B := below_next B DQ
  clear DQ
  refine wp_region_held_drew (S := (fun w' => (∀ k : Nat, w'.cell? ⟨b0, k, none⟩ = [.int .i64 r.id, .int .i64 r.size, .int .i64 r.view, .bool r.normal, .int .i64 r.last, .slice h.L.1 h.L.2.1 h.L.2.2, .int .i64 r.commit, .slice h.O.1 h.O.2.1 h.O.2.2, .slice h.A.1 h.A.2.1 h.A.2.2, .slice h.D.1 h.D.2.1 h.D.2.2][k]?) ∧ (∀ k : Nat, w'.cell? ⟨b1, k, none⟩ = [.int .i64 m.kind, .int .i64 m.fr, .int .i64 m.to, .int .i64 m.view, .int .i64 m.at_, .bool m.has, .int .i64 m.en.1, .int .i64 m.en.2.1, .int .i64 m.en.2.2.1, .int .i64 m.en.2.2.2.1, .int .i64 m.en.2.2.2.2.1, .int .i64 m.en.2.2.2.2.2, .int .i64 m.last, .slice hm.1 hm.2.1 hm.2.2, .int .i64 m.commit][k]?))) (by kernel_rfl) ⟨c0, c1⟩ (fun hHeld => ?_)
  refine wpAnyH_take (i := 0) (v := ?_) rfl (by kernel_rfl) (by kernel_rfl) (by kernel_rfl) (fun _ _ _ h => h) (Or.inl ⟨by rfl, ?_⟩) hHeld ?_
  rotate_left 1
  · intro w hSw
    try dsimp only at hSw
    first | (go_simp; done) | (go_simp; with_reducible rfl)
  simp only [Act.put, List.setIfInBounds_toArray, List.set_cons_zero, List.set_cons_succ, List.getElem_toArray, List.getElem_cons_zero]
  refine wpAnyH_take (i := 2) (v := ?_) rfl (by kernel_rfl) (by kernel_rfl) (by kernel_rfl) (fun _ _ _ h => h) (Or.inl ⟨by rfl, ?_⟩) hHeld ?_
  rotate_left 1
  · intro w hSw
    try dsimp only at hSw
    first | (go_simp; done) | (go_simp; with_reducible rfl)
  simp only [Act.put, List.setIfInBounds_toArray, List.set_cons_zero, List.set_cons_succ, List.getElem_toArray, List.getElem_cons_zero, List.getElem_cons_succ]
  refine wpAnyH_ready (rs := [1]) (by kernel_rfl) (by simp) ?_
  refine AllReadyH.cons rfl (fun KK hKK => ?_) AllReadyH.nil
  go_simp
  go_at_call 25
  refine (toReplica_any r h _ (x.below B) HZ).mono ?_
  rintro e v1 ⟨k1, rfl, y1, z1, BB⟩
  replace X0 := X0.below BB
  replace c0 := X0.cell
  replace X1 := X1.below BB
  replace c1 := X1.cell
  replace B := below_next B BB
  clear BB
  clear hHeld
  refine hKK _ _ ⟨c0, c1⟩ (fun hHeld => ?_)
  clear hKK KK
  refine wpAnyH_ready (rs := [3]) (by kernel_rfl) (by simp) ?_
  refine AllReadyH.cons rfl (fun KK hKK => ?_) AllReadyH.nil
  go_simp
  go_at_call 26
  refine (toMail_any m hm _ (y.below B) hz1).mono ?_
  rintro e v2 ⟨g1, rfl, _, _, y2, BB⟩
  replace X0 := X0.below BB
  replace c0 := X0.cell
  replace X1 := X1.below BB
  replace c1 := X1.cell
  replace B := below_next B BB
  replace y1 := y1.below BB
  clear BB
  clear hHeld
  refine hKK _ _ ⟨c0, c1⟩ (fun hHeld => ?_)
  clear hKK KK
  refine wpAnyH_ready (rs := [4]) (by kernel_rfl) (by simp) ?_
  refine AllReadyH.cons rfl (fun KK hKK => ?_) AllReadyH.nil
  go_simp
  go_at_call 24
  refine (specMF_is r k1 m (some ⟨g1, 0, none⟩, hm.2.1, hm.2.1) _ y1 (z1.mono (by omega)) y2 cd HC.out).mono ?_
  rintro e v3 ⟨rfl, BB⟩
  replace X0 := X0.below BB
  replace c0 := X0.cell
  replace X1 := X1.below BB
  replace c1 := X1.cell
  replace B := below_next B BB
  clear BB
  clear hHeld
  refine hKK _ _ ⟨c0, c1⟩ (fun hHeld => ?_)
  clear hKK KK
  refine wpAnyH_take (i := 5) (v := ?_) rfl (by kernel_rfl) (by kernel_rfl) (by kernel_rfl) (fun _ _ _ h => h) (Or.inl ⟨by rfl, ?_⟩) hHeld ?_
  rotate_left 1
  · intro w hSw
    try dsimp only at hSw
    first | (go_simp; done) | (go_simp; with_reducible rfl)
  simp only [Act.put, List.setIfInBounds_toArray, List.set_cons_zero, List.set_cons_succ, List.getElem_toArray, List.getElem_cons_zero, List.getElem_cons_succ]
  refine wpAnyH_done (by kernel_rfl) ?_ _
  clear y1 y2 z1
  go_wp2_with fail
  refine (toReplica_z r h _ (x.below B) HZ).mono ?_
  rintro e w4 ⟨zY, uY, k2, rfl, GzY, hy1, y1, z1, BB⟩
  have ozY : w.heap.size ≤ zY := Nat.le_trans B.size GzY
  have o0_zY : b0 < zY := Nat.lt_of_lt_of_le X0.lt GzY
  have o1_zY : b1 < zY := Nat.lt_of_lt_of_le X1.lt GzY
  clear GzY
  replace X0 := X0.below BB
  replace c0 := X0.cell
  replace X1 := X1.below BB
  replace c1 := X1.cell
  replace B := below_next B BB
  clear BB
  go_wp2_with (first | ((with_reducible refine store_midX 29 X2 0 [.int .i64 r.id, .int .i64 r.size, .int .i64 r.view, .bool r.normal, .int .i64 r.last, .slice k2.L.1 k2.L.2.1 k2.L.2.2, .int .i64 r.commit, .slice k2.O.1 k2.O.2.1 k2.O.2.2, .slice k2.A.1 k2.A.2.1 k2.A.2.2, .slice k2.D.1 k2.D.2.1 k2.D.2.2] (by simp) (by kernel_rfl) (by simp [Value.oneCell']) rfl rfl ?_); intro V1 S; replace X0 := X0.kept S.kept (by omega); replace c0 := X0.cell; replace X1 := X1.kept S.kept (by omega); replace c1 := X1.cell; replace X2 : Bx V1 b2 [.int .i64 r.id, .int .i64 r.size, .int .i64 r.view, .bool r.normal, .int .i64 r.last, .slice k2.L.1 k2.L.2.1 k2.L.2.2, .int .i64 r.commit, .slice k2.O.1 k2.O.2.1 k2.O.2.2, .slice k2.A.1 k2.A.2.1 k2.A.2.2, .slice k2.D.1 k2.D.2.1 k2.D.2.2] := S.bx; replace c2 := X2.cell; replace f2 := X2.froz; replace y1 := y1.kept S.kept (by omega); replace hy1 := Nat.le_trans hy1 S.kept.size; replace B := B.trans (S.kept.below _ (by omega) B.size); clear S) | ((have g := ob1); clear g; (with_reducible refine alloc_newX 29 [.int .i64 0, .int .i64 0, .int .i64 0, .bool false, .int .i64 0, .slice none 0 0, .int .i64 0, .slice none 0 0, .slice none 0 0, .slice none 0 0] (fun _ => by kernel_rfl) ?_); intro b2 W2 N2; have ob2 : w.heap.size ≤ b2 := Nat.le_trans B.size N2.ge; have o0_b2 : b0 < b2 := Nat.lt_of_lt_of_le X0.lt N2.ge; have o1_b2 : b1 < b2 := Nat.lt_of_lt_of_le X1.lt N2.ge; have oy1_b2 : uY ≤ b2 := Nat.le_trans hy1 N2.ge; replace X0 := X0.below N2.below; replace c0 := X0.cell; replace X1 := X1.below N2.below; replace c1 := X1.cell; replace y1 := y1.below N2.below; replace hy1 := Nat.le_trans hy1 N2.below.size; replace B := below_next B N2.below; have X2 := N2.bx; have c2 := X2.cell; have f2 := X2.froz; clear N2) | fail)
  refine (toMail_any m hm _ (y.below B) hz1).mono ?_
  rintro e w5 ⟨g2, rfl, Gg2, lR2, R2, BB⟩
  have og2 : w.heap.size ≤ g2 := Nat.le_trans B.size Gg2
  have o0_g2 : b0 < g2 := Nat.lt_of_lt_of_le X0.lt Gg2
  have o1_g2 : b1 < g2 := Nat.lt_of_lt_of_le X1.lt Gg2
  have o2_g2 : b2 < g2 := Nat.lt_of_lt_of_le X2.lt Gg2
  have oy1_g2 : uY ≤ g2 := Nat.le_trans hy1 Gg2
  clear Gg2
  replace X0 := X0.below BB
  replace c0 := X0.cell
  replace X1 := X1.below BB
  replace c1 := X1.cell
  replace X2 := X2.below BB
  replace c2 := X2.cell
  replace f2 := X2.froz
  replace y1 := y1.below BB
  replace hy1 := Nat.le_trans hy1 BB.size
  replace B := below_next B BB
  clear BB
  go_wp2_with (first | ((with_reducible refine store_midX 46 X3 0 [.int .i64 m.kind, .int .i64 m.fr, .int .i64 m.to, .int .i64 m.view, .int .i64 m.at_, .bool m.has, .int .i64 m.en.1, .int .i64 m.en.2.1, .int .i64 m.en.2.2.1, .int .i64 m.en.2.2.2.1, .int .i64 m.en.2.2.2.2.1, .int .i64 m.en.2.2.2.2.2, .int .i64 m.last, .slice (some ⟨g2, 0, none⟩) hm.2.1 hm.2.1, .int .i64 m.commit] (by simp) (by kernel_rfl) (by simp [Value.oneCell']) rfl rfl ?_); intro V2 S; replace X0 := X0.kept S.kept (by omega); replace c0 := X0.cell; replace X1 := X1.kept S.kept (by omega); replace c1 := X1.cell; replace X2 := X2.kept S.kept (by omega); replace c2 := X2.cell; replace f2 := X2.froz; replace X3 : Bx V2 b3 [.int .i64 m.kind, .int .i64 m.fr, .int .i64 m.to, .int .i64 m.view, .int .i64 m.at_, .bool m.has, .int .i64 m.en.1, .int .i64 m.en.2.1, .int .i64 m.en.2.2.1, .int .i64 m.en.2.2.2.1, .int .i64 m.en.2.2.2.2.1, .int .i64 m.en.2.2.2.2.2, .int .i64 m.last, .slice (some ⟨g2, 0, none⟩) hm.2.1 hm.2.1, .int .i64 m.commit] := S.bx; replace c3 := X3.cell; replace f3 := X3.froz; replace R2 := R2.kept S.kept (by omega); replace lR2 := Nat.lt_of_lt_of_le lR2 S.kept.size; replace y1 := y1.kept S.kept (by omega); replace hy1 := Nat.le_trans hy1 S.kept.size; replace B := B.trans (S.kept.below _ (by omega) B.size); clear S) | ((have g := ob2); clear g; (with_reducible refine alloc_newX 46 [.int .i64 0, .int .i64 0, .int .i64 0, .int .i64 0, .int .i64 0, .bool false, .int .i64 0, .int .i64 0, .int .i64 0, .int .i64 0, .int .i64 0, .int .i64 0, .int .i64 0, .slice none 0 0, .int .i64 0] (fun _ => by kernel_rfl) ?_); intro b3 W3 N3; have ob3 : w.heap.size ≤ b3 := Nat.le_trans B.size N3.ge; have o0_b3 : b0 < b3 := Nat.lt_of_lt_of_le X0.lt N3.ge; have o1_b3 : b1 < b3 := Nat.lt_of_lt_of_le X1.lt N3.ge; have o2_b3 : b2 < b3 := Nat.lt_of_lt_of_le X2.lt N3.ge; have oR2_b3 : g2 < b3 := Nat.lt_of_lt_of_le lR2 N3.ge; have oy1_b3 : uY ≤ b3 := Nat.le_trans hy1 N3.ge; replace X0 := X0.below N3.below; replace c0 := X0.cell; replace X1 := X1.below N3.below; replace c1 := X1.cell; replace X2 := X2.below N3.below; replace c2 := X2.cell; replace f2 := X2.froz; replace R2 := R2.below N3.below; replace lR2 := Nat.lt_of_lt_of_le lR2 N3.below.size; replace y1 := y1.below N3.below; replace hy1 := Nat.le_trans hy1 N3.below.size; replace B := below_next B N3.below; have X3 := N3.bx; have c3 := X3.cell; have f3 := X3.froz; clear N3) | fail)
  refine (implMF_is r k2 m (some ⟨g2, 0, none⟩, hm.2.1, hm.2.1) _ y1 (z1.mono (by omega)) R2 cd HC.out).mono ?_
  rintro e w6 ⟨rfl, BB⟩
  replace X0 := X0.below BB
  replace c0 := X0.cell
  replace X1 := X1.below BB
  replace c1 := X1.cell
  replace X2 := X2.below BB
  replace c2 := X2.cell
  replace f2 := X2.froz
  replace X3 := X3.below BB
  replace c3 := X3.cell
  replace f3 := X3.froz
  replace R2 := R2.below BB
  replace lR2 := Nat.lt_of_lt_of_le lR2 BB.size
  replace y1 := y1.below BB
  replace hy1 := Nat.le_trans hy1 BB.size
  replace B := below_next B BB
  clear BB
  go_wp2_with fail
  have DQ : Below w6.heap.size w6 w6.drew := (Below.refl _ _).drew
  replace X0 := X0.below DQ
  replace c0 := X0.cell
  replace X1 := X1.below DQ
  replace c1 := X1.cell
  replace X2 := X2.below DQ
  replace c2 := X2.cell
  replace f2 := X2.froz
  replace X3 := X3.below DQ
  replace c3 := X3.cell
  replace f3 := X3.froz
  replace R2 := R2.below DQ
  replace lR2 := Nat.lt_of_lt_of_le lR2 DQ.size
  replace y1 := y1.below DQ
  replace hy1 := Nat.le_trans hy1 DQ.size
  replace B := below_next B DQ
  clear DQ
  refine wp_region_held_drew (S := (fun w' => (∀ k : Nat, w'.cell? ⟨b0, k, none⟩ = [.int .i64 r.id, .int .i64 r.size, .int .i64 r.view, .bool r.normal, .int .i64 r.last, .slice h.L.1 h.L.2.1 h.L.2.2, .int .i64 r.commit, .slice h.O.1 h.O.2.1 h.O.2.2, .slice h.A.1 h.A.2.1 h.A.2.2, .slice h.D.1 h.D.2.1 h.D.2.2][k]?) ∧ (∀ k : Nat, w'.cell? ⟨b2, k, none⟩ = [.int .i64 r.id, .int .i64 r.size, .int .i64 r.view, .bool r.normal, .int .i64 r.last, .slice k2.L.1 k2.L.2.1 k2.L.2.2, .int .i64 r.commit, .slice k2.O.1 k2.O.2.1 k2.O.2.2, .slice k2.A.1 k2.A.2.1 k2.A.2.2, .slice k2.D.1 k2.D.2.1 k2.D.2.2][k]?))) (by kernel_rfl) ⟨c0, c2⟩ (fun hHeld => ?_)
  refine wpAnyH_take (i := 0) (v := ?_) rfl (by kernel_rfl) (by kernel_rfl) (by kernel_rfl) (fun _ _ _ h => h) (Or.inl ⟨by rfl, ?_⟩) hHeld ?_
  rotate_left 1
  · intro w hSw
    try dsimp only at hSw
    first | (go_simp; done) | (go_simp; with_reducible rfl)
  simp only [Act.put, List.setIfInBounds_toArray, List.set_cons_zero, List.set_cons_succ, List.getElem_toArray, List.getElem_cons_zero]
  refine wpAnyH_take (i := 1) (v := ?_) rfl (by kernel_rfl) (by kernel_rfl) (by kernel_rfl) (fun _ _ _ h => h) (Or.inl ⟨by rfl, ?_⟩) hHeld ?_
  rotate_left 1
  · intro w hSw
    try dsimp only at hSw
    first | (go_simp; done) | (go_simp; with_reducible rfl)
  simp only [Act.put, List.setIfInBounds_toArray, List.set_cons_zero, List.set_cons_succ, List.getElem_toArray, List.getElem_cons_zero, List.getElem_cons_succ]
  refine wpAnyH_ready (rs := [2]) (by kernel_rfl) (by simp) ?_
  refine AllReadyH.cons rfl (fun KK hKK => ?_) AllReadyH.nil
  go_simp
  go_at_call 25
  refine (toReplica_any r h _ (x.below B) HZ).mono ?_
  rintro e v4 ⟨k9, rfl, y9, z9, BB⟩
  replace X0 := X0.below BB
  replace c0 := X0.cell
  replace X1 := X1.below BB
  replace c1 := X1.cell
  replace X2 := X2.below BB
  replace c2 := X2.cell
  replace f2 := X2.froz
  replace X3 := X3.below BB
  replace c3 := X3.cell
  replace f3 := X3.froz
  replace R2 := R2.below BB
  replace lR2 := Nat.lt_of_lt_of_le lR2 BB.size
  replace y1 := y1.below BB
  replace hy1 := Nat.le_trans hy1 BB.size
  replace B := below_next B BB
  clear BB
  clear hHeld
  refine hKK _ _ ⟨c0, c2⟩ (fun hHeld => ?_)
  clear hKK KK
  refine wpAnyH_ready (rs := [3]) (by kernel_rfl) (by simp) ?_
  refine AllReadyH.cons rfl (fun KK hKK => ?_) AllReadyH.nil
  go_simp
  go_at_call 28
  refine (eqReplica_yes r k2 k9 _ y1 y9 (z1.mono (by omega))).mono ?_
  rintro e v5 ⟨rfl, BB⟩
  replace X0 := X0.below BB
  replace c0 := X0.cell
  replace X1 := X1.below BB
  replace c1 := X1.cell
  replace X2 := X2.below BB
  replace c2 := X2.cell
  replace f2 := X2.froz
  replace X3 := X3.below BB
  replace c3 := X3.cell
  replace f3 := X3.froz
  replace R2 := R2.below BB
  replace lR2 := Nat.lt_of_lt_of_le lR2 BB.size
  replace y1 := y1.below BB
  replace hy1 := Nat.le_trans hy1 BB.size
  replace B := below_next B BB
  clear BB
  clear hHeld
  refine hKK _ _ ⟨c0, c2⟩ (fun hHeld => ?_)
  clear hKK KK
  refine wpAnyH_take (i := 4) (v := ?_) rfl (by kernel_rfl) (by kernel_rfl) (by kernel_rfl) (fun _ _ _ h => h) (Or.inl ⟨by rfl, ?_⟩) hHeld ?_
  rotate_left 1
  · intro w hSw
    try dsimp only at hSw
    first | (go_simp; done) | (go_simp; with_reducible rfl)
  simp only [Act.put, List.setIfInBounds_toArray, List.set_cons_zero, List.set_cons_succ, List.getElem_toArray, List.getElem_cons_zero, List.getElem_cons_succ]
  refine wpAnyH_done (by kernel_rfl) ?_ _
  clear y9 z9
  go_wp2_with fail
  have DQ : Below v5.heap.size v5 v5.drew := (Below.refl _ _).drew
  replace X0 := X0.below DQ
  replace c0 := X0.cell
  replace X1 := X1.below DQ
  replace c1 := X1.cell
  replace X2 := X2.below DQ
  replace c2 := X2.cell
  replace f2 := X2.froz
  replace X3 := X3.below DQ
  replace c3 := X3.cell
  replace f3 := X3.froz
  replace R2 := R2.below DQ
  replace lR2 := Nat.lt_of_lt_of_le lR2 DQ.size
  replace y1 := y1.below DQ
  replace hy1 := Nat.le_trans hy1 DQ.size
  replace B := below_next B DQ
  clear DQ
  refine wp_region_held_drew (S := (fun w' => (∀ k : Nat, w'.cell? ⟨b1, k, none⟩ = [.int .i64 m.kind, .int .i64 m.fr, .int .i64 m.to, .int .i64 m.view, .int .i64 m.at_, .bool m.has, .int .i64 m.en.1, .int .i64 m.en.2.1, .int .i64 m.en.2.2.1, .int .i64 m.en.2.2.2.1, .int .i64 m.en.2.2.2.2.1, .int .i64 m.en.2.2.2.2.2, .int .i64 m.last, .slice hm.1 hm.2.1 hm.2.2, .int .i64 m.commit][k]?) ∧ (∀ k : Nat, w'.cell? ⟨b3, k, none⟩ = [.int .i64 m.kind, .int .i64 m.fr, .int .i64 m.to, .int .i64 m.view, .int .i64 m.at_, .bool m.has, .int .i64 m.en.1, .int .i64 m.en.2.1, .int .i64 m.en.2.2.1, .int .i64 m.en.2.2.2.1, .int .i64 m.en.2.2.2.2.1, .int .i64 m.en.2.2.2.2.2, .int .i64 m.last, .slice (some ⟨g2, 0, none⟩) hm.2.1 hm.2.1, .int .i64 m.commit][k]?))) (by kernel_rfl) ⟨c1, c3⟩ (fun hHeld => ?_)
  refine wpAnyH_take (i := 0) (v := ?_) rfl (by kernel_rfl) (by kernel_rfl) (by kernel_rfl) (fun _ _ _ h => h) (Or.inl ⟨by rfl, ?_⟩) hHeld ?_
  rotate_left 1
  · intro w hSw
    try dsimp only at hSw
    first | (go_simp; done) | (go_simp; with_reducible rfl)
  simp only [Act.put, List.setIfInBounds_toArray, List.set_cons_zero, List.set_cons_succ, List.getElem_toArray, List.getElem_cons_zero]
  refine wpAnyH_take (i := 1) (v := ?_) rfl (by kernel_rfl) (by kernel_rfl) (by kernel_rfl) (fun _ _ _ h => h) (Or.inl ⟨by rfl, ?_⟩) hHeld ?_
  rotate_left 1
  · intro w hSw
    try dsimp only at hSw
    first | (go_simp; done) | (go_simp; with_reducible rfl)
  simp only [Act.put, List.setIfInBounds_toArray, List.set_cons_zero, List.set_cons_succ, List.getElem_toArray, List.getElem_cons_zero, List.getElem_cons_succ]
  refine wpAnyH_ready (rs := [2]) (by kernel_rfl) (by simp) ?_
  refine AllReadyH.cons rfl (fun KK hKK => ?_) AllReadyH.nil
  go_simp
  go_at_call 26
  refine (toMail_any m hm _ (y.below B) hz1).mono ?_
  rintro e v6 ⟨g3, rfl, _, _, R3, BB⟩
  replace X0 := X0.below BB
  replace c0 := X0.cell
  replace X1 := X1.below BB
  replace c1 := X1.cell
  replace X2 := X2.below BB
  replace c2 := X2.cell
  replace f2 := X2.froz
  replace X3 := X3.below BB
  replace c3 := X3.cell
  replace f3 := X3.froz
  replace R2 := R2.below BB
  replace lR2 := Nat.lt_of_lt_of_le lR2 BB.size
  replace y1 := y1.below BB
  replace hy1 := Nat.le_trans hy1 BB.size
  replace B := below_next B BB
  clear BB
  clear hHeld
  refine hKK _ _ ⟨c1, c3⟩ (fun hHeld => ?_)
  clear hKK KK
  refine wpAnyH_ready (rs := [3]) (by kernel_rfl) (by simp) ?_
  refine AllReadyH.cons rfl (fun KK hKK => ?_) AllReadyH.nil
  go_simp
  go_at_call 29
  refine (eqMail_yes m (some ⟨g2, 0, none⟩, hm.2.1, hm.2.1) (some ⟨g3, 0, none⟩, hm.2.1, hm.2.1) _ R2 R3 hz2).mono ?_
  rintro e v7 ⟨rfl, BB⟩
  replace X0 := X0.below BB
  replace c0 := X0.cell
  replace X1 := X1.below BB
  replace c1 := X1.cell
  replace X2 := X2.below BB
  replace c2 := X2.cell
  replace f2 := X2.froz
  replace X3 := X3.below BB
  replace c3 := X3.cell
  replace f3 := X3.froz
  replace R2 := R2.below BB
  replace lR2 := Nat.lt_of_lt_of_le lR2 BB.size
  replace y1 := y1.below BB
  replace hy1 := Nat.le_trans hy1 BB.size
  replace B := below_next B BB
  clear BB
  clear hHeld
  refine hKK _ _ ⟨c1, c3⟩ (fun hHeld => ?_)
  clear hKK KK
  refine wpAnyH_take (i := 4) (v := ?_) rfl (by kernel_rfl) (by kernel_rfl) (by kernel_rfl) (fun _ _ _ h => h) (Or.inl ⟨by rfl, ?_⟩) hHeld ?_
  rotate_left 1
  · intro w hSw
    try dsimp only at hSw
    first | (go_simp; done) | (go_simp; with_reducible rfl)
  simp only [Act.put, List.setIfInBounds_toArray, List.set_cons_zero, List.set_cons_succ, List.getElem_toArray, List.getElem_cons_zero, List.getElem_cons_succ]
  refine wpAnyH_done (by kernel_rfl) ?_ _
  go_wp2
  go_ret
  exact ⟨rfl, B⟩

open Go.ChangeShapes Go.WideShapes Go.ChangeAt Go.Joins

set_option maxRecDepth 100000 in
theorem liftedMailFault (os : Os) (started : os.Started) (H : Type) (enc : TypeId × Value → H) :
    ReturnsInHanded {} Try.checked os 5 .any (Rows.fnExactMailFaultSpec.pre6 enc Try.prog Try.f5 Rows.fnExactMailFaultRow.domain false) (Rows.fnExactMailFaultSpec.post enc Try.prog Try.f5 false true false false) := by
  refine returnsInHanded_of_change (C := Try.checked) Try.own started (by kernel_rfl) Try.func5
    (ChangeSpec.witness6 (enc := enc) (C := Try.checked) false ⟨#[], #[.agg #[.int .i64 0, .int .i64 0, .int .i64 0, .bool false, .int .i64 0, .slice none 0 0, .int .i64 0, .slice none 0 0, .slice none 0 0, .slice none 0 0], .agg #[.int .i64 0, .int .i64 0, .int .i64 0, .int .i64 0, .int .i64 0, .bool false, .int .i64 0, .int .i64 0, .int .i64 0, .int .i64 0, .int .i64 0, .int .i64 0, .int .i64 0, .slice none 0 0, .int .i64 0]], []⟩ 8 (by kernel_rfl) (by kernel_rfl) (by kernel_rfl) (by kernel_rfl)) ?_
  intro W base args ds gs before hval0 hW hcnd _
  have hval : ∀ (j : Nat) t v, Try.f5.params[j]? = some t → args[j]? = some v → Value.okWide Try.prog W .any base t v := hval0
  have hW' := hW
  obtain ⟨p, q, hA0, hV, rfl, hfz, hnd⟩ := hW
  have hA : DataW.TrodAll enc Try.prog W 0 (fun _ => true) true Try.f5.params.toList args.toList ds p := hA0
  rw [Try.params5] at hA hval
  obtain ⟨v0, vs0, d0, ds0, p0, q0, hargs, rfl, rfl, h0, r0⟩ := trodAll_cons hA
  obtain ⟨v1, vs1, d1, ds1, p1, q1, rfl, rfl, rfl, h1, r1⟩ := trodAll_cons r0
  obtain ⟨rfl, rfl, rfl⟩ := trodAll_nil r1
  obtain rfl : args = #[v0, v1] := by cases args; simp_all
  obtain ⟨rfl, rfl⟩ := trodVars_none hV
  have lt0 : ∀ x ∈ p0, x.block < W.heap.size := by obtain ⟨m, hm⟩ := h0; exact DataW.trod_lt m _ _ _ hm
  have k0 := h0
  obtain ⟨rr0, rh0, rfl, rz0, rx0⟩ := open_replica Try.repTy (hval 0 56 v0 rfl rfl) h0
  have lt1 : ∀ x ∈ p1, x.block < W.heap.size := by obtain ⟨m, hm⟩ := h1; exact DataW.trod_lt m _ _ _ hm
  have k1 := h1
  obtain ⟨ml1, mh1, rfl, mz1, mx1⟩ := open_mail Try.mailTy (hval 1 61 v1 rfl rfl) h1
  clear hA0 hval0
  refine (lawMailFault rr0 rh0 ml1 mh1 W rx0 rz0 mx1 mz1).mono fun e W' ⟨he, bel⟩ => ?_
  subst he
  exact ⟨_, rfl, _, _, _, [], _, [], hW', trodAll_mk1 (shut_bool Try.underlying4 _), (trodAll_cons_mk (Below.trod Try.laidOut (by kernel_rfl) (of_decide_eq_true (by kernel_rfl)) k0 bel lt0) (trodAll_cons_mk (Below.trod Try.laidOut (by kernel_rfl) (of_decide_eq_true (by kernel_rfl)) k1 bel lt1) trodAll_mk0)), rfl, bel.frame _, fun h => by cases h⟩

set_option maxRecDepth 100000 in
set_option maxHeartbeats 0 in
theorem closedMailFault : joinedFacts Try.prog 5 Try.f5 Rows.fnExactMailFaultSpec Rows.fnExactMailFaultRow = true := by
  have q1 : (Rows.fnExactMailFaultRow.inPlace == Try.prog.inPlace 5) = true := by rw [inPlace_at leads_is inp_is]; kernel_rfl
  have q2 : (Rows.fnExactMailFaultRow.unfollowed == Try.prog.unfollowed 5) = true := by rw [unfollowed_at leads_is unf_is]; kernel_rfl
  have q3 : (Rows.fnExactMailFaultRow.recurses == Try.prog.recurses 5) = true := (by rw [recurses_unf leads_is (by rw [unfollowed_at leads_is unf_is]; kernel_rfl)]; rfl)
  have q4 : (Rows.fnExactMailFaultRow.named == Try.prog.varsNamed 5) = true := by rw [varsNamed_at leads_is var_ok ent_is]; kernel_rfl
  have q5 : (Try.prog.make == some Rows.fnExactMailFaultRow.make) = true := by rw [made_cut]; rfl
  have q6 : (Rows.fnExactMailFaultRow.lifted == Try.prog.liftsFinal) = true := by rw [lifts_no]; rfl
  have q7 : Try.prog.mayEnter = true := may_enter
  have q8 : laidOutB Try.prog = true := Try.laidOut
  unfold joinedFacts
  repeat' (with_reducible refine Bool.and_eq_true_iff.2 ⟨?_, ?_⟩)
  all_goals (first | with_reducible exact q1 | with_reducible exact q2 | with_reducible exact q3 | with_reducible exact q4 | with_reducible exact q5 | with_reducible exact q6 | with_reducible exact q7 | with_reducible exact q8 | (as_aux_lemma => kernel_rfl))

theorem mailFault_holds : Rows.FnExactMailFaultSaid :=
  OpenClaim.holds_of_wide 5 Try.f5 rfl rfl rfl rfl rfl rfl rfl ⟨rfl, rfl, rfl, rfl, rfl⟩ rfl rfl rfl rfl rfl (by as_aux_lemma => kernel_rfl) Try.func5 closedMailFault
    (of_decide_eq_true (by as_aux_lemma => kernel_rfl)) (by unfold Func.isWrapper; first | (rw [if_pos (by decide +kernel)]; kernel_rfl) | (rw [if_neg (by decide +kernel)]; exact ⟨rfl, rfl⟩))
    (fun os started H enc _ => liftedMailFault os started H enc)

#print axioms mailFault_holds

end Go.Proofs.Ytikplcpgocgogaa
