/- Just the first of a view takes what is asked, and tells all others: the law FnPrimaries is true at every argument, with no condition. -/
import Derived.Test.YtikplcpgocgogaaRows
import Derived.Test.YtikplcpgocgogaaVY
import Derived.Test.YtikplcpgocgogaaVZ
import Derived.Test.YtikplcpgocgogaaWX
import Derived.Test.YtikplcpgocgogaaWN
import Derived.Test.YtikplcpgocgogaaFacts2
import Derived.Test.YtikplcpgocgogaaXB
import Derived.Test.YtikplcpgocgogaaWA
import Derived.Test.YtikplcpgocgogaaXC
namespace Go.Proofs.Ytikplcpgocgogaa
open Go.RowKit

set_option maxRecDepth 20000 in
set_option maxHeartbeats 16000000 in
theorem lawPrimaries {o : Bool} {hi : Nat} (ac : Option Addr) (nc cc : Nat) (cs : List Nat) (w0 : World) (hrow : RowAt w0 o 0 hi 1 ac nc cc (bys cs)) (hcs : ∀ i, cs.getD i 0 < 256) (hhi : hi ≤ w0.heap.size) : Calls Try.prog 3 #[.slice ac nc cc] w0 fun e w' => e = .returned (.bool true) ∧ Below w0.heap.size w0 w' := by
  by_cases hbig : 1048576 < nc
  · go_enter Try.func3, Try.ntmps3
    go_wp2_with fail
    refine (lwBig_is ac nc cc _ true (by simp; exact hbig)).mono ?_
    rintro e w1 ⟨rfl, rfl⟩
    go_wp2
    go_ret
    exact ⟨rfl, Below.refl _ _⟩
  have hc : nc ≤ 1048576 := by omega
  have RG := run_guEn
  go_enter Try.func3, Try.ntmps3
  go_wp2_with fail
  refine (lwBig_is ac nc cc _ false (by simp; omega)).mono ?_
  rintro e w0 ⟨rfl, rfl⟩
  go_wp2_with fail
  refine (drawAsk_any ac nc cc cs _ hrow hcs hhi hc).mono ?_
  rintro e w1 ⟨r, hh, y0, y1, y2, y3, y4, y5, rfl, Y, SZ, B⟩
  obtain ⟨zY, hzY⟩ : ∃ zY, zY = w0.heap.size := ⟨_, rfl⟩
  obtain ⟨uY, huY⟩ : ∃ uY, uY = w1.heap.size := ⟨_, rfl⟩
  have lwY : w0.heap.size ≤ zY := Nat.le_of_eq hzY.symm
  rw [← hzY, ← huY] at Y
  have hY : uY ≤ w1.heap.size := Nat.le_of_eq huY
  clear hzY huY
  obtain ⟨c, hcc⟩ : ∃ c, askC r (y0, y1, y2, y3, y4, y5) = c := ⟨_, rfl⟩
  obtain ⟨q, hq⟩ : ∃ q, askQ r (y0, y1, y2, y3, y4, y5) = q := ⟨_, rfl⟩
  obtain ⟨ms, hms⟩ : ∃ ms, askM r (y0, y1, y2, y3, y4, y5) = ms := ⟨_, rfl⟩
  have HC : Hid _ := hcc
  have HQ : Hid _ := hq
  have HM : Hid _ := hms
  have HSZ : Hid (RSz hh 1048576) := SZ.mono (by omega)
  clear hcc hq hms SZ
  go_wp2_with (first | ((with_reducible refine store_midX 33 X1 0 [.int .i64 y0, .int .i64 y1, .int .i64 y2, .int .i64 y3, .int .i64 y4, .int .i64 y5] (by simp) (by kernel_rfl) (by simp [Value.oneCell']) rfl rfl ?_); intro V2 S; replace X0 := X0.kept S.kept (by omega); replace c0 := X0.cell; replace f0 := X0.froz; replace X1 : Bx V2 b1 [.int .i64 y0, .int .i64 y1, .int .i64 y2, .int .i64 y3, .int .i64 y4, .int .i64 y5] := S.bx; replace c1 := X1.cell; replace f1 := X1.froz; replace Y := Y.kept S.kept (by omega); replace hY := Nat.le_trans hY S.kept.size; replace B := B.trans (S.kept.below _ (by omega) B.size); clear S) | ((with_reducible refine store_midX 29 X0 0 [.int .i64 r.id, .int .i64 r.size, .int .i64 r.view, .bool r.normal, .int .i64 r.last, .slice hh.L.1 hh.L.2.1 hh.L.2.2, .int .i64 r.commit, .slice hh.O.1 hh.O.2.1 hh.O.2.2, .slice hh.A.1 hh.A.2.1 hh.A.2.2, .slice hh.D.1 hh.D.2.1 hh.D.2.2] (by simp) (by kernel_rfl) (by simp [Value.oneCell']) rfl rfl ?_); intro V1 S; replace X0 : Bx V1 b0 [.int .i64 r.id, .int .i64 r.size, .int .i64 r.view, .bool r.normal, .int .i64 r.last, .slice hh.L.1 hh.L.2.1 hh.L.2.2, .int .i64 r.commit, .slice hh.O.1 hh.O.2.1 hh.O.2.2, .slice hh.A.1 hh.A.2.1 hh.A.2.2, .slice hh.D.1 hh.D.2.1 hh.D.2.2] := S.bx; replace c0 := X0.cell; replace f0 := X0.froz; replace X1 := X1.kept S.kept (by omega); replace c1 := X1.cell; replace f1 := X1.froz; replace Y := Y.kept S.kept (by omega); replace hY := Nat.le_trans hY S.kept.size; replace B := B.trans (S.kept.below _ (by omega) B.size); clear S) | ((have g := ob0); clear g; (with_reducible refine alloc_newX 33 [.int .i64 0, .int .i64 0, .int .i64 0, .int .i64 0, .int .i64 0, .int .i64 0] (fun _ => by kernel_rfl) ?_); intro b1 W1 N1; have ob1 : w0.heap.size ≤ b1 := Nat.le_trans B.size N1.ge; have o0_b1 : b0 < b1 := Nat.lt_of_lt_of_le X0.lt N1.ge; have oY_b1 : uY ≤ b1 := Nat.le_trans hY N1.ge; replace X0 := X0.below N1.below; replace c0 := X0.cell; replace f0 := X0.froz; replace Y := Y.below N1.below; replace hY := Nat.le_trans hY N1.below.size; replace B := below_next B N1.below; have X1 := N1.bx; have c1 := X1.cell; have f1 := X1.froz; clear N1) | ((with_reducible refine alloc_newX 29 [.int .i64 0, .int .i64 0, .int .i64 0, .bool false, .int .i64 0, .slice none 0 0, .int .i64 0, .slice none 0 0, .slice none 0 0, .slice none 0 0] (fun _ => by kernel_rfl) ?_); intro b0 W0 N0; have ob0 : w0.heap.size ≤ b0 := Nat.le_trans B.size N0.ge; have oY_b0 : uY ≤ b0 := Nat.le_trans hY N0.ge; replace Y := Y.below N0.below; replace hY := Nat.le_trans hY N0.below.size; replace B := below_next B N0.below; have X0 := N0.bx; have c0 := X0.cell; have f0 := X0.froz; clear N0) | fail)
  refine (implAsk_is r hh (y0, y1, y2, y3, y4, y5) _ Y HSZ.out c q ms HC.out HQ.out HM.out).mono ?_
  rintro e w2 ⟨zA, uA, hA, sA, KA, rfl, GzA, hAA, AA, ZA, BB⟩
  have ozA : w0.heap.size ≤ zA := Nat.le_trans B.size GzA
  have o0_zA : b0 < zA := Nat.lt_of_lt_of_le X0.lt GzA
  have o1_zA : b1 < zA := Nat.lt_of_lt_of_le X1.lt GzA
  have oY_zA : uY ≤ zA := Nat.le_trans hY GzA
  clear GzA
  replace X0 := X0.below BB
  replace c0 := X0.cell
  replace f0 := X0.froz
  replace X1 := X1.below BB
  replace c1 := X1.cell
  replace f1 := X1.froz
  replace Y := Y.below BB
  replace hY := Nat.le_trans hY BB.size
  replace B := below_next B BB
  clear BB
  by_cases q0 : c = 0
  rotate_left 1
  · have q0' : (c != 0) = true := by simp [q0]
    go_wp2_with (first | ((with_reducible refine store_midX 38 X2 0 [.int .i64 c, .int .i64 q.id, .int .i64 q.size, .int .i64 q.view, .bool q.normal, .int .i64 q.last, .slice hA.L.1 hA.L.2.1 hA.L.2.2, .int .i64 q.commit, .slice hA.O.1 hA.O.2.1 hA.O.2.2, .slice hA.A.1 hA.A.2.1 hA.A.2.2, .slice hA.D.1 hA.D.2.1 hA.D.2.2, .slice sA.1 sA.2.1 sA.2.2] (by simp) (by kernel_rfl) (by simp [Value.oneCell']) rfl rfl ?_); intro V3 S; replace X0 := X0.kept S.kept (by omega); replace c0 := X0.cell; replace f0 := X0.froz; replace X1 := X1.kept S.kept (by omega); replace c1 := X1.cell; replace f1 := X1.froz; replace X2 : Bx V3 b2 [.int .i64 c, .int .i64 q.id, .int .i64 q.size, .int .i64 q.view, .bool q.normal, .int .i64 q.last, .slice hA.L.1 hA.L.2.1 hA.L.2.2, .int .i64 q.commit, .slice hA.O.1 hA.O.2.1 hA.O.2.2, .slice hA.A.1 hA.A.2.1 hA.A.2.2, .slice hA.D.1 hA.D.2.1 hA.D.2.2, .slice sA.1 sA.2.1 sA.2.2] := S.bx; replace c2 := X2.cell; replace f2 := X2.froz; replace Y := Y.kept S.kept (by omega); replace hY := Nat.le_trans hY S.kept.size; replace AA := AA.kept S.kept (by omega); replace hAA := Nat.le_trans hAA S.kept.size; replace B := B.trans (S.kept.below _ (by omega) B.size); clear S) | ((have g := ob1); clear g; (with_reducible refine alloc_newX 38 [.int .i64 0, .int .i64 0, .int .i64 0, .int .i64 0, .bool false, .int .i64 0, .slice none 0 0, .int .i64 0, .slice none 0 0, .slice none 0 0, .slice none 0 0, .slice none 0 0] (fun _ => by kernel_rfl) ?_); intro b2 W2 N2; have ob2 : w0.heap.size ≤ b2 := Nat.le_trans B.size N2.ge; have o0_b2 : b0 < b2 := Nat.lt_of_lt_of_le X0.lt N2.ge; have o1_b2 : b1 < b2 := Nat.lt_of_lt_of_le X1.lt N2.ge; have oY_b2 : uY ≤ b2 := Nat.le_trans hY N2.ge; have oAA_b2 : uA ≤ b2 := Nat.le_trans hAA N2.ge; replace X0 := X0.below N2.below; replace c0 := X0.cell; replace f0 := X0.froz; replace X1 := X1.below N2.below; replace c1 := X1.cell; replace f1 := X1.froz; replace Y := Y.below N2.below; replace hY := Nat.le_trans hY N2.below.size; replace AA := AA.below N2.below; replace hAA := Nat.le_trans hAA N2.below.size; replace B := below_next B N2.below; have X2 := N2.bx; have c2 := X2.cell; have f2 := X2.froz; clear N2) | fail)
    have DQ : Below V3.heap.size V3 V3.drew := (Below.refl _ _).drew
    replace X0 := X0.below DQ
    replace c0 := X0.cell
    replace f0 := X0.froz
    replace X1 := X1.below DQ
    replace c1 := X1.cell
    replace f1 := X1.froz
    replace X2 := X2.below DQ
    replace c2 := X2.cell
    replace f2 := X2.froz
    replace Y := Y.below DQ
    replace hY := Nat.le_trans hY DQ.size
    replace AA := AA.below DQ
    replace hAA := Nat.le_trans hAA DQ.size
    replace B := below_next B DQ
    clear DQ
    refine wp_region_held_drew (S := (fun w' => (∀ k_2 : Nat, w'.cell? ⟨b0, k_2, none⟩ = [.int .i64 r.id, .int .i64 r.size, .int .i64 r.view, .bool r.normal, .int .i64 r.last, .slice hh.L.1 hh.L.2.1 hh.L.2.2, .int .i64 r.commit, .slice hh.O.1 hh.O.2.1 hh.O.2.2, .slice hh.A.1 hh.A.2.1 hh.A.2.2, .slice hh.D.1 hh.D.2.1 hh.D.2.2][k_2]?) ∧ (∀ k_2 : Nat, w'.cell? ⟨b1, k_2, none⟩ = [.int .i64 y0, .int .i64 y1, .int .i64 y2, .int .i64 y3, .int .i64 y4, .int .i64 y5][k_2]?) ∧ (∀ k_2 : Nat, w'.cell? ⟨b2, k_2, none⟩ = [.int .i64 c, .int .i64 q.id, .int .i64 q.size, .int .i64 q.view, .bool q.normal, .int .i64 q.last, .slice hA.L.1 hA.L.2.1 hA.L.2.2, .int .i64 q.commit, .slice hA.O.1 hA.O.2.1 hA.O.2.2, .slice hA.A.1 hA.A.2.1 hA.A.2.2, .slice hA.D.1 hA.D.2.1 hA.D.2.2, .slice sA.1 sA.2.1 sA.2.2][k_2]?))) (by kernel_rfl) ⟨c0, c1, c2⟩ (fun hHeld => ?_)
    refine wpAnyH_take (i := 0) (v := ?_) rfl (by kernel_rfl) (by kernel_rfl) (by kernel_rfl) (fun _ _ _ h => h) (Or.inl ⟨by rfl, ?_⟩) hHeld ?_
    rotate_left 1
    · intro w hSw
      try dsimp only at hSw
      first | (go_simp; done) | (go_simp; with_reducible rfl)
    simp only [Act.put, List.setIfInBounds_toArray, List.set_cons_zero, List.set_cons_succ, List.getElem_toArray, List.getElem_cons_zero]
    refine wpAnyH_take (i := 1) (v := ?_) rfl (by kernel_rfl) (by kernel_rfl) (by kernel_rfl) (fun _ _ _ h => h) (Or.inl ⟨by rfl, ?_⟩) hHeld ?_
    rotate_left 1
    · intro w hSw
      try dsimp only at hSw
      first | (go_simp; done) | (go_simp; with_reducible rfl)
    simp only [Act.put, List.setIfInBounds_toArray, List.set_cons_zero, List.set_cons_succ, List.getElem_toArray, List.getElem_cons_zero, List.getElem_cons_succ]
    refine wpAnyH_take (i := 4) (v := ?_) rfl (by kernel_rfl) (by kernel_rfl) (by kernel_rfl) (fun _ _ _ h => h) (Or.inl ⟨by rfl, ?_⟩) hHeld ?_
    rotate_left 1
    · intro w hSw
      try dsimp only at hSw
      first | (go_simp; done) | (go_simp; with_reducible rfl)
    simp only [Act.put, List.setIfInBounds_toArray, List.set_cons_zero, List.set_cons_succ, List.getElem_toArray, List.getElem_cons_zero, List.getElem_cons_succ]
    refine wpAnyH_take (i := 5) (v := ?_) rfl (by kernel_rfl) (by kernel_rfl) (by kernel_rfl) (fun _ _ _ h => h) (Or.inl ⟨by rfl, ?_⟩) hHeld ?_
    rotate_left 1
    · intro w hSw
      try dsimp only at hSw
      first | (go_simp; done) | (go_simp; with_reducible rfl)
    simp only [Act.put, List.setIfInBounds_toArray, List.set_cons_zero, List.set_cons_succ, List.getElem_toArray, List.getElem_cons_zero, List.getElem_cons_succ]
    refine wpAnyH_ready (rs := [2]) (by kernel_rfl) (by simp) ?_
    refine AllReadyH.cons rfl (fun KK hKK => ?_) AllReadyH.nil
    go_simp
    go_at_call 11
    refine (specAsk_is r hh (y0, y1, y2, y3, y4, y5) _ Y HSZ.out c q ms HC.out HQ.out HM.out).mono ?_
    rintro e v1 ⟨zS, uS, hS, sS, KS, rfl, -, -, -, -, BB⟩
    replace X0 := X0.below BB
    replace c0 := X0.cell
    replace f0 := X0.froz
    replace X1 := X1.below BB
    replace c1 := X1.cell
    replace f1 := X1.froz
    replace X2 := X2.below BB
    replace c2 := X2.cell
    replace f2 := X2.froz
    replace Y := Y.below BB
    replace hY := Nat.le_trans hY BB.size
    replace AA := AA.below BB
    replace hAA := Nat.le_trans hAA BB.size
    replace B := below_next B BB
    have hfi : ∀ W, (Instr.field 38 (.agg #[.int .i64 c, .int .i64 q.id, .int .i64 q.size, .int .i64 q.view, .bool q.normal, .int .i64 q.last, .slice hS.L.1 hS.L.2.1 hS.L.2.2, .int .i64 q.commit, .slice hS.O.1 hS.O.2.1 hS.O.2.2, .slice hS.A.1 hS.A.2.1 hS.A.2.2, .slice hS.D.1 hS.D.2.1 hS.D.2.2, .slice sS.1 sS.2.1 sS.2.2]) 0).run Try.prog W = .ok (.int .i64 c) W := fun W => by kernel_rfl
    clear BB
    clear hHeld
    refine hKK _ _ ⟨c0, c1, c2⟩ (fun hHeld => ?_)
    clear hKK KK
    refine wpAnyH_take (i := 3) (v := ?_) rfl (by kernel_rfl) (by kernel_rfl) (by kernel_rfl) (fun _ _ _ h => h) (Or.inl ⟨by rfl, ?_⟩) hHeld ?_
    rotate_left 1
    · intro w hSw
      try dsimp only at hSw
      first | (go_simp; done) | (go_simp; with_reducible rfl)
    simp only [Act.put, List.setIfInBounds_toArray, List.set_cons_zero, List.set_cons_succ, List.getElem_toArray, List.getElem_cons_zero, List.getElem_cons_succ]
    refine wpAnyH_take (i := 6) (v := ?_) rfl (by kernel_rfl) (by kernel_rfl) (by kernel_rfl) (fun _ _ _ h => h) (Or.inl ⟨by rfl, ?_⟩) hHeld ?_
    rotate_left 1
    · intro w hSw
      try dsimp only at hSw
      first | (go_simp; done) | (go_simp; with_reducible rfl)
    simp only [Act.put, List.setIfInBounds_toArray, List.set_cons_zero, List.set_cons_succ, List.getElem_toArray, List.getElem_cons_zero, List.getElem_cons_succ]
    refine wpAnyH_take (i := 7) (v := ?_) rfl (by kernel_rfl) (by kernel_rfl) (by kernel_rfl) (fun _ _ _ h => h) (Or.inl ⟨by rfl, ?_⟩) hHeld ?_
    rotate_left 1
    · intro w hSw
      try dsimp only at hSw
      first | (go_simp; done) | (go_simp; with_reducible rfl)
    simp only [Act.put, List.setIfInBounds_toArray, List.set_cons_zero, List.set_cons_succ, List.getElem_toArray, List.getElem_cons_zero, List.getElem_cons_succ]
    refine wpAnyH_done (by kernel_rfl) ?_ _
    have ecc : (c == c) = true := by simp
    go_wp2
    go_ret
    exact ⟨by simp, B⟩
  subst q0
  have OK := ask_ok HC.out
  have olog : q.log = r.log ++ [(y0, y1, y2, y3, y4, y5)] := by rw [← HQ.out]; exact OK.log
  have HREP : Hid (repF q = 0) := by (show _ = _; rw [← HQ.out]; exact OK.rep)
  have HLED : Hid (ledF q = 0) := by (show _ = _; rw [← HQ.out]; exact OK.ledQ)
  have HAGR : Hid (agrR q ≤ q.commit) := by (show _ ≤ _; rw [← HQ.out]; exact OK.agr)
  have olen : (ms.length : Int) = r.size - 1 := by rw [← HM.out]; exact OK.len
  have HML : Hid (∀ i, i < ms.length → (ms.getD i ml0).kind = 1 ∧ (ms.getD i ml0).en = (y0, y1, y2, y3, y4, y5) ∧ (ms.getD i ml0).at_ = (r.log.length : Int)) := by (rw [← HM.out]; exact OK.mail)
  have HOL : Hid _ := olog
  have hLq : hA.L.2.1 = hh.L.2.1 + 1 := by
    have e1 := AA.rep.log.nSixs
    have e2 := Y.log.nSixs
    rw [olog, List.length_append] at e1
    simp only [List.length_cons, List.length_nil] at e1
    omega
  have hSl : (sA.2.1 : Int) = r.size - 1 := by
    have e1 := AA.send.len
    rw [← e1]; exact olen
  have hLr := Y.log.nSixs
  have HOK : Hid _ := OK
  have HLr : Hid _ := hLr
  have hL40 : hh.L.2.1 ≤ 40 := by rw [← hLr]; exact OK.led.log
  have hs5 := OK.led.size
  have HPR : Hid (primR r.view r.size = (0, r.id)) := by
    show _ = _
    unfold primR
    rw [if_pos ⟨OK.led.view, OK.led.size⟩, OK.lead]
  have HSL : Hid _ := hSl
  have HLQ : Hid _ := hLq
  clear OK hLr hSl hLq olog olen
  go_wp2_with (first | ((with_reducible refine store_midX 38 X2 0 [.int .i64 0, .int .i64 q.id, .int .i64 q.size, .int .i64 q.view, .bool q.normal, .int .i64 q.last, .slice hA.L.1 hA.L.2.1 hA.L.2.2, .int .i64 q.commit, .slice hA.O.1 hA.O.2.1 hA.O.2.2, .slice hA.A.1 hA.A.2.1 hA.A.2.2, .slice hA.D.1 hA.D.2.1 hA.D.2.2, .slice sA.1 sA.2.1 sA.2.2] (by simp) (by kernel_rfl) (by simp [Value.oneCell']) rfl rfl ?_); intro V3 S; replace X0 := X0.kept S.kept (by omega); replace c0 := X0.cell; replace f0 := X0.froz; replace X1 := X1.kept S.kept (by omega); replace c1 := X1.cell; replace f1 := X1.froz; replace X2 : Bx V3 b2 [.int .i64 0, .int .i64 q.id, .int .i64 q.size, .int .i64 q.view, .bool q.normal, .int .i64 q.last, .slice hA.L.1 hA.L.2.1 hA.L.2.2, .int .i64 q.commit, .slice hA.O.1 hA.O.2.1 hA.O.2.2, .slice hA.A.1 hA.A.2.1 hA.A.2.2, .slice hA.D.1 hA.D.2.1 hA.D.2.2, .slice sA.1 sA.2.1 sA.2.2] := S.bx; replace c2 := X2.cell; replace f2 := X2.froz; replace Y := Y.kept S.kept (by omega); replace hY := Nat.le_trans hY S.kept.size; replace AA := AA.kept S.kept (by omega); replace hAA := Nat.le_trans hAA S.kept.size; replace B := B.trans (S.kept.below _ (by omega) B.size); clear S) | ((have g := ob1); clear g; (with_reducible refine alloc_newX 38 [.int .i64 0, .int .i64 0, .int .i64 0, .int .i64 0, .bool false, .int .i64 0, .slice none 0 0, .int .i64 0, .slice none 0 0, .slice none 0 0, .slice none 0 0, .slice none 0 0] (fun _ => by kernel_rfl) ?_); intro b2 W2 N2; have ob2 : w0.heap.size ≤ b2 := Nat.le_trans B.size N2.ge; have o0_b2 : b0 < b2 := Nat.lt_of_lt_of_le X0.lt N2.ge; have o1_b2 : b1 < b2 := Nat.lt_of_lt_of_le X1.lt N2.ge; have oY_b2 : uY ≤ b2 := Nat.le_trans hY N2.ge; have oAA_b2 : uA ≤ b2 := Nat.le_trans hAA N2.ge; replace X0 := X0.below N2.below; replace c0 := X0.cell; replace f0 := X0.froz; replace X1 := X1.below N2.below; replace c1 := X1.cell; replace f1 := X1.froz; replace Y := Y.below N2.below; replace hY := Nat.le_trans hY N2.below.size; replace AA := AA.below N2.below; replace hAA := Nat.le_trans hAA N2.below.size; replace B := below_next B N2.below; have X2 := N2.bx; have c2 := X2.cell; have f2 := X2.froz; clear N2) | fail)
  refine (implPrim_is r.view r.size _ 0 r.id HPR.out).mono ?_
  rintro e w3 ⟨rfl, BB⟩
  replace X0 := X0.below BB
  replace c0 := X0.cell
  replace f0 := X0.froz
  replace X1 := X1.below BB
  replace c1 := X1.cell
  replace f1 := X1.froz
  replace X2 := X2.below BB
  replace c2 := X2.cell
  replace f2 := X2.froz
  replace Y := Y.below BB
  replace hY := Nat.le_trans hY BB.size
  replace AA := AA.below BB
  replace hAA := Nat.le_trans hAA BB.size
  replace B := below_next B BB
  clear BB
  go_wp2_with (first | ((with_reducible refine store_midX 41 X3 0 [.int .i64 0, .int .i64 r.id] (by simp) (by kernel_rfl) (by simp [Value.oneCell']) rfl rfl ?_); intro V4 S; replace X0 := X0.kept S.kept (by omega); replace c0 := X0.cell; replace f0 := X0.froz; replace X1 := X1.kept S.kept (by omega); replace c1 := X1.cell; replace f1 := X1.froz; replace X2 := X2.kept S.kept (by omega); replace c2 := X2.cell; replace f2 := X2.froz; replace X3 : Bx V4 b3 [.int .i64 0, .int .i64 r.id] := S.bx; replace c3 := X3.cell; replace f3 := X3.froz; replace Y := Y.kept S.kept (by omega); replace hY := Nat.le_trans hY S.kept.size; replace AA := AA.kept S.kept (by omega); replace hAA := Nat.le_trans hAA S.kept.size; replace B := B.trans (S.kept.below _ (by omega) B.size); clear S) | ((have g := ob2); clear g; (with_reducible refine alloc_newX 41 [.int .i64 0, .int .i64 0] (fun _ => by kernel_rfl) ?_); intro b3 W3 N3; have ob3 : w0.heap.size ≤ b3 := Nat.le_trans B.size N3.ge; have o0_b3 : b0 < b3 := Nat.lt_of_lt_of_le X0.lt N3.ge; have o1_b3 : b1 < b3 := Nat.lt_of_lt_of_le X1.lt N3.ge; have o2_b3 : b2 < b3 := Nat.lt_of_lt_of_le X2.lt N3.ge; have oY_b3 : uY ≤ b3 := Nat.le_trans hY N3.ge; have oAA_b3 : uA ≤ b3 := Nat.le_trans hAA N3.ge; replace X0 := X0.below N3.below; replace c0 := X0.cell; replace f0 := X0.froz; replace X1 := X1.below N3.below; replace c1 := X1.cell; replace f1 := X1.froz; replace X2 := X2.below N3.below; replace c2 := X2.cell; replace f2 := X2.froz; replace Y := Y.below N3.below; replace hY := Nat.le_trans hY N3.below.size; replace AA := AA.below N3.below; replace hAA := Nat.le_trans hAA N3.below.size; replace B := below_next B N3.below; have X3 := N3.bx; have c3 := X3.cell; have f3 := X3.froz; clear N3) | fail)
  obtain ⟨ag, hag⟩ : ∃ ag, agrR q = ag := ⟨_, rfl⟩
  have HAG : Hid (agbV q = ag) := by
    show _ = _
    unfold agbV; rw [if_pos HLED.out]; exact hag
  have HAL : Hid (ag ≤ q.commit) := by
    show _ ≤ _
    rw [← hag]; exact HAGR.out
  clear hag
  refine (implAgb_is q hA _ AA.rep ZA.rep 0 ag HLED.out HAG.out).mono ?_
  rintro e w4 ⟨rfl, BB⟩
  replace X0 := X0.below BB
  replace c0 := X0.cell
  replace f0 := X0.froz
  replace X1 := X1.below BB
  replace c1 := X1.cell
  replace f1 := X1.froz
  replace X2 := X2.below BB
  replace c2 := X2.cell
  replace f2 := X2.froz
  replace X3 := X3.below BB
  replace c3 := X3.cell
  replace f3 := X3.froz
  replace Y := Y.below BB
  replace hY := Nat.le_trans hY BB.size
  replace AA := AA.below BB
  replace hAA := Nat.le_trans hAA BB.size
  replace B := below_next B BB
  clear BB
  have z1 : (r.id != r.id) = false := by simp
  have wL : IntKind.i64.wrap ((hh.L.2.1 : Int) + 1) = (hh.L.2.1 : Int) + 1 := wrapI_same _ (by omega)
  have z2 : ((hA.L.2.1 : Int) != (hh.L.2.1 : Int) + 1) = false := by rw [HLQ.out]; simp
  have wS : IntKind.i64.wrap (r.size - 1) = r.size - 1 := wrapI_same _ (by omega)
  have z3 : ((sA.2.1 : Int) != r.size - 1) = false := by rw [HSL.out]; simp
  have z4 : ¬ q.commit < ag := by have := HAL.out; omega
  go_wp2_with (first | ((with_reducible refine store_midX 41 X4 0 [.int .i64 0, .int .i64 ag] (by simp) (by kernel_rfl) (by simp [Value.oneCell']) rfl rfl ?_); intro V5 S; replace X0 := X0.kept S.kept (by omega); replace c0 := X0.cell; replace f0 := X0.froz; replace X1 := X1.kept S.kept (by omega); replace c1 := X1.cell; replace f1 := X1.froz; replace X2 := X2.kept S.kept (by omega); replace c2 := X2.cell; replace f2 := X2.froz; replace X3 := X3.kept S.kept (by omega); replace c3 := X3.cell; replace f3 := X3.froz; replace X4 : Bx V5 b4 [.int .i64 0, .int .i64 ag] := S.bx; replace c4 := X4.cell; replace f4 := X4.froz; replace Y := Y.kept S.kept (by omega); replace hY := Nat.le_trans hY S.kept.size; replace AA := AA.kept S.kept (by omega); replace hAA := Nat.le_trans hAA S.kept.size; replace B := B.trans (S.kept.below _ (by omega) B.size); clear S) | ((have g := ob3); clear g; (with_reducible refine alloc_newX 41 [.int .i64 0, .int .i64 0] (fun _ => by kernel_rfl) ?_); intro b4 W4 N4; have ob4 : w0.heap.size ≤ b4 := Nat.le_trans B.size N4.ge; have o0_b4 : b0 < b4 := Nat.lt_of_lt_of_le X0.lt N4.ge; have o1_b4 : b1 < b4 := Nat.lt_of_lt_of_le X1.lt N4.ge; have o2_b4 : b2 < b4 := Nat.lt_of_lt_of_le X2.lt N4.ge; have o3_b4 : b3 < b4 := Nat.lt_of_lt_of_le X3.lt N4.ge; have oY_b4 : uY ≤ b4 := Nat.le_trans hY N4.ge; have oAA_b4 : uA ≤ b4 := Nat.le_trans hAA N4.ge; replace X0 := X0.below N4.below; replace c0 := X0.cell; replace f0 := X0.froz; replace X1 := X1.below N4.below; replace c1 := X1.cell; replace f1 := X1.froz; replace X2 := X2.below N4.below; replace c2 := X2.cell; replace f2 := X2.froz; replace X3 := X3.below N4.below; replace c3 := X3.cell; replace f3 := X3.froz; replace Y := Y.below N4.below; replace hY := Nat.le_trans hY N4.below.size; replace AA := AA.below N4.below; replace hAA := Nat.le_trans hAA N4.below.size; replace B := below_next B N4.below; have X4 := N4.bx; have c4 := X4.cell; have f4 := X4.froz; clear N4) | fail)
  refine (implRF_is q hA _ AA.rep (ZA.rep.mono (by omega)) 0 HREP.out).mono ?_
  rintro e w5 ⟨rfl, BB⟩
  replace X0 := X0.below BB
  replace c0 := X0.cell
  replace f0 := X0.froz
  replace X1 := X1.below BB
  replace c1 := X1.cell
  replace f1 := X1.froz
  replace X2 := X2.below BB
  replace c2 := X2.cell
  replace f2 := X2.froz
  replace X3 := X3.below BB
  replace c3 := X3.cell
  replace f3 := X3.froz
  replace X4 := X4.below BB
  replace c4 := X4.cell
  replace f4 := X4.froz
  replace Y := Y.below BB
  replace hY := Nat.le_trans hY BB.size
  replace AA := AA.below BB
  replace hAA := Nat.le_trans hAA BB.size
  replace B := below_next B BB
  clear BB
  go_wp2_with fail
  have HX0 : Hid _ := X0
  have HX1 : Hid _ := X1
  have HX2 : Hid _ := X2
  have HAA : Hid _ := AA
  have HB5 : Hid _ := B
  have hs120 : sA.2.1 ≤ 4 := by have := HSL.out; omega
  clear X0 c0 f0 X1 c1 f1 X2 c2 f2 X3 c3 f3 X4 c4 f4 Y hY AA hAA B z1 z2 z3 z4 wL wS
  go_loopw [8] (fun iv wr => ∃ k : Nat, k ≤ sA.2.1 ∧ iv = .int .i64 k ∧ Below w5.heap.size w5 wr) (fun iv _ => sA.2.1 - (intOf iv).toNat)
  case atStart => exact ⟨0, Nat.zero_le _, rfl, Below.refl _ _⟩
  case round =>
    obtain ⟨k, hk, rfl, BL⟩ := hrel
    by_cases hlt : k < sA.2.1
    · have hlk : (k : Int) < (sA.2.1 : Int) := by omega
      have DQ : Below wr.heap.size wr wr.drew := (Below.refl _ _).drew
      have c2 := (HX2.out.below BL).cell
      go_wp2_with fail
      clear c2
      replace BL := below_next BL DQ
      clear DQ
      have c0 := (HX0.out.below BL).cell
      have c1 := (HX1.out.below BL).cell
      have c2 := (HX2.out.below BL).cell
      obtain ⟨b, off, es, -, -, -, e1, -⟩ := (HAA.out.send.below BL).mailC hlt
      obtain ⟨mk, men, mat⟩ := HML.out k (by rw [HAA.out.send.len]; exact hlt)
      rw [HLr.out] at mat
      have m0 := e1 0 (by decide)
      have m4 := e1 4 (by decide)
      have m6 := e1 6 (by decide)
      have m7 := e1 7 (by decide)
      have m8 := e1 8 (by decide)
      have m9 := e1 9 (by decide)
      have m10 := e1 10 (by decide)
      have m11 := e1 11 (by decide)
      clear e1
      unfold mlV at m0 m4 m6 m7 m8 m9 m10 m11
      simp only [List.getElem?_cons_zero, List.getElem?_cons_succ, Nat.add_zero, mk, men, mat] at m0 m4 m6 m7 m8 m9 m10 m11
      clear mk men mat
      rw [es] at c2
      have RE := run_neEn y0 y1 y2 y3 y4 y5 y0 y1 y2 y3 y4 y5 true (by simp)
      have zk : ((1 : Int) != 1) = false := by simp
      have zl : ((hh.L.2.1 : Int) != (hh.L.2.1 : Int)) = false := by simp
      refine wp_region_held_drew (S := (fun w' => (∀ k_2 : Nat, w'.cell? ⟨b0, k_2, none⟩ = [.int .i64 r.id, .int .i64 r.size, .int .i64 r.view, .bool r.normal, .int .i64 r.last, .slice hh.L.1 hh.L.2.1 hh.L.2.2, .int .i64 r.commit, .slice hh.O.1 hh.O.2.1 hh.O.2.2, .slice hh.A.1 hh.A.2.1 hh.A.2.2, .slice hh.D.1 hh.D.2.1 hh.D.2.2][k_2]?) ∧ (∀ k_2 : Nat, w'.cell? ⟨b1, k_2, none⟩ = [.int .i64 y0, .int .i64 y1, .int .i64 y2, .int .i64 y3, .int .i64 y4, .int .i64 y5][k_2]?) ∧ (∀ k_2 : Nat, w'.cell? ⟨b2, k_2, none⟩ = [.int .i64 0, .int .i64 q.id, .int .i64 q.size, .int .i64 q.view, .bool q.normal, .int .i64 q.last, .slice hA.L.1 hA.L.2.1 hA.L.2.2, .int .i64 q.commit, .slice hA.O.1 hA.O.2.1 hA.O.2.2, .slice hA.A.1 hA.A.2.1 hA.A.2.2, .slice hA.D.1 hA.D.2.1 hA.D.2.2, .slice (some ⟨b, off, none⟩) sA.2.1 sA.2.2][k_2]?) ∧ w'.cell? ⟨b, off + k * 15, none⟩ = some (.int .i64 1) ∧ w'.cell? ⟨b, off + k * 15 + 4, none⟩ = some (.int .i64 (hh.L.2.1 : Int)) ∧ w'.cell? ⟨b, off + k * 15 + 6, none⟩ = some (.int .i64 y0) ∧ w'.cell? ⟨b, off + k * 15 + 7, none⟩ = some (.int .i64 y1) ∧ w'.cell? ⟨b, off + k * 15 + 8, none⟩ = some (.int .i64 y2) ∧ w'.cell? ⟨b, off + k * 15 + 9, none⟩ = some (.int .i64 y3) ∧ w'.cell? ⟨b, off + k * 15 + 10, none⟩ = some (.int .i64 y4) ∧ w'.cell? ⟨b, off + k * 15 + 11, none⟩ = some (.int .i64 y5))) (by kernel_rfl) ⟨c0, c1, c2, m0, m4, m6, m7, m8, m9, m10, m11⟩ (fun hHeld => ?_)
      refine wpAnyH_take (i := 0) (v := ?_) rfl (by kernel_rfl) (by kernel_rfl) (by kernel_rfl) (fun _ _ _ h => h) (Or.inl ⟨by rfl, ?_⟩) hHeld ?_
      rotate_left 1
      · intro w hSw
        try dsimp only at hSw
        first | (go_simp; done) | (go_simp; with_reducible rfl)
      simp only [Act.put, List.setIfInBounds_toArray, List.set_cons_zero, List.set_cons_succ, List.getElem_toArray, List.getElem_cons_zero]
      refine wpAnyH_take (i := 1) (v := ?_) rfl (by kernel_rfl) (by kernel_rfl) (by kernel_rfl) (fun _ _ _ h => h) (Or.inl ⟨by rfl, ?_⟩) hHeld ?_
      rotate_left 1
      · intro w hSw
        try dsimp only at hSw
        first | (go_simp; done) | (go_simp; with_reducible rfl)
      simp only [Act.put, List.setIfInBounds_toArray, List.set_cons_zero, List.set_cons_succ, List.getElem_toArray, List.getElem_cons_zero, List.getElem_cons_succ]
      refine wpAnyH_take (i := 2) (v := ?_) rfl (by kernel_rfl) (by kernel_rfl) (by kernel_rfl) (fun _ _ _ h => h) (Or.inl ⟨by rfl, ?_⟩) hHeld ?_
      rotate_left 1
      · intro w hSw
        try dsimp only at hSw
        first | (go_simp; done) | (go_simp; with_reducible rfl)
      simp only [Act.put, List.setIfInBounds_toArray, List.set_cons_zero, List.set_cons_succ, List.getElem_toArray, List.getElem_cons_zero, List.getElem_cons_succ]
      refine wpAnyH_take (i := 3) (v := ?_) rfl (by kernel_rfl) (by kernel_rfl) (by kernel_rfl) (fun _ _ _ h => h) (Or.inl ⟨by rfl, ?_⟩) hHeld ?_
      rotate_left 1
      · intro w hSw
        try dsimp only at hSw
        first | (go_simp; done) | (go_simp; with_reducible rfl)
      simp only [Act.put, List.setIfInBounds_toArray, List.set_cons_zero, List.set_cons_succ, List.getElem_toArray, List.getElem_cons_zero, List.getElem_cons_succ]
      refine wpAnyH_take (i := 4) (v := ?_) rfl (by kernel_rfl) (by kernel_rfl) (by kernel_rfl) (fun _ _ _ h => h) (Or.inl ⟨by rfl, ?_⟩) hHeld ?_
      rotate_left 1
      · intro w hSw
        try dsimp only at hSw
        first | (go_simp; done) | (go_simp; with_reducible rfl)
      simp only [Act.put, List.setIfInBounds_toArray, List.set_cons_zero, List.set_cons_succ, List.getElem_toArray, List.getElem_cons_zero, List.getElem_cons_succ]
      refine wpAnyH_take (i := 5) (v := ?_) rfl (by kernel_rfl) (by kernel_rfl) (by kernel_rfl) (fun _ _ _ h => h) (Or.inl ⟨by rfl, ?_⟩) hHeld ?_
      rotate_left 1
      · intro w hSw
        try dsimp only at hSw
        first | (go_simp; done) | (go_simp; with_reducible rfl)
      simp only [Act.put, List.setIfInBounds_toArray, List.set_cons_zero, List.set_cons_succ, List.getElem_toArray, List.getElem_cons_zero, List.getElem_cons_succ]
      refine wpAnyH_take (i := 6) (v := ?_) rfl (by kernel_rfl) (by kernel_rfl) (by kernel_rfl) (fun _ _ _ h => h) (Or.inl ⟨by rfl, ?_⟩) hHeld ?_
      rotate_left 1
      · intro w hSw
        try dsimp only at hSw
        first | (go_simp; done) | (go_simp; with_reducible rfl)
      simp only [Act.put, List.setIfInBounds_toArray, List.set_cons_zero, List.set_cons_succ, List.getElem_toArray, List.getElem_cons_zero, List.getElem_cons_succ]
      refine wpAnyH_take (i := 7) (v := ?_) rfl (by kernel_rfl) (by kernel_rfl) (by kernel_rfl) (fun _ _ _ h => h) (Or.inl ⟨by rfl, ?_⟩) hHeld ?_
      rotate_left 1
      · intro w hSw
        try dsimp only at hSw
        first | (go_simp; done) | (go_simp; with_reducible rfl)
      simp only [Act.put, List.setIfInBounds_toArray, List.set_cons_zero, List.set_cons_succ, List.getElem_toArray, List.getElem_cons_zero, List.getElem_cons_succ]
      refine wpAnyH_take (i := 8) (v := ?_) rfl (by kernel_rfl) (by kernel_rfl) (by kernel_rfl) (fun _ _ _ h => h) (Or.inl ⟨by rfl, ?_⟩) hHeld ?_
      rotate_left 1
      · intro w hSw
        try dsimp only at hSw
        first | (go_simp; done) | (go_simp; with_reducible rfl)
      simp only [Act.put, List.setIfInBounds_toArray, List.set_cons_zero, List.set_cons_succ, List.getElem_toArray, List.getElem_cons_zero, List.getElem_cons_succ]
      refine wpAnyH_take (i := 9) (v := ?_) rfl (by kernel_rfl) (by kernel_rfl) (by kernel_rfl) (fun _ _ _ h => h) (Or.inl ⟨by rfl, ?_⟩) hHeld ?_
      rotate_left 1
      · intro w hSw
        try dsimp only at hSw
        first | (go_simp; done) | (go_simp; with_reducible rfl)
      simp only [Act.put, List.setIfInBounds_toArray, List.set_cons_zero, List.set_cons_succ, List.getElem_toArray, List.getElem_cons_zero, List.getElem_cons_succ]
      refine wpAnyH_take (i := 10) (v := ?_) rfl (by kernel_rfl) (by kernel_rfl) (by kernel_rfl) (fun _ _ _ h => h) (Or.inl ⟨by rfl, ?_⟩) hHeld ?_
      rotate_left 1
      · intro w hSw
        try dsimp only at hSw
        first | (go_simp; done) | (go_simp; with_reducible rfl)
      simp only [Act.put, List.setIfInBounds_toArray, List.set_cons_zero, List.set_cons_succ, List.getElem_toArray, List.getElem_cons_zero, List.getElem_cons_succ]
      refine wpAnyH_take (i := 11) (v := ?_) rfl (by kernel_rfl) (by kernel_rfl) (by kernel_rfl) (fun _ _ _ h => h) (Or.inl ⟨by rfl, ?_⟩) hHeld ?_
      rotate_left 1
      · intro w hSw
        try dsimp only at hSw
        first | (go_simp; done) | (go_simp; with_reducible rfl)
      simp only [Act.put, List.setIfInBounds_toArray, List.set_cons_zero, List.set_cons_succ, List.getElem_toArray, List.getElem_cons_zero, List.getElem_cons_succ]
      refine wpAnyH_take (i := 12) (v := ?_) rfl (by kernel_rfl) (by kernel_rfl) (by kernel_rfl) (fun _ _ _ h => h) (Or.inl ⟨by rfl, ?_⟩) hHeld ?_
      rotate_left 1
      · intro w hSw
        try dsimp only at hSw
        first | (go_simp; done) | (go_simp; with_reducible rfl)
      simp only [Act.put, List.setIfInBounds_toArray, List.set_cons_zero, List.set_cons_succ, List.getElem_toArray, List.getElem_cons_zero, List.getElem_cons_succ]
      refine wpAnyH_take (i := 13) (v := ?_) rfl (by kernel_rfl) (by kernel_rfl) (by kernel_rfl) (fun _ _ _ h => h) (Or.inl ⟨by rfl, ?_⟩) hHeld ?_
      rotate_left 1
      · intro w hSw
        try dsimp only at hSw
        first | (go_simp; done) | (go_simp; with_reducible rfl)
      simp only [Act.put, List.setIfInBounds_toArray, List.set_cons_zero, List.set_cons_succ, List.getElem_toArray, List.getElem_cons_zero, List.getElem_cons_succ]
      refine wpAnyH_take (i := 14) (v := ?_) rfl (by kernel_rfl) (by kernel_rfl) (by kernel_rfl) (fun _ _ _ h => h) (Or.inl ⟨by rfl, ?_⟩) hHeld ?_
      rotate_left 1
      · intro w hSw
        try dsimp only at hSw
        first | (go_simp; done) | (go_simp; with_reducible rfl)
      simp only [Act.put, List.setIfInBounds_toArray, List.set_cons_zero, List.set_cons_succ, List.getElem_toArray, List.getElem_cons_zero, List.getElem_cons_succ]
      refine wpAnyH_take (i := 15) (v := ?_) rfl (by kernel_rfl) (by kernel_rfl) (by kernel_rfl) (fun _ _ _ h => h) (Or.inl ⟨by rfl, ?_⟩) hHeld ?_
      rotate_left 1
      · intro w hSw
        try dsimp only at hSw
        first | (go_simp; done) | (go_simp; with_reducible rfl)
      simp only [Act.put, List.setIfInBounds_toArray, List.set_cons_zero, List.set_cons_succ, List.getElem_toArray, List.getElem_cons_zero, List.getElem_cons_succ]
      refine wpAnyH_take (i := 16) (v := ?_) rfl (by kernel_rfl) (by kernel_rfl) (by kernel_rfl) (fun _ _ _ h => h) (Or.inl ⟨by rfl, ?_⟩) hHeld ?_
      rotate_left 1
      · intro w hSw
        try dsimp only at hSw
        first | (go_simp; done) | (go_simp; with_reducible rfl)
      simp only [Act.put, List.setIfInBounds_toArray, List.set_cons_zero, List.set_cons_succ, List.getElem_toArray, List.getElem_cons_zero, List.getElem_cons_succ]
      refine wpAnyH_take (i := 17) (v := ?_) rfl (by kernel_rfl) (by kernel_rfl) (by kernel_rfl) (fun _ _ _ h => h) (Or.inl ⟨by rfl, ?_⟩) hHeld ?_
      rotate_left 1
      · intro w hSw
        try dsimp only at hSw
        first | (go_simp; done) | (go_simp; with_reducible rfl)
      simp only [Act.put, List.setIfInBounds_toArray, List.set_cons_zero, List.set_cons_succ, List.getElem_toArray, List.getElem_cons_zero, List.getElem_cons_succ]
      refine wpAnyH_take (i := 18) (v := ?_) rfl (by kernel_rfl) (by kernel_rfl) (by kernel_rfl) (fun _ _ _ h => h) (Or.inl ⟨by rfl, ?_⟩) hHeld ?_
      rotate_left 1
      · intro w hSw
        try dsimp only at hSw
        first | (go_simp; done) | (go_simp; with_reducible rfl)
      simp only [Act.put, List.setIfInBounds_toArray, List.set_cons_zero, List.set_cons_succ, List.getElem_toArray, List.getElem_cons_zero, List.getElem_cons_succ]
      refine wpAnyH_take (i := 19) (v := ?_) rfl (by kernel_rfl) (by kernel_rfl) (by kernel_rfl) (fun _ _ _ h => h) (Or.inl ⟨by rfl, ?_⟩) hHeld ?_
      rotate_left 1
      · intro w hSw
        try dsimp only at hSw
        first | (go_simp; done) | (go_simp; with_reducible rfl)
      simp only [Act.put, List.setIfInBounds_toArray, List.set_cons_zero, List.set_cons_succ, List.getElem_toArray, List.getElem_cons_zero, List.getElem_cons_succ]
      refine wpAnyH_take (i := 20) (v := ?_) rfl (by kernel_rfl) (by kernel_rfl) (by kernel_rfl) (fun _ _ _ h => h) (Or.inl ⟨by rfl, ?_⟩) hHeld ?_
      rotate_left 1
      · intro w hSw
        try dsimp only at hSw
        first | (go_simp; done) | (go_simp; with_reducible rfl)
      simp only [Act.put, List.setIfInBounds_toArray, List.set_cons_zero, List.set_cons_succ, List.getElem_toArray, List.getElem_cons_zero, List.getElem_cons_succ]
      refine wpAnyH_take (i := 21) (v := ?_) rfl (by kernel_rfl) (by kernel_rfl) (by kernel_rfl) (fun _ _ _ h => h) (Or.inl ⟨by rfl, ?_⟩) hHeld ?_
      rotate_left 1
      · intro w hSw
        try dsimp only at hSw
        first | (go_simp; done) | (go_simp; with_reducible rfl)
      simp only [Act.put, List.setIfInBounds_toArray, List.set_cons_zero, List.set_cons_succ, List.getElem_toArray, List.getElem_cons_zero, List.getElem_cons_succ]
      refine wpAnyH_take (i := 22) (v := ?_) rfl (by kernel_rfl) (by kernel_rfl) (by kernel_rfl) (fun _ _ _ h => h) (Or.inl ⟨by rfl, ?_⟩) hHeld ?_
      rotate_left 1
      · intro w hSw
        try dsimp only at hSw
        first | (go_simp; done) | (go_simp; with_reducible rfl)
      simp only [Act.put, List.setIfInBounds_toArray, List.set_cons_zero, List.set_cons_succ, List.getElem_toArray, List.getElem_cons_zero, List.getElem_cons_succ]
      refine wpAnyH_take (i := 23) (v := ?_) rfl (by kernel_rfl) (by kernel_rfl) (by kernel_rfl) (fun _ _ _ h => h) (Or.inl ⟨by rfl, ?_⟩) hHeld ?_
      rotate_left 1
      · intro w hSw
        try dsimp only at hSw
        first | (go_simp; done) | (go_simp; with_reducible rfl)
      simp only [Act.put, List.setIfInBounds_toArray, List.set_cons_zero, List.set_cons_succ, List.getElem_toArray, List.getElem_cons_zero, List.getElem_cons_succ]
      refine wpAnyH_take (i := 24) (v := ?_) rfl (by kernel_rfl) (by kernel_rfl) (by kernel_rfl) (fun _ _ _ h => h) (Or.inl ⟨by rfl, ?_⟩) hHeld ?_
      rotate_left 1
      · intro w hSw
        try dsimp only at hSw
        first | (go_simp; done) | (go_simp; with_reducible rfl)
      simp only [Act.put, List.setIfInBounds_toArray, List.set_cons_zero, List.set_cons_succ, List.getElem_toArray, List.getElem_cons_zero, List.getElem_cons_succ]
      refine wpAnyH_take (i := 25) (v := ?_) rfl (by kernel_rfl) (by kernel_rfl) (by kernel_rfl) (fun _ _ _ h => h) (Or.inl ⟨by rfl, ?_⟩) hHeld ?_
      rotate_left 1
      · intro w hSw
        try dsimp only at hSw
        first | (go_simp; done) | (go_simp; with_reducible rfl)
      simp only [Act.put, List.setIfInBounds_toArray, List.set_cons_zero, List.set_cons_succ, List.getElem_toArray, List.getElem_cons_zero, List.getElem_cons_succ]
      refine wpAnyH_take (i := 26) (v := ?_) rfl (by kernel_rfl) (by kernel_rfl) (by kernel_rfl) (fun _ _ _ h => h) (Or.inl ⟨by rfl, ?_⟩) hHeld ?_
      rotate_left 1
      · intro w hSw
        try dsimp only at hSw
        first | (go_simp; done) | (go_simp; with_reducible rfl)
      simp only [Act.put, List.setIfInBounds_toArray, List.set_cons_zero, List.set_cons_succ, List.getElem_toArray, List.getElem_cons_zero, List.getElem_cons_succ]
      refine wpAnyH_take (i := 27) (v := ?_) rfl (by kernel_rfl) (by kernel_rfl) (by kernel_rfl) (fun _ _ _ h => h) (Or.inl ⟨by rfl, ?_⟩) hHeld ?_
      rotate_left 1
      · intro w hSw
        try dsimp only at hSw
        first | (go_simp; done) | (go_simp; with_reducible rfl)
      simp only [Act.put, List.setIfInBounds_toArray, List.set_cons_zero, List.set_cons_succ, List.getElem_toArray, List.getElem_cons_zero, List.getElem_cons_succ]
      refine wpAnyH_take (i := 28) (v := ?_) rfl (by kernel_rfl) (by kernel_rfl) (by kernel_rfl) (fun _ _ _ h => h) (Or.inl ⟨by rfl, ?_⟩) hHeld ?_
      rotate_left 1
      · intro w hSw
        try dsimp only at hSw
        first | (go_simp; done) | (go_simp; with_reducible rfl)
      simp only [Act.put, List.setIfInBounds_toArray, List.set_cons_zero, List.set_cons_succ, List.getElem_toArray, List.getElem_cons_zero, List.getElem_cons_succ]
      refine wpAnyH_done (by kernel_rfl) ?_ _
      have HBL : Hid _ := BL
      clear BL c0 c1 c2 RE zk zl es m0 m4 m6 m7 m8 m9 m10 m11
      try simp only [Bool.not_true]
      go_wp2
      go_roundw
      case rel => exact ⟨k + 1, by omega, by go_num, HBL.out⟩
      case measure => simp [intOf]; omega
    · obtain rfl : k = sA.2.1 := by omega
      have DQ : Below wr.heap.size wr wr.drew := (Below.refl _ _).drew
      have c2 := (HX2.out.below BL).cell
      go_wp2_with fail
      clear c2
      replace BL := below_next BL DQ
      clear DQ
      have c0 := (HX0.out.below BL).cell
      have c1 := (HX1.out.below BL).cell
      have c2 := (HX2.out.below BL).cell
      have hlt : hh.L.2.1 < hA.L.2.1 := by rw [HLQ.out]; omega
      have hlk : (hh.L.2.1 : Int) < (hA.L.2.1 : Int) := by omega
      obtain ⟨b, off, es, -, -, -, m0, m1, m2, m3, m4, m5, -⟩ := (HAA.out.rep.log.below BL).six hlt
      have hge : (q.log).getD hh.L.2.1 en0 = (y0, y1, y2, y3, y4, y5) := by rw [HOL.out, ← HLr.out]; simp [List.getD]
      rw [hge] at m0 m1 m2 m3 m4 m5
      simp only at m0 m1 m2 m3 m4 m5
      clear hge
      rw [es] at c2
      have RE := run_eqEn y0 y1 y2 y3 y4 y5 y0 y1 y2 y3 y4 y5 true (by simp)
      refine wp_region_held_drew (S := (fun w' => (∀ k_2 : Nat, w'.cell? ⟨b0, k_2, none⟩ = [.int .i64 r.id, .int .i64 r.size, .int .i64 r.view, .bool r.normal, .int .i64 r.last, .slice hh.L.1 hh.L.2.1 hh.L.2.2, .int .i64 r.commit, .slice hh.O.1 hh.O.2.1 hh.O.2.2, .slice hh.A.1 hh.A.2.1 hh.A.2.2, .slice hh.D.1 hh.D.2.1 hh.D.2.2][k_2]?) ∧ (∀ k_2 : Nat, w'.cell? ⟨b1, k_2, none⟩ = [.int .i64 y0, .int .i64 y1, .int .i64 y2, .int .i64 y3, .int .i64 y4, .int .i64 y5][k_2]?) ∧ (∀ k_2 : Nat, w'.cell? ⟨b2, k_2, none⟩ = [.int .i64 0, .int .i64 q.id, .int .i64 q.size, .int .i64 q.view, .bool q.normal, .int .i64 q.last, .slice (some ⟨b, off, none⟩) hA.L.2.1 hA.L.2.2, .int .i64 q.commit, .slice hA.O.1 hA.O.2.1 hA.O.2.2, .slice hA.A.1 hA.A.2.1 hA.A.2.2, .slice hA.D.1 hA.D.2.1 hA.D.2.2, .slice sA.1 sA.2.1 sA.2.2][k_2]?) ∧ w'.cell? ⟨b, off + hh.L.2.1 * 6, none⟩ = some (.int .i64 y0) ∧ w'.cell? ⟨b, off + hh.L.2.1 * 6 + 1, none⟩ = some (.int .i64 y1) ∧ w'.cell? ⟨b, off + hh.L.2.1 * 6 + 2, none⟩ = some (.int .i64 y2) ∧ w'.cell? ⟨b, off + hh.L.2.1 * 6 + 3, none⟩ = some (.int .i64 y3) ∧ w'.cell? ⟨b, off + hh.L.2.1 * 6 + 4, none⟩ = some (.int .i64 y4) ∧ w'.cell? ⟨b, off + hh.L.2.1 * 6 + 5, none⟩ = some (.int .i64 y5))) (by kernel_rfl) ⟨c0, c1, c2, m0, m1, m2, m3, m4, m5⟩ (fun hHeld => ?_)
      refine wpAnyH_take (i := 0) (v := ?_) rfl (by kernel_rfl) (by kernel_rfl) (by kernel_rfl) (fun _ _ _ h => h) (Or.inl ⟨by rfl, ?_⟩) hHeld ?_
      rotate_left 1
      · intro w hSw
        try dsimp only at hSw
        first | (go_simp; done) | (go_simp; with_reducible rfl)
      simp only [Act.put, List.setIfInBounds_toArray, List.set_cons_zero, List.set_cons_succ, List.getElem_toArray, List.getElem_cons_zero]
      refine wpAnyH_take (i := 1) (v := ?_) rfl (by kernel_rfl) (by kernel_rfl) (by kernel_rfl) (fun _ _ _ h => h) (Or.inl ⟨by rfl, ?_⟩) hHeld ?_
      rotate_left 1
      · intro w hSw
        try dsimp only at hSw
        first | (go_simp; done) | (go_simp; with_reducible rfl)
      simp only [Act.put, List.setIfInBounds_toArray, List.set_cons_zero, List.set_cons_succ, List.getElem_toArray, List.getElem_cons_zero, List.getElem_cons_succ]
      refine wpAnyH_take (i := 2) (v := ?_) rfl (by kernel_rfl) (by kernel_rfl) (by kernel_rfl) (fun _ _ _ h => h) (Or.inl ⟨by rfl, ?_⟩) hHeld ?_
      rotate_left 1
      · intro w hSw
        try dsimp only at hSw
        first | (go_simp; done) | (go_simp; with_reducible rfl)
      simp only [Act.put, List.setIfInBounds_toArray, List.set_cons_zero, List.set_cons_succ, List.getElem_toArray, List.getElem_cons_zero, List.getElem_cons_succ]
      refine wpAnyH_take (i := 3) (v := ?_) rfl (by kernel_rfl) (by kernel_rfl) (by kernel_rfl) (fun _ _ _ h => h) (Or.inl ⟨by rfl, ?_⟩) hHeld ?_
      rotate_left 1
      · intro w hSw
        try dsimp only at hSw
        first | (go_simp; done) | (go_simp; with_reducible rfl)
      simp only [Act.put, List.setIfInBounds_toArray, List.set_cons_zero, List.set_cons_succ, List.getElem_toArray, List.getElem_cons_zero, List.getElem_cons_succ]
      refine wpAnyH_take (i := 4) (v := ?_) rfl (by kernel_rfl) (by kernel_rfl) (by kernel_rfl) (fun _ _ _ h => h) (Or.inl ⟨by rfl, ?_⟩) hHeld ?_
      rotate_left 1
      · intro w hSw
        try dsimp only at hSw
        first | (go_simp; done) | (go_simp; with_reducible rfl)
      simp only [Act.put, List.setIfInBounds_toArray, List.set_cons_zero, List.set_cons_succ, List.getElem_toArray, List.getElem_cons_zero, List.getElem_cons_succ]
      refine wpAnyH_take (i := 5) (v := ?_) rfl (by kernel_rfl) (by kernel_rfl) (by kernel_rfl) (fun _ _ _ h => h) (Or.inl ⟨by rfl, ?_⟩) hHeld ?_
      rotate_left 1
      · intro w hSw
        try dsimp only at hSw
        first | (go_simp; done) | (go_simp; with_reducible rfl)
      simp only [Act.put, List.setIfInBounds_toArray, List.set_cons_zero, List.set_cons_succ, List.getElem_toArray, List.getElem_cons_zero, List.getElem_cons_succ]
      refine wpAnyH_take (i := 6) (v := ?_) rfl (by kernel_rfl) (by kernel_rfl) (by kernel_rfl) (fun _ _ _ h => h) (Or.inl ⟨by rfl, ?_⟩) hHeld ?_
      rotate_left 1
      · intro w hSw
        try dsimp only at hSw
        first | (go_simp; done) | (go_simp; with_reducible rfl)
      simp only [Act.put, List.setIfInBounds_toArray, List.set_cons_zero, List.set_cons_succ, List.getElem_toArray, List.getElem_cons_zero, List.getElem_cons_succ]
      refine wpAnyH_take (i := 7) (v := ?_) rfl (by kernel_rfl) (by kernel_rfl) (by kernel_rfl) (fun _ _ _ h => h) (Or.inl ⟨by rfl, ?_⟩) hHeld ?_
      rotate_left 1
      · intro w hSw
        try dsimp only at hSw
        first | (go_simp; done) | (go_simp; with_reducible rfl)
      simp only [Act.put, List.setIfInBounds_toArray, List.set_cons_zero, List.set_cons_succ, List.getElem_toArray, List.getElem_cons_zero, List.getElem_cons_succ]
      refine wpAnyH_take (i := 8) (v := ?_) rfl (by kernel_rfl) (by kernel_rfl) (by kernel_rfl) (fun _ _ _ h => h) (Or.inl ⟨by rfl, ?_⟩) hHeld ?_
      rotate_left 1
      · intro w hSw
        try dsimp only at hSw
        first | (go_simp; done) | (go_simp; with_reducible rfl)
      simp only [Act.put, List.setIfInBounds_toArray, List.set_cons_zero, List.set_cons_succ, List.getElem_toArray, List.getElem_cons_zero, List.getElem_cons_succ]
      refine wpAnyH_take (i := 9) (v := ?_) rfl (by kernel_rfl) (by kernel_rfl) (by kernel_rfl) (fun _ _ _ h => h) (Or.inl ⟨by rfl, ?_⟩) hHeld ?_
      rotate_left 1
      · intro w hSw
        try dsimp only at hSw
        first | (go_simp; done) | (go_simp; with_reducible rfl)
      simp only [Act.put, List.setIfInBounds_toArray, List.set_cons_zero, List.set_cons_succ, List.getElem_toArray, List.getElem_cons_zero, List.getElem_cons_succ]
      refine wpAnyH_take (i := 10) (v := ?_) rfl (by kernel_rfl) (by kernel_rfl) (by kernel_rfl) (fun _ _ _ h => h) (Or.inl ⟨by rfl, ?_⟩) hHeld ?_
      rotate_left 1
      · intro w hSw
        try dsimp only at hSw
        first | (go_simp; done) | (go_simp; with_reducible rfl)
      simp only [Act.put, List.setIfInBounds_toArray, List.set_cons_zero, List.set_cons_succ, List.getElem_toArray, List.getElem_cons_zero, List.getElem_cons_succ]
      refine wpAnyH_take (i := 11) (v := ?_) rfl (by kernel_rfl) (by kernel_rfl) (by kernel_rfl) (fun _ _ _ h => h) (Or.inl ⟨by rfl, ?_⟩) hHeld ?_
      rotate_left 1
      · intro w hSw
        try dsimp only at hSw
        first | (go_simp; done) | (go_simp; with_reducible rfl)
      simp only [Act.put, List.setIfInBounds_toArray, List.set_cons_zero, List.set_cons_succ, List.getElem_toArray, List.getElem_cons_zero, List.getElem_cons_succ]
      refine wpAnyH_take (i := 12) (v := ?_) rfl (by kernel_rfl) (by kernel_rfl) (by kernel_rfl) (fun _ _ _ h => h) (Or.inl ⟨by rfl, ?_⟩) hHeld ?_
      rotate_left 1
      · intro w hSw
        try dsimp only at hSw
        first | (go_simp; done) | (go_simp; with_reducible rfl)
      simp only [Act.put, List.setIfInBounds_toArray, List.set_cons_zero, List.set_cons_succ, List.getElem_toArray, List.getElem_cons_zero, List.getElem_cons_succ]
      refine wpAnyH_take (i := 13) (v := ?_) rfl (by kernel_rfl) (by kernel_rfl) (by kernel_rfl) (fun _ _ _ h => h) (Or.inl ⟨by rfl, ?_⟩) hHeld ?_
      rotate_left 1
      · intro w hSw
        try dsimp only at hSw
        first | (go_simp; done) | (go_simp; with_reducible rfl)
      simp only [Act.put, List.setIfInBounds_toArray, List.set_cons_zero, List.set_cons_succ, List.getElem_toArray, List.getElem_cons_zero, List.getElem_cons_succ]
      refine wpAnyH_take (i := 14) (v := ?_) rfl (by kernel_rfl) (by kernel_rfl) (by kernel_rfl) (fun _ _ _ h => h) (Or.inl ⟨by rfl, ?_⟩) hHeld ?_
      rotate_left 1
      · intro w hSw
        try dsimp only at hSw
        first | (go_simp; done) | (go_simp; with_reducible rfl)
      simp only [Act.put, List.setIfInBounds_toArray, List.set_cons_zero, List.set_cons_succ, List.getElem_toArray, List.getElem_cons_zero, List.getElem_cons_succ]
      refine wpAnyH_done (by kernel_rfl) ?_ _
      have hno := HOK.out.norm
      have HB6 : Below w0.heap.size w0 _ := below_next HB5.out BL
      clear BL c0 c1 c2 RE es m0 m1 m2 m3 m4 m5
      go_wp2
      go_ret
      exact ⟨by simp [hno], HB6⟩

end Go.Proofs.Ytikplcpgocgogaa
