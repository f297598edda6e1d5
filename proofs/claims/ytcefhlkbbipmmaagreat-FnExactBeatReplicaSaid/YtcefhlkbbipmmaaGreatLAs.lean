/- At every replica and entry the program's AskReplica answers as its model does, field by field, writes into no argument, and its answer owns its memory: the law FnExactAskReplica is true at every argument, with no condition. -/
import Derived.Test.YtcefhlkbbipmmaaGreatRows
import Derived.Test.YtcefhlkbbipmmaaGreatWH
import Derived.Test.YtcefhlkbbipmmaaGreatWX
import Derived.Test.YtcefhlkbbipmmaaGreatWG
import Derived.Deep.DeepCutAuto
namespace Go.Proofs.YtcefhlkbbipmmaaGreat
open Go.RowKit

theorem step_allocX {P : Program} {ops : Array Oper} {dst : Option Tmp} {type : TypeId} {pos : String} {after : Array Edge} {a : Act} {w : World} {K : Act → World → Prop} {Q : Exit → Act → World → Prop} {E : Prop} (ty : TypeId) (cs : List Value) (hz : ∀ w, (zeroValue ty).run P w = .ok (.agg cs.toArray) w)
    (h : ∀ (b : Nat) (W : World), NewX w W b cs → K (a.put dst (.pointer (some ⟨b, 0, none⟩))) W) : if Region.wanted ⟨dst, .alloc ty, type, pos, after, none⟩ (yielded ops a.tmps) = true then Oper.wp P ⟨dst, .alloc ty, type, pos, after, none⟩ a w K Q else E := by
  have hw : Region.wanted ⟨dst, .alloc ty, type, pos, after, none⟩ (yielded ops a.tmps) = true := by simp [Region.wanted]
  rw [if_pos hw]
  unfold Oper.wp execOp
  go_simp
  exact h _ _ (by simpa using newX_mk w cs.toArray ty)
/-- an answer in a box of its own -/
def RBox (own : Bool) (W wx : World) (xb : Nat) (c : Int) (q : Rep) (ms : List Ml) : Prop := ∃ (z u : Nat) (h : RH) (s : Hd) (Km : Nat → Hd), Bx wx xb [.int .i64 c, .int .i64 q.id, .int .i64 q.size, .int .i64 q.view, .bool q.normal, .int .i64 q.last, .slice h.L.1 h.L.2.1 h.L.2.2, .int .i64 q.commit, .slice h.O.1 h.O.2.1 h.O.2.2, .slice h.A.1 h.A.2.1 h.A.2.2, .slice h.D.1 h.D.2.1 h.D.2.2, .slice s.1 s.2.1 s.2.2] ∧ AnsAt wx own z u h s Km q ms ∧ ASz h s Km 1048576 ∧ W.heap.size ≤ z ∧ u ≤ wx.heap.size ∧ W.heap.size ≤ xb ∧ (xb < z ∨ u ≤ xb) ∧ Below W.heap.size W wx
set_option maxRecDepth 20000 in
set_option maxHeartbeats 16000000 in
theorem lawAskReplica {own : Bool} (r : Rep) (h : RH) (en : En) (w : World) (x : RepAt w own 0 w.heap.size h r) (hs : RSz h maxLen) : Calls Tryz.prog 6 #[.agg #[.int .i64 r.id, .int .i64 r.size, .int .i64 r.view, .bool r.normal, .int .i64 r.last, .slice h.L.1 h.L.2.1 h.L.2.2, .int .i64 r.commit, .slice h.O.1 h.O.2.1 h.O.2.2, .slice h.A.1 h.A.2.1 h.A.2.2, .slice h.D.1 h.D.2.1 h.D.2.2], .agg #[.int .i64 en.1, .int .i64 en.2.1, .int .i64 en.2.2.1, .int .i64 en.2.2.2.1, .int .i64 en.2.2.2.2.1, .int .i64 en.2.2.2.2.2]] w fun e w' => e = .returned (.bool true) ∧ Below w.heap.size w w' := by
  obtain ⟨c, hc⟩ : ∃ c, askC r en = c := ⟨_, rfl⟩
  obtain ⟨qr, hq⟩ : ∃ qr, askQ r en = qr := ⟨_, rfl⟩
  obtain ⟨ms, hms⟩ : ∃ ms, askM r en = ms := ⟨_, rfl⟩
  have HS1 : Hid (∀ {own : Bool} {lo hi : Nat} (h : RH) (w : World), RepAt w own lo hi h r → RSz h 1048576 → Calls Tryz.prog 27 #[.agg #[.int .i64 r.id, .int .i64 r.size, .int .i64 r.view, .bool r.normal, .int .i64 r.last, .slice h.L.1 h.L.2.1 h.L.2.2, .int .i64 r.commit, .slice h.O.1 h.O.2.1 h.O.2.2, .slice h.A.1 h.A.2.1 h.A.2.2, .slice h.D.1 h.D.2.1 h.D.2.2], .agg #[.int .i64 en.1, .int .i64 en.2.1, .int .i64 en.2.2.1, .int .i64 en.2.2.2.1, .int .i64 en.2.2.2.2.1, .int .i64 en.2.2.2.2.2]] w fun e w' => NodeRes w w' e c qr ms) := fun h w y z => specAsk_is r h en w y z c qr ms hc hq hms
  have HI1 : Hid (∀ {own : Bool} {lo hi : Nat} (h : RH) (w : World), RepAt w own lo hi h r → RSz h 1048576 → Calls Tryz.prog 30 #[.agg #[.int .i64 r.id, .int .i64 r.size, .int .i64 r.view, .bool r.normal, .int .i64 r.last, .slice h.L.1 h.L.2.1 h.L.2.2, .int .i64 r.commit, .slice h.O.1 h.O.2.1 h.O.2.2, .slice h.A.1 h.A.2.1 h.A.2.2, .slice h.D.1 h.D.2.1 h.D.2.2], .agg #[.int .i64 en.1, .int .i64 en.2.1, .int .i64 en.2.2.1, .int .i64 en.2.2.2.1, .int .i64 en.2.2.2.2.1, .int .i64 en.2.2.2.2.2]] w fun e w' => NodeAns w w' e c qr ms) := fun h w y z => implAsk_is r h en w y z c qr ms hc hq hms
  clear hc hq hms
  go_enter Tryz.func6, Tryz.ntmps6
  go_wp2_with (first | ((have g := ob0); clear g; (with_reducible refine box_newX 57 [.int .i64 en.1, .int .i64 en.2.1, .int .i64 en.2.2.1, .int .i64 en.2.2.2.1, .int .i64 en.2.2.2.2.1, .int .i64 en.2.2.2.2.2] rfl ?_); intro b1 W1 N1; have ob1 : w.heap.size ≤ b1 := Nat.le_trans B.size N1.ge; have o0_b1 : b0 < b1 := Nat.lt_of_lt_of_le X0.lt N1.ge; replace X0 := X0.below N1.below; replace c0 := X0.cell; replace B := below_next B N1.below; have X1 := N1.bx; have c1 := X1.cell; clear N1) | ((with_reducible refine box_newX 54 [.int .i64 r.id, .int .i64 r.size, .int .i64 r.view, .bool r.normal, .int .i64 r.last, .slice h.L.1 h.L.2.1 h.L.2.2, .int .i64 r.commit, .slice h.O.1 h.O.2.1 h.O.2.2, .slice h.A.1 h.A.2.1 h.A.2.2, .slice h.D.1 h.D.2.1 h.D.2.2] rfl ?_); intro b0 W0 N0; have ob0 : w.heap.size ≤ b0 := N0.ge; have B := N0.below; have X0 := N0.bx; have c0 := X0.cell; clear N0) | fail)
  refine (szReplica_left r h _ (x.below B) hs).mono ?_
  rintro e w1 ⟨q, rfl, BB, hq⟩
  replace X0 := X0.below BB
  replace c0 := X0.cell
  replace X1 := X1.below BB
  replace c1 := X1.cell
  replace B := below_next B BB
  clear BB
  rcases hq with hq | ⟨hq0, hq1, HZ⟩
  · go_wp2
    go_ret
    exact ⟨rfl, B⟩
  have hq' : ¬ q < 0 := by omega
  clear hq0 hq1
  go_wp2_with fail
  first | go_frame | skip
  go_cut [6] (fun y wx => ∃ xb : Nat, y = .pointer (some ⟨xb, 0, none⟩) ∧ RBox false w1 wx xb c qr ms)
  case first =>
    have BW : Below w1.heap.size w1 w1 := Below.refl _ _
    have DQ : Below w1.heap.size w1 w1.drew := (Below.refl _ _).drew
    replace X0 := X0.below DQ
    replace c0 := X0.cell
    replace X1 := X1.below DQ
    replace c1 := X1.cell
    replace B := below_next B DQ
    replace BW := below_next BW DQ
    clear DQ
    refine wp_region_held_drew (S := (fun w' => (∀ k : Nat, w'.cell? ⟨b0, k, none⟩ = [.int .i64 r.id, .int .i64 r.size, .int .i64 r.view, .bool r.normal, .int .i64 r.last, .slice h.L.1 h.L.2.1 h.L.2.2, .int .i64 r.commit, .slice h.O.1 h.O.2.1 h.O.2.2, .slice h.A.1 h.A.2.1 h.A.2.2, .slice h.D.1 h.D.2.1 h.D.2.2][k]?) ∧ (∀ k : Nat, w'.cell? ⟨b1, k, none⟩ = [.int .i64 en.1, .int .i64 en.2.1, .int .i64 en.2.2.1, .int .i64 en.2.2.2.1, .int .i64 en.2.2.2.2.1, .int .i64 en.2.2.2.2.2][k]?))) (by kernel_rfl) ⟨c0, c1⟩ (fun hHeld => ?_)
    refine wpAnyH_take (i := 0) (v := ?_) rfl (by kernel_rfl) (by kernel_rfl) (by kernel_rfl) (fun _ _ _ h => h) (Or.inl ⟨by rfl, ?_⟩) hHeld ?_
    rotate_left 1
    · intro w hSw
      try dsimp only at hSw
      first | (go_simp; done) | (go_simp; with_reducible rfl)
    simp only [Act.put, List.setIfInBounds_toArray, List.set_cons_zero, List.set_cons_succ, List.getElem_toArray, List.getElem_cons_zero]
    refine wpAnyH_take (i := 2) (v := ?_) rfl (by kernel_rfl) (by kernel_rfl) (by kernel_rfl) (fun _ _ _ h => h) (Or.inl ⟨by rfl, ?_⟩) hHeld ?_
    rotate_left 1
    · intro w hSw
      try dsimp only at hSw
      first | (go_simp; done) | (go_simp; with_reducible rfl)
    simp only [Act.put, List.setIfInBounds_toArray, List.set_cons_zero, List.set_cons_succ, List.getElem_toArray, List.getElem_cons_zero, List.getElem_cons_succ]
    refine wpAnyH_ready (rs := [1, 5]) (by kernel_rfl) (by simp) ?_
    refine (AllReadyH.cons rfl (fun KK hKK => ?_) (AllReadyH.cons rfl (fun KK hKK => ?_) AllReadyH.nil))
    · go_simp
      go_at_call 28
      refine (toReplica_any r h _ (x.below B) HZ).mono ?_
      rintro e v1 ⟨k1, rfl, y1, z1, BB⟩
      replace X0 := X0.below BB
      replace c0 := X0.cell
      replace X1 := X1.below BB
      replace c1 := X1.cell
      replace B := below_next B BB
      replace BW := below_next BW BB
      clear BB
      clear hHeld
      refine hKK _ _ ⟨c0, c1⟩ (fun hHeld => ?_)
      clear hKK KK
      refine wpAnyH_ready (rs := [3, 5]) (by kernel_rfl) (by simp) ?_
      refine (AllReadyH.cons rfl (fun KK hKK => ?_) (AllReadyH.cons rfl (fun KK hKK => ?_) AllReadyH.nil))
      · go_simp
        go_at_call 29
        refine (toEntry_any en.1 en.2.1 en.2.2.1 en.2.2.2.1 en.2.2.2.2.1 en.2.2.2.2.2 _).mono ?_
        rintro e v2 ⟨rfl, BB⟩
        replace X0 := X0.below BB
        replace c0 := X0.cell
        replace X1 := X1.below BB
        replace c1 := X1.cell
        replace y1 := y1.below BB
        replace B := below_next B BB
        replace BW := below_next BW BB
        clear BB
        clear hHeld
        refine hKK _ _ ⟨c0, c1⟩ (fun hHeld => ?_)
        clear hKK KK
        refine wpAnyH_ready (rs := [4, 5]) (by kernel_rfl) (by simp) ?_
        refine (AllReadyH.cons rfl (fun KK hKK => ?_) (AllReadyH.cons rfl (fun KK hKK => ?_) AllReadyH.nil))
        · go_simp
          go_at_call 27
          refine (HS1.out k1 _ y1 z1).mono ?_
          rintro e v3 ⟨zS, uS, hS, sS, KS, rfl, GzS, hAS, AS, ZS, BB⟩
          have ozS : w.heap.size ≤ zS := Nat.le_trans B.size GzS
          have o0_zS : b0 < zS := Nat.lt_of_lt_of_le X0.lt GzS
          have o1_zS : b1 < zS := Nat.lt_of_lt_of_le X1.lt GzS
          have BW_zS := Nat.le_trans BW.size GzS
          clear GzS
          replace X0 := X0.below BB
          replace c0 := X0.cell
          replace X1 := X1.below BB
          replace c1 := X1.cell
          replace B := below_next B BB
          replace BW := below_next BW BB
          clear BB
          clear y1 z1
          clear hHeld
          refine hKK _ _ ⟨c0, c1⟩ (fun hHeld => ?_)
          clear hKK KK
          refine wpAnyH_ready (rs := [5]) (by kernel_rfl) (by simp) ?_
          refine (AllReadyH.cons rfl (fun KK hKK => ?_) AllReadyH.nil)
          refine step_allocX 40 [.int .i64 0, .int .i64 0, .int .i64 0, .int .i64 0, .bool false, .int .i64 0, .slice none 0 0, .int .i64 0, .slice none 0 0, .slice none 0 0, .slice none 0 0, .slice none 0 0] (fun _ => by kernel_rfl) ?_
          intro b2 W2 N2
          have ob2 : w.heap.size ≤ b2 := Nat.le_trans B.size N2.ge
          have o0_b2 : b0 < b2 := Nat.lt_of_lt_of_le X0.lt N2.ge
          have o1_b2 : b1 < b2 := Nat.lt_of_lt_of_le X1.lt N2.ge
          have oAS_b2 : uS ≤ b2 := Nat.le_trans hAS N2.ge
          have BW_b2 := Nat.le_trans BW.size N2.ge
          replace X0 := X0.below N2.below
          replace c0 := X0.cell
          replace X1 := X1.below N2.below
          replace c1 := X1.cell
          replace AS := AS.below N2.below
          replace hAS := Nat.le_trans hAS N2.below.size
          replace B := below_next B N2.below
          replace BW := below_next BW N2.below
          have X2 := N2.bx
          have c2 := X2.cell
          have f2 := X2.froz
          clear N2
          clear hHeld
          refine hKK _ _ ⟨c0, c1⟩ (fun hHeld => ?_)
          clear hKK KK
          refine wpAnyH_ready (rs := [6]) (by kernel_rfl) (by simp) ?_
          refine (AllReadyH.cons rfl (fun KK hKK => ?_) AllReadyH.nil)
          refine step_midX 40 X2 0 [.int .i64 c, .int .i64 qr.id, .int .i64 qr.size, .int .i64 qr.view, .bool qr.normal, .int .i64 qr.last, .slice hS.L.1 hS.L.2.1 hS.L.2.2, .int .i64 qr.commit, .slice hS.O.1 hS.O.2.1 hS.O.2.2, .slice hS.A.1 hS.A.2.1 hS.A.2.2, .slice hS.D.1 hS.D.2.1 hS.D.2.2, .slice sS.1 sS.2.1 sS.2.2] (by simp) (by kernel_rfl) (by simp [Value.oneCell']) rfl rfl ?_
          intro V1 S
          replace X0 := X0.kept S.kept (by omega)
          replace c0 := X0.cell
          replace X1 := X1.kept S.kept (by omega)
          replace c1 := X1.cell
          replace X2 : Bx V1 b2 [.int .i64 c, .int .i64 qr.id, .int .i64 qr.size, .int .i64 qr.view, .bool qr.normal, .int .i64 qr.last, .slice hS.L.1 hS.L.2.1 hS.L.2.2, .int .i64 qr.commit, .slice hS.O.1 hS.O.2.1 hS.O.2.2, .slice hS.A.1 hS.A.2.1 hS.A.2.2, .slice hS.D.1 hS.D.2.1 hS.D.2.2, .slice sS.1 sS.2.1 sS.2.2] := S.bx
          replace c2 := X2.cell
          replace f2 := X2.froz
          replace AS := AS.kept S.kept (by omega)
          replace hAS := Nat.le_trans hAS S.kept.size
          replace B := B.trans (S.kept.below _ (by omega) B.size)
          replace BW := BW.trans (S.kept.below _ (by omega) BW.size)
          clear S
          clear hHeld
          refine hKK _ _ ⟨c0, c1⟩ (fun hHeld => ?_)
          clear hKK KK
          refine wpAnyH_done (by kernel_rfl) ?_ _
          go_wp2_with fail
          go_meet
          exact ⟨b2, rfl, zS, uS, hS, sS, KS, X2, AS, ZS, by omega, hAS, by omega, by omega, BW⟩
        · refine step_allocX 40 [.int .i64 0, .int .i64 0, .int .i64 0, .int .i64 0, .bool false, .int .i64 0, .slice none 0 0, .int .i64 0, .slice none 0 0, .slice none 0 0, .slice none 0 0, .slice none 0 0] (fun _ => by kernel_rfl) ?_
          intro b2 W2 N2
          have ob2 : w.heap.size ≤ b2 := Nat.le_trans B.size N2.ge
          have o0_b2 : b0 < b2 := Nat.lt_of_lt_of_le X0.lt N2.ge
          have o1_b2 : b1 < b2 := Nat.lt_of_lt_of_le X1.lt N2.ge
          have BW_b2 := Nat.le_trans BW.size N2.ge
          replace X0 := X0.below N2.below
          replace c0 := X0.cell
          replace X1 := X1.below N2.below
          replace c1 := X1.cell
          replace y1 := y1.below N2.below
          replace B := below_next B N2.below
          replace BW := below_next BW N2.below
          have X2 := N2.bx
          have c2 := X2.cell
          have f2 := X2.froz
          clear N2
          clear hHeld
          refine hKK _ _ ⟨c0, c1⟩ (fun hHeld => ?_)
          clear hKK KK
          refine wpAnyH_ready (rs := [4]) (by kernel_rfl) (by simp) ?_
          refine (AllReadyH.cons rfl (fun KK hKK => ?_) AllReadyH.nil)
          go_simp
          go_at_call 27
          refine (HS1.out k1 _ y1 z1).mono ?_
          rintro e v3 ⟨zS, uS, hS, sS, KS, rfl, GzS, hAS, AS, ZS, BB⟩
          have ozS : w.heap.size ≤ zS := Nat.le_trans B.size GzS
          have o0_zS : b0 < zS := Nat.lt_of_lt_of_le X0.lt GzS
          have o1_zS : b1 < zS := Nat.lt_of_lt_of_le X1.lt GzS
          have o2_zS : b2 < zS := Nat.lt_of_lt_of_le X2.lt GzS
          have BW_zS := Nat.le_trans BW.size GzS
          clear GzS
          replace X0 := X0.below BB
          replace c0 := X0.cell
          replace X1 := X1.below BB
          replace c1 := X1.cell
          replace X2 := X2.below BB
          replace c2 := X2.cell
          replace f2 := X2.froz
          replace B := below_next B BB
          replace BW := below_next BW BB
          clear BB
          clear y1 z1
          clear hHeld
          refine hKK _ _ ⟨c0, c1⟩ (fun hHeld => ?_)
          clear hKK KK
          refine wpAnyH_ready (rs := [6]) (by kernel_rfl) (by simp) ?_
          refine (AllReadyH.cons rfl (fun KK hKK => ?_) AllReadyH.nil)
          refine step_midX 40 X2 0 [.int .i64 c, .int .i64 qr.id, .int .i64 qr.size, .int .i64 qr.view, .bool qr.normal, .int .i64 qr.last, .slice hS.L.1 hS.L.2.1 hS.L.2.2, .int .i64 qr.commit, .slice hS.O.1 hS.O.2.1 hS.O.2.2, .slice hS.A.1 hS.A.2.1 hS.A.2.2, .slice hS.D.1 hS.D.2.1 hS.D.2.2, .slice sS.1 sS.2.1 sS.2.2] (by simp) (by kernel_rfl) (by simp [Value.oneCell']) rfl rfl ?_
          intro V1 S
          replace X0 := X0.kept S.kept (by omega)
          replace c0 := X0.cell
          replace X1 := X1.kept S.kept (by omega)
          replace c1 := X1.cell
          replace X2 : Bx V1 b2 [.int .i64 c, .int .i64 qr.id, .int .i64 qr.size, .int .i64 qr.view, .bool qr.normal, .int .i64 qr.last, .slice hS.L.1 hS.L.2.1 hS.L.2.2, .int .i64 qr.commit, .slice hS.O.1 hS.O.2.1 hS.O.2.2, .slice hS.A.1 hS.A.2.1 hS.A.2.2, .slice hS.D.1 hS.D.2.1 hS.D.2.2, .slice sS.1 sS.2.1 sS.2.2] := S.bx
          replace c2 := X2.cell
          replace f2 := X2.froz
          replace AS := AS.kept S.kept (by omega)
          replace hAS := Nat.le_trans hAS S.kept.size
          replace B := B.trans (S.kept.below _ (by omega) B.size)
          replace BW := BW.trans (S.kept.below _ (by omega) BW.size)
          clear S
          clear hHeld
          refine hKK _ _ ⟨c0, c1⟩ (fun hHeld => ?_)
          clear hKK KK
          refine wpAnyH_done (by kernel_rfl) ?_ _
          go_wp2_with fail
          go_meet
          exact ⟨b2, rfl, zS, uS, hS, sS, KS, X2, AS, ZS, by omega, hAS, by omega, by omega, BW⟩
      · refine step_allocX 40 [.int .i64 0, .int .i64 0, .int .i64 0, .int .i64 0, .bool false, .int .i64 0, .slice none 0 0, .int .i64 0, .slice none 0 0, .slice none 0 0, .slice none 0 0, .slice none 0 0] (fun _ => by kernel_rfl) ?_
        intro b2 W2 N2
        have ob2 : w.heap.size ≤ b2 := Nat.le_trans B.size N2.ge
        have o0_b2 : b0 < b2 := Nat.lt_of_lt_of_le X0.lt N2.ge
        have o1_b2 : b1 < b2 := Nat.lt_of_lt_of_le X1.lt N2.ge
        have BW_b2 := Nat.le_trans BW.size N2.ge
        replace X0 := X0.below N2.below
        replace c0 := X0.cell
        replace X1 := X1.below N2.below
        replace c1 := X1.cell
        replace y1 := y1.below N2.below
        replace B := below_next B N2.below
        replace BW := below_next BW N2.below
        have X2 := N2.bx
        have c2 := X2.cell
        have f2 := X2.froz
        clear N2
        clear hHeld
        refine hKK _ _ ⟨c0, c1⟩ (fun hHeld => ?_)
        clear hKK KK
        refine wpAnyH_ready (rs := [3]) (by kernel_rfl) (by simp) ?_
        refine (AllReadyH.cons rfl (fun KK hKK => ?_) AllReadyH.nil)
        go_simp
        go_at_call 29
        refine (toEntry_any en.1 en.2.1 en.2.2.1 en.2.2.2.1 en.2.2.2.2.1 en.2.2.2.2.2 _).mono ?_
        rintro e v2 ⟨rfl, BB⟩
        replace X0 := X0.below BB
        replace c0 := X0.cell
        replace X1 := X1.below BB
        replace c1 := X1.cell
        replace X2 := X2.below BB
        replace c2 := X2.cell
        replace f2 := X2.froz
        replace y1 := y1.below BB
        replace B := below_next B BB
        replace BW := below_next BW BB
        clear BB
        clear hHeld
        refine hKK _ _ ⟨c0, c1⟩ (fun hHeld => ?_)
        clear hKK KK
        refine wpAnyH_ready (rs := [4]) (by kernel_rfl) (by simp) ?_
        refine (AllReadyH.cons rfl (fun KK hKK => ?_) AllReadyH.nil)
        go_simp
        go_at_call 27
        refine (HS1.out k1 _ y1 z1).mono ?_
        rintro e v3 ⟨zS, uS, hS, sS, KS, rfl, GzS, hAS, AS, ZS, BB⟩
        have ozS : w.heap.size ≤ zS := Nat.le_trans B.size GzS
        have o0_zS : b0 < zS := Nat.lt_of_lt_of_le X0.lt GzS
        have o1_zS : b1 < zS := Nat.lt_of_lt_of_le X1.lt GzS
        have o2_zS : b2 < zS := Nat.lt_of_lt_of_le X2.lt GzS
        have BW_zS := Nat.le_trans BW.size GzS
        clear GzS
        replace X0 := X0.below BB
        replace c0 := X0.cell
        replace X1 := X1.below BB
        replace c1 := X1.cell
        replace X2 := X2.below BB
        replace c2 := X2.cell
        replace f2 := X2.froz
        replace B := below_next B BB
        replace BW := below_next BW BB
        clear BB
        clear y1 z1
        clear hHeld
        refine hKK _ _ ⟨c0, c1⟩ (fun hHeld => ?_)
        clear hKK KK
        refine wpAnyH_ready (rs := [6]) (by kernel_rfl) (by simp) ?_
        refine (AllReadyH.cons rfl (fun KK hKK => ?_) AllReadyH.nil)
        refine step_midX 40 X2 0 [.int .i64 c, .int .i64 qr.id, .int .i64 qr.size, .int .i64 qr.view, .bool qr.normal, .int .i64 qr.last, .slice hS.L.1 hS.L.2.1 hS.L.2.2, .int .i64 qr.commit, .slice hS.O.1 hS.O.2.1 hS.O.2.2, .slice hS.A.1 hS.A.2.1 hS.A.2.2, .slice hS.D.1 hS.D.2.1 hS.D.2.2, .slice sS.1 sS.2.1 sS.2.2] (by simp) (by kernel_rfl) (by simp [Value.oneCell']) rfl rfl ?_
        intro V1 S
        replace X0 := X0.kept S.kept (by omega)
        replace c0 := X0.cell
        replace X1 := X1.kept S.kept (by omega)
        replace c1 := X1.cell
        replace X2 : Bx V1 b2 [.int .i64 c, .int .i64 qr.id, .int .i64 qr.size, .int .i64 qr.view, .bool qr.normal, .int .i64 qr.last, .slice hS.L.1 hS.L.2.1 hS.L.2.2, .int .i64 qr.commit, .slice hS.O.1 hS.O.2.1 hS.O.2.2, .slice hS.A.1 hS.A.2.1 hS.A.2.2, .slice hS.D.1 hS.D.2.1 hS.D.2.2, .slice sS.1 sS.2.1 sS.2.2] := S.bx
        replace c2 := X2.cell
        replace f2 := X2.froz
        replace AS := AS.kept S.kept (by omega)
        replace hAS := Nat.le_trans hAS S.kept.size
        replace B := B.trans (S.kept.below _ (by omega) B.size)
        replace BW := BW.trans (S.kept.below _ (by omega) BW.size)
        clear S
        clear hHeld
        refine hKK _ _ ⟨c0, c1⟩ (fun hHeld => ?_)
        clear hKK KK
        refine wpAnyH_done (by kernel_rfl) ?_ _
        go_wp2_with fail
        go_meet
        exact ⟨b2, rfl, zS, uS, hS, sS, KS, X2, AS, ZS, by omega, hAS, by omega, by omega, BW⟩
    · refine step_allocX 40 [.int .i64 0, .int .i64 0, .int .i64 0, .int .i64 0, .bool false, .int .i64 0, .slice none 0 0, .int .i64 0, .slice none 0 0, .slice none 0 0, .slice none 0 0, .slice none 0 0] (fun _ => by kernel_rfl) ?_
      intro b2 W2 N2
      have ob2 : w.heap.size ≤ b2 := Nat.le_trans B.size N2.ge
      have o0_b2 : b0 < b2 := Nat.lt_of_lt_of_le X0.lt N2.ge
      have o1_b2 : b1 < b2 := Nat.lt_of_lt_of_le X1.lt N2.ge
      have BW_b2 := Nat.le_trans BW.size N2.ge
      replace X0 := X0.below N2.below
      replace c0 := X0.cell
      replace X1 := X1.below N2.below
      replace c1 := X1.cell
      replace B := below_next B N2.below
      replace BW := below_next BW N2.below
      have X2 := N2.bx
      have c2 := X2.cell
      have f2 := X2.froz
      clear N2
      clear hHeld
      refine hKK _ _ ⟨c0, c1⟩ (fun hHeld => ?_)
      clear hKK KK
      refine wpAnyH_ready (rs := [1]) (by kernel_rfl) (by simp) ?_
      refine (AllReadyH.cons rfl (fun KK hKK => ?_) AllReadyH.nil)
      go_simp
      go_at_call 28
      refine (toReplica_any r h _ (x.below B) HZ).mono ?_
      rintro e v1 ⟨k1, rfl, y1, z1, BB⟩
      replace X0 := X0.below BB
      replace c0 := X0.cell
      replace X1 := X1.below BB
      replace c1 := X1.cell
      replace X2 := X2.below BB
      replace c2 := X2.cell
      replace f2 := X2.froz
      replace B := below_next B BB
      replace BW := below_next BW BB
      clear BB
      clear hHeld
      refine hKK _ _ ⟨c0, c1⟩ (fun hHeld => ?_)
      clear hKK KK
      refine wpAnyH_ready (rs := [3]) (by kernel_rfl) (by simp) ?_
      refine (AllReadyH.cons rfl (fun KK hKK => ?_) AllReadyH.nil)
      go_simp
      go_at_call 29
      refine (toEntry_any en.1 en.2.1 en.2.2.1 en.2.2.2.1 en.2.2.2.2.1 en.2.2.2.2.2 _).mono ?_
      rintro e v2 ⟨rfl, BB⟩
      replace X0 := X0.below BB
      replace c0 := X0.cell
      replace X1 := X1.below BB
      replace c1 := X1.cell
      replace X2 := X2.below BB
      replace c2 := X2.cell
      replace f2 := X2.froz
      replace y1 := y1.below BB
      replace B := below_next B BB
      replace BW := below_next BW BB
      clear BB
      clear hHeld
      refine hKK _ _ ⟨c0, c1⟩ (fun hHeld => ?_)
      clear hKK KK
      refine wpAnyH_ready (rs := [4]) (by kernel_rfl) (by simp) ?_
      refine (AllReadyH.cons rfl (fun KK hKK => ?_) AllReadyH.nil)
      go_simp
      go_at_call 27
      refine (HS1.out k1 _ y1 z1).mono ?_
      rintro e v3 ⟨zS, uS, hS, sS, KS, rfl, GzS, hAS, AS, ZS, BB⟩
      have ozS : w.heap.size ≤ zS := Nat.le_trans B.size GzS
      have o0_zS : b0 < zS := Nat.lt_of_lt_of_le X0.lt GzS
      have o1_zS : b1 < zS := Nat.lt_of_lt_of_le X1.lt GzS
      have o2_zS : b2 < zS := Nat.lt_of_lt_of_le X2.lt GzS
      have BW_zS := Nat.le_trans BW.size GzS
      clear GzS
      replace X0 := X0.below BB
      replace c0 := X0.cell
      replace X1 := X1.below BB
      replace c1 := X1.cell
      replace X2 := X2.below BB
      replace c2 := X2.cell
      replace f2 := X2.froz
      replace B := below_next B BB
      replace BW := below_next BW BB
      clear BB
      clear y1 z1
      clear hHeld
      refine hKK _ _ ⟨c0, c1⟩ (fun hHeld => ?_)
      clear hKK KK
      refine wpAnyH_ready (rs := [6]) (by kernel_rfl) (by simp) ?_
      refine (AllReadyH.cons rfl (fun KK hKK => ?_) AllReadyH.nil)
      refine step_midX 40 X2 0 [.int .i64 c, .int .i64 qr.id, .int .i64 qr.size, .int .i64 qr.view, .bool qr.normal, .int .i64 qr.last, .slice hS.L.1 hS.L.2.1 hS.L.2.2, .int .i64 qr.commit, .slice hS.O.1 hS.O.2.1 hS.O.2.2, .slice hS.A.1 hS.A.2.1 hS.A.2.2, .slice hS.D.1 hS.D.2.1 hS.D.2.2, .slice sS.1 sS.2.1 sS.2.2] (by simp) (by kernel_rfl) (by simp [Value.oneCell']) rfl rfl ?_
      intro V1 S
      replace X0 := X0.kept S.kept (by omega)
      replace c0 := X0.cell
      replace X1 := X1.kept S.kept (by omega)
      replace c1 := X1.cell
      replace X2 : Bx V1 b2 [.int .i64 c, .int .i64 qr.id, .int .i64 qr.size, .int .i64 qr.view, .bool qr.normal, .int .i64 qr.last, .slice hS.L.1 hS.L.2.1 hS.L.2.2, .int .i64 qr.commit, .slice hS.O.1 hS.O.2.1 hS.O.2.2, .slice hS.A.1 hS.A.2.1 hS.A.2.2, .slice hS.D.1 hS.D.2.1 hS.D.2.2, .slice sS.1 sS.2.1 sS.2.2] := S.bx
      replace c2 := X2.cell
      replace f2 := X2.froz
      replace AS := AS.kept S.kept (by omega)
      replace hAS := Nat.le_trans hAS S.kept.size
      replace B := B.trans (S.kept.below _ (by omega) B.size)
      replace BW := BW.trans (S.kept.below _ (by omega) BW.size)
      clear S
      clear hHeld
      refine hKK _ _ ⟨c0, c1⟩ (fun hHeld => ?_)
      clear hKK KK
      refine wpAnyH_done (by kernel_rfl) ?_ _
      go_wp2_with fail
      go_meet
      exact ⟨b2, rfl, zS, uS, hS, sS, KS, X2, AS, ZS, by omega, hAS, by omega, by omega, BW⟩
  case rest =>
    obtain ⟨b2, rfl, zS, uS, hS, sS, KS, XX, AS, ZS, Gz9, hAS, Gb9, sep2, BX⟩ := hcut
    rename World => wc5
    have hbx := BX.size
    have ob2 : w.heap.size ≤ b2 := Nat.le_trans B.size Gb9
    have o0_b2 : b0 < b2 := Nat.lt_of_lt_of_le X0.lt Gb9
    have o1_b2 : b1 < b2 := Nat.lt_of_lt_of_le X1.lt Gb9
    have ozS : w.heap.size ≤ zS := Nat.le_trans B.size Gz9
    have o0_zS : b0 < zS := Nat.lt_of_lt_of_le X0.lt Gz9
    have o1_zS : b1 < zS := Nat.lt_of_lt_of_le X1.lt Gz9
    replace X0 := X0.below BX
    replace c0 := X0.cell
    replace X1 := X1.below BX
    replace c1 := X1.cell
    replace B := below_next B BX
    have X2 := XX
    have c2 := X2.cell
    clear XX BX Gz9 Gb9
    go_wp2_with fail
    refine (toReplica_z r h _ (x.below B) HZ).mono ?_
    rintro e w4 ⟨zY, uY, k2, rfl, GzY, hy2, y2, z2, BB⟩
    have ozY : w.heap.size ≤ zY := Nat.le_trans B.size GzY
    have o0_zY : b0 < zY := Nat.lt_of_lt_of_le X0.lt GzY
    have o1_zY : b1 < zY := Nat.lt_of_lt_of_le X1.lt GzY
    have o2_zY : b2 < zY := Nat.lt_of_lt_of_le X2.lt GzY
    have oAS_zY : uS ≤ zY := Nat.le_trans hAS GzY
    clear GzY
    replace X0 := X0.below BB
    replace c0 := X0.cell
    replace X1 := X1.below BB
    replace c1 := X1.cell
    replace X2 := X2.below BB
    replace c2 := X2.cell
    replace AS := AS.below BB
    replace hAS := Nat.le_trans hAS BB.size
    replace B := below_next B BB
    clear BB
    go_wp2_with (first | ((with_reducible refine store_midX 29 X3 0 [.int .i64 r.id, .int .i64 r.size, .int .i64 r.view, .bool r.normal, .int .i64 r.last, .slice k2.L.1 k2.L.2.1 k2.L.2.2, .int .i64 r.commit, .slice k2.O.1 k2.O.2.1 k2.O.2.2, .slice k2.A.1 k2.A.2.1 k2.A.2.2, .slice k2.D.1 k2.D.2.1 k2.D.2.2] (by simp) (by kernel_rfl) (by simp [Value.oneCell']) rfl rfl ?_); intro V1 S; replace X0 := X0.kept S.kept (by omega); replace c0 := X0.cell; replace X1 := X1.kept S.kept (by omega); replace c1 := X1.cell; replace X2 := X2.kept S.kept (by omega); replace c2 := X2.cell; replace X3 : Bx V1 b3 [.int .i64 r.id, .int .i64 r.size, .int .i64 r.view, .bool r.normal, .int .i64 r.last, .slice k2.L.1 k2.L.2.1 k2.L.2.2, .int .i64 r.commit, .slice k2.O.1 k2.O.2.1 k2.O.2.2, .slice k2.A.1 k2.A.2.1 k2.A.2.2, .slice k2.D.1 k2.D.2.1 k2.D.2.2] := S.bx; replace c3 := X3.cell; replace f3 := X3.froz; replace AS := AS.kept S.kept (by omega); replace hAS := Nat.le_trans hAS S.kept.size; replace y2 := y2.kept S.kept (by omega); replace hy2 := Nat.le_trans hy2 S.kept.size; replace B := B.trans (S.kept.below _ (by omega) B.size); clear S) | ((have g := ob2); clear g; (with_reducible refine alloc_newX 29 [.int .i64 0, .int .i64 0, .int .i64 0, .bool false, .int .i64 0, .slice none 0 0, .int .i64 0, .slice none 0 0, .slice none 0 0, .slice none 0 0] (fun _ => by kernel_rfl) ?_); intro b3 W3 N3; have ob3 : w.heap.size ≤ b3 := Nat.le_trans B.size N3.ge; have o0_b3 : b0 < b3 := Nat.lt_of_lt_of_le X0.lt N3.ge; have o1_b3 : b1 < b3 := Nat.lt_of_lt_of_le X1.lt N3.ge; have o2_b3 : b2 < b3 := Nat.lt_of_lt_of_le X2.lt N3.ge; have oAS_b3 : uS ≤ b3 := Nat.le_trans hAS N3.ge; have oy2_b3 : uY ≤ b3 := Nat.le_trans hy2 N3.ge; replace X0 := X0.below N3.below; replace c0 := X0.cell; replace X1 := X1.below N3.below; replace c1 := X1.cell; replace X2 := X2.below N3.below; replace c2 := X2.cell; replace AS := AS.below N3.below; replace hAS := Nat.le_trans hAS N3.below.size; replace y2 := y2.below N3.below; replace hy2 := Nat.le_trans hy2 N3.below.size; replace B := below_next B N3.below; have X3 := N3.bx; have c3 := X3.cell; have f3 := X3.froz; clear N3) | fail)
    first | go_frame | skip
    go_cut [8] (fun y wx => ∃ xb : Nat, y = .pointer (some ⟨xb, 0, none⟩) ∧ RBox true V1 wx xb c qr ms)
    case first =>
      have BW : Below V1.heap.size V1 V1 := Below.refl _ _
      have DQ : Below V1.heap.size V1 V1.drew := (Below.refl _ _).drew
      replace X0 := X0.below DQ
      replace c0 := X0.cell
      replace X1 := X1.below DQ
      replace c1 := X1.cell
      replace X2 := X2.below DQ
      replace c2 := X2.cell
      replace X3 := X3.below DQ
      replace c3 := X3.cell
      replace f3 := X3.froz
      replace AS := AS.below DQ
      replace hAS := Nat.le_trans hAS DQ.size
      replace y2 := y2.below DQ
      replace hy2 := Nat.le_trans hy2 DQ.size
      replace B := below_next B DQ
      replace BW := below_next BW DQ
      clear DQ
      refine wp_region_held_drew (S := (fun w' => (∀ k : Nat, w'.cell? ⟨b3, k, none⟩ = [.int .i64 r.id, .int .i64 r.size, .int .i64 r.view, .bool r.normal, .int .i64 r.last, .slice k2.L.1 k2.L.2.1 k2.L.2.2, .int .i64 r.commit, .slice k2.O.1 k2.O.2.1 k2.O.2.2, .slice k2.A.1 k2.A.2.1 k2.A.2.2, .slice k2.D.1 k2.D.2.1 k2.D.2.2][k]?) ∧ (∀ k : Nat, w'.cell? ⟨b1, k, none⟩ = [.int .i64 en.1, .int .i64 en.2.1, .int .i64 en.2.2.1, .int .i64 en.2.2.2.1, .int .i64 en.2.2.2.2.1, .int .i64 en.2.2.2.2.2][k]?))) (by kernel_rfl) ⟨c3, c1⟩ (fun hHeld => ?_)
      refine wpAnyH_take (i := 0) (v := ?_) rfl (by kernel_rfl) (by kernel_rfl) (by kernel_rfl) (fun _ _ _ h => h) (Or.inl ⟨by rfl, ?_⟩) hHeld ?_
      rotate_left 1
      · intro w hSw
        try dsimp only at hSw
        first | (go_simp; done) | (go_simp; with_reducible rfl)
      simp only [Act.put, List.setIfInBounds_toArray, List.set_cons_zero, List.set_cons_succ, List.getElem_toArray, List.getElem_cons_zero]
      refine wpAnyH_take (i := 1) (v := ?_) rfl (by kernel_rfl) (by kernel_rfl) (by kernel_rfl) (fun _ _ _ h => h) (Or.inl ⟨by rfl, ?_⟩) hHeld ?_
      rotate_left 1
      · intro w hSw
        try dsimp only at hSw
        first | (go_simp; done) | (go_simp; with_reducible rfl)
      simp only [Act.put, List.setIfInBounds_toArray, List.set_cons_zero, List.set_cons_succ, List.getElem_toArray, List.getElem_cons_zero, List.getElem_cons_succ]
      refine wpAnyH_ready (rs := [2, 4]) (by kernel_rfl) (by simp) ?_
      refine (AllReadyH.cons rfl (fun KK hKK => ?_) (AllReadyH.cons rfl (fun KK hKK => ?_) AllReadyH.nil))
      · go_simp
        go_at_call 29
        refine (toEntry_any en.1 en.2.1 en.2.2.1 en.2.2.2.1 en.2.2.2.2.1 en.2.2.2.2.2 _).mono ?_
        rintro e v2 ⟨rfl, BB⟩
        replace X0 := X0.below BB
        replace c0 := X0.cell
        replace X1 := X1.below BB
        replace c1 := X1.cell
        replace X2 := X2.below BB
        replace c2 := X2.cell
        replace X3 := X3.below BB
        replace c3 := X3.cell
        replace f3 := X3.froz
        replace AS := AS.below BB
        replace hAS := Nat.le_trans hAS BB.size
        replace y2 := y2.below BB
        replace hy2 := Nat.le_trans hy2 BB.size
        replace B := below_next B BB
        replace BW := below_next BW BB
        clear BB
        clear hHeld
        refine hKK _ _ ⟨c3, c1⟩ (fun hHeld => ?_)
        clear hKK KK
        refine wpAnyH_ready (rs := [3, 4]) (by kernel_rfl) (by simp) ?_
        refine (AllReadyH.cons rfl (fun KK hKK => ?_) (AllReadyH.cons rfl (fun KK hKK => ?_) AllReadyH.nil))
        · go_simp
          go_at_call 30
          refine (HI1.out k2 _ y2 z2).mono ?_
          rintro e v3 ⟨zA, uA, hA, sA, KA, rfl, GzA, hAA, AA, ZA, BB⟩
          have ozA : w.heap.size ≤ zA := Nat.le_trans B.size GzA
          have o0_zA : b0 < zA := Nat.lt_of_lt_of_le X0.lt GzA
          have o1_zA : b1 < zA := Nat.lt_of_lt_of_le X1.lt GzA
          have o2_zA : b2 < zA := Nat.lt_of_lt_of_le X2.lt GzA
          have o3_zA : b3 < zA := Nat.lt_of_lt_of_le X3.lt GzA
          have oAS_zA : uS ≤ zA := Nat.le_trans hAS GzA
          have oy2_zA : uY ≤ zA := Nat.le_trans hy2 GzA
          have BW_zA := Nat.le_trans BW.size GzA
          clear GzA
          replace X0 := X0.below BB
          replace c0 := X0.cell
          replace X1 := X1.below BB
          replace c1 := X1.cell
          replace X2 := X2.below BB
          replace c2 := X2.cell
          replace X3 := X3.below BB
          replace c3 := X3.cell
          replace f3 := X3.froz
          replace AS := AS.below BB
          replace hAS := Nat.le_trans hAS BB.size
          replace y2 := y2.below BB
          replace hy2 := Nat.le_trans hy2 BB.size
          replace B := below_next B BB
          replace BW := below_next BW BB
          clear BB
          clear hHeld
          refine hKK _ _ ⟨c3, c1⟩ (fun hHeld => ?_)
          clear hKK KK
          refine wpAnyH_ready (rs := [4]) (by kernel_rfl) (by simp) ?_
          refine (AllReadyH.cons rfl (fun KK hKK => ?_) AllReadyH.nil)
          refine step_allocX 40 [.int .i64 0, .int .i64 0, .int .i64 0, .int .i64 0, .bool false, .int .i64 0, .slice none 0 0, .int .i64 0, .slice none 0 0, .slice none 0 0, .slice none 0 0, .slice none 0 0] (fun _ => by kernel_rfl) ?_
          intro b4 W4 N4
          have ob4 : w.heap.size ≤ b4 := Nat.le_trans B.size N4.ge
          have o0_b4 : b0 < b4 := Nat.lt_of_lt_of_le X0.lt N4.ge
          have o1_b4 : b1 < b4 := Nat.lt_of_lt_of_le X1.lt N4.ge
          have o2_b4 : b2 < b4 := Nat.lt_of_lt_of_le X2.lt N4.ge
          have o3_b4 : b3 < b4 := Nat.lt_of_lt_of_le X3.lt N4.ge
          have oAS_b4 : uS ≤ b4 := Nat.le_trans hAS N4.ge
          have oy2_b4 : uY ≤ b4 := Nat.le_trans hy2 N4.ge
          have oAA_b4 : uA ≤ b4 := Nat.le_trans hAA N4.ge
          have BW_b4 := Nat.le_trans BW.size N4.ge
          replace X0 := X0.below N4.below
          replace c0 := X0.cell
          replace X1 := X1.below N4.below
          replace c1 := X1.cell
          replace X2 := X2.below N4.below
          replace c2 := X2.cell
          replace X3 := X3.below N4.below
          replace c3 := X3.cell
          replace f3 := X3.froz
          replace AS := AS.below N4.below
          replace hAS := Nat.le_trans hAS N4.below.size
          replace y2 := y2.below N4.below
          replace hy2 := Nat.le_trans hy2 N4.below.size
          replace AA := AA.below N4.below
          replace hAA := Nat.le_trans hAA N4.below.size
          replace B := below_next B N4.below
          replace BW := below_next BW N4.below
          have X4 := N4.bx
          have c4 := X4.cell
          have f4 := X4.froz
          clear N4
          clear hHeld
          refine hKK _ _ ⟨c3, c1⟩ (fun hHeld => ?_)
          clear hKK KK
          refine wpAnyH_ready (rs := [5]) (by kernel_rfl) (by simp) ?_
          refine (AllReadyH.cons rfl (fun KK hKK => ?_) AllReadyH.nil)
          refine step_midX 40 X4 0 [.int .i64 c, .int .i64 qr.id, .int .i64 qr.size, .int .i64 qr.view, .bool qr.normal, .int .i64 qr.last, .slice hA.L.1 hA.L.2.1 hA.L.2.2, .int .i64 qr.commit, .slice hA.O.1 hA.O.2.1 hA.O.2.2, .slice hA.A.1 hA.A.2.1 hA.A.2.2, .slice hA.D.1 hA.D.2.1 hA.D.2.2, .slice sA.1 sA.2.1 sA.2.2] (by simp) (by kernel_rfl) (by simp [Value.oneCell']) rfl rfl ?_
          intro V2 S
          replace X0 := X0.kept S.kept (by omega)
          replace c0 := X0.cell
          replace X1 := X1.kept S.kept (by omega)
          replace c1 := X1.cell
          replace X2 := X2.kept S.kept (by omega)
          replace c2 := X2.cell
          replace X3 := X3.kept S.kept (by omega)
          replace c3 := X3.cell
          replace f3 := X3.froz
          replace X4 : Bx V2 b4 [.int .i64 c, .int .i64 qr.id, .int .i64 qr.size, .int .i64 qr.view, .bool qr.normal, .int .i64 qr.last, .slice hA.L.1 hA.L.2.1 hA.L.2.2, .int .i64 qr.commit, .slice hA.O.1 hA.O.2.1 hA.O.2.2, .slice hA.A.1 hA.A.2.1 hA.A.2.2, .slice hA.D.1 hA.D.2.1 hA.D.2.2, .slice sA.1 sA.2.1 sA.2.2] := S.bx
          replace c4 := X4.cell
          replace f4 := X4.froz
          replace AS := AS.kept S.kept (by omega)
          replace hAS := Nat.le_trans hAS S.kept.size
          replace y2 := y2.kept S.kept (by omega)
          replace hy2 := Nat.le_trans hy2 S.kept.size
          replace AA := AA.kept S.kept (by omega)
          replace hAA := Nat.le_trans hAA S.kept.size
          replace B := B.trans (S.kept.below _ (by omega) B.size)
          replace BW := BW.trans (S.kept.below _ (by omega) BW.size)
          clear S
          clear hHeld
          refine hKK _ _ ⟨c3, c1⟩ (fun hHeld => ?_)
          clear hKK KK
          refine wpAnyH_done (by kernel_rfl) ?_ _
          go_wp2_with fail
          go_meet
          exact ⟨b4, rfl, zA, uA, hA, sA, KA, X4, AA, ZA, by omega, hAA, by omega, by omega, BW⟩
        · refine step_allocX 40 [.int .i64 0, .int .i64 0, .int .i64 0, .int .i64 0, .bool false, .int .i64 0, .slice none 0 0, .int .i64 0, .slice none 0 0, .slice none 0 0, .slice none 0 0, .slice none 0 0] (fun _ => by kernel_rfl) ?_
          intro b4 W4 N4
          have ob4 : w.heap.size ≤ b4 := Nat.le_trans B.size N4.ge
          have o0_b4 : b0 < b4 := Nat.lt_of_lt_of_le X0.lt N4.ge
          have o1_b4 : b1 < b4 := Nat.lt_of_lt_of_le X1.lt N4.ge
          have o2_b4 : b2 < b4 := Nat.lt_of_lt_of_le X2.lt N4.ge
          have o3_b4 : b3 < b4 := Nat.lt_of_lt_of_le X3.lt N4.ge
          have oAS_b4 : uS ≤ b4 := Nat.le_trans hAS N4.ge
          have oy2_b4 : uY ≤ b4 := Nat.le_trans hy2 N4.ge
          have BW_b4 := Nat.le_trans BW.size N4.ge
          replace X0 := X0.below N4.below
          replace c0 := X0.cell
          replace X1 := X1.below N4.below
          replace c1 := X1.cell
          replace X2 := X2.below N4.below
          replace c2 := X2.cell
          replace X3 := X3.below N4.below
          replace c3 := X3.cell
          replace f3 := X3.froz
          replace AS := AS.below N4.below
          replace hAS := Nat.le_trans hAS N4.below.size
          replace y2 := y2.below N4.below
          replace hy2 := Nat.le_trans hy2 N4.below.size
          replace B := below_next B N4.below
          replace BW := below_next BW N4.below
          have X4 := N4.bx
          have c4 := X4.cell
          have f4 := X4.froz
          clear N4
          clear hHeld
          refine hKK _ _ ⟨c3, c1⟩ (fun hHeld => ?_)
          clear hKK KK
          refine wpAnyH_ready (rs := [3]) (by kernel_rfl) (by simp) ?_
          refine (AllReadyH.cons rfl (fun KK hKK => ?_) AllReadyH.nil)
          go_simp
          go_at_call 30
          refine (HI1.out k2 _ y2 z2).mono ?_
          rintro e v3 ⟨zA, uA, hA, sA, KA, rfl, GzA, hAA, AA, ZA, BB⟩
          have ozA : w.heap.size ≤ zA := Nat.le_trans B.size GzA
          have o0_zA : b0 < zA := Nat.lt_of_lt_of_le X0.lt GzA
          have o1_zA : b1 < zA := Nat.lt_of_lt_of_le X1.lt GzA
          have o2_zA : b2 < zA := Nat.lt_of_lt_of_le X2.lt GzA
          have o3_zA : b3 < zA := Nat.lt_of_lt_of_le X3.lt GzA
          have o4_zA : b4 < zA := Nat.lt_of_lt_of_le X4.lt GzA
          have oAS_zA : uS ≤ zA := Nat.le_trans hAS GzA
          have oy2_zA : uY ≤ zA := Nat.le_trans hy2 GzA
          have BW_zA := Nat.le_trans BW.size GzA
          clear GzA
          replace X0 := X0.below BB
          replace c0 := X0.cell
          replace X1 := X1.below BB
          replace c1 := X1.cell
          replace X2 := X2.below BB
          replace c2 := X2.cell
          replace X3 := X3.below BB
          replace c3 := X3.cell
          replace f3 := X3.froz
          replace X4 := X4.below BB
          replace c4 := X4.cell
          replace f4 := X4.froz
          replace AS := AS.below BB
          replace hAS := Nat.le_trans hAS BB.size
          replace y2 := y2.below BB
          replace hy2 := Nat.le_trans hy2 BB.size
          replace B := below_next B BB
          replace BW := below_next BW BB
          clear BB
          clear hHeld
          refine hKK _ _ ⟨c3, c1⟩ (fun hHeld => ?_)
          clear hKK KK
          refine wpAnyH_ready (rs := [5]) (by kernel_rfl) (by simp) ?_
          refine (AllReadyH.cons rfl (fun KK hKK => ?_) AllReadyH.nil)
          refine step_midX 40 X4 0 [.int .i64 c, .int .i64 qr.id, .int .i64 qr.size, .int .i64 qr.view, .bool qr.normal, .int .i64 qr.last, .slice hA.L.1 hA.L.2.1 hA.L.2.2, .int .i64 qr.commit, .slice hA.O.1 hA.O.2.1 hA.O.2.2, .slice hA.A.1 hA.A.2.1 hA.A.2.2, .slice hA.D.1 hA.D.2.1 hA.D.2.2, .slice sA.1 sA.2.1 sA.2.2] (by simp) (by kernel_rfl) (by simp [Value.oneCell']) rfl rfl ?_
          intro V2 S
          replace X0 := X0.kept S.kept (by omega)
          replace c0 := X0.cell
          replace X1 := X1.kept S.kept (by omega)
          replace c1 := X1.cell
          replace X2 := X2.kept S.kept (by omega)
          replace c2 := X2.cell
          replace X3 := X3.kept S.kept (by omega)
          replace c3 := X3.cell
          replace f3 := X3.froz
          replace X4 : Bx V2 b4 [.int .i64 c, .int .i64 qr.id, .int .i64 qr.size, .int .i64 qr.view, .bool qr.normal, .int .i64 qr.last, .slice hA.L.1 hA.L.2.1 hA.L.2.2, .int .i64 qr.commit, .slice hA.O.1 hA.O.2.1 hA.O.2.2, .slice hA.A.1 hA.A.2.1 hA.A.2.2, .slice hA.D.1 hA.D.2.1 hA.D.2.2, .slice sA.1 sA.2.1 sA.2.2] := S.bx
          replace c4 := X4.cell
          replace f4 := X4.froz
          replace AS := AS.kept S.kept (by omega)
          replace hAS := Nat.le_trans hAS S.kept.size
          replace y2 := y2.kept S.kept (by omega)
          replace hy2 := Nat.le_trans hy2 S.kept.size
          replace AA := AA.kept S.kept (by omega)
          replace hAA := Nat.le_trans hAA S.kept.size
          replace B := B.trans (S.kept.below _ (by omega) B.size)
          replace BW := BW.trans (S.kept.below _ (by omega) BW.size)
          clear S
          clear hHeld
          refine hKK _ _ ⟨c3, c1⟩ (fun hHeld => ?_)
          clear hKK KK
          refine wpAnyH_done (by kernel_rfl) ?_ _
          go_wp2_with fail
          go_meet
          exact ⟨b4, rfl, zA, uA, hA, sA, KA, X4, AA, ZA, by omega, hAA, by omega, by omega, BW⟩
      · refine step_allocX 40 [.int .i64 0, .int .i64 0, .int .i64 0, .int .i64 0, .bool false, .int .i64 0, .slice none 0 0, .int .i64 0, .slice none 0 0, .slice none 0 0, .slice none 0 0, .slice none 0 0] (fun _ => by kernel_rfl) ?_
        intro b4 W4 N4
        have ob4 : w.heap.size ≤ b4 := Nat.le_trans B.size N4.ge
        have o0_b4 : b0 < b4 := Nat.lt_of_lt_of_le X0.lt N4.ge
        have o1_b4 : b1 < b4 := Nat.lt_of_lt_of_le X1.lt N4.ge
        have o2_b4 : b2 < b4 := Nat.lt_of_lt_of_le X2.lt N4.ge
        have o3_b4 : b3 < b4 := Nat.lt_of_lt_of_le X3.lt N4.ge
        have oAS_b4 : uS ≤ b4 := Nat.le_trans hAS N4.ge
        have oy2_b4 : uY ≤ b4 := Nat.le_trans hy2 N4.ge
        have BW_b4 := Nat.le_trans BW.size N4.ge
        replace X0 := X0.below N4.below
        replace c0 := X0.cell
        replace X1 := X1.below N4.below
        replace c1 := X1.cell
        replace X2 := X2.below N4.below
        replace c2 := X2.cell
        replace X3 := X3.below N4.below
        replace c3 := X3.cell
        replace f3 := X3.froz
        replace AS := AS.below N4.below
        replace hAS := Nat.le_trans hAS N4.below.size
        replace y2 := y2.below N4.below
        replace hy2 := Nat.le_trans hy2 N4.below.size
        replace B := below_next B N4.below
        replace BW := below_next BW N4.below
        have X4 := N4.bx
        have c4 := X4.cell
        have f4 := X4.froz
        clear N4
        clear hHeld
        refine hKK _ _ ⟨c3, c1⟩ (fun hHeld => ?_)
        clear hKK KK
        refine wpAnyH_ready (rs := [2]) (by kernel_rfl) (by simp) ?_
        refine (AllReadyH.cons rfl (fun KK hKK => ?_) AllReadyH.nil)
        go_simp
        go_at_call 29
        refine (toEntry_any en.1 en.2.1 en.2.2.1 en.2.2.2.1 en.2.2.2.2.1 en.2.2.2.2.2 _).mono ?_
        rintro e v2 ⟨rfl, BB⟩
        replace X0 := X0.below BB
        replace c0 := X0.cell
        replace X1 := X1.below BB
        replace c1 := X1.cell
        replace X2 := X2.below BB
        replace c2 := X2.cell
        replace X3 := X3.below BB
        replace c3 := X3.cell
        replace f3 := X3.froz
        replace X4 := X4.below BB
        replace c4 := X4.cell
        replace f4 := X4.froz
        replace AS := AS.below BB
        replace hAS := Nat.le_trans hAS BB.size
        replace y2 := y2.below BB
        replace hy2 := Nat.le_trans hy2 BB.size
        replace B := below_next B BB
        replace BW := below_next BW BB
        clear BB
        clear hHeld
        refine hKK _ _ ⟨c3, c1⟩ (fun hHeld => ?_)
        clear hKK KK
        refine wpAnyH_ready (rs := [3]) (by kernel_rfl) (by simp) ?_
        refine (AllReadyH.cons rfl (fun KK hKK => ?_) AllReadyH.nil)
        go_simp
        go_at_call 30
        refine (HI1.out k2 _ y2 z2).mono ?_
        rintro e v3 ⟨zA, uA, hA, sA, KA, rfl, GzA, hAA, AA, ZA, BB⟩
        have ozA : w.heap.size ≤ zA := Nat.le_trans B.size GzA
        have o0_zA : b0 < zA := Nat.lt_of_lt_of_le X0.lt GzA
        have o1_zA : b1 < zA := Nat.lt_of_lt_of_le X1.lt GzA
        have o2_zA : b2 < zA := Nat.lt_of_lt_of_le X2.lt GzA
        have o3_zA : b3 < zA := Nat.lt_of_lt_of_le X3.lt GzA
        have o4_zA : b4 < zA := Nat.lt_of_lt_of_le X4.lt GzA
        have oAS_zA : uS ≤ zA := Nat.le_trans hAS GzA
        have oy2_zA : uY ≤ zA := Nat.le_trans hy2 GzA
        have BW_zA := Nat.le_trans BW.size GzA
        clear GzA
        replace X0 := X0.below BB
        replace c0 := X0.cell
        replace X1 := X1.below BB
        replace c1 := X1.cell
        replace X2 := X2.below BB
        replace c2 := X2.cell
        replace X3 := X3.below BB
        replace c3 := X3.cell
        replace f3 := X3.froz
        replace X4 := X4.below BB
        replace c4 := X4.cell
        replace f4 := X4.froz
        replace AS := AS.below BB
        replace hAS := Nat.le_trans hAS BB.size
        replace y2 := y2.below BB
        replace hy2 := Nat.le_trans hy2 BB.size
        replace B := below_next B BB
        replace BW := below_next BW BB
        clear BB
        clear hHeld
        refine hKK _ _ ⟨c3, c1⟩ (fun hHeld => ?_)
        clear hKK KK
        refine wpAnyH_ready (rs := [5]) (by kernel_rfl) (by simp) ?_
        refine (AllReadyH.cons rfl (fun KK hKK => ?_) AllReadyH.nil)
        refine step_midX 40 X4 0 [.int .i64 c, .int .i64 qr.id, .int .i64 qr.size, .int .i64 qr.view, .bool qr.normal, .int .i64 qr.last, .slice hA.L.1 hA.L.2.1 hA.L.2.2, .int .i64 qr.commit, .slice hA.O.1 hA.O.2.1 hA.O.2.2, .slice hA.A.1 hA.A.2.1 hA.A.2.2, .slice hA.D.1 hA.D.2.1 hA.D.2.2, .slice sA.1 sA.2.1 sA.2.2] (by simp) (by kernel_rfl) (by simp [Value.oneCell']) rfl rfl ?_
        intro V2 S
        replace X0 := X0.kept S.kept (by omega)
        replace c0 := X0.cell
        replace X1 := X1.kept S.kept (by omega)
        replace c1 := X1.cell
        replace X2 := X2.kept S.kept (by omega)
        replace c2 := X2.cell
        replace X3 := X3.kept S.kept (by omega)
        replace c3 := X3.cell
        replace f3 := X3.froz
        replace X4 : Bx V2 b4 [.int .i64 c, .int .i64 qr.id, .int .i64 qr.size, .int .i64 qr.view, .bool qr.normal, .int .i64 qr.last, .slice hA.L.1 hA.L.2.1 hA.L.2.2, .int .i64 qr.commit, .slice hA.O.1 hA.O.2.1 hA.O.2.2, .slice hA.A.1 hA.A.2.1 hA.A.2.2, .slice hA.D.1 hA.D.2.1 hA.D.2.2, .slice sA.1 sA.2.1 sA.2.2] := S.bx
        replace c4 := X4.cell
        replace f4 := X4.froz
        replace AS := AS.kept S.kept (by omega)
        replace hAS := Nat.le_trans hAS S.kept.size
        replace y2 := y2.kept S.kept (by omega)
        replace hy2 := Nat.le_trans hy2 S.kept.size
        replace AA := AA.kept S.kept (by omega)
        replace hAA := Nat.le_trans hAA S.kept.size
        replace B := B.trans (S.kept.below _ (by omega) B.size)
        replace BW := BW.trans (S.kept.below _ (by omega) BW.size)
        clear S
        clear hHeld
        refine hKK _ _ ⟨c3, c1⟩ (fun hHeld => ?_)
        clear hKK KK
        refine wpAnyH_done (by kernel_rfl) ?_ _
        go_wp2_with fail
        go_meet
        exact ⟨b4, rfl, zA, uA, hA, sA, KA, X4, AA, ZA, by omega, hAA, by omega, by omega, BW⟩
    case rest =>
      obtain ⟨b4, rfl, zA, uA, hA, sA, KA, XX, AA, ZA, Gz9, hAA, Gb9, sep4, BX⟩ := hcut
      rename World => wc7
      have hbx := BX.size
      have ob4 : w.heap.size ≤ b4 := Nat.le_trans B.size Gb9
      have o0_b4 : b0 < b4 := Nat.lt_of_lt_of_le X0.lt Gb9
      have o1_b4 : b1 < b4 := Nat.lt_of_lt_of_le X1.lt Gb9
      have o2_b4 : b2 < b4 := Nat.lt_of_lt_of_le X2.lt Gb9
      have o3_b4 : b3 < b4 := Nat.lt_of_lt_of_le X3.lt Gb9
      have oAS_b4 : uS ≤ b4 := Nat.le_trans hAS Gb9
      have oy2_b4 : uY ≤ b4 := Nat.le_trans hy2 Gb9
      have ozA : w.heap.size ≤ zA := Nat.le_trans B.size Gz9
      have o0_zA : b0 < zA := Nat.lt_of_lt_of_le X0.lt Gz9
      have o1_zA : b1 < zA := Nat.lt_of_lt_of_le X1.lt Gz9
      have o2_zA : b2 < zA := Nat.lt_of_lt_of_le X2.lt Gz9
      have o3_zA : b3 < zA := Nat.lt_of_lt_of_le X3.lt Gz9
      have oAS_zA : uS ≤ zA := Nat.le_trans hAS Gz9
      have oy2_zA : uY ≤ zA := Nat.le_trans hy2 Gz9
      replace X0 := X0.below BX
      replace c0 := X0.cell
      replace X1 := X1.below BX
      replace c1 := X1.cell
      replace X2 := X2.below BX
      replace c2 := X2.cell
      replace X3 := X3.below BX
      replace c3 := X3.cell
      replace f3 := X3.froz
      replace AS := AS.below BX
      replace hAS := Nat.le_trans hAS BX.size
      replace y2 := y2.below BX
      replace hy2 := Nat.le_trans hy2 BX.size
      replace B := below_next B BX
      have X4 := XX
      have c4 := X4.cell
      clear XX BX Gz9 Gb9
      go_wp2_with fail
      refine (eqRR_yes c qr ms hA hS sA sS KA KS _ AA AS (ZA.mono (by omega))).mono ?_
      rintro e w6 ⟨rfl, BB⟩
      replace X0 := X0.below BB
      replace c0 := X0.cell
      replace X1 := X1.below BB
      replace c1 := X1.cell
      replace X2 := X2.below BB
      replace c2 := X2.cell
      replace X3 := X3.below BB
      replace c3 := X3.cell
      replace f3 := X3.froz
      replace X4 := X4.below BB
      replace c4 := X4.cell
      replace AS := AS.below BB
      replace hAS := Nat.le_trans hAS BB.size
      replace y2 := y2.below BB
      replace hy2 := Nat.le_trans hy2 BB.size
      replace AA := AA.below BB
      replace hAA := Nat.le_trans hAA BB.size
      replace B := below_next B BB
      clear BB
      go_wp2_with fail
      have DQ : Below w6.heap.size w6 w6.drew := (Below.refl _ _).drew
      replace X0 := X0.below DQ
      replace c0 := X0.cell
      replace X1 := X1.below DQ
      replace c1 := X1.cell
      replace X2 := X2.below DQ
      replace c2 := X2.cell
      replace X3 := X3.below DQ
      replace c3 := X3.cell
      replace f3 := X3.froz
      replace X4 := X4.below DQ
      replace c4 := X4.cell
      replace AS := AS.below DQ
      replace hAS := Nat.le_trans hAS DQ.size
      replace y2 := y2.below DQ
      replace hy2 := Nat.le_trans hy2 DQ.size
      replace AA := AA.below DQ
      replace hAA := Nat.le_trans hAA DQ.size
      replace B := below_next B DQ
      clear DQ
      refine wp_region_held_drew (S := (fun w' => (∀ k : Nat, w'.cell? ⟨b0, k, none⟩ = [.int .i64 r.id, .int .i64 r.size, .int .i64 r.view, .bool r.normal, .int .i64 r.last, .slice h.L.1 h.L.2.1 h.L.2.2, .int .i64 r.commit, .slice h.O.1 h.O.2.1 h.O.2.2, .slice h.A.1 h.A.2.1 h.A.2.2, .slice h.D.1 h.D.2.1 h.D.2.2][k]?) ∧ (∀ k : Nat, w'.cell? ⟨b3, k, none⟩ = [.int .i64 r.id, .int .i64 r.size, .int .i64 r.view, .bool r.normal, .int .i64 r.last, .slice k2.L.1 k2.L.2.1 k2.L.2.2, .int .i64 r.commit, .slice k2.O.1 k2.O.2.1 k2.O.2.2, .slice k2.A.1 k2.A.2.1 k2.A.2.2, .slice k2.D.1 k2.D.2.1 k2.D.2.2][k]?))) (by kernel_rfl) ⟨c0, c3⟩ (fun hHeld => ?_)
      refine wpAnyH_take (i := 0) (v := ?_) rfl (by kernel_rfl) (by kernel_rfl) (by kernel_rfl) (fun _ _ _ h => h) (Or.inl ⟨by rfl, ?_⟩) hHeld ?_
      rotate_left 1
      · intro w hSw
        try dsimp only at hSw
        first | (go_simp; done) | (go_simp; with_reducible rfl)
      simp only [Act.put, List.setIfInBounds_toArray, List.set_cons_zero, List.set_cons_succ, List.getElem_toArray, List.getElem_cons_zero]
      refine wpAnyH_take (i := 1) (v := ?_) rfl (by kernel_rfl) (by kernel_rfl) (by kernel_rfl) (fun _ _ _ h => h) (Or.inl ⟨by rfl, ?_⟩) hHeld ?_
      rotate_left 1
      · intro w hSw
        try dsimp only at hSw
        first | (go_simp; done) | (go_simp; with_reducible rfl)
      simp only [Act.put, List.setIfInBounds_toArray, List.set_cons_zero, List.set_cons_succ, List.getElem_toArray, List.getElem_cons_zero, List.getElem_cons_succ]
      refine wpAnyH_ready (rs := [2]) (by kernel_rfl) (by simp) ?_
      refine AllReadyH.cons rfl (fun KK hKK => ?_) AllReadyH.nil
      go_simp
      go_at_call 28
      refine (toReplica_any r h _ (x.below B) HZ).mono ?_
      rintro e v1 ⟨k9, rfl, y9, z9, BB⟩
      replace X0 := X0.below BB
      replace c0 := X0.cell
      replace X1 := X1.below BB
      replace c1 := X1.cell
      replace X2 := X2.below BB
      replace c2 := X2.cell
      replace X3 := X3.below BB
      replace c3 := X3.cell
      replace f3 := X3.froz
      replace X4 := X4.below BB
      replace c4 := X4.cell
      replace AS := AS.below BB
      replace hAS := Nat.le_trans hAS BB.size
      replace y2 := y2.below BB
      replace hy2 := Nat.le_trans hy2 BB.size
      replace AA := AA.below BB
      replace hAA := Nat.le_trans hAA BB.size
      replace B := below_next B BB
      clear BB
      clear hHeld
      refine hKK _ _ ⟨c0, c3⟩ (fun hHeld => ?_)
      clear hKK KK
      refine wpAnyH_ready (rs := [3]) (by kernel_rfl) (by simp) ?_
      refine AllReadyH.cons rfl (fun KK hKK => ?_) AllReadyH.nil
      go_simp
      go_at_call 32
      refine (eqReplica_yes r k2 k9 _ y2 y9 (z2.mono (by omega))).mono ?_
      rintro e v2 ⟨rfl, BB⟩
      replace X0 := X0.below BB
      replace c0 := X0.cell
      replace X1 := X1.below BB
      replace c1 := X1.cell
      replace X2 := X2.below BB
      replace c2 := X2.cell
      replace X3 := X3.below BB
      replace c3 := X3.cell
      replace f3 := X3.froz
      replace X4 := X4.below BB
      replace c4 := X4.cell
      replace AS := AS.below BB
      replace hAS := Nat.le_trans hAS BB.size
      replace y2 := y2.below BB
      replace hy2 := Nat.le_trans hy2 BB.size
      replace AA := AA.below BB
      replace hAA := Nat.le_trans hAA BB.size
      replace B := below_next B BB
      clear BB
      clear hHeld
      refine hKK _ _ ⟨c0, c3⟩ (fun hHeld => ?_)
      clear hKK KK
      refine wpAnyH_take (i := 4) (v := ?_) rfl (by kernel_rfl) (by kernel_rfl) (by kernel_rfl) (fun _ _ _ h => h) (Or.inl ⟨by rfl, ?_⟩) hHeld ?_
      rotate_left 1
      · intro w hSw
        try dsimp only at hSw
        first | (go_simp; done) | (go_simp; with_reducible rfl)
      simp only [Act.put, List.setIfInBounds_toArray, List.set_cons_zero, List.set_cons_succ, List.getElem_toArray, List.getElem_cons_zero, List.getElem_cons_succ]
      refine wpAnyH_done (by kernel_rfl) ?_ _
      have nY : ¬ mkEnd k2 1 < 0 := by have := (mkEnd_in (k := 1) (by omega) z2).1; omega
      go_wp2_with fail
      have HIN : Hid (∀ q, inRep k2 q → zY ≤ q ∧ q < uY) := fun q hq => ⟨(y2.inB hq).1, (y2.inB hq).2.1⟩
      refine (markReplica_any r k2 1 _ y2 z2 (by omega)).mono ?_
      rintro e w7 ⟨rfl, _, KSY⟩
      have KK : Kept zY uY _ w7 := KSY.kept HIN.out
      clear KSY HIN
      replace X0 := X0.kept KK (by omega)
      replace c0 := X0.cell
      replace X1 := X1.kept KK (by omega)
      replace c1 := X1.cell
      replace X2 := X2.kept KK (by omega)
      replace c2 := X2.cell
      replace X3 := X3.kept KK (by omega)
      replace c3 := X3.cell
      replace f3 := X3.froz
      replace X4 := X4.kept KK (by omega)
      replace c4 := X4.cell
      replace AS := AS.kept KK (by omega)
      replace hAS := Nat.le_trans hAS KK.size
      replace hy2 := Nat.le_trans hy2 KK.size
      replace AA := AA.kept KK (by omega)
      replace hAA := Nat.le_trans hAA KK.size
      replace B := B.trans (KK.below _ (by omega) B.size)
      clear KK
      clear y2 hy2
      go_wp2_with fail
      refine (eqRR_yes c qr ms hA hS sA sS KA KS _ AA AS (ZA.mono (by omega))).mono ?_
      rintro e w8 ⟨rfl, BB⟩
      replace X0 := X0.below BB
      replace c0 := X0.cell
      replace X1 := X1.below BB
      replace c1 := X1.cell
      replace X2 := X2.below BB
      replace c2 := X2.cell
      replace X3 := X3.below BB
      replace c3 := X3.cell
      replace f3 := X3.froz
      replace X4 := X4.below BB
      replace c4 := X4.cell
      replace AS := AS.below BB
      replace hAS := Nat.le_trans hAS BB.size
      replace AA := AA.below BB
      replace hAA := Nat.le_trans hAA BB.size
      replace B := below_next B BB
      clear BB
      go_wp2_with fail
      refine (markRR_any c qr ms hA sA KA _ AA ZA).mono ?_
      rintro e w9 ⟨rfl, MA, KK⟩
      replace X0 := X0.kept KK (by omega)
      replace c0 := X0.cell
      replace X1 := X1.kept KK (by omega)
      replace c1 := X1.cell
      replace X2 := X2.kept KK (by omega)
      replace c2 := X2.cell
      replace X3 := X3.kept KK (by omega)
      replace c3 := X3.cell
      replace f3 := X3.froz
      replace X4 := X4.kept KK (by omega)
      replace c4 := X4.cell
      replace AS := AS.kept KK (by omega)
      replace hAS := Nat.le_trans hAS KK.size
      replace hAA := Nat.le_trans hAA KK.size
      replace B := B.trans (KK.below _ (by omega) B.size)
      clear KK
      have hMA := hAA
      clear AA hAA
      have nR : ¬ rrEnd hA sA KA < 0 := by have h1 := (mkEnd_in (k := 1) (by omega) ZA.rep).1; have h2 := kE_ge (t := 14) (by omega) KA (mkEnd hA 1) sA.2.1; unfold rrEnd; omega
      have nE : (rrEnd hA sA KA != rrEnd hA sA KA) = false := by simp
      go_wp2_with fail
      refine (heldRR_any c qr hA sA KA _ MA ZA).mono ?_
      rintro e w10 ⟨rfl, BB⟩
      replace X0 := X0.below BB
      replace c0 := X0.cell
      replace X1 := X1.below BB
      replace c1 := X1.cell
      replace X2 := X2.below BB
      replace c2 := X2.cell
      replace X3 := X3.below BB
      replace c3 := X3.cell
      replace f3 := X3.froz
      replace X4 := X4.below BB
      replace c4 := X4.cell
      replace AS := AS.below BB
      replace hAS := Nat.le_trans hAS BB.size
      replace MA := MA.below BB
      replace hMA := Nat.le_trans hMA BB.size
      replace B := below_next B BB
      clear BB
      go_wp2_with fail
      first | go_frame | skip
      go_cut [12] (fun y wx => ∃ xb : Nat, y = .pointer (some ⟨xb, 0, none⟩) ∧ RBox true w10 wx xb c qr ms)
      case first =>
        have BW : Below w10.heap.size w10 w10 := Below.refl _ _
        have DQ : Below w10.heap.size w10 w10.drew := (Below.refl _ _).drew
        replace X0 := X0.below DQ
        replace c0 := X0.cell
        replace X1 := X1.below DQ
        replace c1 := X1.cell
        replace X2 := X2.below DQ
        replace c2 := X2.cell
        replace X3 := X3.below DQ
        replace c3 := X3.cell
        replace f3 := X3.froz
        replace X4 := X4.below DQ
        replace c4 := X4.cell
        replace AS := AS.below DQ
        replace hAS := Nat.le_trans hAS DQ.size
        replace MA := MA.below DQ
        replace hMA := Nat.le_trans hMA DQ.size
        replace B := below_next B DQ
        replace BW := below_next BW DQ
        clear DQ
        refine wp_region_held_drew (S := (fun w' => (∀ k : Nat, w'.cell? ⟨b0, k, none⟩ = [.int .i64 r.id, .int .i64 r.size, .int .i64 r.view, .bool r.normal, .int .i64 r.last, .slice h.L.1 h.L.2.1 h.L.2.2, .int .i64 r.commit, .slice h.O.1 h.O.2.1 h.O.2.2, .slice h.A.1 h.A.2.1 h.A.2.2, .slice h.D.1 h.D.2.1 h.D.2.2][k]?) ∧ (∀ k : Nat, w'.cell? ⟨b1, k, none⟩ = [.int .i64 en.1, .int .i64 en.2.1, .int .i64 en.2.2.1, .int .i64 en.2.2.2.1, .int .i64 en.2.2.2.2.1, .int .i64 en.2.2.2.2.2][k]?))) (by kernel_rfl) ⟨c0, c1⟩ (fun hHeld => ?_)
        refine wpAnyH_take (i := 0) (v := ?_) rfl (by kernel_rfl) (by kernel_rfl) (by kernel_rfl) (fun _ _ _ h => h) (Or.inl ⟨by rfl, ?_⟩) hHeld ?_
        rotate_left 1
        · intro w hSw
          try dsimp only at hSw
          first | (go_simp; done) | (go_simp; with_reducible rfl)
        simp only [Act.put, List.setIfInBounds_toArray, List.set_cons_zero, List.set_cons_succ, List.getElem_toArray, List.getElem_cons_zero]
        refine wpAnyH_take (i := 2) (v := ?_) rfl (by kernel_rfl) (by kernel_rfl) (by kernel_rfl) (fun _ _ _ h => h) (Or.inl ⟨by rfl, ?_⟩) hHeld ?_
        rotate_left 1
        · intro w hSw
          try dsimp only at hSw
          first | (go_simp; done) | (go_simp; with_reducible rfl)
        simp only [Act.put, List.setIfInBounds_toArray, List.set_cons_zero, List.set_cons_succ, List.getElem_toArray, List.getElem_cons_zero, List.getElem_cons_succ]
        refine wpAnyH_ready (rs := [1, 5]) (by kernel_rfl) (by simp) ?_
        refine (AllReadyH.cons rfl (fun KK hKK => ?_) (AllReadyH.cons rfl (fun KK hKK => ?_) AllReadyH.nil))
        · go_simp
          go_at_call 28
          refine (toReplica_any r h _ (x.below B) HZ).mono ?_
          rintro e v1 ⟨k3, rfl, y3, z3, BB⟩
          replace X0 := X0.below BB
          replace c0 := X0.cell
          replace X1 := X1.below BB
          replace c1 := X1.cell
          replace X2 := X2.below BB
          replace c2 := X2.cell
          replace X3 := X3.below BB
          replace c3 := X3.cell
          replace f3 := X3.froz
          replace X4 := X4.below BB
          replace c4 := X4.cell
          replace AS := AS.below BB
          replace hAS := Nat.le_trans hAS BB.size
          replace MA := MA.below BB
          replace hMA := Nat.le_trans hMA BB.size
          replace B := below_next B BB
          replace BW := below_next BW BB
          clear BB
          clear hHeld
          refine hKK _ _ ⟨c0, c1⟩ (fun hHeld => ?_)
          clear hKK KK
          refine wpAnyH_ready (rs := [3, 5]) (by kernel_rfl) (by simp) ?_
          refine (AllReadyH.cons rfl (fun KK hKK => ?_) (AllReadyH.cons rfl (fun KK hKK => ?_) AllReadyH.nil))
          · go_simp
            go_at_call 29
            refine (toEntry_any en.1 en.2.1 en.2.2.1 en.2.2.2.1 en.2.2.2.2.1 en.2.2.2.2.2 _).mono ?_
            rintro e v2 ⟨rfl, BB⟩
            replace X0 := X0.below BB
            replace c0 := X0.cell
            replace X1 := X1.below BB
            replace c1 := X1.cell
            replace X2 := X2.below BB
            replace c2 := X2.cell
            replace X3 := X3.below BB
            replace c3 := X3.cell
            replace f3 := X3.froz
            replace X4 := X4.below BB
            replace c4 := X4.cell
            replace y3 := y3.below BB
            replace AS := AS.below BB
            replace hAS := Nat.le_trans hAS BB.size
            replace MA := MA.below BB
            replace hMA := Nat.le_trans hMA BB.size
            replace B := below_next B BB
            replace BW := below_next BW BB
            clear BB
            clear hHeld
            refine hKK _ _ ⟨c0, c1⟩ (fun hHeld => ?_)
            clear hKK KK
            refine wpAnyH_ready (rs := [4, 5]) (by kernel_rfl) (by simp) ?_
            refine (AllReadyH.cons rfl (fun KK hKK => ?_) (AllReadyH.cons rfl (fun KK hKK => ?_) AllReadyH.nil))
            · go_simp
              go_at_call 30
              refine (HI1.out k3 _ y3 z3).mono ?_
              rintro e v3 ⟨zC, uC, hC, sC, KC, rfl, GzC, hAC, AC, ZC, BB⟩
              have ozC : w.heap.size ≤ zC := Nat.le_trans B.size GzC
              have o0_zC : b0 < zC := Nat.lt_of_lt_of_le X0.lt GzC
              have o1_zC : b1 < zC := Nat.lt_of_lt_of_le X1.lt GzC
              have o2_zC : b2 < zC := Nat.lt_of_lt_of_le X2.lt GzC
              have o3_zC : b3 < zC := Nat.lt_of_lt_of_le X3.lt GzC
              have o4_zC : b4 < zC := Nat.lt_of_lt_of_le X4.lt GzC
              have oAS_zC : uS ≤ zC := Nat.le_trans hAS GzC
              have oMA_zC : uA ≤ zC := Nat.le_trans hMA GzC
              have BW_zC := Nat.le_trans BW.size GzC
              clear GzC
              replace X0 := X0.below BB
              replace c0 := X0.cell
              replace X1 := X1.below BB
              replace c1 := X1.cell
              replace X2 := X2.below BB
              replace c2 := X2.cell
              replace X3 := X3.below BB
              replace c3 := X3.cell
              replace f3 := X3.froz
              replace X4 := X4.below BB
              replace c4 := X4.cell
              replace AS := AS.below BB
              replace hAS := Nat.le_trans hAS BB.size
              replace MA := MA.below BB
              replace hMA := Nat.le_trans hMA BB.size
              replace B := below_next B BB
              replace BW := below_next BW BB
              clear BB
              clear y3 z3
              clear hHeld
              refine hKK _ _ ⟨c0, c1⟩ (fun hHeld => ?_)
              clear hKK KK
              refine wpAnyH_ready (rs := [5]) (by kernel_rfl) (by simp) ?_
              refine (AllReadyH.cons rfl (fun KK hKK => ?_) AllReadyH.nil)
              refine step_allocX 40 [.int .i64 0, .int .i64 0, .int .i64 0, .int .i64 0, .bool false, .int .i64 0, .slice none 0 0, .int .i64 0, .slice none 0 0, .slice none 0 0, .slice none 0 0, .slice none 0 0] (fun _ => by kernel_rfl) ?_
              intro b5 W5 N5
              have ob5 : w.heap.size ≤ b5 := Nat.le_trans B.size N5.ge
              have o0_b5 : b0 < b5 := Nat.lt_of_lt_of_le X0.lt N5.ge
              have o1_b5 : b1 < b5 := Nat.lt_of_lt_of_le X1.lt N5.ge
              have o2_b5 : b2 < b5 := Nat.lt_of_lt_of_le X2.lt N5.ge
              have o3_b5 : b3 < b5 := Nat.lt_of_lt_of_le X3.lt N5.ge
              have o4_b5 : b4 < b5 := Nat.lt_of_lt_of_le X4.lt N5.ge
              have oAS_b5 : uS ≤ b5 := Nat.le_trans hAS N5.ge
              have oMA_b5 : uA ≤ b5 := Nat.le_trans hMA N5.ge
              have oAC_b5 : uC ≤ b5 := Nat.le_trans hAC N5.ge
              have BW_b5 := Nat.le_trans BW.size N5.ge
              replace X0 := X0.below N5.below
              replace c0 := X0.cell
              replace X1 := X1.below N5.below
              replace c1 := X1.cell
              replace X2 := X2.below N5.below
              replace c2 := X2.cell
              replace X3 := X3.below N5.below
              replace c3 := X3.cell
              replace f3 := X3.froz
              replace X4 := X4.below N5.below
              replace c4 := X4.cell
              replace AS := AS.below N5.below
              replace hAS := Nat.le_trans hAS N5.below.size
              replace MA := MA.below N5.below
              replace hMA := Nat.le_trans hMA N5.below.size
              replace AC := AC.below N5.below
              replace hAC := Nat.le_trans hAC N5.below.size
              replace B := below_next B N5.below
              replace BW := below_next BW N5.below
              have X5 := N5.bx
              have c5 := X5.cell
              have f5 := X5.froz
              clear N5
              clear hHeld
              refine hKK _ _ ⟨c0, c1⟩ (fun hHeld => ?_)
              clear hKK KK
              refine wpAnyH_ready (rs := [6]) (by kernel_rfl) (by simp) ?_
              refine (AllReadyH.cons rfl (fun KK hKK => ?_) AllReadyH.nil)
              refine step_midX 40 X5 0 [.int .i64 c, .int .i64 qr.id, .int .i64 qr.size, .int .i64 qr.view, .bool qr.normal, .int .i64 qr.last, .slice hC.L.1 hC.L.2.1 hC.L.2.2, .int .i64 qr.commit, .slice hC.O.1 hC.O.2.1 hC.O.2.2, .slice hC.A.1 hC.A.2.1 hC.A.2.2, .slice hC.D.1 hC.D.2.1 hC.D.2.2, .slice sC.1 sC.2.1 sC.2.2] (by simp) (by kernel_rfl) (by simp [Value.oneCell']) rfl rfl ?_
              intro V2 S
              replace X0 := X0.kept S.kept (by omega)
              replace c0 := X0.cell
              replace X1 := X1.kept S.kept (by omega)
              replace c1 := X1.cell
              replace X2 := X2.kept S.kept (by omega)
              replace c2 := X2.cell
              replace X3 := X3.kept S.kept (by omega)
              replace c3 := X3.cell
              replace f3 := X3.froz
              replace X4 := X4.kept S.kept (by omega)
              replace c4 := X4.cell
              replace X5 : Bx V2 b5 [.int .i64 c, .int .i64 qr.id, .int .i64 qr.size, .int .i64 qr.view, .bool qr.normal, .int .i64 qr.last, .slice hC.L.1 hC.L.2.1 hC.L.2.2, .int .i64 qr.commit, .slice hC.O.1 hC.O.2.1 hC.O.2.2, .slice hC.A.1 hC.A.2.1 hC.A.2.2, .slice hC.D.1 hC.D.2.1 hC.D.2.2, .slice sC.1 sC.2.1 sC.2.2] := S.bx
              replace c5 := X5.cell
              replace f5 := X5.froz
              replace AS := AS.kept S.kept (by omega)
              replace hAS := Nat.le_trans hAS S.kept.size
              replace MA := MA.kept S.kept (by omega)
              replace hMA := Nat.le_trans hMA S.kept.size
              replace AC := AC.kept S.kept (by omega)
              replace hAC := Nat.le_trans hAC S.kept.size
              replace B := B.trans (S.kept.below _ (by omega) B.size)
              replace BW := BW.trans (S.kept.below _ (by omega) BW.size)
              clear S
              clear hHeld
              refine hKK _ _ ⟨c0, c1⟩ (fun hHeld => ?_)
              clear hKK KK
              refine wpAnyH_done (by kernel_rfl) ?_ _
              go_wp2_with fail
              go_meet
              exact ⟨b5, rfl, zC, uC, hC, sC, KC, X5, AC, ZC, by omega, hAC, by omega, by omega, BW⟩
            · refine step_allocX 40 [.int .i64 0, .int .i64 0, .int .i64 0, .int .i64 0, .bool false, .int .i64 0, .slice none 0 0, .int .i64 0, .slice none 0 0, .slice none 0 0, .slice none 0 0, .slice none 0 0] (fun _ => by kernel_rfl) ?_
              intro b5 W5 N5
              have ob5 : w.heap.size ≤ b5 := Nat.le_trans B.size N5.ge
              have o0_b5 : b0 < b5 := Nat.lt_of_lt_of_le X0.lt N5.ge
              have o1_b5 : b1 < b5 := Nat.lt_of_lt_of_le X1.lt N5.ge
              have o2_b5 : b2 < b5 := Nat.lt_of_lt_of_le X2.lt N5.ge
              have o3_b5 : b3 < b5 := Nat.lt_of_lt_of_le X3.lt N5.ge
              have o4_b5 : b4 < b5 := Nat.lt_of_lt_of_le X4.lt N5.ge
              have oAS_b5 : uS ≤ b5 := Nat.le_trans hAS N5.ge
              have oMA_b5 : uA ≤ b5 := Nat.le_trans hMA N5.ge
              have BW_b5 := Nat.le_trans BW.size N5.ge
              replace X0 := X0.below N5.below
              replace c0 := X0.cell
              replace X1 := X1.below N5.below
              replace c1 := X1.cell
              replace X2 := X2.below N5.below
              replace c2 := X2.cell
              replace X3 := X3.below N5.below
              replace c3 := X3.cell
              replace f3 := X3.froz
              replace X4 := X4.below N5.below
              replace c4 := X4.cell
              replace y3 := y3.below N5.below
              replace AS := AS.below N5.below
              replace hAS := Nat.le_trans hAS N5.below.size
              replace MA := MA.below N5.below
              replace hMA := Nat.le_trans hMA N5.below.size
              replace B := below_next B N5.below
              replace BW := below_next BW N5.below
              have X5 := N5.bx
              have c5 := X5.cell
              have f5 := X5.froz
              clear N5
              clear hHeld
              refine hKK _ _ ⟨c0, c1⟩ (fun hHeld => ?_)
              clear hKK KK
              refine wpAnyH_ready (rs := [4]) (by kernel_rfl) (by simp) ?_
              refine (AllReadyH.cons rfl (fun KK hKK => ?_) AllReadyH.nil)
              go_simp
              go_at_call 30
              refine (HI1.out k3 _ y3 z3).mono ?_
              rintro e v3 ⟨zC, uC, hC, sC, KC, rfl, GzC, hAC, AC, ZC, BB⟩
              have ozC : w.heap.size ≤ zC := Nat.le_trans B.size GzC
              have o0_zC : b0 < zC := Nat.lt_of_lt_of_le X0.lt GzC
              have o1_zC : b1 < zC := Nat.lt_of_lt_of_le X1.lt GzC
              have o2_zC : b2 < zC := Nat.lt_of_lt_of_le X2.lt GzC
              have o3_zC : b3 < zC := Nat.lt_of_lt_of_le X3.lt GzC
              have o4_zC : b4 < zC := Nat.lt_of_lt_of_le X4.lt GzC
              have o5_zC : b5 < zC := Nat.lt_of_lt_of_le X5.lt GzC
              have oAS_zC : uS ≤ zC := Nat.le_trans hAS GzC
              have oMA_zC : uA ≤ zC := Nat.le_trans hMA GzC
              have BW_zC := Nat.le_trans BW.size GzC
              clear GzC
              replace X0 := X0.below BB
              replace c0 := X0.cell
              replace X1 := X1.below BB
              replace c1 := X1.cell
              replace X2 := X2.below BB
              replace c2 := X2.cell
              replace X3 := X3.below BB
              replace c3 := X3.cell
              replace f3 := X3.froz
              replace X4 := X4.below BB
              replace c4 := X4.cell
              replace X5 := X5.below BB
              replace c5 := X5.cell
              replace f5 := X5.froz
              replace AS := AS.below BB
              replace hAS := Nat.le_trans hAS BB.size
              replace MA := MA.below BB
              replace hMA := Nat.le_trans hMA BB.size
              replace B := below_next B BB
              replace BW := below_next BW BB
              clear BB
              clear y3 z3
              clear hHeld
              refine hKK _ _ ⟨c0, c1⟩ (fun hHeld => ?_)
              clear hKK KK
              refine wpAnyH_ready (rs := [6]) (by kernel_rfl) (by simp) ?_
              refine (AllReadyH.cons rfl (fun KK hKK => ?_) AllReadyH.nil)
              refine step_midX 40 X5 0 [.int .i64 c, .int .i64 qr.id, .int .i64 qr.size, .int .i64 qr.view, .bool qr.normal, .int .i64 qr.last, .slice hC.L.1 hC.L.2.1 hC.L.2.2, .int .i64 qr.commit, .slice hC.O.1 hC.O.2.1 hC.O.2.2, .slice hC.A.1 hC.A.2.1 hC.A.2.2, .slice hC.D.1 hC.D.2.1 hC.D.2.2, .slice sC.1 sC.2.1 sC.2.2] (by simp) (by kernel_rfl) (by simp [Value.oneCell']) rfl rfl ?_
              intro V2 S
              replace X0 := X0.kept S.kept (by omega)
              replace c0 := X0.cell
              replace X1 := X1.kept S.kept (by omega)
              replace c1 := X1.cell
              replace X2 := X2.kept S.kept (by omega)
              replace c2 := X2.cell
              replace X3 := X3.kept S.kept (by omega)
              replace c3 := X3.cell
              replace f3 := X3.froz
              replace X4 := X4.kept S.kept (by omega)
              replace c4 := X4.cell
              replace X5 : Bx V2 b5 [.int .i64 c, .int .i64 qr.id, .int .i64 qr.size, .int .i64 qr.view, .bool qr.normal, .int .i64 qr.last, .slice hC.L.1 hC.L.2.1 hC.L.2.2, .int .i64 qr.commit, .slice hC.O.1 hC.O.2.1 hC.O.2.2, .slice hC.A.1 hC.A.2.1 hC.A.2.2, .slice hC.D.1 hC.D.2.1 hC.D.2.2, .slice sC.1 sC.2.1 sC.2.2] := S.bx
              replace c5 := X5.cell
              replace f5 := X5.froz
              replace AS := AS.kept S.kept (by omega)
              replace hAS := Nat.le_trans hAS S.kept.size
              replace MA := MA.kept S.kept (by omega)
              replace hMA := Nat.le_trans hMA S.kept.size
              replace AC := AC.kept S.kept (by omega)
              replace hAC := Nat.le_trans hAC S.kept.size
              replace B := B.trans (S.kept.below _ (by omega) B.size)
              replace BW := BW.trans (S.kept.below _ (by omega) BW.size)
              clear S
              clear hHeld
              refine hKK _ _ ⟨c0, c1⟩ (fun hHeld => ?_)
              clear hKK KK
              refine wpAnyH_done (by kernel_rfl) ?_ _
              go_wp2_with fail
              go_meet
              exact ⟨b5, rfl, zC, uC, hC, sC, KC, X5, AC, ZC, by omega, hAC, by omega, by omega, BW⟩
          · refine step_allocX 40 [.int .i64 0, .int .i64 0, .int .i64 0, .int .i64 0, .bool false, .int .i64 0, .slice none 0 0, .int .i64 0, .slice none 0 0, .slice none 0 0, .slice none 0 0, .slice none 0 0] (fun _ => by kernel_rfl) ?_
            intro b5 W5 N5
            have ob5 : w.heap.size ≤ b5 := Nat.le_trans B.size N5.ge
            have o0_b5 : b0 < b5 := Nat.lt_of_lt_of_le X0.lt N5.ge
            have o1_b5 : b1 < b5 := Nat.lt_of_lt_of_le X1.lt N5.ge
            have o2_b5 : b2 < b5 := Nat.lt_of_lt_of_le X2.lt N5.ge
            have o3_b5 : b3 < b5 := Nat.lt_of_lt_of_le X3.lt N5.ge
            have o4_b5 : b4 < b5 := Nat.lt_of_lt_of_le X4.lt N5.ge
            have oAS_b5 : uS ≤ b5 := Nat.le_trans hAS N5.ge
            have oMA_b5 : uA ≤ b5 := Nat.le_trans hMA N5.ge
            have BW_b5 := Nat.le_trans BW.size N5.ge
            replace X0 := X0.below N5.below
            replace c0 := X0.cell
            replace X1 := X1.below N5.below
            replace c1 := X1.cell
            replace X2 := X2.below N5.below
            replace c2 := X2.cell
            replace X3 := X3.below N5.below
            replace c3 := X3.cell
            replace f3 := X3.froz
            replace X4 := X4.below N5.below
            replace c4 := X4.cell
            replace y3 := y3.below N5.below
            replace AS := AS.below N5.below
            replace hAS := Nat.le_trans hAS N5.below.size
            replace MA := MA.below N5.below
            replace hMA := Nat.le_trans hMA N5.below.size
            replace B := below_next B N5.below
            replace BW := below_next BW N5.below
            have X5 := N5.bx
            have c5 := X5.cell
            have f5 := X5.froz
            clear N5
            clear hHeld
            refine hKK _ _ ⟨c0, c1⟩ (fun hHeld => ?_)
            clear hKK KK
            refine wpAnyH_ready (rs := [3]) (by kernel_rfl) (by simp) ?_
            refine (AllReadyH.cons rfl (fun KK hKK => ?_) AllReadyH.nil)
            go_simp
            go_at_call 29
            refine (toEntry_any en.1 en.2.1 en.2.2.1 en.2.2.2.1 en.2.2.2.2.1 en.2.2.2.2.2 _).mono ?_
            rintro e v2 ⟨rfl, BB⟩
            replace X0 := X0.below BB
            replace c0 := X0.cell
            replace X1 := X1.below BB
            replace c1 := X1.cell
            replace X2 := X2.below BB
            replace c2 := X2.cell
            replace X3 := X3.below BB
            replace c3 := X3.cell
            replace f3 := X3.froz
            replace X4 := X4.below BB
            replace c4 := X4.cell
            replace X5 := X5.below BB
            replace c5 := X5.cell
            replace f5 := X5.froz
            replace y3 := y3.below BB
            replace AS := AS.below BB
            replace hAS := Nat.le_trans hAS BB.size
            replace MA := MA.below BB
            replace hMA := Nat.le_trans hMA BB.size
            replace B := below_next B BB
            replace BW := below_next BW BB
            clear BB
            clear hHeld
            refine hKK _ _ ⟨c0, c1⟩ (fun hHeld => ?_)
            clear hKK KK
            refine wpAnyH_ready (rs := [4]) (by kernel_rfl) (by simp) ?_
            refine (AllReadyH.cons rfl (fun KK hKK => ?_) AllReadyH.nil)
            go_simp
            go_at_call 30
            refine (HI1.out k3 _ y3 z3).mono ?_
            rintro e v3 ⟨zC, uC, hC, sC, KC, rfl, GzC, hAC, AC, ZC, BB⟩
            have ozC : w.heap.size ≤ zC := Nat.le_trans B.size GzC
            have o0_zC : b0 < zC := Nat.lt_of_lt_of_le X0.lt GzC
            have o1_zC : b1 < zC := Nat.lt_of_lt_of_le X1.lt GzC
            have o2_zC : b2 < zC := Nat.lt_of_lt_of_le X2.lt GzC
            have o3_zC : b3 < zC := Nat.lt_of_lt_of_le X3.lt GzC
            have o4_zC : b4 < zC := Nat.lt_of_lt_of_le X4.lt GzC
            have o5_zC : b5 < zC := Nat.lt_of_lt_of_le X5.lt GzC
            have oAS_zC : uS ≤ zC := Nat.le_trans hAS GzC
            have oMA_zC : uA ≤ zC := Nat.le_trans hMA GzC
            have BW_zC := Nat.le_trans BW.size GzC
            clear GzC
            replace X0 := X0.below BB
            replace c0 := X0.cell
            replace X1 := X1.below BB
            replace c1 := X1.cell
            replace X2 := X2.below BB
            replace c2 := X2.cell
            replace X3 := X3.below BB
            replace c3 := X3.cell
            replace f3 := X3.froz
            replace X4 := X4.below BB
            replace c4 := X4.cell
            replace X5 := X5.below BB
            replace c5 := X5.cell
            replace f5 := X5.froz
            replace AS := AS.below BB
            replace hAS := Nat.le_trans hAS BB.size
            replace MA := MA.below BB
            replace hMA := Nat.le_trans hMA BB.size
            replace B := below_next B BB
            replace BW := below_next BW BB
            clear BB
            clear y3 z3
            clear hHeld
            refine hKK _ _ ⟨c0, c1⟩ (fun hHeld => ?_)
            clear hKK KK
            refine wpAnyH_ready (rs := [6]) (by kernel_rfl) (by simp) ?_
            refine (AllReadyH.cons rfl (fun KK hKK => ?_) AllReadyH.nil)
            refine step_midX 40 X5 0 [.int .i64 c, .int .i64 qr.id, .int .i64 qr.size, .int .i64 qr.view, .bool qr.normal, .int .i64 qr.last, .slice hC.L.1 hC.L.2.1 hC.L.2.2, .int .i64 qr.commit, .slice hC.O.1 hC.O.2.1 hC.O.2.2, .slice hC.A.1 hC.A.2.1 hC.A.2.2, .slice hC.D.1 hC.D.2.1 hC.D.2.2, .slice sC.1 sC.2.1 sC.2.2] (by simp) (by kernel_rfl) (by simp [Value.oneCell']) rfl rfl ?_
            intro V2 S
            replace X0 := X0.kept S.kept (by omega)
            replace c0 := X0.cell
            replace X1 := X1.kept S.kept (by omega)
            replace c1 := X1.cell
            replace X2 := X2.kept S.kept (by omega)
            replace c2 := X2.cell
            replace X3 := X3.kept S.kept (by omega)
            replace c3 := X3.cell
            replace f3 := X3.froz
            replace X4 := X4.kept S.kept (by omega)
            replace c4 := X4.cell
            replace X5 : Bx V2 b5 [.int .i64 c, .int .i64 qr.id, .int .i64 qr.size, .int .i64 qr.view, .bool qr.normal, .int .i64 qr.last, .slice hC.L.1 hC.L.2.1 hC.L.2.2, .int .i64 qr.commit, .slice hC.O.1 hC.O.2.1 hC.O.2.2, .slice hC.A.1 hC.A.2.1 hC.A.2.2, .slice hC.D.1 hC.D.2.1 hC.D.2.2, .slice sC.1 sC.2.1 sC.2.2] := S.bx
            replace c5 := X5.cell
            replace f5 := X5.froz
            replace AS := AS.kept S.kept (by omega)
            replace hAS := Nat.le_trans hAS S.kept.size
            replace MA := MA.kept S.kept (by omega)
            replace hMA := Nat.le_trans hMA S.kept.size
            replace AC := AC.kept S.kept (by omega)
            replace hAC := Nat.le_trans hAC S.kept.size
            replace B := B.trans (S.kept.below _ (by omega) B.size)
            replace BW := BW.trans (S.kept.below _ (by omega) BW.size)
            clear S
            clear hHeld
            refine hKK _ _ ⟨c0, c1⟩ (fun hHeld => ?_)
            clear hKK KK
            refine wpAnyH_done (by kernel_rfl) ?_ _
            go_wp2_with fail
            go_meet
            exact ⟨b5, rfl, zC, uC, hC, sC, KC, X5, AC, ZC, by omega, hAC, by omega, by omega, BW⟩
        · refine step_allocX 40 [.int .i64 0, .int .i64 0, .int .i64 0, .int .i64 0, .bool false, .int .i64 0, .slice none 0 0, .int .i64 0, .slice none 0 0, .slice none 0 0, .slice none 0 0, .slice none 0 0] (fun _ => by kernel_rfl) ?_
          intro b5 W5 N5
          have ob5 : w.heap.size ≤ b5 := Nat.le_trans B.size N5.ge
          have o0_b5 : b0 < b5 := Nat.lt_of_lt_of_le X0.lt N5.ge
          have o1_b5 : b1 < b5 := Nat.lt_of_lt_of_le X1.lt N5.ge
          have o2_b5 : b2 < b5 := Nat.lt_of_lt_of_le X2.lt N5.ge
          have o3_b5 : b3 < b5 := Nat.lt_of_lt_of_le X3.lt N5.ge
          have o4_b5 : b4 < b5 := Nat.lt_of_lt_of_le X4.lt N5.ge
          have oAS_b5 : uS ≤ b5 := Nat.le_trans hAS N5.ge
          have oMA_b5 : uA ≤ b5 := Nat.le_trans hMA N5.ge
          have BW_b5 := Nat.le_trans BW.size N5.ge
          replace X0 := X0.below N5.below
          replace c0 := X0.cell
          replace X1 := X1.below N5.below
          replace c1 := X1.cell
          replace X2 := X2.below N5.below
          replace c2 := X2.cell
          replace X3 := X3.below N5.below
          replace c3 := X3.cell
          replace f3 := X3.froz
          replace X4 := X4.below N5.below
          replace c4 := X4.cell
          replace AS := AS.below N5.below
          replace hAS := Nat.le_trans hAS N5.below.size
          replace MA := MA.below N5.below
          replace hMA := Nat.le_trans hMA N5.below.size
          replace B := below_next B N5.below
          replace BW := below_next BW N5.below
          have X5 := N5.bx
          have c5 := X5.cell
          have f5 := X5.froz
          clear N5
          clear hHeld
          refine hKK _ _ ⟨c0, c1⟩ (fun hHeld => ?_)
          clear hKK KK
          refine wpAnyH_ready (rs := [1]) (by kernel_rfl) (by simp) ?_
          refine (AllReadyH.cons rfl (fun KK hKK => ?_) AllReadyH.nil)
          go_simp
          go_at_call 28
          refine (toReplica_any r h _ (x.below B) HZ).mono ?_
          rintro e v1 ⟨k3, rfl, y3, z3, BB⟩
          replace X0 := X0.below BB
          replace c0 := X0.cell
          replace X1 := X1.below BB
          replace c1 := X1.cell
          replace X2 := X2.below BB
          replace c2 := X2.cell
          replace X3 := X3.below BB
          replace c3 := X3.cell
          replace f3 := X3.froz
          replace X4 := X4.below BB
          replace c4 := X4.cell
          replace X5 := X5.below BB
          replace c5 := X5.cell
          replace f5 := X5.froz
          replace AS := AS.below BB
          replace hAS := Nat.le_trans hAS BB.size
          replace MA := MA.below BB
          replace hMA := Nat.le_trans hMA BB.size
          replace B := below_next B BB
          replace BW := below_next BW BB
          clear BB
          clear hHeld
          refine hKK _ _ ⟨c0, c1⟩ (fun hHeld => ?_)
          clear hKK KK
          refine wpAnyH_ready (rs := [3]) (by kernel_rfl) (by simp) ?_
          refine (AllReadyH.cons rfl (fun KK hKK => ?_) AllReadyH.nil)
          go_simp
          go_at_call 29
          refine (toEntry_any en.1 en.2.1 en.2.2.1 en.2.2.2.1 en.2.2.2.2.1 en.2.2.2.2.2 _).mono ?_
          rintro e v2 ⟨rfl, BB⟩
          replace X0 := X0.below BB
          replace c0 := X0.cell
          replace X1 := X1.below BB
          replace c1 := X1.cell
          replace X2 := X2.below BB
          replace c2 := X2.cell
          replace X3 := X3.below BB
          replace c3 := X3.cell
          replace f3 := X3.froz
          replace X4 := X4.below BB
          replace c4 := X4.cell
          replace X5 := X5.below BB
          replace c5 := X5.cell
          replace f5 := X5.froz
          replace y3 := y3.below BB
          replace AS := AS.below BB
          replace hAS := Nat.le_trans hAS BB.size
          replace MA := MA.below BB
          replace hMA := Nat.le_trans hMA BB.size
          replace B := below_next B BB
          replace BW := below_next BW BB
          clear BB
          clear hHeld
          refine hKK _ _ ⟨c0, c1⟩ (fun hHeld => ?_)
          clear hKK KK
          refine wpAnyH_ready (rs := [4]) (by kernel_rfl) (by simp) ?_
          refine (AllReadyH.cons rfl (fun KK hKK => ?_) AllReadyH.nil)
          go_simp
          go_at_call 30
          refine (HI1.out k3 _ y3 z3).mono ?_
          rintro e v3 ⟨zC, uC, hC, sC, KC, rfl, GzC, hAC, AC, ZC, BB⟩
          have ozC : w.heap.size ≤ zC := Nat.le_trans B.size GzC
          have o0_zC : b0 < zC := Nat.lt_of_lt_of_le X0.lt GzC
          have o1_zC : b1 < zC := Nat.lt_of_lt_of_le X1.lt GzC
          have o2_zC : b2 < zC := Nat.lt_of_lt_of_le X2.lt GzC
          have o3_zC : b3 < zC := Nat.lt_of_lt_of_le X3.lt GzC
          have o4_zC : b4 < zC := Nat.lt_of_lt_of_le X4.lt GzC
          have o5_zC : b5 < zC := Nat.lt_of_lt_of_le X5.lt GzC
          have oAS_zC : uS ≤ zC := Nat.le_trans hAS GzC
          have oMA_zC : uA ≤ zC := Nat.le_trans hMA GzC
          have BW_zC := Nat.le_trans BW.size GzC
          clear GzC
          replace X0 := X0.below BB
          replace c0 := X0.cell
          replace X1 := X1.below BB
          replace c1 := X1.cell
          replace X2 := X2.below BB
          replace c2 := X2.cell
          replace X3 := X3.below BB
          replace c3 := X3.cell
          replace f3 := X3.froz
          replace X4 := X4.below BB
          replace c4 := X4.cell
          replace X5 := X5.below BB
          replace c5 := X5.cell
          replace f5 := X5.froz
          replace AS := AS.below BB
          replace hAS := Nat.le_trans hAS BB.size
          replace MA := MA.below BB
          replace hMA := Nat.le_trans hMA BB.size
          replace B := below_next B BB
          replace BW := below_next BW BB
          clear BB
          clear y3 z3
          clear hHeld
          refine hKK _ _ ⟨c0, c1⟩ (fun hHeld => ?_)
          clear hKK KK
          refine wpAnyH_ready (rs := [6]) (by kernel_rfl) (by simp) ?_
          refine (AllReadyH.cons rfl (fun KK hKK => ?_) AllReadyH.nil)
          refine step_midX 40 X5 0 [.int .i64 c, .int .i64 qr.id, .int .i64 qr.size, .int .i64 qr.view, .bool qr.normal, .int .i64 qr.last, .slice hC.L.1 hC.L.2.1 hC.L.2.2, .int .i64 qr.commit, .slice hC.O.1 hC.O.2.1 hC.O.2.2, .slice hC.A.1 hC.A.2.1 hC.A.2.2, .slice hC.D.1 hC.D.2.1 hC.D.2.2, .slice sC.1 sC.2.1 sC.2.2] (by simp) (by kernel_rfl) (by simp [Value.oneCell']) rfl rfl ?_
          intro V2 S
          replace X0 := X0.kept S.kept (by omega)
          replace c0 := X0.cell
          replace X1 := X1.kept S.kept (by omega)
          replace c1 := X1.cell
          replace X2 := X2.kept S.kept (by omega)
          replace c2 := X2.cell
          replace X3 := X3.kept S.kept (by omega)
          replace c3 := X3.cell
          replace f3 := X3.froz
          replace X4 := X4.kept S.kept (by omega)
          replace c4 := X4.cell
          replace X5 : Bx V2 b5 [.int .i64 c, .int .i64 qr.id, .int .i64 qr.size, .int .i64 qr.view, .bool qr.normal, .int .i64 qr.last, .slice hC.L.1 hC.L.2.1 hC.L.2.2, .int .i64 qr.commit, .slice hC.O.1 hC.O.2.1 hC.O.2.2, .slice hC.A.1 hC.A.2.1 hC.A.2.2, .slice hC.D.1 hC.D.2.1 hC.D.2.2, .slice sC.1 sC.2.1 sC.2.2] := S.bx
          replace c5 := X5.cell
          replace f5 := X5.froz
          replace AS := AS.kept S.kept (by omega)
          replace hAS := Nat.le_trans hAS S.kept.size
          replace MA := MA.kept S.kept (by omega)
          replace hMA := Nat.le_trans hMA S.kept.size
          replace AC := AC.kept S.kept (by omega)
          replace hAC := Nat.le_trans hAC S.kept.size
          replace B := B.trans (S.kept.below _ (by omega) B.size)
          replace BW := BW.trans (S.kept.below _ (by omega) BW.size)
          clear S
          clear hHeld
          refine hKK _ _ ⟨c0, c1⟩ (fun hHeld => ?_)
          clear hKK KK
          refine wpAnyH_done (by kernel_rfl) ?_ _
          go_wp2_with fail
          go_meet
          exact ⟨b5, rfl, zC, uC, hC, sC, KC, X5, AC, ZC, by omega, hAC, by omega, by omega, BW⟩
      case rest =>
        obtain ⟨b5, rfl, zC, uC, hC, sC, KC, XX, AC, ZC, Gz9, hAC, Gb9, sep5, BX⟩ := hcut
        rename World => wc24
        have hbx := BX.size
        have ob5 : w.heap.size ≤ b5 := Nat.le_trans B.size Gb9
        have o0_b5 : b0 < b5 := Nat.lt_of_lt_of_le X0.lt Gb9
        have o1_b5 : b1 < b5 := Nat.lt_of_lt_of_le X1.lt Gb9
        have o2_b5 : b2 < b5 := Nat.lt_of_lt_of_le X2.lt Gb9
        have o3_b5 : b3 < b5 := Nat.lt_of_lt_of_le X3.lt Gb9
        have o4_b5 : b4 < b5 := Nat.lt_of_lt_of_le X4.lt Gb9
        have oAS_b5 : uS ≤ b5 := Nat.le_trans hAS Gb9
        have oMA_b5 : uA ≤ b5 := Nat.le_trans hMA Gb9
        have ozC : w.heap.size ≤ zC := Nat.le_trans B.size Gz9
        have o0_zC : b0 < zC := Nat.lt_of_lt_of_le X0.lt Gz9
        have o1_zC : b1 < zC := Nat.lt_of_lt_of_le X1.lt Gz9
        have o2_zC : b2 < zC := Nat.lt_of_lt_of_le X2.lt Gz9
        have o3_zC : b3 < zC := Nat.lt_of_lt_of_le X3.lt Gz9
        have o4_zC : b4 < zC := Nat.lt_of_lt_of_le X4.lt Gz9
        have oAS_zC : uS ≤ zC := Nat.le_trans hAS Gz9
        have oMA_zC : uA ≤ zC := Nat.le_trans hMA Gz9
        replace X0 := X0.below BX
        replace c0 := X0.cell
        replace X1 := X1.below BX
        replace c1 := X1.cell
        replace X2 := X2.below BX
        replace c2 := X2.cell
        replace X3 := X3.below BX
        replace c3 := X3.cell
        replace f3 := X3.froz
        replace X4 := X4.below BX
        replace c4 := X4.cell
        replace AS := AS.below BX
        replace hAS := Nat.le_trans hAS BX.size
        replace MA := MA.below BX
        replace hMA := Nat.le_trans hMA BX.size
        replace B := below_next B BX
        have X5 := XX
        have c5 := X5.cell
        clear XX BX Gz9 Gb9
        go_wp2_with fail
        refine (eqRR_yes c qr ms hC hS sC sS KC KS _ AC AS (ZC.mono (by omega))).mono ?_
        rintro e w13 ⟨rfl, BB⟩
        replace X0 := X0.below BB
        replace c0 := X0.cell
        replace X1 := X1.below BB
        replace c1 := X1.cell
        replace X2 := X2.below BB
        replace c2 := X2.cell
        replace X3 := X3.below BB
        replace c3 := X3.cell
        replace f3 := X3.froz
        replace X4 := X4.below BB
        replace c4 := X4.cell
        replace X5 := X5.below BB
        replace c5 := X5.cell
        replace AS := AS.below BB
        replace hAS := Nat.le_trans hAS BB.size
        replace MA := MA.below BB
        replace hMA := Nat.le_trans hMA BB.size
        replace AC := AC.below BB
        replace hAC := Nat.le_trans hAC BB.size
        replace B := below_next B BB
        clear BB
        go_wp2_with fail
        refine (heldRR_any c qr hA sA KA _ MA ZA).mono ?_
        rintro e w14 ⟨rfl, BB⟩
        replace X0 := X0.below BB
        replace c0 := X0.cell
        replace X1 := X1.below BB
        replace c1 := X1.cell
        replace X2 := X2.below BB
        replace c2 := X2.cell
        replace X3 := X3.below BB
        replace c3 := X3.cell
        replace f3 := X3.froz
        replace X4 := X4.below BB
        replace c4 := X4.cell
        replace X5 := X5.below BB
        replace c5 := X5.cell
        replace AS := AS.below BB
        replace hAS := Nat.le_trans hAS BB.size
        replace MA := MA.below BB
        replace hMA := Nat.le_trans hMA BB.size
        replace AC := AC.below BB
        replace hAC := Nat.le_trans hAC BB.size
        replace B := below_next B BB
        clear BB
        go_wp2
        go_ret
        exact ⟨rfl, B⟩

open Go.ChangeShapes Go.WideShapes Go.ChangeAt Go.Joins

set_option maxRecDepth 100000 in
theorem liftedAskReplica (os : Os) (started : os.Started) (H : Type) (enc : TypeId × Value → H) :
    ReturnsInHanded {} Tryz.checked os 6 .any (Rows.fnExactAskReplicaSpec.pre6 enc Tryz.prog Tryz.f6 Rows.fnExactAskReplicaRow.domain false) (Rows.fnExactAskReplicaSpec.post enc Tryz.prog Tryz.f6 false true false false) := by
  refine returnsInHanded_of_change (C := Tryz.checked) Tryz.own started (by kernel_rfl) Tryz.func6
    (ChangeSpec.witness6 (enc := enc) (C := Tryz.checked) false ⟨#[], #[.agg #[.int .i64 0, .int .i64 0, .int .i64 0, .bool false, .int .i64 0, .slice none 0 0, .int .i64 0, .slice none 0 0, .slice none 0 0, .slice none 0 0], .agg #[.int .i64 0, .int .i64 0, .int .i64 0, .int .i64 0, .int .i64 0, .int .i64 0]], []⟩ 8 (by kernel_rfl) (by kernel_rfl) (by kernel_rfl) (by kernel_rfl)) ?_
  intro W base args ds gs before hval0 hW hcnd _
  have hval : ∀ (j : Nat) t v, Tryz.f6.params[j]? = some t → args[j]? = some v → Value.okWide Tryz.prog W .any base t v := hval0
  have hW' := hW
  obtain ⟨p, q, hA0, hV, rfl, hfz, hnd⟩ := hW
  have hA : DataW.TrodAll enc Tryz.prog W 0 (fun _ => true) true Tryz.f6.params.toList args.toList ds p := hA0
  rw [Tryz.params6] at hA hval
  obtain ⟨v0, vs0, d0, ds0, p0, q0, hargs, rfl, rfl, h0, r0⟩ := trodAll_cons hA
  obtain ⟨v1, vs1, d1, ds1, p1, q1, rfl, rfl, rfl, h1, r1⟩ := trodAll_cons r0
  obtain ⟨rfl, rfl, rfl⟩ := trodAll_nil r1
  obtain rfl : args = #[v0, v1] := by cases args; simp_all
  obtain ⟨rfl, rfl⟩ := trodVars_none hV
  have lt0 : ∀ x ∈ p0, x.block < W.heap.size := by obtain ⟨m, hm⟩ := h0; exact DataW.trod_lt m _ _ _ hm
  have k0 := h0
  obtain ⟨rr0, rh0, rfl, rz0, rx0⟩ := open_replica Tryz.repTy (hval 0 54 v0 rfl rfl) h0
  have lt1 : ∀ x ∈ p1, x.block < W.heap.size := by obtain ⟨m, hm⟩ := h1; exact DataW.trod_lt m _ _ _ hm
  have k1 := h1
  obtain ⟨ep, eq, ek, ev, ea, ex, rfl⟩ := open_entry Tryz.enTy (hval 1 57 v1 rfl rfl) h1
  clear hA0 hval0
  refine (lawAskReplica rr0 rh0 (ep, eq, ek, ev, ea, ex) W rx0 rz0).mono fun e W' ⟨he, bel⟩ => ?_
  subst he
  exact ⟨_, rfl, _, _, _, [], _, [], hW', trodAll_mk1 (shut_bool Tryz.underlying4 _), (trodAll_cons_mk (Below.trod Tryz.laidOut (by kernel_rfl) (of_decide_eq_true (by kernel_rfl)) k0 bel lt0) (trodAll_cons_mk (Below.trod Tryz.laidOut (by kernel_rfl) (of_decide_eq_true (by kernel_rfl)) k1 bel lt1) trodAll_mk0)), rfl, bel.frame _, fun h => by cases h⟩

set_option maxRecDepth 100000 in
set_option maxHeartbeats 0 in
theorem closedAskReplica : joinedFacts Tryz.prog 6 Tryz.f6 Rows.fnExactAskReplicaSpec Rows.fnExactAskReplicaRow = true := by
  have q1 : (Rows.fnExactAskReplicaRow.inPlace == Tryz.prog.inPlace 6) = true := by rw [inPlace_at leads_is inp_is]; kernel_rfl
  have q2 : (Rows.fnExactAskReplicaRow.unfollowed == Tryz.prog.unfollowed 6) = true := by rw [unfollowed_at leads_is unf_is]; kernel_rfl
  have q3 : (Rows.fnExactAskReplicaRow.recurses == Tryz.prog.recurses 6) = true := (by rw [recurses_unf leads_is (by rw [unfollowed_at leads_is unf_is]; kernel_rfl)]; rfl)
  have q4 : (Rows.fnExactAskReplicaRow.named == Tryz.prog.varsNamed 6) = true := by rw [varsNamed_at leads_is var_ok ent_is]; kernel_rfl
  have q5 : (Tryz.prog.make == some Rows.fnExactAskReplicaRow.make) = true := by rw [made_cut]; rfl
  have q6 : (Rows.fnExactAskReplicaRow.lifted == Tryz.prog.liftsFinal) = true := by rw [lifts_no]; rfl
  have q7 : Tryz.prog.mayEnter = true := may_enter
  have q8 : laidOutB Tryz.prog = true := Tryz.laidOut
  unfold joinedFacts
  repeat' (with_reducible refine Bool.and_eq_true_iff.2 ⟨?_, ?_⟩)
  all_goals (first | with_reducible exact q1 | with_reducible exact q2 | with_reducible exact q3 | with_reducible exact q4 | with_reducible exact q5 | with_reducible exact q6 | with_reducible exact q7 | with_reducible exact q8 | (as_aux_lemma => kernel_rfl))

theorem askReplica_holds : Rows.FnExactAskReplicaSaid :=
  OpenClaim.holds_of_wide 6 Tryz.f6 rfl rfl rfl rfl rfl rfl rfl ⟨rfl, rfl, rfl, rfl, rfl⟩ rfl rfl rfl rfl rfl (by as_aux_lemma => kernel_rfl) Tryz.func6 closedAskReplica
    (of_decide_eq_true (by as_aux_lemma => kernel_rfl)) (by unfold Func.isWrapper; first | (rw [if_pos (by decide +kernel)]; kernel_rfl) | (rw [if_neg (by decide +kernel)]; exact ⟨rfl, rfl⟩))
    (fun os started H enc _ => liftedAskReplica os started H enc)

#print axioms askReplica_holds

end Go.Proofs.YtcefhlkbbipmmaaGreat
