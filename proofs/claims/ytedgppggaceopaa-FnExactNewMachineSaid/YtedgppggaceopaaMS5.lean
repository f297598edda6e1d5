/- Chapter 12: the fault of a machine, of the model. -/
import Derived.Test.YtedgppggaceopaaMS3
import Derived.Test.YtedgppggaceopaaYP
import Derived.Test.YtedgppggaceopaaXA
import Derived.Test.YtedgppggaceopaaP1
namespace Go.Proofs.Ytedgppggaceopaa
open Go.RowKit

set_option maxRecDepth 20000 in
set_option maxHeartbeats 8000000 in
theorem l12Fault_is {own : Bool} {lo hi : Nat} (b0 : Nat) (h : MacH) (m : Mac) (w : World) (X0 : Bx w b0 [.slice h.N.1 h.N.2.1 h.N.2.2, .slice h.B.1 h.B.2.1 h.B.2.2, .slice h.V.1 h.V.2.1 h.V.2.2, .slice h.S.1 h.S.2.1 h.S.2.2]) (x : MacAt w own lo hi h m) (hs : MacSz h m.1 1048576) (d : Int) (hd : mcF m = d) :
    Calls Try.prog 24 #[.pointer (some ⟨b0, 0, none⟩)] w fun e w' => e = .returned (.int .i64 d) ∧ Below w.heap.size w w' := by
  obtain ⟨N, B0, V, ⟨sa, sn, sc⟩, K⟩ := h
  obtain ⟨f, vs, ss⟩ := m
  have hl : ss.length = sn := x.se.nFours
  have HX : Hid _ := x.se
  have HF : Hid _ := x.fo
  have HV : Hid _ := x.vo
  have HZ : Hid _ := hs
  have hsn : sn ≤ 1048576 := hs.s
  unfold mcF at hd
  simp only [hl] at hd
  have HD : Hid _ := hd
  have HL : Hid _ := hl
  have HB : Hid (Bx w b0 [.slice N.1 N.2.1 N.2.2, .slice B0.1 B0.2.1 B0.2.2, .slice V.1 V.2.1 V.2.2, .slice sa sn sc]) := X0
  clear x hs hd hl X0
  have X0 := HB.out
  have c0 := X0.cell
  obtain ⟨c, hc⟩ : ∃ c, poFault f vs = c := ⟨_, rfl⟩
  have HC : Hid _ := hc
  have HD2 := HD.out
  rw [hc] at HD2
  replace HD : Hid _ := HD2
  clear HD2 hc
  go_enter Try.func24, Try.ntmps24
  go_wp2_with fail
  refine (l5Fault_is b0 N.1 N.2.1 N.2.2 B0.1 B0.2.1 B0.2.2 V.1 V.2.1 V.2.2 K f vs _ HF.out HV.out (X0.cell 0) (X0.cell 1) (X0.cell 2) (Nat.le_trans HZ.out.n (by omega)) (Nat.le_trans HZ.out.b (by omega)) (fo_lensM HF.out (Nat.le_trans HZ.out.k (by omega))) (Nat.le_trans HZ.out.v (by omega)) c HC.out).mono ?_
  rintro e w1 ⟨rfl, hb⟩
  replace X0 := HB.out.below hb
  replace c0 := X0.cell
  by_cases q2 : c = 0
  rotate_left 1
  · have q2' : (c != 0) = true := by simp [q2]
    have e := HD.out
    rw [if_neg q2] at e
    subst e
    clear HD
    go_wp2
    go_ret
    exact ⟨rfl, hb⟩
  subst q2
  have HD2 := HD.out
  rw [if_pos rfl] at HD2
  replace HD : Hid _ := HD2
  clear HD2
  by_cases q3 : 40 < sn
  · have q3' : (40 : Int) < (sn : Int) := by omega
    have e := HD.out
    rw [if_pos q3] at e
    subst e
    clear HD
    go_wp2
    go_ret
    exact ⟨rfl, hb⟩
  have q3' : ¬ (40 : Int) < (sn : Int) := by omega
  have HD2 : sesFlt ss = d := by have := HD.out; rw [if_neg q3] at this; exact this
  unfold sesFlt at HD2
  rw [HL.out] at HD2
  replace HD : Hid _ := HD2
  clear HD2 q3
  have HB1 : Hid _ := hb
  go_wp2
  clear hb X0 c0
  go_loopw [4] (fun i wr => ∃ k : Nat, k ≤ sn ∧ i = .int .i64 k ∧ Hid (fstF (sesAt ss) k = 0) ∧ Below w.heap.size w wr) (fun i _ => sn - (intOf i).toNat)
  case atStart => exact ⟨0, Nat.zero_le _, rfl, rfl, HB1.out⟩
  case round =>
    obtain ⟨k, hk, rfl, H0, hb⟩ := hrel
    have X0 := HB.out.below hb
    have c0 := X0.cell
    by_cases hlt : k < sn
    · have hlk : (k : Int) < (sn : Int) := by omega
      obtain ⟨b, off, ea, _, _, hbs, e0, e1, e2, e3, _⟩ := (HX.out.below hb).four hlt
      subst ea
      have HE : Hid (sesAt ss k = sesOne (sesAhead ss k) (ss.getD k se0)) := rfl
      have HP : Hid (∀ j, k = j + 1 → wr.cell? ⟨b, off + j * 4, none⟩ = some (.int .i64 (sesAhead ss k))) := fun j hj => by
        obtain ⟨b', off', ea, _, _, _, z0, _⟩ := (HX.out.below hb).four (i := j) (by omega)
        simp only [Option.some.injEq, Addr.mk.injEq, and_true] at ea
        obtain ⟨rfl, rfl⟩ := ea
        rw [hj]
        exact z0
      have HP0 : Hid (k = 0 → sesAhead ss k = 0) := fun hj => by rw [hj]; rfl
      obtain ⟨a, ha⟩ : ∃ a, sesAhead ss k = a := ⟨_, rfl⟩
      obtain ⟨⟨p, q, r, v⟩, hs⟩ : ∃ s, ss.getD k se0 = s := ⟨_, rfl⟩
      rw [hs] at e0 e1 e2 e3 HE
      rw [ha] at HE HP HP0
      simp only at e0 e1 e2 e3
      have hbl : b < wr.heap.size := hbs
      clear hs ha
      have f0 := X0.froz
      have ob0 := X0.lt
      go_wp2_with (first | ((with_reducible refine store_midX 54 X1 0 [.int .i64 p, .int .i64 q, .int .i64 r, .int .i64 v] (by simp) (by kernel_rfl) (by simp [Value.oneCell']) rfl rfl ?_); intro V1 S; replace X0 := X0.kept S.kept (by omega); replace c0 := X0.cell; replace f0 := X0.froz; replace X1 : Bx V1 b1 [.int .i64 p, .int .i64 q, .int .i64 r, .int .i64 v] := S.bx; replace c1 := X1.cell; replace f1 := X1.froz; replace B := B.trans (S.kept.below _ (by omega) B.size); clear S) | ((have g := ob0); clear g; (with_reducible refine alloc_newX 54 [.int .i64 0, .int .i64 0, .int .i64 0, .int .i64 0] (fun _ => by kernel_rfl) ?_); intro b1 W1 N1; have ob1 : wr.heap.size ≤ b1 := N1.ge; have o0_b1 : b0 < b1 := Nat.lt_of_lt_of_le X0.lt N1.ge; replace X0 := X0.below N1.below; replace c0 := X0.cell; replace f0 := X0.froz; have B := N1.below; have X1 := N1.bx; have c1 := X1.cell; have f1 := X1.froz; clear N1) | fail)
      clear e0 e1 e2 e3
      by_cases y0 : 1 ≤ p ∧ p ≤ 99
      rotate_left 1
      · refine (l1In_is' p 1 99 _ false (by simp only [decide_eq_false_eq]; exact y0)).mono ?_
        rintro e1 W9 ⟨rfl, rfl⟩
        have hs : sesB (p, q, r, v) = false := decide_eq_false (fun z => y0 z.1)
        have e := fstF_stop HD.out H0.out hlt (HE.out.trans (sesOne_b hs)) (by decide)
        subst e
        have hbb := below_next hb B
        clear hb HD hs
        go_wp2
        go_ret
        exact ⟨rfl, hbb⟩
      by_cases y1 : 1 ≤ q ∧ q ≤ 999
      rotate_left 1
      · refine (l1In_is' p 1 99 _ true (by simp only [decide_eq_true_eq]; exact y0)).mono ?_
        rintro e1 W9 ⟨rfl, rfl⟩
        go_wp2_with fail
        refine (l1In_is' q 1 999 _ false (by simp only [decide_eq_false_eq]; exact y1)).mono ?_
        rintro e1 W9 ⟨rfl, rfl⟩
        have hs : sesB (p, q, r, v) = false := decide_eq_false (fun z => y1 z.2.1)
        have e := fstF_stop HD.out H0.out hlt (HE.out.trans (sesOne_b hs)) (by decide)
        subst e
        have hbb := below_next hb B
        clear hb HD hs
        go_wp2
        go_ret
        exact ⟨rfl, hbb⟩
      by_cases y2 : 0 ≤ r ∧ r ≤ 10
      rotate_left 1
      · refine (l1In_is' p 1 99 _ true (by simp only [decide_eq_true_eq]; exact y0)).mono ?_
        rintro e1 W9 ⟨rfl, rfl⟩
        go_wp2_with fail
        refine (l1In_is' q 1 999 _ true (by simp only [decide_eq_true_eq]; exact y1)).mono ?_
        rintro e1 W9 ⟨rfl, rfl⟩
        go_wp2_with fail
        refine (l1In_is' r 0 10 _ false (by simp only [decide_eq_false_eq]; exact y2)).mono ?_
        rintro e1 W9 ⟨rfl, rfl⟩
        have hs : sesB (p, q, r, v) = false := decide_eq_false (fun z => y2 z.2.2.1)
        have e := fstF_stop HD.out H0.out hlt (HE.out.trans (sesOne_b hs)) (by decide)
        subst e
        have hbb := below_next hb B
        clear hb HD hs
        go_wp2
        go_ret
        exact ⟨rfl, hbb⟩
      by_cases y3 : dataB v = true
      rotate_left 1
      · refine (l1In_is' p 1 99 _ true (by simp only [decide_eq_true_eq]; exact y0)).mono ?_
        rintro e1 W9 ⟨rfl, rfl⟩
        go_wp2_with fail
        refine (l1In_is' q 1 999 _ true (by simp only [decide_eq_true_eq]; exact y1)).mono ?_
        rintro e1 W9 ⟨rfl, rfl⟩
        go_wp2_with fail
        refine (l1In_is' r 0 10 _ true (by simp only [decide_eq_true_eq]; exact y2)).mono ?_
        rintro e1 W9 ⟨rfl, rfl⟩
        go_wp2_with fail
        refine (l3Data_is v _ false (by simpa using y3)).mono ?_
        rintro e1 W9 ⟨rfl, rfl⟩
        have hs : sesB (p, q, r, v) = false := decide_eq_false (fun z => y3 z.2.2.2)
        have e := fstF_stop HD.out H0.out hlt (HE.out.trans (sesOne_b hs)) (by decide)
        subst e
        have hbb := below_next hb B
        clear hb HD hs
        go_wp2
        go_ret
        exact ⟨rfl, hbb⟩
      refine (l1In_is' p 1 99 _ true (by simp only [decide_eq_true_eq]; exact y0)).mono ?_
      rintro e1 W9 ⟨rfl, rfl⟩
      go_wp2_with fail
      refine (l1In_is' q 1 999 _ true (by simp only [decide_eq_true_eq]; exact y1)).mono ?_
      rintro e1 W9 ⟨rfl, rfl⟩
      go_wp2_with fail
      refine (l1In_is' r 0 10 _ true (by simp only [decide_eq_true_eq]; exact y2)).mono ?_
      rintro e1 W9 ⟨rfl, rfl⟩
      go_wp2_with fail
      refine (l3Data_is v _ true (by exact y3)).mono ?_
      rintro e1 W9 ⟨rfl, rfl⟩
      have hs : sesB (p, q, r, v) = true := decide_eq_true ⟨y0, y1, y2, y3⟩
      have HS : Hid _ := hs
      clear hs y0 y1 y2 y3
      have hbb := below_next hb B
      clear hb
      go_wp2_with fail
      have DQ : Below W9.heap.size W9 W9.drew := (Below.refl _ _).drew
      have HK0 : Hid (Below wr.heap.size wr W9) := B
      replace X0 := X0.below DQ
      replace c0 := X0.cell
      replace f0 := X0.froz
      replace X1 := X1.below DQ
      replace c1 := X1.cell
      replace f1 := X1.froz
      replace B := below_next B DQ
      replace hbb := below_next hbb DQ
      clear DQ
      by_cases hk0 : k = 0
      · have ha0 := HP0.out hk0
        have y : ¬ p ≤ a := by have := (sesB_parts HS.out).1; simp only at this; omega
        clear HP HP0 ha0
        subst hk0
        refine wp_region_held_drew (S := (fun w' => (∀ k_2 : Nat, w'.cell? ⟨b0, k_2, none⟩ = [.slice N.1 N.2.1 N.2.2, .slice B0.1 B0.2.1 B0.2.2, .slice V.1 V.2.1 V.2.2, .slice (some ⟨b, off, none⟩) sn sc][k_2]?) ∧ (∀ k_2 : Nat, w'.cell? ⟨b1, k_2, none⟩ = [.int .i64 p, .int .i64 q, .int .i64 r, .int .i64 v][k_2]?))) (by kernel_rfl) ⟨c0, c1⟩ (fun hHeld => ?_)
        refine wpAnyH_take (i := 0) (v := ?_) rfl (by kernel_rfl) (by kernel_rfl) (by kernel_rfl) (fun _ _ _ h => h) (Or.inl ⟨by rfl, ?_⟩) hHeld ?_
        rotate_left 1
        · intro w hSw
          try dsimp only at hSw
          first | (go_simp; done) | (go_simp; with_reducible rfl)
        simp only [Act.put, List.setIfInBounds_toArray, List.set_cons_zero, List.set_cons_succ, List.getElem_toArray, List.getElem_cons_zero]
        refine wpAnyH_take (i := 1) (v := ?_) rfl (by kernel_rfl) (by kernel_rfl) (by kernel_rfl) (fun _ _ _ h => h) (Or.inl ⟨by rfl, ?_⟩) hHeld ?_
        rotate_left 1
        · intro w hSw
          try dsimp only at hSw
          first | (go_simp; done) | (go_simp; with_reducible rfl)
        simp only [Act.put, List.setIfInBounds_toArray, List.set_cons_zero, List.set_cons_succ, List.getElem_toArray, List.getElem_cons_zero, List.getElem_cons_succ]
        refine wpAnyH_take (i := 2) (v := ?_) rfl (by kernel_rfl) (by kernel_rfl) (by kernel_rfl) (fun _ _ _ h => h) (Or.inl ⟨by rfl, ?_⟩) hHeld ?_
        rotate_left 1
        · intro w hSw
          try dsimp only at hSw
          first | (go_simp; done) | (go_simp; with_reducible rfl)
        simp only [Act.put, List.setIfInBounds_toArray, List.set_cons_zero, List.set_cons_succ, List.getElem_toArray, List.getElem_cons_zero, List.getElem_cons_succ]
        refine wpAnyH_take (i := 3) (v := undef) rfl (by kernel_rfl) (by kernel_rfl) (by kernel_rfl) (fun _ _ _ h => h) (Or.inr ⟨by rfl, rfl⟩) hHeld ?_
        simp only [Act.put, List.setIfInBounds_toArray, List.set_cons_zero, List.set_cons_succ, List.getElem_toArray, List.getElem_cons_zero, List.getElem_cons_succ]
        refine wpAnyH_take (i := 4) (v := undef) rfl (by kernel_rfl) (by kernel_rfl) (by kernel_rfl) (fun _ _ _ h => h) (Or.inr ⟨by rfl, rfl⟩) hHeld ?_
        simp only [Act.put, List.setIfInBounds_toArray, List.set_cons_zero, List.set_cons_succ, List.getElem_toArray, List.getElem_cons_zero, List.getElem_cons_succ]
        refine wpAnyH_take (i := 5) (v := undef) rfl (by kernel_rfl) (by kernel_rfl) (by kernel_rfl) (fun _ _ _ h => h) (Or.inr ⟨by rfl, rfl⟩) hHeld ?_
        simp only [Act.put, List.setIfInBounds_toArray, List.set_cons_zero, List.set_cons_succ, List.getElem_toArray, List.getElem_cons_zero, List.getElem_cons_succ]
        refine wpAnyH_take (i := 6) (v := undef) rfl (by kernel_rfl) (by kernel_rfl) (by kernel_rfl) (fun _ _ _ h => h) (Or.inr ⟨by rfl, rfl⟩) hHeld ?_
        simp only [Act.put, List.setIfInBounds_toArray, List.set_cons_zero, List.set_cons_succ, List.getElem_toArray, List.getElem_cons_zero, List.getElem_cons_succ]
        refine wpAnyH_take (i := 7) (v := undef) rfl (by kernel_rfl) (by kernel_rfl) (by kernel_rfl) (fun _ _ _ h => h) (Or.inr ⟨by rfl, rfl⟩) hHeld ?_
        simp only [Act.put, List.setIfInBounds_toArray, List.set_cons_zero, List.set_cons_succ, List.getElem_toArray, List.getElem_cons_zero, List.getElem_cons_succ]
        refine wpAnyH_take (i := 8) (v := undef) rfl (by kernel_rfl) (by kernel_rfl) (by kernel_rfl) (fun _ _ _ h => h) (Or.inr ⟨by rfl, rfl⟩) hHeld ?_
        simp only [Act.put, List.setIfInBounds_toArray, List.set_cons_zero, List.set_cons_succ, List.getElem_toArray, List.getElem_cons_zero, List.getElem_cons_succ]
        refine wpAnyH_take (i := 9) (v := undef) rfl (by kernel_rfl) (by kernel_rfl) (by kernel_rfl) (fun _ _ _ h => h) (Or.inr ⟨by rfl, rfl⟩) hHeld ?_
        simp only [Act.put, List.setIfInBounds_toArray, List.set_cons_zero, List.set_cons_succ, List.getElem_toArray, List.getElem_cons_zero, List.getElem_cons_succ]
        refine wpAnyH_take (i := 10) (v := undef) rfl (by kernel_rfl) (by kernel_rfl) (by kernel_rfl) (fun _ _ _ h => h) (Or.inr ⟨by rfl, rfl⟩) hHeld ?_
        simp only [Act.put, List.setIfInBounds_toArray, List.set_cons_zero, List.set_cons_succ, List.getElem_toArray, List.getElem_cons_zero, List.getElem_cons_succ]
        refine wpAnyH_take (i := 11) (v := undef) rfl (by kernel_rfl) (by kernel_rfl) (by kernel_rfl) (fun _ _ _ h => h) (Or.inr ⟨by rfl, rfl⟩) hHeld ?_
        simp only [Act.put, List.setIfInBounds_toArray, List.set_cons_zero, List.set_cons_succ, List.getElem_toArray, List.getElem_cons_zero, List.getElem_cons_succ]
        refine wpAnyH_take (i := 12) (v := undef) rfl (by kernel_rfl) (by kernel_rfl) (by kernel_rfl) (fun _ _ _ h => h) (Or.inr ⟨by rfl, rfl⟩) hHeld ?_
        simp only [Act.put, List.setIfInBounds_toArray, List.set_cons_zero, List.set_cons_succ, List.getElem_toArray, List.getElem_cons_zero, List.getElem_cons_succ]
        refine wpAnyH_take (i := 13) (v := undef) rfl (by kernel_rfl) (by kernel_rfl) (by kernel_rfl) (fun _ _ _ h => h) (Or.inr ⟨by rfl, rfl⟩) hHeld ?_
        simp only [Act.put, List.setIfInBounds_toArray, List.set_cons_zero, List.set_cons_succ, List.getElem_toArray, List.getElem_cons_zero, List.getElem_cons_succ]
        refine wpAnyH_take (i := 14) (v := undef) rfl (by kernel_rfl) (by kernel_rfl) (by kernel_rfl) (fun _ _ _ h => h) (Or.inr ⟨by rfl, rfl⟩) hHeld ?_
        simp only [Act.put, List.setIfInBounds_toArray, List.set_cons_zero, List.set_cons_succ, List.getElem_toArray, List.getElem_cons_zero, List.getElem_cons_succ]
        refine wpAnyH_take (i := 15) (v := ?_) rfl (by kernel_rfl) (by kernel_rfl) (by kernel_rfl) (fun _ _ _ h => h) (Or.inl ⟨by rfl, ?_⟩) hHeld ?_
        rotate_left 1
        · intro w hSw
          try dsimp only at hSw
          first | (go_simp; done) | (go_simp; with_reducible rfl)
        simp only [Act.put, List.setIfInBounds_toArray, List.set_cons_zero, List.set_cons_succ, List.getElem_toArray, List.getElem_cons_zero, List.getElem_cons_succ]
        refine wpAnyH_done (by kernel_rfl) ?_ _
        have HN : Hid (fstF (sesAt ss) (0 + 1) = 0) := fstF_next H0.out (HE.out.trans (sesOne_ok HS.out y))
        have HB2 : Hid _ := hbb
        clear hbb
        go_wp2
        go_roundw
        case rel => exact ⟨0 + 1, by omega, by go_num, HN, HB2.out⟩
        case measure => simp [intOf]; omega
      · obtain ⟨j, hj⟩ : ∃ j, k = j + 1 := ⟨k - 1, by omega⟩
        have pc := HP.out j hj
        replace pc := cell_later HK0.out pc
        replace pc := cell_later (Below.drew (Below.refl _ _)) pc
        have hk1 : 0 < k := by omega
        have hw : IntKind.i64.wrap ((k : Int) - 1) = (j : Int) := by rw [wrapI_same _ (by omega)]; omega
        have hj1 : (j : Int) < (sn : Int) := by omega
        have HJ : Hid _ := hj
        clear HP HP0 hk0 hj
        by_cases y : p ≤ a
        · refine wp_region_held_drew (S := (fun w' => (∀ k_2 : Nat, w'.cell? ⟨b0, k_2, none⟩ = [.slice N.1 N.2.1 N.2.2, .slice B0.1 B0.2.1 B0.2.2, .slice V.1 V.2.1 V.2.2, .slice (some ⟨b, off, none⟩) sn sc][k_2]?) ∧ (∀ k_2 : Nat, w'.cell? ⟨b1, k_2, none⟩ = [.int .i64 p, .int .i64 q, .int .i64 r, .int .i64 v][k_2]?) ∧ w'.cell? ⟨b, off + j * 4, none⟩ = some (.int .i64 a))) (by kernel_rfl) ⟨c0, c1, pc⟩ (fun hHeld => ?_)
          refine wpAnyH_take (i := 0) (v := ?_) rfl (by kernel_rfl) (by kernel_rfl) (by kernel_rfl) (fun _ _ _ h => h) (Or.inl ⟨by rfl, ?_⟩) hHeld ?_
          rotate_left 1
          · intro w hSw
            try dsimp only at hSw
            first | (go_simp; done) | (go_simp; with_reducible rfl)
          simp only [Act.put, List.setIfInBounds_toArray, List.set_cons_zero, List.set_cons_succ, List.getElem_toArray, List.getElem_cons_zero]
          refine wpAnyH_take (i := 1) (v := ?_) rfl (by kernel_rfl) (by kernel_rfl) (by kernel_rfl) (fun _ _ _ h => h) (Or.inl ⟨by rfl, ?_⟩) hHeld ?_
          rotate_left 1
          · intro w hSw
            try dsimp only at hSw
            first | (go_simp; done) | (go_simp; with_reducible rfl)
          simp only [Act.put, List.setIfInBounds_toArray, List.set_cons_zero, List.set_cons_succ, List.getElem_toArray, List.getElem_cons_zero, List.getElem_cons_succ]
          refine wpAnyH_take (i := 2) (v := ?_) rfl (by kernel_rfl) (by kernel_rfl) (by kernel_rfl) (fun _ _ _ h => h) (Or.inl ⟨by rfl, ?_⟩) hHeld ?_
          rotate_left 1
          · intro w hSw
            try dsimp only at hSw
            first | (go_simp; done) | (go_simp; with_reducible rfl)
          simp only [Act.put, List.setIfInBounds_toArray, List.set_cons_zero, List.set_cons_succ, List.getElem_toArray, List.getElem_cons_zero, List.getElem_cons_succ]
          refine wpAnyH_take (i := 3) (v := ?_) rfl (by kernel_rfl) (by kernel_rfl) (by kernel_rfl) (fun _ _ _ h => h) (Or.inl ⟨by rfl, ?_⟩) hHeld ?_
          rotate_left 1
          · intro w hSw
            try dsimp only at hSw
            first | (go_simp; done) | (go_simp; with_reducible rfl)
          simp only [Act.put, List.setIfInBounds_toArray, List.set_cons_zero, List.set_cons_succ, List.getElem_toArray, List.getElem_cons_zero, List.getElem_cons_succ]
          refine wpAnyH_take (i := 4) (v := ?_) rfl (by kernel_rfl) (by kernel_rfl) (by kernel_rfl) (fun _ _ _ h => h) (Or.inl ⟨by rfl, ?_⟩) hHeld ?_
          rotate_left 1
          · intro w hSw
            try dsimp only at hSw
            first | (go_simp; done) | (go_simp; with_reducible rfl)
          simp only [Act.put, List.setIfInBounds_toArray, List.set_cons_zero, List.set_cons_succ, List.getElem_toArray, List.getElem_cons_zero, List.getElem_cons_succ]
          refine wpAnyH_take (i := 5) (v := ?_) rfl (by kernel_rfl) (by kernel_rfl) (by kernel_rfl) (fun _ _ _ h => h) (Or.inl ⟨by rfl, ?_⟩) hHeld ?_
          rotate_left 1
          · intro w hSw
            try dsimp only at hSw
            first | (go_simp; done) | (go_simp; with_reducible rfl)
          simp only [Act.put, List.setIfInBounds_toArray, List.set_cons_zero, List.set_cons_succ, List.getElem_toArray, List.getElem_cons_zero, List.getElem_cons_succ]
          refine wpAnyH_take (i := 6) (v := ?_) rfl (by kernel_rfl) (by kernel_rfl) (by kernel_rfl) (fun _ _ _ h => h) (Or.inl ⟨by rfl, ?_⟩) hHeld ?_
          rotate_left 1
          · intro w hSw
            try dsimp only at hSw
            first | (go_simp; done) | (go_simp; with_reducible rfl)
          simp only [Act.put, List.setIfInBounds_toArray, List.set_cons_zero, List.set_cons_succ, List.getElem_toArray, List.getElem_cons_zero, List.getElem_cons_succ]
          refine wpAnyH_take (i := 7) (v := ?_) rfl (by kernel_rfl) (by kernel_rfl) (by kernel_rfl) (fun _ _ _ h => h) (Or.inl ⟨by rfl, ?_⟩) hHeld ?_
          rotate_left 1
          · intro w hSw
            try dsimp only at hSw
            first | (go_simp; done) | (go_simp; with_reducible rfl)
          simp only [Act.put, List.setIfInBounds_toArray, List.set_cons_zero, List.set_cons_succ, List.getElem_toArray, List.getElem_cons_zero, List.getElem_cons_succ]
          refine wpAnyH_take (i := 8) (v := ?_) rfl (by kernel_rfl) (by kernel_rfl) (by kernel_rfl) (fun _ _ _ h => h) (Or.inl ⟨by rfl, ?_⟩) hHeld ?_
          rotate_left 1
          · intro w hSw
            try dsimp only at hSw
            first | (go_simp; done) | (go_simp; with_reducible rfl)
          simp only [Act.put, List.setIfInBounds_toArray, List.set_cons_zero, List.set_cons_succ, List.getElem_toArray, List.getElem_cons_zero, List.getElem_cons_succ]
          refine wpAnyH_take (i := 9) (v := ?_) rfl (by kernel_rfl) (by kernel_rfl) (by kernel_rfl) (fun _ _ _ h => h) (Or.inl ⟨by rfl, ?_⟩) hHeld ?_
          rotate_left 1
          · intro w hSw
            try dsimp only at hSw
            first | (go_simp; done) | (go_simp; with_reducible rfl)
          simp only [Act.put, List.setIfInBounds_toArray, List.set_cons_zero, List.set_cons_succ, List.getElem_toArray, List.getElem_cons_zero, List.getElem_cons_succ]
          refine wpAnyH_take (i := 10) (v := ?_) rfl (by kernel_rfl) (by kernel_rfl) (by kernel_rfl) (fun _ _ _ h => h) (Or.inl ⟨by rfl, ?_⟩) hHeld ?_
          rotate_left 1
          · intro w hSw
            try dsimp only at hSw
            first | (go_simp; done) | (go_simp; with_reducible rfl)
          simp only [Act.put, List.setIfInBounds_toArray, List.set_cons_zero, List.set_cons_succ, List.getElem_toArray, List.getElem_cons_zero, List.getElem_cons_succ]
          refine wpAnyH_take (i := 11) (v := ?_) rfl (by kernel_rfl) (by kernel_rfl) (by kernel_rfl) (fun _ _ _ h => h) (Or.inl ⟨by rfl, ?_⟩) hHeld ?_
          rotate_left 1
          · intro w hSw
            try dsimp only at hSw
            first | (go_simp; done) | (go_simp; with_reducible rfl)
          simp only [Act.put, List.setIfInBounds_toArray, List.set_cons_zero, List.set_cons_succ, List.getElem_toArray, List.getElem_cons_zero, List.getElem_cons_succ]
          refine wpAnyH_take (i := 12) (v := ?_) rfl (by kernel_rfl) (by kernel_rfl) (by kernel_rfl) (fun _ _ _ h => h) (Or.inl ⟨by rfl, ?_⟩) hHeld ?_
          rotate_left 1
          · intro w hSw
            try dsimp only at hSw
            first | (go_simp; done) | (go_simp; with_reducible rfl)
          simp only [Act.put, List.setIfInBounds_toArray, List.set_cons_zero, List.set_cons_succ, List.getElem_toArray, List.getElem_cons_zero, List.getElem_cons_succ]
          refine wpAnyH_take (i := 13) (v := ?_) rfl (by kernel_rfl) (by kernel_rfl) (by kernel_rfl) (fun _ _ _ h => h) (Or.inl ⟨by rfl, ?_⟩) hHeld ?_
          rotate_left 1
          · intro w hSw
            try dsimp only at hSw
            first | (go_simp; done) | (go_simp; with_reducible rfl)
          simp only [Act.put, List.setIfInBounds_toArray, List.set_cons_zero, List.set_cons_succ, List.getElem_toArray, List.getElem_cons_zero, List.getElem_cons_succ]
          refine wpAnyH_take (i := 14) (v := ?_) rfl (by kernel_rfl) (by kernel_rfl) (by kernel_rfl) (fun _ _ _ h => h) (Or.inl ⟨by rfl, ?_⟩) hHeld ?_
          rotate_left 1
          · intro w hSw
            try dsimp only at hSw
            first | (go_simp; done) | (go_simp; with_reducible rfl)
          simp only [Act.put, List.setIfInBounds_toArray, List.set_cons_zero, List.set_cons_succ, List.getElem_toArray, List.getElem_cons_zero, List.getElem_cons_succ]
          refine wpAnyH_take (i := 15) (v := ?_) rfl (by kernel_rfl) (by kernel_rfl) (by kernel_rfl) (fun _ _ _ h => h) (Or.inl ⟨by rfl, ?_⟩) hHeld ?_
          rotate_left 1
          · intro w hSw
            try dsimp only at hSw
            first | (go_simp; done) | (go_simp; with_reducible rfl)
          simp only [Act.put, List.setIfInBounds_toArray, List.set_cons_zero, List.set_cons_succ, List.getElem_toArray, List.getElem_cons_zero, List.getElem_cons_succ]
          refine wpAnyH_done (by kernel_rfl) ?_ _
          have e := fstF_stop HD.out H0.out hlt (HE.out.trans (sesOne_le HS.out y)) (by decide)
          subst e
          clear HD
          go_wp2
          go_ret
          exact ⟨rfl, hbb⟩
        · refine wp_region_held_drew (S := (fun w' => (∀ k_2 : Nat, w'.cell? ⟨b0, k_2, none⟩ = [.slice N.1 N.2.1 N.2.2, .slice B0.1 B0.2.1 B0.2.2, .slice V.1 V.2.1 V.2.2, .slice (some ⟨b, off, none⟩) sn sc][k_2]?) ∧ (∀ k_2 : Nat, w'.cell? ⟨b1, k_2, none⟩ = [.int .i64 p, .int .i64 q, .int .i64 r, .int .i64 v][k_2]?) ∧ w'.cell? ⟨b, off + j * 4, none⟩ = some (.int .i64 a))) (by kernel_rfl) ⟨c0, c1, pc⟩ (fun hHeld => ?_)
          refine wpAnyH_take (i := 0) (v := ?_) rfl (by kernel_rfl) (by kernel_rfl) (by kernel_rfl) (fun _ _ _ h => h) (Or.inl ⟨by rfl, ?_⟩) hHeld ?_
          rotate_left 1
          · intro w hSw
            try dsimp only at hSw
            first | (go_simp; done) | (go_simp; with_reducible rfl)
          simp only [Act.put, List.setIfInBounds_toArray, List.set_cons_zero, List.set_cons_succ, List.getElem_toArray, List.getElem_cons_zero]
          refine wpAnyH_take (i := 1) (v := ?_) rfl (by kernel_rfl) (by kernel_rfl) (by kernel_rfl) (fun _ _ _ h => h) (Or.inl ⟨by rfl, ?_⟩) hHeld ?_
          rotate_left 1
          · intro w hSw
            try dsimp only at hSw
            first | (go_simp; done) | (go_simp; with_reducible rfl)
          simp only [Act.put, List.setIfInBounds_toArray, List.set_cons_zero, List.set_cons_succ, List.getElem_toArray, List.getElem_cons_zero, List.getElem_cons_succ]
          refine wpAnyH_take (i := 2) (v := ?_) rfl (by kernel_rfl) (by kernel_rfl) (by kernel_rfl) (fun _ _ _ h => h) (Or.inl ⟨by rfl, ?_⟩) hHeld ?_
          rotate_left 1
          · intro w hSw
            try dsimp only at hSw
            first | (go_simp; done) | (go_simp; with_reducible rfl)
          simp only [Act.put, List.setIfInBounds_toArray, List.set_cons_zero, List.set_cons_succ, List.getElem_toArray, List.getElem_cons_zero, List.getElem_cons_succ]
          refine wpAnyH_take (i := 3) (v := ?_) rfl (by kernel_rfl) (by kernel_rfl) (by kernel_rfl) (fun _ _ _ h => h) (Or.inl ⟨by rfl, ?_⟩) hHeld ?_
          rotate_left 1
          · intro w hSw
            try dsimp only at hSw
            first | (go_simp; done) | (go_simp; with_reducible rfl)
          simp only [Act.put, List.setIfInBounds_toArray, List.set_cons_zero, List.set_cons_succ, List.getElem_toArray, List.getElem_cons_zero, List.getElem_cons_succ]
          refine wpAnyH_take (i := 4) (v := ?_) rfl (by kernel_rfl) (by kernel_rfl) (by kernel_rfl) (fun _ _ _ h => h) (Or.inl ⟨by rfl, ?_⟩) hHeld ?_
          rotate_left 1
          · intro w hSw
            try dsimp only at hSw
            first | (go_simp; done) | (go_simp; with_reducible rfl)
          simp only [Act.put, List.setIfInBounds_toArray, List.set_cons_zero, List.set_cons_succ, List.getElem_toArray, List.getElem_cons_zero, List.getElem_cons_succ]
          refine wpAnyH_take (i := 5) (v := ?_) rfl (by kernel_rfl) (by kernel_rfl) (by kernel_rfl) (fun _ _ _ h => h) (Or.inl ⟨by rfl, ?_⟩) hHeld ?_
          rotate_left 1
          · intro w hSw
            try dsimp only at hSw
            first | (go_simp; done) | (go_simp; with_reducible rfl)
          simp only [Act.put, List.setIfInBounds_toArray, List.set_cons_zero, List.set_cons_succ, List.getElem_toArray, List.getElem_cons_zero, List.getElem_cons_succ]
          refine wpAnyH_take (i := 6) (v := ?_) rfl (by kernel_rfl) (by kernel_rfl) (by kernel_rfl) (fun _ _ _ h => h) (Or.inl ⟨by rfl, ?_⟩) hHeld ?_
          rotate_left 1
          · intro w hSw
            try dsimp only at hSw
            first | (go_simp; done) | (go_simp; with_reducible rfl)
          simp only [Act.put, List.setIfInBounds_toArray, List.set_cons_zero, List.set_cons_succ, List.getElem_toArray, List.getElem_cons_zero, List.getElem_cons_succ]
          refine wpAnyH_take (i := 7) (v := ?_) rfl (by kernel_rfl) (by kernel_rfl) (by kernel_rfl) (fun _ _ _ h => h) (Or.inl ⟨by rfl, ?_⟩) hHeld ?_
          rotate_left 1
          · intro w hSw
            try dsimp only at hSw
            first | (go_simp; done) | (go_simp; with_reducible rfl)
          simp only [Act.put, List.setIfInBounds_toArray, List.set_cons_zero, List.set_cons_succ, List.getElem_toArray, List.getElem_cons_zero, List.getElem_cons_succ]
          refine wpAnyH_take (i := 8) (v := ?_) rfl (by kernel_rfl) (by kernel_rfl) (by kernel_rfl) (fun _ _ _ h => h) (Or.inl ⟨by rfl, ?_⟩) hHeld ?_
          rotate_left 1
          · intro w hSw
            try dsimp only at hSw
            first | (go_simp; done) | (go_simp; with_reducible rfl)
          simp only [Act.put, List.setIfInBounds_toArray, List.set_cons_zero, List.set_cons_succ, List.getElem_toArray, List.getElem_cons_zero, List.getElem_cons_succ]
          refine wpAnyH_take (i := 9) (v := ?_) rfl (by kernel_rfl) (by kernel_rfl) (by kernel_rfl) (fun _ _ _ h => h) (Or.inl ⟨by rfl, ?_⟩) hHeld ?_
          rotate_left 1
          · intro w hSw
            try dsimp only at hSw
            first | (go_simp; done) | (go_simp; with_reducible rfl)
          simp only [Act.put, List.setIfInBounds_toArray, List.set_cons_zero, List.set_cons_succ, List.getElem_toArray, List.getElem_cons_zero, List.getElem_cons_succ]
          refine wpAnyH_take (i := 10) (v := ?_) rfl (by kernel_rfl) (by kernel_rfl) (by kernel_rfl) (fun _ _ _ h => h) (Or.inl ⟨by rfl, ?_⟩) hHeld ?_
          rotate_left 1
          · intro w hSw
            try dsimp only at hSw
            first | (go_simp; done) | (go_simp; with_reducible rfl)
          simp only [Act.put, List.setIfInBounds_toArray, List.set_cons_zero, List.set_cons_succ, List.getElem_toArray, List.getElem_cons_zero, List.getElem_cons_succ]
          refine wpAnyH_take (i := 11) (v := ?_) rfl (by kernel_rfl) (by kernel_rfl) (by kernel_rfl) (fun _ _ _ h => h) (Or.inl ⟨by rfl, ?_⟩) hHeld ?_
          rotate_left 1
          · intro w hSw
            try dsimp only at hSw
            first | (go_simp; done) | (go_simp; with_reducible rfl)
          simp only [Act.put, List.setIfInBounds_toArray, List.set_cons_zero, List.set_cons_succ, List.getElem_toArray, List.getElem_cons_zero, List.getElem_cons_succ]
          refine wpAnyH_take (i := 12) (v := ?_) rfl (by kernel_rfl) (by kernel_rfl) (by kernel_rfl) (fun _ _ _ h => h) (Or.inl ⟨by rfl, ?_⟩) hHeld ?_
          rotate_left 1
          · intro w hSw
            try dsimp only at hSw
            first | (go_simp; done) | (go_simp; with_reducible rfl)
          simp only [Act.put, List.setIfInBounds_toArray, List.set_cons_zero, List.set_cons_succ, List.getElem_toArray, List.getElem_cons_zero, List.getElem_cons_succ]
          refine wpAnyH_take (i := 13) (v := ?_) rfl (by kernel_rfl) (by kernel_rfl) (by kernel_rfl) (fun _ _ _ h => h) (Or.inl ⟨by rfl, ?_⟩) hHeld ?_
          rotate_left 1
          · intro w hSw
            try dsimp only at hSw
            first | (go_simp; done) | (go_simp; with_reducible rfl)
          simp only [Act.put, List.setIfInBounds_toArray, List.set_cons_zero, List.set_cons_succ, List.getElem_toArray, List.getElem_cons_zero, List.getElem_cons_succ]
          refine wpAnyH_take (i := 14) (v := ?_) rfl (by kernel_rfl) (by kernel_rfl) (by kernel_rfl) (fun _ _ _ h => h) (Or.inl ⟨by rfl, ?_⟩) hHeld ?_
          rotate_left 1
          · intro w hSw
            try dsimp only at hSw
            first | (go_simp; done) | (go_simp; with_reducible rfl)
          simp only [Act.put, List.setIfInBounds_toArray, List.set_cons_zero, List.set_cons_succ, List.getElem_toArray, List.getElem_cons_zero, List.getElem_cons_succ]
          refine wpAnyH_take (i := 15) (v := ?_) rfl (by kernel_rfl) (by kernel_rfl) (by kernel_rfl) (fun _ _ _ h => h) (Or.inl ⟨by rfl, ?_⟩) hHeld ?_
          rotate_left 1
          · intro w hSw
            try dsimp only at hSw
            first | (go_simp; done) | (go_simp; with_reducible rfl)
          simp only [Act.put, List.setIfInBounds_toArray, List.set_cons_zero, List.set_cons_succ, List.getElem_toArray, List.getElem_cons_zero, List.getElem_cons_succ]
          refine wpAnyH_done (by kernel_rfl) ?_ _
          have HN : Hid (fstF (sesAt ss) (k + 1) = 0) := fstF_next H0.out (HE.out.trans (sesOne_ok HS.out y))
          have HB2 : Hid _ := hbb
          clear hbb
          go_wp2
          go_roundw
          case rel => exact ⟨k + 1, by omega, by go_num, HN, HB2.out⟩
          case measure => simp [intOf]; omega
    · obtain rfl : k = sn := by omega
      have e : d = 0 := by rw [← HD.out]; exact H0.out
      subst e
      clear HD
      go_wp2
      go_ret
      exact ⟨rfl, hb⟩
set_option maxRecDepth 20000 in
set_option maxHeartbeats 2000000 in
theorem specMcF_is {own : Bool} {lo hi : Nat} (h : MacH) (m : Mac) (w : World) (x : MacAt w own lo hi h m) (hs : MacSz h m.1 1048576) (d : Int) (hd : mcF m = d) :
    Calls Try.prog 8 #[.agg #[.slice h.N.1 h.N.2.1 h.N.2.2, .slice h.B.1 h.B.2.1 h.B.2.2, .slice h.V.1 h.V.2.1 h.V.2.2, .slice h.S.1 h.S.2.1 h.S.2.2]] w fun e w' => e = .returned (.int .i64 d) ∧ Below w.heap.size w w' := by
  go_enter Try.func8, Try.ntmps8
  go_wp2_with (first | ((with_reducible refine box_newX 43 [.slice h.N.1 h.N.2.1 h.N.2.2, .slice h.B.1 h.B.2.1 h.B.2.2, .slice h.V.1 h.V.2.1 h.V.2.2, .slice h.S.1 h.S.2.1 h.S.2.2] rfl ?_); intro b0 W0 N0; have ob0 : w.heap.size ≤ b0 := N0.ge; have B := N0.below; have X0 := N0.bx; have c0 := X0.cell; clear N0) | fail)
  refine (l12Fault_is b0 h m _ X0 (x.below B) hs d hd).mono ?_
  rintro e w1 ⟨rfl, BB⟩
  replace X0 := X0.below BB
  replace c0 := X0.cell
  replace B := below_next B BB
  clear BB
  go_wp2
  go_ret
  exact ⟨rfl, B⟩

end Go.Proofs.Ytedgppggaceopaa
