/- Chapter 12: the fault of a machine, of the program. -/
import Derived.Test.YtedgppggaceopaaMS3
import Derived.Test.YtedgppggaceopaaYP
import Derived.Test.YtedgppggaceopaaXA
import Derived.Test.YtedgppggaceopaaZQ
namespace Go.Proofs.Ytedgppggaceopaa
open Go.RowKit

theorem upTo_is (x n : Int) (w : World) (d : Bool) (h : decide (0 ≤ x ∧ x ≤ n) = d) : Calls Try.prog 56 #[.int .i64 x, .int .i64 n] w fun e w' => e = .returned (.bool d) ∧ w' = w := by
  by_cases h1 : 0 ≤ x
  · by_cases h2 : x ≤ n
    · have e : d = true := by rw [← h]; exact decide_eq_true ⟨h1, h2⟩
      subst e
      clear h
      go_enter Try.func56, Try.ntmps56
      go_wp2
      go_ret
      exact ⟨rfl, rfl⟩
    · have e : d = false := by rw [← h]; exact decide_eq_false (by omega)
      subst e
      clear h
      go_enter Try.func56, Try.ntmps56
      go_wp2
      go_ret
      exact ⟨rfl, rfl⟩
  · have e : d = false := by rw [← h]; exact decide_eq_false (by omega)
    subst e
    clear h
    go_enter Try.func56, Try.ntmps56
    go_wp2
    go_ret
    exact ⟨rfl, rfl⟩
set_option maxRecDepth 20000 in
set_option maxHeartbeats 2000000 in
theorem isSession_is (p q k v : Int) (w : World) (d : Bool) (hd : sesB (p, q, k, v) = d) : Calls Try.prog 28 #[.agg #[.int .i64 p, .int .i64 q, .int .i64 k, .int .i64 v]] w fun e w' => e = .returned (.bool d) ∧ Below w.heap.size w w' := by
  go_enter Try.func28, Try.ntmps28
  go_wp2_with (first | ((with_reducible refine box_newX 54 [.int .i64 p, .int .i64 q, .int .i64 k, .int .i64 v] rfl ?_); intro b0 W0 N0; have ob0 : w.heap.size ≤ b0 := N0.ge; have B := N0.below; have X0 := N0.bx; have c0 := X0.cell; clear N0) | fail)
  by_cases y0 : 1 ≤ p ∧ p ≤ 99
  rotate_left 1
  · refine (isClient_is p _ false (by simp only [decide_eq_false_eq]; exact y0)).mono ?_
    rintro e1 W9 ⟨rfl, rfl⟩
    have e : d = false := by rw [← hd]; exact decide_eq_false (fun z => y0 z.1)
    subst e
    clear hd
    go_wp2
    go_ret
    exact ⟨rfl, B⟩
  by_cases y1 : 1 ≤ q ∧ q ≤ 999
  rotate_left 1
  · refine (isClient_is p _ true (by simp only [decide_eq_true_eq]; exact y0)).mono ?_
    rintro e1 W9 ⟨rfl, rfl⟩
    go_wp2_with fail
    refine (isSeq_is q _ false (by simp only [decide_eq_false_eq]; exact y1)).mono ?_
    rintro e1 W9 ⟨rfl, rfl⟩
    have e : d = false := by rw [← hd]; exact decide_eq_false (fun z => y1 z.2.1)
    subst e
    clear hd
    go_wp2
    go_ret
    exact ⟨rfl, B⟩
  by_cases y2 : 0 ≤ k ∧ k ≤ 10
  rotate_left 1
  · refine (isClient_is p _ true (by simp only [decide_eq_true_eq]; exact y0)).mono ?_
    rintro e1 W9 ⟨rfl, rfl⟩
    go_wp2_with fail
    refine (isSeq_is q _ true (by simp only [decide_eq_true_eq]; exact y1)).mono ?_
    rintro e1 W9 ⟨rfl, rfl⟩
    go_wp2_with fail
    refine (upTo_is k 10 _ false (by simp only [decide_eq_false_eq]; exact y2)).mono ?_
    rintro e1 W9 ⟨rfl, rfl⟩
    have e : d = false := by rw [← hd]; exact decide_eq_false (fun z => y2 z.2.2.1)
    subst e
    clear hd
    go_wp2
    go_ret
    exact ⟨rfl, B⟩
  by_cases y3 : dataB v = true
  rotate_left 1
  · refine (isClient_is p _ true (by simp only [decide_eq_true_eq]; exact y0)).mono ?_
    rintro e1 W9 ⟨rfl, rfl⟩
    go_wp2_with fail
    refine (isSeq_is q _ true (by simp only [decide_eq_true_eq]; exact y1)).mono ?_
    rintro e1 W9 ⟨rfl, rfl⟩
    go_wp2_with fail
    refine (upTo_is k 10 _ true (by simp only [decide_eq_true_eq]; exact y2)).mono ?_
    rintro e1 W9 ⟨rfl, rfl⟩
    go_wp2_with fail
    refine (isData_is v _ false (by simpa using y3)).mono ?_
    rintro e1 W9 ⟨rfl, rfl⟩
    have e : d = false := by rw [← hd]; exact decide_eq_false (fun z => y3 z.2.2.2)
    subst e
    clear hd
    go_wp2
    go_ret
    exact ⟨rfl, B⟩
  refine (isClient_is p _ true (by simp only [decide_eq_true_eq]; exact y0)).mono ?_
  rintro e1 W9 ⟨rfl, rfl⟩
  go_wp2_with fail
  refine (isSeq_is q _ true (by simp only [decide_eq_true_eq]; exact y1)).mono ?_
  rintro e1 W9 ⟨rfl, rfl⟩
  go_wp2_with fail
  refine (upTo_is k 10 _ true (by simp only [decide_eq_true_eq]; exact y2)).mono ?_
  rintro e1 W9 ⟨rfl, rfl⟩
  go_wp2_with fail
  refine (isData_is v _ true (by exact y3)).mono ?_
  rintro e1 W9 ⟨rfl, rfl⟩
  have e : d = true := by rw [← hd]; exact decide_eq_true ⟨y0, y1, y2, y3⟩
  subst e
  clear hd
  go_wp2
  go_ret
  exact ⟨rfl, B⟩
set_option maxRecDepth 20000 in
set_option maxHeartbeats 4000000 in
theorem implMcF_is {own : Bool} {lo hi : Nat} (h : MacH) (m : Mac) (w : World) (x : MacAt w own lo hi h m) (hs : MacSz h m.1 1048576) (d : Int) (hd : mcF m = d) :
    Calls Try.prog 10 #[.agg #[.slice h.N.1 h.N.2.1 h.N.2.2, .slice h.B.1 h.B.2.1 h.B.2.2, .slice h.V.1 h.V.2.1 h.V.2.2, .slice h.S.1 h.S.2.1 h.S.2.2]] w fun e w' => e = .returned (.int .i64 d) ∧ Below w.heap.size w w' := by
  obtain ⟨N, B0, V, ⟨sa, sn, sc⟩, K⟩ := h
  obtain ⟨f, vs, ss⟩ := m
  have hl : ss.length = sn := x.se.nFours
  have HX : Hid _ := x.se
  have HF : Hid _ := x.fo
  have HV : Hid _ := x.vo
  have HZ : Hid _ := hs
  have hsn : sn ≤ 1048576 := hs.s
  unfold mcF at hd
  simp only [hl] at hd
  have HD : Hid _ := hd
  have HL : Hid _ := hl
  clear x hs hd hl
  go_enter Try.func10, Try.ntmps10
  go_wp2_with (first | ((with_reducible refine box_newX 43 [.slice N.1 N.2.1 N.2.2, .slice B0.1 B0.2.1 B0.2.2, .slice V.1 V.2.1 V.2.2, .slice sa sn sc] rfl ?_); intro b0 W0 N0; have ob0 : w.heap.size ≤ b0 := N0.ge; have B := N0.below; have X0 := N0.bx; have c0 := X0.cell; clear N0) | fail)
  obtain ⟨c, hc⟩ : ∃ c, poFault f vs = c := ⟨_, rfl⟩
  have HC : Hid _ := hc
  have HD2 := HD.out
  rw [hc] at HD2
  replace HD : Hid _ := HD2
  clear HD2 hc
  refine (implPF_is N.1 N.2.1 N.2.2 B0.1 B0.2.1 B0.2.2 V.1 V.2.1 V.2.2 K f vs _ (HF.out.below B) (HV.out.below B) (Nat.le_trans HZ.out.n (by omega)) (Nat.le_trans HZ.out.b (by omega)) (fo_lensM HF.out (Nat.le_trans HZ.out.k (by omega))) (Nat.le_trans HZ.out.v (by omega)) c HC.out).mono ?_
  rintro e w1 ⟨rfl, BB⟩
  replace X0 := X0.below BB
  replace c0 := X0.cell
  replace B := below_next B BB
  clear BB
  by_cases q2 : c = 0
  rotate_left 1
  · have q2' : (c != 0) = true := by simp [q2]
    have e := HD.out
    rw [if_neg q2] at e
    subst e
    clear HD
    go_wp2
    go_ret
    exact ⟨rfl, B⟩
  subst q2
  have HD2 := HD.out
  rw [if_pos rfl] at HD2
  replace HD : Hid _ := HD2
  clear HD2
  by_cases q3 : 40 < sn
  · have q3' : (40 : Int) < (sn : Int) := by omega
    have e := HD.out
    rw [if_pos q3] at e
    subst e
    clear HD
    go_wp2
    go_ret
    exact ⟨rfl, B⟩
  have q3' : ¬ (40 : Int) < (sn : Int) := by omega
  have HD2 : sesFlt ss = d := by have := HD.out; rw [if_neg q3] at this; exact this
  unfold sesFlt at HD2
  rw [HL.out] at HD2
  replace HD : Hid _ := HD2
  clear HD2 q3
  have HB1 : Hid _ := B
  go_wp2
  clear B
  go_loopw [4, 20] (fun a i wr => ∃ k : Nat, k ≤ sn ∧ i = .int .i64 k ∧ a = .int .i64 (sesAhead ss k) ∧ Hid (fstF (sesAt ss) k = 0) ∧ Below w.heap.size w wr) (fun _ i _ => sn - (intOf i).toNat)
  case atStart => exact ⟨0, Nat.zero_le _, rfl, rfl, rfl, HB1.out⟩
  case round =>
    obtain ⟨k, hk, rfl, rfl, H0, hb⟩ := hrel
    by_cases hlt : k < sn
    · have hlk : (k : Int) < (sn : Int) := by omega
      obtain ⟨b, off, ea, _, _, hbs, e0, e1, e2, e3, _⟩ := (HX.out.below hb).four hlt
      subst ea
      have HE : Hid (sesAt ss k = sesOne (sesAhead ss k) (ss.getD k se0)) := rfl
      have HN1 : Hid (sesAhead ss (k + 1) = (ss.getD k se0).1) := rfl
      obtain ⟨a, ha⟩ : ∃ a, sesAhead ss k = a := ⟨_, rfl⟩
      obtain ⟨⟨p, q, r, v⟩, hs⟩ : ∃ s, ss.getD k se0 = s := ⟨_, rfl⟩
      rw [hs] at e0 e1 e2 e3 HE HN1
      rw [ha] at HE
      simp only at e0 e1 e2 e3
      have HA : Hid _ := ha
      rw [ha]
      clear hs ha
      obtain ⟨bb, hbb⟩ : ∃ b, sesB (p, q, r, v) = b := ⟨_, rfl⟩
      have HBB : Hid _ := hbb
      clear hbb
      go_wp2_with (first | ((with_reducible refine store_midX 54 X0 0 [.int .i64 p, .int .i64 q, .int .i64 r, .int .i64 v] (by simp) (by kernel_rfl) (by simp [Value.oneCell']) rfl rfl ?_); intro V1 S; replace X0 : Bx V1 b0 [.int .i64 p, .int .i64 q, .int .i64 r, .int .i64 v] := S.bx; replace c0 := X0.cell; replace f0 := X0.froz; replace B := B.trans (S.kept.below _ (by omega) B.size); clear S) | ((with_reducible refine alloc_newX 54 [.int .i64 0, .int .i64 0, .int .i64 0, .int .i64 0] (fun _ => by kernel_rfl) ?_); intro b0 W0 N0; have ob0 : wr.heap.size ≤ b0 := N0.ge; have B := N0.below; have X0 := N0.bx; have c0 := X0.cell; have f0 := X0.froz; clear N0) | fail)
      clear e0 e1 e2 e3
      refine (isSession_is p q r v _ bb HBB.out).mono ?_
      rintro e w2 ⟨rfl, BB⟩
      replace X0 := X0.below BB
      replace c0 := X0.cell
      replace f0 := X0.froz
      replace B := below_next B BB
      clear BB
      cases bb with
      | false =>
        have e := fstF_stop HD.out H0.out hlt (HE.out.trans (sesOne_b HBB.out)) (by decide)
        subst e
        have hbb := below_next hb B
        clear hb HD
        go_wp2
        go_ret
        exact ⟨rfl, hbb⟩
      | true =>
        by_cases y : p ≤ a
        · have e := fstF_stop HD.out H0.out hlt (HE.out.trans (sesOne_le HBB.out y)) (by decide)
          subst e
          have hbb := below_next hb B
          clear hb HD
          go_wp2
          go_ret
          exact ⟨rfl, hbb⟩
        have HN : Hid (fstF (sesAt ss) (k + 1) = 0) := fstF_next H0.out (HE.out.trans (sesOne_ok HBB.out y))
        have HB : Hid _ := below_next hb B
        clear hb
        go_wp2
        go_roundw
        case rel => exact ⟨k + 1, by omega, by go_num, by rw [HN1.out], HN, HB.out⟩
        case measure => simp [intOf]; omega
    · obtain rfl : k = sn := by omega
      have e : d = 0 := by rw [← HD.out]; exact H0.out
      subst e
      clear HD
      go_wp2
      go_ret
      exact ⟨rfl, hb⟩

end Go.Proofs.Ytedgppggaceopaa
