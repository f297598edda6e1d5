/- Chapter 11: the fault of a cluster, of the model. -/
import Derived.Test.YtjefmhjlaibbkaaQAGR
import Derived.Test.YtjefmhjlaibbkaaQABR
import Derived.Test.YtjefmhjlaibbkaaCF0R
import Derived.Test.YtjefmhjlaibbkaaCCR
import Derived.Test.YtjefmhjlaibbkaaQAQR
import Derived.Test.YtjefmhjlaibbkaaQAFR
import Derived.Test.YtjefmhjlaibbkaaXAR
set_option maxRecDepth 20000
set_option maxHeartbeats 16000000
namespace Go.Proofs.Ytjefmhjlaibbkaa
open Go.RowKit
theorem fstF_stop_eq {f : Nat → Int} {k n : Nat} {c : Int} (h0 : fstF f k = 0) (hk : k < n) (hc : f k = c) (h1 : c ≠ 0) : fstF f n = c := fstF_stop rfl h0 hk hc h1
theorem l11Place_is (b0 : Nat) (na : Option Addr) (nn nc : Nat) (v1 v2 : Value) (v : Int) (w : World) (X0 : Bx w b0 [.slice na nn nc, v1, v2]) (hn : nn ≤ 1048576) (d : Bool) (hd : decide (0 ≤ v ∧ v ≤ (nn : Int) - 1) = d) :
  Calls Try.prog 71 #[.pointer (some ⟨b0, 0, none⟩), .int .i64 v] w fun e w' => e = .returned (.bool d) ∧ w' = w := by
 have hw : IntKind.i64.wrap ((nn : Int) - 1) = (nn : Int) - 1 := wrapI_same _ (by omega)
 have c0 := X0.cell
 go_enter Try.func71, Try.ntmps71
 go_wp2_with fail
 refine (l1In_is' v 0 ((nn : Int) - 1) _ d hd).mono ?_
 rintro e W9 ⟨rfl, rfl⟩
 go_wp2
 go_ret
 exact ⟨rfl, rfl⟩
theorem l11Fault_is {own : Bool} {lo hi : Nat} (b0 : Nat) (N M Sl : Hd) (xs : List Nod) (ms : List Mal) (es : List En) (w : World) (X0 : Bx w b0 [.slice N.1 N.2.1 N.2.2, .slice M.1 M.2.1 M.2.2, .slice Sl.1 Sl.2.1 Sl.2.2]) (x : ClAt w own lo hi N M Sl xs ms es) (hs : ClSz N M Sl xs ms 1048576) (d : Int) (hd : cluF (xs.map (·.1)) (ms.map (·.1)) es = d) :
  Calls Try.prog 34 #[.pointer (some ⟨b0, 0, none⟩)] w fun e w' => e = .returned (.int .i64 d) ∧ Below w.heap.size w w' := by
 have hl : (xs.map (·.1)).length = N.2.1 := by simpa using x.nodes.len
 have hl2 : (ms.map (·.1)).length = M.2.1 := by simpa using x.mails.len
 have HX : Hid (NAt w own lo hi N xs) := x.nodes
 have HY : Hid (MAt w own lo hi M ms) := x.mails
 have HG : Hid _ := x.slog
 have hn := hs.n
 have hm := hs.m
 have HS : Hid _ := hs.nodes
 unfold cluF nodesF mailsF at hd
 obtain ⟨rs, hrs⟩ : ∃ rs, xs.map (·.1) = rs := ⟨_, rfl⟩
 obtain ⟨ns, hns⟩ : ∃ ns, ms.map (·.1) = ns := ⟨_, rfl⟩
 have HR : Hid (∀ (i : Nat) (a : Nod), xs[i]? = some a → rs.getD i rep0 = a.1) := fun i a e => by rw [← hrs]; exact mapD e
 have HM : Hid (∀ (i : Nat) (a : Mal), ms[i]? = some a → ns.getD i ml0 = a.1) := fun i a e => by rw [← hns]; exact mapD e
 rw [hrs] at hd hl
 rw [hns] at hd hl2
 rw [hl, hl2] at hd
 obtain ⟨na, nn, nc⟩ := N
 obtain ⟨ma, mn, mc⟩ := M
 simp only at hl hl2 hd hn hm X0
 have HL : Hid _ := hl
 have HD : Hid _ := hd
 have HB : Hid (Bx w b0 [.slice na nn nc, .slice ma mn mc, .slice Sl.1 Sl.2.1 Sl.2.2]) := X0
 clear hs hd hrs hns hl hl2 x
 have c0 := X0.cell
 go_enter Try.func34, Try.ntmps34
 by_cases q0 : (1 ≤ (nn : Int) ∧ (nn : Int) ≤ 5) ∧ mn ≤ 120
 rotate_left 1
 ·have e := HD.out
  rw [if_neg q0] at e
  subst e
  clear HD
  by_cases q1 : (nn : Int) < 1
  ·go_wp2
   go_ret
   exact ⟨rfl, Below.refl _ _⟩
  ·by_cases q2 : (5 : Int) < (nn : Int)
   ·go_wp2
    go_ret
    exact ⟨rfl, Below.refl _ _⟩
   ·have q3 : (120 : Int) < (mn : Int) := by omega
    go_wp2
    go_ret
    exact ⟨rfl, Below.refl _ _⟩
 have q1 : ¬ (nn : Int) < 1 := by omega
 have q2 : ¬ (5 : Int) < (nn : Int) := by omega
 have q3 : ¬ (120 : Int) < (mn : Int) := by omega
 have HD2 := HD.out
 rw [if_pos q0] at HD2
 replace HD : Hid _ := HD2
 clear HD2 q0
 go_wp2_with fail
 clear c0 X0
 go_loopw [3] (fun i wr => ∃ k : Nat, k ≤ nn ∧ i = .int .i64 k ∧ Hid (fstF (nodeF rs) k = 0) ∧ Below w.heap.size w wr) (fun i _ => nn - (intOf i).toNat)
 case atStart => exact ⟨0, Nat.zero_le _, rfl, rfl, Below.refl _ _⟩
 case round =>
  obtain ⟨k, hk, rfl, H0, hb⟩ := hrel
  have X0 := HB.out.below hb
  have c0 := X0.cell
  by_cases hlt : k < nn
  ·have HD : Hid (∀ c : Int, fstF (nodeF rs) nn = c → c ≠ 0 → d = c) := fun c hc h1 => by have := HD.out; rw [hc, if_neg h1] at this; exact this.symm
   have hlk : (k : Int) < (nn : Int) := by omega
   obtain ⟨r, h, b, off, ex, rfl, _, _, XN, y, _⟩ := LAt.node (NAt.below HX.out hb) hlt
   have hmk := HS.out k _ ex
   have HE : Hid (rs.getD k rep0 = r) := HR.out k _ ex
   clear ex
   simp only at hmk
   obtain ⟨c, hc⟩ : ∃ c, repF r = c := ⟨_, rfl⟩
   have HC : Hid _ := hc
   clear hc
   go_wp2_with fail
   refine (l9FaultO_is b (off + k * 10) r h _ XN y (hmk.mono (by omega)) c HC.out).mono ?_
   rintro e w1 ⟨rfl, BB⟩
   replace XN := XN.below BB
   replace X0 := X0.below BB
   replace c0 := X0.cell
   replace hb := below_next hb BB
   clear BB y
   by_cases q4 : c = 0
   rotate_left 1
   ·have q4' : (c != 0) = true := by simp [q4]
    have e := HD.out _ (fstF_stop_eq H0.out hlt (nodeF_rep HE.out HC.out q4) q4) (by first | exact q4 | decide)
    subst e
    clear HD
    go_wp2
    go_ret
    exact ⟨rfl, hb⟩
   subst q4
   go_wp2_with fail
   have DQ : Below w1.heap.size w1 w1.drew := (Below.refl _ _).drew
   replace XN := XN.below DQ
   have cN := XN.cell
   replace X0 := X0.below DQ
   replace c0 := X0.cell
   replace hb := below_next hb DQ
   clear DQ
   by_cases q5 : r.id = k
   rotate_left 1
   ·have q5' : (r.id != (k : Int)) = true := by simp [q5]
    have e := HD.out _ (fstF_stop_eq H0.out hlt (nodeF_form HE.out HC.out (fun z => q5 z.1)) (by decide)) (by decide)
    subst e
    clear HD q5
    refine wp_region_held_drew (S := (fun w' => (∀ k_2 : Nat, w'.cell? ⟨b0, k_2, none⟩ = [.slice (some ⟨b, off, none⟩) nn nc, .slice ma mn mc, .slice Sl.1 Sl.2.1 Sl.2.2][k_2]?) ∧ (w'.cell? ⟨b, off + k * 10, none⟩ = [.int .i64 r.id, .int .i64 r.size, .int .i64 r.view, .bool r.normal, .int .i64 r.last, .slice h.L.1 h.L.2.1 h.L.2.2, .int .i64 r.commit, .slice h.O.1 h.O.2.1 h.O.2.2, .slice h.A.1 h.A.2.1 h.A.2.2, .slice h.D.1 h.D.2.1 h.D.2.2][0]? ∧ ∀ k_1 : Nat, k_1 < 10 → w'.cell? ⟨b, off + k * 10 + k_1, none⟩ = [.int .i64 r.id, .int .i64 r.size, .int .i64 r.view, .bool r.normal, .int .i64 r.last, .slice h.L.1 h.L.2.1 h.L.2.2, .int .i64 r.commit, .slice h.O.1 h.O.2.1 h.O.2.2, .slice h.A.1 h.A.2.1 h.A.2.2, .slice h.D.1 h.D.2.1 h.D.2.2][k_1]?))) (by kernel_rfl) ⟨c0, cN⟩ (fun hZq => ?_)
    refine tk 0 hZq ?_
    refine tk 1 hZq ?_
    refine tk 2 hZq ?_
    refine tk 3 hZq ?_
    refine tk 4 hZq ?_
    refine tk 5 hZq ?_
    refine tk 6 hZq ?_
    refine tk 7 hZq ?_
    refine tk 8 hZq ?_
    refine tk 9 hZq ?_
    refine tk 10 hZq ?_
    refine tks 11 hZq ?_
    refine tks 12 hZq ?_
    refine tks 13 hZq ?_
    refine tks 14 hZq ?_
    refine tks 15 hZq ?_
    refine tks 16 hZq ?_
    refine tks 17 hZq ?_
    refine tks 18 hZq ?_
    refine tks 19 hZq ?_
    refine tks 20 hZq ?_
    refine tks 21 hZq ?_
    refine tks 22 hZq ?_
    refine tks 23 hZq ?_
    refine tks 24 hZq ?_
    refine tk 25 hZq ?_
    refine wpAnyH_done (by kernel_rfl) ?_ _
    go_wp2
    go_ret
    exact ⟨rfl, hb⟩
   have q5' : (r.id != (k : Int)) = false := by simp [q5]
   have Q5 : Hid _ := q5
   clear q5
   by_cases q6 : r.size = nn
   rotate_left 1
   ·have q6' : (r.size != (nn : Int)) = true := by simp [q6]
    have e := HD.out _ (fstF_stop_eq H0.out hlt (nodeF_form HE.out HC.out (fun z => q6 (by rw [z.2, HL.out]))) (by decide)) (by decide)
    subst e
    clear HD q6
    refine wp_region_held_drew (S := (fun w' => (∀ k_2 : Nat, w'.cell? ⟨b0, k_2, none⟩ = [.slice (some ⟨b, off, none⟩) nn nc, .slice ma mn mc, .slice Sl.1 Sl.2.1 Sl.2.2][k_2]?) ∧ (w'.cell? ⟨b, off + k * 10, none⟩ = [.int .i64 r.id, .int .i64 r.size, .int .i64 r.view, .bool r.normal, .int .i64 r.last, .slice h.L.1 h.L.2.1 h.L.2.2, .int .i64 r.commit, .slice h.O.1 h.O.2.1 h.O.2.2, .slice h.A.1 h.A.2.1 h.A.2.2, .slice h.D.1 h.D.2.1 h.D.2.2][0]? ∧ ∀ k_1 : Nat, k_1 < 10 → w'.cell? ⟨b, off + k * 10 + k_1, none⟩ = [.int .i64 r.id, .int .i64 r.size, .int .i64 r.view, .bool r.normal, .int .i64 r.last, .slice h.L.1 h.L.2.1 h.L.2.2, .int .i64 r.commit, .slice h.O.1 h.O.2.1 h.O.2.2, .slice h.A.1 h.A.2.1 h.A.2.2, .slice h.D.1 h.D.2.1 h.D.2.2][k_1]?))) (by kernel_rfl) ⟨c0, cN⟩ (fun hZq => ?_)
    refine tk 0 hZq ?_
    refine tk 1 hZq ?_
    refine tk 2 hZq ?_
    refine tk 3 hZq ?_
    refine tk 4 hZq ?_
    refine tk 5 hZq ?_
    refine tk 6 hZq ?_
    refine tk 7 hZq ?_
    refine tk 8 hZq ?_
    refine tk 9 hZq ?_
    refine tk 10 hZq ?_
    refine tk 11 hZq ?_
    refine tk 12 hZq ?_
    refine tk 13 hZq ?_
    refine tk 14 hZq ?_
    refine tk 15 hZq ?_
    refine tk 16 hZq ?_
    refine tk 17 hZq ?_
    refine tk 18 hZq ?_
    refine tk 19 hZq ?_
    refine tk 20 hZq ?_
    refine tk 21 hZq ?_
    refine tk 22 hZq ?_
    refine tk 23 hZq ?_
    refine tk 24 hZq ?_
    refine tk 25 hZq ?_
    refine wpAnyH_done (by kernel_rfl) ?_ _
    go_wp2
    go_ret
    exact ⟨rfl, hb⟩
   have q6' : (r.size != (nn : Int)) = false := by simp [q6]
   have Q6 : Hid _ := q6
   clear q6
   refine wp_region_held_drew (S := (fun w' => (∀ k_2 : Nat, w'.cell? ⟨b0, k_2, none⟩ = [.slice (some ⟨b, off, none⟩) nn nc, .slice ma mn mc, .slice Sl.1 Sl.2.1 Sl.2.2][k_2]?) ∧ (w'.cell? ⟨b, off + k * 10, none⟩ = [.int .i64 r.id, .int .i64 r.size, .int .i64 r.view, .bool r.normal, .int .i64 r.last, .slice h.L.1 h.L.2.1 h.L.2.2, .int .i64 r.commit, .slice h.O.1 h.O.2.1 h.O.2.2, .slice h.A.1 h.A.2.1 h.A.2.2, .slice h.D.1 h.D.2.1 h.D.2.2][0]? ∧ ∀ k_1 : Nat, k_1 < 10 → w'.cell? ⟨b, off + k * 10 + k_1, none⟩ = [.int .i64 r.id, .int .i64 r.size, .int .i64 r.view, .bool r.normal, .int .i64 r.last, .slice h.L.1 h.L.2.1 h.L.2.2, .int .i64 r.commit, .slice h.O.1 h.O.2.1 h.O.2.2, .slice h.A.1 h.A.2.1 h.A.2.2, .slice h.D.1 h.D.2.1 h.D.2.2][k_1]?))) (by kernel_rfl) ⟨c0, cN⟩ (fun hZq => ?_)
   refine tk 0 hZq ?_
   refine tk 1 hZq ?_
   refine tk 2 hZq ?_
   refine tk 3 hZq ?_
   refine tk 4 hZq ?_
   refine tk 5 hZq ?_
   refine tk 6 hZq ?_
   refine tk 7 hZq ?_
   refine tk 8 hZq ?_
   refine tk 9 hZq ?_
   refine tk 10 hZq ?_
   refine tk 11 hZq ?_
   refine tk 12 hZq ?_
   refine tk 13 hZq ?_
   refine tk 14 hZq ?_
   refine tk 15 hZq ?_
   refine tk 16 hZq ?_
   refine tk 17 hZq ?_
   refine tk 18 hZq ?_
   refine tk 19 hZq ?_
   refine tk 20 hZq ?_
   refine tk 21 hZq ?_
   refine tk 22 hZq ?_
   refine tk 23 hZq ?_
   refine tk 24 hZq ?_
   refine tk 25 hZq ?_
   refine wpAnyH_done (by kernel_rfl) ?_ _
   have HN : Hid (fstF (nodeF rs) (k + 1) = 0) := fstF_next H0.out (nodeF_ok HE.out HC.out ⟨Q5.out, by rw [HL.out]; exact Q6.out⟩)
   have HBB : Hid _ := hb
   clear hb cN c0 XN X0
   go_wp2
   go_roundw
   case rel => exact ⟨k + 1, by omega, by go_num, HN, HBB.out⟩
   case measure => simp [intOf]; omega
  ·obtain rfl : k = nn := by omega
   have hr : nodesF rs = 0 := by unfold nodesF; rw [HL.out]; exact H0.out
   have HA : Hid (∀ i, i < k → 1 ≤ (rs.getD i rep0).size ∧ (rs.getD i rep0).size ≤ 5) := fun i hi => rep_size (nodesF_all hr i (by rw [HL.out]; exact hi)).1
   have HD2 := HD.out
   rw [if_pos H0.out] at HD2
   replace HD : Hid _ := HD2
   clear HD2 hr H0
   go_wp2_with fail
   clear c0 X0
   go_loopw [5] (fun i wr2 => ∃ p : Nat, p ≤ mn ∧ i = .int .i64 p ∧ Hid (fstF (fun i => mailIn rs (ns.getD i ml0)) p = 0) ∧ Below w.heap.size w wr2) (fun i _ => mn - (intOf i).toNat)
   case atStart => exact ⟨0, Nat.zero_le _, rfl, rfl, hb⟩
   case round =>
    clear hb
    obtain ⟨p, hp, rfl, H0, hb⟩ := hrel
    have X0 := HB.out.below hb
    have c0 := X0.cell
    by_cases hlt : p < mn
    ·have HD : Hid (∀ c : Int, fstF (fun i => mailIn rs (ns.getD i ml0)) mn = c → c ≠ 0 → d = c) := fun c hc h1 => by have := HD.out; rw [hc, if_neg h1] at this; exact this.symm
     have hlk : (p : Int) < (mn : Int) := by omega
     obtain ⟨m, h, b, off, ex, rfl, _, _, XM, y, _⟩ := LAt.mail (MAt.below HY.out hb) hlt
     have HE : Hid (ns.getD p ml0 = m) := HM.out p _ ex
     clear ex
     have HSt : Hid (∀ c : Int, mailIn rs m = c → c ≠ 0 → d = c) := fun c hc h1 => HD.out c (fstF_stop_eq H0.out hlt (by show mailIn rs (ns.getD p ml0) = c; rw [HE.out]; exact hc) h1) h1
     have HNx : Hid (mailIn rs m = 0 → fstF (fun i => mailIn rs (ns.getD i ml0)) (p + 1) = 0) := fun hc => fstF_next H0.out (by show mailIn rs (ns.getD p ml0) = 0; rw [HE.out]; exact hc)
     obtain ⟨kind, fr, tq, view, at_, has, en, last, log, commit⟩ := m
     simp only at XM y
     have cM := XM.cell
     clear HE
     go_wp2_with fail
     by_cases q4 : 0 ≤ tq ∧ tq ≤ (k : Int) - 1
     rotate_left 1
     ·have e := HSt.out 3 (by unfold mailIn; rw [HL.out]; exact if_neg q4) (by decide)
      subst e
      clear HD HSt HNx
      refine (l11Place_is b0 na k nc _ _ tq _ X0 hn false (by simp only [decide_eq_false_eq]; exact q4)).mono ?_
      rintro e W9 ⟨rfl, rfl⟩
      go_wp2
      go_ret
      exact ⟨rfl, hb⟩
     refine (l11Place_is b0 na k nc _ _ tq _ X0 hn true (by simp only [decide_eq_true_eq]; exact q4)).mono ?_
     rintro e W9 ⟨rfl, rfl⟩
     obtain ⟨j, hj⟩ : ∃ j : Nat, tq = (j : Int) := ⟨tq.toNat, by omega⟩
     have HQ : Hid (∀ c : Int, mailAtF (rs.getD j rep0) ⟨kind, fr, tq, view, at_, has, en, last, log, commit⟩ = c → mailIn rs ⟨kind, fr, tq, view, at_, has, en, last, log, commit⟩ = c) := fun c hc => by unfold mailIn; rw [HL.out, if_pos q4]; show mailAtF (rs.getD tq.toNat rep0) _ = c; rw [hj] at hc ⊢; exact hc
     have hjn : j < k := by omega
     subst hj
     clear q4
     obtain ⟨r, hN, b1, f1, ex1, rfl, _, _, XN, _, _⟩ := LAt.node (NAt.below HX.out hb) hjn
     have HJ := HR.out j _ ex1
     simp only at HJ
     have HSz := HA.out j hjn
     rw [HJ] at HQ HSz
     have HS5 : Hid _ := HSz
     clear HJ ex1 HSz
     obtain ⟨c, hc⟩ : ∃ c, mailAtF r ⟨kind, fr, (j : Int), view, at_, has, en, last, log, commit⟩ = c := ⟨_, rfl⟩
     have HC : Hid _ := hc
     have HCI : Hid _ := HQ.out c hc
     clear hc HQ
     have hjk : (j : Int) < (k : Int) := by omega
     have hj0 : (0 : Int) ≤ (j : Int) := by omega
     have cN := XN.cell
     go_wp2_with fail
     have DQ : Below W9.heap.size W9 W9.drew := (Below.refl _ _).drew
     replace XN := XN.below DQ
     replace XM := XM.below DQ
     replace X0 := X0.below DQ
     replace cN := XN.cell
     replace cM := XM.cell
     replace c0 := X0.cell
     replace y := y.below DQ
     replace hb := below_next hb DQ
     clear DQ
     refine wp_region_held_drew (S := (fun w' => (∀ k_2 : Nat, w'.cell? ⟨b0, k_2, none⟩ = [.slice (some ⟨b1, f1, none⟩) k nc, .slice (some ⟨b, off, none⟩) mn mc, .slice Sl.1 Sl.2.1 Sl.2.2][k_2]?) ∧ (w'.cell? ⟨b1, f1 + j * 10, none⟩ = [.int .i64 r.id, .int .i64 r.size, .int .i64 r.view, .bool r.normal, .int .i64 r.last, .slice hN.L.1 hN.L.2.1 hN.L.2.2, .int .i64 r.commit, .slice hN.O.1 hN.O.2.1 hN.O.2.2, .slice hN.A.1 hN.A.2.1 hN.A.2.2, .slice hN.D.1 hN.D.2.1 hN.D.2.2][0]? ∧ ∀ k_1 : Nat, k_1 < 10 → w'.cell? ⟨b1, f1 + j * 10 + k_1, none⟩ = [.int .i64 r.id, .int .i64 r.size, .int .i64 r.view, .bool r.normal, .int .i64 r.last, .slice hN.L.1 hN.L.2.1 hN.L.2.2, .int .i64 r.commit, .slice hN.O.1 hN.O.2.1 hN.O.2.2, .slice hN.A.1 hN.A.2.1 hN.A.2.2, .slice hN.D.1 hN.D.2.1 hN.D.2.2][k_1]?) ∧ (w'.cell? ⟨b, off + p * 15, none⟩ = [.int .i64 kind, .int .i64 fr, .int .i64 (j : Int), .int .i64 view, .int .i64 at_, .bool has, .int .i64 en.1, .int .i64 en.2.1, .int .i64 en.2.2.1, .int .i64 en.2.2.2.1, .int .i64 en.2.2.2.2.1, .int .i64 en.2.2.2.2.2, .int .i64 last, .slice h.1 h.2.1 h.2.2, .int .i64 commit][0]? ∧ ∀ k_1 : Nat, k_1 < 15 → w'.cell? ⟨b, off + p * 15 + k_1, none⟩ = [.int .i64 kind, .int .i64 fr, .int .i64 (j : Int), .int .i64 view, .int .i64 at_, .bool has, .int .i64 en.1, .int .i64 en.2.1, .int .i64 en.2.2.1, .int .i64 en.2.2.2.1, .int .i64 en.2.2.2.2.1, .int .i64 en.2.2.2.2.2, .int .i64 last, .slice h.1 h.2.1 h.2.2, .int .i64 commit][k_1]?))) (by kernel_rfl) ⟨c0, cN, cM⟩ (fun hZq => ?_)
     refine tk 0 hZq ?_
     refine tk 1 hZq ?_
     refine tk 2 hZq ?_
     refine tk 3 hZq ?_
     refine tk 4 hZq ?_
     refine tk 5 hZq ?_
     refine tk 6 hZq ?_
     refine tk 7 hZq ?_
     refine tk 8 hZq ?_
     refine tk 9 hZq ?_
     refine tk 10 hZq ?_
     refine tk 11 hZq ?_
     refine tk 12 hZq ?_
     refine tk 13 hZq ?_
     refine tk 14 hZq ?_
     refine tk 15 hZq ?_
     refine tk 16 hZq ?_
     refine tk 17 hZq ?_
     refine tk 18 hZq ?_
     refine tk 19 hZq ?_
     refine rd1 20 (fun KK hKK => ?_)
     go_simp
     go_at_call 72
     refine (l9MailO_is b1 (f1 + j * 10) r hN ⟨kind, fr, (j : Int), view, at_, has, en, last, log, commit⟩ h HS5.out _ XN y c HC.out).mono ?_
     rintro e w1 ⟨rfl, BB⟩
     replace XN := XN.below BB
     replace XM := XM.below BB
     replace X0 := X0.below BB
     replace cN := XN.cell
     replace cM := XM.cell
     replace c0 := X0.cell
     replace hb := below_next hb BB
     clear BB
     clear hZq
     refine hKK _ _ ⟨c0, cN, cM⟩ (fun hZq => ?_)
     clear hKK KK
     refine tk 21 hZq ?_
     refine wpAnyH_done (by kernel_rfl) ?_ _
     clear XN cN XM cM
     by_cases q5 : c = 0
     rotate_left 1
     ·have q5' : (c != 0) = true := by simp [q5]
      have e := HSt.out c HCI.out q5
      subst e
      clear HSt HNx HD
      go_wp2
      go_ret
      exact ⟨rfl, hb⟩
     subst q5
     have HN : Hid _ := HNx.out HCI.out
     have HBB : Hid _ := hb
     clear hb HNx HSt c0 X0
     go_wp2
     go_roundw
     case rel => exact ⟨p + 1, by omega, by go_num, HN, HBB.out⟩
     case measure => simp [intOf]; omega
    ·obtain rfl : p = mn := by omega
     have HD2 := HD.out
     rw [if_pos H0.out] at HD2
     replace HD : Hid _ := HD2
     clear HD2
     go_wp2_with fail
     refine (specLF_is Sl.1 Sl.2.1 Sl.2.2 es _ (HG.out.below hb) d HD.out).mono ?_
     rintro e w1 ⟨rfl, BB⟩
     replace hb := below_next hb BB
     go_wp2
     go_ret
     exact ⟨rfl, hb⟩
def rfL (rs : List Rep) : Nat → Nat
 | 0 => 0
 | k + 1 => max (rfL rs k) (rs.getD k rep0).log.length
def rfV (cd : Int) (rs : List Rep) : Int := if cd = 0 then 20 + 2 * (rfL rs rs.length : Int) else 0
theorem rfL_le {w : World} {own : Bool} {lo hi : Nat} {N : Hd} {xs : List Nod} {z : Nat} (x : NAt w own lo hi N xs) (hz : ∀ (i : Nat) (a : Nod), xs[i]? = some a → RSz a.2 z) : ∀ k, rfL (xs.map (·.1)) k ≤ z
 | 0 => Nat.zero_le _
 | k + 1 => by
  have ih := rfL_le x hz k
  rw [rfL]
  refine Nat.max_le.2 ⟨ih, ?_⟩
  by_cases hk : k < xs.length
  ·obtain ⟨a, ha⟩ : ∃ a, xs[k]? = some a := ⟨xs[k], by simp [hk]⟩
   rw [mapD ha]
   have hy := x.each k a ha
   have hl : a.1.log.length = a.2.L.2.1 := hy.log.nSixs
   rw [hl]; exact (hz k a ha).L
  ·rw [List.getD_eq_getElem?_getD, List.getElem?_eq_none (by simp; omega)]; exact Nat.zero_le _
theorem longest_is {own : Bool} {lo hi : Nat} (ao : Option Addr) (n cap : Nat) (xs : List Nod) (w : World) (x : NAt w own lo hi (ao, n, cap) xs) (hn : n ≤ 1048576) (hz : ∀ (i : Nat) (a : Nod), xs[i]? = some a → RSz a.2 1048576) (v : Nat) (hv : rfL (xs.map (·.1)) n = v) :
  Calls Try.prog 40 #[.slice ao n cap] w fun e w' => e = .returned (.int .i64 (v : Int)) ∧ Below w.heap.size w w' := by
 have Hx : Hid _ := x
 have HZ : Hid _ := hz
 obtain ⟨rs, hrs⟩ : ∃ rs, (xs.map (·.1)) = rs := ⟨_, rfl⟩
 have HR : Hid (∀ (i : Nat) (a : Nod), xs[i]? = some a → rs.getD i rep0 = a.1) := fun i a e => by rw [← hrs]; exact mapD e
 rw [hrs] at hv
 have HV : Hid _ := hv
 clear hv hrs hz x
 go_enter Try.func40, Try.ntmps40
 go_wp2_with fail
 go_loopw [3, 8] (fun a i wr => ∃ (k g : Nat), k ≤ n ∧ g ≤ 1048576 ∧ a = .int .i64 (g : Int) ∧ i = .int .i64 k ∧ Hid (rfL rs k = g) ∧ Below w.heap.size w wr) (fun _ i _ => n - (intOf i).toNat)
 case atStart => exact ⟨0, 0, Nat.zero_le _, Nat.zero_le _, rfl, rfl, rfl, Below.refl _ _⟩
 case round =>
  obtain ⟨k, g, hk, hg, rfl, rfl, H0, hb⟩ := hrel
  by_cases hlt : k < n
  ·have hlk : (k : Int) < (n : Int) := by omega
   obtain ⟨r, h, b, off, ex, rfl, _, _, XN, y, _⟩ := LAt.node (NAt.below (N := (ao, n, cap)) Hx.out hb) (i := k) (by show _ < n; omega)
   have cN := XN.cell
   have HN : Hid (rfL rs (k + 1) = max g h.L.2.1) := by show _ = _; unfold rfL; rw [H0.out, HR.out k _ ex, show r.log.length = h.L.2.1 from y.log.nSixs]
   have hL := (HZ.out k _ ex).L
   clear ex y
   simp only at hL
   go_wp2_with (first | ((with_reducible refine sm 29 X0 0 [.int .i64 r.id, .int .i64 r.size, .int .i64 r.view, .bool r.normal, .int .i64 r.last, .slice h.L.1 h.L.2.1 h.L.2.2, .int .i64 r.commit, .slice h.O.1 h.O.2.1 h.O.2.2, .slice h.A.1 h.A.2.1 h.A.2.2, .slice h.D.1 h.D.2.1 h.D.2.2] ?_); intro V1 S; replace X0 : Bx V1 b0 [.int .i64 r.id, .int .i64 r.size, .int .i64 r.view, .bool r.normal, .int .i64 r.last, .slice h.L.1 h.L.2.1 h.L.2.2, .int .i64 r.commit, .slice h.O.1 h.O.2.1 h.O.2.2, .slice h.A.1 h.A.2.1 h.A.2.2, .slice h.D.1 h.D.2.1 h.D.2.2] := S.bx; replace c0 := X0.cell; replace f0 := X0.froz; replace B := bkp B S.kept; clear S) | ((with_reducible refine al 29 [.int .i64 0, .int .i64 0, .int .i64 0, .bool false, .int .i64 0, .slice none 0 0, .int .i64 0, .slice none 0 0, .slice none 0 0, .slice none 0 0] ?_); intro b0 W0 N0; have ob0 := N0.ge; have B := N0.below; obtain ⟨X0, c0, f0⟩ := N0.a; clear N0))
   have HBq : Hid _ := below_next hb B
   clear hb
   go_roundw
   case rel => exact ⟨k + 1, max g h.L.2.1, by omega, by omega, by go_num, by go_num, HN, HBq.out⟩
   case measure => simp [intOf]; omega
  ·obtain rfl : k = n := by omega
   obtain rfl : g = v := by rw [← HV.out, ← H0.out]
   clear HV
   go_wp2
   go_ret
   exact ⟨rfl, hb⟩
theorem implRo_is {own : Bool} {lo hi : Nat} (N M Sl : Hd) (xs : List Nod) (ms : List Mal) (es : List En) (w : World) (x : ClAt w own lo hi N M Sl xs ms es) (hs : ClSz N M Sl xs ms 1048576) (c v : Int) (hc : cluF (xs.map (·.1)) (ms.map (·.1)) es = c) (hv : rfV c (xs.map (·.1)) = v) :
  Calls Try.prog 16 #[.agg #[.slice N.1 N.2.1 N.2.2, .slice M.1 M.2.1 M.2.2, .slice Sl.1 Sl.2.1 Sl.2.2]] w fun e w' => e = .returned (.agg #[.int .i64 c, .int .i64 v]) ∧ Below w.heap.size w w' := by
 obtain ⟨⟨ao, n, cap⟩, hN⟩ : ∃ q : Hd, N = q := ⟨N, rfl⟩
 subst hN
 have hl : (xs.map (·.1)).length = n := by simpa using x.nodes.len
 have HCD : Hid _ := hc
 have hn := hs.n
 have HS : Hid _ := hs
 have Hx : Hid _ := x
 obtain ⟨rs, hrs⟩ : ∃ rs, (xs.map (·.1)) = rs := ⟨_, rfl⟩
 have HRS : Hid _ := hrs
 rw [hrs] at hl
 have HL : Hid _ := hl
 rw [hrs] at hv
 have HV : Hid _ := hv
 clear hc hv hrs hl hs x
 simp only at hn ⊢
 go_enter Try.func16, Try.ntmps16
 go_wp2_with (first | ((have g := ob0); clear g; (with_reducible refine al 32 [.int .i64 0, .int .i64 0] ?_); intro b1 W1 N1; have ob1 := N1.o B; have o0_b1 := N1.u X0; replace X0 := N1.r X0; replace c0 := X0.cell; replace B := N1.n B; obtain ⟨X1, c1, f1⟩ := N1.a; clear N1) | ((with_reducible refine box_newX 49 [.slice ao n cap, .slice M.1 M.2.1 M.2.2, .slice Sl.1 Sl.2.1 Sl.2.2] rfl ?_); intro b0 W0 N0; have ob0 := N0.ge; have B := N0.below; obtain ⟨X0, c0⟩ := N0.c; clear N0) | fail)
 refine (implClF_is (ao, n, cap) M Sl xs ms es _ (Hx.out.below B) HS.out c HCD.out).mono ?_
 rintro e w1 ⟨rfl, BB⟩
 replace X0 := X0.below BB
 replace c0 := X0.cell
 replace X1 := X1.below BB
 replace c1 := X1.cell
 replace f1 := X1.froz
 replace B := below_next B BB
 clear BB
 by_cases h0 : c = 0
 rotate_left 1
 ·have h0' : (c != 0) = true := by simp [h0]
  obtain rfl : v = 0 := by rw [← HV.out]; unfold rfV; rw [if_neg h0]
  clear HV
  go_wp2_with (first | ((with_reducible refine sm 32 X1 0 [.int .i64 c, .int .i64 0] ?_); intro V1 S; replace X0 := X0.kp S.kept; replace c0 := X0.cell; replace X1 : Bx V1 b1 [.int .i64 c, .int .i64 0] := S.bx; replace c1 := X1.cell; replace f1 := X1.froz; replace B := bkp B S.kept; clear S))
  refine bodyPost_ret (v := .agg #[.int .i64 c, .int .i64 0]) (by simp [results, Try.results16, go_sem, *]) rfl ⟨rfl, B⟩
 subst h0
 obtain ⟨t, ht⟩ : ∃ t, rfL rs n = t := ⟨_, rfl⟩
 obtain rfl : v = 20 + 2 * (t : Int) := by rw [← HV.out]; unfold rfV; rw [if_pos rfl, HL.out, ht]
 have HT : Hid _ := ht
 have htb : t ≤ 1048576 := by rw [← ht, ← HRS.out]; exact rfL_le Hx.out.nodes HS.out.nodes n
 have HT : Hid _ := ht
 clear HV ht
 go_wp2_with fail
 refine (longest_is ao n cap xs _ (Hx.out.below B).nodes hn HS.out.nodes t (by rw [HRS.out]; exact HT.out)).mono ?_
 rintro e w2 ⟨rfl, BB⟩
 replace X0 := X0.below BB
 replace c0 := X0.cell
 replace X1 := X1.below BB
 replace c1 := X1.cell
 replace f1 := X1.froz
 replace B := below_next B BB
 clear BB
 go_wp2_with (first | ((with_reducible refine sm 32 X1 0 [.int .i64 0, .int .i64 (20 + 2 * (t : Int))] ?_); intro V1 S; replace X0 := X0.kp S.kept; replace c0 := X0.cell; replace X1 : Bx V1 b1 [.int .i64 0, .int .i64 (20 + 2 * (t : Int))] := S.bx; replace c1 := X1.cell; replace f1 := X1.froz; replace B := bkp B S.kept; clear S))
 refine bodyPost_ret (v := .agg #[.int .i64 0, .int .i64 (20 + 2 * (t : Int))]) (by simp [results, Try.results16, go_sem, *]) rfl ⟨rfl, B⟩
theorem l15For_is {own : Bool} {lo hi : Nat} (M Sl : Hd) (ao : Option Addr) (n cap : Nat) (xs : List Nod) (w : World) (x : NAt w own lo hi (ao, n, cap) xs) (hn : n ≤ 1048576) (hz : ∀ (i : Nat) (a : Nod), xs[i]? = some a → RSz a.2 1048576) (v : Nat) (hv : rfL (xs.map (·.1)) n = v) (b0 : Nat) (X0 : Bx w b0 [.slice ao n cap, .slice M.1 M.2.1 M.2.2, .slice Sl.1 Sl.2.1 Sl.2.2]) :
  Calls Try.prog 35 #[.pointer (some ⟨b0, 0, none⟩)] w fun e w' => e = .returned (.int .i64 (20 + 2 * (v : Int))) ∧ Below w.heap.size w w' := by
 have Hx : Hid _ := x
 have HZ : Hid _ := hz
 obtain ⟨rs, hrs⟩ : ∃ rs, (xs.map (·.1)) = rs := ⟨_, rfl⟩
 have HR : Hid (∀ (i : Nat) (a : Nod), xs[i]? = some a → rs.getD i rep0 = a.1) := fun i a e => by rw [← hrs]; exact mapD e
 rw [hrs] at hv
 have HV : Hid _ := hv
 have HRS : Hid _ := hrs
 clear hv hrs hz x
 have HX0 : Hid _ := X0
 have htb : Hid (∀ k, rfL rs k ≤ 1048576) := fun k => by rw [← HRS.out]; exact rfL_le Hx.out HZ.out k
 have c0 := X0.cell
 go_enter Try.func35, Try.ntmps35
 go_wp2_with fail
 go_loopw [3, 4] (fun a i wr => ∃ (k g : Nat), k ≤ n ∧ a = .int .i64 (g : Int) ∧ i = .int .i64 k ∧ Hid (rfL rs k = g) ∧ Below w.heap.size w wr) (fun _ i _ => n - (intOf i).toNat)
 case atStart => exact ⟨0, 0, Nat.zero_le _, rfl, rfl, rfl, Below.refl _ _⟩
 case round =>
  obtain ⟨k, g, hk, rfl, rfl, H0, hb⟩ := hrel
  have hg := htb.out k
  rw [H0.out] at hg
  clear X0 c0
  have X0 := HX0.out.below hb
  have c0 := X0.cell
  by_cases hlt : k < n
  ·have hlk : (k : Int) < (n : Int) := by omega
   obtain ⟨r, h, b, off, ex, rfl, _, _, XN, y, _⟩ := LAt.node (NAt.below (N := (ao, n, cap)) Hx.out hb) (i := k) (by show _ < n; omega)
   have cN := XN.cell
   have HN : Hid (rfL rs (k + 1) = max g h.L.2.1) := by show _ = _; unfold rfL; rw [H0.out, HR.out k _ ex, show r.log.length = h.L.2.1 from y.log.nSixs]
   have hL := (HZ.out k _ ex).L
   clear ex y
   simp only at hL
   by_cases hgt : g < h.L.2.1
   ·have hgi : decide ((g : Int) < (h.L.2.1 : Int)) = true := decide_eq_true (by omega)
    have HM : Hid (max g h.L.2.1 = h.L.2.1) := by show _ = _; omega
    have HB : Hid _ := hb
    go_wp2
    go_roundw
    case rel => exact ⟨k + 1, h.L.2.1, by omega, rfl, by go_num, HN.out.trans HM.out, HB.out⟩
    case measure => simp [intOf]; omega
   ·have hgi : decide ((g : Int) < (h.L.2.1 : Int)) = false := decide_eq_false (by omega)
    have HM : Hid (max g h.L.2.1 = g) := by show _ = _; omega
    have HB : Hid _ := hb
    go_wp2
    go_roundw
    case rel => exact ⟨k + 1, g, by omega, rfl, by go_num, HN.out.trans HM.out, HB.out⟩
    case measure => simp [intOf]; omega
  ·obtain rfl : k = n := by omega
   obtain rfl : g = v := by rw [← HV.out, ← H0.out]
   clear HV
   go_wp2
   go_ret
   exact ⟨rfl, hb⟩
theorem specRo_is {own : Bool} {lo hi : Nat} (N M Sl : Hd) (xs : List Nod) (ms : List Mal) (es : List En) (w : World) (x : ClAt w own lo hi N M Sl xs ms es) (hs : ClSz N M Sl xs ms 1048576) (c v : Int) (hc : cluF (xs.map (·.1)) (ms.map (·.1)) es = c) (hv : rfV c (xs.map (·.1)) = v) :
  Calls Try.prog 14 #[.agg #[.slice N.1 N.2.1 N.2.2, .slice M.1 M.2.1 M.2.2, .slice Sl.1 Sl.2.1 Sl.2.2]] w fun e w' => e = .returned (.agg #[.int .i64 c, .int .i64 v]) ∧ Below w.heap.size w w' := by
 obtain ⟨⟨ao, n, cap⟩, hN⟩ : ∃ q : Hd, N = q := ⟨N, rfl⟩
 subst hN
 have hl : (xs.map (·.1)).length = n := by simpa using x.nodes.len
 have HCD : Hid _ := hc
 have hn := hs.n
 have HS : Hid _ := hs
 have Hx : Hid _ := x
 obtain ⟨rs, hrs⟩ : ∃ rs, (xs.map (·.1)) = rs := ⟨_, rfl⟩
 have HRS : Hid _ := hrs
 rw [hrs] at hl
 have HL : Hid _ := hl
 rw [hrs] at hv
 have HV : Hid _ := hv
 clear hc hv hrs hl hs x
 simp only at hn ⊢
 go_enter Try.func14, Try.ntmps14
 go_wp2_with (first | ((have g := ob0); clear g; (with_reducible refine al 32 [.int .i64 0, .int .i64 0] ?_); intro b1 W1 N1; have ob1 := N1.o B; have o0_b1 := N1.u X0; replace X0 := N1.r X0; replace c0 := X0.cell; replace B := N1.n B; obtain ⟨X1, c1, f1⟩ := N1.a; clear N1) | ((with_reducible refine box_newX 49 [.slice ao n cap, .slice M.1 M.2.1 M.2.2, .slice Sl.1 Sl.2.1 Sl.2.2] rfl ?_); intro b0 W0 N0; have ob0 := N0.ge; have B := N0.below; obtain ⟨X0, c0⟩ := N0.c; clear N0) | fail)
 refine (l11Fault_is b0 (ao, n, cap) M Sl xs ms es _ X0 (Hx.out.below B) HS.out c HCD.out).mono ?_
 rintro e w1 ⟨rfl, BB⟩
 replace X0 := X0.below BB
 replace c0 := X0.cell
 replace X1 := X1.below BB
 replace c1 := X1.cell
 replace f1 := X1.froz
 replace B := below_next B BB
 clear BB
 by_cases h0 : c = 0
 rotate_left 1
 ·have h0' : (c != 0) = true := by simp [h0]
  obtain rfl : v = 0 := by rw [← HV.out]; unfold rfV; rw [if_neg h0]
  clear HV
  go_wp2_with (first | ((with_reducible refine sm 32 X1 0 [.int .i64 c, .int .i64 0] ?_); intro V1 S; replace X0 := X0.kp S.kept; replace c0 := X0.cell; replace X1 : Bx V1 b1 [.int .i64 c, .int .i64 0] := S.bx; replace c1 := X1.cell; replace f1 := X1.froz; replace B := bkp B S.kept; clear S))
  refine bodyPost_ret (v := .agg #[.int .i64 c, .int .i64 0]) (by simp [results, Try.results14, go_sem, *]) rfl ⟨rfl, B⟩
 subst h0
 obtain ⟨t, ht⟩ : ∃ t, rfL rs n = t := ⟨_, rfl⟩
 obtain rfl : v = 20 + 2 * (t : Int) := by rw [← HV.out]; unfold rfV; rw [if_pos rfl, HL.out, ht]
 have HT : Hid _ := ht
 clear HV ht
 go_wp2_with fail
 refine (l15For_is M Sl ao n cap xs _ (Hx.out.below B).nodes hn HS.out.nodes t (by rw [HRS.out]; exact HT.out) b0 X0).mono ?_
 rintro e w2 ⟨rfl, BB⟩
 replace X0 := X0.below BB
 replace c0 := X0.cell
 replace X1 := X1.below BB
 replace c1 := X1.cell
 replace f1 := X1.froz
 replace B := below_next B BB
 clear BB
 go_wp2_with (first | ((with_reducible refine sm 32 X1 0 [.int .i64 0, .int .i64 (20 + 2 * (t : Int))] ?_); intro V1 S; replace X0 := X0.kp S.kept; replace c0 := X0.cell; replace X1 : Bx V1 b1 [.int .i64 0, .int .i64 (20 + 2 * (t : Int))] := S.bx; replace c1 := X1.cell; replace f1 := X1.froz; replace B := bkp B S.kept; clear S))
 refine bodyPost_ret (v := .agg #[.int .i64 0, .int .i64 (20 + 2 * (t : Int))]) (by simp [results, Try.results14, go_sem, *]) rfl ⟨rfl, B⟩
end Go.Proofs.Ytjefmhjlaibbkaa
namespace Go.Proofs.Ytjefmhjlaibbkaa
open Go.RowKit Go.ChangeShapes Go.WideShapes Go.Deep
section
variable {H : Type} {enc : TypeId × Value → H} {P : Program} {w : World}
def EnTy (P : Program) (e : TypeId) : Prop := ∃ f0 f1 f2 g0 g1 g2 g3 : Field, P.underlying e = some (.struct #[f0, f1, f2]) ∧ (f0.offset = 0 ∧ f1.offset = 1 ∧ f2.offset = 2) ∧ (P.cellsOf e = 6 ∧ P.cellsOf f0.type = 1 ∧ P.cellsOf f1.type = 1 ∧ P.cellsOf f2.type = 4) ∧
 (P.underlying f0.type = some (.int .i64) ∧ P.underlying f1.type = some (.int .i64) ∧ P.underlying f2.type = some (.struct #[g0, g1, g2, g3])) ∧ (g0.offset = 0 ∧ g1.offset = 1 ∧ g2.offset = 2 ∧ g3.offset = 3) ∧
 (P.cellsOf g0.type = 1 ∧ P.cellsOf g1.type = 1 ∧ P.cellsOf g2.type = 1 ∧ P.cellsOf g3.type = 1) ∧ (P.underlying g0.type = some (.int .i64) ∧ P.underlying g1.type = some (.int .i64) ∧ P.underlying g2.type = some (.int .i64) ∧ P.underlying g3.type = some (.int .i64))
theorem EnTy.cells {e : TypeId} (h : EnTy P e) : P.cellsOf e = 6 := by obtain ⟨_, _, _, _, _, _, _, _, _, h, _⟩ := h; exact h.1
theorem six_of {e : TypeId} (ht : EnTy P e) {fuel : Nat} {cs : List Value} {x : DataW H × List MemPlace} {base : Nat} {spare : Nat → Bool} {held : Bool} (hlen : cs.length = 6) (h : DataW.trod enc P w base spare held fuel e cs = some x) :
  ∃ q : En, cs = [.int .i64 q.1, .int .i64 q.2.1, .int .i64 q.2.2.1, .int .i64 q.2.2.2.1, .int .i64 q.2.2.2.2.1, .int .i64 q.2.2.2.2.2] := by
 obtain ⟨f0, f1, f2, k0, k1, k2, k3, he, ⟨o0, o1, o2⟩, ⟨_, c0, c1, c2⟩, ⟨i0, i1, hs⟩, ⟨p0, p1, p2, p3⟩, ⟨d0, d1, d2, d3⟩, ⟨j0, j1, j2, j3⟩⟩ := ht
 obtain ⟨ys, k, _, _, _, hyl, hf⟩ := DataW.trod_struct he h
 match ys, hyl, cs, hlen with
 | [y0, y1, y2], _, [v0, v1, v2, v3, v4, v5], _ =>
  have g0 := hf 0 f0 rfl
  have g1 := hf 1 f1 rfl
  have g2 := hf 2 f2 rfl
  simp [o0, o1, o2, c0, c1, c2] at g0 g1 g2
  obtain ⟨zs, m, _, _, _, hzl, hg⟩ := DataW.trod_struct hs g2
  match zs, hzl with
  | [z0, z1, z2, z3], _ =>
   have q0 := hg 0 k0 rfl
   have q1 := hg 1 k1 rfl
   have q2 := hg 2 k2 rfl
   have q3 := hg 3 k3 rfl
   simp [p0, p1, p2, p3, d0, d1, d2, d3] at q0 q1 q2 q3
   obtain ⟨a0, e0, _, _⟩ := DataW.trod_int i0 g0
   obtain ⟨a1, e1, _, _⟩ := DataW.trod_int i1 g1
   obtain ⟨a2, e2, _, _⟩ := DataW.trod_int j0 q0
   obtain ⟨a3, e3, _, _⟩ := DataW.trod_int j1 q1
   obtain ⟨a4, e4, _, _⟩ := DataW.trod_int j2 q2
   obtain ⟨a5, e5, _, _⟩ := DataW.trod_int j3 q3
   simp only [List.cons.injEq, and_true] at e0 e1 e2 e3 e4 e5
   exact ⟨(a0, a1, a2, a3, a4, a5), by rw [e0, e1, e2, e3, e4, e5]⟩
theorem read_entries {t e : TypeId} {fuel : Nat} {v : Value} {x : DataW H × List MemPlace} (ht : P.underlying t = some (.slice e)) (he : EnTy P e) (h : DataW.trod enc P w 0 (fun _ => true) true fuel t [v] = some x) :
  ∃ ao n cap vs, v = .slice ao n cap ∧ n ≤ maxLen ∧ RowAt w false 0 w.heap.size 6 ao n cap (sixs vs) := by
 rcases open_slice ht h with ⟨hcs, _⟩ | ⟨a, len, cap, m, n, D, Pl, hcs, hb, hl, hm, hz, _, hx⟩
 ·simp only [List.cons.injEq, and_true] at hcs
  exact ⟨none, 0, 0, [], hcs, Nat.zero_le _, RowAt.nil _ _ _ _ _⟩
 ·simp only [List.cons.injEq, and_true] at hcs
  simp only [if_true] at hz
  subst hz
  have each : ∀ i, i < m → ∃ q : En, ∀ j, j < 6 → w.cell? (a.add (i * 6 + j)) = some (.int .i64 (enF q j)) := fun i hi => by
   obtain ⟨cs, h1, h2⟩ := hx i hi
   rw [he.cells] at h1
   obtain ⟨_, hlen, hcell⟩ := World.cells?_some h1
   obtain ⟨q, hq⟩ := six_of he hlen h2
   refine ⟨q, fun j hj => ?_⟩
   have e0 := hcell j (by omega)
   rw [add_add, hq] at e0
   rw [e0]
   match j, hj with
   | 0, _ => rfl
   | 1, _ => rfl
   | 2, _ => rfl
   | 3, _ => rfl
   | 4, _ => rfl
   | 5, _ => rfl
  obtain ⟨q, hq⟩ := choose_lt each
  have hlen : ((List.range len).map q).length = len := by simp
  have hget : ∀ i, i < len → ((List.range len).map q).getD i en0 = q i := fun i hi => by simp [List.getD, hi]
  refine ⟨some a, len, m, (List.range len).map q, hcs, Nat.le_trans hl hm, ?_, hl, fun hn => ?_⟩
  ·rw [sixs_len, hlen]
  ·have h0 := hq 0 (by omega) 0 (by omega)
   obtain ⟨b, off, spot⟩ := a
   have hspot : spot = none := by simpa [Addr.add] using World.cell?_spot h0
   subst hspot
   refine ⟨b, off, rfl, Nat.zero_le _, World.block_lt_of_cell? w _ h0, World.block_lt_of_cell? w _ h0, fun i hi => ?_, fun h => by cases h⟩
   have p0 := hq (i / 6) (by omega) (i % 6) (by omega)
   have t0 := sixs_get ((List.range len).map q) (i / 6) (i % 6) (by omega) (by omega)
   rw [show i / 6 * 6 + i % 6 = i by omega] at t0 p0
   rw [← addr_add, t0, p0, hget _ (by omega)]
end
theorem Try.enTy : EnTy Try.prog 111 := ⟨_, _, _, _, _, _, _, Try.underlying111, ⟨rfl, rfl, rfl⟩, ⟨by kernel_rfl, by kernel_rfl, by kernel_rfl, by kernel_rfl⟩, ⟨Try.underlying2, Try.underlying2, Try.underlying109⟩, ⟨rfl, rfl, rfl, rfl⟩, ⟨by kernel_rfl, by kernel_rfl, by kernel_rfl, by kernel_rfl⟩, ⟨Try.underlying2, Try.underlying2, Try.underlying2, Try.underlying2⟩⟩
end Go.Proofs.Ytjefmhjlaibbkaa
