/- Chapter 11: the fault of a cluster, of the model. -/
import Derived.Test.YtclghfoinologaaGreatCC
import Derived.Test.YtclghfoinologaaGreatQBA
set_option maxRecDepth 20000
set_option maxHeartbeats 16000000
namespace Go.Proofs.YtclghfoinologaaGreat
open Go.RowKit
theorem fstF_stop_eq {f : Nat → Int} {k n : Nat} {c : Int} (h0 : fstF f k = 0) (hk : k < n) (hc : f k = c) (h1 : c ≠ 0) : fstF f n = c := fstF_stop rfl h0 hk hc h1
theorem l11Place_is (b0 : Nat) (na : Option Addr) (nn nc : Nat) (v1 v2 : Value) (v : Int) (w : World) (X0 : Bx w b0 [.slice na nn nc, v1, v2]) (hn : nn ≤ 1048576) (d : Bool) (hd : decide (0 ≤ v ∧ v ≤ (nn : Int) - 1) = d) :
  Calls Tryz.prog 47 #[.pointer (some ⟨b0, 0, none⟩), .int .i64 v] w fun e w' => e = .returned (.bool d) ∧ w' = w := by
 have hw : IntKind.i64.wrap ((nn : Int) - 1) = (nn : Int) - 1 := wrapI_same _ (by omega)
 have c0 := X0.cell
 go_enter Tryz.func47, Tryz.ntmps47
 go_wp2_with fail;refine (l1In_is' v 0 ((nn : Int) - 1) _ d hd).mono ?_;rintro e W9 ⟨rfl, rfl⟩;go_wp2;go_ret;exact ⟨rfl, rfl⟩
theorem l11Fault_is {own : Bool} {lo hi : Nat} (b0 : Nat) (N M Sl : Hd) (xs : List Nod) (ms : List Mal) (es : List En) (w : World) (X0 : Bx w b0 [.slice N.1 N.2.1 N.2.2, .slice M.1 M.2.1 M.2.2, .slice Sl.1 Sl.2.1 Sl.2.2]) (x : ClAt w own lo hi N M Sl xs ms es) (hs : ClSz N M Sl xs ms 1048576) (d : Int) (hd : cluF (xs.map (·.1)) (ms.map (·.1)) es = d) :
  Calls Tryz.prog 46 #[.pointer (some ⟨b0, 0, none⟩)] w fun e w' => e = .returned (.int .i64 d) ∧ Below w.heap.size w w' := by
 have hl : (xs.map (·.1)).length = N.2.1 := by simpa using x.nodes.len
 have hl2 : (ms.map (·.1)).length = M.2.1 := by simpa using x.mails.len
 have HX : Hid (NAt w own lo hi N xs) := x.nodes
 have HY : Hid (MAt w own lo hi M ms) := x.mails
 have HG : Hid _ := x.slog
 have hn := hs.n;have hm := hs.m
 have HS : Hid _ := hs.nodes
 unfold cluF nodesF mailsF at hd;obtain ⟨rs, hrs⟩ : ∃ rs, xs.map (·.1) = rs := ⟨_, rfl⟩;obtain ⟨ns, hns⟩ : ∃ ns, ms.map (·.1) = ns := ⟨_, rfl⟩
 have HR : Hid (∀ (i : Nat) (a : Nod), xs[i]? = some a → rs.getD i rep0 = a.1) := fun i a e => by rw [← hrs];exact mapD e
 have HM : Hid (∀ (i : Nat) (a : Mal), ms[i]? = some a → ns.getD i ml0 = a.1) := fun i a e => by rw [← hns];exact mapD e
 rw [hrs] at hd hl;rw [hns] at hd hl2;rw [hl, hl2] at hd
 obtain ⟨na, nn, nc⟩ := N
 obtain ⟨ma, mn, mc⟩ := M
 simp only at hl hl2 hd hn hm X0
 have HL : Hid _ := hl
 have HD : Hid _ := hd
 have HB : Hid (Bx w b0 [.slice na nn nc, .slice ma mn mc, .slice Sl.1 Sl.2.1 Sl.2.2]) := X0
 clear hs hd hrs hns hl hl2 x;have c0 := X0.cell
 go_enter Tryz.func46, Tryz.ntmps46
 by_cases q0 : (1 ≤ (nn : Int) ∧ (nn : Int) ≤ 5) ∧ mn ≤ 120
 rotate_left 1
 ·have e := HD.out;rw [if_neg q0] at e;subst e;clear HD
  by_cases q1 : (nn : Int) < 1
  ·go_wp2;go_ret;exact ⟨rfl, Below.refl _ _⟩
  ·by_cases q2 : (5 : Int) < (nn : Int)
   ·go_wp2;go_ret;exact ⟨rfl, Below.refl _ _⟩
   ·have q3 : (120 : Int) < (mn : Int) := by omega
    go_wp2;go_ret;exact ⟨rfl, Below.refl _ _⟩
 have q1 : ¬ (nn : Int) < 1 := by omega
 have q2 : ¬ (5 : Int) < (nn : Int) := by omega
 have q3 : ¬ (120 : Int) < (mn : Int) := by omega
 have HD2 := HD.out;rw [if_pos q0] at HD2
 replace HD : Hid _ := HD2
 clear HD2 q0;go_wp2_with fail;clear c0 X0
 go_loopw [3] (fun i wr => ∃ k : Nat, k ≤ nn ∧ i = .int .i64 k ∧ Hid (fstF (nodeF rs) k = 0) ∧ Below w.heap.size w wr) (fun i _ => nn - (intOf i).toNat)
 case atStart => exact ⟨0, Nat.zero_le _, rfl, rfl, Below.refl _ _⟩
 case round =>
  obtain ⟨k, hk, rfl, H0, hb⟩ := hrel
  have X0 := HB.out.below hb;have c0 := X0.cell
  by_cases hlt : k < nn
  ·have HD : Hid (∀ c : Int, fstF (nodeF rs) nn = c → c ≠ 0 → d = c) := fun c hc h1 => by have := HD.out;rw [hc, if_neg h1] at this;exact this.symm
   have hlk : (k : Int) < (nn : Int) := by omega
   obtain ⟨r, h, b, off, ex, rfl, _, _, XN, y, _⟩ := LAt.node (NAt.below HX.out hb) hlt
   have hmk := HS.out k _ ex
   have HE : Hid (rs.getD k rep0 = r) := HR.out k _ ex
   clear ex
   simp only at hmk
   obtain ⟨c, hc⟩ : ∃ c, repF r = c := ⟨_, rfl⟩
   have HC : Hid _ := hc
   clear hc;go_wp2_with fail
   refine (l9FaultO_is b (off + k * 10) r h _ XN y (hmk.mono (by omega)) c HC.out).mono ?_
   rintro e w1 ⟨rfl, BB⟩;replace XN := XN.below BB;replace X0 := X0.below BB;replace c0 := X0.cell;replace hb := below_next hb BB;clear BB y
   by_cases q4 : c = 0
   rotate_left 1
   ·have q4' : (c != 0) = true := by simp [q4]
    have e := HD.out _ (fstF_stop_eq H0.out hlt (nodeF_rep HE.out HC.out q4) q4) (by first | exact q4 | decide)
    subst e;clear HD;go_wp2;go_ret;exact ⟨rfl, hb⟩
   subst q4;go_wp2_with fail
   have DQ : Below w1.heap.size w1 w1.drew := (Below.refl _ _).drew
   replace XN := XN.below DQ;have cN := XN.cell;replace X0 := X0.below DQ;replace c0 := X0.cell;replace hb := below_next hb DQ;clear DQ
   by_cases q5 : r.id = k
   rotate_left 1
   ·have q5' : (r.id != (k : Int)) = true := by simp [q5]
    have e := HD.out _ (fstF_stop_eq H0.out hlt (nodeF_form HE.out HC.out (fun z => q5 z.1)) (by decide)) (by decide)
    subst e;clear HD q5
    refine wp_region_held_drew (S := (fun w' => (∀ k_2 : Nat, w'.cell? ⟨b0, k_2, none⟩ = [.slice (some ⟨b, off, none⟩) nn nc, .slice ma mn mc, .slice Sl.1 Sl.2.1 Sl.2.2][k_2]?) ∧ (w'.cell? ⟨b, off + k * 10, none⟩ = [.int .i64 r.id, .int .i64 r.size, .int .i64 r.view, .bool r.normal, .int .i64 r.last, .slice h.L.1 h.L.2.1 h.L.2.2, .int .i64 r.commit, .slice h.O.1 h.O.2.1 h.O.2.2, .slice h.A.1 h.A.2.1 h.A.2.2, .slice h.D.1 h.D.2.1 h.D.2.2][0]? ∧ ∀ k_1 : Nat, k_1 < 10 → w'.cell? ⟨b, off + k * 10 + k_1, none⟩ = [.int .i64 r.id, .int .i64 r.size, .int .i64 r.view, .bool r.normal, .int .i64 r.last, .slice h.L.1 h.L.2.1 h.L.2.2, .int .i64 r.commit, .slice h.O.1 h.O.2.1 h.O.2.2, .slice h.A.1 h.A.2.1 h.A.2.2, .slice h.D.1 h.D.2.1 h.D.2.2][k_1]?))) (by kernel_rfl) ⟨c0, cN⟩ (fun hZq => ?_)
    refine tk 0 hZq ?_;refine tk 1 hZq ?_;refine tk 2 hZq ?_;refine tk 3 hZq ?_;refine tk 4 hZq ?_;refine tk 5 hZq ?_;refine tk 6 hZq ?_;refine tk 7 hZq ?_;refine tk 8 hZq ?_;refine tk 9 hZq ?_;refine tk 10 hZq ?_;refine tks 11 hZq ?_;refine tks 12 hZq ?_;refine tks 13 hZq ?_;refine tks 14 hZq ?_;refine tks 15 hZq ?_;refine tks 16 hZq ?_;refine tks 17 hZq ?_;refine tks 18 hZq ?_;refine tks 19 hZq ?_;refine tks 20 hZq ?_;refine tks 21 hZq ?_;refine tks 22 hZq ?_;refine tks 23 hZq ?_;refine tks 24 hZq ?_;refine tk 25 hZq ?_
    refine wpAnyH_done (by kernel_rfl) ?_ _
    go_wp2;go_ret;exact ⟨rfl, hb⟩
   have q5' : (r.id != (k : Int)) = false := by simp [q5]
   have Q5 : Hid _ := q5
   clear q5
   by_cases q6 : r.size = nn
   rotate_left 1
   ·have q6' : (r.size != (nn : Int)) = true := by simp [q6]
    have e := HD.out _ (fstF_stop_eq H0.out hlt (nodeF_form HE.out HC.out (fun z => q6 (by rw [z.2, HL.out]))) (by decide)) (by decide)
    subst e;clear HD q6
    refine wp_region_held_drew (S := (fun w' => (∀ k_2 : Nat, w'.cell? ⟨b0, k_2, none⟩ = [.slice (some ⟨b, off, none⟩) nn nc, .slice ma mn mc, .slice Sl.1 Sl.2.1 Sl.2.2][k_2]?) ∧ (w'.cell? ⟨b, off + k * 10, none⟩ = [.int .i64 r.id, .int .i64 r.size, .int .i64 r.view, .bool r.normal, .int .i64 r.last, .slice h.L.1 h.L.2.1 h.L.2.2, .int .i64 r.commit, .slice h.O.1 h.O.2.1 h.O.2.2, .slice h.A.1 h.A.2.1 h.A.2.2, .slice h.D.1 h.D.2.1 h.D.2.2][0]? ∧ ∀ k_1 : Nat, k_1 < 10 → w'.cell? ⟨b, off + k * 10 + k_1, none⟩ = [.int .i64 r.id, .int .i64 r.size, .int .i64 r.view, .bool r.normal, .int .i64 r.last, .slice h.L.1 h.L.2.1 h.L.2.2, .int .i64 r.commit, .slice h.O.1 h.O.2.1 h.O.2.2, .slice h.A.1 h.A.2.1 h.A.2.2, .slice h.D.1 h.D.2.1 h.D.2.2][k_1]?))) (by kernel_rfl) ⟨c0, cN⟩ (fun hZq => ?_)
    refine tk 0 hZq ?_;refine tk 1 hZq ?_;refine tk 2 hZq ?_;refine tk 3 hZq ?_;refine tk 4 hZq ?_;refine tk 5 hZq ?_;refine tk 6 hZq ?_;refine tk 7 hZq ?_;refine tk 8 hZq ?_;refine tk 9 hZq ?_;refine tk 10 hZq ?_;refine tk 11 hZq ?_;refine tk 12 hZq ?_;refine tk 13 hZq ?_;refine tk 14 hZq ?_;refine tk 15 hZq ?_;refine tk 16 hZq ?_;refine tk 17 hZq ?_;refine tk 18 hZq ?_;refine tk 19 hZq ?_;refine tk 20 hZq ?_;refine tk 21 hZq ?_;refine tk 22 hZq ?_;refine tk 23 hZq ?_;refine tk 24 hZq ?_;refine tk 25 hZq ?_
    refine wpAnyH_done (by kernel_rfl) ?_ _
    go_wp2;go_ret;exact ⟨rfl, hb⟩
   have q6' : (r.size != (nn : Int)) = false := by simp [q6]
   have Q6 : Hid _ := q6
   clear q6
   refine wp_region_held_drew (S := (fun w' => (∀ k_2 : Nat, w'.cell? ⟨b0, k_2, none⟩ = [.slice (some ⟨b, off, none⟩) nn nc, .slice ma mn mc, .slice Sl.1 Sl.2.1 Sl.2.2][k_2]?) ∧ (w'.cell? ⟨b, off + k * 10, none⟩ = [.int .i64 r.id, .int .i64 r.size, .int .i64 r.view, .bool r.normal, .int .i64 r.last, .slice h.L.1 h.L.2.1 h.L.2.2, .int .i64 r.commit, .slice h.O.1 h.O.2.1 h.O.2.2, .slice h.A.1 h.A.2.1 h.A.2.2, .slice h.D.1 h.D.2.1 h.D.2.2][0]? ∧ ∀ k_1 : Nat, k_1 < 10 → w'.cell? ⟨b, off + k * 10 + k_1, none⟩ = [.int .i64 r.id, .int .i64 r.size, .int .i64 r.view, .bool r.normal, .int .i64 r.last, .slice h.L.1 h.L.2.1 h.L.2.2, .int .i64 r.commit, .slice h.O.1 h.O.2.1 h.O.2.2, .slice h.A.1 h.A.2.1 h.A.2.2, .slice h.D.1 h.D.2.1 h.D.2.2][k_1]?))) (by kernel_rfl) ⟨c0, cN⟩ (fun hZq => ?_)
   refine tk 0 hZq ?_;refine tk 1 hZq ?_;refine tk 2 hZq ?_;refine tk 3 hZq ?_;refine tk 4 hZq ?_;refine tk 5 hZq ?_;refine tk 6 hZq ?_;refine tk 7 hZq ?_;refine tk 8 hZq ?_;refine tk 9 hZq ?_;refine tk 10 hZq ?_;refine tk 11 hZq ?_;refine tk 12 hZq ?_;refine tk 13 hZq ?_;refine tk 14 hZq ?_;refine tk 15 hZq ?_;refine tk 16 hZq ?_;refine tk 17 hZq ?_;refine tk 18 hZq ?_;refine tk 19 hZq ?_;refine tk 20 hZq ?_;refine tk 21 hZq ?_;refine tk 22 hZq ?_;refine tk 23 hZq ?_;refine tk 24 hZq ?_;refine tk 25 hZq ?_
   refine wpAnyH_done (by kernel_rfl) ?_ _
   have HN : Hid (fstF (nodeF rs) (k + 1) = 0) := fstF_next H0.out (nodeF_ok HE.out HC.out ⟨Q5.out, by rw [HL.out];exact Q6.out⟩)
   have HBB : Hid _ := hb
   clear hb cN c0 XN X0;go_wp2
   go_roundw
   case rel => exact ⟨k + 1, by omega, by go_num, HN, HBB.out⟩
   case measure => simp [intOf];omega
  ·obtain rfl : k = nn := by omega
   have hr : nodesF rs = 0 := by unfold nodesF;rw [HL.out];exact H0.out
   have HA : Hid (∀ i, i < k → 1 ≤ (rs.getD i rep0).size ∧ (rs.getD i rep0).size ≤ 5) := fun i hi => rep_size (nodesF_all hr i (by rw [HL.out];exact hi)).1
   have HD2 := HD.out;rw [if_pos H0.out] at HD2
   replace HD : Hid _ := HD2
   clear HD2 hr H0;go_wp2_with fail;clear c0 X0
   go_loopw [5] (fun i wr2 => ∃ p : Nat, p ≤ mn ∧ i = .int .i64 p ∧ Hid (fstF (fun i => mailIn rs (ns.getD i ml0)) p = 0) ∧ Below w.heap.size w wr2) (fun i _ => mn - (intOf i).toNat)
   case atStart => exact ⟨0, Nat.zero_le _, rfl, rfl, hb⟩
   case round =>
    clear hb
    obtain ⟨p, hp, rfl, H0, hb⟩ := hrel
    have X0 := HB.out.below hb;have c0 := X0.cell
    by_cases hlt : p < mn
    ·have HD : Hid (∀ c : Int, fstF (fun i => mailIn rs (ns.getD i ml0)) mn = c → c ≠ 0 → d = c) := fun c hc h1 => by have := HD.out;rw [hc, if_neg h1] at this;exact this.symm
     have hlk : (p : Int) < (mn : Int) := by omega
     obtain ⟨m, h, b, off, ex, rfl, _, _, XM, y, _⟩ := LAt.mail (MAt.below HY.out hb) hlt
     have HE : Hid (ns.getD p ml0 = m) := HM.out p _ ex
     clear ex
     have HSt : Hid (∀ c : Int, mailIn rs m = c → c ≠ 0 → d = c) := fun c hc h1 => HD.out c (fstF_stop_eq H0.out hlt (by show mailIn rs (ns.getD p ml0) = c;rw [HE.out];exact hc) h1) h1
     have HNx : Hid (mailIn rs m = 0 → fstF (fun i => mailIn rs (ns.getD i ml0)) (p + 1) = 0) := fun hc => fstF_next H0.out (by show mailIn rs (ns.getD p ml0) = 0;rw [HE.out];exact hc)
     obtain ⟨kind, fr, tq, view, at_, has, en, last, log, commit⟩ := m
     simp only at XM y
     have cM := XM.cell;clear HE;go_wp2_with fail
     by_cases q4 : 0 ≤ tq ∧ tq ≤ (k : Int) - 1
     rotate_left 1
     ·have e := HSt.out 3 (by unfold mailIn;rw [HL.out];exact if_neg q4) (by decide)
      subst e;clear HD HSt HNx
      refine (l11Place_is b0 na k nc _ _ tq _ X0 hn false (by simp only [decide_eq_false_eq];exact q4)).mono ?_
      rintro e W9 ⟨rfl, rfl⟩;go_wp2;go_ret;exact ⟨rfl, hb⟩
     refine (l11Place_is b0 na k nc _ _ tq _ X0 hn true (by simp only [decide_eq_true_eq];exact q4)).mono ?_
     rintro e W9 ⟨rfl, rfl⟩
     obtain ⟨j, hj⟩ : ∃ j : Nat, tq = (j : Int) := ⟨tq.toNat, by omega⟩
     have HQ : Hid (∀ c : Int, mailAtF (rs.getD j rep0) ⟨kind, fr, tq, view, at_, has, en, last, log, commit⟩ = c → mailIn rs ⟨kind, fr, tq, view, at_, has, en, last, log, commit⟩ = c) := fun c hc => by unfold mailIn;rw [HL.out, if_pos q4];show mailAtF (rs.getD tq.toNat rep0) _ = c;rw [hj] at hc ⊢;exact hc
     have hjn : j < k := by omega
     subst hj;clear q4
     obtain ⟨r, hN, b1, f1, ex1, rfl, _, _, XN, _, _⟩ := LAt.node (NAt.below HX.out hb) hjn
     have HJ := HR.out j _ ex1
     simp only at HJ
     have HSz := HA.out j hjn;rw [HJ] at HQ HSz
     have HS5 : Hid _ := HSz
     clear HJ ex1 HSz;obtain ⟨c, hc⟩ : ∃ c, mailAtF r ⟨kind, fr, (j : Int), view, at_, has, en, last, log, commit⟩ = c := ⟨_, rfl⟩
     have HC : Hid _ := hc
     have HCI : Hid _ := HQ.out c hc
     clear hc HQ
     have hjk : (j : Int) < (k : Int) := by omega
     have hj0 : (0 : Int) ≤ (j : Int) := by omega
     have cN := XN.cell;go_wp2_with fail
     have DQ : Below W9.heap.size W9 W9.drew := (Below.refl _ _).drew
     replace XN := XN.below DQ;replace XM := XM.below DQ;replace X0 := X0.below DQ;replace cN := XN.cell;replace cM := XM.cell;replace c0 := X0.cell;replace y := y.below DQ;replace hb := below_next hb DQ;clear DQ
     refine wp_region_held_drew (S := (fun w' => (∀ k_2 : Nat, w'.cell? ⟨b0, k_2, none⟩ = [.slice (some ⟨b1, f1, none⟩) k nc, .slice (some ⟨b, off, none⟩) mn mc, .slice Sl.1 Sl.2.1 Sl.2.2][k_2]?) ∧ (w'.cell? ⟨b1, f1 + j * 10, none⟩ = [.int .i64 r.id, .int .i64 r.size, .int .i64 r.view, .bool r.normal, .int .i64 r.last, .slice hN.L.1 hN.L.2.1 hN.L.2.2, .int .i64 r.commit, .slice hN.O.1 hN.O.2.1 hN.O.2.2, .slice hN.A.1 hN.A.2.1 hN.A.2.2, .slice hN.D.1 hN.D.2.1 hN.D.2.2][0]? ∧ ∀ k_1 : Nat, k_1 < 10 → w'.cell? ⟨b1, f1 + j * 10 + k_1, none⟩ = [.int .i64 r.id, .int .i64 r.size, .int .i64 r.view, .bool r.normal, .int .i64 r.last, .slice hN.L.1 hN.L.2.1 hN.L.2.2, .int .i64 r.commit, .slice hN.O.1 hN.O.2.1 hN.O.2.2, .slice hN.A.1 hN.A.2.1 hN.A.2.2, .slice hN.D.1 hN.D.2.1 hN.D.2.2][k_1]?) ∧ (w'.cell? ⟨b, off + p * 15, none⟩ = [.int .i64 kind, .int .i64 fr, .int .i64 (j : Int), .int .i64 view, .int .i64 at_, .bool has, .int .i64 en.1, .int .i64 en.2.1, .int .i64 en.2.2.1, .int .i64 en.2.2.2.1, .int .i64 en.2.2.2.2.1, .int .i64 en.2.2.2.2.2, .int .i64 last, .slice h.1 h.2.1 h.2.2, .int .i64 commit][0]? ∧ ∀ k_1 : Nat, k_1 < 15 → w'.cell? ⟨b, off + p * 15 + k_1, none⟩ = [.int .i64 kind, .int .i64 fr, .int .i64 (j : Int), .int .i64 view, .int .i64 at_, .bool has, .int .i64 en.1, .int .i64 en.2.1, .int .i64 en.2.2.1, .int .i64 en.2.2.2.1, .int .i64 en.2.2.2.2.1, .int .i64 en.2.2.2.2.2, .int .i64 last, .slice h.1 h.2.1 h.2.2, .int .i64 commit][k_1]?))) (by kernel_rfl) ⟨c0, cN, cM⟩ (fun hZq => ?_)
     refine tk 0 hZq ?_;refine tk 1 hZq ?_;refine tk 2 hZq ?_;refine tk 3 hZq ?_;refine tk 4 hZq ?_;refine tk 5 hZq ?_;refine tk 6 hZq ?_;refine tk 7 hZq ?_;refine tk 8 hZq ?_;refine tk 9 hZq ?_;refine tk 10 hZq ?_;refine tk 11 hZq ?_;refine tk 12 hZq ?_;refine tk 13 hZq ?_;refine tk 14 hZq ?_;refine tk 15 hZq ?_;refine tk 16 hZq ?_;refine tk 17 hZq ?_;refine tk 18 hZq ?_;refine tk 19 hZq ?_
     refine rd1 20 (fun KK hKK => ?_)
     go_simp
     go_at_call 86
     refine (l9MailO_is b1 (f1 + j * 10) r hN ⟨kind, fr, (j : Int), view, at_, has, en, last, log, commit⟩ h HS5.out _ XN y c HC.out).mono ?_;rintro e w1 ⟨rfl, BB⟩;replace XN := XN.below BB;replace XM := XM.below BB;replace X0 := X0.below BB;replace cN := XN.cell;replace cM := XM.cell;replace c0 := X0.cell;replace hb := below_next hb BB;clear BB;clear hZq
     refine hKK _ _ ⟨c0, cN, cM⟩ (fun hZq => ?_)
     clear hKK KK;refine tk 21 hZq ?_
     refine wpAnyH_done (by kernel_rfl) ?_ _
     clear XN cN XM cM
     by_cases q5 : c = 0
     rotate_left 1
     ·have q5' : (c != 0) = true := by simp [q5]
      have e := HSt.out c HCI.out q5;subst e;clear HSt HNx HD;go_wp2;go_ret;exact ⟨rfl, hb⟩
     subst q5
     have HN : Hid _ := HNx.out HCI.out
     have HBB : Hid _ := hb
     clear hb HNx HSt c0 X0;go_wp2
     go_roundw
     case rel => exact ⟨p + 1, by omega, by go_num, HN, HBB.out⟩
     case measure => simp [intOf];omega
    ·obtain rfl : p = mn := by omega
     have HD2 := HD.out;rw [if_pos H0.out] at HD2
     replace HD : Hid _ := HD2
     clear HD2;go_wp2_with fail;refine (specLF_is Sl.1 Sl.2.1 Sl.2.2 es _ (HG.out.below hb) d HD.out).mono ?_;rintro e w1 ⟨rfl, BB⟩;replace hb := below_next hb BB;go_wp2;go_ret;exact ⟨rfl, hb⟩
theorem doers_few {w : World} {own : Bool} {lo hi : Nat} {h : RH} {r : Rep} (y : RepAt w own lo hi h r) (hf : repF r = 0) : h.D.2.1 ≤ 1000 := by
 have h1 := rep_size hf;have h2 := (rep_ok hf).2.2.2.1.2.2;have h3 := y.doers.len;rw [h3] at h2
 split at h2 <;> omega
end Go.Proofs.YtclghfoinologaaGreat
