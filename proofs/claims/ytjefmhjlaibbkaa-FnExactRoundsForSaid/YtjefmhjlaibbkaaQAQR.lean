/- Chapter 11: the fault of nodes, of the program. -/
import Derived.Test.YtjefmhjlaibbkaaQAGR
import Derived.Test.YtjefmhjlaibbkaaQABR
import Derived.Test.YtjefmhjlaibbkaaCF0R
import Derived.Test.YtjefmhjlaibbkaaWCR
import Derived.Test.YtjefmhjlaibbkaaQACR
import Derived.Test.YtjefmhjlaibbkaaWIR
import Derived.Test.YtjefmhjlaibbkaaWHR
set_option maxRecDepth 20000
set_option maxHeartbeats 16000000
namespace Go.Proofs.Ytjefmhjlaibbkaa
open Go.RowKit
theorem nodesFault_is {own : Bool} {lo hi : Nat} (N : Hd) (xs : List Nod) (w : World) (x : NAt w own lo hi N xs) (hn : N.2.1 ≤ 1048576) (hs : ∀ (i : Nat) (a : Nod), xs[i]? = some a → RSz a.2 1048576) (d : Int) (hd : nodesF (xs.map (·.1)) = d) :
  Calls Try.prog 76 #[.slice N.1 N.2.1 N.2.2] w fun e w' => e = .returned (.int .i64 d) ∧ Below w.heap.size w w' := by
 obtain ⟨ao, n, cap⟩ := N
 simp only at hn ⊢
 have hl : (xs.map (·.1)).length = n := by simpa using x.len
 unfold nodesF at hd
 obtain ⟨rs, hrs⟩ : ∃ rs, xs.map (·.1) = rs := ⟨_, rfl⟩
 have HR : Hid (∀ (i : Nat) (a : Nod), xs[i]? = some a → rs.getD i rep0 = a.1) := fun i a e => by rw [← hrs]; exact mapD e
 rw [hrs] at hd hl
 rw [hl] at hd
 have HL : Hid _ := hl
 have HD : Hid _ := hd
 have HS : Hid _ := hs
 have Hx : Hid (NAt w own lo hi _ xs) := x
 clear hd hs hrs hl x
 go_enter Try.func76, Try.ntmps76
 go_wp2
 go_loopw [8] (fun i wr => ∃ k : Nat, k ≤ n ∧ i = .int .i64 k ∧ Hid (fstF (nodeF rs) k = 0) ∧ Below w.heap.size w wr) (fun i _ => n - (intOf i).toNat)
 case atStart => exact ⟨0, Nat.zero_le _, rfl, rfl, Below.refl _ _⟩
 case round =>
  obtain ⟨k, hk, rfl, H0, hb⟩ := hrel
  by_cases hlt : k < n
  ·have hlk : (k : Int) < (n : Int) := by omega
   obtain ⟨r, h, b, off, ex, rfl, _, _, XN, y, _⟩ := LAt.node (NAt.below Hx.out hb) hlt
   have cN := XN.cell
   have hmk := HS.out k _ ex
   have HE : Hid (rs.getD k rep0 = r) := HR.out k _ ex
   clear ex
   simp only at hmk
   obtain ⟨c, hc⟩ : ∃ c, repF r = c := ⟨_, rfl⟩
   have HC : Hid _ := hc
   clear hc
   go_wp2_with (first | ((with_reducible refine sm 29 X0 0 [.int .i64 r.id, .int .i64 r.size, .int .i64 r.view, .bool r.normal, .int .i64 r.last, .slice h.L.1 h.L.2.1 h.L.2.2, .int .i64 r.commit, .slice h.O.1 h.O.2.1 h.O.2.2, .slice h.A.1 h.A.2.1 h.A.2.2, .slice h.D.1 h.D.2.1 h.D.2.2] ?_); intro V1 S; replace X0 : Bx V1 b0 [.int .i64 r.id, .int .i64 r.size, .int .i64 r.view, .bool r.normal, .int .i64 r.last, .slice h.L.1 h.L.2.1 h.L.2.2, .int .i64 r.commit, .slice h.O.1 h.O.2.1 h.O.2.2, .slice h.A.1 h.A.2.1 h.A.2.2, .slice h.D.1 h.D.2.1 h.D.2.2] := S.bx; replace c0 := X0.cell; replace f0 := X0.froz; replace B := bkp B S.kept; clear S) | ((with_reducible refine al 29 [.int .i64 0, .int .i64 0, .int .i64 0, .bool false, .int .i64 0, .slice none 0 0, .int .i64 0, .slice none 0 0, .slice none 0 0, .slice none 0 0] ?_); intro b0 W0 N0; have ob0 := N0.ge; have B := N0.below; obtain ⟨X0, c0, f0⟩ := N0.a; clear N0) | fail)
   clear XN cN
   refine (implRF_is r h _ (y.below B) (hmk.mono (by omega)) c HC.out).mono ?_
   rintro e w1 ⟨rfl, BB⟩
   replace X0 := X0.below BB
   replace c0 := X0.cell
   replace f0 := X0.froz
   replace B := below_next B BB
   clear BB
   by_cases q0 : c = 0
   rotate_left 1
   ·have q0' : (c != 0) = true := by simp [q0]
    have e := fstF_stop HD.out H0.out hlt (nodeF_rep HE.out HC.out q0) q0
    subst e
    have hbb := below_next hb B
    clear hb HD
    go_wp2
    go_ret
    exact ⟨rfl, hbb⟩
   subst q0
   by_cases q1 : r.id = k
   rotate_left 1
   ·have q1' : (r.id != (k : Int)) = true := by simp [q1]
    have e := fstF_stop HD.out H0.out hlt (nodeF_form HE.out HC.out (fun z => q1 z.1)) (by decide)
    subst e
    have hbb := below_next hb B
    clear hb HD
    go_wp2
    go_ret
    exact ⟨rfl, hbb⟩
   have q1' : (r.id != (k : Int)) = false := by simp [q1]
   have Q1 : Hid _ := q1
   clear q1
   by_cases q2 : r.size = n
   rotate_left 1
   ·have q2' : (r.size != (n : Int)) = true := by simp [q2]
    have e := fstF_stop HD.out H0.out hlt (nodeF_form HE.out HC.out (fun z => q2 (by rw [z.2, HL.out]))) (by decide)
    subst e
    have hbb := below_next hb B
    clear hb HD
    go_wp2
    go_ret
    exact ⟨rfl, hbb⟩
   have q2' : (r.size != (n : Int)) = false := by simp [q2]
   have Q2 : Hid _ := q2
   clear q2
   have HN : Hid (fstF (nodeF rs) (k + 1) = 0) := fstF_next H0.out (nodeF_ok HE.out HC.out ⟨Q1.out, by rw [HL.out]; exact Q2.out⟩)
   have HB : Hid _ := below_next hb B
   clear hb
   go_wp2
   go_roundw
   case rel => exact ⟨k + 1, by omega, by go_num, HN, HB.out⟩
   case measure => simp [intOf]; omega
  ·obtain rfl : k = n := by omega
   have e : d = 0 := by rw [← HD.out]; exact H0.out
   subst e
   clear HD
   go_wp2
   go_ret
   exact ⟨rfl, hb⟩
theorem mailsFault_is {own o2 : Bool} {lo hi l2 u2 : Nat} (N M : Hd) (xs : List Nod) (ms : List Mal) (w : World) (x : NAt w own lo hi N xs) (y : MAt w o2 l2 u2 M ms) (hn : N.2.1 ≤ 1048576) (hm : M.2.1 ≤ 1048576) (hr : nodesF (xs.map (·.1)) = 0) (d : Int) (hd : mailsF (xs.map (·.1)) (ms.map (·.1)) = d) :
  Calls Try.prog 77 #[.slice M.1 M.2.1 M.2.2, .slice N.1 N.2.1 N.2.2] w fun e w' => e = .returned (.int .i64 d) ∧ Below w.heap.size w w' := by
 obtain ⟨na, nn, nc⟩ := N
 obtain ⟨ao, n, cap⟩ := M
 simp only at hn hm ⊢
 have hl : (xs.map (·.1)).length = nn := by simpa using x.len
 have hl2 : (ms.map (·.1)).length = n := by simpa using y.len
 unfold mailsF at hd
 obtain ⟨rs, hrs⟩ : ∃ rs, xs.map (·.1) = rs := ⟨_, rfl⟩
 obtain ⟨ns, hns⟩ : ∃ ns, ms.map (·.1) = ns := ⟨_, rfl⟩
 have HR : Hid (∀ (i : Nat) (a : Nod), xs[i]? = some a → rs.getD i rep0 = a.1) := fun i a e => by rw [← hrs]; exact mapD e
 have HM : Hid (∀ (i : Nat) (a : Mal), ms[i]? = some a → ns.getD i ml0 = a.1) := fun i a e => by rw [← hns]; exact mapD e
 rw [hns] at hd hl2
 rw [hrs] at hd hl hr
 rw [hl2] at hd
 have HL : Hid _ := hl
 have HD : Hid _ := hd
 have HA : Hid (∀ i, i < nn → 1 ≤ (rs.getD i rep0).size ∧ (rs.getD i rep0).size ≤ 5) := fun i hi => rep_size (nodesF_all hr i (by rw [hl]; exact hi)).1
 have Hx : Hid (NAt w own lo hi _ xs) := x
 have Hy : Hid (MAt w o2 l2 u2 _ ms) := y
 clear hd hrs hns hl hl2 hr x y
 go_enter Try.func77, Try.ntmps77
 go_wp2
 go_loopw [10] (fun i wr => ∃ k : Nat, k ≤ n ∧ i = .int .i64 k ∧ Hid (fstF (fun i => mailIn rs (ns.getD i ml0)) k = 0) ∧ Below w.heap.size w wr) (fun i _ => n - (intOf i).toNat)
 case atStart => exact ⟨0, Nat.zero_le _, rfl, rfl, Below.refl _ _⟩
 case round =>
  obtain ⟨k, hk, rfl, H0, hb⟩ := hrel
  by_cases hlt : k < n
  ·have hlk : (k : Int) < (n : Int) := by omega
   obtain ⟨m, h, b, off, ex, rfl, _, _, XN, y, _⟩ := LAt.mail (MAt.below Hy.out hb) hlt
   have HE : Hid (ns.getD k ml0 = m) := HM.out k _ ex
   clear ex
   have HSt : Hid (∀ c : Int, mailIn rs m = c → c ≠ 0 → d = c) := fun c hc h1 => fstF_stop HD.out H0.out hlt (by show mailIn rs (ns.getD k ml0) = c; rw [HE.out]; exact hc) h1
   have HNx : Hid (mailIn rs m = 0 → fstF (fun i => mailIn rs (ns.getD i ml0)) (k + 1) = 0) := fun hc => fstF_next H0.out (by show mailIn rs (ns.getD k ml0) = 0; rw [HE.out]; exact hc)
   obtain ⟨kind, fr, tq, view, at_, has, en, last, log, commit⟩ := m
   simp only at XN y
   have cN := XN.cell
   clear HE
   go_wp2_with (first | ((with_reducible refine sm 99 X0 0 [.int .i64 kind, .int .i64 fr, .int .i64 tq, .int .i64 view, .int .i64 at_, .bool has, .int .i64 en.1, .int .i64 en.2.1, .int .i64 en.2.2.1, .int .i64 en.2.2.2.1, .int .i64 en.2.2.2.2.1, .int .i64 en.2.2.2.2.2, .int .i64 last, .slice h.1 h.2.1 h.2.2, .int .i64 commit] ?_); intro V1 S; replace X0 : Bx V1 b0 [.int .i64 kind, .int .i64 fr, .int .i64 tq, .int .i64 view, .int .i64 at_, .bool has, .int .i64 en.1, .int .i64 en.2.1, .int .i64 en.2.2.1, .int .i64 en.2.2.2.1, .int .i64 en.2.2.2.2.1, .int .i64 en.2.2.2.2.2, .int .i64 last, .slice h.1 h.2.1 h.2.2, .int .i64 commit] := S.bx; replace c0 := X0.cell; replace f0 := X0.froz; replace B := bkp B S.kept; clear S) | ((with_reducible refine al 99 [.int .i64 0, .int .i64 0, .int .i64 0, .int .i64 0, .int .i64 0, .bool false, .int .i64 0, .int .i64 0, .int .i64 0, .int .i64 0, .int .i64 0, .int .i64 0, .int .i64 0, .slice none 0 0, .int .i64 0] ?_); intro b0 W0 N0; have ob0 := N0.ge; have B := N0.below; obtain ⟨X0, c0, f0⟩ := N0.a; clear N0) | fail)
   clear XN cN
   by_cases q0 : 0 ≤ tq ∧ tq ≤ (nn : Int) - 1
   rotate_left 1
   ·have e := HSt.out 3 (by unfold mailIn; rw [HL.out]; exact if_neg q0) (by decide)
    subst e
    have hbb := below_next hb B
    clear hb HD HSt HNx
    refine (isPlaceOf_is nn tq _ false (by simp only [decide_eq_false_eq]; exact q0)).mono ?_
    rintro e W9 ⟨rfl, rfl⟩
    go_wp2
    go_ret
    exact ⟨rfl, hbb⟩
   refine (isPlaceOf_is nn tq _ true (by simp only [decide_eq_true_eq]; exact q0)).mono ?_
   rintro e W9 ⟨rfl, rfl⟩
   obtain ⟨j, hj⟩ : ∃ j : Nat, tq = (j : Int) := ⟨tq.toNat, by omega⟩
   have HQ : Hid (∀ c : Int, mailAtF (rs.getD j rep0) ⟨kind, fr, tq, view, at_, has, en, last, log, commit⟩ = c → mailIn rs ⟨kind, fr, tq, view, at_, has, en, last, log, commit⟩ = c) := fun c hc => by unfold mailIn; rw [HL.out, if_pos q0]; show mailAtF (rs.getD tq.toNat rep0) _ = c; rw [hj] at hc ⊢; exact hc
   have hjn : j < nn := by omega
   subst hj
   clear q0
   have hbb := below_next hb B
   clear hb
   obtain ⟨r, hN, b1, f1, ex1, rfl, _, _, XN, _, _⟩ := LAt.node (NAt.below Hx.out hbb) hjn
   have HJ := HR.out j _ ex1
   simp only at HJ
   have HSz := HA.out j hjn
   rw [HJ] at HQ HSz
   have HS5 : Hid _ := HSz
   clear HJ ex1 HSz
   obtain ⟨c, hc⟩ : ∃ c, mailAtF r ⟨kind, fr, (j : Int), view, at_, has, en, last, log, commit⟩ = c := ⟨_, rfl⟩
   have HC : Hid _ := hc
   have HCI : Hid _ := HQ.out c hc
   clear hc HQ
   have hjk : (j : Int) < (nn : Int) := by omega
   have hj0 : (0 : Int) ≤ (j : Int) := by omega
   have cN := XN.cell
   go_wp2_with fail
   have DQ : Below W9.heap.size W9 W9.drew := (Below.refl _ _).drew
   replace XN := XN.below DQ
   replace cN := XN.cell
   replace hbb := below_next hbb DQ
   replace X0 := X0.below DQ
   replace c0 := X0.cell
   replace f0 := X0.froz
   replace B := below_next B DQ
   clear DQ
   refine wp_region_held_drew (S := (fun w' => (∀ k : Nat, w'.cell? ⟨b0, k, none⟩ = [.int .i64 kind, .int .i64 fr, .int .i64 (j : Int), .int .i64 view, .int .i64 at_, .bool has, .int .i64 en.1, .int .i64 en.2.1, .int .i64 en.2.2.1, .int .i64 en.2.2.2.1, .int .i64 en.2.2.2.2.1, .int .i64 en.2.2.2.2.2, .int .i64 last, .slice h.1 h.2.1 h.2.2, .int .i64 commit][k]?) ∧ (w'.cell? ⟨b1, f1 + j * 10, none⟩ = [.int .i64 r.id, .int .i64 r.size, .int .i64 r.view, .bool r.normal, .int .i64 r.last, .slice hN.L.1 hN.L.2.1 hN.L.2.2, .int .i64 r.commit, .slice hN.O.1 hN.O.2.1 hN.O.2.2, .slice hN.A.1 hN.A.2.1 hN.A.2.2, .slice hN.D.1 hN.D.2.1 hN.D.2.2][0]? ∧ ∀ k_1 : Nat, k_1 < 10 → w'.cell? ⟨b1, f1 + j * 10 + k_1, none⟩ = [.int .i64 r.id, .int .i64 r.size, .int .i64 r.view, .bool r.normal, .int .i64 r.last, .slice hN.L.1 hN.L.2.1 hN.L.2.2, .int .i64 r.commit, .slice hN.O.1 hN.O.2.1 hN.O.2.2, .slice hN.A.1 hN.A.2.1 hN.A.2.2, .slice hN.D.1 hN.D.2.1 hN.D.2.2][k_1]?))) (by kernel_rfl) ⟨c0, cN⟩ (fun hZq => ?_)
   refine tk 0 hZq ?_
   refine tk 1 hZq ?_
   refine tk 2 hZq ?_
   refine tk 3 hZq ?_
   refine tk 4 hZq ?_
   refine tk 5 hZq ?_
   refine rd1 6 (fun KK hKK => ?_)
   go_simp
   go_at_call 103
   refine (mailAt_is r hN ⟨kind, fr, (j : Int), view, at_, has, en, last, log, commit⟩ h HS5.out _ (y.below B) c HC.out).mono ?_
   rintro e w1 ⟨rfl, BB⟩
   replace XN := XN.below BB
   replace cN := XN.cell
   replace hbb := below_next hbb BB
   replace X0 := X0.below BB
   replace c0 := X0.cell
   replace f0 := X0.froz
   replace B := below_next B BB
   clear BB
   clear hZq
   refine hKK _ _ ⟨c0, cN⟩ (fun hZq => ?_)
   clear hKK KK
   refine tk 7 hZq ?_
   refine wpAnyH_done (by kernel_rfl) ?_ _
   clear XN cN
   by_cases q1 : c = 0
   rotate_left 1
   ·have q1' : (c != 0) = true := by simp [q1]
    have e := HSt.out c HCI.out q1
    subst e
    clear HSt HNx HD
    go_wp2
    go_ret
    exact ⟨rfl, hbb⟩
   subst q1
   have HN : Hid _ := HNx.out HCI.out
   have HB : Hid _ := hbb
   clear hbb HNx HSt
   go_wp2
   go_roundw
   case rel => exact ⟨k + 1, by omega, by go_num, HN, HB.out⟩
   case measure => simp [intOf]; omega
  ·obtain rfl : k = n := by omega
   have e : d = 0 := by rw [← HD.out]; exact H0.out
   subst e
   clear HD
   go_wp2
   go_ret
   exact ⟨rfl, hb⟩
theorem implClF_is {own : Bool} {lo hi : Nat} (N M Sl : Hd) (xs : List Nod) (ms : List Mal) (es : List En) (w : World) (x : ClAt w own lo hi N M Sl xs ms es) (hs : ClSz N M Sl xs ms 1048576) (d : Int) (hd : cluF (xs.map (·.1)) (ms.map (·.1)) es = d) :
  Calls Try.prog 39 #[.agg #[.slice N.1 N.2.1 N.2.2, .slice M.1 M.2.1 M.2.2, .slice Sl.1 Sl.2.1 Sl.2.2]] w fun e w' => e = .returned (.int .i64 d) ∧ Below w.heap.size w w' := by
 have hl : (xs.map (·.1)).length = N.2.1 := by simpa using x.nodes.len
 have hl2 : (ms.map (·.1)).length = M.2.1 := by simpa using x.mails.len
 unfold cluF at hd
 rw [hl, hl2] at hd
 have HD : Hid _ := hd
 have HS : Hid _ := hs
 clear hd hl hl2 hs
 go_enter Try.func39, Try.ntmps39
 go_wp2_with (first | ((with_reducible refine box_newX 49 [.slice N.1 N.2.1 N.2.2, .slice M.1 M.2.1 M.2.2, .slice Sl.1 Sl.2.1 Sl.2.2] rfl ?_); intro b0 W0 N0; have ob0 := N0.ge; have B := N0.below; obtain ⟨X0, c0⟩ := N0.c; clear N0) | fail)
 by_cases q0 : 1 ≤ (N.2.1 : Int) ∧ (N.2.1 : Int) ≤ 5
 rotate_left 1
 ·have e := HD.out
  rw [if_neg (fun z => q0 z.1)] at e
  subst e
  clear HD
  refine (isSize_is N.2.1 _ false (by simp only [decide_eq_false_eq]; exact q0)).mono ?_
  rintro e W9 ⟨rfl, rfl⟩
  go_wp2
  go_ret
  exact ⟨rfl, B⟩
 refine (isSize_is N.2.1 _ true (by simp only [decide_eq_true_eq]; exact q0)).mono ?_
 rintro e W9 ⟨rfl, rfl⟩
 by_cases q1 : M.2.1 ≤ 120
 rotate_left 1
 ·have e := HD.out
  rw [if_neg (fun z => q1 z.2)] at e
  subst e
  clear HD
  have q1' : (120 : Int) < (M.2.1 : Int) := by omega
  go_wp2
  go_ret
  exact ⟨rfl, B⟩
 have q1' : ¬ (120 : Int) < (M.2.1 : Int) := by omega
 have HD2 := HD.out
 rw [if_pos ⟨q0, q1⟩] at HD2
 replace HD : Hid _ := HD2
 clear HD2
 go_wp2_with fail
 obtain ⟨c, hc⟩ : ∃ c, nodesF (xs.map (·.1)) = c := ⟨_, rfl⟩
 have HC : Hid _ := hc
 have HD2 := HD.out
 rw [hc] at HD2
 replace HD : Hid _ := HD2
 clear HD2 hc
 refine (nodesFault_is N xs _ (x.nodes.below B) HS.out.n HS.out.nodes c HC.out).mono ?_
 rintro e w1 ⟨rfl, BB⟩
 replace X0 := X0.below BB
 replace c0 := X0.cell
 replace B := below_next B BB
 clear BB
 by_cases q2 : c = 0
 rotate_left 1
 ·have q2' : (c != 0) = true := by simp [q2]
  have e := HD.out
  rw [if_neg q2] at e
  subst e
  clear HD
  go_wp2
  go_ret
  exact ⟨rfl, B⟩
 subst q2
 have HD2 := HD.out
 rw [if_pos rfl] at HD2
 replace HD : Hid _ := HD2
 clear HD2
 obtain ⟨c, hc⟩ : ∃ c, mailsF (xs.map (·.1)) (ms.map (·.1)) = c := ⟨_, rfl⟩
 have HC2 : Hid _ := hc
 have HD2 := HD.out
 rw [hc] at HD2
 replace HD : Hid _ := HD2
 clear HD2 hc
 go_wp2_with fail
 refine (mailsFault_is N M xs ms _ (x.nodes.below B) (x.mails.below B) HS.out.n HS.out.m HC.out c HC2.out).mono ?_
 rintro e w2 ⟨rfl, BB⟩
 replace X0 := X0.below BB
 replace c0 := X0.cell
 replace B := below_next B BB
 clear BB
 by_cases q3 : c = 0
 rotate_left 1
 ·have q3' : (c != 0) = true := by simp [q3]
  have e := HD.out
  rw [if_neg q3] at e
  subst e
  clear HD
  go_wp2
  go_ret
  exact ⟨rfl, B⟩
 subst q3
 have HD2 := HD.out
 rw [if_pos rfl] at HD2
 replace HD : Hid _ := HD2
 clear HD2
 go_wp2_with fail
 refine (implLF_is Sl.1 Sl.2.1 Sl.2.2 es _ (x.slog.below B) d HD.out).mono ?_
 rintro e w3 ⟨rfl, BB⟩
 replace X0 := X0.below BB
 replace c0 := X0.cell
 replace B := below_next B BB
 clear BB
 go_wp2
 go_ret
 exact ⟨rfl, B⟩
theorem l9View_is (n : Int) (w : World) (d : Bool) (h : decide (0 ≤ n ∧ n ≤ 200) = d) : Calls Try.prog 63 #[.int .i64 n] w fun e w' => e = .returned (.bool d) ∧ w' = w := by
 go_enter Try.func63, Try.ntmps63
 go_wp2_with fail
 refine (l1In_is' n 0 200 _ d h).mono ?_
 rintro e W9 ⟨rfl, rfl⟩
 go_wp2
 go_ret
 exact ⟨rfl, rfl⟩
theorem l9Doer_is {own : Bool} {lo hi : Nat} (b o : Nat) (kn : Bool) (la cm : Int) (a : Option Addr) (n cap : Nat) (xs : List En) (w : World) (e0 : w.cell? ⟨b, o, none⟩ = some (.bool kn)) (e1 : w.cell? ⟨b, o + 1, none⟩ = some (.int .i64 la)) (e2 : w.cell? ⟨b, o + 2, none⟩ = some (.slice a n cap)) (e3 : w.cell? ⟨b, o + 3, none⟩ = some (.int .i64 cm)) (h : RowAt w own lo hi 6 a n cap (sixs xs)) (d : Int) (hd : drFault (kn, la, xs, cm) = d) : Calls Try.prog 66 #[.pointer (some ⟨b, o, none⟩)] w fun e w' => e = .returned (.int .i64 d) ∧ Below w.heap.size w w' := by
 have hx := h.nSixs
 unfold drFault at hd
 simp only [hx] at hd
 have HD : Hid _ := hd
 clear hd
 unfold lgF at HD
 rw [hx] at HD
 obtain ⟨f, hf⟩ : ∃ f, logF xs = f := ⟨_, rfl⟩
 rw [hf] at HD
 have HF : Hid _ := hf
 clear hf
 cases kn
 ·by_cases q1 : la = 0
  rotate_left 1
  ·have e := HD.out
   rw [if_pos ⟨rfl, Or.inl q1⟩] at e
   subst e
   have q1' : (la != 0) = true := by simp [q1]
   clear HD
   go_enter Try.func66, Try.ntmps66
   go_wp2
   go_ret
   exact ⟨rfl, Below.refl _ _⟩
  by_cases q2 : n = 0
  rotate_left 1
  ·have e := HD.out
   rw [if_pos ⟨rfl, Or.inr (Or.inl q2)⟩] at e
   subst e
   have q2' : (0 : Int) < (n : Int) := by omega
   have q1' : (la != 0) = false := by simp [q1]
   clear HD
   go_enter Try.func66, Try.ntmps66
   go_wp2
   go_ret
   exact ⟨rfl, Below.refl _ _⟩
  by_cases q3 : cm = 0
  rotate_left 1
  ·have e := HD.out
   rw [if_pos ⟨rfl, Or.inr (Or.inr q3)⟩] at e
   subst e
   have q3' : (cm != 0) = true := by simp [q3]
   have q2' : ¬ (0 : Int) < (n : Int) := by omega
   have q1' : (la != 0) = false := by simp [q1]
   clear HD
   go_enter Try.func66, Try.ntmps66
   go_wp2
   go_ret
   exact ⟨rfl, Below.refl _ _⟩
  have hd := HD.out
  rw [if_neg (by simp [q1, q2, q3])] at hd
  clear HD
  subst q1
  subst q3
  subst q2
  go_enter Try.func66, Try.ntmps66
  go_wp2_with fail
  have hl : (0 : Int) ≤ 0 ∧ (0 : Int) ≤ 200 := by omega
  rw [if_pos hl] at hd
  refine (l9View_is 0 _ true (by simp only [decide_eq_true_eq]; exact hl)).mono ?_
  rintro e W9 ⟨rfl, rfl⟩
  go_wp2_with fail
  refine (specLF_is a 0 cap xs _ h f HF.out).mono ?_
  rintro e w1 ⟨rfl, B⟩
  replace e0 := cell_later B e0
  replace e1 := cell_later B e1
  replace e2 := cell_later B e2
  replace e3 := cell_later B e3
  by_cases q : f = 0
  rotate_left 1
  ·rw [if_neg q] at hd
   subst hd
   have q' : (f != 0) = true := by simp [q]
   go_wp2
   go_ret
   exact ⟨rfl, B⟩
  subst q
  rw [if_pos rfl] at hd
  have D : Below w1.heap.size w1 w1.drew := (Below.refl _ _).drew
  replace e0 := cell_later D e0
  replace e1 := cell_later D e1
  replace e2 := cell_later D e2
  replace e3 := cell_later D e3
  replace B := below_next B D
  clear D
  rw [if_pos (by simp)] at hd
  subst hd
  go_wp2_with fail
  refine wp_region_held_drew (S := (fun w' => w'.cell? ⟨b, o + 2, none⟩ = some (.slice a 0 cap) ∧ w'.cell? ⟨b, o + 3, none⟩ = some (.int .i64 0))) (by kernel_rfl) ⟨e2, e3⟩ (fun hZq => ?_)
  refine tk 0 hZq ?_
  refine tk 1 hZq ?_
  refine tk 2 hZq ?_
  refine tk 3 hZq ?_
  refine tk 4 hZq ?_
  refine tk 5 hZq ?_
  refine tk 6 hZq ?_
  refine tk 7 hZq ?_
  refine tk 8 hZq ?_
  refine rd1 9 (fun KK hKK => ?_)
  go_simp
  go_at_call 62
  refine (l1In_is' 0 0 0 _ true (by simp only [decide_eq_true_eq]; omega)).mono ?_
  rintro e W9 ⟨rfl, rfl⟩
  clear hZq
  refine hKK _ _ ⟨e2, e3⟩ (fun hZq => ?_)
  clear hKK KK
  refine tk 10 hZq ?_
  refine wpAnyH_done (by kernel_rfl) ?_ _
  go_wp2
  go_ret
  exact ⟨rfl, B⟩
 ·have hd := HD.out
  rw [if_neg (by simp)] at hd
  clear HD
  go_enter Try.func66, Try.ntmps66
  go_wp2_with fail
  by_cases hl : 0 ≤ la ∧ la ≤ 200
  rotate_left 1
  ·rw [if_neg hl] at hd
   subst hd
   refine (l9View_is la _ false (by simp only [decide_eq_false_eq]; exact hl)).mono ?_
   rintro e W9 ⟨rfl, rfl⟩
   go_wp2
   go_ret
   exact ⟨rfl, Below.refl _ _⟩
  rw [if_pos hl] at hd
  refine (l9View_is la _ true (by simp only [decide_eq_true_eq]; exact hl)).mono ?_
  rintro e W9 ⟨rfl, rfl⟩
  go_wp2_with fail
  refine (specLF_is a n cap xs _ h f HF.out).mono ?_
  rintro e w1 ⟨rfl, B⟩
  replace e0 := cell_later B e0
  replace e1 := cell_later B e1
  replace e2 := cell_later B e2
  replace e3 := cell_later B e3
  by_cases q : f = 0
  rotate_left 1
  ·rw [if_neg q] at hd
   subst hd
   have q' : (f != 0) = true := by simp [q]
   go_wp2
   go_ret
   exact ⟨rfl, B⟩
  subst q
  rw [if_pos rfl] at hd
  have D : Below w1.heap.size w1 w1.drew := (Below.refl _ _).drew
  replace e0 := cell_later D e0
  replace e1 := cell_later D e1
  replace e2 := cell_later D e2
  replace e3 := cell_later D e3
  replace B := below_next B D
  clear D
  by_cases hc : 0 ≤ cm ∧ cm ≤ n
  ·rw [if_pos hc] at hd
   subst hd
   go_wp2_with fail
   refine wp_region_held_drew (S := (fun w' => w'.cell? ⟨b, o + 2, none⟩ = some (.slice a n cap) ∧ w'.cell? ⟨b, o + 3, none⟩ = some (.int .i64 cm))) (by kernel_rfl) ⟨e2, e3⟩ (fun hZq => ?_)
   refine tk 0 hZq ?_
   refine tk 1 hZq ?_
   refine tk 2 hZq ?_
   refine tk 3 hZq ?_
   refine tk 4 hZq ?_
   refine tk 5 hZq ?_
   refine tk 6 hZq ?_
   refine tk 7 hZq ?_
   refine tk 8 hZq ?_
   refine rd1 9 (fun KK hKK => ?_)
   go_simp
   go_at_call 62
   refine (l1In_is' cm 0 n _ true (by simp only [decide_eq_true_eq]; exact hc)).mono ?_
   rintro e W9 ⟨rfl, rfl⟩
   clear hZq
   refine hKK _ _ ⟨e2, e3⟩ (fun hZq => ?_)
   clear hKK KK
   refine tk 10 hZq ?_
   refine wpAnyH_done (by kernel_rfl) ?_ _
   go_wp2
   go_ret
   exact ⟨rfl, B⟩
  ·rw [if_neg hc] at hd
   subst hd
   go_wp2_with fail
   refine wp_region_held_drew (S := (fun w' => w'.cell? ⟨b, o + 2, none⟩ = some (.slice a n cap) ∧ w'.cell? ⟨b, o + 3, none⟩ = some (.int .i64 cm))) (by kernel_rfl) ⟨e2, e3⟩ (fun hZq => ?_)
   refine tk 0 hZq ?_
   refine tk 1 hZq ?_
   refine tk 2 hZq ?_
   refine tk 3 hZq ?_
   refine tk 4 hZq ?_
   refine tk 5 hZq ?_
   refine tk 6 hZq ?_
   refine tk 7 hZq ?_
   refine tk 8 hZq ?_
   refine rd1 9 (fun KK hKK => ?_)
   go_simp
   go_at_call 62
   refine (l1In_is' cm 0 n _ false (by simp only [decide_eq_false_eq]; exact hc)).mono ?_
   rintro e W9 ⟨rfl, rfl⟩
   clear hZq
   refine hKK _ _ ⟨e2, e3⟩ (fun hZq => ?_)
   clear hKK KK
   refine tk 10 hZq ?_
   refine wpAnyH_done (by kernel_rfl) ?_ _
   go_wp2
   go_ret
   exact ⟨rfl, B⟩
def numN (A P L : Bool) (m : Ml) : Prop := (A = true → 0 ≤ m.at_ ∧ m.at_ ≤ 40) ∧ (P = true → 0 ≤ m.commit ∧ m.commit ≤ 40) ∧ (L = true → 0 ≤ m.last ∧ m.last ≤ m.view)
instance (A P L : Bool) (m : Ml) : Decidable (numN A P L m) := by unfold numN; infer_instance
end Go.Proofs.Ytjefmhjlaibbkaa
