/- Chapter 11: the fault of nodes, of the program. -/
import Derived.Test.YtannjgdginfgeaaQAGS
import Derived.Test.YtannjgdginfgeaaQABS
import Derived.Test.YtannjgdginfgeaaQAOS
import Derived.Test.YtannjgdginfgeaaWCS
import Derived.Test.YtannjgdginfgeaaQACS
import Derived.Test.YtannjgdginfgeaaWIS
import Derived.Test.YtannjgdginfgeaaQANS
import Derived.BigQuiet
import Derived.Test.YtannjgdginfgeaaQAIS
import Derived.WalkLawsBesides
import Derived.Defers
import Derived.Laws.Pointers
import Derived.Deep.RegionHeld3
import Derived.Deep.DeepCutAuto
import Derived.Deep.RegionLaw
import Derived.OwnWalk
import Derived.Test.YtannjgdginfgeaaXAS
import Derived.Test.YtannjgdginfgeaaWHS
import Derived.Test.YtannjgdginfgeaaZCS
set_option maxRecDepth 20000
set_option maxHeartbeats 16000000
namespace Go.Proofs.Ytannjgdginfgeaa
open Go.RowKit
theorem nodesFault_is {own : Bool} {lo hi : Nat} (N : Hd) (xs : List Nod) (w : World) (x : NAt w own lo hi N xs) (hn : N.2.1 ≤ 1048576) (hs : ∀ (i : Nat) (a : Nod), xs[i]? = some a → RSz a.2 1048576) (d : Int) (hd : nodesF (xs.map (·.1)) = d) :
  Calls Try.prog 78 #[.slice N.1 N.2.1 N.2.2] w fun e w' => e = .returned (.int .i64 d) ∧ Below w.heap.size w w' := by
 obtain ⟨ao, n, cap⟩ := N
 simp only at hn ⊢
 have hl : (xs.map (·.1)).length = n := by simpa using x.len
 unfold nodesF at hd
 obtain ⟨rs, hrs⟩ : ∃ rs, xs.map (·.1) = rs := ⟨_, rfl⟩
 have HR : Hid (∀ (i : Nat) (a : Nod), xs[i]? = some a → rs.getD i rep0 = a.1) := fun i a e => by rw [← hrs]; exact mapD e
 rw [hrs] at hd hl
 rw [hl] at hd
 have HL : Hid _ := hl
 have HD : Hid _ := hd
 have HS : Hid _ := hs
 have Hx : Hid (NAt w own lo hi _ xs) := x
 clear hd hs hrs hl x
 go_enter Try.func78, Try.ntmps78
 go_wp2
 go_loopw [8] (fun i wr => ∃ k : Nat, k ≤ n ∧ i = .int .i64 k ∧ Hid (fstF (nodeF rs) k = 0) ∧ Below w.heap.size w wr) (fun i _ => n - (intOf i).toNat)
 case atStart => exact ⟨0, Nat.zero_le _, rfl, rfl, Below.refl _ _⟩
 case round =>
  obtain ⟨k, hk, rfl, H0, hb⟩ := hrel
  by_cases hlt : k < n
  ·have hlk : (k : Int) < (n : Int) := by omega
   obtain ⟨r, h, b, off, ex, rfl, _, _, XN, y, _⟩ := LAt.node (NAt.below Hx.out hb) hlt
   have cN := XN.cell
   have hmk := HS.out k _ ex
   have HE : Hid (rs.getD k rep0 = r) := HR.out k _ ex
   clear ex
   simp only at hmk
   obtain ⟨c, hc⟩ : ∃ c, repF r = c := ⟨_, rfl⟩
   have HC : Hid _ := hc
   clear hc
   go_wp2_with (first | ((with_reducible refine store_midX 64 X0 0 [.int .i64 r.id, .int .i64 r.size, .int .i64 r.view, .bool r.normal, .int .i64 r.last, .slice h.L.1 h.L.2.1 h.L.2.2, .int .i64 r.commit, .slice h.O.1 h.O.2.1 h.O.2.2, .slice h.A.1 h.A.2.1 h.A.2.2, .slice h.D.1 h.D.2.1 h.D.2.2] (by simp) (by kernel_rfl) (by simp [Value.oneCell']) rfl rfl ?_); intro V1 S; replace X0 : Bx V1 b0 [.int .i64 r.id, .int .i64 r.size, .int .i64 r.view, .bool r.normal, .int .i64 r.last, .slice h.L.1 h.L.2.1 h.L.2.2, .int .i64 r.commit, .slice h.O.1 h.O.2.1 h.O.2.2, .slice h.A.1 h.A.2.1 h.A.2.2, .slice h.D.1 h.D.2.1 h.D.2.2] := S.bx; replace c0 := X0.cell; replace f0 := X0.froz; replace B := bkp B S.kept; clear S) | ((with_reducible refine alloc_newX 64 [.int .i64 0, .int .i64 0, .int .i64 0, .bool false, .int .i64 0, .slice none 0 0, .int .i64 0, .slice none 0 0, .slice none 0 0, .slice none 0 0] (fun _ => by kernel_rfl) ?_); intro b0 W0 N0; have ob0 := N0.ge; have B := N0.below; have X0 := N0.bx; have c0 := X0.cell; have f0 := X0.froz; clear N0) | fail)
   clear XN cN
   refine (implRF_is r h _ (y.below B) (hmk.mono (by omega)) c HC.out).mono ?_
   rintro e w1 ⟨rfl, BB⟩
   replace X0 := X0.below BB
   replace c0 := X0.cell
   replace f0 := X0.froz
   replace B := below_next B BB
   clear BB
   by_cases q0 : c = 0
   rotate_left 1
   ·have q0' : (c != 0) = true := by simp [q0]
    have e := fstF_stop HD.out H0.out hlt (nodeF_rep HE.out HC.out q0) q0
    subst e
    have hbb := below_next hb B
    clear hb HD
    go_wp2
    go_ret
    exact ⟨rfl, hbb⟩
   subst q0
   by_cases q1 : r.id = k
   rotate_left 1
   ·have q1' : (r.id != (k : Int)) = true := by simp [q1]
    have e := fstF_stop HD.out H0.out hlt (nodeF_form HE.out HC.out (fun z => q1 z.1)) (by decide)
    subst e
    have hbb := below_next hb B
    clear hb HD
    go_wp2
    go_ret
    exact ⟨rfl, hbb⟩
   have q1' : (r.id != (k : Int)) = false := by simp [q1]
   have Q1 : Hid _ := q1
   clear q1
   by_cases q2 : r.size = n
   rotate_left 1
   ·have q2' : (r.size != (n : Int)) = true := by simp [q2]
    have e := fstF_stop HD.out H0.out hlt (nodeF_form HE.out HC.out (fun z => q2 (by rw [z.2, HL.out]))) (by decide)
    subst e
    have hbb := below_next hb B
    clear hb HD
    go_wp2
    go_ret
    exact ⟨rfl, hbb⟩
   have q2' : (r.size != (n : Int)) = false := by simp [q2]
   have Q2 : Hid _ := q2
   clear q2
   have HN : Hid (fstF (nodeF rs) (k + 1) = 0) := fstF_next H0.out (nodeF_ok HE.out HC.out ⟨Q1.out, by rw [HL.out]; exact Q2.out⟩)
   have HB : Hid _ := below_next hb B
   clear hb
   go_wp2
   go_roundw
   case rel => exact ⟨k + 1, by omega, by go_num, HN, HB.out⟩
   case measure => simp [intOf]; omega
  ·obtain rfl : k = n := by omega
   have e : d = 0 := by rw [← HD.out]; exact H0.out
   subst e
   clear HD
   go_wp2
   go_ret
   exact ⟨rfl, hb⟩
theorem mailsFault_is {own o2 : Bool} {lo hi l2 u2 : Nat} (N M : Hd) (xs : List Nod) (ms : List Mal) (w : World) (x : NAt w own lo hi N xs) (y : MAt w o2 l2 u2 M ms) (hn : N.2.1 ≤ 1048576) (hm : M.2.1 ≤ 1048576) (hr : nodesF (xs.map (·.1)) = 0) (d : Int) (hd : mailsF (xs.map (·.1)) (ms.map (·.1)) = d) :
  Calls Try.prog 79 #[.slice M.1 M.2.1 M.2.2, .slice N.1 N.2.1 N.2.2] w fun e w' => e = .returned (.int .i64 d) ∧ Below w.heap.size w w' := by
 obtain ⟨na, nn, nc⟩ := N
 obtain ⟨ao, n, cap⟩ := M
 simp only at hn hm ⊢
 have hl : (xs.map (·.1)).length = nn := by simpa using x.len
 have hl2 : (ms.map (·.1)).length = n := by simpa using y.len
 unfold mailsF at hd
 obtain ⟨rs, hrs⟩ : ∃ rs, xs.map (·.1) = rs := ⟨_, rfl⟩
 obtain ⟨ns, hns⟩ : ∃ ns, ms.map (·.1) = ns := ⟨_, rfl⟩
 have HR : Hid (∀ (i : Nat) (a : Nod), xs[i]? = some a → rs.getD i rep0 = a.1) := fun i a e => by rw [← hrs]; exact mapD e
 have HM : Hid (∀ (i : Nat) (a : Mal), ms[i]? = some a → ns.getD i ml0 = a.1) := fun i a e => by rw [← hns]; exact mapD e
 rw [hns] at hd hl2
 rw [hrs] at hd hl hr
 rw [hl2] at hd
 have HL : Hid _ := hl
 have HD : Hid _ := hd
 have HA : Hid (∀ i, i < nn → 1 ≤ (rs.getD i rep0).size ∧ (rs.getD i rep0).size ≤ 5) := fun i hi => rep_size (nodesF_all hr i (by rw [hl]; exact hi)).1
 have Hx : Hid (NAt w own lo hi _ xs) := x
 have Hy : Hid (MAt w o2 l2 u2 _ ms) := y
 clear hd hrs hns hl hl2 hr x y
 go_enter Try.func79, Try.ntmps79
 go_wp2
 go_loopw [10] (fun i wr => ∃ k : Nat, k ≤ n ∧ i = .int .i64 k ∧ Hid (fstF (fun i => mailIn rs (ns.getD i ml0)) k = 0) ∧ Below w.heap.size w wr) (fun i _ => n - (intOf i).toNat)
 case atStart => exact ⟨0, Nat.zero_le _, rfl, rfl, Below.refl _ _⟩
 case round =>
  obtain ⟨k, hk, rfl, H0, hb⟩ := hrel
  by_cases hlt : k < n
  ·have hlk : (k : Int) < (n : Int) := by omega
   obtain ⟨m, h, b, off, ex, rfl, _, _, XN, y, _⟩ := LAt.mail (MAt.below Hy.out hb) hlt
   have HE : Hid (ns.getD k ml0 = m) := HM.out k _ ex
   clear ex
   have HSt : Hid (∀ c : Int, mailIn rs m = c → c ≠ 0 → d = c) := fun c hc h1 => fstF_stop HD.out H0.out hlt (by show mailIn rs (ns.getD k ml0) = c; rw [HE.out]; exact hc) h1
   have HNx : Hid (mailIn rs m = 0 → fstF (fun i => mailIn rs (ns.getD i ml0)) (k + 1) = 0) := fun hc => fstF_next H0.out (by show mailIn rs (ns.getD k ml0) = 0; rw [HE.out]; exact hc)
   obtain ⟨kind, fr, tq, view, at_, has, en, last, log, commit⟩ := m
   simp only at XN y
   have cN := XN.cell
   clear HE
   go_wp2_with (first | ((with_reducible refine store_midX 90 X0 0 [.int .i64 kind, .int .i64 fr, .int .i64 tq, .int .i64 view, .int .i64 at_, .bool has, .int .i64 en.1, .int .i64 en.2.1, .int .i64 en.2.2.1, .int .i64 en.2.2.2.1, .int .i64 en.2.2.2.2.1, .int .i64 en.2.2.2.2.2, .int .i64 last, .slice h.1 h.2.1 h.2.2, .int .i64 commit] (by simp) (by kernel_rfl) (by simp [Value.oneCell']) rfl rfl ?_); intro V1 S; replace X0 : Bx V1 b0 [.int .i64 kind, .int .i64 fr, .int .i64 tq, .int .i64 view, .int .i64 at_, .bool has, .int .i64 en.1, .int .i64 en.2.1, .int .i64 en.2.2.1, .int .i64 en.2.2.2.1, .int .i64 en.2.2.2.2.1, .int .i64 en.2.2.2.2.2, .int .i64 last, .slice h.1 h.2.1 h.2.2, .int .i64 commit] := S.bx; replace c0 := X0.cell; replace f0 := X0.froz; replace B := bkp B S.kept; clear S) | ((with_reducible refine alloc_newX 90 [.int .i64 0, .int .i64 0, .int .i64 0, .int .i64 0, .int .i64 0, .bool false, .int .i64 0, .int .i64 0, .int .i64 0, .int .i64 0, .int .i64 0, .int .i64 0, .int .i64 0, .slice none 0 0, .int .i64 0] (fun _ => by kernel_rfl) ?_); intro b0 W0 N0; have ob0 := N0.ge; have B := N0.below; have X0 := N0.bx; have c0 := X0.cell; have f0 := X0.froz; clear N0) | fail)
   clear XN cN
   by_cases q0 : 0 ≤ tq ∧ tq ≤ (nn : Int) - 1
   rotate_left 1
   ·have e := HSt.out 3 (by unfold mailIn; rw [HL.out]; exact if_neg q0) (by decide)
    subst e
    have hbb := below_next hb B
    clear hb HD HSt HNx
    refine (isPlaceOf_is nn tq _ false (by simp only [decide_eq_false_eq]; exact q0)).mono ?_
    rintro e W9 ⟨rfl, rfl⟩
    go_wp2
    go_ret
    exact ⟨rfl, hbb⟩
   refine (isPlaceOf_is nn tq _ true (by simp only [decide_eq_true_eq]; exact q0)).mono ?_
   rintro e W9 ⟨rfl, rfl⟩
   obtain ⟨j, hj⟩ : ∃ j : Nat, tq = (j : Int) := ⟨tq.toNat, by omega⟩
   have HQ : Hid (∀ c : Int, mailAtF (rs.getD j rep0) ⟨kind, fr, tq, view, at_, has, en, last, log, commit⟩ = c → mailIn rs ⟨kind, fr, tq, view, at_, has, en, last, log, commit⟩ = c) := fun c hc => by unfold mailIn; rw [HL.out, if_pos q0]; show mailAtF (rs.getD tq.toNat rep0) _ = c; rw [hj] at hc ⊢; exact hc
   have hjn : j < nn := by omega
   subst hj
   clear q0
   have hbb := below_next hb B
   clear hb
   obtain ⟨r, hN, b1, f1, ex1, rfl, _, _, XN, _, _⟩ := LAt.node (NAt.below Hx.out hbb) hjn
   have HJ := HR.out j _ ex1
   simp only at HJ
   have HSz := HA.out j hjn
   rw [HJ] at HQ HSz
   have HS5 : Hid _ := HSz
   clear HJ ex1 HSz
   obtain ⟨c, hc⟩ : ∃ c, mailAtF r ⟨kind, fr, (j : Int), view, at_, has, en, last, log, commit⟩ = c := ⟨_, rfl⟩
   have HC : Hid _ := hc
   have HCI : Hid _ := HQ.out c hc
   clear hc HQ
   have hjk : (j : Int) < (nn : Int) := by omega
   have hj0 : (0 : Int) ≤ (j : Int) := by omega
   have cN := XN.cell
   go_wp2_with fail
   have DQ : Below W9.heap.size W9 W9.drew := (Below.refl _ _).drew
   replace XN := XN.below DQ
   replace cN := XN.cell
   replace hbb := below_next hbb DQ
   replace X0 := X0.below DQ
   replace c0 := X0.cell
   replace f0 := X0.froz
   replace B := below_next B DQ
   clear DQ
   refine wp_region_held_drew (S := (fun w' => (∀ k : Nat, w'.cell? ⟨b0, k, none⟩ = [.int .i64 kind, .int .i64 fr, .int .i64 (j : Int), .int .i64 view, .int .i64 at_, .bool has, .int .i64 en.1, .int .i64 en.2.1, .int .i64 en.2.2.1, .int .i64 en.2.2.2.1, .int .i64 en.2.2.2.2.1, .int .i64 en.2.2.2.2.2, .int .i64 last, .slice h.1 h.2.1 h.2.2, .int .i64 commit][k]?) ∧ (w'.cell? ⟨b1, f1 + j * 10, none⟩ = [.int .i64 r.id, .int .i64 r.size, .int .i64 r.view, .bool r.normal, .int .i64 r.last, .slice hN.L.1 hN.L.2.1 hN.L.2.2, .int .i64 r.commit, .slice hN.O.1 hN.O.2.1 hN.O.2.2, .slice hN.A.1 hN.A.2.1 hN.A.2.2, .slice hN.D.1 hN.D.2.1 hN.D.2.2][0]? ∧ ∀ k_1 : Nat, k_1 < 10 → w'.cell? ⟨b1, f1 + j * 10 + k_1, none⟩ = [.int .i64 r.id, .int .i64 r.size, .int .i64 r.view, .bool r.normal, .int .i64 r.last, .slice hN.L.1 hN.L.2.1 hN.L.2.2, .int .i64 r.commit, .slice hN.O.1 hN.O.2.1 hN.O.2.2, .slice hN.A.1 hN.A.2.1 hN.A.2.2, .slice hN.D.1 hN.D.2.1 hN.D.2.2][k_1]?))) (by kernel_rfl) ⟨c0, cN⟩ (fun hZq => ?_)
   refine tk 0 hZq ?_
   refine tk 1 hZq ?_
   refine tk 2 hZq ?_
   refine tk 3 hZq ?_
   refine tk 4 hZq ?_
   refine tk 5 hZq ?_
   refine rd1 6 (fun KK hKK => ?_)
   go_simp
   go_at_call 108
   refine (mailAt_is r hN ⟨kind, fr, (j : Int), view, at_, has, en, last, log, commit⟩ h HS5.out _ (y.below B) c HC.out).mono ?_
   rintro e w1 ⟨rfl, BB⟩
   replace XN := XN.below BB
   replace cN := XN.cell
   replace hbb := below_next hbb BB
   replace X0 := X0.below BB
   replace c0 := X0.cell
   replace f0 := X0.froz
   replace B := below_next B BB
   clear BB
   clear hZq
   refine hKK _ _ ⟨c0, cN⟩ (fun hZq => ?_)
   clear hKK KK
   refine tk 7 hZq ?_
   refine wpAnyH_done (by kernel_rfl) ?_ _
   clear XN cN
   by_cases q1 : c = 0
   rotate_left 1
   ·have q1' : (c != 0) = true := by simp [q1]
    have e := HSt.out c HCI.out q1
    subst e
    clear HSt HNx HD
    go_wp2
    go_ret
    exact ⟨rfl, hbb⟩
   subst q1
   have HN : Hid _ := HNx.out HCI.out
   have HB : Hid _ := hbb
   clear hbb HNx HSt
   go_wp2
   go_roundw
   case rel => exact ⟨k + 1, by omega, by go_num, HN, HB.out⟩
   case measure => simp [intOf]; omega
  ·obtain rfl : k = n := by omega
   have e : d = 0 := by rw [← HD.out]; exact H0.out
   subst e
   clear HD
   go_wp2
   go_ret
   exact ⟨rfl, hb⟩
theorem implClF_is {own : Bool} {lo hi : Nat} (N M Sl : Hd) (xs : List Nod) (ms : List Mal) (es : List En) (w : World) (x : ClAt w own lo hi N M Sl xs ms es) (hs : ClSz N M Sl xs ms 1048576) (d : Int) (hd : cluF (xs.map (·.1)) (ms.map (·.1)) es = d) :
  Calls Try.prog 47 #[.agg #[.slice N.1 N.2.1 N.2.2, .slice M.1 M.2.1 M.2.2, .slice Sl.1 Sl.2.1 Sl.2.2]] w fun e w' => e = .returned (.int .i64 d) ∧ Below w.heap.size w w' := by
 have hl : (xs.map (·.1)).length = N.2.1 := by simpa using x.nodes.len
 have hl2 : (ms.map (·.1)).length = M.2.1 := by simpa using x.mails.len
 unfold cluF at hd
 rw [hl, hl2] at hd
 have HD : Hid _ := hd
 have HS : Hid _ := hs
 clear hd hl hl2 hs
 go_enter Try.func47, Try.ntmps47
 go_wp2_with (first | ((with_reducible refine box_newX 33 [.slice N.1 N.2.1 N.2.2, .slice M.1 M.2.1 M.2.2, .slice Sl.1 Sl.2.1 Sl.2.2] rfl ?_); intro b0 W0 N0; have ob0 := N0.ge; have B := N0.below; have X0 := N0.bx; have c0 := X0.cell; clear N0) | fail)
 by_cases q0 : 1 ≤ (N.2.1 : Int) ∧ (N.2.1 : Int) ≤ 5
 rotate_left 1
 ·have e := HD.out
  rw [if_neg (fun z => q0 z.1)] at e
  subst e
  clear HD
  refine (isSize_is N.2.1 _ false (by simp only [decide_eq_false_eq]; exact q0)).mono ?_
  rintro e W9 ⟨rfl, rfl⟩
  go_wp2
  go_ret
  exact ⟨rfl, B⟩
 refine (isSize_is N.2.1 _ true (by simp only [decide_eq_true_eq]; exact q0)).mono ?_
 rintro e W9 ⟨rfl, rfl⟩
 by_cases q1 : M.2.1 ≤ 120
 rotate_left 1
 ·have e := HD.out
  rw [if_neg (fun z => q1 z.2)] at e
  subst e
  clear HD
  have q1' : (120 : Int) < (M.2.1 : Int) := by omega
  go_wp2
  go_ret
  exact ⟨rfl, B⟩
 have q1' : ¬ (120 : Int) < (M.2.1 : Int) := by omega
 have HD2 := HD.out
 rw [if_pos ⟨q0, q1⟩] at HD2
 replace HD : Hid _ := HD2
 clear HD2
 go_wp2_with fail
 obtain ⟨c, hc⟩ : ∃ c, nodesF (xs.map (·.1)) = c := ⟨_, rfl⟩
 have HC : Hid _ := hc
 have HD2 := HD.out
 rw [hc] at HD2
 replace HD : Hid _ := HD2
 clear HD2 hc
 refine (nodesFault_is N xs _ (x.nodes.below B) HS.out.n HS.out.nodes c HC.out).mono ?_
 rintro e w1 ⟨rfl, BB⟩
 replace X0 := X0.below BB
 replace c0 := X0.cell
 replace B := below_next B BB
 clear BB
 by_cases q2 : c = 0
 rotate_left 1
 ·have q2' : (c != 0) = true := by simp [q2]
  have e := HD.out
  rw [if_neg q2] at e
  subst e
  clear HD
  go_wp2
  go_ret
  exact ⟨rfl, B⟩
 subst q2
 have HD2 := HD.out
 rw [if_pos rfl] at HD2
 replace HD : Hid _ := HD2
 clear HD2
 obtain ⟨c, hc⟩ : ∃ c, mailsF (xs.map (·.1)) (ms.map (·.1)) = c := ⟨_, rfl⟩
 have HC2 : Hid _ := hc
 have HD2 := HD.out
 rw [hc] at HD2
 replace HD : Hid _ := HD2
 clear HD2 hc
 go_wp2_with fail
 refine (mailsFault_is N M xs ms _ (x.nodes.below B) (x.mails.below B) HS.out.n HS.out.m HC.out c HC2.out).mono ?_
 rintro e w2 ⟨rfl, BB⟩
 replace X0 := X0.below BB
 replace c0 := X0.cell
 replace B := below_next B BB
 clear BB
 by_cases q3 : c = 0
 rotate_left 1
 ·have q3' : (c != 0) = true := by simp [q3]
  have e := HD.out
  rw [if_neg q3] at e
  subst e
  clear HD
  go_wp2
  go_ret
  exact ⟨rfl, B⟩
 subst q3
 have HD2 := HD.out
 rw [if_pos rfl] at HD2
 replace HD : Hid _ := HD2
 clear HD2
 go_wp2_with fail
 refine (implLF_is Sl.1 Sl.2.1 Sl.2.2 es _ (x.slog.below B) d HD.out).mono ?_
 rintro e w3 ⟨rfl, BB⟩
 replace X0 := X0.below BB
 replace c0 := X0.cell
 replace B := below_next B BB
 clear BB
 go_wp2
 go_ret
 exact ⟨rfl, B⟩
def ClRes (own : Bool) (w w' : World) (e : Ending) (cd : Int) (rs : List Rep) (ms : List Ml) (es : List En) : Prop := ∃ (N M S : Hd) (xs : List Nod) (ys : List Mal), e = .returned (.agg #[.int .i64 cd, .slice N.1 N.2.1 N.2.2, .slice M.1 M.2.1 M.2.2, .slice S.1 S.2.1 S.2.2]) ∧ ClAt w' own w.heap.size w'.heap.size N M S xs ys es ∧ ClSz N M S xs ys 1048576 ∧ xs.map (·.1) = rs ∧ ys.map (·.1) = ms ∧ Below w.heap.size w w'
def prepM (r : Rep) (k : Nat) : Ml := if k < r.log.length then ⟨1, 0, 0, 0, k, true, r.log.getD k en0, 0, [], r.commit⟩ else ⟨1, 0, 0, 0, k, false, en0, 0, [], r.commit⟩
def agrM (r : Rep) : Int := if agrR r ≤ r.commit then r.commit else agrR r
def agrC (r : Rep) : Rep := ⟨r.id, r.size, r.view, r.normal, r.last, r.log, agrM r, r.oks, r.asks, r.doers⟩
structure OwnE (w : World) (z ue : Nat) (v : Value) (n : Nat) (xs : List En) : Prop where
 own : w.ownsRow z 73 6 v n (sixs xs)
 lt : ∀ g, v.ownBlock = some g → g < ue
def tookR (r : Rep) (en : En) : Rep := ⟨r.id, r.size, r.view, r.normal, r.last, r.log ++ [en], r.commit, r.oks, r.asks, r.doers⟩
def takeQ (r : Rep) (en : En) : Rep := agrC (tookR r en)
def takeM (r : Rep) (en : En) : List Ml := (othL r.id.toNat r.size.toNat).map fun t => putM (prepM (takeQ r en) r.log.length) r.id t r.view
def askC (r : Rep) (en : En) : Int := if ledF r = 0 then (if enFault en = 0 then (if r.log.length = 40 then 2 else 0) else enFault en) else ledF r
def askQ (r : Rep) (en : En) : Rep := if askC r en = 0 then takeQ r en else rep0
def askM (r : Rep) (en : En) : List Ml := if askC r en = 0 then takeM r en else []
structure AskOk (r : Rep) (en : En) : Prop where
 led : Led r
 lead : r.view % r.size = r.id
 norm : r.normal = true
 log : (askQ r en).log = r.log ++ [en]
 rep : repF (askQ r en) = 0
 ledQ : ledF (askQ r en) = 0
 agr : agrR (askQ r en) ≤ (askQ r en).commit
 len : ((askM r en).length : Int) = r.size - 1
 mail : ∀ i, i < (askM r en).length → ((askM r en).getD i ml0).kind = 1 ∧ ((askM r en).getD i ml0).en = en ∧ ((askM r en).getD i ml0).at_ = (r.log.length : Int)
def dsum (ds : List Dr) : Nat → Nat
 | 0 => 0
 | i + 1 => dsum ds i + (drL ds i).length
def rlen (r : Rep) : Nat := r.log.length + r.oks.length + r.asks.length + r.doers.length + dsum r.doers r.doers.length
def nlen : List Rep → Nat
 | [] => 0
 | r :: t => 1 + rlen r + nlen t
theorem dsum_eq {w : World} {own : Bool} {lo hi n cap : Nat} {ao : Option Addr} {K : Nat → Hd} {ds : List Dr} (x : DoersAt w own lo hi ao n cap K ds) : ∀ k, k ≤ n → ksum K k = dsum ds k
 | 0, _ => rfl
 | k + 1, h => by
  have h1 := dsum_eq x k (by omega)
  have h2 := (x.els.logs k (by omega)).nSixs
  show ksum K k + (K k).2.1 = dsum ds k + (drL ds k).length
  omega
theorem rsum_eq {w : World} {own : Bool} {lo hi : Nat} {h : RH} {r : Rep} (y : RepAt w own lo hi h r) : rsum h = rlen r := by
 have h1 := y.log.nSixs
 have h2 := y.oks.nInts
 have h3 := y.asks.nBls
 have h4 := y.doers.len
 have h5 := dsum_eq y.doers h.D.2.1 (Nat.le_refl _)
 unfold rsum rlen
 rw [h5, h4]
 omega
theorem nsum_eq {w : World} {own : Bool} {lo hi : Nat} : ∀ xs : List Nod, (∀ (i : Nat) (a : Nod), xs[i]? = some a → RepAt w own lo hi a.2 a.1) → nsum xs = nlen (xs.map (·.1))
 | [], _ => rfl
 | a :: t, h => by
  have h1 := rsum_eq (h 0 a (by simp))
  have h2 := nsum_eq t fun i b e => h (i + 1) b (by simpa using e)
  simp only [nsum, List.map_cons, nlen]
  omega
theorem nsum_take : ∀ (xs : List Nod) (k : Nat) (a : Nod), xs[k]? = some a → nsum (xs.take (k + 1)) = nsum (xs.take k) + 1 + rsum a.2
 | [], k, a, e => by simp at e
 | x :: t, 0, a, e => by
  have : x = a := by simpa using e
  subst this; simp [nsum]
 | x :: t, k + 1, a, e => by
  have := nsum_take t k a (by simpa using e)
  simp only [List.take_succ_cons, nsum]
  omega
structure FewR (r : Rep) : Prop where
 log : r.log.length ≤ 40
 oks : r.oks.length ≤ 5
 asks : r.asks.length ≤ 5
 doers : r.doers.length ≤ 5
 logs : ∀ i, (drL r.doers i).length ≤ 40
theorem szDoers_sum {own : Bool} {lo hi : Nat} (ao : Option Addr) (n cap : Nat) (K : Nat → Hd) (ds : List Dr) (lt : Int) (w : World) (h : DoersAt w own lo hi ao n cap K ds) (hn : n ≤ maxLen) (hl : ∀ i, i < n → (K i).2.1 ≤ maxLen) (h0 : 0 ≤ lt) (h1 : lt ≤ 1048576) :
  Calls Try.prog 89 #[.slice ao n cap, .int .i64 lt] w fun e w' => ∃ r : Int, e = .returned (.int .i64 r) ∧ Below w.heap.size w w' ∧ (r < 0 ∨ (0 ≤ r ∧ r ≤ 1048576 ∧ n ≤ 1048576 ∧ (∀ i, i < n → (K i).2.1 ≤ 1048576) ∧ r + n + (ksum K n : Int) ≤ lt)) := by
 have HL : Hid _ := hl
 clear hl
 by_cases hbig : lt < n
 ·have hbi : lt - (n : Int) < 0 := by omega
  unfold maxLen at hn
  go_enter Try.func89, Try.ntmps89
  go_wp2
  go_ret
  exact ⟨-1, rfl, Below.refl _ _, Or.inl (by omega)⟩
 have hbi : ¬ lt - (n : Int) < 0 := by omega
 unfold maxLen at hn
 go_enter Try.func89, Try.ntmps89
 go_wp2
 go_loopw [1, 5] (fun l i wr => ∃ k : Nat, k ≤ n ∧ i = .int .i64 k ∧ (∃ r : Int, l = .int .i64 r ∧ 0 ≤ r ∧ r ≤ 1048576 ∧ r + n + (ksum K k : Int) ≤ lt) ∧ Hid (∀ i, i < k → (K i).2.1 ≤ 1048576) ∧ Below w.heap.size w wr) (fun _ i _ => n - (intOf i).toNat)
 case atStart => exact ⟨0, Nat.zero_le _, rfl, ⟨_, rfl, by omega, by omega, by simp only [ksum]; omega⟩, fun i hi => absurd hi (Nat.not_lt_zero _), Below.refl _ _⟩
 case round =>
  obtain ⟨k, hk, rfl, ⟨r, rfl, hr0, hr1, hrs⟩, HK, hb⟩ := hrel
  by_cases hlt : k < n
  ·have hlk : (k : Int) < (n : Int) := by omega
   obtain ⟨b, off, rfl, _, _, hbs, e0, e1, e2, e3, _⟩ := h.doer hlt
   replace e0 := cell_later hb e0
   replace e1 := cell_later hb e1
   replace e2 := cell_later hb e2
   replace e3 := cell_later hb e3
   have hmk := HL.out k hlt
   have HQ : Hid (∀ m, (K k).2.1 = m → m ≤ 1048576 → ∀ i, i < k + 1 → (K i).2.1 ≤ 1048576) := fun m hm hm2 i hi => by
    rcases Nat.lt_succ_iff_lt_or_eq.1 hi with q | q
    ·exact HK.out i q
    ·rw [q, hm]; exact hm2
   clear HK
   have HQ2 : Hid (∀ m, (K k).2.1 = m → ksum K (k + 1) = ksum K k + m) := fun m hm => by rw [← hm]; rfl
   generalize K k = hk' at *
   obtain ⟨ha, m, hc⟩ := hk'
   simp only at e2 hmk HQ HQ2
   generalize (ds.getD k dr0).1 = kn at *
   generalize (ds.getD k dr0).2.1 = la at *
   generalize (ds.getD k dr0).2.2.2 = cm at *
   go_wp2_with fail
   refine (szDoer_left kn la cm ha m hc r _ hmk hr0 hr1).mono ?_
   rintro e W ⟨rfl, hb1⟩
   replace hb := below_step hb hb.size hb1
   clear hb1 e0 e1 e2 e3
   by_cases hb : r < m
   ·rw [if_pos hb]
    go_wp2
    go_ret
    exact ⟨-1, rfl, by assumption, Or.inl (by omega)⟩
   ·rw [if_neg hb]
    have hb2 : ¬ r - (m : Int) < 0 := by omega
    have HQ' := HQ.out m rfl (by omega)
    have hq2 := HQ2.out m rfl
    clear HQ HQ2
    go_wp2
    go_roundw
    case rel => exact ⟨k + 1, by omega, by go_num, ⟨_, rfl, by omega, by omega, by omega⟩, HQ', by assumption⟩
    case measure => simp [intOf]; omega
  ·obtain rfl : k = n := by omega
   go_wp2
   go_ret
   exact ⟨r, rfl, hb, Or.inr ⟨hr0, by omega, by omega, HK.out, hrs⟩⟩
theorem szReplica_sum {own : Bool} {lo hi : Nat} (r : Rep) (h : RH) (lt : Int) (w : World) (x : RepAt w own lo hi h r) (hs : RSz h maxLen) (hl0 : 0 ≤ lt) (hl1 : lt ≤ 1048576) :
  Calls Try.prog 57 #[.agg #[.int .i64 r.id, .int .i64 r.size, .int .i64 r.view, .bool r.normal, .int .i64 r.last, .slice h.L.1 h.L.2.1 h.L.2.2, .int .i64 r.commit, .slice h.O.1 h.O.2.1 h.O.2.2, .slice h.A.1 h.A.2.1 h.A.2.2, .slice h.D.1 h.D.2.1 h.D.2.2], .int .i64 lt] w fun e w' => ∃ q : Int, e = .returned (.int .i64 q) ∧ Below w.heap.size w w' ∧ (q < 0 ∨ (0 ≤ q ∧ q ≤ 1048576 ∧ RSz h 1048576 ∧ q + (rsum h : Int) ≤ lt)) := by
 go_enter Try.func57, Try.ntmps57
 go_wp2_with (first | ((with_reducible refine box_newX 80 [.int .i64 r.id, .int .i64 r.size, .int .i64 r.view, .bool r.normal, .int .i64 r.last, .slice h.L.1 h.L.2.1 h.L.2.2, .int .i64 r.commit, .slice h.O.1 h.O.2.1 h.O.2.2, .slice h.A.1 h.A.2.1 h.A.2.2, .slice h.D.1 h.D.2.1 h.D.2.2] rfl ?_); intro b0 W0 N0; have ob0 := N0.ge; have B := N0.below; have X0 := N0.bx; have c0 := X0.cell; clear N0) | fail)
 have HS : Hid (∀ i, i < h.D.2.1 → (h.K i).2.1 ≤ maxLen) := hs.K
 refine (szEntries_left h.L.1 h.L.2.1 h.L.2.2 (lt) _ hs.L (by omega) (by omega)).mono ?_
 rintro e W9 ⟨rfl, rfl⟩
 by_cases yL : (lt : Int) < h.L.2.1
 ·rw [if_pos yL]
  go_wp2
  go_ret
  exact ⟨-1, rfl, B, Or.inl (by omega)⟩
 rw [if_neg yL]
 have zL : ¬ ((lt : Int) - h.L.2.1 < 0) := by omega
 go_wp2_with fail
 refine (szInts_any h.O.1 h.O.2.1 h.O.2.2 (lt - h.L.2.1) _ hs.O (by omega) (by omega)).mono ?_
 rintro e W9 ⟨rfl, rfl⟩
 by_cases yO : (lt - h.L.2.1 : Int) < h.O.2.1
 ·rw [if_pos yO]
  go_wp2
  go_ret
  exact ⟨-1, rfl, B, Or.inl (by omega)⟩
 rw [if_neg yO]
 have zO : ¬ ((lt - h.L.2.1 : Int) - h.O.2.1 < 0) := by omega
 go_wp2_with fail
 refine (szBools_any h.A.1 h.A.2.1 h.A.2.2 (lt - h.L.2.1 - h.O.2.1) _ hs.A (by omega) (by omega)).mono ?_
 rintro e W9 ⟨rfl, rfl⟩
 by_cases yA : (lt - h.L.2.1 - h.O.2.1 : Int) < h.A.2.1
 ·rw [if_pos yA]
  go_wp2
  go_ret
  exact ⟨-1, rfl, B, Or.inl (by omega)⟩
 rw [if_neg yA]
 have zA : ¬ ((lt - h.L.2.1 - h.O.2.1 : Int) - h.A.2.1 < 0) := by omega
 go_wp2_with fail
 refine (szDoers_sum h.D.1 h.D.2.1 h.D.2.2 h.K r.doers (lt - h.L.2.1 - h.O.2.1 - h.A.2.1) _ (x.doers.below B) hs.D HS.out (by omega) (by omega)).mono ?_
 rintro e w1 ⟨q, rfl, BB, hq⟩
 replace X0 := X0.below BB
 replace c0 := X0.cell
 replace B := below_next B BB
 clear BB
 rcases hq with hq | ⟨h0, h1, h2, h3, h5⟩
 ·go_wp2
  go_ret
  exact ⟨-1, rfl, B, Or.inl (by omega)⟩
 have HT : Hid (RSz h 1048576) := ⟨by omega, by omega, by omega, h2, h3⟩
 have HU : Hid (q + (rsum h : Int) ≤ lt) := by (show _ ≤ _; unfold rsum; omega)
 have h4 : ¬ q < 0 := by omega
 clear h3
 go_wp2
 go_ret
 exact ⟨q, rfl, B, Or.inr ⟨h0, h1, HT.out, HU.out⟩⟩
theorem szReplicas_sum {own : Bool} {lo hi : Nat} (ao : Option Addr) (n cap : Nat) (xs : List Nod) (lt : Int) (w : World) (x : LAt nodeK w own lo hi ao n cap xs) (hn : n ≤ maxLen) (hs : (∀ (i : Nat) (a : Nod), xs[i]? = some a → RSz a.2 maxLen)) (h0 : 0 ≤ lt) (h1 : lt ≤ 1048576) :
  Calls Try.prog 29 #[.slice ao n cap, .int .i64 lt] w fun e w' => ∃ q : Int, e = .returned (.int .i64 q) ∧ Below w.heap.size w w' ∧ (q < 0 ∨ (0 ≤ q ∧ q ≤ 1048576 ∧ n ≤ 1048576 ∧ (∀ (i : Nat) (a : Nod), xs[i]? = some a → RSz a.2 1048576) ∧ q + (nsum xs : Int) ≤ lt)) := by
 have HS : Hid _ := hs
 clear hs
 by_cases hbig : lt < n
 ·have hbi : lt - (n : Int) < 0 := by omega
  unfold maxLen at hn
  go_enter Try.func29, Try.ntmps29
  go_wp2
  go_ret
  exact ⟨-1, rfl, Below.refl _ _, Or.inl (by omega)⟩
 have hbi : ¬ lt - (n : Int) < 0 := by omega
 unfold maxLen at hn
 go_enter Try.func29, Try.ntmps29
 go_wp2
 go_loopw [1, 5] (fun l i wr => ∃ k : Nat, k ≤ n ∧ i = .int .i64 k ∧ (∃ q : Int, l = .int .i64 q ∧ 0 ≤ q ∧ q ≤ 1048576 ∧ q + ((n : Int) - k) + (nsum (xs.take k) : Int) ≤ lt) ∧ Hid (∀ (i : Nat) (a : Nod), i < k → xs[i]? = some a → RSz a.2 1048576) ∧ Below w.heap.size w wr) (fun _ i _ => n - (intOf i).toNat)
 case atStart => exact ⟨0, Nat.zero_le _, rfl, ⟨_, rfl, by omega, by omega, by simp [nsum]⟩, fun i a hi => absurd hi (Nat.not_lt_zero _), Below.refl _ _⟩
 case round =>
  obtain ⟨k, hk, rfl, ⟨q, rfl, hr0, hr1, hrs⟩, HK, hb⟩ := hrel
  by_cases hlt : k < n
  ·have hlk : (k : Int) < (n : Int) := by omega
   obtain ⟨r, h, b, off, ex, rfl, _, _, X0, y, _⟩ := (x.below nodeOk hb).node hlt
   have c0 := X0.cell
   have hmk := HS.out k _ ex
   have HQ : Hid (RSz h 1048576 → ∀ (i : Nat) (a : Nod), i < k + 1 → xs[i]? = some a → RSz a.2 1048576) := fun hm i a hi e => by
    rcases Nat.lt_succ_iff_lt_or_eq.1 hi with c | c
    ·exact HK.out i a c e
    ·subst c
     rw [ex] at e
     have e2 := Option.some.inj e
     rw [← e2]; exact hm
   have hnt : nsum (xs.take (k + 1)) = nsum (xs.take k) + 1 + rsum h := nsum_take xs k _ ex
   have HNT : Hid _ := hnt
   clear HK ex hnt
   simp only at hmk
   go_wp2_with fail
   refine (szReplica_sum r h q _ y hmk hr0 hr1).mono ?_
   rintro e W ⟨p, rfl, hb1, hp⟩
   replace hb := below_step hb hb.size hb1
   clear hb1 X0 c0 y
   rcases hp with hp | ⟨p0, p1, p2, p3⟩
   ·go_wp2
    go_ret
    exact ⟨-1, rfl, hb, Or.inl (by omega)⟩
   have hb2 : ¬ p < 0 := by omega
   have HQ' := HQ.out p2
   have HT : Hid _ := HQ'
   clear HQ HQ' p2
   go_wp2
   go_roundw
   case rel => exact ⟨k + 1, by omega, by go_num, ⟨_, rfl, by omega, by omega, by rw [HNT.out]; omega⟩, HT, by assumption⟩
   case measure => simp [intOf]; omega
  ·obtain rfl : k = n := by omega
   go_wp2
   go_ret
   exact ⟨q, rfl, hb, Or.inr ⟨hr0, hr1, by omega, fun i a e => HK.out i a (by rw [← x.len]; exact (List.getElem?_eq_some_iff.1 e).1) e, by rw [List.take_of_length_le (by rw [x.len]; omega)] at hrs; omega⟩⟩
theorem szCluster_sum {own : Bool} {lo hi : Nat} (N M Sl : Hd) (xs : List Nod) (ms : List Mal) (es : List En) (w : World) (x : ClAt w own lo hi N M Sl xs ms es) (hs : ClSz N M Sl xs ms maxLen) :
  Calls Try.prog 9 #[.agg #[.slice N.1 N.2.1 N.2.2, .slice M.1 M.2.1 M.2.2, .slice Sl.1 Sl.2.1 Sl.2.2], .int .i64 1048576] w fun e w' => ∃ q : Int, e = .returned (.int .i64 q) ∧ Below w.heap.size w w' ∧ (q < 0 ∨ (0 ≤ q ∧ q ≤ 1048576 ∧ ClSz N M Sl xs ms 1048576 ∧ nsum xs ≤ 1048576)) := by
 have HS : Hid _ := hs
 have hs3 := hs.s
 clear hs
 go_enter Try.func9, Try.ntmps9
 go_wp2_with (first | ((with_reducible refine box_newX 26 [.slice N.1 N.2.1 N.2.2, .slice M.1 M.2.1 M.2.2, .slice Sl.1 Sl.2.1 Sl.2.2] rfl ?_); intro b0 W0 N0; have ob0 := N0.ge; have B := N0.below; have X0 := N0.bx; have c0 := X0.cell; clear N0) | fail)
 refine (szReplicas_sum N.1 N.2.1 N.2.2 xs 1048576 _ (x.nodes.below B) HS.out.n HS.out.nodes (by omega) (by omega)).mono ?_
 rintro e w1 ⟨p1, rfl, BB, hp1⟩
 replace X0 := X0.below BB
 replace c0 := X0.cell
 replace B := below_next B BB
 clear BB
 rcases hp1 with hp1 | ⟨p1_0, p1_1, p1_n, p1_m, p1_s⟩
 ·go_wp2
  go_ret
  exact ⟨-1, rfl, B, Or.inl (by omega)⟩
 have p1' : ¬ p1 < 0 := by omega
 have P1 : Hid _ := p1_m
 clear p1_m
 go_wp2_with fail
 refine (szMails_lt M.1 M.2.1 M.2.2 ms p1 _ (x.mails.below B) HS.out.m HS.out.mails p1_0 p1_1).mono ?_
 rintro e w2 ⟨p2, rfl, BB, hp2⟩
 replace X0 := X0.below BB
 replace c0 := X0.cell
 replace B := below_next B BB
 clear BB
 rcases hp2 with hp2 | ⟨p2_0, p2_1, p2_n, p2_m⟩
 ·go_wp2
  go_ret
  exact ⟨-1, rfl, B, Or.inl (by omega)⟩
 have p2' : ¬ p2 < 0 := by omega
 have P2 : Hid _ := p2_m
 clear p2_m
 go_wp2_with fail
 refine (szEntries_left Sl.1 Sl.2.1 Sl.2.2 p2 _ hs3 p2_0 p2_1).mono ?_
 rintro e W9 ⟨rfl, rfl⟩
 by_cases hb : p2 < Sl.2.1
 ·rw [if_pos hb]
  go_wp2
  go_ret
  exact ⟨-1, rfl, B, Or.inl (by omega)⟩
 rw [if_neg hb]
 have hb2 : ¬ p2 - (Sl.2.1 : Int) < 0 := by omega
 go_wp2
 go_ret
 exact ⟨_, rfl, B, Or.inr ⟨by omega, by omega, ⟨p1_n, p2_n, by omega, P1.out, P2.out⟩, by omega⟩⟩
def ClZ (own : Bool) (w w' : World) (e : Ending) (cd : Int) (rs : List Rep) (ms : List Ml) (es : List En) : Prop := ∃ (z u : Nat) (N M S : Hd) (xs : List Nod) (ys : List Mal), e = .returned (.agg #[.int .i64 cd, .slice N.1 N.2.1 N.2.2, .slice M.1 M.2.1 M.2.2, .slice S.1 S.2.1 S.2.2]) ∧ w.heap.size ≤ z ∧ u ≤ w'.heap.size ∧ ClAt w' own z u N M S xs ys es ∧ ClSz N M S xs ys 1048576 ∧ xs.map (·.1) = rs ∧ ys.map (·.1) = ms ∧ Below w.heap.size w w'
theorem clz_sum {w : World} {o : Bool} {z u : Nat} {N M S : Hd} {xs : List Nod} {ys : List Mal} {es : List En} (x : ClAt w o z u N M S xs ys es) : nsum xs = nlen (xs.map (·.1)) := nsum_eq xs x.nodes.each
def numN (A P L : Bool) (m : Ml) : Prop := (A = true → 0 ≤ m.at_ ∧ m.at_ ≤ 40) ∧ (P = true → 0 ≤ m.commit ∧ m.commit ≤ 40) ∧ (L = true → 0 ≤ m.last ∧ m.last ≤ m.view)
instance (A P L : Bool) (m : Ml) : Decidable (numN A P L m) := by unfold numN; infer_instance
end Go.Proofs.Ytannjgdginfgeaa
