/- At every cluster the program's LogsMatch answers as its model does and writes into no argument: the law FnExactLogsMatch is true at every argument, with no condition. -/
import Derived.Test.YtannjgdginfgeaaZA
import Derived.Test.YtannjgdginfgeaaZT
import Derived.Test.YtannjgdginfgeaaPutS
import Derived.Test.YtannjgdginfgeaaFacts
import Derived.Test.YtannjgdginfgeaaZM
import Derived.Test.YtannjgdginfgeaaYE
import Derived.Test.YtannjgdginfgeaaP1
import Derived.Test.YtannjgdginfgeaaZU
import Derived.Test.YtannjgdginfgeaaZZ
import Derived.Test.YtannjgdginfgeaaZQ
import Derived.Test.YtannjgdginfgeaaZV
import Derived.Test.YtannjgdginfgeaaYP
import Derived.Test.YtannjgdginfgeaaZO
import Derived.Test.YtannjgdginfgeaaXA
import Derived.Test.YtannjgdginfgeaaZR
import Derived.Test.YtannjgdginfgeaaBools
import Derived.Test.YtannjgdginfgeaaWA
import Derived.Test.YtannjgdginfgeaaWB
import Derived.Test.YtannjgdginfgeaaWK
import Derived.Test.YtannjgdginfgeaaXC
import Derived.Test.YtannjgdginfgeaaXI
import Derived.Test.YtannjgdginfgeaaXH
import Derived.Test.YtannjgdginfgeaaWC
import Derived.Test.YtannjgdginfgeaaWH
import Derived.Test.YtannjgdginfgeaaWQ
import Derived.Test.YtannjgdginfgeaaZC
import Derived.Test.YtannjgdginfgeaaCF0
import Derived.Test.YtannjgdginfgeaaWN
import Derived.Test.YtannjgdginfgeaaWI
import Derived.Test.YtannjgdginfgeaaZF
import Derived.Test.YtannjgdginfgeaaUA
import Derived.Test.YtannjgdginfgeaaI5a
import Derived.Test.YtannjgdginfgeaaI15
import Derived.Test.YtannjgdginfgeaaI15b
import Derived.Test.YtannjgdginfgeaaCA
import Derived.Test.YtannjgdginfgeaaCB
import Derived.Test.YtannjgdginfgeaaCC
import Derived.Test.YtannjgdginfgeaaCF4
import Derived.Test.YtannjgdginfgeaaUB
import Derived.Test.YtannjgdginfgeaaXB
import Derived.Test.YtannjgdginfgeaaWG
import Derived.Test.YtannjgdginfgeaaOpenC
import Derived.Test.YtannjgdginfgeaaRowC
import Derived.WalkKit
import Derived.WalkSpells
import Derived.Deep.Draws
import Derived.Deep.MidRow
import Derived.Test.YtannjgdginfgeaaChecked
import Derived.WalkLawsBesides
import Derived.Deep.QuietTactic
import Derived.BigQuiet
import Derived.Deep.RegionHeld3
import Derived.Deep.WholeRow
import Derived.Deep.AppendSrc
import Derived.Maps.AppendAt
import Derived.Deep.AppendLies
import Derived.Lib.AppendZeros
import Derived.Deep.RegionLaw
import Derived.Laws.ComplexArith
import Derived.Laws.StructEq
import Derived.Laws.Cover3
import Derived.Laws.Tables
import Derived.ProofKit
import Derived.OpenShut
import Derived.Lib.SmallJoins
import Derived.Deep.SlicePairs
import Derived.Test.YtannjgdginfgeaaRows
import Derived.Scope
import Derived.WalkMore
import Derived.Test.YtannjgdginfgeaaTK
import Derived.Test.YtannjgdginfgeaaTK2
set_option maxRecDepth 20000
set_option maxHeartbeats 16000000
namespace Go.Proofs.Ytannjgdginfgeaa
open Go.RowKit
section
variable (cd u : Int)
end
end Go.Proofs.Ytannjgdginfgeaa
namespace Go.Proofs.Ytannjgdginfgeaa
open Go.RowKit
end Go.Proofs.Ytannjgdginfgeaa
namespace Go.Proofs.Ytannjgdginfgeaa
open Go.RowKit
end Go.Proofs.Ytannjgdginfgeaa
namespace Go.Proofs.Ytannjgdginfgeaa
open Go.RowKit
end Go.Proofs.Ytannjgdginfgeaa
namespace Go.Proofs.Ytannjgdginfgeaa
open Go.RowKit
end Go.Proofs.Ytannjgdginfgeaa
namespace Go.Proofs.Ytannjgdginfgeaa
open Go.RowKit
end Go.Proofs.Ytannjgdginfgeaa
namespace Go.Proofs.Ytannjgdginfgeaa
open Go.RowKit
end Go.Proofs.Ytannjgdginfgeaa
namespace Go.Proofs.Ytannjgdginfgeaa
open Go.RowKit
end Go.Proofs.Ytannjgdginfgeaa
namespace Go.Proofs.Ytannjgdginfgeaa
open Go.RowKit
end Go.Proofs.Ytannjgdginfgeaa
namespace Go.Proofs.Ytannjgdginfgeaa
open Go.RowKit
end Go.Proofs.Ytannjgdginfgeaa
namespace Go.Proofs.Ytannjgdginfgeaa
open Go.RowKit
end Go.Proofs.Ytannjgdginfgeaa
namespace Go.Proofs.Ytannjgdginfgeaa
open Go.RowKit
section
variable {o : Bool} {l u : Nat} (ao : Option Addr) (n cap : Nat) (bs : List (Int × Int)) (w : World) (h : RowAt w o l u 2 ao n cap (pairs bs)) (hn : n ≤ 2097152)
include h hn
end
end Go.Proofs.Ytannjgdginfgeaa
namespace Go.Proofs.Ytannjgdginfgeaa
open Go.RowKit
end Go.Proofs.Ytannjgdginfgeaa
namespace Go.Proofs.Ytannjgdginfgeaa
open Go.RowKit
section
variable {w w' : World} {lo P : Nat} {vn : Value} {ab : Option Addr} {nb cb : Nat} {K : Nat → KS} {f : Fo}
end
end Go.Proofs.Ytannjgdginfgeaa
namespace Go.Proofs.Ytannjgdginfgeaa
open Go.RowKit
end Go.Proofs.Ytannjgdginfgeaa
namespace Go.Proofs.Ytannjgdginfgeaa
open Go.RowKit
end Go.Proofs.Ytannjgdginfgeaa
namespace Go.Proofs.Ytannjgdginfgeaa
open Go.RowKit
end Go.Proofs.Ytannjgdginfgeaa
namespace Go.Proofs.Ytannjgdginfgeaa
open Go.RowKit
end Go.Proofs.Ytannjgdginfgeaa
namespace Go.Proofs.Ytannjgdginfgeaa
open Go.RowKit
end Go.Proofs.Ytannjgdginfgeaa
namespace Go.Proofs.Ytannjgdginfgeaa
open Go.RowKit
end Go.Proofs.Ytannjgdginfgeaa
namespace Go.Proofs.Ytannjgdginfgeaa
open Go.RowKit
end Go.Proofs.Ytannjgdginfgeaa
namespace Go.Proofs.Ytannjgdginfgeaa
open Go.RowKit
end Go.Proofs.Ytannjgdginfgeaa
namespace Go.Proofs.Ytannjgdginfgeaa
open Go.RowKit
end Go.Proofs.Ytannjgdginfgeaa
namespace Go.Proofs.Ytannjgdginfgeaa
open Go.RowKit
end Go.Proofs.Ytannjgdginfgeaa
namespace Go.Proofs.Ytannjgdginfgeaa
open Go.RowKit
end Go.Proofs.Ytannjgdginfgeaa
namespace Go.Proofs.Ytannjgdginfgeaa
open Go.RowKit
end Go.Proofs.Ytannjgdginfgeaa
namespace Go.Proofs.Ytannjgdginfgeaa
open Go.RowKit
end Go.Proofs.Ytannjgdginfgeaa
namespace Go.Proofs.Ytannjgdginfgeaa
open Go.RowKit
theorem specIsB_is {o1 o2 : Bool} {l1 u1 l2 u2 : Nat} (a1 a2 : Option Addr) (n c1 m c2 : Nat) (xs ys : List En) (w : World) (h1 : RowAt w o1 l1 u1 6 a1 n c1 (sixs xs)) (h2 : RowAt w o2 l2 u2 6 a2 m c2 (sixs ys)) (hn : n ≤ 2097152) (d : Bool) (hd : decide (commN xs ys = n) = d) : Calls Try.prog 49 #[.slice a1 n c1, .slice a2 m c2] w fun e w' => e = .returned (.bool d) ∧ Below w.heap.size w w' := by
 have hxl := h1.nSixs
 have hyl := h2.nSixs
 have hle := commN_le xs ys
 obtain ⟨c, hc⟩ : ∃ c, commN xs ys = c := ⟨_, rfl⟩
 rw [hc] at hd hle
 have HD : Hid (decide (c = n) = d) := hd
 have HC : Hid _ := hc
 clear hd hc
 go_enter Try.func49, Try.ntmps49
 by_cases hnm : n ≤ m
 ·have hl : (n : Int) ≤ (m : Int) := by omega
  go_wp2_with fail
  refine (specCommon_is a1 a2 n c1 m c2 xs ys _ h1 h2 hn c HC.out).mono ?_
  rintro e w1 ⟨rfl, hb⟩
  clear HC hle
  go_wp2
  go_ret
  refine ⟨ret_bool ?_, hb⟩
  rw [← HD.out]
  by_cases h : c = n
  ·simp [h]
  ·have h' : ¬ (c : Int) = (n : Int) := by omega
   simp [h, h']
 ·have hl : ¬ (n : Int) ≤ (m : Int) := by omega
  have hd : d = false := by rw [← HD.out]; exact decide_eq_false (by omega)
  subst hd
  go_wp2
  go_ret
  exact ⟨rfl, Below.refl _ _⟩
end Go.Proofs.Ytannjgdginfgeaa
namespace Go.Proofs.Ytannjgdginfgeaa
open Go.RowKit
end Go.Proofs.Ytannjgdginfgeaa
namespace Go.Proofs.Ytannjgdginfgeaa
open Go.RowKit
end Go.Proofs.Ytannjgdginfgeaa
namespace Go.Proofs.Ytannjgdginfgeaa
open Go.RowKit
end Go.Proofs.Ytannjgdginfgeaa
namespace Go.Proofs.Ytannjgdginfgeaa
open Go.RowKit
end Go.Proofs.Ytannjgdginfgeaa
namespace Go.Proofs.Ytannjgdginfgeaa
open Go.RowKit
def auPair (a b : Rep) : Bool := !(decide (a.last = b.last)) || (decide (commN a.log b.log = a.log.length) || decide (commN b.log a.log = b.log.length))
def auMatch (rs : List Rep) : Bool := decide (∀ i, i < rs.length → ∀ j, j < i → auPair (rs.getD i rep0) (rs.getD j rep0) = true)
theorem auPair_symm (a b : Rep) : auPair a b = auPair b a := by
 unfold auPair
 rw [Bool.or_comm (decide (commN a.log b.log = a.log.length))]
 congr 2
 exact decide_eq_decide.2 ⟨Eq.symm, Eq.symm⟩
theorem auPair_far {a b : Rep} (h : ¬ a.last = b.last) : auPair a b = true := by unfold auPair; simp [h]
theorem auPair_near {a b : Rep} (h : a.last = b.last) {d1 d2 : Bool} (h1 : decide (commN a.log b.log = a.log.length) = d1) (h2 : decide (commN b.log a.log = b.log.length) = d2) : auPair a b = (d1 || d2) := by unfold auPair; rw [h1, h2]; simp [h]
theorem auMatch_no {rs : List Rep} {i j : Nat} (hi : i < rs.length) (hj : j < i) (h : auPair (rs.getD i rep0) (rs.getD j rep0) = false) : auMatch rs = false := by
 unfold auMatch
 rw [decide_eq_false_iff_not]
 intro z
 rw [z i hi j hj] at h
 cases h
theorem auMatch_yes {rs : List Rep} (h : ∀ i, i < rs.length → ∀ j, j < i → auPair (rs.getD i rep0) (rs.getD j rep0) = true) : auMatch rs = true := decide_eq_true h
end Go.Proofs.Ytannjgdginfgeaa
namespace Go.Proofs.Ytannjgdginfgeaa
open Go.RowKit
end Go.Proofs.Ytannjgdginfgeaa
namespace Go.Proofs.Ytannjgdginfgeaa
open Go.RowKit
end Go.Proofs.Ytannjgdginfgeaa
namespace Go.Proofs.Ytannjgdginfgeaa
open Go.RowKit
theorem auMMatch_is (b0 : Nat) {own : Bool} {lo hi : Nat} (N M Sl : Hd) (xs : List Nod) (ms : List Mal) (es : List En) (w : World) (X0 : Bx w b0 [.slice N.1 N.2.1 N.2.2, .slice M.1 M.2.1 M.2.2, .slice Sl.1 Sl.2.1 Sl.2.2]) (x : ClAt w own lo hi N M Sl xs ms es) (hs : ClSz N M Sl xs ms 1048576) (hr : cluF (xs.map (·.1)) (ms.map (·.1)) es = 0) (d : Bool) (hd : auMatch (xs.map (·.1)) = d) :
  Calls Try.prog 42 #[.pointer (some ⟨b0, 0, none⟩)] w fun e w' => e = .returned (.bool d) ∧ Below w.heap.size w w' := by
 obtain ⟨⟨ao, n, cap⟩, hN⟩ : ∃ q : Hd, N = q := ⟨N, rfl⟩
 subst hN
 have hl : (xs.map (·.1)).length = n := by simpa using x.nodes.len
 have hes := x.slog.nSixs
 have hn := hs.n
 have HRt : Hid _ := auRight x hr
 have HD : Hid _ := hd
 have HS : Hid _ := hs
 have Hx : Hid _ := x
 clear hd hr hs x
 obtain ⟨rs, hrs⟩ : ∃ rs, (xs.map (·.1)) = rs := ⟨_, rfl⟩
 have HR : Hid (∀ (i : Nat) (a : Nod), xs[i]? = some a → rs.getD i rep0 = a.1) := fun i a e => by rw [← hrs]; exact mapD e
 have HD2 := HD.out
 rw [hrs] at hl HD2
 replace HD : Hid _ := HD2
 have HL : Hid _ := hl
 have HES : Hid _ := hes
 clear HD2 hrs hl hes
 simp only at hn X0 ⊢
 have HX0 : Hid _ := X0
 have c0 := X0.cell
 go_enter Try.func42, Try.ntmps42
 clear c0
 go_wp2_with fail
 go_loopw [3] (fun i wr => ∃ k : Nat, k ≤ n ∧ i = .int .i64 k ∧ Hid (∀ i, i < k → ∀ j, j < i → auPair (rs.getD i rep0) (rs.getD j rep0) = true) ∧ Below w.heap.size w wr) (fun i _ => n - (intOf i).toNat)
 case atStart => exact ⟨0, Nat.zero_le _, rfl, fun j hj => absurd hj (Nat.not_lt_zero _), Below.refl _ _⟩
 case round =>
  obtain ⟨k, hk, rfl, H0, hb0⟩ := hrel
  have X0 := HX0.out.below hb0
  have c0 := X0.cell
  by_cases hlt : k < n
  ·have hlk : (k : Int) < (n : Int) := by omega
   have HB0 : Hid _ := hb0
   go_wp2_with fail
   clear X0 c0 hb0
   go_loopw [4] (fun i wq => ∃ j : Nat, j ≤ k ∧ i = .int .i64 j ∧ Hid (∀ q, q < j → auPair (rs.getD k rep0) (rs.getD q rep0) = true) ∧ Below w.heap.size w wq) (fun i _ => k - (intOf i).toNat)
   case atStart => exact ⟨0, Nat.zero_le _, rfl, fun j hj => absurd hj (Nat.not_lt_zero _), HB0.out⟩
   case round =>
    obtain ⟨j, hj, rfl, H1, hb⟩ := hrel
    have X0 := HX0.out.below hb
    have c0 := X0.cell
    by_cases hlj : j < k
    ·have hjk : (j : Int) < (k : Int) := by omega
     have hjn : (j : Int) < (n : Int) := by omega
     obtain ⟨r, h, b, off, ex, rfl, _, _, XN, y, _⟩ := LAt.node (NAt.below Hx.out.nodes hb) (i := k) (by show _ < n; omega)
     have cN := XN.cell
     obtain ⟨r2, h2, b', off', ex2, eN, _, _, XN2, y2, _⟩ := LAt.node (NAt.below Hx.out.nodes hb) (i := j) (by show _ < n; omega)
     simp only [Option.some.injEq, Addr.mk.injEq, and_true] at eN
     obtain ⟨rfl, rfl⟩ := eN
     have cN2 := XN2.cell
     have HE : Hid (rs.getD k rep0 = r) := HR.out k _ ex
     have HE2 : Hid (rs.getD j rep0 = r2) := HR.out j _ ex2
     have hs1 := (HS.out.nodes _ _ ex).L
     have hs2 := (HS.out.nodes _ _ ex2).L
     have HEX : Hid _ := ex
     have HEX2 : Hid _ := ex2
     simp only at hs1 hs2
     obtain ⟨d1, hd1⟩ : ∃ q, decide (commN r.log r2.log = h.L.2.1) = q := ⟨_, rfl⟩
     obtain ⟨d2, hd2⟩ : ∃ q, decide (commN r2.log r.log = h2.L.2.1) = q := ⟨_, rfl⟩
     have HD1 : Hid _ := hd1
     have HD2 : Hid _ := hd2
     have HP : Hid (r.last = r2.last → auPair r r2 = (d1 || d2)) := fun z => auPair_near z (by rw [y.log.nSixs]; exact hd1) (by rw [y2.log.nSixs]; exact hd2)
     have HF : Hid (¬ r.last = r2.last → auPair r r2 = true) := fun z => auPair_far z
     clear ex ex2 y y2 hd1 hd2
     have HNO : Hid (auPair r r2 = false → d = false) := fun z => by rw [← HD.out]; exact auMatch_no (i := k) (j := j) (by rw [HL.out]; exact hlt) hlj (by rw [HE.out, HE2.out]; exact z)
     have HYES : Hid (auPair r r2 = true → ∀ q, q < j + 1 → auPair (rs.getD k rep0) (rs.getD q rep0) = true) := fun z q h1 => by
      by_cases e : q = j
      ·rw [e, HE.out, HE2.out]; exact z
      ·exact H1.out q (by omega)
     clear H1
     go_wp2_with fail
     have DQ : Below wr.heap.size wr wr.drew := (Below.refl _ _).drew
     replace X0 := X0.below DQ
     replace c0 := X0.cell
     replace XN := XN.below DQ
     replace cN := XN.cell
     replace XN2 := XN2.below DQ
     replace cN2 := XN2.cell
     replace hb := below_next hb DQ
     clear DQ
     by_cases q0 : r.last = r2.last
     rotate_left 1
     ·have q0' : (r.last == r2.last) = false := by simp [q0]
      have HN : Hid _ := HYES.out (HF.out q0)
      clear q0
      refine wp_region_held_drew (S := (fun w' => (∀ k : Nat, w'.cell? ⟨b0, k, none⟩ = [.slice (some ⟨b, off, none⟩) n cap, .slice M.1 M.2.1 M.2.2, .slice Sl.1 Sl.2.1 Sl.2.2][k]?) ∧ (w'.cell? ⟨b, off + k * 10, none⟩ = [.int .i64 r.id, .int .i64 r.size, .int .i64 r.view, .bool r.normal, .int .i64 r.last, .slice h.L.1 h.L.2.1 h.L.2.2, .int .i64 r.commit, .slice h.O.1 h.O.2.1 h.O.2.2, .slice h.A.1 h.A.2.1 h.A.2.2, .slice h.D.1 h.D.2.1 h.D.2.2][0]? ∧ ∀ k_1 : Nat, k_1 < 10 → w'.cell? ⟨b, off + k * 10 + k_1, none⟩ = [.int .i64 r.id, .int .i64 r.size, .int .i64 r.view, .bool r.normal, .int .i64 r.last, .slice h.L.1 h.L.2.1 h.L.2.2, .int .i64 r.commit, .slice h.O.1 h.O.2.1 h.O.2.2, .slice h.A.1 h.A.2.1 h.A.2.2, .slice h.D.1 h.D.2.1 h.D.2.2][k_1]?) ∧ (w'.cell? ⟨b, off + j * 10, none⟩ = [.int .i64 r2.id, .int .i64 r2.size, .int .i64 r2.view, .bool r2.normal, .int .i64 r2.last, .slice h2.L.1 h2.L.2.1 h2.L.2.2, .int .i64 r2.commit, .slice h2.O.1 h2.O.2.1 h2.O.2.2, .slice h2.A.1 h2.A.2.1 h2.A.2.2, .slice h2.D.1 h2.D.2.1 h2.D.2.2][0]? ∧ ∀ k_1 : Nat, k_1 < 10 → w'.cell? ⟨b, off + j * 10 + k_1, none⟩ = [.int .i64 r2.id, .int .i64 r2.size, .int .i64 r2.view, .bool r2.normal, .int .i64 r2.last, .slice h2.L.1 h2.L.2.1 h2.L.2.2, .int .i64 r2.commit, .slice h2.O.1 h2.O.2.1 h2.O.2.2, .slice h2.A.1 h2.A.2.1 h2.A.2.2, .slice h2.D.1 h2.D.2.1 h2.D.2.2][k_1]?))) (by kernel_rfl) ⟨c0, cN, cN2⟩ (fun hZq => ?_)
      refine tk 0 hZq ?_
      refine tk 1 hZq ?_
      refine tk 2 hZq ?_
      refine tk 3 hZq ?_
      refine tk 4 hZq ?_
      refine tk 5 hZq ?_
      refine tk 6 hZq ?_
      refine tk 7 hZq ?_
      refine tk 8 hZq ?_
      refine tk 9 hZq ?_
      refine tk 10 hZq ?_
      refine tk 11 hZq ?_
      refine tk 12 hZq ?_
      refine tk 13 hZq ?_
      refine tk 14 hZq ?_
      refine tk 15 hZq ?_
      refine tk 16 hZq ?_
      refine tk 17 hZq ?_
      refine tks 18 hZq ?_
      refine tks 19 hZq ?_
      refine tks 20 hZq ?_
      refine tks 21 hZq ?_
      refine tk 22 hZq ?_
      refine tk 23 hZq ?_
      refine tks 24 hZq ?_
      refine tks 25 hZq ?_
      refine tks 26 hZq ?_
      refine tks 27 hZq ?_
      refine tk 28 hZq ?_
      refine wpAnyH_done (by kernel_rfl) ?_ _
      have HB : Hid _ := hb
      clear HNO HYES hb
      go_wp2
      go_roundw
      case rel => exact ⟨j + 1, by omega, by go_num, HN, HB.out⟩
      case measure => simp [intOf]; omega
     have q0' : (r.last == r2.last) = true := by simp [q0]
     have HP2 : Hid _ := HP.out q0
     clear q0 HP HF
     cases d1 with
     | true =>
      refine wp_region_held_drew (S := (fun w' => (∀ k : Nat, w'.cell? ⟨b0, k, none⟩ = [.slice (some ⟨b, off, none⟩) n cap, .slice M.1 M.2.1 M.2.2, .slice Sl.1 Sl.2.1 Sl.2.2][k]?) ∧ (w'.cell? ⟨b, off + k * 10, none⟩ = [.int .i64 r.id, .int .i64 r.size, .int .i64 r.view, .bool r.normal, .int .i64 r.last, .slice h.L.1 h.L.2.1 h.L.2.2, .int .i64 r.commit, .slice h.O.1 h.O.2.1 h.O.2.2, .slice h.A.1 h.A.2.1 h.A.2.2, .slice h.D.1 h.D.2.1 h.D.2.2][0]? ∧ ∀ k_1 : Nat, k_1 < 10 → w'.cell? ⟨b, off + k * 10 + k_1, none⟩ = [.int .i64 r.id, .int .i64 r.size, .int .i64 r.view, .bool r.normal, .int .i64 r.last, .slice h.L.1 h.L.2.1 h.L.2.2, .int .i64 r.commit, .slice h.O.1 h.O.2.1 h.O.2.2, .slice h.A.1 h.A.2.1 h.A.2.2, .slice h.D.1 h.D.2.1 h.D.2.2][k_1]?) ∧ (w'.cell? ⟨b, off + j * 10, none⟩ = [.int .i64 r2.id, .int .i64 r2.size, .int .i64 r2.view, .bool r2.normal, .int .i64 r2.last, .slice h2.L.1 h2.L.2.1 h2.L.2.2, .int .i64 r2.commit, .slice h2.O.1 h2.O.2.1 h2.O.2.2, .slice h2.A.1 h2.A.2.1 h2.A.2.2, .slice h2.D.1 h2.D.2.1 h2.D.2.2][0]? ∧ ∀ k_1 : Nat, k_1 < 10 → w'.cell? ⟨b, off + j * 10 + k_1, none⟩ = [.int .i64 r2.id, .int .i64 r2.size, .int .i64 r2.view, .bool r2.normal, .int .i64 r2.last, .slice h2.L.1 h2.L.2.1 h2.L.2.2, .int .i64 r2.commit, .slice h2.O.1 h2.O.2.1 h2.O.2.2, .slice h2.A.1 h2.A.2.1 h2.A.2.2, .slice h2.D.1 h2.D.2.1 h2.D.2.2][k_1]?))) (by kernel_rfl) ⟨c0, cN, cN2⟩ (fun hZq => ?_)
      refine tk 0 hZq ?_
      refine tk 1 hZq ?_
      refine tk 2 hZq ?_
      refine tk 3 hZq ?_
      refine tk 4 hZq ?_
      refine tk 5 hZq ?_
      refine tk 6 hZq ?_
      refine tk 7 hZq ?_
      refine tk 8 hZq ?_
      refine tk 9 hZq ?_
      refine tk 10 hZq ?_
      refine tk 11 hZq ?_
      refine tk 12 hZq ?_
      refine tk 13 hZq ?_
      refine tk 14 hZq ?_
      refine tk 15 hZq ?_
      refine tk 16 hZq ?_
      refine tk 17 hZq ?_
      refine tk 18 hZq ?_
      refine tk 19 hZq ?_
      refine rd1 20 (fun KK hKK => ?_)
      go_simp
      go_at_call 49
      refine (specIsB_is h.L.1 h2.L.1 h.L.2.1 h.L.2.2 h2.L.2.1 h2.L.2.2 r.log r2.log _ ((Hx.out.nodes.below hb).each k _ HEX.out).log ((Hx.out.nodes.below hb).each j _ HEX2.out).log (by omega) true HD1.out).mono ?_
      rintro e w1 ⟨rfl, BB⟩
      replace X0 := X0.below BB
      replace c0 := X0.cell
      replace XN := XN.below BB
      replace cN := XN.cell
      replace XN2 := XN2.below BB
      replace cN2 := XN2.cell
      replace hb := below_next hb BB
      clear BB
      clear hZq
      refine hKK _ _ ⟨c0, cN, cN2⟩ (fun hZq => ?_)
      clear hKK KK
      refine tk 21 hZq ?_
      refine tk 22 hZq ?_
      refine tk 23 hZq ?_
      refine tks 24 hZq ?_
      refine tks 25 hZq ?_
      refine tks 26 hZq ?_
      refine tks 27 hZq ?_
      refine tk 28 hZq ?_
      refine wpAnyH_done (by kernel_rfl) ?_ _
      have HN : Hid _ := HYES.out HP2.out
      have HB : Hid _ := hb
      clear HNO HYES hb
      go_wp2
      go_roundw
      case rel => exact ⟨j + 1, by omega, by go_num, HN, HB.out⟩
      case measure => simp [intOf]; omega
     | false =>
      cases d2 with
      | true =>
       refine wp_region_held_drew (S := (fun w' => (∀ k : Nat, w'.cell? ⟨b0, k, none⟩ = [.slice (some ⟨b, off, none⟩) n cap, .slice M.1 M.2.1 M.2.2, .slice Sl.1 Sl.2.1 Sl.2.2][k]?) ∧ (w'.cell? ⟨b, off + k * 10, none⟩ = [.int .i64 r.id, .int .i64 r.size, .int .i64 r.view, .bool r.normal, .int .i64 r.last, .slice h.L.1 h.L.2.1 h.L.2.2, .int .i64 r.commit, .slice h.O.1 h.O.2.1 h.O.2.2, .slice h.A.1 h.A.2.1 h.A.2.2, .slice h.D.1 h.D.2.1 h.D.2.2][0]? ∧ ∀ k_1 : Nat, k_1 < 10 → w'.cell? ⟨b, off + k * 10 + k_1, none⟩ = [.int .i64 r.id, .int .i64 r.size, .int .i64 r.view, .bool r.normal, .int .i64 r.last, .slice h.L.1 h.L.2.1 h.L.2.2, .int .i64 r.commit, .slice h.O.1 h.O.2.1 h.O.2.2, .slice h.A.1 h.A.2.1 h.A.2.2, .slice h.D.1 h.D.2.1 h.D.2.2][k_1]?) ∧ (w'.cell? ⟨b, off + j * 10, none⟩ = [.int .i64 r2.id, .int .i64 r2.size, .int .i64 r2.view, .bool r2.normal, .int .i64 r2.last, .slice h2.L.1 h2.L.2.1 h2.L.2.2, .int .i64 r2.commit, .slice h2.O.1 h2.O.2.1 h2.O.2.2, .slice h2.A.1 h2.A.2.1 h2.A.2.2, .slice h2.D.1 h2.D.2.1 h2.D.2.2][0]? ∧ ∀ k_1 : Nat, k_1 < 10 → w'.cell? ⟨b, off + j * 10 + k_1, none⟩ = [.int .i64 r2.id, .int .i64 r2.size, .int .i64 r2.view, .bool r2.normal, .int .i64 r2.last, .slice h2.L.1 h2.L.2.1 h2.L.2.2, .int .i64 r2.commit, .slice h2.O.1 h2.O.2.1 h2.O.2.2, .slice h2.A.1 h2.A.2.1 h2.A.2.2, .slice h2.D.1 h2.D.2.1 h2.D.2.2][k_1]?))) (by kernel_rfl) ⟨c0, cN, cN2⟩ (fun hZq => ?_)
       refine tk 0 hZq ?_
       refine tk 1 hZq ?_
       refine tk 2 hZq ?_
       refine tk 3 hZq ?_
       refine tk 4 hZq ?_
       refine tk 5 hZq ?_
       refine tk 6 hZq ?_
       refine tk 7 hZq ?_
       refine tk 8 hZq ?_
       refine tk 9 hZq ?_
       refine tk 10 hZq ?_
       refine tk 11 hZq ?_
       refine tk 12 hZq ?_
       refine tk 13 hZq ?_
       refine tk 14 hZq ?_
       refine tk 15 hZq ?_
       refine tk 16 hZq ?_
       refine tk 17 hZq ?_
       refine tk 18 hZq ?_
       refine tk 19 hZq ?_
       refine rd1 20 (fun KK hKK => ?_)
       go_simp
       go_at_call 49
       refine (specIsB_is h.L.1 h2.L.1 h.L.2.1 h.L.2.2 h2.L.2.1 h2.L.2.2 r.log r2.log _ ((Hx.out.nodes.below hb).each k _ HEX.out).log ((Hx.out.nodes.below hb).each j _ HEX2.out).log (by omega) false HD1.out).mono ?_
       rintro e w1 ⟨rfl, BB⟩
       replace X0 := X0.below BB
       replace c0 := X0.cell
       replace XN := XN.below BB
       replace cN := XN.cell
       replace XN2 := XN2.below BB
       replace cN2 := XN2.cell
       replace hb := below_next hb BB
       clear BB
       clear hZq
       refine hKK _ _ ⟨c0, cN, cN2⟩ (fun hZq => ?_)
       clear hKK KK
       refine tk 21 hZq ?_
       refine tk 22 hZq ?_
       refine tk 23 hZq ?_
       refine tk 24 hZq ?_
       refine tk 25 hZq ?_
       refine rd1 26 (fun KK hKK => ?_)
       go_simp
       go_at_call 49
       refine (specIsB_is h2.L.1 h.L.1 h2.L.2.1 h2.L.2.2 h.L.2.1 h.L.2.2 r2.log r.log _ ((Hx.out.nodes.below hb).each j _ HEX2.out).log ((Hx.out.nodes.below hb).each k _ HEX.out).log (by omega) true HD2.out).mono ?_
       rintro e w2 ⟨rfl, BB⟩
       replace X0 := X0.below BB
       replace c0 := X0.cell
       replace XN := XN.below BB
       replace cN := XN.cell
       replace XN2 := XN2.below BB
       replace cN2 := XN2.cell
       replace hb := below_next hb BB
       clear BB
       clear hZq
       refine hKK _ _ ⟨c0, cN, cN2⟩ (fun hZq => ?_)
       clear hKK KK
       refine tk 27 hZq ?_
       refine tk 28 hZq ?_
       refine wpAnyH_done (by kernel_rfl) ?_ _
       have HN : Hid _ := HYES.out HP2.out
       have HB : Hid _ := hb
       clear HNO HYES hb
       go_wp2
       go_roundw
       case rel => exact ⟨j + 1, by omega, by go_num, HN, HB.out⟩
       case measure => simp [intOf]; omega
      | false =>
       refine wp_region_held_drew (S := (fun w' => (∀ k : Nat, w'.cell? ⟨b0, k, none⟩ = [.slice (some ⟨b, off, none⟩) n cap, .slice M.1 M.2.1 M.2.2, .slice Sl.1 Sl.2.1 Sl.2.2][k]?) ∧ (w'.cell? ⟨b, off + k * 10, none⟩ = [.int .i64 r.id, .int .i64 r.size, .int .i64 r.view, .bool r.normal, .int .i64 r.last, .slice h.L.1 h.L.2.1 h.L.2.2, .int .i64 r.commit, .slice h.O.1 h.O.2.1 h.O.2.2, .slice h.A.1 h.A.2.1 h.A.2.2, .slice h.D.1 h.D.2.1 h.D.2.2][0]? ∧ ∀ k_1 : Nat, k_1 < 10 → w'.cell? ⟨b, off + k * 10 + k_1, none⟩ = [.int .i64 r.id, .int .i64 r.size, .int .i64 r.view, .bool r.normal, .int .i64 r.last, .slice h.L.1 h.L.2.1 h.L.2.2, .int .i64 r.commit, .slice h.O.1 h.O.2.1 h.O.2.2, .slice h.A.1 h.A.2.1 h.A.2.2, .slice h.D.1 h.D.2.1 h.D.2.2][k_1]?) ∧ (w'.cell? ⟨b, off + j * 10, none⟩ = [.int .i64 r2.id, .int .i64 r2.size, .int .i64 r2.view, .bool r2.normal, .int .i64 r2.last, .slice h2.L.1 h2.L.2.1 h2.L.2.2, .int .i64 r2.commit, .slice h2.O.1 h2.O.2.1 h2.O.2.2, .slice h2.A.1 h2.A.2.1 h2.A.2.2, .slice h2.D.1 h2.D.2.1 h2.D.2.2][0]? ∧ ∀ k_1 : Nat, k_1 < 10 → w'.cell? ⟨b, off + j * 10 + k_1, none⟩ = [.int .i64 r2.id, .int .i64 r2.size, .int .i64 r2.view, .bool r2.normal, .int .i64 r2.last, .slice h2.L.1 h2.L.2.1 h2.L.2.2, .int .i64 r2.commit, .slice h2.O.1 h2.O.2.1 h2.O.2.2, .slice h2.A.1 h2.A.2.1 h2.A.2.2, .slice h2.D.1 h2.D.2.1 h2.D.2.2][k_1]?))) (by kernel_rfl) ⟨c0, cN, cN2⟩ (fun hZq => ?_)
       refine tk 0 hZq ?_
       refine tk 1 hZq ?_
       refine tk 2 hZq ?_
       refine tk 3 hZq ?_
       refine tk 4 hZq ?_
       refine tk 5 hZq ?_
       refine tk 6 hZq ?_
       refine tk 7 hZq ?_
       refine tk 8 hZq ?_
       refine tk 9 hZq ?_
       refine tk 10 hZq ?_
       refine tk 11 hZq ?_
       refine tk 12 hZq ?_
       refine tk 13 hZq ?_
       refine tk 14 hZq ?_
       refine tk 15 hZq ?_
       refine tk 16 hZq ?_
       refine tk 17 hZq ?_
       refine tk 18 hZq ?_
       refine tk 19 hZq ?_
       refine rd1 20 (fun KK hKK => ?_)
       go_simp
       go_at_call 49
       refine (specIsB_is h.L.1 h2.L.1 h.L.2.1 h.L.2.2 h2.L.2.1 h2.L.2.2 r.log r2.log _ ((Hx.out.nodes.below hb).each k _ HEX.out).log ((Hx.out.nodes.below hb).each j _ HEX2.out).log (by omega) false HD1.out).mono ?_
       rintro e w1 ⟨rfl, BB⟩
       replace X0 := X0.below BB
       replace c0 := X0.cell
       replace XN := XN.below BB
       replace cN := XN.cell
       replace XN2 := XN2.below BB
       replace cN2 := XN2.cell
       replace hb := below_next hb BB
       clear BB
       clear hZq
       refine hKK _ _ ⟨c0, cN, cN2⟩ (fun hZq => ?_)
       clear hKK KK
       refine tk 21 hZq ?_
       refine tk 22 hZq ?_
       refine tk 23 hZq ?_
       refine tk 24 hZq ?_
       refine tk 25 hZq ?_
       refine rd1 26 (fun KK hKK => ?_)
       go_simp
       go_at_call 49
       refine (specIsB_is h2.L.1 h.L.1 h2.L.2.1 h2.L.2.2 h.L.2.1 h.L.2.2 r2.log r.log _ ((Hx.out.nodes.below hb).each j _ HEX2.out).log ((Hx.out.nodes.below hb).each k _ HEX.out).log (by omega) false HD2.out).mono ?_
       rintro e w2 ⟨rfl, BB⟩
       replace X0 := X0.below BB
       replace c0 := X0.cell
       replace XN := XN.below BB
       replace cN := XN.cell
       replace XN2 := XN2.below BB
       replace cN2 := XN2.cell
       replace hb := below_next hb BB
       clear BB
       clear hZq
       refine hKK _ _ ⟨c0, cN, cN2⟩ (fun hZq => ?_)
       clear hKK KK
       refine tk 27 hZq ?_
       refine tk 28 hZq ?_
       refine wpAnyH_done (by kernel_rfl) ?_ _
       have e : d = false := HNO.out HP2.out
       subst e
       clear HNO HYES HD
       go_wp2
       go_ret
       exact ⟨rfl, hb⟩
    ·obtain rfl : j = k := by omega
     have HN : Hid (∀ i, i < (j + 1) → ∀ j, j < i → auPair (rs.getD i rep0) (rs.getD j rep0) = true) := fun i hi q hq => by
      by_cases e : i = j
      ·subst e; exact H1.out q hq
      ·exact H0.out i (by omega) q hq
     have HB : Hid _ := hb
     clear hb HB0
     go_wp2
     go_roundw
     case rel => exact ⟨j + 1, by omega, by go_num, HN, HB.out⟩
     case measure => simp [intOf]; omega
  ·obtain rfl : k = n := by omega
   have e : d = true := by rw [← HD.out]; exact auMatch_yes (fun i hi j hj => H0.out i (by rw [HL.out] at hi; exact hi) j hj)
   subst e
   clear HD
   go_wp2
   go_ret
   exact ⟨rfl, hb0⟩
end Go.Proofs.Ytannjgdginfgeaa
namespace Go.Proofs.Ytannjgdginfgeaa
open Go.RowKit
theorem auMLM_is {own : Bool} {lo hi : Nat} (N M Sl : Hd) (xs : List Nod) (ms : List Mal) (es : List En) (w : World) (x : ClAt w own lo hi N M Sl xs ms es) (hs : ClSz N M Sl xs ms 1048576) (d : Bool) (hd : (decide (cluF (xs.map (·.1)) (ms.map (·.1)) es = 0) && auMatch (xs.map (·.1))) = d) :
  Calls Try.prog 14 #[.agg #[.slice N.1 N.2.1 N.2.2, .slice M.1 M.2.1 M.2.2, .slice Sl.1 Sl.2.1 Sl.2.2]] w fun e w' => e = .returned (.bool d) ∧ Below w.heap.size w w' := by
 obtain ⟨cd, hcd⟩ : ∃ cd, cluF (xs.map (·.1)) (ms.map (·.1)) es = cd := ⟨_, rfl⟩
 have HC : Hid _ := hcd
 obtain ⟨e0, he0⟩ : ∃ q, auMatch (xs.map (·.1)) = q := ⟨_, rfl⟩
 have HE0 : Hid _ := he0
 rw [hcd, he0] at hd
 have HD : Hid _ := hd
 clear hd hcd he0
 go_enter Try.func14, Try.ntmps14
 go_wp2_with (first | ((with_reducible refine box_newX 33 [.slice N.1 N.2.1 N.2.2, .slice M.1 M.2.1 M.2.2, .slice Sl.1 Sl.2.1 Sl.2.2] rfl ?_); intro b0 W0 N0; have ob0 := N0.ge; have B := N0.below; have X0 := N0.bx; have c0 := X0.cell; clear N0) | fail)
 refine (l11Fault_is b0 N M Sl xs ms es _ X0 (x.below B) hs cd HC.out).mono ?_
 rintro e w1 ⟨rfl, BB⟩
 replace X0 := X0.below BB
 replace c0 := X0.cell
 replace B := below_next B BB
 clear BB
 by_cases q0 : cd = 0
 rotate_left 1
 ·have q0' : (cd == 0) = false := by simp [q0]
  have e : d = false := by rw [← HD.out, decide_eq_false q0, Bool.false_and]
  subst e
  go_wp2
  go_ret
  exact ⟨rfl, B⟩
 subst q0
 go_wp2_with fail
 refine (auMMatch_is b0 N M Sl xs ms es _ X0 (x.below B) hs HC.out e0 HE0.out).mono ?_
 rintro e w2 ⟨rfl, BB⟩
 replace X0 := X0.below BB
 replace c0 := X0.cell
 replace B := below_next B BB
 clear BB
 cases e0 with
 | false =>
  have e : d = false := by rw [← HD.out]; rfl
  subst e
  go_wp2
  go_ret
  exact ⟨rfl, B⟩
 | true =>
  have e : d = true := by rw [← HD.out]; rfl
  subst e
  go_wp2
  go_ret
  exact ⟨rfl, B⟩
end Go.Proofs.Ytannjgdginfgeaa
namespace Go.Proofs.Ytannjgdginfgeaa
open Go.RowKit
theorem auEither_is {o1 o2 : Bool} {l1 u1 l2 u2 : Nat} (a1 a2 : Option Addr) (n c1 m c2 : Nat) (xs ys : List En) (w : World) (h1 : RowAt w o1 l1 u1 6 a1 n c1 (sixs xs)) (h2 : RowAt w o2 l2 u2 6 a2 m c2 (sixs ys)) (hn : n ≤ 2097152) (hm : m ≤ 2097152) (d1 d2 : Bool) (hd1 : decide (commN xs ys = n) = d1) (hd2 : decide (commN ys xs = m) = d2) :
  Calls Try.prog 73 #[.slice a1 n c1, .slice a2 m c2] w fun e w' => e = .returned (.bool (d1 || d2)) ∧ Below w.heap.size w w' := by
 go_enter Try.func73, Try.ntmps73
 go_wp2_with fail
 refine (implIsB_is a1 a2 n c1 m c2 xs ys _ h1 h2 hn d1 hd1).mono ?_
 rintro e w1 ⟨rfl, B⟩
 cases d1 with
 | true =>
  go_wp2
  go_ret
  exact ⟨rfl, B⟩
 | false =>
  go_wp2_with fail
  refine (implIsB_is a2 a1 m c2 n c1 ys xs _ (h2.below B) (h1.below B) hm d2 hd2).mono ?_
  rintro e w2 ⟨rfl, BB⟩
  replace B := below_next B BB
  go_wp2
  go_ret
  exact ⟨by cases d2 <;> rfl, B⟩
theorem auAgree_is {own : Bool} {lo hi : Nat} (N M Sl : Hd) (xs : List Nod) (ms : List Mal) (es : List En) (w : World) (x : ClAt w own lo hi N M Sl xs ms es) (hs : ClSz N M Sl xs ms 1048576) (hr : cluF (xs.map (·.1)) (ms.map (·.1)) es = 0) (d : Bool) (hd : auMatch (xs.map (·.1)) = d) :
  Calls Try.prog 43 #[.agg #[.slice N.1 N.2.1 N.2.2, .slice M.1 M.2.1 M.2.2, .slice Sl.1 Sl.2.1 Sl.2.2]] w fun e w' => e = .returned (.bool d) ∧ Below w.heap.size w w' := by
 obtain ⟨⟨ao, n, cap⟩, hN⟩ : ∃ q : Hd, N = q := ⟨N, rfl⟩
 subst hN
 have hl : (xs.map (·.1)).length = n := by simpa using x.nodes.len
 have hle := x.nodes.row.le
 have hn := hs.n
 have HRt : Hid _ := auRight x hr
 have HD : Hid _ := hd
 have HS : Hid _ := hs
 have Hx : Hid _ := x
 have hmf : ∀ (fn : Fn) (first cap : Array Value) (w : World), (Instr.makeFunc fn first cap).run Try.prog w = .ok (.func fn first cap) w := fun _ _ _ _ => rfl
 clear hd hr hs x
 obtain ⟨rs, hrs⟩ : ∃ rs, (xs.map (·.1)) = rs := ⟨_, rfl⟩
 have HR : Hid (∀ (i : Nat) (a : Nod), xs[i]? = some a → rs.getD i rep0 = a.1) := fun i a e => by rw [← hrs]; exact mapD e
 have HD2 := HD.out
 rw [hrs] at hl HD2
 replace HD : Hid _ := HD2
 have HL : Hid _ := hl
 clear HD2 hrs hl
 simp only at hle hn ⊢
 go_enter Try.func43, Try.ntmps43
 go_wp2_with (first | ((with_reducible refine box_newX 33 [.slice ao n cap, .slice M.1 M.2.1 M.2.2, .slice Sl.1 Sl.2.1 Sl.2.2] rfl ?_); intro b0 W0 N0; have ob0 := N0.ge; have B := N0.below; have X0 := N0.bx; have c0 := X0.cell; clear N0) | fail)
 refine wp_scope_straight ?_
 go_wp2_with fail
 refine wp_label ?_
 go_wp2_with fail
 have HX0 : Hid _ := X0
 have HB0 : Hid _ := B
 clear X0 c0 B
 go_loopw [3, 11] (fun v i wr => ∃ k : Nat, k ≤ n ∧ v = .bool true ∧ i = .int .i64 k ∧ Hid (∀ i, i < k → ∀ j, i < j → j < n → auPair (rs.getD j rep0) (rs.getD i rep0) = true) ∧ Below W0.heap.size W0 wr) (fun _ i _ => n - (intOf i).toNat)
 case atStart => exact ⟨0, Nat.zero_le _, rfl, rfl, fun j hj => absurd hj (Nat.not_lt_zero _), Below.refl _ _⟩
 case round =>
  obtain ⟨k, hk, rfl, rfl, H0, hb⟩ := hrel
  by_cases hlt : k < n
  ·have hlk : (k : Int) < (n : Int) := by omega
   have hk1 : (k : Int) + 1 ≤ (n : Int) := by omega
   have hk1c : (k : Int) + 1 ≤ (cap : Int) := by omega
   have hk0 : (0 : Int) ≤ (k : Int) + 1 := by omega
   have hnc : (n : Int) ≤ (cap : Int) := by omega
   have hbb := below_next HB0.out hb
   obtain ⟨r, h, b, off, ex, rfl, _, _, XN, y, _⟩ := LAt.node (NAt.below Hx.out.nodes hbb) hlt
   have X0 := HX0.out.below hb
   have c0 := X0.cell
   have ob0 := X0.lt
   have cN := XN.cell
   have HE : Hid (rs.getD k rep0 = r) := HR.out k _ ex
   have HEX : Hid _ := ex
   clear ex
   by_cases hce : cap = k + 1
   ·go_wp2_with (first | ((with_reducible refine store_midX 64 X1 0 [.int .i64 r.id, .int .i64 r.size, .int .i64 r.view, .bool r.normal, .int .i64 r.last, .slice h.L.1 h.L.2.1 h.L.2.2, .int .i64 r.commit, .slice h.O.1 h.O.2.1 h.O.2.2, .slice h.A.1 h.A.2.1 h.A.2.2, .slice h.D.1 h.D.2.1 h.D.2.2] (by simp) (by kernel_rfl) (by simp [Value.oneCell']) rfl rfl ?_); intro V1 S; replace X0 := X0.kp S.kept; replace c0 := X0.cell; replace X1 : Bx V1 b1 [.int .i64 r.id, .int .i64 r.size, .int .i64 r.view, .bool r.normal, .int .i64 r.last, .slice h.L.1 h.L.2.1 h.L.2.2, .int .i64 r.commit, .slice h.O.1 h.O.2.1 h.O.2.2, .slice h.A.1 h.A.2.1 h.A.2.2, .slice h.D.1 h.D.2.1 h.D.2.2] := S.bx; replace c1 := X1.cell; replace f1 := X1.froz; replace B := bkp B S.kept; clear S) | ((have g := ob0); clear g; (with_reducible refine alloc_newX 64 [.int .i64 0, .int .i64 0, .int .i64 0, .bool false, .int .i64 0, .slice none 0 0, .int .i64 0, .slice none 0 0, .slice none 0 0, .slice none 0 0] (fun _ => by kernel_rfl) ?_); intro b1 W1 N1; have ob1 := N1.ge; have o0_b1 := ltl X0.lt N1.ge; replace X0 := X0.below N1.below; replace c0 := X0.cell; have B := N1.below; have X1 := N1.bx; have c1 := X1.cell; have f1 := X1.froz; clear N1) | fail)
    clear XN cN
    have HB : Hid _ := below_next hb B
    clear hb hbb B X0 c0 X1 c1 f1 y
    generalize hm : n - (k + 1) = m
    go_loopw [3, 22] (fun v i wq => ∃ j : Nat, j ≤ m ∧ v = .bool true ∧ i = .int .i64 j ∧ Hid (∀ q, k < q → q < k + 1 + j → auPair (rs.getD q rep0) (rs.getD k rep0) = true) ∧ Below V1.heap.size V1 wq) (fun _ i _ => m - (intOf i).toNat)
    case atStart => exact ⟨0, Nat.zero_le _, rfl, rfl, fun q h1 h2 => absurd h2 (by omega), Below.refl _ _⟩
    case round =>
     obtain ⟨j, hj, rfl, rfl, H1, hc⟩ := hrel
     by_cases hlj : j < m
     ·exfalso; omega
     ·obtain rfl : j = m := by omega
      have HN : Hid (∀ i, i < (k + 1) → ∀ j, i < j → j < n → auPair (rs.getD j rep0) (rs.getD i rep0) = true) := fun i hi q h1 h2 => by
       by_cases e : i = k
       ·subst e; exact H1.out q h1 (by omega)
       ·exact H0.out i (by omega) q h1 h2
      have HB2 : Hid _ := below_next HB.out hc
      clear hc HB
      go_wp2
      rw [← hce]
      go_roundw
      case rel => exact ⟨k + 1, by omega, rfl, by go_num, HN, HB2.out⟩
      case measure => simp [intOf]; omega
   ·go_wp2_with (first | ((with_reducible refine store_midX 64 X1 0 [.int .i64 r.id, .int .i64 r.size, .int .i64 r.view, .bool r.normal, .int .i64 r.last, .slice h.L.1 h.L.2.1 h.L.2.2, .int .i64 r.commit, .slice h.O.1 h.O.2.1 h.O.2.2, .slice h.A.1 h.A.2.1 h.A.2.2, .slice h.D.1 h.D.2.1 h.D.2.2] (by simp) (by kernel_rfl) (by simp [Value.oneCell']) rfl rfl ?_); intro V1 S; replace X0 := X0.kp S.kept; replace c0 := X0.cell; replace X1 : Bx V1 b1 [.int .i64 r.id, .int .i64 r.size, .int .i64 r.view, .bool r.normal, .int .i64 r.last, .slice h.L.1 h.L.2.1 h.L.2.2, .int .i64 r.commit, .slice h.O.1 h.O.2.1 h.O.2.2, .slice h.A.1 h.A.2.1 h.A.2.2, .slice h.D.1 h.D.2.1 h.D.2.2] := S.bx; replace c1 := X1.cell; replace f1 := X1.froz; replace B := bkp B S.kept; clear S) | ((have g := ob0); clear g; (with_reducible refine alloc_newX 64 [.int .i64 0, .int .i64 0, .int .i64 0, .bool false, .int .i64 0, .slice none 0 0, .int .i64 0, .slice none 0 0, .slice none 0 0, .slice none 0 0] (fun _ => by kernel_rfl) ?_); intro b1 W1 N1; have ob1 := N1.ge; have o0_b1 := ltl X0.lt N1.ge; replace X0 := X0.below N1.below; replace c0 := X0.cell; have B := N1.below; have X1 := N1.bx; have c1 := X1.cell; have f1 := X1.froz; clear N1) | fail)
    clear XN cN
    have HX1 : Hid _ := X1
    have HB : Hid _ := below_next hb B
    have HW : Hid _ := below_next hbb B
    have Hy : Hid (RepAt _ _ _ _ _ _) := y.below B
    clear hb hbb B X0 c0 X1 c1 f1 y
    generalize hm : n - (k + 1) = m
    go_loopw [3, 22] (fun v i wq => ∃ j : Nat, j ≤ m ∧ v = .bool true ∧ i = .int .i64 j ∧ Hid (∀ q, k < q → q < k + 1 + j → auPair (rs.getD q rep0) (rs.getD k rep0) = true) ∧ Below V1.heap.size V1 wq) (fun _ i _ => m - (intOf i).toNat)
    case atStart => exact ⟨0, Nat.zero_le _, rfl, rfl, fun q h1 h2 => absurd h2 (by omega), Below.refl _ _⟩
    case round =>
     obtain ⟨j, hj, rfl, rfl, H1, hc⟩ := hrel
     by_cases hlj : j < m
     ·have hlj' : (j : Int) < (m : Int) := by omega
      have hbq := below_next HW.out hc
      have X1 := HX1.out.below hc
      have c1 := X1.cell
      have f1 := X1.froz
      have ob1 := X1.lt
      obtain ⟨r2, h2, b', off', ex2, eN, _, _, XN, y2, _⟩ := LAt.node (NAt.below Hx.out.nodes hbq) (i := k + 1 + j) (by show k + 1 + j < n; omega)
      simp only [Option.some.injEq, Addr.mk.injEq, and_true] at eN
      obtain ⟨rfl, rfl⟩ := eN
      rw [show off + (k + 1 + j) * 10 = off + (k + 1) * 10 + j * 10 by omega] at XN
      have cN := XN.cell
      have HE2 : Hid (rs.getD (k + 1 + j) rep0 = r2) := HR.out _ _ ex2
      have hs2 := (HS.out.nodes _ _ ex2).L
      have hs1 := (HS.out.nodes _ _ HEX.out).L
      simp only at hs1 hs2
      clear ex2
      have HNO : Hid (auPair r2 r = false → d = false) := fun z => by rw [← HD.out]; exact auMatch_no (i := k + 1 + j) (j := k) (by rw [HL.out]; omega) (by omega) (by rw [HE.out, HE2.out]; exact z)
      have HYES : Hid (auPair r2 r = true → ∀ q, k < q → q < k + 1 + (j + 1) → auPair (rs.getD q rep0) (rs.getD k rep0) = true) := fun z q h1 h3 => by
       by_cases e : q = k + 1 + j
       ·rw [e, HE.out, HE2.out]; exact z
       ·exact H1.out q h1 (by omega)
      clear H1 HD
      by_cases q0 : r.last = r2.last
      rotate_left 1
      ·have q0' : (r.last == r2.last) = false := by simp [q0]
       have HN : Hid _ := HYES.out (auPair_far (Ne.symm q0))
       clear HYES HNO
       go_wp2_with (first | ((with_reducible refine store_midX 64 X2 0 [.int .i64 r2.id, .int .i64 r2.size, .int .i64 r2.view, .bool r2.normal, .int .i64 r2.last, .slice h2.L.1 h2.L.2.1 h2.L.2.2, .int .i64 r2.commit, .slice h2.O.1 h2.O.2.1 h2.O.2.2, .slice h2.A.1 h2.A.2.1 h2.A.2.2, .slice h2.D.1 h2.D.2.1 h2.D.2.2] (by simp) (by kernel_rfl) (by simp [Value.oneCell']) rfl rfl ?_); intro V6 S; replace X1 := X1.kp S.kept; replace c1 := X1.cell; replace f1 := X1.froz; replace X2 : Bx V6 b2 [.int .i64 r2.id, .int .i64 r2.size, .int .i64 r2.view, .bool r2.normal, .int .i64 r2.last, .slice h2.L.1 h2.L.2.1 h2.L.2.2, .int .i64 r2.commit, .slice h2.O.1 h2.O.2.1 h2.O.2.2, .slice h2.A.1 h2.A.2.1 h2.A.2.2, .slice h2.D.1 h2.D.2.1 h2.D.2.2] := S.bx; replace c2 := X2.cell; replace f2 := X2.froz; replace B := bkp B S.kept; clear S) | ((have g := ob1); clear g; (with_reducible refine alloc_newX 64 [.int .i64 0, .int .i64 0, .int .i64 0, .bool false, .int .i64 0, .slice none 0 0, .int .i64 0, .slice none 0 0, .slice none 0 0, .slice none 0 0] (fun _ => by kernel_rfl) ?_); intro b2 W2 N2; have ob2 := N2.ge; have o1_b2 := ltl X1.lt N2.ge; replace X1 := X1.below N2.below; replace c1 := X1.cell; replace f1 := X1.froz; have B := N2.below; have X2 := N2.bx; have c2 := X2.cell; have f2 := X2.froz; clear N2) | fail)
       have HBq : Hid _ := below_next hc B
       clear hc
       go_wp2
       go_roundw
       case rel => exact ⟨j + 1, by omega, rfl, by go_num, HN, HBq.out⟩
       case measure => simp [intOf]; omega
      have q0' : (r.last == r2.last) = true := by simp [q0]
      obtain ⟨d1, hd1⟩ : ∃ q, decide (commN r.log r2.log = r.log.length) = q := ⟨_, rfl⟩
      obtain ⟨d2, hd2⟩ : ∃ q, decide (commN r2.log r.log = r2.log.length) = q := ⟨_, rfl⟩
      have HP : Hid (auPair r2 r = (d1 || d2)) := (auPair_symm r2 r).trans (auPair_near q0 hd1 hd2)
      have HD1 : Hid (decide (commN r.log r2.log = h.L.2.1) = d1) := by show _ = _; rw [← hd1, Hy.out.log.nSixs]
      have HD2 : Hid (decide (commN r2.log r.log = h2.L.2.1) = d2) := by show _ = _; rw [← hd2, y2.log.nSixs]
      clear hd1 hd2 q0
      go_wp2_with (first | ((with_reducible refine store_midX 64 X2 0 [.int .i64 r2.id, .int .i64 r2.size, .int .i64 r2.view, .bool r2.normal, .int .i64 r2.last, .slice h2.L.1 h2.L.2.1 h2.L.2.2, .int .i64 r2.commit, .slice h2.O.1 h2.O.2.1 h2.O.2.2, .slice h2.A.1 h2.A.2.1 h2.A.2.2, .slice h2.D.1 h2.D.2.1 h2.D.2.2] (by simp) (by kernel_rfl) (by simp [Value.oneCell']) rfl rfl ?_); intro V6 S; replace X1 := X1.kp S.kept; replace c1 := X1.cell; replace f1 := X1.froz; replace X2 : Bx V6 b2 [.int .i64 r2.id, .int .i64 r2.size, .int .i64 r2.view, .bool r2.normal, .int .i64 r2.last, .slice h2.L.1 h2.L.2.1 h2.L.2.2, .int .i64 r2.commit, .slice h2.O.1 h2.O.2.1 h2.O.2.2, .slice h2.A.1 h2.A.2.1 h2.A.2.2, .slice h2.D.1 h2.D.2.1 h2.D.2.2] := S.bx; replace c2 := X2.cell; replace f2 := X2.froz; replace B := bkp B S.kept; clear S) | ((have g := ob1); clear g; (with_reducible refine alloc_newX 64 [.int .i64 0, .int .i64 0, .int .i64 0, .bool false, .int .i64 0, .slice none 0 0, .int .i64 0, .slice none 0 0, .slice none 0 0, .slice none 0 0] (fun _ => by kernel_rfl) ?_); intro b2 W2 N2; have ob2 := N2.ge; have o1_b2 := ltl X1.lt N2.ge; replace X1 := X1.below N2.below; replace c1 := X1.cell; replace f1 := X1.froz; have B := N2.below; have X2 := N2.bx; have c2 := X2.cell; have f2 := X2.froz; clear N2) | fail)
      clear XN cN
      refine (auEither_is h.L.1 h2.L.1 h.L.2.1 h.L.2.2 h2.L.2.1 h2.L.2.2 r.log r2.log _ ((Hy.out.log.below hc).below B) (y2.log.below B) (by omega) (by omega) d1 d2 HD1.out HD2.out).mono ?_
      rintro e w3 ⟨rfl, BB⟩
      replace X1 := X1.below BB
      replace c1 := X1.cell
      replace f1 := X1.froz
      replace X2 := X2.below BB
      replace c2 := X2.cell
      replace f2 := X2.froz
      replace B := below_next B BB
      clear BB
      cases hdd : (d1 || d2) with
      | true =>
       have HN : Hid _ := HYES.out (HP.out.trans hdd)
       clear HYES HNO
       have HBq : Hid _ := below_next hc B
       clear hc
       go_wp2
       go_roundw
       case rel => exact ⟨j + 1, by omega, rfl, by go_num, HN, HBq.out⟩
       case measure => simp [intOf]; omega
      | false =>
       have e : d = false := HNO.out (HP.out.trans hdd)
       subst e
       clear HYES HNO
       have hfin := below_next hbq B
       go_wp2
       rw [Exit.noGoto_ret]
       go_ret
       exact ⟨rfl, hfin⟩
     ·obtain rfl : j = m := by omega
      have HN : Hid (∀ i, i < (k + 1) → ∀ j, i < j → j < n → auPair (rs.getD j rep0) (rs.getD i rep0) = true) := fun i hi q h1 h2 => by
       by_cases e : i = k
       ·subst e; exact H1.out q h1 (by omega)
       ·exact H0.out i (by omega) q h1 h2
      have HB2 : Hid _ := below_next HB.out hc
      clear hc HB
      go_wp2
      go_roundw
      case rel => exact ⟨k + 1, by omega, rfl, by go_num, HN, HB2.out⟩
      case measure => simp [intOf]; omega
  ·obtain rfl : k = n := by omega
   have e : d = true := by rw [← HD.out]; exact auMatch_yes (fun i hi j hj => H0.out j (by rw [HL.out] at hi; omega) i hj (by rw [HL.out] at hi; exact hi))
   subst e
   have hbb := below_next HB0.out hb
   clear HD
   go_wp2
   rw [Exit.noGoto_ret]
   go_ret
   exact ⟨rfl, hbb⟩
theorem auLM_is {own : Bool} {lo hi : Nat} (N M Sl : Hd) (xs : List Nod) (ms : List Mal) (es : List En) (w : World) (x : ClAt w own lo hi N M Sl xs ms es) (hs : ClSz N M Sl xs ms 1048576) (d : Bool) (hd : (decide (cluF (xs.map (·.1)) (ms.map (·.1)) es = 0) && auMatch (xs.map (·.1))) = d) :
  Calls Try.prog 15 #[.agg #[.slice N.1 N.2.1 N.2.2, .slice M.1 M.2.1 M.2.2, .slice Sl.1 Sl.2.1 Sl.2.2]] w fun e w' => e = .returned (.bool d) ∧ Below w.heap.size w w' := by
 have HD : Hid _ := hd
 have HS : Hid _ := hs
 have Hx : Hid _ := x
 clear hd hs x
 go_enter Try.func15, Try.ntmps15
 go_wp2_with (first | ((with_reducible refine box_newX 33 [.slice N.1 N.2.1 N.2.2, .slice M.1 M.2.1 M.2.2, .slice Sl.1 Sl.2.1 Sl.2.2] rfl ?_); intro b0 W0 N0; have ob0 := N0.ge; have B := N0.below; have X0 := N0.bx; have c0 := X0.cell; clear N0) | fail)
 refine (auHolds 43 (fun _ _ => rfl) N M Sl xs ms es _ (Hx.out.below B) HS.out _ (fun W hb hr => auAgree_is N M Sl xs ms es W ((Hx.out.below B).below hb) HS.out hr _ rfl) d HD.out).mono ?_
 rintro e w1 ⟨rfl, BB⟩
 replace X0 := X0.below BB
 replace c0 := X0.cell
 replace B := below_next B BB
 clear BB
 go_wp2
 go_ret
 exact ⟨rfl, B⟩
end Go.Proofs.Ytannjgdginfgeaa
namespace Go.Proofs.Ytannjgdginfgeaa
open Go.RowKit
theorem lawLogsMatch {own : Bool} (N M Sl : Hd) (xs : List Nod) (ms : List Mal) (es : List En) (w : World) (x : ClAt w own 0 w.heap.size N M Sl xs ms es) (hs : ClSz N M Sl xs ms maxLen) : Calls Try.prog 4 #[.agg #[.slice N.1 N.2.1 N.2.2, .slice M.1 M.2.1 M.2.2, .slice Sl.1 Sl.2.1 Sl.2.2]] w fun e w' => e = .returned (.bool true) ∧ Below w.heap.size w w' := by
 obtain ⟨cd, hcd⟩ : ∃ cd, (decide (cluF (xs.map (·.1)) (ms.map (·.1)) es = 0) && auMatch (xs.map (·.1))) = cd := ⟨_, rfl⟩
 have HC : Hid _ := hcd
 clear hcd
 have hd : (cd != cd) = false := by simp
 go_enter Try.func4, Try.ntmps4
 go_wp2_with (first | ((with_reducible refine box_newX 26 [.slice N.1 N.2.1 N.2.2, .slice M.1 M.2.1 M.2.2, .slice Sl.1 Sl.2.1 Sl.2.2] rfl ?_); intro b0 W0 N0; have ob0 := N0.ge; have B := N0.below; have X0 := N0.bx; have c0 := X0.cell; clear N0) | fail)
 refine (szCluster_lt N M Sl xs ms es _ (x.below B) hs).mono ?_
 rintro e w1 ⟨q, rfl, BB, hq⟩
 replace X0 := X0.below BB
 replace c0 := X0.cell
 replace B := below_next B BB
 clear BB
 rcases hq with hq | ⟨hq0, hq1, HZ⟩
 ·go_wp2
  go_ret
  exact ⟨rfl, B⟩
 have hq' : ¬ q < 0 := by omega
 clear hq0 hq1
 go_wp2_with fail
 refine (toCluster_any N M Sl xs ms es _ (x.below B) HZ).mono ?_
 rintro e w2 ⟨z1, u1, N1, M1, S1, xa, ma, rfl, _, _, y1, e1, e2, z1', BB⟩
 replace X0 := X0.below BB
 replace c0 := X0.cell
 replace B := below_next B BB
 clear BB
 go_wp2_with fail
 refine (auMLM_is N1 M1 S1 xa ma es _ y1 z1' cd (by rw [e1, e2]; exact HC.out)).mono ?_
 rintro e w3 ⟨rfl, BB⟩
 replace X0 := X0.below BB
 replace c0 := X0.cell
 replace B := below_next B BB
 clear BB
 clear y1 z1' e1 e2
 go_wp2_with fail
 refine (toCluster_any N M Sl xs ms es _ (x.below B) HZ).mono ?_
 rintro e w4 ⟨zY, uY, N2, M2, S2, xb, mb, rfl, GzY, hy1, y1, e1, e2, z1', BB⟩
 have ozY : w.heap.size ≤ zY := Nat.le_trans B.size GzY
 have o0_zY := ltl X0.lt GzY
 clear GzY
 replace X0 := X0.below BB
 replace c0 := X0.cell
 replace B := below_next B BB
 have E1 : Hid _ := e1
 have E2 : Hid _ := e2
 clear e1 e2
 clear BB
 go_wp2_with (first | ((with_reducible refine store_midX 33 X1 0 [.slice N2.1 N2.2.1 N2.2.2, .slice M2.1 M2.2.1 M2.2.2, .slice S2.1 S2.2.1 S2.2.2] (by simp) (by kernel_rfl) (by simp [Value.oneCell']) rfl rfl ?_); intro V1 S; replace X0 := X0.kp S.kept; replace c0 := X0.cell; replace X1 : Bx V1 b1 [.slice N2.1 N2.2.1 N2.2.2, .slice M2.1 M2.2.1 M2.2.2, .slice S2.1 S2.2.1 S2.2.2] := S.bx; replace c1 := X1.cell; replace f1 := X1.froz; replace y1 := y1.kept S.kept (by omega); replace hy1 := Nat.le_trans hy1 S.kept.size; replace B := bkp B S.kept; clear S) | ((have g := ob0); clear g; (with_reducible refine alloc_newX 33 [.slice none 0 0, .slice none 0 0, .slice none 0 0] (fun _ => by kernel_rfl) ?_); intro b1 W1 N1; have ob1 := Nat.le_trans B.size N1.ge; have o0_b1 := ltl X0.lt N1.ge; have oy1_b1 : uY ≤ b1 := Nat.le_trans hy1 N1.ge; replace X0 := X0.below N1.below; replace c0 := X0.cell; replace y1 := y1.below N1.below; replace hy1 := Nat.le_trans hy1 N1.below.size; replace B := below_next B N1.below; have X1 := N1.bx; have c1 := X1.cell; have f1 := X1.froz; clear N1) | fail)
 refine (auLM_is N2 M2 S2 xb mb es _ y1 z1' cd (by rw [E1.out, E2.out]; exact HC.out)).mono ?_
 rintro e w5 ⟨rfl, BB⟩
 replace X0 := X0.below BB
 replace c0 := X0.cell
 replace X1 := X1.below BB
 replace c1 := X1.cell
 replace f1 := X1.froz
 replace y1 := y1.below BB
 replace hy1 := Nat.le_trans hy1 BB.size
 replace B := below_next B BB
 clear BB
 go_wp2_with fail
 have DQ : Below w5.heap.size w5 w5.drew := (Below.refl _ _).drew
 replace X0 := X0.below DQ
 replace c0 := X0.cell
 replace X1 := X1.below DQ
 replace c1 := X1.cell
 replace f1 := X1.froz
 replace y1 := y1.below DQ
 replace hy1 := Nat.le_trans hy1 DQ.size
 replace B := below_next B DQ
 clear DQ
 refine wp_region_held_drew (S := (fun w' => (∀ k : Nat, w'.cell? ⟨b0, k, none⟩ = [.slice N.1 N.2.1 N.2.2, .slice M.1 M.2.1 M.2.2, .slice Sl.1 Sl.2.1 Sl.2.2][k]?) ∧ (∀ k : Nat, w'.cell? ⟨b1, k, none⟩ = [.slice N2.1 N2.2.1 N2.2.2, .slice M2.1 M2.2.1 M2.2.2, .slice S2.1 S2.2.1 S2.2.2][k]?))) (by kernel_rfl) ⟨c0, c1⟩ (fun hZq => ?_)
 refine tk 0 hZq ?_
 refine tk 1 hZq ?_
 refine rd1 2 (fun KK hKK => ?_)
 go_simp
 go_at_call 11
 refine (toCluster_any N M Sl xs ms es _ (x.below B) HZ).mono ?_
 rintro e v1 ⟨z9, u9, N9, M9, S9, xc, mc, rfl, _, _, y9, e1, e2, _, BB⟩
 replace X0 := X0.below BB
 replace c0 := X0.cell
 replace X1 := X1.below BB
 replace c1 := X1.cell
 replace f1 := X1.froz
 replace y1 := y1.below BB
 replace hy1 := Nat.le_trans hy1 BB.size
 replace B := below_next B BB
 clear BB
 clear hZq
 refine hKK _ _ ⟨c0, c1⟩ (fun hZq => ?_)
 clear hKK KK
 refine rd1 3 (fun KK hKK => ?_)
 go_simp
 go_at_call 13
 refine (eqCluster_yes N2 M2 S2 N9 M9 S9 xb xc mb mc es _ y1 y9 (e1.trans E1.out.symm) (e2.trans E2.out.symm) z1').mono ?_
 rintro e v2 ⟨rfl, BB⟩
 replace X0 := X0.below BB
 replace c0 := X0.cell
 replace X1 := X1.below BB
 replace c1 := X1.cell
 replace f1 := X1.froz
 replace y1 := y1.below BB
 replace hy1 := Nat.le_trans hy1 BB.size
 replace B := below_next B BB
 clear BB
 clear hZq
 refine hKK _ _ ⟨c0, c1⟩ (fun hZq => ?_)
 clear hKK KK
 refine tk 4 hZq ?_
 refine wpAnyH_done (by kernel_rfl) ?_ _
 go_wp2
 go_ret
 exact ⟨rfl, B⟩
open Go.ChangeShapes Go.WideShapes Go.ChangeAt Go.Joins
set_option maxRecDepth 100000 in
theorem liftedLogsMatch (os : Os) (started : os.Started) (H : Type) (enc : TypeId × Value → H) :
  ReturnsInHanded {} Try.checked os 4 .any (Rows.fnExactLogsMatchSpec.pre6 enc Try.prog Try.f4 Rows.fnExactLogsMatchRow.domain false) (Rows.fnExactLogsMatchSpec.post enc Try.prog Try.f4 false true false false) := by
 refine returnsInHanded_of_change (C := Try.checked) Try.own started (by kernel_rfl) Try.func4
  (ChangeSpec.witness6 (enc := enc) (C := Try.checked) false ⟨#[], #[.agg #[.slice none 0 0, .slice none 0 0, .slice none 0 0]], []⟩ 8 (by kernel_rfl) (by kernel_rfl) (by kernel_rfl) (by kernel_rfl)) ?_
 intro W base args ds gs before hval0 hW hcnd _
 have hval : ∀ (j : Nat) t v, Try.f4.params[j]? = some t → args[j]? = some v → Value.okWide Try.prog W .any base t v := hval0
 have hW' := hW
 obtain ⟨p, q, hA0, hV, rfl, hfz, hnd⟩ := hW
 have hA : DataW.TrodAll enc Try.prog W 0 (fun _ => true) true Try.f4.params.toList args.toList ds p := hA0
 rw [Try.params4] at hA hval
 obtain ⟨v0, vs0, d0, ds0, p0, q0, hargs, rfl, rfl, h0, r0⟩ := trodAll_cons hA
 obtain ⟨rfl, rfl, rfl⟩ := trodAll_nil r0
 obtain rfl : args = #[v0] := by cases args; simp_all
 obtain ⟨rfl, rfl⟩ := trodVars_none hV
 have lt0 : ∀ x ∈ p0, x.block < W.heap.size := by obtain ⟨m, hm⟩ := h0; exact DataW.trod_lt m _ _ _ hm
 have k0 := h0
 obtain ⟨cN, cM, cS, cx, cm, ce, rfl, cz, cl⟩ := open_cluster Try.clTy (hval 0 26 v0 rfl rfl) h0
 clear hA0 hval0
 refine (lawLogsMatch cN cM cS cx cm ce W cl cz).mono fun e W' ⟨he, bel⟩ => ?_
 subst he
 exact ⟨_, rfl, _, _, _, [], _, [], hW', trodAll_mk1 (shut_bool Try.underlying4 _), (trodAll_cons_mk (Below.trod Try.laidOut (by kernel_rfl) (of_decide_eq_true (by kernel_rfl)) k0 bel lt0) trodAll_mk0), rfl, bel.frame _, fun h => by cases h⟩
set_option maxRecDepth 100000 in
theorem closedLogsMatch : joinedFacts Try.prog 4 Try.f4 Rows.fnExactLogsMatchSpec Rows.fnExactLogsMatchRow = true := by
 have q1 : (Rows.fnExactLogsMatchRow.inPlace == Try.prog.inPlace 4) = true := by rw [inPlace_at leads_is inp_is]; kernel_rfl
 have q2 : (Rows.fnExactLogsMatchRow.unfollowed == Try.prog.unfollowed 4) = true := by rw [unfollowed_at leads_is unf_is]; kernel_rfl
 have q3 : (Rows.fnExactLogsMatchRow.recurses == Try.prog.recurses 4) = true := (by rw [recurses_unf leads_is (by rw [unfollowed_at leads_is unf_is]; kernel_rfl)]; rfl)
 have q4 : (Rows.fnExactLogsMatchRow.named == Try.prog.varsNamed 4) = true := by rw [varsNamed_at leads_is var_ok ent_is]; kernel_rfl
 have q5 : (Try.prog.make == some Rows.fnExactLogsMatchRow.make) = true := by rw [made_cut]; rfl
 have q6 : (Rows.fnExactLogsMatchRow.lifted == Try.prog.liftsFinal) = true := by rw [lifts_no]; rfl
 have q7 : Try.prog.mayEnter = true := may_enter
 have q8 : laidOutB Try.prog = true := Try.laidOut
 unfold joinedFacts
 repeat' (with_reducible refine Bool.and_eq_true_iff.2 ⟨?_, ?_⟩)
 all_goals (first | with_reducible exact q1 | with_reducible exact q2 | with_reducible exact q3 | with_reducible exact q4 | with_reducible exact q5 | with_reducible exact q6 | with_reducible exact q7 | with_reducible exact q8 | (as_aux_lemma => kernel_rfl))
theorem logsMatch_holds : Rows.FnExactLogsMatchSaid :=
 OpenClaim.holds_of_wide 4 Try.f4 rfl rfl rfl rfl rfl rfl rfl ⟨rfl, rfl, rfl, rfl, rfl⟩ rfl rfl rfl rfl rfl (by as_aux_lemma => kernel_rfl) Try.func4 closedLogsMatch
  (of_decide_eq_true (by as_aux_lemma => kernel_rfl)) (by unfold Func.isWrapper; first | (rw [if_pos (by decide +kernel)]; kernel_rfl) | (rw [if_neg (by decide +kernel)]; exact ⟨rfl, rfl⟩))
  (fun os started H enc _ => liftedLogsMatch os started H enc)
#print axioms logsMatch_holds
end Go.Proofs.Ytannjgdginfgeaa
