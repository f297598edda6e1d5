/- At every cluster the program's EvenCluster answers as its model does and writes into no argument: the law FnExactEvenCluster is true at every argument, with no condition. -/
import Derived.Test.YtannjgdginfgeaaZA
import Derived.Test.YtannjgdginfgeaaZT
import Derived.Test.YtannjgdginfgeaaPutS
import Derived.Test.YtannjgdginfgeaaFacts
import Derived.Test.YtannjgdginfgeaaZM
import Derived.Test.YtannjgdginfgeaaYE
import Derived.Test.YtannjgdginfgeaaP1
import Derived.Test.YtannjgdginfgeaaZU
import Derived.Test.YtannjgdginfgeaaZZ
import Derived.Test.YtannjgdginfgeaaZQ
import Derived.Test.YtannjgdginfgeaaZV
import Derived.Test.YtannjgdginfgeaaYP
import Derived.Test.YtannjgdginfgeaaZO
import Derived.Test.YtannjgdginfgeaaXA
import Derived.Test.YtannjgdginfgeaaZR
import Derived.Test.YtannjgdginfgeaaBools
import Derived.Test.YtannjgdginfgeaaWA
import Derived.Test.YtannjgdginfgeaaWB
import Derived.Test.YtannjgdginfgeaaWK
import Derived.Test.YtannjgdginfgeaaXC
import Derived.Test.YtannjgdginfgeaaXI
import Derived.Test.YtannjgdginfgeaaXH
import Derived.Test.YtannjgdginfgeaaWC
import Derived.Test.YtannjgdginfgeaaWH
import Derived.Test.YtannjgdginfgeaaWQ
import Derived.Test.YtannjgdginfgeaaZC
import Derived.Test.YtannjgdginfgeaaCF0
import Derived.Test.YtannjgdginfgeaaWN
import Derived.Test.YtannjgdginfgeaaWI
import Derived.Test.YtannjgdginfgeaaZF
import Derived.Test.YtannjgdginfgeaaUA
import Derived.Test.YtannjgdginfgeaaI5a
import Derived.Test.YtannjgdginfgeaaI15
import Derived.Test.YtannjgdginfgeaaI15b
import Derived.Test.YtannjgdginfgeaaCA
import Derived.Test.YtannjgdginfgeaaCB
import Derived.Test.YtannjgdginfgeaaCC
import Derived.Test.YtannjgdginfgeaaCF4
import Derived.Test.YtannjgdginfgeaaUB
import Derived.Test.YtannjgdginfgeaaXB
import Derived.Test.YtannjgdginfgeaaWG
import Derived.Test.YtannjgdginfgeaaOpenC
import Derived.Test.YtannjgdginfgeaaRowC
import Derived.WalkKit
import Derived.WalkSpells
import Derived.Deep.Draws
import Derived.Deep.MidRow
import Derived.Test.YtannjgdginfgeaaChecked
import Derived.WalkLawsBesides
import Derived.Deep.QuietTactic
import Derived.BigQuiet
import Derived.Deep.RegionHeld3
import Derived.Deep.WholeRow
import Derived.Deep.AppendSrc
import Derived.Maps.AppendAt
import Derived.Deep.AppendLies
import Derived.Lib.AppendZeros
import Derived.Deep.RegionLaw
import Derived.Laws.ComplexArith
import Derived.Laws.StructEq
import Derived.Laws.Cover3
import Derived.Laws.Tables
import Derived.ProofKit
import Derived.OpenShut
import Derived.Lib.SmallJoins
import Derived.Deep.SlicePairs
import Derived.Test.YtannjgdginfgeaaRows
import Derived.Test.YtannjgdginfgeaaTK
import Derived.Test.YtannjgdginfgeaaTK2
set_option maxRecDepth 20000
set_option maxHeartbeats 16000000
namespace Go.Proofs.Ytannjgdginfgeaa
open Go.RowKit
section
variable (cd u : Int)
end
end Go.Proofs.Ytannjgdginfgeaa
namespace Go.Proofs.Ytannjgdginfgeaa
open Go.RowKit
end Go.Proofs.Ytannjgdginfgeaa
namespace Go.Proofs.Ytannjgdginfgeaa
open Go.RowKit
end Go.Proofs.Ytannjgdginfgeaa
namespace Go.Proofs.Ytannjgdginfgeaa
open Go.RowKit
end Go.Proofs.Ytannjgdginfgeaa
namespace Go.Proofs.Ytannjgdginfgeaa
open Go.RowKit
end Go.Proofs.Ytannjgdginfgeaa
namespace Go.Proofs.Ytannjgdginfgeaa
open Go.RowKit
end Go.Proofs.Ytannjgdginfgeaa
namespace Go.Proofs.Ytannjgdginfgeaa
open Go.RowKit
end Go.Proofs.Ytannjgdginfgeaa
namespace Go.Proofs.Ytannjgdginfgeaa
open Go.RowKit
end Go.Proofs.Ytannjgdginfgeaa
namespace Go.Proofs.Ytannjgdginfgeaa
open Go.RowKit
end Go.Proofs.Ytannjgdginfgeaa
namespace Go.Proofs.Ytannjgdginfgeaa
open Go.RowKit
end Go.Proofs.Ytannjgdginfgeaa
namespace Go.Proofs.Ytannjgdginfgeaa
open Go.RowKit
end Go.Proofs.Ytannjgdginfgeaa
namespace Go.Proofs.Ytannjgdginfgeaa
open Go.RowKit
section
variable {o : Bool} {l u : Nat} (ao : Option Addr) (n cap : Nat) (bs : List (Int × Int)) (w : World) (h : RowAt w o l u 2 ao n cap (pairs bs)) (hn : n ≤ 2097152)
include h hn
end
end Go.Proofs.Ytannjgdginfgeaa
namespace Go.Proofs.Ytannjgdginfgeaa
open Go.RowKit
end Go.Proofs.Ytannjgdginfgeaa
namespace Go.Proofs.Ytannjgdginfgeaa
open Go.RowKit
section
variable {w w' : World} {lo P : Nat} {vn : Value} {ab : Option Addr} {nb cb : Nat} {K : Nat → KS} {f : Fo}
end
end Go.Proofs.Ytannjgdginfgeaa
namespace Go.Proofs.Ytannjgdginfgeaa
open Go.RowKit
end Go.Proofs.Ytannjgdginfgeaa
namespace Go.Proofs.Ytannjgdginfgeaa
open Go.RowKit
end Go.Proofs.Ytannjgdginfgeaa
namespace Go.Proofs.Ytannjgdginfgeaa
open Go.RowKit
end Go.Proofs.Ytannjgdginfgeaa
namespace Go.Proofs.Ytannjgdginfgeaa
open Go.RowKit
end Go.Proofs.Ytannjgdginfgeaa
namespace Go.Proofs.Ytannjgdginfgeaa
open Go.RowKit
end Go.Proofs.Ytannjgdginfgeaa
namespace Go.Proofs.Ytannjgdginfgeaa
open Go.RowKit
end Go.Proofs.Ytannjgdginfgeaa
namespace Go.Proofs.Ytannjgdginfgeaa
open Go.RowKit
end Go.Proofs.Ytannjgdginfgeaa
namespace Go.Proofs.Ytannjgdginfgeaa
open Go.RowKit
end Go.Proofs.Ytannjgdginfgeaa
namespace Go.Proofs.Ytannjgdginfgeaa
open Go.RowKit
end Go.Proofs.Ytannjgdginfgeaa
namespace Go.Proofs.Ytannjgdginfgeaa
open Go.RowKit
end Go.Proofs.Ytannjgdginfgeaa
namespace Go.Proofs.Ytannjgdginfgeaa
open Go.RowKit
end Go.Proofs.Ytannjgdginfgeaa
namespace Go.Proofs.Ytannjgdginfgeaa
open Go.RowKit
end Go.Proofs.Ytannjgdginfgeaa
namespace Go.Proofs.Ytannjgdginfgeaa
open Go.RowKit
end Go.Proofs.Ytannjgdginfgeaa
namespace Go.Proofs.Ytannjgdginfgeaa
open Go.RowKit
theorem specIsB_is {o1 o2 : Bool} {l1 u1 l2 u2 : Nat} (a1 a2 : Option Addr) (n c1 m c2 : Nat) (xs ys : List En) (w : World) (h1 : RowAt w o1 l1 u1 6 a1 n c1 (sixs xs)) (h2 : RowAt w o2 l2 u2 6 a2 m c2 (sixs ys)) (hn : n ≤ 2097152) (d : Bool) (hd : decide (commN xs ys = n) = d) : Calls Try.prog 49 #[.slice a1 n c1, .slice a2 m c2] w fun e w' => e = .returned (.bool d) ∧ Below w.heap.size w w' := by
 have hxl := h1.nSixs
 have hyl := h2.nSixs
 have hle := commN_le xs ys
 obtain ⟨c, hc⟩ : ∃ c, commN xs ys = c := ⟨_, rfl⟩
 rw [hc] at hd hle
 have HD : Hid (decide (c = n) = d) := hd
 have HC : Hid _ := hc
 clear hd hc
 go_enter Try.func49, Try.ntmps49
 by_cases hnm : n ≤ m
 ·have hl : (n : Int) ≤ (m : Int) := by omega
  go_wp2_with fail
  refine (specCommon_is a1 a2 n c1 m c2 xs ys _ h1 h2 hn c HC.out).mono ?_
  rintro e w1 ⟨rfl, hb⟩
  clear HC hle
  go_wp2
  go_ret
  refine ⟨ret_bool ?_, hb⟩
  rw [← HD.out]
  by_cases h : c = n
  ·simp [h]
  ·have h' : ¬ (c : Int) = (n : Int) := by omega
   simp [h, h']
 ·have hl : ¬ (n : Int) ≤ (m : Int) := by omega
  have hd : d = false := by rw [← HD.out]; exact decide_eq_false (by omega)
  subst hd
  go_wp2
  go_ret
  exact ⟨rfl, Below.refl _ _⟩
end Go.Proofs.Ytannjgdginfgeaa
namespace Go.Proofs.Ytannjgdginfgeaa
open Go.RowKit
end Go.Proofs.Ytannjgdginfgeaa
namespace Go.Proofs.Ytannjgdginfgeaa
open Go.RowKit
end Go.Proofs.Ytannjgdginfgeaa
namespace Go.Proofs.Ytannjgdginfgeaa
open Go.RowKit
end Go.Proofs.Ytannjgdginfgeaa
namespace Go.Proofs.Ytannjgdginfgeaa
open Go.RowKit
theorem list_eq_of {α : Type} (d : α) {xs ys : List α} {n : Nat} (hx : xs.length = n) (hy : ys.length = n) (h : ∀ j, j < n → xs.getD j d = ys.getD j d) : xs = ys := by
 apply List.ext_getElem (by omega)
 intro j h1 h2
 have := h j (by omega)
 simpa [List.getD, h1, h2] using this
end Go.Proofs.Ytannjgdginfgeaa
namespace Go.Proofs.Ytannjgdginfgeaa
open Go.RowKit
def auEv (f r : Rep) : Bool := ((r.normal && decide (r.view = f.view)) && decide (r.log = f.log)) && decide (r.commit = r.log.length)
def auEven (rs : List Rep) : Bool := rs.all (auEv (rs.getD 0 rep0))
end Go.Proofs.Ytannjgdginfgeaa
namespace Go.Proofs.Ytannjgdginfgeaa
open Go.RowKit
theorem auLogsEq {o1 o2 : Bool} {l1 u1 l2 u2 : Nat} (a1 : Option Addr) (n1 c1 : Nat) (a2 : Option Addr) (n2 c2 : Nat) (xs ys : List En) (w : World) (h1 : RowAt w o1 l1 u1 6 a1 n1 c1 (sixs xs)) (h2 : RowAt w o2 l2 u2 6 a2 n2 c2 (sixs ys)) (hq1 : n1 ≤ 2097152) (hq2 : n2 ≤ 2097152) (d : Bool) (hd : decide (xs = ys) = d) :
  Calls Try.prog 83 #[.slice a1 n1 c1, .slice a2 n2 c2] w fun e w' => e = .returned (.bool d) ∧ Below w.heap.size w w' := by
 have hx := h1.nSixs
 have hy := h2.nSixs
 subst hd
 by_cases hne : n1 = n2
 ·subst hne
  have hb0 : ((n1 : Int) != (n1 : Int)) = false := by simp
  go_enter Try.func83, Try.ntmps83
  go_wp2
  go_loopw [13] (fun i wr => ∃ k : Nat, k ≤ n1 ∧ i = .int .i64 k ∧ Hid (∀ j, j < k → xs.getD j en0 = ys.getD j en0) ∧ Below w.heap.size w wr) (fun i _ => n1 - (intOf i).toNat)
  case atStart => exact ⟨0, Nat.zero_le _, rfl, fun j hj => absurd hj (Nat.not_lt_zero _), Below.refl _ _⟩
  case round =>
   obtain ⟨k, hk, rfl, HA, hb⟩ := hrel
   by_cases hlt : k < n1
   ·have hl : (k : Int) < (n1 : Int) := by omega
    have HN : Hid (xs.getD k en0 = ys.getD k en0 → ∀ j, j < k + 1 → xs.getD j en0 = ys.getD j en0) := fun h0 j hj => by
     by_cases e : j = k
     ·rw [e]; exact h0
     ·exact HA.out j (by omega)
    have HB : Hid (xs.getD k en0 ≠ ys.getD k en0 → decide (xs = ys) = false) := fun h0 => decide_eq_false fun e => h0 (by rw [e])
    obtain ⟨b1, o1, rfl, _, _, hs1, e0, e1, e2, e3, e4, e5, _⟩ := (h1.below hb).six hlt
    obtain ⟨b2, o2, rfl, _, _, hs2, f0, f1, f2, f3, f4, f5, _⟩ := (h2.below hb).six hlt
    obtain ⟨⟨x0, x1, x2, x3, x4, x5⟩, hxx⟩ : ∃ x, xs.getD k en0 = x := ⟨_, rfl⟩
    obtain ⟨⟨y0, y1, y2, y3, y4, y5⟩, hyy⟩ : ∃ x, ys.getD k en0 = x := ⟨_, rfl⟩
    rw [hxx] at e0 e1 e2 e3 e4 e5 HN HB
    rw [hyy] at f0 f1 f2 f3 f4 f5 HN HB
    simp only at e0 e1 e2 e3 e4 e5 f0 f1 f2 f3 f4 f5
    clear hxx hyy
    obtain ⟨q, hq⟩ : ∃ q, decide (((x0, x1, x2, x3, x4, x5) : En) = (y0, y1, y2, y3, y4, y5)) = q := ⟨_, rfl⟩
    have HQ : Hid _ := hq
    have R := run_neEn x0 x1 x2 x3 x4 x5 y0 y1 y2 y3 y4 y5 q hq
    have RG := run_guEn
    clear hq
    have D : Below wr.heap.size wr wr.drew := (Below.refl _ _).drew
    replace e0 := cell_later D e0
    replace e1 := cell_later D e1
    replace e2 := cell_later D e2
    replace e3 := cell_later D e3
    replace e4 := cell_later D e4
    replace e5 := cell_later D e5
    replace f0 := cell_later D f0
    replace f1 := cell_later D f1
    replace f2 := cell_later D f2
    replace f3 := cell_later D f3
    replace f4 := cell_later D f4
    replace f5 := cell_later D f5
    replace hb := below_step hb hb.size D
    clear D
    go_wp2_with fail
    go_region_held3 (fun w' => w'.cell? ⟨b1, o1 + k * 6, none⟩ = some (.int .i64 x0) ∧ w'.cell? ⟨b1, o1 + k * 6 + 1, none⟩ = some (.int .i64 x1) ∧ w'.cell? ⟨b1, o1 + k * 6 + 2, none⟩ = some (.int .i64 x2) ∧ w'.cell? ⟨b1, o1 + k * 6 + 3, none⟩ = some (.int .i64 x3) ∧ w'.cell? ⟨b1, o1 + k * 6 + 4, none⟩ = some (.int .i64 x4) ∧ w'.cell? ⟨b1, o1 + k * 6 + 5, none⟩ = some (.int .i64 x5) ∧ w'.cell? ⟨b2, o2 + k * 6, none⟩ = some (.int .i64 y0) ∧ w'.cell? ⟨b2, o2 + k * 6 + 1, none⟩ = some (.int .i64 y1) ∧ w'.cell? ⟨b2, o2 + k * 6 + 2, none⟩ = some (.int .i64 y2) ∧ w'.cell? ⟨b2, o2 + k * 6 + 3, none⟩ = some (.int .i64 y3) ∧ w'.cell? ⟨b2, o2 + k * 6 + 4, none⟩ = some (.int .i64 y4) ∧ w'.cell? ⟨b2, o2 + k * 6 + 5, none⟩ = some (.int .i64 y5)) (exact ⟨e0, e1, e2, e3, e4, e5, f0, f1, f2, f3, f4, f5⟩) (fail)
    clear e0 e1 e2 e3 e4 e5 f0 f1 f2 f3 f4 f5 R RG
    cases q with
    | true =>
     have HN2 : Hid _ := HN.out (of_decide_eq_true HQ.out)
     clear HN HB HQ
     go_wp2
     go_roundw
     case rel => exact ⟨k + 1, by omega, by go_num, HN2, hb⟩
     case measure => simp [intOf]; omega
    | false =>
     have HF : Hid _ := HB.out (of_decide_eq_false HQ.out)
     clear HN HB HQ
     go_wp2
     go_ret
     exact ⟨by rw [HF.out]; rfl, hb⟩
   ·obtain rfl : k = n1 := by omega
    have HF : Hid (decide (xs = ys) = true) := decide_eq_true (list_eq_of en0 hx hy HA.out)
    go_wp2
    go_ret
    exact ⟨by rw [HF.out]; rfl, hb⟩
 ·have hb0 : ((n1 : Int) != (n2 : Int)) = true := by simp; omega
  have HF : Hid (decide (xs = ys) = false) := decide_eq_false fun e => hne (by rw [← hx, ← hy, e])
  go_enter Try.func83, Try.ntmps83
  go_wp2
  go_ret
  exact ⟨by rw [HF.out]; rfl, Below.refl _ _⟩
end Go.Proofs.Ytannjgdginfgeaa
namespace Go.Proofs.Ytannjgdginfgeaa
open Go.RowKit
end Go.Proofs.Ytannjgdginfgeaa
namespace Go.Proofs.Ytannjgdginfgeaa
open Go.RowKit
end Go.Proofs.Ytannjgdginfgeaa
namespace Go.Proofs.Ytannjgdginfgeaa
open Go.RowKit
theorem auCommAll (xs : List En) : ∀ ys, commN xs ys = xs.length → xs.length = ys.length → xs = ys := by
 induction xs with
 | nil => intro ys _ h; cases ys with
  | nil => rfl
  | cons y ys => simp at h
 | cons x xs ih => intro ys h1 h2; cases ys with
  | nil => simp at h2
  | cons y ys =>
   simp only [commN] at h1
   by_cases e : x = y
   ·rw [if_pos e] at h1
    rw [e, ih ys (by simpa using h1) (by simpa using h2)]
   ·rw [if_neg e] at h1; simp at h1
theorem auCommSelf (xs : List En) : commN xs xs = xs.length := by
 induction xs with
 | nil => rfl
 | cons x xs ih => simp only [commN, if_pos, List.length_cons, ih]
theorem auEv_yes {f r : Rep} (h1 : r.normal = true) (h2 : r.view = f.view) (h3 : r.log.length = f.log.length) (h4 : commN r.log f.log = r.log.length) (h5 : r.commit = r.log.length) : auEv f r = true := by
 unfold auEv
 rw [h1, decide_eq_true h2, decide_eq_true (auCommAll _ _ h4 h3), decide_eq_true h5]; rfl
theorem auEv_no {f r : Rep} (h : r.normal = false ∨ ¬ r.view = f.view ∨ ¬ r.log.length = f.log.length ∨ ¬ commN r.log f.log = r.log.length ∨ ¬ r.commit = r.log.length) : auEv f r = false := by
 unfold auEv
 rcases h with h | h | h | h | h
 ·rw [h]; rfl
 ·rw [decide_eq_false h]; simp
 ·rw [decide_eq_false (fun e : r.log = f.log => h (by rw [e]))]; simp
 ·rw [decide_eq_false (fun e : r.log = f.log => h (by rw [← e]; exact auCommSelf _))]; simp
 ·rw [decide_eq_false h]; simp
theorem auMEC_is {own : Bool} {lo hi : Nat} (N M Sl : Hd) (xs : List Nod) (ms : List Mal) (es : List En) (w : World) (x : ClAt w own lo hi N M Sl xs ms es) (hs : ClSz N M Sl xs ms 1048576) (d : Bool) (hd : (decide (cluF (xs.map (·.1)) (ms.map (·.1)) es = 0) && auEven (xs.map (·.1))) = d) :
  Calls Try.prog 21 #[.agg #[.slice N.1 N.2.1 N.2.2, .slice M.1 M.2.1 M.2.2, .slice Sl.1 Sl.2.1 Sl.2.2]] w fun e w' => e = .returned (.bool d) ∧ Below w.heap.size w w' := by
 obtain ⟨⟨ao, n, cap⟩, hN⟩ : ∃ q : Hd, N = q := ⟨N, rfl⟩
 subst hN
 have hl : (xs.map (·.1)).length = n := by simpa using x.nodes.len
 obtain ⟨cd, hcd⟩ : ∃ cd, cluF (xs.map (·.1)) (ms.map (·.1)) es = cd := ⟨_, rfl⟩
 have HCD : Hid _ := hcd
 have hn := hs.n
 have HS : Hid _ := hs
 have Hx : Hid _ := x
 rw [hcd] at hd
 have HD : Hid _ := hd
 clear hcd hs x hd
 simp only at hn ⊢
 go_enter Try.func21, Try.ntmps21
 go_wp2_with (first | ((with_reducible refine box_newX 33 [.slice ao n cap, .slice M.1 M.2.1 M.2.2, .slice Sl.1 Sl.2.1 Sl.2.2] rfl ?_); intro b0 W0 N0; have ob0 := N0.ge; have B := N0.below; have X0 := N0.bx; have c0 := X0.cell; clear N0) | fail)
 refine (l11Fault_is b0 (ao, n, cap) M Sl xs ms es _ X0 (Hx.out.below B) HS.out cd HCD.out).mono ?_
 rintro e w1 ⟨rfl, BB⟩
 replace X0 := X0.below BB
 replace c0 := X0.cell
 replace B := below_next B BB
 clear BB
 by_cases h0 : cd = 0
 rotate_left 1
 ·have h0' : (cd != 0) = true := by simp [h0]
  obtain rfl : d = false := by rw [← HD.out, decide_eq_false h0]; rfl
  go_wp2
  go_ret
  exact ⟨rfl, B⟩
 subst h0
 have HRt : Hid _ := auRight Hx.out HCD.out
 have hn1 : 1 ≤ n := HRt.out.1.1
 have h0n : (0 : Int) < (n : Int) := by omega
 obtain ⟨f, hf, b, off, ex0, rfl, _, _, XF, yf, _⟩ := LAt.node (NAt.below Hx.out.nodes B) (i := 0) (by show 0 < n; omega)
 have HE0 : Hid (auEven (xs.map (·.1)) = (xs.map (·.1)).all (auEv f)) := by show _ = _; unfold auEven; rw [mapD ex0]
 have HD2 : Hid ((xs.map (·.1)).all (auEv f) = d) := by show _ = _; rw [← HE0.out]; have := HD.out; rw [decide_eq_true rfl, Bool.true_and] at this; exact this
 obtain ⟨rs, hrs⟩ : ∃ rs, (xs.map (·.1)) = rs := ⟨_, rfl⟩
 have HR : Hid (∀ (i : Nat) (a : Nod), xs[i]? = some a → rs.getD i rep0 = a.1) := fun i a e => by rw [← hrs]; exact mapD e
 have HD3 := HD2.out
 rw [hrs] at HD3 hl
 have HL : Hid _ := hl
 clear HD HD2 HE0 hl
 have HD : Hid (rs.all (auEv f) = d) := HD3
 clear HD3 hrs
 have hsf := (HS.out.nodes _ _ ex0).L
 have HEX0 : Hid _ := ex0
 simp only at hsf
 rw [Nat.zero_mul, Nat.add_zero] at XF
 have HXF : Hid _ := XF
 have HX0 : Hid _ := X0
 have HB1 : Hid _ := B
 have hlf : Hid (f.log.length = hf.L.2.1) := yf.log.nSixs
 clear ex0 yf
 go_wp2_with fail
 clear X0 c0 B XF
 go_loopw [4] (fun i wr => ∃ k : Nat, k ≤ n ∧ i = .int .i64 k ∧ Hid (∀ j, j < k → auEv f (rs.getD j rep0) = true) ∧ Below w1.heap.size w1 wr) (fun i _ => n - (intOf i).toNat)
 case atStart => exact ⟨0, Nat.zero_le _, rfl, fun j hj => absurd hj (Nat.not_lt_zero _), Below.refl _ _⟩
 case round =>
  obtain ⟨k, hk, rfl, H0, hc⟩ := hrel
  have hb := below_next HB1.out hc
  have hq := hc
  have X0 := HX0.out.below hc
  have c0 := X0.cell
  have XF := HXF.out.below hc
  have cF := XF.cell
  clear hc
  by_cases hlt : k < n
  ·have hlk : (k : Int) < (n : Int) := by omega
   obtain ⟨r, h, b', off', ex, eN, _, _, XN, y, _⟩ := LAt.node (NAt.below Hx.out.nodes hb) (i := k) (by show _ < n; omega)
   simp only [Option.some.injEq, Addr.mk.injEq, and_true] at eN
   obtain ⟨rfl, rfl⟩ := eN
   have cN := XN.cell
   have HE : Hid (rs.getD k rep0 = r) := HR.out k _ ex
   have hs1 := (HS.out.nodes _ _ ex).L
   have HEX : Hid _ := ex
   simp only at hs1
   have hlr : Hid (r.log.length = h.L.2.1) := y.log.nSixs
   clear ex y
   have HNO : Hid (auEv f r = false → d = false) := fun z => by rw [← HD.out]; exact auAll_no (by rw [HL.out]; exact hlt) (by rw [HE.out]; exact z)
   have HYES : Hid (auEv f r = true → ∀ q, q < k + 1 → auEv f (rs.getD q rep0) = true) := fun z q hq => by
    by_cases e : q = k
    ·rw [e, HE.out]; exact z
    ·exact H0.out q (by omega)
   clear H0
   obtain ⟨nm, hnm⟩ : ∃ q, r.normal = q := ⟨_, rfl⟩
   have HNm : Hid _ := hnm
   rw [hnm] at XN
   have cN := XN.cell
   clear hnm
   go_wp2_with fail
   have DQ : Below wr.heap.size wr wr.drew := (Below.refl _ _).drew
   replace X0 := X0.below DQ
   replace c0 := X0.cell
   replace XF := XF.below DQ
   replace cF := XF.cell
   replace XN := XN.below DQ
   replace cN := XN.cell
   replace hq := below_next hq DQ
   replace hb := below_next hb DQ
   clear DQ
   cases nm with
   | false =>
    refine wp_region_held_drew (S := (fun w' => (∀ k_2 : Nat, w'.cell? ⟨b0, k_2, none⟩ = [.slice (some ⟨b, off, none⟩) n cap, .slice M.1 M.2.1 M.2.2, .slice Sl.1 Sl.2.1 Sl.2.2][k_2]?) ∧ (w'.cell? ⟨b, off, none⟩ = [.int .i64 f.id, .int .i64 f.size, .int .i64 f.view, .bool f.normal, .int .i64 f.last, .slice hf.L.1 hf.L.2.1 hf.L.2.2, .int .i64 f.commit, .slice hf.O.1 hf.O.2.1 hf.O.2.2, .slice hf.A.1 hf.A.2.1 hf.A.2.2, .slice hf.D.1 hf.D.2.1 hf.D.2.2][0]? ∧ ∀ k_1 : Nat, k_1 < 10 → w'.cell? ⟨b, off + k_1, none⟩ = [.int .i64 f.id, .int .i64 f.size, .int .i64 f.view, .bool f.normal, .int .i64 f.last, .slice hf.L.1 hf.L.2.1 hf.L.2.2, .int .i64 f.commit, .slice hf.O.1 hf.O.2.1 hf.O.2.2, .slice hf.A.1 hf.A.2.1 hf.A.2.2, .slice hf.D.1 hf.D.2.1 hf.D.2.2][k_1]?) ∧ (w'.cell? ⟨b, off + k * 10, none⟩ = [.int .i64 r.id, .int .i64 r.size, .int .i64 r.view, .bool false, .int .i64 r.last, .slice h.L.1 h.L.2.1 h.L.2.2, .int .i64 r.commit, .slice h.O.1 h.O.2.1 h.O.2.2, .slice h.A.1 h.A.2.1 h.A.2.2, .slice h.D.1 h.D.2.1 h.D.2.2][0]? ∧ ∀ k_1 : Nat, k_1 < 10 → w'.cell? ⟨b, off + k * 10 + k_1, none⟩ = [.int .i64 r.id, .int .i64 r.size, .int .i64 r.view, .bool false, .int .i64 r.last, .slice h.L.1 h.L.2.1 h.L.2.2, .int .i64 r.commit, .slice h.O.1 h.O.2.1 h.O.2.2, .slice h.A.1 h.A.2.1 h.A.2.2, .slice h.D.1 h.D.2.1 h.D.2.2][k_1]?))) (by kernel_rfl) ⟨c0, cF, cN⟩ (fun hZq => ?_)
    refine tk 0 hZq ?_
    refine tk 1 hZq ?_
    refine tk 2 hZq ?_
    refine tk 3 hZq ?_
    refine tk 4 hZq ?_
    refine tk 5 hZq ?_
    refine tks 6 hZq ?_
    refine tks 7 hZq ?_
    refine tks 8 hZq ?_
    refine tks 9 hZq ?_
    refine tks 10 hZq ?_
    refine tks 11 hZq ?_
    refine tks 12 hZq ?_
    refine tks 13 hZq ?_
    refine tks 14 hZq ?_
    refine tk 15 hZq ?_
    refine tk 16 hZq ?_
    refine tks 17 hZq ?_
    refine tks 18 hZq ?_
    refine tks 19 hZq ?_
    refine tks 20 hZq ?_
    refine tks 21 hZq ?_
    refine tks 22 hZq ?_
    refine tks 23 hZq ?_
    refine tks 24 hZq ?_
    refine tks 25 hZq ?_
    refine tks 26 hZq ?_
    refine tks 27 hZq ?_
    refine tk 28 hZq ?_
    refine tk 29 hZq ?_
    refine tks 30 hZq ?_
    refine tks 31 hZq ?_
    refine tks 32 hZq ?_
    refine tks 33 hZq ?_
    refine tks 34 hZq ?_
    refine tks 35 hZq ?_
    refine tks 36 hZq ?_
    refine tks 37 hZq ?_
    refine tks 38 hZq ?_
    refine tks 39 hZq ?_
    refine tk 40 hZq ?_
    refine tk 41 hZq ?_
    refine tks 42 hZq ?_
    refine tks 43 hZq ?_
    refine tks 44 hZq ?_
    refine tks 45 hZq ?_
    refine tks 46 hZq ?_
    refine tks 47 hZq ?_
    refine tks 48 hZq ?_
    refine tks 49 hZq ?_
    refine tks 50 hZq ?_
    refine tks 51 hZq ?_
    refine tk 52 hZq ?_
    refine wpAnyH_done (by kernel_rfl) ?_ _
    obtain rfl : d = false := HNO.out (auEv_no (Or.inl HNm.out))
    clear HNO HYES HD
    go_wp2
    go_ret
    exact ⟨rfl, hb⟩
   | true =>
    by_cases q1 : r.view = f.view
    rotate_left 1
    ·have Q1 : Hid _ := q1
     have q1' : (r.view != f.view) = true := by simp [q1]
     clear q1
     refine wp_region_held_drew (S := (fun w' => (∀ k_2 : Nat, w'.cell? ⟨b0, k_2, none⟩ = [.slice (some ⟨b, off, none⟩) n cap, .slice M.1 M.2.1 M.2.2, .slice Sl.1 Sl.2.1 Sl.2.2][k_2]?) ∧ (w'.cell? ⟨b, off, none⟩ = [.int .i64 f.id, .int .i64 f.size, .int .i64 f.view, .bool f.normal, .int .i64 f.last, .slice hf.L.1 hf.L.2.1 hf.L.2.2, .int .i64 f.commit, .slice hf.O.1 hf.O.2.1 hf.O.2.2, .slice hf.A.1 hf.A.2.1 hf.A.2.2, .slice hf.D.1 hf.D.2.1 hf.D.2.2][0]? ∧ ∀ k_1 : Nat, k_1 < 10 → w'.cell? ⟨b, off + k_1, none⟩ = [.int .i64 f.id, .int .i64 f.size, .int .i64 f.view, .bool f.normal, .int .i64 f.last, .slice hf.L.1 hf.L.2.1 hf.L.2.2, .int .i64 f.commit, .slice hf.O.1 hf.O.2.1 hf.O.2.2, .slice hf.A.1 hf.A.2.1 hf.A.2.2, .slice hf.D.1 hf.D.2.1 hf.D.2.2][k_1]?) ∧ (w'.cell? ⟨b, off + k * 10, none⟩ = [.int .i64 r.id, .int .i64 r.size, .int .i64 r.view, .bool true, .int .i64 r.last, .slice h.L.1 h.L.2.1 h.L.2.2, .int .i64 r.commit, .slice h.O.1 h.O.2.1 h.O.2.2, .slice h.A.1 h.A.2.1 h.A.2.2, .slice h.D.1 h.D.2.1 h.D.2.2][0]? ∧ ∀ k_1 : Nat, k_1 < 10 → w'.cell? ⟨b, off + k * 10 + k_1, none⟩ = [.int .i64 r.id, .int .i64 r.size, .int .i64 r.view, .bool true, .int .i64 r.last, .slice h.L.1 h.L.2.1 h.L.2.2, .int .i64 r.commit, .slice h.O.1 h.O.2.1 h.O.2.2, .slice h.A.1 h.A.2.1 h.A.2.2, .slice h.D.1 h.D.2.1 h.D.2.2][k_1]?))) (by kernel_rfl) ⟨c0, cF, cN⟩ (fun hZq => ?_)
     refine tk 0 hZq ?_
     refine tk 1 hZq ?_
     refine tk 2 hZq ?_
     refine tk 3 hZq ?_
     refine tk 4 hZq ?_
     refine tk 5 hZq ?_
     refine tk 6 hZq ?_
     refine tk 7 hZq ?_
     refine tk 8 hZq ?_
     refine tk 9 hZq ?_
     refine tk 10 hZq ?_
     refine tk 11 hZq ?_
     refine tk 12 hZq ?_
     refine tk 13 hZq ?_
     refine tk 14 hZq ?_
     refine tk 15 hZq ?_
     refine tk 16 hZq ?_
     refine tks 17 hZq ?_
     refine tks 18 hZq ?_
     refine tks 19 hZq ?_
     refine tks 20 hZq ?_
     refine tks 21 hZq ?_
     refine tks 22 hZq ?_
     refine tks 23 hZq ?_
     refine tks 24 hZq ?_
     refine tks 25 hZq ?_
     refine tks 26 hZq ?_
     refine tks 27 hZq ?_
     refine tk 28 hZq ?_
     refine tk 29 hZq ?_
     refine tks 30 hZq ?_
     refine tks 31 hZq ?_
     refine tks 32 hZq ?_
     refine tks 33 hZq ?_
     refine tks 34 hZq ?_
     refine tks 35 hZq ?_
     refine tks 36 hZq ?_
     refine tks 37 hZq ?_
     refine tks 38 hZq ?_
     refine tks 39 hZq ?_
     refine tk 40 hZq ?_
     refine tk 41 hZq ?_
     refine tks 42 hZq ?_
     refine tks 43 hZq ?_
     refine tks 44 hZq ?_
     refine tks 45 hZq ?_
     refine tks 46 hZq ?_
     refine tks 47 hZq ?_
     refine tks 48 hZq ?_
     refine tks 49 hZq ?_
     refine tks 50 hZq ?_
     refine tks 51 hZq ?_
     refine tk 52 hZq ?_
     refine wpAnyH_done (by kernel_rfl) ?_ _
     obtain rfl : d = false := HNO.out (auEv_no (Or.inr (Or.inl Q1.out)))
     clear HNO HYES HD
     go_wp2
     go_ret
     exact ⟨rfl, hb⟩
    have Q1 : Hid _ := q1
    have q1' : (r.view != f.view) = false := by simp [q1]
    clear q1
    by_cases q2 : h.L.2.1 = hf.L.2.1
    rotate_left 1
    ·have Q2 : Hid _ := q2
     have q2' : ((h.L.2.1 : Int) != (hf.L.2.1 : Int)) = true := by simp; omega
     clear q2
     refine wp_region_held_drew (S := (fun w' => (∀ k_2 : Nat, w'.cell? ⟨b0, k_2, none⟩ = [.slice (some ⟨b, off, none⟩) n cap, .slice M.1 M.2.1 M.2.2, .slice Sl.1 Sl.2.1 Sl.2.2][k_2]?) ∧ (w'.cell? ⟨b, off, none⟩ = [.int .i64 f.id, .int .i64 f.size, .int .i64 f.view, .bool f.normal, .int .i64 f.last, .slice hf.L.1 hf.L.2.1 hf.L.2.2, .int .i64 f.commit, .slice hf.O.1 hf.O.2.1 hf.O.2.2, .slice hf.A.1 hf.A.2.1 hf.A.2.2, .slice hf.D.1 hf.D.2.1 hf.D.2.2][0]? ∧ ∀ k_1 : Nat, k_1 < 10 → w'.cell? ⟨b, off + k_1, none⟩ = [.int .i64 f.id, .int .i64 f.size, .int .i64 f.view, .bool f.normal, .int .i64 f.last, .slice hf.L.1 hf.L.2.1 hf.L.2.2, .int .i64 f.commit, .slice hf.O.1 hf.O.2.1 hf.O.2.2, .slice hf.A.1 hf.A.2.1 hf.A.2.2, .slice hf.D.1 hf.D.2.1 hf.D.2.2][k_1]?) ∧ (w'.cell? ⟨b, off + k * 10, none⟩ = [.int .i64 r.id, .int .i64 r.size, .int .i64 r.view, .bool true, .int .i64 r.last, .slice h.L.1 h.L.2.1 h.L.2.2, .int .i64 r.commit, .slice h.O.1 h.O.2.1 h.O.2.2, .slice h.A.1 h.A.2.1 h.A.2.2, .slice h.D.1 h.D.2.1 h.D.2.2][0]? ∧ ∀ k_1 : Nat, k_1 < 10 → w'.cell? ⟨b, off + k * 10 + k_1, none⟩ = [.int .i64 r.id, .int .i64 r.size, .int .i64 r.view, .bool true, .int .i64 r.last, .slice h.L.1 h.L.2.1 h.L.2.2, .int .i64 r.commit, .slice h.O.1 h.O.2.1 h.O.2.2, .slice h.A.1 h.A.2.1 h.A.2.2, .slice h.D.1 h.D.2.1 h.D.2.2][k_1]?))) (by kernel_rfl) ⟨c0, cF, cN⟩ (fun hZq => ?_)
     refine tk 0 hZq ?_
     refine tk 1 hZq ?_
     refine tk 2 hZq ?_
     refine tk 3 hZq ?_
     refine tk 4 hZq ?_
     refine tk 5 hZq ?_
     refine tk 6 hZq ?_
     refine tk 7 hZq ?_
     refine tk 8 hZq ?_
     refine tk 9 hZq ?_
     refine tk 10 hZq ?_
     refine tk 11 hZq ?_
     refine tk 12 hZq ?_
     refine tk 13 hZq ?_
     refine tk 14 hZq ?_
     refine tk 15 hZq ?_
     refine tk 16 hZq ?_
     refine tk 17 hZq ?_
     refine tk 18 hZq ?_
     refine tk 19 hZq ?_
     refine tk 20 hZq ?_
     refine tk 21 hZq ?_
     refine tk 22 hZq ?_
     refine tk 23 hZq ?_
     refine tk 24 hZq ?_
     refine tk 25 hZq ?_
     refine tk 26 hZq ?_
     refine tk 27 hZq ?_
     refine tk 28 hZq ?_
     refine tk 29 hZq ?_
     refine tks 30 hZq ?_
     refine tks 31 hZq ?_
     refine tks 32 hZq ?_
     refine tks 33 hZq ?_
     refine tks 34 hZq ?_
     refine tks 35 hZq ?_
     refine tks 36 hZq ?_
     refine tks 37 hZq ?_
     refine tks 38 hZq ?_
     refine tks 39 hZq ?_
     refine tk 40 hZq ?_
     refine tk 41 hZq ?_
     refine tks 42 hZq ?_
     refine tks 43 hZq ?_
     refine tks 44 hZq ?_
     refine tks 45 hZq ?_
     refine tks 46 hZq ?_
     refine tks 47 hZq ?_
     refine tks 48 hZq ?_
     refine tks 49 hZq ?_
     refine tks 50 hZq ?_
     refine tks 51 hZq ?_
     refine tk 52 hZq ?_
     refine wpAnyH_done (by kernel_rfl) ?_ _
     obtain rfl : d = false := HNO.out (auEv_no (Or.inr (Or.inr (Or.inl (by rw [hlr.out, hlf.out]; exact Q2.out)))))
     clear HNO HYES HD
     go_wp2
     go_ret
     exact ⟨rfl, hb⟩
    have Q2 : Hid _ := q2
    have q2' : ((h.L.2.1 : Int) != (hf.L.2.1 : Int)) = false := by simp; omega
    clear q2
    obtain ⟨d3, hd3⟩ : ∃ q, decide (commN r.log f.log = h.L.2.1) = q := ⟨_, rfl⟩
    have HD3 : Hid _ := hd3
    clear hd3
    cases d3 with
    | false =>
     refine wp_region_held_drew (S := (fun w' => (∀ k_2 : Nat, w'.cell? ⟨b0, k_2, none⟩ = [.slice (some ⟨b, off, none⟩) n cap, .slice M.1 M.2.1 M.2.2, .slice Sl.1 Sl.2.1 Sl.2.2][k_2]?) ∧ (w'.cell? ⟨b, off, none⟩ = [.int .i64 f.id, .int .i64 f.size, .int .i64 f.view, .bool f.normal, .int .i64 f.last, .slice hf.L.1 hf.L.2.1 hf.L.2.2, .int .i64 f.commit, .slice hf.O.1 hf.O.2.1 hf.O.2.2, .slice hf.A.1 hf.A.2.1 hf.A.2.2, .slice hf.D.1 hf.D.2.1 hf.D.2.2][0]? ∧ ∀ k_1 : Nat, k_1 < 10 → w'.cell? ⟨b, off + k_1, none⟩ = [.int .i64 f.id, .int .i64 f.size, .int .i64 f.view, .bool f.normal, .int .i64 f.last, .slice hf.L.1 hf.L.2.1 hf.L.2.2, .int .i64 f.commit, .slice hf.O.1 hf.O.2.1 hf.O.2.2, .slice hf.A.1 hf.A.2.1 hf.A.2.2, .slice hf.D.1 hf.D.2.1 hf.D.2.2][k_1]?) ∧ (w'.cell? ⟨b, off + k * 10, none⟩ = [.int .i64 r.id, .int .i64 r.size, .int .i64 r.view, .bool true, .int .i64 r.last, .slice h.L.1 h.L.2.1 h.L.2.2, .int .i64 r.commit, .slice h.O.1 h.O.2.1 h.O.2.2, .slice h.A.1 h.A.2.1 h.A.2.2, .slice h.D.1 h.D.2.1 h.D.2.2][0]? ∧ ∀ k_1 : Nat, k_1 < 10 → w'.cell? ⟨b, off + k * 10 + k_1, none⟩ = [.int .i64 r.id, .int .i64 r.size, .int .i64 r.view, .bool true, .int .i64 r.last, .slice h.L.1 h.L.2.1 h.L.2.2, .int .i64 r.commit, .slice h.O.1 h.O.2.1 h.O.2.2, .slice h.A.1 h.A.2.1 h.A.2.2, .slice h.D.1 h.D.2.1 h.D.2.2][k_1]?))) (by kernel_rfl) ⟨c0, cF, cN⟩ (fun hZq => ?_)
     refine tk 0 hZq ?_
     refine tk 1 hZq ?_
     refine tk 2 hZq ?_
     refine tk 3 hZq ?_
     refine tk 4 hZq ?_
     refine tk 5 hZq ?_
     refine tk 6 hZq ?_
     refine tk 7 hZq ?_
     refine tk 8 hZq ?_
     refine tk 9 hZq ?_
     refine tk 10 hZq ?_
     refine tk 11 hZq ?_
     refine tk 12 hZq ?_
     refine tk 13 hZq ?_
     refine tk 14 hZq ?_
     refine tk 15 hZq ?_
     refine tk 16 hZq ?_
     refine tk 17 hZq ?_
     refine tk 18 hZq ?_
     refine tk 19 hZq ?_
     refine tk 20 hZq ?_
     refine tk 21 hZq ?_
     refine tk 22 hZq ?_
     refine tk 23 hZq ?_
     refine tk 24 hZq ?_
     refine tk 25 hZq ?_
     refine tk 26 hZq ?_
     refine tk 27 hZq ?_
     refine tk 28 hZq ?_
     refine tk 29 hZq ?_
     refine tk 30 hZq ?_
     refine tk 31 hZq ?_
     refine tk 32 hZq ?_
     refine tk 33 hZq ?_
     refine tk 34 hZq ?_
     refine tk 35 hZq ?_
     refine tk 36 hZq ?_
     refine tk 37 hZq ?_
     refine rd1 38 (fun KK hKK => ?_)
     go_simp
     go_at_call 49
     refine (specIsB_is h.L.1 hf.L.1 h.L.2.1 h.L.2.2 hf.L.2.1 hf.L.2.2 r.log f.log _ ((Hx.out.nodes.below hb).each k _ HEX.out).log ((Hx.out.nodes.below hb).each 0 _ HEX0.out).log (by omega) false HD3.out).mono ?_
     rintro e w2 ⟨rfl, BB⟩
     replace X0 := X0.below BB
     replace c0 := X0.cell
     replace XF := XF.below BB
     replace cF := XF.cell
     replace XN := XN.below BB
     replace cN := XN.cell
     replace hq := below_next hq BB
     replace hb := below_next hb BB
     clear BB
     clear hZq
     refine hKK _ _ ⟨c0, cF, cN⟩ (fun hZq => ?_)
     clear hKK KK
     refine tk 39 hZq ?_
     refine tk 40 hZq ?_
     refine tk 41 hZq ?_
     refine tks 42 hZq ?_
     refine tks 43 hZq ?_
     refine tks 44 hZq ?_
     refine tks 45 hZq ?_
     refine tks 46 hZq ?_
     refine tks 47 hZq ?_
     refine tks 48 hZq ?_
     refine tks 49 hZq ?_
     refine tks 50 hZq ?_
     refine tks 51 hZq ?_
     refine tk 52 hZq ?_
     refine wpAnyH_done (by kernel_rfl) ?_ _
     obtain rfl : d = false := HNO.out (auEv_no (Or.inr (Or.inr (Or.inr (Or.inl (by rw [hlr.out]; exact of_decide_eq_false HD3.out))))))
     clear HNO HYES HD
     go_wp2
     go_ret
     exact ⟨rfl, hb⟩
    | true =>
     by_cases q4 : r.commit = h.L.2.1
     rotate_left 1
     ·have Q4 : Hid _ := q4
      have q4' : (r.commit != (h.L.2.1 : Int)) = true := by simp [q4]
      clear q4
      refine wp_region_held_drew (S := (fun w' => (∀ k_2 : Nat, w'.cell? ⟨b0, k_2, none⟩ = [.slice (some ⟨b, off, none⟩) n cap, .slice M.1 M.2.1 M.2.2, .slice Sl.1 Sl.2.1 Sl.2.2][k_2]?) ∧ (w'.cell? ⟨b, off, none⟩ = [.int .i64 f.id, .int .i64 f.size, .int .i64 f.view, .bool f.normal, .int .i64 f.last, .slice hf.L.1 hf.L.2.1 hf.L.2.2, .int .i64 f.commit, .slice hf.O.1 hf.O.2.1 hf.O.2.2, .slice hf.A.1 hf.A.2.1 hf.A.2.2, .slice hf.D.1 hf.D.2.1 hf.D.2.2][0]? ∧ ∀ k_1 : Nat, k_1 < 10 → w'.cell? ⟨b, off + k_1, none⟩ = [.int .i64 f.id, .int .i64 f.size, .int .i64 f.view, .bool f.normal, .int .i64 f.last, .slice hf.L.1 hf.L.2.1 hf.L.2.2, .int .i64 f.commit, .slice hf.O.1 hf.O.2.1 hf.O.2.2, .slice hf.A.1 hf.A.2.1 hf.A.2.2, .slice hf.D.1 hf.D.2.1 hf.D.2.2][k_1]?) ∧ (w'.cell? ⟨b, off + k * 10, none⟩ = [.int .i64 r.id, .int .i64 r.size, .int .i64 r.view, .bool true, .int .i64 r.last, .slice h.L.1 h.L.2.1 h.L.2.2, .int .i64 r.commit, .slice h.O.1 h.O.2.1 h.O.2.2, .slice h.A.1 h.A.2.1 h.A.2.2, .slice h.D.1 h.D.2.1 h.D.2.2][0]? ∧ ∀ k_1 : Nat, k_1 < 10 → w'.cell? ⟨b, off + k * 10 + k_1, none⟩ = [.int .i64 r.id, .int .i64 r.size, .int .i64 r.view, .bool true, .int .i64 r.last, .slice h.L.1 h.L.2.1 h.L.2.2, .int .i64 r.commit, .slice h.O.1 h.O.2.1 h.O.2.2, .slice h.A.1 h.A.2.1 h.A.2.2, .slice h.D.1 h.D.2.1 h.D.2.2][k_1]?))) (by kernel_rfl) ⟨c0, cF, cN⟩ (fun hZq => ?_)
      refine tk 0 hZq ?_
      refine tk 1 hZq ?_
      refine tk 2 hZq ?_
      refine tk 3 hZq ?_
      refine tk 4 hZq ?_
      refine tk 5 hZq ?_
      refine tk 6 hZq ?_
      refine tk 7 hZq ?_
      refine tk 8 hZq ?_
      refine tk 9 hZq ?_
      refine tk 10 hZq ?_
      refine tk 11 hZq ?_
      refine tk 12 hZq ?_
      refine tk 13 hZq ?_
      refine tk 14 hZq ?_
      refine tk 15 hZq ?_
      refine tk 16 hZq ?_
      refine tk 17 hZq ?_
      refine tk 18 hZq ?_
      refine tk 19 hZq ?_
      refine tk 20 hZq ?_
      refine tk 21 hZq ?_
      refine tk 22 hZq ?_
      refine tk 23 hZq ?_
      refine tk 24 hZq ?_
      refine tk 25 hZq ?_
      refine tk 26 hZq ?_
      refine tk 27 hZq ?_
      refine tk 28 hZq ?_
      refine tk 29 hZq ?_
      refine tk 30 hZq ?_
      refine tk 31 hZq ?_
      refine tk 32 hZq ?_
      refine tk 33 hZq ?_
      refine tk 34 hZq ?_
      refine tk 35 hZq ?_
      refine tk 36 hZq ?_
      refine tk 37 hZq ?_
      refine rd1 38 (fun KK hKK => ?_)
      go_simp
      go_at_call 49
      refine (specIsB_is h.L.1 hf.L.1 h.L.2.1 h.L.2.2 hf.L.2.1 hf.L.2.2 r.log f.log _ ((Hx.out.nodes.below hb).each k _ HEX.out).log ((Hx.out.nodes.below hb).each 0 _ HEX0.out).log (by omega) true HD3.out).mono ?_
      rintro e w2 ⟨rfl, BB⟩
      replace X0 := X0.below BB
      replace c0 := X0.cell
      replace XF := XF.below BB
      replace cF := XF.cell
      replace XN := XN.below BB
      replace cN := XN.cell
      replace hq := below_next hq BB
      replace hb := below_next hb BB
      clear BB
      clear hZq
      refine hKK _ _ ⟨c0, cF, cN⟩ (fun hZq => ?_)
      clear hKK KK
      refine tk 39 hZq ?_
      refine tk 40 hZq ?_
      refine tk 41 hZq ?_
      refine tk 42 hZq ?_
      refine tk 43 hZq ?_
      refine tk 44 hZq ?_
      refine tk 45 hZq ?_
      refine tk 46 hZq ?_
      refine tk 47 hZq ?_
      refine tk 48 hZq ?_
      refine tk 49 hZq ?_
      refine tk 50 hZq ?_
      refine tk 51 hZq ?_
      refine tk 52 hZq ?_
      refine wpAnyH_done (by kernel_rfl) ?_ _
      obtain rfl : d = false := HNO.out (auEv_no (Or.inr (Or.inr (Or.inr (Or.inr (by rw [hlr.out]; exact Q4.out))))))
      clear HNO HYES HD
      go_wp2
      go_ret
      exact ⟨rfl, hb⟩
     have Q4 : Hid _ := q4
     have q4' : (r.commit != (h.L.2.1 : Int)) = false := by simp [q4]
     clear q4
     refine wp_region_held_drew (S := (fun w' => (∀ k_2 : Nat, w'.cell? ⟨b0, k_2, none⟩ = [.slice (some ⟨b, off, none⟩) n cap, .slice M.1 M.2.1 M.2.2, .slice Sl.1 Sl.2.1 Sl.2.2][k_2]?) ∧ (w'.cell? ⟨b, off, none⟩ = [.int .i64 f.id, .int .i64 f.size, .int .i64 f.view, .bool f.normal, .int .i64 f.last, .slice hf.L.1 hf.L.2.1 hf.L.2.2, .int .i64 f.commit, .slice hf.O.1 hf.O.2.1 hf.O.2.2, .slice hf.A.1 hf.A.2.1 hf.A.2.2, .slice hf.D.1 hf.D.2.1 hf.D.2.2][0]? ∧ ∀ k_1 : Nat, k_1 < 10 → w'.cell? ⟨b, off + k_1, none⟩ = [.int .i64 f.id, .int .i64 f.size, .int .i64 f.view, .bool f.normal, .int .i64 f.last, .slice hf.L.1 hf.L.2.1 hf.L.2.2, .int .i64 f.commit, .slice hf.O.1 hf.O.2.1 hf.O.2.2, .slice hf.A.1 hf.A.2.1 hf.A.2.2, .slice hf.D.1 hf.D.2.1 hf.D.2.2][k_1]?) ∧ (w'.cell? ⟨b, off + k * 10, none⟩ = [.int .i64 r.id, .int .i64 r.size, .int .i64 r.view, .bool true, .int .i64 r.last, .slice h.L.1 h.L.2.1 h.L.2.2, .int .i64 r.commit, .slice h.O.1 h.O.2.1 h.O.2.2, .slice h.A.1 h.A.2.1 h.A.2.2, .slice h.D.1 h.D.2.1 h.D.2.2][0]? ∧ ∀ k_1 : Nat, k_1 < 10 → w'.cell? ⟨b, off + k * 10 + k_1, none⟩ = [.int .i64 r.id, .int .i64 r.size, .int .i64 r.view, .bool true, .int .i64 r.last, .slice h.L.1 h.L.2.1 h.L.2.2, .int .i64 r.commit, .slice h.O.1 h.O.2.1 h.O.2.2, .slice h.A.1 h.A.2.1 h.A.2.2, .slice h.D.1 h.D.2.1 h.D.2.2][k_1]?))) (by kernel_rfl) ⟨c0, cF, cN⟩ (fun hZq => ?_)
     refine tk 0 hZq ?_
     refine tk 1 hZq ?_
     refine tk 2 hZq ?_
     refine tk 3 hZq ?_
     refine tk 4 hZq ?_
     refine tk 5 hZq ?_
     refine tk 6 hZq ?_
     refine tk 7 hZq ?_
     refine tk 8 hZq ?_
     refine tk 9 hZq ?_
     refine tk 10 hZq ?_
     refine tk 11 hZq ?_
     refine tk 12 hZq ?_
     refine tk 13 hZq ?_
     refine tk 14 hZq ?_
     refine tk 15 hZq ?_
     refine tk 16 hZq ?_
     refine tk 17 hZq ?_
     refine tk 18 hZq ?_
     refine tk 19 hZq ?_
     refine tk 20 hZq ?_
     refine tk 21 hZq ?_
     refine tk 22 hZq ?_
     refine tk 23 hZq ?_
     refine tk 24 hZq ?_
     refine tk 25 hZq ?_
     refine tk 26 hZq ?_
     refine tk 27 hZq ?_
     refine tk 28 hZq ?_
     refine tk 29 hZq ?_
     refine tk 30 hZq ?_
     refine tk 31 hZq ?_
     refine tk 32 hZq ?_
     refine tk 33 hZq ?_
     refine tk 34 hZq ?_
     refine tk 35 hZq ?_
     refine tk 36 hZq ?_
     refine tk 37 hZq ?_
     refine rd1 38 (fun KK hKK => ?_)
     go_simp
     go_at_call 49
     refine (specIsB_is h.L.1 hf.L.1 h.L.2.1 h.L.2.2 hf.L.2.1 hf.L.2.2 r.log f.log _ ((Hx.out.nodes.below hb).each k _ HEX.out).log ((Hx.out.nodes.below hb).each 0 _ HEX0.out).log (by omega) true HD3.out).mono ?_
     rintro e w2 ⟨rfl, BB⟩
     replace X0 := X0.below BB
     replace c0 := X0.cell
     replace XF := XF.below BB
     replace cF := XF.cell
     replace XN := XN.below BB
     replace cN := XN.cell
     replace hq := below_next hq BB
     replace hb := below_next hb BB
     clear BB
     clear hZq
     refine hKK _ _ ⟨c0, cF, cN⟩ (fun hZq => ?_)
     clear hKK KK
     refine tk 39 hZq ?_
     refine tk 40 hZq ?_
     refine tk 41 hZq ?_
     refine tk 42 hZq ?_
     refine tk 43 hZq ?_
     refine tk 44 hZq ?_
     refine tk 45 hZq ?_
     refine tk 46 hZq ?_
     refine tk 47 hZq ?_
     refine tk 48 hZq ?_
     refine tk 49 hZq ?_
     refine tk 50 hZq ?_
     refine tk 51 hZq ?_
     refine tk 52 hZq ?_
     refine wpAnyH_done (by kernel_rfl) ?_ _
     have HN : Hid _ := HYES.out (auEv_yes HNm.out Q1.out (by rw [hlr.out, hlf.out]; exact Q2.out) (by rw [hlr.out]; exact of_decide_eq_true HD3.out) (by rw [hlr.out]; exact Q4.out))
     have HB : Hid _ := hb
     have HBw : Hid _ := hq
     clear HNO HYES hb hq
     go_wp2
     go_roundw
     case rel => exact ⟨k + 1, by omega, by go_num, HN, HBw.out⟩
     case measure => simp [intOf]; omega
  ·obtain rfl : k = n := by omega
   obtain rfl : d = true := by rw [← HD.out]; exact auAll_yes (by rw [HL.out]; exact H0.out)
   clear HD
   go_wp2
   go_ret
   exact ⟨rfl, hb⟩
end Go.Proofs.Ytannjgdginfgeaa
namespace Go.Proofs.Ytannjgdginfgeaa
open Go.RowKit
theorem auEven1_is {own o2 : Bool} {lo hi l2 u2 : Nat} (f r : Rep) (hf h : RH) (b0 : Nat) (w : World) (x : RepAt w own lo hi h r) (xf : RepAt w o2 l2 u2 hf f) (hz : h.L.2.1 ≤ 2097152) (hzf : hf.L.2.1 ≤ 2097152) (X0 : Bx w b0 [.int .i64 f.id, .int .i64 f.size, .int .i64 f.view, .bool f.normal, .int .i64 f.last, .slice hf.L.1 hf.L.2.1 hf.L.2.2, .int .i64 f.commit, .slice hf.O.1 hf.O.2.1 hf.O.2.2, .slice hf.A.1 hf.A.2.1 hf.A.2.2, .slice hf.D.1 hf.D.2.1 hf.D.2.2]) :
  Calls Try.prog 82 #[.agg #[.int .i64 r.id, .int .i64 r.size, .int .i64 r.view, .bool r.normal, .int .i64 r.last, .slice h.L.1 h.L.2.1 h.L.2.2, .int .i64 r.commit, .slice h.O.1 h.O.2.1 h.O.2.2, .slice h.A.1 h.A.2.1 h.A.2.2, .slice h.D.1 h.D.2.1 h.D.2.2], .pointer (some ⟨b0, 0, none⟩)] w fun e w' => e = .returned (.bool (auEv f r)) ∧ Below w.heap.size w w' := by
 have xl := x.log
 have yl := xf.log
 have hl := xl.nSixs
 obtain ⟨d1, hd1⟩ : ∃ q, r.normal = q := ⟨_, rfl⟩
 obtain ⟨d2, hd2⟩ : ∃ q, decide (r.view = f.view) = q := ⟨_, rfl⟩
 obtain ⟨d3, hd3⟩ : ∃ q, decide (r.log = f.log) = q := ⟨_, rfl⟩
 obtain ⟨d4, hd4⟩ : ∃ q, decide (r.commit = h.L.2.1) = q := ⟨_, rfl⟩
 obtain ⟨dd, hdd⟩ : ∃ q, auEv f r = q := ⟨_, rfl⟩
 have HDD : Hid ((((d1 && d2) && d3) && d4) = dd) := by show _ = _; rw [← hdd, ← hd1, ← hd2, ← hd3, ← hd4, ← hl]; rfl
 have HD2 : Hid _ := hd2
 have HD3 : Hid _ := hd3
 have HD4 : Hid _ := hd4
 rw [hdd, hd1]
 clear hd1 hd2 hd3 hd4 hdd x xf hl
 have c0 := X0.cell
 have ob0 := X0.lt
 cases d1 with
 | false =>
  go_enter Try.func82, Try.ntmps82
  go_wp2_with (first | ((have g := ob0); clear g; (with_reducible refine box_newX 64 [.int .i64 r.id, .int .i64 r.size, .int .i64 r.view, .bool false, .int .i64 r.last, .slice h.L.1 h.L.2.1 h.L.2.2, .int .i64 r.commit, .slice h.O.1 h.O.2.1 h.O.2.2, .slice h.A.1 h.A.2.1 h.A.2.2, .slice h.D.1 h.D.2.1 h.D.2.2] rfl ?_); intro b1 W1 N1; have ob1 := N1.ge; have o0_b1 := ltl X0.lt N1.ge; replace X0 := X0.below N1.below; replace c0 := X0.cell; have B := N1.below; have X1 := N1.bx; have c1 := X1.cell; clear N1) | fail)
  obtain rfl : dd = false := by rw [← HDD.out]; rfl
  go_wp2
  go_ret
  exact ⟨rfl, B⟩
 | true =>
  cases d2 with
  | false =>
   have q2 : ¬ r.view = f.view := of_decide_eq_false HD2.out
   have q2' : (r.view == f.view) = false := by simp [q2]
   go_enter Try.func82, Try.ntmps82
   go_wp2_with (first | ((have g := ob0); clear g; (with_reducible refine box_newX 64 [.int .i64 r.id, .int .i64 r.size, .int .i64 r.view, .bool true, .int .i64 r.last, .slice h.L.1 h.L.2.1 h.L.2.2, .int .i64 r.commit, .slice h.O.1 h.O.2.1 h.O.2.2, .slice h.A.1 h.A.2.1 h.A.2.2, .slice h.D.1 h.D.2.1 h.D.2.2] rfl ?_); intro b1 W1 N1; have ob1 := N1.ge; have o0_b1 := ltl X0.lt N1.ge; replace X0 := X0.below N1.below; replace c0 := X0.cell; have B := N1.below; have X1 := N1.bx; have c1 := X1.cell; clear N1) | fail)
   obtain rfl : dd = false := by rw [← HDD.out]; rfl
   go_wp2
   go_ret
   exact ⟨rfl, B⟩
  | true =>
   have q2 : r.view = f.view := of_decide_eq_true HD2.out
   have q2' : (r.view == f.view) = true := by simp [q2]
   clear q2
   go_enter Try.func82, Try.ntmps82
   go_wp2_with (first | ((have g := ob0); clear g; (with_reducible refine box_newX 64 [.int .i64 r.id, .int .i64 r.size, .int .i64 r.view, .bool true, .int .i64 r.last, .slice h.L.1 h.L.2.1 h.L.2.2, .int .i64 r.commit, .slice h.O.1 h.O.2.1 h.O.2.2, .slice h.A.1 h.A.2.1 h.A.2.2, .slice h.D.1 h.D.2.1 h.D.2.2] rfl ?_); intro b1 W1 N1; have ob1 := N1.ge; have o0_b1 := ltl X0.lt N1.ge; replace X0 := X0.below N1.below; replace c0 := X0.cell; have B := N1.below; have X1 := N1.bx; have c1 := X1.cell; clear N1) | fail)
   refine (auLogsEq h.L.1 h.L.2.1 h.L.2.2 hf.L.1 hf.L.2.1 hf.L.2.2 r.log f.log _ (xl.below B) (yl.below B) hz hzf d3 HD3.out).mono ?_
   rintro e w2 ⟨rfl, BB⟩
   replace X0 := X0.below BB
   replace c0 := X0.cell
   replace X1 := X1.below BB
   replace c1 := X1.cell
   replace B := below_next B BB
   clear BB
   cases d3 with
   | false =>
    obtain rfl : dd = false := by rw [← HDD.out]; rfl
    go_wp2
    go_ret
    exact ⟨rfl, B⟩
   | true =>
    obtain rfl : dd = d4 := by rw [← HDD.out]; rfl
    cases dd with
    | false =>
     have q4 : ¬ r.commit = h.L.2.1 := of_decide_eq_false HD4.out
     have q4' : (r.commit == (h.L.2.1 : Int)) = false := by simp [q4]
     go_wp2
     go_ret
     exact ⟨rfl, B⟩
    | true =>
     have q4 : r.commit = h.L.2.1 := of_decide_eq_true HD4.out
     have q4' : (r.commit == (h.L.2.1 : Int)) = true := by simp [q4]
     clear q4
     go_wp2
     go_ret
     exact ⟨rfl, B⟩
theorem auIsEven_is {own : Bool} {lo hi : Nat} (N M Sl : Hd) (xs : List Nod) (ms : List Mal) (es : List En) (w : World) (x : ClAt w own lo hi N M Sl xs ms es) (hs : ClSz N M Sl xs ms 1048576) (hr : cluF (xs.map (·.1)) (ms.map (·.1)) es = 0) (d : Bool) (hd : auEven (xs.map (·.1)) = d) :
  Calls Try.prog 50 #[.agg #[.slice N.1 N.2.1 N.2.2, .slice M.1 M.2.1 M.2.2, .slice Sl.1 Sl.2.1 Sl.2.2]] w fun e w' => e = .returned (.bool d) ∧ Below w.heap.size w w' := by
 obtain ⟨⟨ao, n, cap⟩, hN⟩ : ∃ q : Hd, N = q := ⟨N, rfl⟩
 subst hN
 have HRt : Hid _ := auRight x hr
 have HD : Hid _ := hd
 have HS : Hid _ := hs
 have Hx : Hid _ := x
 have hmf : ∀ (fn : Fn) (first cap : Array Value) (w : World), (Instr.makeFunc fn first cap).run Try.prog w = .ok (.func fn first cap) w := fun _ _ _ _ => rfl
 clear hd hr hs x
 have hn0 := HRt.out.1.1
 simp only at hn0 ⊢
 have hn0i : (0 : Int) < (n : Int) := by omega
 obtain ⟨f, hf, b, off, ex, rfl, _, _, XN, y, _⟩ := LAt.node Hx.out.nodes (i := 0) (by show 0 < n; omega)
 have HE : Hid (auEven (xs.map (·.1)) = (xs.map (·.1)).all (auEv f)) := by show _ = _; unfold auEven; rw [mapD ex]
 have HD2 : Hid ((xs.map (·.1)).all (auEv f) = d) := by show _ = _; rw [← HE.out]; exact HD.out
 have HF : Hid _ := (HS.out.nodes _ _ ex).L
 rw [Nat.zero_mul, Nat.add_zero] at XN
 clear HD HE ex
 have cN := XN.cell
 go_enter Try.func50, Try.ntmps50
 go_wp2_with (first | ((with_reducible refine store_midX 64 X1 0 [.int .i64 f.id, .int .i64 f.size, .int .i64 f.view, .bool f.normal, .int .i64 f.last, .slice hf.L.1 hf.L.2.1 hf.L.2.2, .int .i64 f.commit, .slice hf.O.1 hf.O.2.1 hf.O.2.2, .slice hf.A.1 hf.A.2.1 hf.A.2.2, .slice hf.D.1 hf.D.2.1 hf.D.2.2] (by simp) (by kernel_rfl) (by simp [Value.oneCell']) rfl rfl ?_); intro V1 S; replace X0 := X0.kp S.kept; replace c0 := X0.cell; replace X1 : Bx V1 b1 [.int .i64 f.id, .int .i64 f.size, .int .i64 f.view, .bool f.normal, .int .i64 f.last, .slice hf.L.1 hf.L.2.1 hf.L.2.2, .int .i64 f.commit, .slice hf.O.1 hf.O.2.1 hf.O.2.2, .slice hf.A.1 hf.A.2.1 hf.A.2.2, .slice hf.D.1 hf.D.2.1 hf.D.2.2] := S.bx; replace c1 := X1.cell; replace f1 := X1.froz; replace B := bkp B S.kept; clear S) | ((have g := ob0); clear g; (with_reducible refine alloc_newX 64 [.int .i64 0, .int .i64 0, .int .i64 0, .bool false, .int .i64 0, .slice none 0 0, .int .i64 0, .slice none 0 0, .slice none 0 0, .slice none 0 0] (fun _ => by kernel_rfl) ?_); intro b1 W1 N1; have ob1 := Nat.le_trans B.size N1.ge; have o0_b1 := ltl X0.lt N1.ge; replace X0 := X0.below N1.below; replace c0 := X0.cell; replace B := below_next B N1.below; have X1 := N1.bx; have c1 := X1.cell; have f1 := X1.froz; replace XN := XN.below N1.below; replace cN := XN.cell; clear N1) | ((with_reducible refine box_newX 33 [.slice (some ⟨b, off, none⟩) n cap, .slice M.1 M.2.1 M.2.2, .slice Sl.1 Sl.2.1 Sl.2.2] rfl ?_); intro b0 W0 N0; have ob0 := N0.ge; have B := N0.below; have X0 := N0.bx; have c0 := X0.cell; replace XN := XN.below N0.below; replace cN := XN.cell; clear N0) | fail)
 have HX1 : Hid _ := X1
 have HB1 : Hid _ := B
 refine (auEach1 82 (fun _ _ => rfl) b1 (some ⟨b, off, none⟩, n, cap) xs _ (Hx.out.nodes.below B) HS.out.n (auEv f) (fun W k r h hb ex y2 => auEven1_is f r hf h b1 W y2 ((y.below HB1.out).below hb) (Nat.le_trans (HS.out.nodes k _ ex).L (by omega)) (Nat.le_trans HF.out (by omega)) (HX1.out.below hb)) d HD2.out).mono ?_
 rintro e w2 ⟨rfl, BB⟩
 clear XN cN
 replace X0 := X0.below BB
 replace c0 := X0.cell
 replace X1 := X1.below BB
 replace c1 := X1.cell
 replace f1 := X1.froz
 replace B := below_next B BB
 clear BB
 go_wp2
 go_ret
 exact ⟨rfl, B⟩
theorem auEC_is {own : Bool} {lo hi : Nat} (N M Sl : Hd) (xs : List Nod) (ms : List Mal) (es : List En) (w : World) (x : ClAt w own lo hi N M Sl xs ms es) (hs : ClSz N M Sl xs ms 1048576) (d : Bool) (hd : (decide (cluF (xs.map (·.1)) (ms.map (·.1)) es = 0) && auEven (xs.map (·.1))) = d) :
  Calls Try.prog 22 #[.agg #[.slice N.1 N.2.1 N.2.2, .slice M.1 M.2.1 M.2.2, .slice Sl.1 Sl.2.1 Sl.2.2]] w fun e w' => e = .returned (.bool d) ∧ Below w.heap.size w w' := by
 have HD : Hid _ := hd
 have HS : Hid _ := hs
 have Hx : Hid _ := x
 clear hd hs x
 go_enter Try.func22, Try.ntmps22
 go_wp2_with (first | ((with_reducible refine box_newX 33 [.slice N.1 N.2.1 N.2.2, .slice M.1 M.2.1 M.2.2, .slice Sl.1 Sl.2.1 Sl.2.2] rfl ?_); intro b0 W0 N0; have ob0 := N0.ge; have B := N0.below; have X0 := N0.bx; have c0 := X0.cell; clear N0) | fail)
 refine (auHolds 50 (fun _ _ => rfl) N M Sl xs ms es _ (Hx.out.below B) HS.out _ (fun W hb hr => auIsEven_is N M Sl xs ms es W ((Hx.out.below B).below hb) HS.out hr _ rfl) d HD.out).mono ?_
 rintro e w1 ⟨rfl, BB⟩
 replace X0 := X0.below BB
 replace c0 := X0.cell
 replace B := below_next B BB
 clear BB
 go_wp2
 go_ret
 exact ⟨rfl, B⟩
end Go.Proofs.Ytannjgdginfgeaa
namespace Go.Proofs.Ytannjgdginfgeaa
open Go.RowKit
theorem lawEvenCluster {own : Bool} (N M Sl : Hd) (xs : List Nod) (ms : List Mal) (es : List En) (w : World) (x : ClAt w own 0 w.heap.size N M Sl xs ms es) (hs : ClSz N M Sl xs ms maxLen) : Calls Try.prog 7 #[.agg #[.slice N.1 N.2.1 N.2.2, .slice M.1 M.2.1 M.2.2, .slice Sl.1 Sl.2.1 Sl.2.2]] w fun e w' => e = .returned (.bool true) ∧ Below w.heap.size w w' := by
 obtain ⟨cd, hcd⟩ : ∃ cd, (decide (cluF (xs.map (·.1)) (ms.map (·.1)) es = 0) && auEven (xs.map (·.1))) = cd := ⟨_, rfl⟩
 have HC : Hid _ := hcd
 clear hcd
 have hd : (cd != cd) = false := by simp
 go_enter Try.func7, Try.ntmps7
 go_wp2_with (first | ((with_reducible refine box_newX 26 [.slice N.1 N.2.1 N.2.2, .slice M.1 M.2.1 M.2.2, .slice Sl.1 Sl.2.1 Sl.2.2] rfl ?_); intro b0 W0 N0; have ob0 := N0.ge; have B := N0.below; have X0 := N0.bx; have c0 := X0.cell; clear N0) | fail)
 refine (szCluster_lt N M Sl xs ms es _ (x.below B) hs).mono ?_
 rintro e w1 ⟨q, rfl, BB, hq⟩
 replace X0 := X0.below BB
 replace c0 := X0.cell
 replace B := below_next B BB
 clear BB
 rcases hq with hq | ⟨hq0, hq1, HZ⟩
 ·go_wp2
  go_ret
  exact ⟨rfl, B⟩
 have hq' : ¬ q < 0 := by omega
 clear hq0 hq1
 go_wp2_with fail
 refine (toCluster_any N M Sl xs ms es _ (x.below B) HZ).mono ?_
 rintro e w2 ⟨z1, u1, N1, M1, S1, xa, ma, rfl, _, _, y1, e1, e2, z1', BB⟩
 replace X0 := X0.below BB
 replace c0 := X0.cell
 replace B := below_next B BB
 clear BB
 go_wp2_with fail
 refine (auMEC_is N1 M1 S1 xa ma es _ y1 z1' cd (by rw [e1, e2]; exact HC.out)).mono ?_
 rintro e w3 ⟨rfl, BB⟩
 replace X0 := X0.below BB
 replace c0 := X0.cell
 replace B := below_next B BB
 clear BB
 clear y1 z1' e1 e2
 go_wp2_with fail
 refine (toCluster_any N M Sl xs ms es _ (x.below B) HZ).mono ?_
 rintro e w4 ⟨zY, uY, N2, M2, S2, xb, mb, rfl, GzY, hy1, y1, e1, e2, z1', BB⟩
 have ozY : w.heap.size ≤ zY := Nat.le_trans B.size GzY
 have o0_zY := ltl X0.lt GzY
 clear GzY
 replace X0 := X0.below BB
 replace c0 := X0.cell
 replace B := below_next B BB
 have E1 : Hid _ := e1
 have E2 : Hid _ := e2
 clear e1 e2
 clear BB
 go_wp2_with (first | ((with_reducible refine store_midX 33 X1 0 [.slice N2.1 N2.2.1 N2.2.2, .slice M2.1 M2.2.1 M2.2.2, .slice S2.1 S2.2.1 S2.2.2] (by simp) (by kernel_rfl) (by simp [Value.oneCell']) rfl rfl ?_); intro V1 S; replace X0 := X0.kp S.kept; replace c0 := X0.cell; replace X1 : Bx V1 b1 [.slice N2.1 N2.2.1 N2.2.2, .slice M2.1 M2.2.1 M2.2.2, .slice S2.1 S2.2.1 S2.2.2] := S.bx; replace c1 := X1.cell; replace f1 := X1.froz; replace y1 := y1.kept S.kept (by omega); replace hy1 := Nat.le_trans hy1 S.kept.size; replace B := bkp B S.kept; clear S) | ((have g := ob0); clear g; (with_reducible refine alloc_newX 33 [.slice none 0 0, .slice none 0 0, .slice none 0 0] (fun _ => by kernel_rfl) ?_); intro b1 W1 N1; have ob1 := Nat.le_trans B.size N1.ge; have o0_b1 := ltl X0.lt N1.ge; have oy1_b1 : uY ≤ b1 := Nat.le_trans hy1 N1.ge; replace X0 := X0.below N1.below; replace c0 := X0.cell; replace y1 := y1.below N1.below; replace hy1 := Nat.le_trans hy1 N1.below.size; replace B := below_next B N1.below; have X1 := N1.bx; have c1 := X1.cell; have f1 := X1.froz; clear N1) | fail)
 refine (auEC_is N2 M2 S2 xb mb es _ y1 z1' cd (by rw [E1.out, E2.out]; exact HC.out)).mono ?_
 rintro e w5 ⟨rfl, BB⟩
 replace X0 := X0.below BB
 replace c0 := X0.cell
 replace X1 := X1.below BB
 replace c1 := X1.cell
 replace f1 := X1.froz
 replace y1 := y1.below BB
 replace hy1 := Nat.le_trans hy1 BB.size
 replace B := below_next B BB
 clear BB
 go_wp2_with fail
 have DQ : Below w5.heap.size w5 w5.drew := (Below.refl _ _).drew
 replace X0 := X0.below DQ
 replace c0 := X0.cell
 replace X1 := X1.below DQ
 replace c1 := X1.cell
 replace f1 := X1.froz
 replace y1 := y1.below DQ
 replace hy1 := Nat.le_trans hy1 DQ.size
 replace B := below_next B DQ
 clear DQ
 refine wp_region_held_drew (S := (fun w' => (∀ k : Nat, w'.cell? ⟨b0, k, none⟩ = [.slice N.1 N.2.1 N.2.2, .slice M.1 M.2.1 M.2.2, .slice Sl.1 Sl.2.1 Sl.2.2][k]?) ∧ (∀ k : Nat, w'.cell? ⟨b1, k, none⟩ = [.slice N2.1 N2.2.1 N2.2.2, .slice M2.1 M2.2.1 M2.2.2, .slice S2.1 S2.2.1 S2.2.2][k]?))) (by kernel_rfl) ⟨c0, c1⟩ (fun hZq => ?_)
 refine tk 0 hZq ?_
 refine tk 1 hZq ?_
 refine rd1 2 (fun KK hKK => ?_)
 go_simp
 go_at_call 11
 refine (toCluster_any N M Sl xs ms es _ (x.below B) HZ).mono ?_
 rintro e v1 ⟨z9, u9, N9, M9, S9, xc, mc, rfl, _, _, y9, e1, e2, _, BB⟩
 replace X0 := X0.below BB
 replace c0 := X0.cell
 replace X1 := X1.below BB
 replace c1 := X1.cell
 replace f1 := X1.froz
 replace y1 := y1.below BB
 replace hy1 := Nat.le_trans hy1 BB.size
 replace B := below_next B BB
 clear BB
 clear hZq
 refine hKK _ _ ⟨c0, c1⟩ (fun hZq => ?_)
 clear hKK KK
 refine rd1 3 (fun KK hKK => ?_)
 go_simp
 go_at_call 13
 refine (eqCluster_yes N2 M2 S2 N9 M9 S9 xb xc mb mc es _ y1 y9 (e1.trans E1.out.symm) (e2.trans E2.out.symm) z1').mono ?_
 rintro e v2 ⟨rfl, BB⟩
 replace X0 := X0.below BB
 replace c0 := X0.cell
 replace X1 := X1.below BB
 replace c1 := X1.cell
 replace f1 := X1.froz
 replace y1 := y1.below BB
 replace hy1 := Nat.le_trans hy1 BB.size
 replace B := below_next B BB
 clear BB
 clear hZq
 refine hKK _ _ ⟨c0, c1⟩ (fun hZq => ?_)
 clear hKK KK
 refine tk 4 hZq ?_
 refine wpAnyH_done (by kernel_rfl) ?_ _
 go_wp2
 go_ret
 exact ⟨rfl, B⟩
open Go.ChangeShapes Go.WideShapes Go.ChangeAt Go.Joins
set_option maxRecDepth 100000 in
theorem liftedEvenCluster (os : Os) (started : os.Started) (H : Type) (enc : TypeId × Value → H) :
  ReturnsInHanded {} Try.checked os 7 .any (Rows.fnExactEvenClusterSpec.pre6 enc Try.prog Try.f7 Rows.fnExactEvenClusterRow.domain false) (Rows.fnExactEvenClusterSpec.post enc Try.prog Try.f7 false true false false) := by
 refine returnsInHanded_of_change (C := Try.checked) Try.own started (by kernel_rfl) Try.func7
  (ChangeSpec.witness6 (enc := enc) (C := Try.checked) false ⟨#[], #[.agg #[.slice none 0 0, .slice none 0 0, .slice none 0 0]], []⟩ 8 (by kernel_rfl) (by kernel_rfl) (by kernel_rfl) (by kernel_rfl)) ?_
 intro W base args ds gs before hval0 hW hcnd _
 have hval : ∀ (j : Nat) t v, Try.f7.params[j]? = some t → args[j]? = some v → Value.okWide Try.prog W .any base t v := hval0
 have hW' := hW
 obtain ⟨p, q, hA0, hV, rfl, hfz, hnd⟩ := hW
 have hA : DataW.TrodAll enc Try.prog W 0 (fun _ => true) true Try.f7.params.toList args.toList ds p := hA0
 rw [Try.params7] at hA hval
 obtain ⟨v0, vs0, d0, ds0, p0, q0, hargs, rfl, rfl, h0, r0⟩ := trodAll_cons hA
 obtain ⟨rfl, rfl, rfl⟩ := trodAll_nil r0
 obtain rfl : args = #[v0] := by cases args; simp_all
 obtain ⟨rfl, rfl⟩ := trodVars_none hV
 have lt0 : ∀ x ∈ p0, x.block < W.heap.size := by obtain ⟨m, hm⟩ := h0; exact DataW.trod_lt m _ _ _ hm
 have k0 := h0
 obtain ⟨cN, cM, cS, cx, cm, ce, rfl, cz, cl⟩ := open_cluster Try.clTy (hval 0 26 v0 rfl rfl) h0
 clear hA0 hval0
 refine (lawEvenCluster cN cM cS cx cm ce W cl cz).mono fun e W' ⟨he, bel⟩ => ?_
 subst he
 exact ⟨_, rfl, _, _, _, [], _, [], hW', trodAll_mk1 (shut_bool Try.underlying4 _), (trodAll_cons_mk (Below.trod Try.laidOut (by kernel_rfl) (of_decide_eq_true (by kernel_rfl)) k0 bel lt0) trodAll_mk0), rfl, bel.frame _, fun h => by cases h⟩
set_option maxRecDepth 100000 in
theorem closedEvenCluster : joinedFacts Try.prog 7 Try.f7 Rows.fnExactEvenClusterSpec Rows.fnExactEvenClusterRow = true := by
 have q1 : (Rows.fnExactEvenClusterRow.inPlace == Try.prog.inPlace 7) = true := by rw [inPlace_at leads_is inp_is]; kernel_rfl
 have q2 : (Rows.fnExactEvenClusterRow.unfollowed == Try.prog.unfollowed 7) = true := by rw [unfollowed_at leads_is unf_is]; kernel_rfl
 have q3 : (Rows.fnExactEvenClusterRow.recurses == Try.prog.recurses 7) = true := (by rw [recurses_unf leads_is (by rw [unfollowed_at leads_is unf_is]; kernel_rfl)]; rfl)
 have q4 : (Rows.fnExactEvenClusterRow.named == Try.prog.varsNamed 7) = true := by rw [varsNamed_at leads_is var_ok ent_is]; kernel_rfl
 have q5 : (Try.prog.make == some Rows.fnExactEvenClusterRow.make) = true := by rw [made_cut]; rfl
 have q6 : (Rows.fnExactEvenClusterRow.lifted == Try.prog.liftsFinal) = true := by rw [lifts_no]; rfl
 have q7 : Try.prog.mayEnter = true := may_enter
 have q8 : laidOutB Try.prog = true := Try.laidOut
 unfold joinedFacts
 repeat' (with_reducible refine Bool.and_eq_true_iff.2 ⟨?_, ?_⟩)
 all_goals (first | with_reducible exact q1 | with_reducible exact q2 | with_reducible exact q3 | with_reducible exact q4 | with_reducible exact q5 | with_reducible exact q6 | with_reducible exact q7 | with_reducible exact q8 | (as_aux_lemma => kernel_rfl))
theorem evenCluster_holds : Rows.FnExactEvenClusterSaid :=
 OpenClaim.holds_of_wide 7 Try.f7 rfl rfl rfl rfl rfl rfl rfl ⟨rfl, rfl, rfl, rfl, rfl⟩ rfl rfl rfl rfl rfl (by as_aux_lemma => kernel_rfl) Try.func7 closedEvenCluster
  (of_decide_eq_true (by as_aux_lemma => kernel_rfl)) (by unfold Func.isWrapper; first | (rw [if_pos (by decide +kernel)]; kernel_rfl) | (rw [if_neg (by decide +kernel)]; exact ⟨rfl, rfl⟩))
  (fun os started H enc _ => liftedEvenCluster os started H enc)
#print axioms evenCluster_holds
end Go.Proofs.Ytannjgdginfgeaa
