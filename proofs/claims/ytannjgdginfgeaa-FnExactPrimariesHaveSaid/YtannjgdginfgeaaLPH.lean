/- At every cluster the program's PrimariesHave answers as its model does and writes into no argument: the law FnExactPrimariesHave is true at every argument, with no condition. -/
import Derived.Test.YtannjgdginfgeaaZA
import Derived.Test.YtannjgdginfgeaaZT
import Derived.Test.YtannjgdginfgeaaPutS
import Derived.Test.YtannjgdginfgeaaFacts
import Derived.Test.YtannjgdginfgeaaZM
import Derived.Test.YtannjgdginfgeaaYE
import Derived.Test.YtannjgdginfgeaaP1
import Derived.Test.YtannjgdginfgeaaZU
import Derived.Test.YtannjgdginfgeaaZZ
import Derived.Test.YtannjgdginfgeaaZQ
import Derived.Test.YtannjgdginfgeaaZV
import Derived.Test.YtannjgdginfgeaaYP
import Derived.Test.YtannjgdginfgeaaZO
import Derived.Test.YtannjgdginfgeaaXA
import Derived.Test.YtannjgdginfgeaaZR
import Derived.Test.YtannjgdginfgeaaBools
import Derived.Test.YtannjgdginfgeaaWA
import Derived.Test.YtannjgdginfgeaaWB
import Derived.Test.YtannjgdginfgeaaWK
import Derived.Test.YtannjgdginfgeaaXC
import Derived.Test.YtannjgdginfgeaaXI
import Derived.Test.YtannjgdginfgeaaXH
import Derived.Test.YtannjgdginfgeaaWC
import Derived.Test.YtannjgdginfgeaaWH
import Derived.Test.YtannjgdginfgeaaWQ
import Derived.Test.YtannjgdginfgeaaZC
import Derived.Test.YtannjgdginfgeaaCF0
import Derived.Test.YtannjgdginfgeaaWN
import Derived.Test.YtannjgdginfgeaaWI
import Derived.Test.YtannjgdginfgeaaZF
import Derived.Test.YtannjgdginfgeaaUA
import Derived.Test.YtannjgdginfgeaaI5a
import Derived.Test.YtannjgdginfgeaaI15
import Derived.Test.YtannjgdginfgeaaI15b
import Derived.Test.YtannjgdginfgeaaCA
import Derived.Test.YtannjgdginfgeaaCB
import Derived.Test.YtannjgdginfgeaaCC
import Derived.Test.YtannjgdginfgeaaCF4
import Derived.Test.YtannjgdginfgeaaUB
import Derived.Test.YtannjgdginfgeaaXB
import Derived.Test.YtannjgdginfgeaaWG
import Derived.Test.YtannjgdginfgeaaOpenC
import Derived.Test.YtannjgdginfgeaaRowC
import Derived.WalkKit
import Derived.WalkSpells
import Derived.Deep.Draws
import Derived.Deep.MidRow
import Derived.Test.YtannjgdginfgeaaChecked
import Derived.WalkLawsBesides
import Derived.Deep.QuietTactic
import Derived.BigQuiet
import Derived.Deep.RegionHeld3
import Derived.Deep.WholeRow
import Derived.Deep.AppendSrc
import Derived.Maps.AppendAt
import Derived.Deep.AppendLies
import Derived.Lib.AppendZeros
import Derived.Deep.RegionLaw
import Derived.Laws.ComplexArith
import Derived.Laws.StructEq
import Derived.Laws.Cover3
import Derived.Laws.Tables
import Derived.ProofKit
import Derived.OpenShut
import Derived.Lib.SmallJoins
import Derived.Deep.SlicePairs
import Derived.Test.YtannjgdginfgeaaRows
import Derived.Test.YtannjgdginfgeaaTK
import Derived.Test.YtannjgdginfgeaaTK2
set_option maxRecDepth 20000
set_option maxHeartbeats 16000000
namespace Go.Proofs.Ytannjgdginfgeaa
open Go.RowKit
section
variable (cd u : Int)
end
end Go.Proofs.Ytannjgdginfgeaa
namespace Go.Proofs.Ytannjgdginfgeaa
open Go.RowKit
end Go.Proofs.Ytannjgdginfgeaa
namespace Go.Proofs.Ytannjgdginfgeaa
open Go.RowKit
end Go.Proofs.Ytannjgdginfgeaa
namespace Go.Proofs.Ytannjgdginfgeaa
open Go.RowKit
end Go.Proofs.Ytannjgdginfgeaa
namespace Go.Proofs.Ytannjgdginfgeaa
open Go.RowKit
end Go.Proofs.Ytannjgdginfgeaa
namespace Go.Proofs.Ytannjgdginfgeaa
open Go.RowKit
end Go.Proofs.Ytannjgdginfgeaa
namespace Go.Proofs.Ytannjgdginfgeaa
open Go.RowKit
end Go.Proofs.Ytannjgdginfgeaa
namespace Go.Proofs.Ytannjgdginfgeaa
open Go.RowKit
end Go.Proofs.Ytannjgdginfgeaa
namespace Go.Proofs.Ytannjgdginfgeaa
open Go.RowKit
end Go.Proofs.Ytannjgdginfgeaa
namespace Go.Proofs.Ytannjgdginfgeaa
open Go.RowKit
end Go.Proofs.Ytannjgdginfgeaa
namespace Go.Proofs.Ytannjgdginfgeaa
open Go.RowKit
end Go.Proofs.Ytannjgdginfgeaa
namespace Go.Proofs.Ytannjgdginfgeaa
open Go.RowKit
section
variable {o : Bool} {l u : Nat} (ao : Option Addr) (n cap : Nat) (bs : List (Int × Int)) (w : World) (h : RowAt w o l u 2 ao n cap (pairs bs)) (hn : n ≤ 2097152)
include h hn
end
end Go.Proofs.Ytannjgdginfgeaa
namespace Go.Proofs.Ytannjgdginfgeaa
open Go.RowKit
end Go.Proofs.Ytannjgdginfgeaa
namespace Go.Proofs.Ytannjgdginfgeaa
open Go.RowKit
section
variable {w w' : World} {lo P : Nat} {vn : Value} {ab : Option Addr} {nb cb : Nat} {K : Nat → KS} {f : Fo}
end
end Go.Proofs.Ytannjgdginfgeaa
namespace Go.Proofs.Ytannjgdginfgeaa
open Go.RowKit
end Go.Proofs.Ytannjgdginfgeaa
namespace Go.Proofs.Ytannjgdginfgeaa
open Go.RowKit
end Go.Proofs.Ytannjgdginfgeaa
namespace Go.Proofs.Ytannjgdginfgeaa
open Go.RowKit
end Go.Proofs.Ytannjgdginfgeaa
namespace Go.Proofs.Ytannjgdginfgeaa
open Go.RowKit
end Go.Proofs.Ytannjgdginfgeaa
namespace Go.Proofs.Ytannjgdginfgeaa
open Go.RowKit
end Go.Proofs.Ytannjgdginfgeaa
namespace Go.Proofs.Ytannjgdginfgeaa
open Go.RowKit
end Go.Proofs.Ytannjgdginfgeaa
namespace Go.Proofs.Ytannjgdginfgeaa
open Go.RowKit
end Go.Proofs.Ytannjgdginfgeaa
namespace Go.Proofs.Ytannjgdginfgeaa
open Go.RowKit
end Go.Proofs.Ytannjgdginfgeaa
namespace Go.Proofs.Ytannjgdginfgeaa
open Go.RowKit
end Go.Proofs.Ytannjgdginfgeaa
namespace Go.Proofs.Ytannjgdginfgeaa
open Go.RowKit
end Go.Proofs.Ytannjgdginfgeaa
namespace Go.Proofs.Ytannjgdginfgeaa
open Go.RowKit
end Go.Proofs.Ytannjgdginfgeaa
namespace Go.Proofs.Ytannjgdginfgeaa
open Go.RowKit
end Go.Proofs.Ytannjgdginfgeaa
namespace Go.Proofs.Ytannjgdginfgeaa
open Go.RowKit
end Go.Proofs.Ytannjgdginfgeaa
namespace Go.Proofs.Ytannjgdginfgeaa
open Go.RowKit
theorem specIsB_is {o1 o2 : Bool} {l1 u1 l2 u2 : Nat} (a1 a2 : Option Addr) (n c1 m c2 : Nat) (xs ys : List En) (w : World) (h1 : RowAt w o1 l1 u1 6 a1 n c1 (sixs xs)) (h2 : RowAt w o2 l2 u2 6 a2 m c2 (sixs ys)) (hn : n ≤ 2097152) (d : Bool) (hd : decide (commN xs ys = n) = d) : Calls Try.prog 49 #[.slice a1 n c1, .slice a2 m c2] w fun e w' => e = .returned (.bool d) ∧ Below w.heap.size w w' := by
 have hxl := h1.nSixs
 have hyl := h2.nSixs
 have hle := commN_le xs ys
 obtain ⟨c, hc⟩ : ∃ c, commN xs ys = c := ⟨_, rfl⟩
 rw [hc] at hd hle
 have HD : Hid (decide (c = n) = d) := hd
 have HC : Hid _ := hc
 clear hd hc
 go_enter Try.func49, Try.ntmps49
 by_cases hnm : n ≤ m
 ·have hl : (n : Int) ≤ (m : Int) := by omega
  go_wp2_with fail
  refine (specCommon_is a1 a2 n c1 m c2 xs ys _ h1 h2 hn c HC.out).mono ?_
  rintro e w1 ⟨rfl, hb⟩
  clear HC hle
  go_wp2
  go_ret
  refine ⟨ret_bool ?_, hb⟩
  rw [← HD.out]
  by_cases h : c = n
  ·simp [h]
  ·have h' : ¬ (c : Int) = (n : Int) := by omega
   simp [h, h']
 ·have hl : ¬ (n : Int) ≤ (m : Int) := by omega
  have hd : d = false := by rw [← HD.out]; exact decide_eq_false (by omega)
  subst hd
  go_wp2
  go_ret
  exact ⟨rfl, Below.refl _ _⟩
end Go.Proofs.Ytannjgdginfgeaa
namespace Go.Proofs.Ytannjgdginfgeaa
open Go.RowKit
end Go.Proofs.Ytannjgdginfgeaa
namespace Go.Proofs.Ytannjgdginfgeaa
open Go.RowKit
end Go.Proofs.Ytannjgdginfgeaa
namespace Go.Proofs.Ytannjgdginfgeaa
open Go.RowKit
end Go.Proofs.Ytannjgdginfgeaa
namespace Go.Proofs.Ytannjgdginfgeaa
open Go.RowKit
end Go.Proofs.Ytannjgdginfgeaa
namespace Go.Proofs.Ytannjgdginfgeaa
open Go.RowKit
def auGTo (rs : List Rep) : Nat → Int
 | 0 => -1
 | k + 1 => if (rs.getD k rep0).normal = true then max (auGTo rs k) (rs.getD k rep0).view else auGTo rs k
def auG (rs : List Rep) : Int := auGTo rs rs.length
def auHas (g : Int) (es : List En) (r : Rep) : Bool := (!leadsB r || decide (r.view < g)) || decide (commN es r.log = es.length)
theorem auGTo_ge (rs : List Rep) : ∀ n k, k < n → (rs.getD k rep0).normal = true → (rs.getD k rep0).view ≤ auGTo rs n := by
 intro n
 induction n with
 | zero => intro k hk; omega
 | succ n ih =>
  intro k hk hn
  unfold auGTo
  by_cases e : k = n
  ·subst e
   rw [if_pos hn]; omega
  ·have := ih k (by omega) hn
   split <;> omega
theorem auGTo_yes {rs : List Rep} {k : Nat} {r : Rep} (e : rs.getD k rep0 = r) (h : r.normal = true) {g : Int} (hg : auGTo rs k = g) : auGTo rs (k + 1) = max g r.view := by
 show (if (rs.getD k rep0).normal = true then max (auGTo rs k) (rs.getD k rep0).view else auGTo rs k) = _
 rw [e, if_pos h, hg]
theorem auGTo_no {rs : List Rep} {k : Nat} {r : Rep} (e : rs.getD k rep0 = r) (h : r.normal = false) {g : Int} (hg : auGTo rs k = g) : auGTo rs (k + 1) = g := by
 show (if (rs.getD k rep0).normal = true then max (auGTo rs k) (rs.getD k rep0).view else auGTo rs k) = _
 rw [e, h, if_neg (by decide), hg]
theorem leadsB_normal {r : Rep} (h : leadsB r = true) : r.normal = true := by unfold leadsB at h; simp at h; exact h.1
theorem auHas_eq {rs : List Rep} {es : List En} {k : Nat} {r : Rep} (hk : k < rs.length) (e : rs.getD k rep0 = r) (hl : leadsB r = true) : auHas (auG rs) es r = (!(decide (r.view = auG rs)) || decide (commN es r.log = es.length)) := by
 have h1 := auGTo_ge rs rs.length k hk (by rw [e]; exact leadsB_normal hl)
 rw [e] at h1
 have h2 : decide (r.view < auG rs) = !(decide (r.view = auG rs)) := by
  rw [← decide_not]
  exact decide_eq_decide.2 ⟨fun z => by omega, fun z => by unfold auG at z ⊢; omega⟩
 unfold auHas
 rw [hl, h2]
 rfl
theorem auHas_not {g : Int} {es : List En} {r : Rep} (hl : leadsB r = false) : auHas g es r = true := by unfold auHas; rw [hl]; rfl
end Go.Proofs.Ytannjgdginfgeaa
namespace Go.Proofs.Ytannjgdginfgeaa
open Go.RowKit
theorem auEach2 (FN : Nat) (hcf : ∀ (vs : Array Value) (W : World), (callFunc FN vs).run Try.prog W = .ok (.enter FN vs) W) (p1 p2 : Nat) {own : Bool} {lo hi : Nat} (N : Hd) (xs : List Nod) (w : World) (x : NAt w own lo hi N xs) (hn : N.2.1 ≤ 1048576) (p : Rep → Bool)
  (hact : ∀ (W : World) (k : Nat) (r : Rep) (h : RH), Below w.heap.size w W → xs[k]? = some (r, h) → RepAt W own lo hi h r → Calls Try.prog FN #[.agg #[.int .i64 r.id, .int .i64 r.size, .int .i64 r.view, .bool r.normal, .int .i64 r.last, .slice h.L.1 h.L.2.1 h.L.2.2, .int .i64 r.commit, .slice h.O.1 h.O.2.1 h.O.2.2, .slice h.A.1 h.A.2.1 h.A.2.2, .slice h.D.1 h.D.2.1 h.D.2.2], .pointer (some ⟨p1, 0, none⟩), .pointer (some ⟨p2, 0, none⟩)] W fun e w' => e = .returned (.bool (p r)) ∧ Below W.heap.size W w') (d : Bool) (hd : (xs.map (·.1)).all p = d) :
  Calls Try.prog 67 #[.slice N.1 N.2.1 N.2.2, .func (.func FN) #[] #[.pointer (some ⟨p1, 0, none⟩), .pointer (some ⟨p2, 0, none⟩)]] w fun e w' => e = .returned (.bool d) ∧ Below w.heap.size w w' := by
 obtain ⟨ao, n, cap⟩ := N
 simp only at hn ⊢
 have hl : (xs.map (·.1)).length = n := by simpa using x.len
 obtain ⟨rs, hrs⟩ : ∃ rs, xs.map (·.1) = rs := ⟨_, rfl⟩
 have HR : Hid (∀ (i : Nat) (a : Nod), xs[i]? = some a → rs.getD i rep0 = a.1) := fun i a e => by rw [← hrs]; exact mapD e
 rw [hrs] at hd hl
 have HL : Hid _ := hl
 have HD : Hid _ := hd
 have HA : Hid _ := hact
 have Hx : Hid (NAt w own lo hi _ xs) := x
 clear hd hrs hl x hact
 go_enter Try.func67, Try.ntmps67
 go_wp2
 go_loopw [9] (fun i wr => ∃ k : Nat, k ≤ n ∧ i = .int .i64 k ∧ Hid (∀ j, j < k → p (rs.getD j rep0) = true) ∧ Below w.heap.size w wr) (fun i _ => n - (intOf i).toNat)
 case atStart => exact ⟨0, Nat.zero_le _, rfl, fun j hj => absurd hj (Nat.not_lt_zero _), Below.refl _ _⟩
 case round =>
  obtain ⟨k, hk, rfl, H0, hb⟩ := hrel
  by_cases hlt : k < n
  ·have hlk : (k : Int) < (n : Int) := by omega
   obtain ⟨r, h, b, off, ex, rfl, _, _, XN, y, _⟩ := LAt.node (NAt.below Hx.out hb) hlt
   have cN := XN.cell
   have HE : Hid (rs.getD k rep0 = r) := HR.out k _ ex
   have HX : Hid _ := ex
   clear ex
   obtain ⟨q, hq⟩ : ∃ q, p r = q := ⟨_, rfl⟩
   have HQ : Hid _ := hq
   clear hq
   go_wp2_with (first | ((with_reducible refine store_midX 64 X0 0 [.int .i64 r.id, .int .i64 r.size, .int .i64 r.view, .bool r.normal, .int .i64 r.last, .slice h.L.1 h.L.2.1 h.L.2.2, .int .i64 r.commit, .slice h.O.1 h.O.2.1 h.O.2.2, .slice h.A.1 h.A.2.1 h.A.2.2, .slice h.D.1 h.D.2.1 h.D.2.2] (by simp) (by kernel_rfl) (by simp [Value.oneCell']) rfl rfl ?_); intro V1 S; replace X0 : Bx V1 b0 [.int .i64 r.id, .int .i64 r.size, .int .i64 r.view, .bool r.normal, .int .i64 r.last, .slice h.L.1 h.L.2.1 h.L.2.2, .int .i64 r.commit, .slice h.O.1 h.O.2.1 h.O.2.2, .slice h.A.1 h.A.2.1 h.A.2.2, .slice h.D.1 h.D.2.1 h.D.2.2] := S.bx; replace c0 := X0.cell; replace f0 := X0.froz; replace B := bkp B S.kept; clear S) | ((with_reducible refine alloc_newX 64 [.int .i64 0, .int .i64 0, .int .i64 0, .bool false, .int .i64 0, .slice none 0 0, .int .i64 0, .slice none 0 0, .slice none 0 0, .slice none 0 0] (fun _ => by kernel_rfl) ?_); intro b0 W0 N0; have ob0 := N0.ge; have B := N0.below; have X0 := N0.bx; have c0 := X0.cell; have f0 := X0.froz; clear N0) | fail)
   clear XN cN
   refine (HA.out _ k r h (below_next hb B) HX.out (y.below B)).mono ?_
   rintro e w1 ⟨rfl, BB⟩
   rw [HQ.out]
   replace X0 := X0.below BB
   replace c0 := X0.cell
   replace f0 := X0.froz
   replace B := below_next B BB
   clear BB
   cases q with
   | false =>
    have e : d = false := by rw [← HD.out]; exact auAll_no (by rw [HL.out]; exact hlt) (by rw [HE.out]; exact HQ.out)
    subst e
    have hbb := below_next hb B
    clear hb HD
    go_wp2
    go_ret
    exact ⟨rfl, hbb⟩
   | true =>
    have HN : Hid (∀ j, j < k + 1 → p (rs.getD j rep0) = true) := fun j hj => by
     by_cases e : j = k
     ·rw [e, HE.out]; exact HQ.out
     ·exact H0.out j (by omega)
    have HB : Hid _ := below_next hb B
    clear hb
    go_wp2
    go_roundw
    case rel => exact ⟨k + 1, by omega, by go_num, HN, HB.out⟩
    case measure => simp [intOf]; omega
  ·obtain rfl : k = n := by omega
   have e : d = true := by rw [← HD.out]; exact auAll_yes (by rw [HL.out]; exact H0.out)
   subst e
   clear HD
   go_wp2
   go_ret
   exact ⟨rfl, hb⟩
end Go.Proofs.Ytannjgdginfgeaa
namespace Go.Proofs.Ytannjgdginfgeaa
open Go.RowKit
end Go.Proofs.Ytannjgdginfgeaa
namespace Go.Proofs.Ytannjgdginfgeaa
open Go.RowKit
end Go.Proofs.Ytannjgdginfgeaa
namespace Go.Proofs.Ytannjgdginfgeaa
open Go.RowKit
theorem auMax_is (x y : Int) (w : World) : Calls Try.prog 74 #[.int .i64 x, .int .i64 y] w fun e w' => e = .returned (.int .i64 (max x y)) ∧ w' = w := by
 by_cases h : y < x
 ·have h' : max x y = x := by omega
  rw [h']
  go_enter Try.func74, Try.ntmps74
  go_wp2
  go_ret
  exact ⟨rfl, rfl⟩
 ·have h' : max x y = y := by omega
  rw [h']
  go_enter Try.func74, Try.ntmps74
  go_wp2
  go_ret
  exact ⟨rfl, rfl⟩
theorem auMHave_is (b0 : Nat) {own : Bool} {lo hi : Nat} (N M Sl : Hd) (xs : List Nod) (ms : List Mal) (es : List En) (w : World) (X0 : Bx w b0 [.slice N.1 N.2.1 N.2.2, .slice M.1 M.2.1 M.2.2, .slice Sl.1 Sl.2.1 Sl.2.2]) (x : ClAt w own lo hi N M Sl xs ms es) (hs : ClSz N M Sl xs ms 1048576) (hr : cluF (xs.map (·.1)) (ms.map (·.1)) es = 0) (d : Bool) (hd : (xs.map (·.1)).all (auHas (auG (xs.map (·.1))) es) = d) :
  Calls Try.prog 44 #[.pointer (some ⟨b0, 0, none⟩)] w fun e w' => e = .returned (.bool d) ∧ Below w.heap.size w w' := by
 obtain ⟨⟨ao, n, cap⟩, hN⟩ : ∃ q : Hd, N = q := ⟨N, rfl⟩
 subst hN
 have hl : (xs.map (·.1)).length = n := by simpa using x.nodes.len
 have hes := x.slog.nSixs
 have hn := hs.n
 have HRt : Hid _ := auRight x hr
 have HD : Hid _ := hd
 have HS : Hid _ := hs
 have Hx : Hid _ := x
 clear hd hr hs x
 obtain ⟨rs, hrs⟩ : ∃ rs, (xs.map (·.1)) = rs := ⟨_, rfl⟩
 have HR : Hid (∀ (i : Nat) (a : Nod), xs[i]? = some a → rs.getD i rep0 = a.1) := fun i a e => by rw [← hrs]; exact mapD e
 have HD2 := HD.out
 rw [hrs] at hl HD2
 replace HD : Hid _ := HD2
 have HL : Hid _ := hl
 have HES : Hid _ := hes
 clear HD2 hrs hl hes
 obtain ⟨gv, hgv⟩ : ∃ q, auG rs = q := ⟨_, rfl⟩
 have HG : Hid (auGTo rs n = gv) := by show _ = _; rw [← hgv, ← HL.out]; rfl
 have HGG : Hid _ := hgv
 have HD2 := HD.out
 rw [hgv] at HD2
 replace HD : Hid _ := HD2
 clear HD2 hgv
 simp only at hn X0 ⊢
 have HX0 : Hid _ := X0
 have c0 := X0.cell
 go_enter Try.func44, Try.ntmps44
 clear c0
 go_wp2_with fail
 go_loopw [3, 4] (fun v i wr => ∃ (k : Nat) (g : Int), k ≤ n ∧ v = .int .i64 g ∧ i = .int .i64 k ∧ Hid (auGTo rs k = g) ∧ Below w.heap.size w wr) (fun _ i _ => n - (intOf i).toNat)
 case atStart => exact ⟨0, -1, Nat.zero_le _, rfl, rfl, rfl, Below.refl _ _⟩
 case round =>
  obtain ⟨k, g, hk, rfl, rfl, H0, hb⟩ := hrel
  have X0 := HX0.out.below hb
  have c0 := X0.cell
  by_cases hlt : k < n
  ·have hlk : (k : Int) < (n : Int) := by omega
   obtain ⟨r, h, b, off, ex, rfl, _, _, XN, y, _⟩ := LAt.node (NAt.below Hx.out.nodes hb) (i := k) (by show _ < n; omega)
   have cN := XN.cell
   have HE : Hid (rs.getD k rep0 = r) := HR.out k _ ex
   clear ex y
   obtain ⟨nm, hnm⟩ : ∃ q, r.normal = q := ⟨_, rfl⟩
   have HNm : Hid _ := hnm
   rw [hnm] at cN
   clear XN hnm
   cases nm with
   | false =>
    go_wp2_with fail
    have HN : Hid _ := auGTo_no HE.out HNm.out H0.out
    have HB : Hid _ := hb
    clear hb cN X0 c0
    go_wp2
    go_roundw
    case rel => exact ⟨k + 1, _, by omega, rfl, by go_num, HN, HB.out⟩
    case measure => simp [intOf]; omega
   | true =>
    go_wp2_with fail
    refine (auMax_is g r.view _).mono ?_
    rintro e w1 ⟨rfl, rfl⟩
    have HN : Hid _ := auGTo_yes HE.out HNm.out H0.out
    have HB : Hid _ := hb
    clear hb cN X0 c0
    go_wp2
    go_roundw
    case rel => exact ⟨k + 1, _, by omega, rfl, by go_num, HN, HB.out⟩
    case measure => simp [intOf]; omega
  ·obtain rfl : k = n := by omega
   obtain rfl : g = gv := by rw [← HG.out]; exact H0.out.symm
   clear H0 HG
   have HB0 : Hid _ := hb
   go_wp2_with fail
   clear hb X0 c0
   go_loopw [5] (fun i wr => ∃ j : Nat, j ≤ k ∧ i = .int .i64 j ∧ Hid (∀ q, q < j → auHas g es (rs.getD q rep0) = true) ∧ Below w.heap.size w wr) (fun i _ => k - (intOf i).toNat)
   case atStart => exact ⟨0, Nat.zero_le _, rfl, fun j hj => absurd hj (Nat.not_lt_zero _), HB0.out⟩
   case round =>
    obtain ⟨j, hj, rfl, H0, hb⟩ := hrel
    have X0 := HX0.out.below hb
    have c0 := X0.cell
    by_cases hlj : j < k
    ·have hjk : (j : Int) < (k : Int) := by omega
     obtain ⟨r, h, b, off, ex, rfl, _, _, XN, y, _⟩ := LAt.node (NAt.below Hx.out.nodes hb) (i := j) (by show _ < k; omega)
     have HE : Hid (rs.getD j rep0 = r) := HR.out j _ ex
     have hrt := HRt.out.2 j r h ex
     have hsz := hrt.2.1
     have hvw := hrt.2.2.1
     have hs1 := (HS.out.nodes _ _ ex).L
     have HEX : Hid _ := ex
     simp only at hs1
     have HHs : Hid (Sl.2.1 ≤ 1048576) := HS.out.s
     clear ex y hrt
     have HNO : Hid (auHas g es r = false → d = false) := fun z => by rw [← HD.out]; exact auAll_no (by rw [HL.out]; exact hlj) (by rw [HE.out]; exact z)
     have HYES : Hid (auHas g es r = true → ∀ q, q < j + 1 → auHas g es (rs.getD q rep0) = true) := fun z q hq => by
      by_cases e : q = j
      ·rw [e, HE.out]; exact z
      ·exact H0.out q (by omega)
     have HQ : Hid (leadsB r = true → auHas g es r = (!(decide (r.view = g)) || decide (commN es r.log = es.length))) := fun z => by have := auHas_eq (es := es) (k := j) (by rw [HL.out]; exact hlj) HE.out z; rw [HGG.out] at this; exact this
     clear H0
     obtain ⟨nm, hnm⟩ : ∃ q, r.normal = q := ⟨_, rfl⟩
     have HNm : Hid _ := hnm
     obtain ⟨pr, hpr⟩ : ∃ q, (r.view % r.size == r.id) = q := ⟨_, rfl⟩
     have HPr : Hid _ := hpr
     have HLd : Hid (leadsB r = (nm && pr)) := by show _ = _; unfold leadsB; rw [hnm, hpr]
     rw [hnm] at XN
     have cN := XN.cell
     clear hnm hpr
     go_wp2_with fail
     have DQ : Below wr.heap.size wr wr.drew := (Below.refl _ _).drew
     replace X0 := X0.below DQ
     replace c0 := X0.cell
     replace XN := XN.below DQ
     replace cN := XN.cell
     replace hb := below_next hb DQ
     clear DQ
     cases nm with
     | false =>
      refine wp_region_held_drew (S := (fun w' => (∀ k_2 : Nat, w'.cell? ⟨b0, k_2, none⟩ = [.slice (some ⟨b, off, none⟩) k cap, .slice M.1 M.2.1 M.2.2, .slice Sl.1 Sl.2.1 Sl.2.2][k_2]?) ∧ (w'.cell? ⟨b, off + j * 10, none⟩ = [.int .i64 r.id, .int .i64 r.size, .int .i64 r.view, .bool false, .int .i64 r.last, .slice h.L.1 h.L.2.1 h.L.2.2, .int .i64 r.commit, .slice h.O.1 h.O.2.1 h.O.2.2, .slice h.A.1 h.A.2.1 h.A.2.2, .slice h.D.1 h.D.2.1 h.D.2.2][0]? ∧ ∀ k_1 : Nat, k_1 < 10 → w'.cell? ⟨b, off + j * 10 + k_1, none⟩ = [.int .i64 r.id, .int .i64 r.size, .int .i64 r.view, .bool false, .int .i64 r.last, .slice h.L.1 h.L.2.1 h.L.2.2, .int .i64 r.commit, .slice h.O.1 h.O.2.1 h.O.2.2, .slice h.A.1 h.A.2.1 h.A.2.2, .slice h.D.1 h.D.2.1 h.D.2.2][k_1]?))) (by kernel_rfl) ⟨c0, cN⟩ (fun hZq => ?_)
      refine tk 0 hZq ?_
      refine tk 1 hZq ?_
      refine tk 2 hZq ?_
      refine tk 3 hZq ?_
      refine tk 4 hZq ?_
      refine tks 5 hZq ?_
      refine tks 6 hZq ?_
      refine tk 7 hZq ?_
      refine tk 8 hZq ?_
      refine tks 9 hZq ?_
      refine tks 10 hZq ?_
      refine tks 11 hZq ?_
      refine tks 12 hZq ?_
      refine tks 13 hZq ?_
      refine tks 14 hZq ?_
      refine tk 15 hZq ?_
      refine tk 16 hZq ?_
      refine tks 17 hZq ?_
      refine tks 18 hZq ?_
      refine tks 19 hZq ?_
      refine tks 20 hZq ?_
      refine tks 21 hZq ?_
      refine tks 22 hZq ?_
      refine tks 23 hZq ?_
      refine tks 24 hZq ?_
      refine tks 25 hZq ?_
      refine tks 26 hZq ?_
      refine tk 27 hZq ?_
      refine wpAnyH_done (by kernel_rfl) ?_ _
      have HN : Hid _ := HYES.out (auHas_not HLd.out)
      have HB : Hid _ := hb
      clear HNO HYES hb
      go_wp2
      go_roundw
      case rel => exact ⟨j + 1, by omega, by go_num, HN, HB.out⟩
      case measure => simp [intOf]; omega
     | true =>
      cases pr with
      | false =>
       refine wp_region_held_drew (S := (fun w' => (∀ k_2 : Nat, w'.cell? ⟨b0, k_2, none⟩ = [.slice (some ⟨b, off, none⟩) k cap, .slice M.1 M.2.1 M.2.2, .slice Sl.1 Sl.2.1 Sl.2.2][k_2]?) ∧ (w'.cell? ⟨b, off + j * 10, none⟩ = [.int .i64 r.id, .int .i64 r.size, .int .i64 r.view, .bool true, .int .i64 r.last, .slice h.L.1 h.L.2.1 h.L.2.2, .int .i64 r.commit, .slice h.O.1 h.O.2.1 h.O.2.2, .slice h.A.1 h.A.2.1 h.A.2.2, .slice h.D.1 h.D.2.1 h.D.2.2][0]? ∧ ∀ k_1 : Nat, k_1 < 10 → w'.cell? ⟨b, off + j * 10 + k_1, none⟩ = [.int .i64 r.id, .int .i64 r.size, .int .i64 r.view, .bool true, .int .i64 r.last, .slice h.L.1 h.L.2.1 h.L.2.2, .int .i64 r.commit, .slice h.O.1 h.O.2.1 h.O.2.2, .slice h.A.1 h.A.2.1 h.A.2.2, .slice h.D.1 h.D.2.1 h.D.2.2][k_1]?))) (by kernel_rfl) ⟨c0, cN⟩ (fun hZq => ?_)
       refine tk 0 hZq ?_
       refine tk 1 hZq ?_
       refine tk 2 hZq ?_
       refine tk 3 hZq ?_
       refine tk 4 hZq ?_
       refine tk 5 hZq ?_
       refine rd1 6 (fun KK hKK => ?_)
       go_simp
       go_at_call 46
       refine (l9PrimaryO_is b (off + j * 10) r.id r.size r.view true r.last h.L r.commit h.O h.A h.D hsz hvw _ XN).mono ?_
       rintro e w1 ⟨rfl, BB⟩
       rw [HPr.out]
       replace X0 := X0.below BB
       replace c0 := X0.cell
       replace XN := XN.below BB
       replace cN := XN.cell
       replace hb := below_next hb BB
       clear BB
       clear hZq
       refine hKK _ _ ⟨c0, cN⟩ (fun hZq => ?_)
       clear hKK KK
       refine tk 7 hZq ?_
       refine tk 8 hZq ?_
       refine tks 9 hZq ?_
       refine tks 10 hZq ?_
       refine tks 11 hZq ?_
       refine tks 12 hZq ?_
       refine tks 13 hZq ?_
       refine tks 14 hZq ?_
       refine tk 15 hZq ?_
       refine tk 16 hZq ?_
       refine tks 17 hZq ?_
       refine tks 18 hZq ?_
       refine tks 19 hZq ?_
       refine tks 20 hZq ?_
       refine tks 21 hZq ?_
       refine tks 22 hZq ?_
       refine tks 23 hZq ?_
       refine tks 24 hZq ?_
       refine tks 25 hZq ?_
       refine tks 26 hZq ?_
       refine tk 27 hZq ?_
       refine wpAnyH_done (by kernel_rfl) ?_ _
       have HN : Hid _ := HYES.out (auHas_not HLd.out)
       have HB : Hid _ := hb
       clear HNO HYES hb
       go_wp2
       go_roundw
       case rel => exact ⟨j + 1, by omega, by go_num, HN, HB.out⟩
       case measure => simp [intOf]; omega
      | true =>
       have HQ2 := HQ.out HLd.out
       by_cases q0 : r.view = g
       rotate_left 1
       ·have q0' : (r.view == g) = false := by simp [q0]
        rw [decide_eq_false q0] at HQ2
        have HQ3 : Hid (auHas g es r = true) := HQ2
        clear HQ2 q0
        refine wp_region_held_drew (S := (fun w' => (∀ k_2 : Nat, w'.cell? ⟨b0, k_2, none⟩ = [.slice (some ⟨b, off, none⟩) k cap, .slice M.1 M.2.1 M.2.2, .slice Sl.1 Sl.2.1 Sl.2.2][k_2]?) ∧ (w'.cell? ⟨b, off + j * 10, none⟩ = [.int .i64 r.id, .int .i64 r.size, .int .i64 r.view, .bool true, .int .i64 r.last, .slice h.L.1 h.L.2.1 h.L.2.2, .int .i64 r.commit, .slice h.O.1 h.O.2.1 h.O.2.2, .slice h.A.1 h.A.2.1 h.A.2.2, .slice h.D.1 h.D.2.1 h.D.2.2][0]? ∧ ∀ k_1 : Nat, k_1 < 10 → w'.cell? ⟨b, off + j * 10 + k_1, none⟩ = [.int .i64 r.id, .int .i64 r.size, .int .i64 r.view, .bool true, .int .i64 r.last, .slice h.L.1 h.L.2.1 h.L.2.2, .int .i64 r.commit, .slice h.O.1 h.O.2.1 h.O.2.2, .slice h.A.1 h.A.2.1 h.A.2.2, .slice h.D.1 h.D.2.1 h.D.2.2][k_1]?))) (by kernel_rfl) ⟨c0, cN⟩ (fun hZq => ?_)
        refine tk 0 hZq ?_
        refine tk 1 hZq ?_
        refine tk 2 hZq ?_
        refine tk 3 hZq ?_
        refine tk 4 hZq ?_
        refine tk 5 hZq ?_
        refine rd1 6 (fun KK hKK => ?_)
        go_simp
        go_at_call 46
        refine (l9PrimaryO_is b (off + j * 10) r.id r.size r.view true r.last h.L r.commit h.O h.A h.D hsz hvw _ XN).mono ?_
        rintro e w1 ⟨rfl, BB⟩
        rw [HPr.out]
        replace X0 := X0.below BB
        replace c0 := X0.cell
        replace XN := XN.below BB
        replace cN := XN.cell
        replace hb := below_next hb BB
        clear BB
        clear hZq
        refine hKK _ _ ⟨c0, cN⟩ (fun hZq => ?_)
        clear hKK KK
        refine tk 7 hZq ?_
        refine tk 8 hZq ?_
        refine tk 9 hZq ?_
        refine tk 10 hZq ?_
        refine tk 11 hZq ?_
        refine tk 12 hZq ?_
        refine tk 13 hZq ?_
        refine tk 14 hZq ?_
        refine tk 15 hZq ?_
        refine tk 16 hZq ?_
        refine tks 17 hZq ?_
        refine tks 18 hZq ?_
        refine tks 19 hZq ?_
        refine tks 20 hZq ?_
        refine tks 21 hZq ?_
        refine tks 22 hZq ?_
        refine tks 23 hZq ?_
        refine tks 24 hZq ?_
        refine tks 25 hZq ?_
        refine tks 26 hZq ?_
        refine tk 27 hZq ?_
        refine wpAnyH_done (by kernel_rfl) ?_ _
        have HN : Hid _ := HYES.out HQ3.out
        have HB : Hid _ := hb
        clear HNO HYES hb
        go_wp2
        go_roundw
        case rel => exact ⟨j + 1, by omega, by go_num, HN, HB.out⟩
        case measure => simp [intOf]; omega
       have q0' : (r.view == g) = true := by simp [q0]
       rw [decide_eq_true q0] at HQ2
       obtain ⟨d3, hd3⟩ : ∃ q, decide (commN es r.log = Sl.2.1) = q := ⟨_, rfl⟩
       have HD3 : Hid _ := hd3
       rw [HES.out, hd3] at HQ2
       have HQ3 : Hid (auHas g es r = d3) := HQ2
       clear HQ2 q0 hd3
       cases d3 with
       | true =>
        refine wp_region_held_drew (S := (fun w' => (∀ k_2 : Nat, w'.cell? ⟨b0, k_2, none⟩ = [.slice (some ⟨b, off, none⟩) k cap, .slice M.1 M.2.1 M.2.2, .slice Sl.1 Sl.2.1 Sl.2.2][k_2]?) ∧ (w'.cell? ⟨b, off + j * 10, none⟩ = [.int .i64 r.id, .int .i64 r.size, .int .i64 r.view, .bool true, .int .i64 r.last, .slice h.L.1 h.L.2.1 h.L.2.2, .int .i64 r.commit, .slice h.O.1 h.O.2.1 h.O.2.2, .slice h.A.1 h.A.2.1 h.A.2.2, .slice h.D.1 h.D.2.1 h.D.2.2][0]? ∧ ∀ k_1 : Nat, k_1 < 10 → w'.cell? ⟨b, off + j * 10 + k_1, none⟩ = [.int .i64 r.id, .int .i64 r.size, .int .i64 r.view, .bool true, .int .i64 r.last, .slice h.L.1 h.L.2.1 h.L.2.2, .int .i64 r.commit, .slice h.O.1 h.O.2.1 h.O.2.2, .slice h.A.1 h.A.2.1 h.A.2.2, .slice h.D.1 h.D.2.1 h.D.2.2][k_1]?))) (by kernel_rfl) ⟨c0, cN⟩ (fun hZq => ?_)
        refine tk 0 hZq ?_
        refine tk 1 hZq ?_
        refine tk 2 hZq ?_
        refine tk 3 hZq ?_
        refine tk 4 hZq ?_
        refine tk 5 hZq ?_
        refine rd1 6 (fun KK hKK => ?_)
        go_simp
        go_at_call 46
        refine (l9PrimaryO_is b (off + j * 10) r.id r.size r.view true r.last h.L r.commit h.O h.A h.D hsz hvw _ XN).mono ?_
        rintro e w1 ⟨rfl, BB⟩
        rw [HPr.out]
        replace X0 := X0.below BB
        replace c0 := X0.cell
        replace XN := XN.below BB
        replace cN := XN.cell
        replace hb := below_next hb BB
        clear BB
        clear hZq
        refine hKK _ _ ⟨c0, cN⟩ (fun hZq => ?_)
        clear hKK KK
        refine tk 7 hZq ?_
        refine tk 8 hZq ?_
        refine tk 9 hZq ?_
        refine tk 10 hZq ?_
        refine tk 11 hZq ?_
        refine tk 12 hZq ?_
        refine tk 13 hZq ?_
        refine tk 14 hZq ?_
        refine tk 15 hZq ?_
        refine tk 16 hZq ?_
        refine tk 17 hZq ?_
        refine tk 18 hZq ?_
        refine tk 19 hZq ?_
        refine tk 20 hZq ?_
        refine tk 21 hZq ?_
        refine tk 22 hZq ?_
        refine tk 23 hZq ?_
        refine tk 24 hZq ?_
        refine rd1 25 (fun KK hKK => ?_)
        go_simp
        go_at_call 49
        refine (specIsB_is Sl.1 h.L.1 Sl.2.1 Sl.2.2 h.L.2.1 h.L.2.2 es r.log _ (Hx.out.slog.below hb) ((Hx.out.nodes.below hb).each j _ HEX.out).log (by have := HHs.out; omega) true HD3.out).mono ?_
        rintro e w2 ⟨rfl, BB⟩
        replace X0 := X0.below BB
        replace c0 := X0.cell
        replace XN := XN.below BB
        replace cN := XN.cell
        replace hb := below_next hb BB
        clear BB
        clear hZq
        refine hKK _ _ ⟨c0, cN⟩ (fun hZq => ?_)
        clear hKK KK
        refine tk 26 hZq ?_
        refine tk 27 hZq ?_
        refine wpAnyH_done (by kernel_rfl) ?_ _
        have HN : Hid _ := HYES.out HQ3.out
        have HB : Hid _ := hb
        clear HNO HYES hb
        go_wp2
        go_roundw
        case rel => exact ⟨j + 1, by omega, by go_num, HN, HB.out⟩
        case measure => simp [intOf]; omega
       | false =>
        refine wp_region_held_drew (S := (fun w' => (∀ k_2 : Nat, w'.cell? ⟨b0, k_2, none⟩ = [.slice (some ⟨b, off, none⟩) k cap, .slice M.1 M.2.1 M.2.2, .slice Sl.1 Sl.2.1 Sl.2.2][k_2]?) ∧ (w'.cell? ⟨b, off + j * 10, none⟩ = [.int .i64 r.id, .int .i64 r.size, .int .i64 r.view, .bool true, .int .i64 r.last, .slice h.L.1 h.L.2.1 h.L.2.2, .int .i64 r.commit, .slice h.O.1 h.O.2.1 h.O.2.2, .slice h.A.1 h.A.2.1 h.A.2.2, .slice h.D.1 h.D.2.1 h.D.2.2][0]? ∧ ∀ k_1 : Nat, k_1 < 10 → w'.cell? ⟨b, off + j * 10 + k_1, none⟩ = [.int .i64 r.id, .int .i64 r.size, .int .i64 r.view, .bool true, .int .i64 r.last, .slice h.L.1 h.L.2.1 h.L.2.2, .int .i64 r.commit, .slice h.O.1 h.O.2.1 h.O.2.2, .slice h.A.1 h.A.2.1 h.A.2.2, .slice h.D.1 h.D.2.1 h.D.2.2][k_1]?))) (by kernel_rfl) ⟨c0, cN⟩ (fun hZq => ?_)
        refine tk 0 hZq ?_
        refine tk 1 hZq ?_
        refine tk 2 hZq ?_
        refine tk 3 hZq ?_
        refine tk 4 hZq ?_
        refine tk 5 hZq ?_
        refine rd1 6 (fun KK hKK => ?_)
        go_simp
        go_at_call 46
        refine (l9PrimaryO_is b (off + j * 10) r.id r.size r.view true r.last h.L r.commit h.O h.A h.D hsz hvw _ XN).mono ?_
        rintro e w1 ⟨rfl, BB⟩
        rw [HPr.out]
        replace X0 := X0.below BB
        replace c0 := X0.cell
        replace XN := XN.below BB
        replace cN := XN.cell
        replace hb := below_next hb BB
        clear BB
        clear hZq
        refine hKK _ _ ⟨c0, cN⟩ (fun hZq => ?_)
        clear hKK KK
        refine tk 7 hZq ?_
        refine tk 8 hZq ?_
        refine tk 9 hZq ?_
        refine tk 10 hZq ?_
        refine tk 11 hZq ?_
        refine tk 12 hZq ?_
        refine tk 13 hZq ?_
        refine tk 14 hZq ?_
        refine tk 15 hZq ?_
        refine tk 16 hZq ?_
        refine tk 17 hZq ?_
        refine tk 18 hZq ?_
        refine tk 19 hZq ?_
        refine tk 20 hZq ?_
        refine tk 21 hZq ?_
        refine tk 22 hZq ?_
        refine tk 23 hZq ?_
        refine tk 24 hZq ?_
        refine rd1 25 (fun KK hKK => ?_)
        go_simp
        go_at_call 49
        refine (specIsB_is Sl.1 h.L.1 Sl.2.1 Sl.2.2 h.L.2.1 h.L.2.2 es r.log _ (Hx.out.slog.below hb) ((Hx.out.nodes.below hb).each j _ HEX.out).log (by have := HHs.out; omega) false HD3.out).mono ?_
        rintro e w2 ⟨rfl, BB⟩
        replace X0 := X0.below BB
        replace c0 := X0.cell
        replace XN := XN.below BB
        replace cN := XN.cell
        replace hb := below_next hb BB
        clear BB
        clear hZq
        refine hKK _ _ ⟨c0, cN⟩ (fun hZq => ?_)
        clear hKK KK
        refine tk 26 hZq ?_
        refine tk 27 hZq ?_
        refine wpAnyH_done (by kernel_rfl) ?_ _
        have e : d = false := HNO.out HQ3.out
        subst e
        clear HNO HYES HD
        go_wp2
        go_ret
        exact ⟨rfl, hb⟩
    ·obtain rfl : j = k := by omega
     have e : d = true := by rw [← HD.out]; exact auAll_yes (by rw [HL.out]; exact H0.out)
     subst e
     clear HD
     go_wp2
     go_ret
     exact ⟨rfl, hb⟩
end Go.Proofs.Ytannjgdginfgeaa
namespace Go.Proofs.Ytannjgdginfgeaa
open Go.RowKit
theorem auMPH_is {own : Bool} {lo hi : Nat} (N M Sl : Hd) (xs : List Nod) (ms : List Mal) (es : List En) (w : World) (x : ClAt w own lo hi N M Sl xs ms es) (hs : ClSz N M Sl xs ms 1048576) (d : Bool) (hd : (decide (cluF (xs.map (·.1)) (ms.map (·.1)) es = 0) && (xs.map (·.1)).all (auHas (auG (xs.map (·.1))) es)) = d) :
  Calls Try.prog 16 #[.agg #[.slice N.1 N.2.1 N.2.2, .slice M.1 M.2.1 M.2.2, .slice Sl.1 Sl.2.1 Sl.2.2]] w fun e w' => e = .returned (.bool d) ∧ Below w.heap.size w w' := by
 obtain ⟨cd, hcd⟩ : ∃ cd, cluF (xs.map (·.1)) (ms.map (·.1)) es = cd := ⟨_, rfl⟩
 have HC : Hid _ := hcd
 obtain ⟨e0, he0⟩ : ∃ q, (xs.map (·.1)).all (auHas (auG (xs.map (·.1))) es) = q := ⟨_, rfl⟩
 have HE0 : Hid _ := he0
 rw [hcd, he0] at hd
 have HD : Hid _ := hd
 clear hd hcd he0
 go_enter Try.func16, Try.ntmps16
 go_wp2_with (first | ((with_reducible refine box_newX 33 [.slice N.1 N.2.1 N.2.2, .slice M.1 M.2.1 M.2.2, .slice Sl.1 Sl.2.1 Sl.2.2] rfl ?_); intro b0 W0 N0; have ob0 := N0.ge; have B := N0.below; have X0 := N0.bx; have c0 := X0.cell; clear N0) | fail)
 refine (l11Fault_is b0 N M Sl xs ms es _ X0 (x.below B) hs cd HC.out).mono ?_
 rintro e w1 ⟨rfl, BB⟩
 replace X0 := X0.below BB
 replace c0 := X0.cell
 replace B := below_next B BB
 clear BB
 by_cases q0 : cd = 0
 rotate_left 1
 ·have q0' : (cd == 0) = false := by simp [q0]
  have e : d = false := by rw [← HD.out, decide_eq_false q0, Bool.false_and]
  subst e
  go_wp2
  go_ret
  exact ⟨rfl, B⟩
 subst q0
 go_wp2_with fail
 refine (auMHave_is b0 N M Sl xs ms es _ X0 (x.below B) hs HC.out e0 HE0.out).mono ?_
 rintro e w2 ⟨rfl, BB⟩
 replace X0 := X0.below BB
 replace c0 := X0.cell
 replace B := below_next B BB
 clear BB
 cases e0 with
 | false =>
  have e : d = false := by rw [← HD.out]; rfl
  subst e
  go_wp2
  go_ret
  exact ⟨rfl, B⟩
 | true =>
  have e : d = true := by rw [← HD.out]; rfl
  subst e
  go_wp2
  go_ret
  exact ⟨rfl, B⟩
end Go.Proofs.Ytannjgdginfgeaa
namespace Go.Proofs.Ytannjgdginfgeaa
open Go.RowKit
theorem auGreatest_is {own : Bool} {lo hi : Nat} (N : Hd) (xs : List Nod) (w : World) (x : NAt w own lo hi N xs) (hn : N.2.1 ≤ 1048576) (d : Int) (hd : auG (xs.map (·.1)) = d) :
  Calls Try.prog 75 #[.slice N.1 N.2.1 N.2.2] w fun e w' => e = .returned (.int .i64 d) ∧ Below w.heap.size w w' := by
 obtain ⟨ao, n, cap⟩ := N
 simp only at hn ⊢
 have hl : (xs.map (·.1)).length = n := by simpa using x.len
 obtain ⟨rs, hrs⟩ : ∃ rs, (xs.map (·.1)) = rs := ⟨_, rfl⟩
 have HR : Hid (∀ (i : Nat) (a : Nod), xs[i]? = some a → rs.getD i rep0 = a.1) := fun i a e => by rw [← hrs]; exact mapD e
 unfold auG at hd
 rw [hrs] at hd hl
 rw [hl] at hd
 have HD : Hid _ := hd
 have Hx : Hid (NAt w own lo hi _ xs) := x
 clear hd hrs hl x
 go_enter Try.func75, Try.ntmps75
 go_wp2
 go_loopw [3, 8] (fun v i wr => ∃ (k : Nat) (g : Int), k ≤ n ∧ v = .int .i64 g ∧ i = .int .i64 k ∧ Hid (auGTo rs k = g) ∧ Below w.heap.size w wr) (fun _ i _ => n - (intOf i).toNat)
 case atStart => exact ⟨0, -1, Nat.zero_le _, rfl, rfl, rfl, Below.refl _ _⟩
 case round =>
  obtain ⟨k, g, hk, rfl, rfl, H0, hb⟩ := hrel
  by_cases hlt : k < n
  ·have hlk : (k : Int) < (n : Int) := by omega
   obtain ⟨r, h, b, off, ex, rfl, _, _, XN, y, _⟩ := LAt.node (NAt.below Hx.out hb) hlt
   have cN := XN.cell
   have HE : Hid (rs.getD k rep0 = r) := HR.out k _ ex
   clear ex y
   obtain ⟨nm, hnm⟩ : ∃ q, r.normal = q := ⟨_, rfl⟩
   have HNm : Hid _ := hnm
   rw [hnm] at cN
   clear XN hnm
   cases nm with
   | false =>
    go_wp2_with (first | ((with_reducible refine store_midX 64 X0 0 [.int .i64 r.id, .int .i64 r.size, .int .i64 r.view, .bool false, .int .i64 r.last, .slice h.L.1 h.L.2.1 h.L.2.2, .int .i64 r.commit, .slice h.O.1 h.O.2.1 h.O.2.2, .slice h.A.1 h.A.2.1 h.A.2.2, .slice h.D.1 h.D.2.1 h.D.2.2] (by simp) (by kernel_rfl) (by simp [Value.oneCell']) rfl rfl ?_); intro V1 S; replace X0 : Bx V1 b0 [.int .i64 r.id, .int .i64 r.size, .int .i64 r.view, .bool false, .int .i64 r.last, .slice h.L.1 h.L.2.1 h.L.2.2, .int .i64 r.commit, .slice h.O.1 h.O.2.1 h.O.2.2, .slice h.A.1 h.A.2.1 h.A.2.2, .slice h.D.1 h.D.2.1 h.D.2.2] := S.bx; replace c0 := X0.cell; replace f0 := X0.froz; replace B := bkp B S.kept; clear S) | ((with_reducible refine alloc_newX 64 [.int .i64 0, .int .i64 0, .int .i64 0, .bool false, .int .i64 0, .slice none 0 0, .int .i64 0, .slice none 0 0, .slice none 0 0, .slice none 0 0] (fun _ => by kernel_rfl) ?_); intro b0 W0 N0; have ob0 := N0.ge; have B := N0.below; have X0 := N0.bx; have c0 := X0.cell; have f0 := X0.froz; clear N0) | fail)
    clear cN
    have HN : Hid _ := auGTo_no HE.out HNm.out H0.out
    have HB : Hid _ := below_next hb B
    clear hb
    go_wp2
    go_roundw
    case rel => exact ⟨k + 1, _, by omega, rfl, by go_num, HN, HB.out⟩
    case measure => simp [intOf]; omega
   | true =>
    go_wp2_with (first | ((with_reducible refine store_midX 64 X0 0 [.int .i64 r.id, .int .i64 r.size, .int .i64 r.view, .bool true, .int .i64 r.last, .slice h.L.1 h.L.2.1 h.L.2.2, .int .i64 r.commit, .slice h.O.1 h.O.2.1 h.O.2.2, .slice h.A.1 h.A.2.1 h.A.2.2, .slice h.D.1 h.D.2.1 h.D.2.2] (by simp) (by kernel_rfl) (by simp [Value.oneCell']) rfl rfl ?_); intro V1 S; replace X0 : Bx V1 b0 [.int .i64 r.id, .int .i64 r.size, .int .i64 r.view, .bool true, .int .i64 r.last, .slice h.L.1 h.L.2.1 h.L.2.2, .int .i64 r.commit, .slice h.O.1 h.O.2.1 h.O.2.2, .slice h.A.1 h.A.2.1 h.A.2.2, .slice h.D.1 h.D.2.1 h.D.2.2] := S.bx; replace c0 := X0.cell; replace f0 := X0.froz; replace B := bkp B S.kept; clear S) | ((with_reducible refine alloc_newX 64 [.int .i64 0, .int .i64 0, .int .i64 0, .bool false, .int .i64 0, .slice none 0 0, .int .i64 0, .slice none 0 0, .slice none 0 0, .slice none 0 0] (fun _ => by kernel_rfl) ?_); intro b0 W0 N0; have ob0 := N0.ge; have B := N0.below; have X0 := N0.bx; have c0 := X0.cell; have f0 := X0.froz; clear N0) | fail)
    clear cN
    have em : max g r.view = (if g < r.view then r.view else g) := by split <;> omega
    have HN : Hid _ := (auGTo_yes HE.out HNm.out H0.out).trans em
    clear em
    have HB : Hid _ := below_next hb B
    clear hb
    go_wp2
    go_roundw
    case rel => exact ⟨k + 1, _, by omega, rfl, by go_num, HN, HB.out⟩
    case measure => simp [intOf]; omega
  ·obtain rfl : k = n := by omega
   have e : d = g := by rw [← HD.out]; exact H0.out
   subst e
   clear HD
   go_wp2
   go_ret
   exact ⟨rfl, hb⟩
theorem auHas1_is {own o2 : Bool} {lo hi l2 u2 : Nat} (g : Int) (r : Rep) (h : RH) (N M Sl : Hd) (es : List En) (b0 b1 : Nat) (w : World) (x : RepAt w own lo hi h r) (hs : 1 ≤ r.size ∧ r.size ≤ 5) (hv : 0 ≤ r.view ∧ r.view ≤ 300) (hz : Sl.2.1 ≤ 2097152) (X0 : Bx w b0 [.int .i64 g]) (X1 : Bx w b1 [.slice N.1 N.2.1 N.2.2, .slice M.1 M.2.1 M.2.2, .slice Sl.1 Sl.2.1 Sl.2.2]) (s : RowAt w o2 l2 u2 6 Sl.1 Sl.2.1 Sl.2.2 (sixs es)) :
  Calls Try.prog 76 #[.agg #[.int .i64 r.id, .int .i64 r.size, .int .i64 r.view, .bool r.normal, .int .i64 r.last, .slice h.L.1 h.L.2.1 h.L.2.2, .int .i64 r.commit, .slice h.O.1 h.O.2.1 h.O.2.2, .slice h.A.1 h.A.2.1 h.A.2.2, .slice h.D.1 h.D.2.1 h.D.2.2], .pointer (some ⟨b0, 0, none⟩), .pointer (some ⟨b1, 0, none⟩)] w fun e w' => e = .returned (.bool (auHas g es r)) ∧ Below w.heap.size w w' := by
 have hl := s.nSixs
 have xl := x.log
 obtain ⟨d3, hd3⟩ : ∃ q, decide (commN es r.log = Sl.2.1) = q := ⟨_, rfl⟩
 have HD3 : Hid _ := hd3
 have e : auHas g es r = ((!leadsB r || decide (r.view < g)) || d3) := by unfold auHas; rw [← hd3, hl]
 rw [e]
 obtain ⟨d1, hd1⟩ : ∃ q, leadsB r = q := ⟨_, rfl⟩
 have HD1 : Hid _ := hd1
 obtain ⟨d2, hd2⟩ : ∃ q, decide (r.view < g) = q := ⟨_, rfl⟩
 have HD2 : Hid _ := hd2
 rw [hd1, hd2]
 obtain ⟨dd, hdd⟩ : ∃ q, ((!d1 || d2) || d3) = q := ⟨_, rfl⟩
 have HDD : Hid _ := hdd
 rw [hdd]
 clear hd1 hd2 hd3 e x hl hdd
 have c0 := X0.cell
 have c1 := X1.cell
 have ob0 := X0.lt
 have ob1 := X1.lt
 go_enter Try.func76, Try.ntmps76
 go_wp2_with (first | ((have g := ob1); clear g; (with_reducible refine box_newX 64 [.int .i64 r.id, .int .i64 r.size, .int .i64 r.view, .bool r.normal, .int .i64 r.last, .slice h.L.1 h.L.2.1 h.L.2.2, .int .i64 r.commit, .slice h.O.1 h.O.2.1 h.O.2.2, .slice h.A.1 h.A.2.1 h.A.2.2, .slice h.D.1 h.D.2.1 h.D.2.2] rfl ?_); intro b2 W2 N2; have ob2 := N2.ge; have o0_b2 := ltl X0.lt N2.ge; have o1_b2 := ltl X1.lt N2.ge; replace X0 := X0.below N2.below; replace c0 := X0.cell; replace X1 := X1.below N2.below; replace c1 := X1.cell; have B := N2.below; have X2 := N2.bx; have c2 := X2.cell; clear N2) | fail)
 refine (leads_is' r h hs hv _ d1 HD1.out).mono ?_
 rintro e w1 ⟨rfl, BB⟩
 replace X0 := X0.below BB
 replace c0 := X0.cell
 replace X1 := X1.below BB
 replace c1 := X1.cell
 replace X2 := X2.below BB
 replace c2 := X2.cell
 replace B := below_next B BB
 clear BB
 cases d1 with
 | false =>
  obtain rfl : dd = true := by rw [← HDD.out]; rfl
  go_wp2
  go_ret
  exact ⟨rfl, B⟩
 | true =>
  cases d2 with
  | true =>
   have q0 : r.view < g := of_decide_eq_true HD2.out
   obtain rfl : dd = true := by rw [← HDD.out]; rfl
   go_wp2
   go_ret
   exact ⟨rfl, B⟩
  | false =>
   have q0 : ¬ r.view < g := of_decide_eq_false HD2.out
   obtain rfl : dd = d3 := by rw [← HDD.out]; rfl
   go_wp2_with fail
   refine (implIsB_is Sl.1 h.L.1 Sl.2.1 Sl.2.2 h.L.2.1 h.L.2.2 es r.log _ (s.below B) (xl.below B) hz _ HD3.out).mono ?_
   rintro e w2 ⟨rfl, BB⟩
   replace X0 := X0.below BB
   replace c0 := X0.cell
   replace X1 := X1.below BB
   replace c1 := X1.cell
   replace X2 := X2.below BB
   replace c2 := X2.cell
   replace B := below_next B BB
   clear BB
   go_wp2
   go_ret
   exact ⟨by show Ending.returned (Value.bool (decide (r.view < g) || dd)) = _; rw [HD2.out]; rfl, B⟩
theorem alloc_intX {P : Program} {ops : Array Oper} {rest : List Oper} {dst : Option Tmp} {type : TypeId} {pos : String} {after : Array Edge} {a : Act} {w : World} {Q : Exit → Act → World → Prop} {ty : TypeId} (hz : ∀ w, (zeroValue ty).run P w = .ok (.int .i64 0) w)
  (h : ∀ (b : Nat) (W : World), NewX w W b [.int .i64 0] → wpList P ops Q rest (a.put dst (.pointer (some ⟨b, 0, none⟩))) W) : wpList P ops Q (⟨dst, .alloc ty, type, pos, after, none⟩ :: rest) a w := by
 refine wpList_plain rfl fun K hK => ?_
 unfold Oper.wp execOp
 go_simp
 exact hK _ _ (h _ _ (by simpa using newX_mk w #[.int .i64 0] ty))
theorem auFirst_is {own : Bool} {lo hi : Nat} (N M Sl : Hd) (xs : List Nod) (ms : List Mal) (es : List En) (w : World) (x : ClAt w own lo hi N M Sl xs ms es) (hs : ClSz N M Sl xs ms 1048576) (hr : cluF (xs.map (·.1)) (ms.map (·.1)) es = 0) (d : Bool) (hd : (xs.map (·.1)).all (auHas (auG (xs.map (·.1))) es) = d) :
  Calls Try.prog 45 #[.agg #[.slice N.1 N.2.1 N.2.2, .slice M.1 M.2.1 M.2.2, .slice Sl.1 Sl.2.1 Sl.2.2]] w fun e w' => e = .returned (.bool d) ∧ Below w.heap.size w w' := by
 have HRt : Hid _ := auRight x hr
 have HD : Hid _ := hd
 have HS : Hid _ := hs
 have Hx : Hid _ := x
 have hmf : ∀ (fn : Fn) (first cap : Array Value) (w : World), (Instr.makeFunc fn first cap).run Try.prog w = .ok (.func fn first cap) w := fun _ _ _ _ => rfl
 clear hd hr hs x
 obtain ⟨gv, hgv⟩ : ∃ q, auG (xs.map (·.1)) = q := ⟨_, rfl⟩
 have HG : Hid _ := hgv
 rw [hgv] at HD
 clear hgv
 go_enter Try.func45, Try.ntmps45
 go_wp2_with (first | ((with_reducible refine box_newX 33 [.slice N.1 N.2.1 N.2.2, .slice M.1 M.2.1 M.2.2, .slice Sl.1 Sl.2.1 Sl.2.2] rfl ?_); intro b0 W0 N0; have ob0 := N0.ge; have B := N0.below; have X0 := N0.bx; have c0 := X0.cell; clear N0) | fail)
 refine (auGreatest_is N xs _ (Hx.out.nodes.below B) HS.out.n gv HG.out).mono ?_
 rintro e w1 ⟨rfl, BB⟩
 replace X0 := X0.below BB
 replace c0 := X0.cell
 replace B := below_next B BB
 clear BB
 go_wp2_with (first | ((with_reducible refine store_oneX 2 X1 0 (.int .i64 gv) (by simp) (by kernel_rfl) rfl rfl rfl ?_); intro V1 S; replace X0 := X0.kp S.kept; replace c0 := X0.cell; replace X1 : Bx V1 b1 [.int .i64 gv] := S.bx; replace c1 := X1.cell; replace f1 := X1.froz; replace B := bkp B S.kept; clear S) | ((have g := ob0); clear g; (with_reducible refine alloc_intX (fun _ => by kernel_rfl) ?_); intro b1 W1 N1; have ob1 := Nat.le_trans B.size N1.ge; have o0_b1 := ltl X0.lt N1.ge; replace X0 := X0.below N1.below; replace c0 := X0.cell; replace B := below_next B N1.below; have X1 := N1.bx; have c1 := X1.cell; have f1 := X1.froz; clear N1) | fail)
 have HX0 : Hid _ := X0
 have HX1 : Hid _ := X1
 refine (auEach2 76 (fun _ _ => rfl) b1 b0 N xs _ (Hx.out.nodes.below B) HS.out.n (auHas gv es) (fun W k r h hb ex y => auHas1_is gv r h N M Sl es b1 b0 W y (HRt.out.2 k r h ex).2.1 (HRt.out.2 k r h ex).2.2.1 (Nat.le_trans HS.out.s (by omega)) (HX1.out.below hb) (HX0.out.below hb) ((Hx.out.slog.below B).below hb)) d HD.out).mono ?_
 rintro e w2 ⟨rfl, BB⟩
 replace X0 := X0.below BB
 replace c0 := X0.cell
 replace X1 := X1.below BB
 replace c1 := X1.cell
 replace f1 := X1.froz
 replace B := below_next B BB
 clear BB
 go_wp2
 go_ret
 exact ⟨rfl, B⟩
theorem auPH_is {own : Bool} {lo hi : Nat} (N M Sl : Hd) (xs : List Nod) (ms : List Mal) (es : List En) (w : World) (x : ClAt w own lo hi N M Sl xs ms es) (hs : ClSz N M Sl xs ms 1048576) (d : Bool) (hd : (decide (cluF (xs.map (·.1)) (ms.map (·.1)) es = 0) && (xs.map (·.1)).all (auHas (auG (xs.map (·.1))) es)) = d) :
  Calls Try.prog 17 #[.agg #[.slice N.1 N.2.1 N.2.2, .slice M.1 M.2.1 M.2.2, .slice Sl.1 Sl.2.1 Sl.2.2]] w fun e w' => e = .returned (.bool d) ∧ Below w.heap.size w w' := by
 have HD : Hid _ := hd
 have HS : Hid _ := hs
 have Hx : Hid _ := x
 clear hd hs x
 go_enter Try.func17, Try.ntmps17
 go_wp2_with (first | ((with_reducible refine box_newX 33 [.slice N.1 N.2.1 N.2.2, .slice M.1 M.2.1 M.2.2, .slice Sl.1 Sl.2.1 Sl.2.2] rfl ?_); intro b0 W0 N0; have ob0 := N0.ge; have B := N0.below; have X0 := N0.bx; have c0 := X0.cell; clear N0) | fail)
 refine (auHolds 45 (fun _ _ => rfl) N M Sl xs ms es _ (Hx.out.below B) HS.out _ (fun W hb hr => auFirst_is N M Sl xs ms es W ((Hx.out.below B).below hb) HS.out hr _ rfl) d HD.out).mono ?_
 rintro e w1 ⟨rfl, BB⟩
 replace X0 := X0.below BB
 replace c0 := X0.cell
 replace B := below_next B BB
 clear BB
 go_wp2
 go_ret
 exact ⟨rfl, B⟩
end Go.Proofs.Ytannjgdginfgeaa
namespace Go.Proofs.Ytannjgdginfgeaa
open Go.RowKit
theorem lawPrimariesHave {own : Bool} (N M Sl : Hd) (xs : List Nod) (ms : List Mal) (es : List En) (w : World) (x : ClAt w own 0 w.heap.size N M Sl xs ms es) (hs : ClSz N M Sl xs ms maxLen) : Calls Try.prog 5 #[.agg #[.slice N.1 N.2.1 N.2.2, .slice M.1 M.2.1 M.2.2, .slice Sl.1 Sl.2.1 Sl.2.2]] w fun e w' => e = .returned (.bool true) ∧ Below w.heap.size w w' := by
 obtain ⟨cd, hcd⟩ : ∃ cd, (decide (cluF (xs.map (·.1)) (ms.map (·.1)) es = 0) && (xs.map (·.1)).all (auHas (auG (xs.map (·.1))) es)) = cd := ⟨_, rfl⟩
 have HC : Hid _ := hcd
 clear hcd
 have hd : (cd != cd) = false := by simp
 go_enter Try.func5, Try.ntmps5
 go_wp2_with (first | ((with_reducible refine box_newX 26 [.slice N.1 N.2.1 N.2.2, .slice M.1 M.2.1 M.2.2, .slice Sl.1 Sl.2.1 Sl.2.2] rfl ?_); intro b0 W0 N0; have ob0 := N0.ge; have B := N0.below; have X0 := N0.bx; have c0 := X0.cell; clear N0) | fail)
 refine (szCluster_lt N M Sl xs ms es _ (x.below B) hs).mono ?_
 rintro e w1 ⟨q, rfl, BB, hq⟩
 replace X0 := X0.below BB
 replace c0 := X0.cell
 replace B := below_next B BB
 clear BB
 rcases hq with hq | ⟨hq0, hq1, HZ⟩
 ·go_wp2
  go_ret
  exact ⟨rfl, B⟩
 have hq' : ¬ q < 0 := by omega
 clear hq0 hq1
 go_wp2_with fail
 refine (toCluster_any N M Sl xs ms es _ (x.below B) HZ).mono ?_
 rintro e w2 ⟨z1, u1, N1, M1, S1, xa, ma, rfl, _, _, y1, e1, e2, z1', BB⟩
 replace X0 := X0.below BB
 replace c0 := X0.cell
 replace B := below_next B BB
 clear BB
 go_wp2_with fail
 refine (auMPH_is N1 M1 S1 xa ma es _ y1 z1' cd (by rw [e1, e2]; exact HC.out)).mono ?_
 rintro e w3 ⟨rfl, BB⟩
 replace X0 := X0.below BB
 replace c0 := X0.cell
 replace B := below_next B BB
 clear BB
 clear y1 z1' e1 e2
 go_wp2_with fail
 refine (toCluster_any N M Sl xs ms es _ (x.below B) HZ).mono ?_
 rintro e w4 ⟨zY, uY, N2, M2, S2, xb, mb, rfl, GzY, hy1, y1, e1, e2, z1', BB⟩
 have ozY : w.heap.size ≤ zY := Nat.le_trans B.size GzY
 have o0_zY := ltl X0.lt GzY
 clear GzY
 replace X0 := X0.below BB
 replace c0 := X0.cell
 replace B := below_next B BB
 have E1 : Hid _ := e1
 have E2 : Hid _ := e2
 clear e1 e2
 clear BB
 go_wp2_with (first | ((with_reducible refine store_midX 33 X1 0 [.slice N2.1 N2.2.1 N2.2.2, .slice M2.1 M2.2.1 M2.2.2, .slice S2.1 S2.2.1 S2.2.2] (by simp) (by kernel_rfl) (by simp [Value.oneCell']) rfl rfl ?_); intro V1 S; replace X0 := X0.kp S.kept; replace c0 := X0.cell; replace X1 : Bx V1 b1 [.slice N2.1 N2.2.1 N2.2.2, .slice M2.1 M2.2.1 M2.2.2, .slice S2.1 S2.2.1 S2.2.2] := S.bx; replace c1 := X1.cell; replace f1 := X1.froz; replace y1 := y1.kept S.kept (by omega); replace hy1 := Nat.le_trans hy1 S.kept.size; replace B := bkp B S.kept; clear S) | ((have g := ob0); clear g; (with_reducible refine alloc_newX 33 [.slice none 0 0, .slice none 0 0, .slice none 0 0] (fun _ => by kernel_rfl) ?_); intro b1 W1 N1; have ob1 := Nat.le_trans B.size N1.ge; have o0_b1 := ltl X0.lt N1.ge; have oy1_b1 : uY ≤ b1 := Nat.le_trans hy1 N1.ge; replace X0 := X0.below N1.below; replace c0 := X0.cell; replace y1 := y1.below N1.below; replace hy1 := Nat.le_trans hy1 N1.below.size; replace B := below_next B N1.below; have X1 := N1.bx; have c1 := X1.cell; have f1 := X1.froz; clear N1) | fail)
 refine (auPH_is N2 M2 S2 xb mb es _ y1 z1' cd (by rw [E1.out, E2.out]; exact HC.out)).mono ?_
 rintro e w5 ⟨rfl, BB⟩
 replace X0 := X0.below BB
 replace c0 := X0.cell
 replace X1 := X1.below BB
 replace c1 := X1.cell
 replace f1 := X1.froz
 replace y1 := y1.below BB
 replace hy1 := Nat.le_trans hy1 BB.size
 replace B := below_next B BB
 clear BB
 go_wp2_with fail
 have DQ : Below w5.heap.size w5 w5.drew := (Below.refl _ _).drew
 replace X0 := X0.below DQ
 replace c0 := X0.cell
 replace X1 := X1.below DQ
 replace c1 := X1.cell
 replace f1 := X1.froz
 replace y1 := y1.below DQ
 replace hy1 := Nat.le_trans hy1 DQ.size
 replace B := below_next B DQ
 clear DQ
 refine wp_region_held_drew (S := (fun w' => (∀ k : Nat, w'.cell? ⟨b0, k, none⟩ = [.slice N.1 N.2.1 N.2.2, .slice M.1 M.2.1 M.2.2, .slice Sl.1 Sl.2.1 Sl.2.2][k]?) ∧ (∀ k : Nat, w'.cell? ⟨b1, k, none⟩ = [.slice N2.1 N2.2.1 N2.2.2, .slice M2.1 M2.2.1 M2.2.2, .slice S2.1 S2.2.1 S2.2.2][k]?))) (by kernel_rfl) ⟨c0, c1⟩ (fun hZq => ?_)
 refine tk 0 hZq ?_
 refine tk 1 hZq ?_
 refine rd1 2 (fun KK hKK => ?_)
 go_simp
 go_at_call 11
 refine (toCluster_any N M Sl xs ms es _ (x.below B) HZ).mono ?_
 rintro e v1 ⟨z9, u9, N9, M9, S9, xc, mc, rfl, _, _, y9, e1, e2, _, BB⟩
 replace X0 := X0.below BB
 replace c0 := X0.cell
 replace X1 := X1.below BB
 replace c1 := X1.cell
 replace f1 := X1.froz
 replace y1 := y1.below BB
 replace hy1 := Nat.le_trans hy1 BB.size
 replace B := below_next B BB
 clear BB
 clear hZq
 refine hKK _ _ ⟨c0, c1⟩ (fun hZq => ?_)
 clear hKK KK
 refine rd1 3 (fun KK hKK => ?_)
 go_simp
 go_at_call 13
 refine (eqCluster_yes N2 M2 S2 N9 M9 S9 xb xc mb mc es _ y1 y9 (e1.trans E1.out.symm) (e2.trans E2.out.symm) z1').mono ?_
 rintro e v2 ⟨rfl, BB⟩
 replace X0 := X0.below BB
 replace c0 := X0.cell
 replace X1 := X1.below BB
 replace c1 := X1.cell
 replace f1 := X1.froz
 replace y1 := y1.below BB
 replace hy1 := Nat.le_trans hy1 BB.size
 replace B := below_next B BB
 clear BB
 clear hZq
 refine hKK _ _ ⟨c0, c1⟩ (fun hZq => ?_)
 clear hKK KK
 refine tk 4 hZq ?_
 refine wpAnyH_done (by kernel_rfl) ?_ _
 go_wp2
 go_ret
 exact ⟨rfl, B⟩
open Go.ChangeShapes Go.WideShapes Go.ChangeAt Go.Joins
set_option maxRecDepth 100000 in
theorem liftedPrimariesHave (os : Os) (started : os.Started) (H : Type) (enc : TypeId × Value → H) :
  ReturnsInHanded {} Try.checked os 5 .any (Rows.fnExactPrimariesHaveSpec.pre6 enc Try.prog Try.f5 Rows.fnExactPrimariesHaveRow.domain false) (Rows.fnExactPrimariesHaveSpec.post enc Try.prog Try.f5 false true false false) := by
 refine returnsInHanded_of_change (C := Try.checked) Try.own started (by kernel_rfl) Try.func5
  (ChangeSpec.witness6 (enc := enc) (C := Try.checked) false ⟨#[], #[.agg #[.slice none 0 0, .slice none 0 0, .slice none 0 0]], []⟩ 8 (by kernel_rfl) (by kernel_rfl) (by kernel_rfl) (by kernel_rfl)) ?_
 intro W base args ds gs before hval0 hW hcnd _
 have hval : ∀ (j : Nat) t v, Try.f5.params[j]? = some t → args[j]? = some v → Value.okWide Try.prog W .any base t v := hval0
 have hW' := hW
 obtain ⟨p, q, hA0, hV, rfl, hfz, hnd⟩ := hW
 have hA : DataW.TrodAll enc Try.prog W 0 (fun _ => true) true Try.f5.params.toList args.toList ds p := hA0
 rw [Try.params5] at hA hval
 obtain ⟨v0, vs0, d0, ds0, p0, q0, hargs, rfl, rfl, h0, r0⟩ := trodAll_cons hA
 obtain ⟨rfl, rfl, rfl⟩ := trodAll_nil r0
 obtain rfl : args = #[v0] := by cases args; simp_all
 obtain ⟨rfl, rfl⟩ := trodVars_none hV
 have lt0 : ∀ x ∈ p0, x.block < W.heap.size := by obtain ⟨m, hm⟩ := h0; exact DataW.trod_lt m _ _ _ hm
 have k0 := h0
 obtain ⟨cN, cM, cS, cx, cm, ce, rfl, cz, cl⟩ := open_cluster Try.clTy (hval 0 26 v0 rfl rfl) h0
 clear hA0 hval0
 refine (lawPrimariesHave cN cM cS cx cm ce W cl cz).mono fun e W' ⟨he, bel⟩ => ?_
 subst he
 exact ⟨_, rfl, _, _, _, [], _, [], hW', trodAll_mk1 (shut_bool Try.underlying4 _), (trodAll_cons_mk (Below.trod Try.laidOut (by kernel_rfl) (of_decide_eq_true (by kernel_rfl)) k0 bel lt0) trodAll_mk0), rfl, bel.frame _, fun h => by cases h⟩
set_option maxRecDepth 100000 in
theorem closedPrimariesHave : joinedFacts Try.prog 5 Try.f5 Rows.fnExactPrimariesHaveSpec Rows.fnExactPrimariesHaveRow = true := by
 have q1 : (Rows.fnExactPrimariesHaveRow.inPlace == Try.prog.inPlace 5) = true := by rw [inPlace_at leads_is inp_is]; kernel_rfl
 have q2 : (Rows.fnExactPrimariesHaveRow.unfollowed == Try.prog.unfollowed 5) = true := by rw [unfollowed_at leads_is unf_is]; kernel_rfl
 have q3 : (Rows.fnExactPrimariesHaveRow.recurses == Try.prog.recurses 5) = true := (by rw [recurses_unf leads_is (by rw [unfollowed_at leads_is unf_is]; kernel_rfl)]; rfl)
 have q4 : (Rows.fnExactPrimariesHaveRow.named == Try.prog.varsNamed 5) = true := by rw [varsNamed_at leads_is var_ok ent_is]; kernel_rfl
 have q5 : (Try.prog.make == some Rows.fnExactPrimariesHaveRow.make) = true := by rw [made_cut]; rfl
 have q6 : (Rows.fnExactPrimariesHaveRow.lifted == Try.prog.liftsFinal) = true := by rw [lifts_no]; rfl
 have q7 : Try.prog.mayEnter = true := may_enter
 have q8 : laidOutB Try.prog = true := Try.laidOut
 unfold joinedFacts
 repeat' (with_reducible refine Bool.and_eq_true_iff.2 ⟨?_, ?_⟩)
 all_goals (first | with_reducible exact q1 | with_reducible exact q2 | with_reducible exact q3 | with_reducible exact q4 | with_reducible exact q5 | with_reducible exact q6 | with_reducible exact q7 | with_reducible exact q8 | (as_aux_lemma => kernel_rfl))
theorem primariesHave_holds : Rows.FnExactPrimariesHaveSaid :=
 OpenClaim.holds_of_wide 5 Try.f5 rfl rfl rfl rfl rfl rfl rfl ⟨rfl, rfl, rfl, rfl, rfl⟩ rfl rfl rfl rfl rfl (by as_aux_lemma => kernel_rfl) Try.func5 closedPrimariesHave
  (of_decide_eq_true (by as_aux_lemma => kernel_rfl)) (by unfold Func.isWrapper; first | (rw [if_pos (by decide +kernel)]; kernel_rfl) | (rw [if_neg (by decide +kernel)]; exact ⟨rfl, rfl⟩))
  (fun os started H enc _ => liftedPrimariesHave os started H enc)
#print axioms primariesHave_holds
end Go.Proofs.Ytannjgdginfgeaa
