/- At every cluster the program's LeaderOf answers as its model does and writes into no argument: the law FnExactLeaderOf is true at every argument, with no condition. -/
import Derived.Test.YtannjgdginfgeaaZA
import Derived.Test.YtannjgdginfgeaaZT
import Derived.Test.YtannjgdginfgeaaPutS
import Derived.Test.YtannjgdginfgeaaFacts
import Derived.Test.YtannjgdginfgeaaZM
import Derived.Test.YtannjgdginfgeaaYE
import Derived.Test.YtannjgdginfgeaaP1
import Derived.Test.YtannjgdginfgeaaZU
import Derived.Test.YtannjgdginfgeaaZZ
import Derived.Test.YtannjgdginfgeaaZQ
import Derived.Test.YtannjgdginfgeaaZV
import Derived.Test.YtannjgdginfgeaaYP
import Derived.Test.YtannjgdginfgeaaZO
import Derived.Test.YtannjgdginfgeaaXA
import Derived.Test.YtannjgdginfgeaaZR
import Derived.Test.YtannjgdginfgeaaBools
import Derived.Test.YtannjgdginfgeaaWA
import Derived.Test.YtannjgdginfgeaaWB
import Derived.Test.YtannjgdginfgeaaWK
import Derived.Test.YtannjgdginfgeaaXC
import Derived.Test.YtannjgdginfgeaaXI
import Derived.Test.YtannjgdginfgeaaXH
import Derived.Test.YtannjgdginfgeaaWC
import Derived.Test.YtannjgdginfgeaaWH
import Derived.Test.YtannjgdginfgeaaWQ
import Derived.Test.YtannjgdginfgeaaZC
import Derived.Test.YtannjgdginfgeaaCF0
import Derived.Test.YtannjgdginfgeaaWN
import Derived.Test.YtannjgdginfgeaaWI
import Derived.Test.YtannjgdginfgeaaZF
import Derived.Test.YtannjgdginfgeaaUA
import Derived.Test.YtannjgdginfgeaaI5a
import Derived.Test.YtannjgdginfgeaaI15
import Derived.Test.YtannjgdginfgeaaI15b
import Derived.Test.YtannjgdginfgeaaCA
import Derived.Test.YtannjgdginfgeaaCB
import Derived.Test.YtannjgdginfgeaaCC
import Derived.Test.YtannjgdginfgeaaCF4
import Derived.Test.YtannjgdginfgeaaUB
import Derived.Test.YtannjgdginfgeaaXB
import Derived.Test.YtannjgdginfgeaaWG
import Derived.Test.YtannjgdginfgeaaOpenC
import Derived.Test.YtannjgdginfgeaaRowC
import Derived.WalkKit
import Derived.WalkSpells
import Derived.Deep.Draws
import Derived.Deep.MidRow
import Derived.Test.YtannjgdginfgeaaChecked
import Derived.WalkLawsBesides
import Derived.Deep.QuietTactic
import Derived.BigQuiet
import Derived.Deep.RegionHeld3
import Derived.Deep.WholeRow
import Derived.Deep.AppendSrc
import Derived.Maps.AppendAt
import Derived.Deep.AppendLies
import Derived.Lib.AppendZeros
import Derived.Deep.RegionLaw
import Derived.Laws.ComplexArith
import Derived.Laws.StructEq
import Derived.Laws.Cover3
import Derived.Laws.Tables
import Derived.ProofKit
import Derived.OpenShut
import Derived.Lib.SmallJoins
import Derived.Deep.SlicePairs
import Derived.Test.YtannjgdginfgeaaRows
import Derived.Test.YtannjgdginfgeaaTK
import Derived.Test.YtannjgdginfgeaaTK2
set_option maxRecDepth 20000
set_option maxHeartbeats 16000000
namespace Go.Proofs.Ytannjgdginfgeaa
open Go.RowKit
section
variable (cd u : Int)
end
end Go.Proofs.Ytannjgdginfgeaa
namespace Go.Proofs.Ytannjgdginfgeaa
open Go.RowKit
end Go.Proofs.Ytannjgdginfgeaa
namespace Go.Proofs.Ytannjgdginfgeaa
open Go.RowKit
end Go.Proofs.Ytannjgdginfgeaa
namespace Go.Proofs.Ytannjgdginfgeaa
open Go.RowKit
end Go.Proofs.Ytannjgdginfgeaa
namespace Go.Proofs.Ytannjgdginfgeaa
open Go.RowKit
end Go.Proofs.Ytannjgdginfgeaa
namespace Go.Proofs.Ytannjgdginfgeaa
open Go.RowKit
end Go.Proofs.Ytannjgdginfgeaa
namespace Go.Proofs.Ytannjgdginfgeaa
open Go.RowKit
end Go.Proofs.Ytannjgdginfgeaa
namespace Go.Proofs.Ytannjgdginfgeaa
open Go.RowKit
end Go.Proofs.Ytannjgdginfgeaa
namespace Go.Proofs.Ytannjgdginfgeaa
open Go.RowKit
end Go.Proofs.Ytannjgdginfgeaa
namespace Go.Proofs.Ytannjgdginfgeaa
open Go.RowKit
end Go.Proofs.Ytannjgdginfgeaa
namespace Go.Proofs.Ytannjgdginfgeaa
open Go.RowKit
end Go.Proofs.Ytannjgdginfgeaa
namespace Go.Proofs.Ytannjgdginfgeaa
open Go.RowKit
section
variable {o : Bool} {l u : Nat} (ao : Option Addr) (n cap : Nat) (bs : List (Int × Int)) (w : World) (h : RowAt w o l u 2 ao n cap (pairs bs)) (hn : n ≤ 2097152)
include h hn
end
end Go.Proofs.Ytannjgdginfgeaa
namespace Go.Proofs.Ytannjgdginfgeaa
open Go.RowKit
end Go.Proofs.Ytannjgdginfgeaa
namespace Go.Proofs.Ytannjgdginfgeaa
open Go.RowKit
section
variable {w w' : World} {lo P : Nat} {vn : Value} {ab : Option Addr} {nb cb : Nat} {K : Nat → KS} {f : Fo}
end
end Go.Proofs.Ytannjgdginfgeaa
namespace Go.Proofs.Ytannjgdginfgeaa
open Go.RowKit
end Go.Proofs.Ytannjgdginfgeaa
namespace Go.Proofs.Ytannjgdginfgeaa
open Go.RowKit
end Go.Proofs.Ytannjgdginfgeaa
namespace Go.Proofs.Ytannjgdginfgeaa
open Go.RowKit
end Go.Proofs.Ytannjgdginfgeaa
namespace Go.Proofs.Ytannjgdginfgeaa
open Go.RowKit
end Go.Proofs.Ytannjgdginfgeaa
namespace Go.Proofs.Ytannjgdginfgeaa
open Go.RowKit
end Go.Proofs.Ytannjgdginfgeaa
namespace Go.Proofs.Ytannjgdginfgeaa
open Go.RowKit
end Go.Proofs.Ytannjgdginfgeaa
namespace Go.Proofs.Ytannjgdginfgeaa
open Go.RowKit
end Go.Proofs.Ytannjgdginfgeaa
namespace Go.Proofs.Ytannjgdginfgeaa
open Go.RowKit
end Go.Proofs.Ytannjgdginfgeaa
namespace Go.Proofs.Ytannjgdginfgeaa
open Go.RowKit
end Go.Proofs.Ytannjgdginfgeaa
namespace Go.Proofs.Ytannjgdginfgeaa
open Go.RowKit
end Go.Proofs.Ytannjgdginfgeaa
namespace Go.Proofs.Ytannjgdginfgeaa
open Go.RowKit
end Go.Proofs.Ytannjgdginfgeaa
namespace Go.Proofs.Ytannjgdginfgeaa
open Go.RowKit
end Go.Proofs.Ytannjgdginfgeaa
namespace Go.Proofs.Ytannjgdginfgeaa
open Go.RowKit
end Go.Proofs.Ytannjgdginfgeaa
namespace Go.Proofs.Ytannjgdginfgeaa
open Go.RowKit
end Go.Proofs.Ytannjgdginfgeaa
namespace Go.Proofs.Ytannjgdginfgeaa
open Go.RowKit
end Go.Proofs.Ytannjgdginfgeaa
namespace Go.Proofs.Ytannjgdginfgeaa
open Go.RowKit
end Go.Proofs.Ytannjgdginfgeaa
namespace Go.Proofs.Ytannjgdginfgeaa
open Go.RowKit
end Go.Proofs.Ytannjgdginfgeaa
namespace Go.Proofs.Ytannjgdginfgeaa
open Go.RowKit
def auLd (rs : List Rep) : Nat → Int
 | 0 => -1
 | k + 1 => if leadsB (rs.getD k rep0) = true ∧ (auLd rs k < 0 ∨ (rs.getD (auLd rs k).toNat rep0).view < (rs.getD k rep0).view) then (k : Int) else auLd rs k
theorem auLd_lt (rs : List Rep) : ∀ n, auLd rs n < n ∧ -1 ≤ auLd rs n := by
 intro n
 induction n with
 | zero => exact ⟨by show (-1 : Int) < 0; omega, by show (-1 : Int) ≤ -1; omega⟩
 | succ n ih => unfold auLd; split <;> omega
theorem auLd_yes {rs : List Rep} {k : Nat} {r : Rep} (e : rs.getD k rep0 = r) (h : leadsB r = true) {g : Int} (hg : auLd rs k = g) (hv : g < 0 ∨ (rs.getD g.toNat rep0).view < r.view) : auLd rs (k + 1) = k := by
 unfold auLd
 rw [e, hg, if_pos ⟨h, hv⟩]
theorem auLd_no {rs : List Rep} {k : Nat} {r : Rep} (e : rs.getD k rep0 = r) {g : Int} (hg : auLd rs k = g) (h : leadsB r = false ∨ ¬ (g < 0 ∨ (rs.getD g.toNat rep0).view < r.view)) : auLd rs (k + 1) = g := by
 unfold auLd
 rw [e, hg, if_neg]
 rintro ⟨z1, z2⟩
 rcases h with h | h
 ·rw [h] at z1; cases z1
 ·exact h z2
end Go.Proofs.Ytannjgdginfgeaa
namespace Go.Proofs.Ytannjgdginfgeaa
open Go.RowKit
def auLC (cd g : Int) : Int := if cd = 0 then (if g < 0 then 4 else 0) else cd
def auLV (cd g : Int) : Int := if cd = 0 then (if g < 0 then 0 else g) else 0
def auVw (rs : List Rep) (g : Int) : Int := if g < 0 then -1 else (rs.getD g.toNat rep0).view
theorem auVw_lt {rs : List Rep} {g v : Int} (hv : 0 ≤ v) : (g < 0 ∨ (rs.getD g.toNat rep0).view < v) ↔ auVw rs g < v := by
 unfold auVw
 by_cases h : g < 0
 ·rw [if_pos h]; exact ⟨fun _ => by omega, fun _ => Or.inl h⟩
 ·rw [if_neg h]; exact ⟨fun z => z.resolve_left h, Or.inr⟩
theorem auVw_at {rs : List Rep} {k : Nat} {r : Rep} (e : rs.getD k rep0 = r) : auVw rs (k : Int) = r.view := by
 unfold auVw
 rw [if_neg (by omega), Int.toNat_natCast, e]
theorem auLeader_is {own : Bool} {lo hi : Nat} (N M Sl : Hd) (xs : List Nod) (ms : List Mal) (es : List En) (w : World) (x : ClAt w own lo hi N M Sl xs ms es) (hs : ClSz N M Sl xs ms 1048576) (c v : Int) (hc : auLC (cluF (xs.map (·.1)) (ms.map (·.1)) es) (auLd (xs.map (·.1)) (xs.map (·.1)).length) = c) (hv : auLV (cluF (xs.map (·.1)) (ms.map (·.1)) es) (auLd (xs.map (·.1)) (xs.map (·.1)).length) = v) :
  Calls Try.prog 19 #[.agg #[.slice N.1 N.2.1 N.2.2, .slice M.1 M.2.1 M.2.2, .slice Sl.1 Sl.2.1 Sl.2.2]] w fun e w' => e = .returned (.agg #[.int .i64 c, .int .i64 v]) ∧ Below w.heap.size w w' := by
 obtain ⟨⟨ao, n, cap⟩, hN⟩ : ∃ q : Hd, N = q := ⟨N, rfl⟩
 subst hN
 have hl : (xs.map (·.1)).length = n := by simpa using x.nodes.len
 obtain ⟨cd, hcd⟩ : ∃ cd, cluF (xs.map (·.1)) (ms.map (·.1)) es = cd := ⟨_, rfl⟩
 have HCD : Hid _ := hcd
 have hn := hs.n
 have HS : Hid _ := hs
 have Hx : Hid _ := x
 obtain ⟨rs, hrs⟩ : ∃ rs, (xs.map (·.1)) = rs := ⟨_, rfl⟩
 have HR : Hid (∀ (i : Nat) (a : Nod), xs[i]? = some a → rs.getD i rep0 = a.1) := fun i a e => by rw [← hrs]; exact mapD e
 rw [hcd, hrs] at hc hv
 rw [hrs] at hl
 rw [hl] at hc hv
 have HC : Hid _ := hc
 have HV : Hid _ := hv
 clear hc hv hcd hrs hl hs x
 simp only at hn ⊢
 go_enter Try.func19, Try.ntmps19
 go_wp2_with (first | ((have g := ob0); clear g; (with_reducible refine alloc_newX 38 [.int .i64 0, .int .i64 0] (fun _ => by kernel_rfl) ?_); intro b1 W1 N1; have ob1 := Nat.le_trans B.size N1.ge; have o0_b1 := ltl X0.lt N1.ge; replace X0 := X0.below N1.below; replace c0 := X0.cell; replace B := below_next B N1.below; have X1 := N1.bx; have c1 := X1.cell; have f1 := X1.froz; clear N1) | ((with_reducible refine box_newX 33 [.slice ao n cap, .slice M.1 M.2.1 M.2.2, .slice Sl.1 Sl.2.1 Sl.2.2] rfl ?_); intro b0 W0 N0; have ob0 := N0.ge; have B := N0.below; have X0 := N0.bx; have c0 := X0.cell; clear N0) | fail)
 refine (implClF_is (ao, n, cap) M Sl xs ms es _ (Hx.out.below B) HS.out cd HCD.out).mono ?_
 rintro e w1 ⟨rfl, BB⟩
 replace X0 := X0.below BB
 replace c0 := X0.cell
 replace X1 := X1.below BB
 replace c1 := X1.cell
 replace f1 := X1.froz
 replace B := below_next B BB
 clear BB
 by_cases h0 : cd = 0
 rotate_left 1
 ·have h0' : (cd != 0) = true := by simp [h0]
  obtain rfl : c = cd := by rw [← HC.out]; unfold auLC; rw [if_neg h0]
  obtain rfl : v = 0 := by rw [← HV.out]; unfold auLV; rw [if_neg h0]
  clear HC HV
  go_wp2_with (first | ((with_reducible refine store_midX 38 X1 0 [.int .i64 c, .int .i64 0] (by simp) (by kernel_rfl) (by simp [Value.oneCell']) rfl rfl ?_); intro V1 S; replace X0 := X0.kp S.kept; replace c0 := X0.cell; replace X1 : Bx V1 b1 [.int .i64 c, .int .i64 0] := S.bx; replace c1 := X1.cell; replace f1 := X1.froz; replace B := bkp B S.kept; clear S))
  refine bodyPost_ret (v := .agg #[.int .i64 c, .int .i64 0]) (by simp [results, Try.results19, go_sem, *]) rfl ⟨rfl, B⟩
 subst h0
 have HRt : Hid _ := auRight Hx.out HCD.out
 go_wp2_with fail
 have HX0 : Hid _ := X0
 have HX1 : Hid _ := X1
 have HB : Hid _ := B
 have lB := X1.lt
 clear X0 c0 X1 c1 f1 B
 go_loopw [4, 5, 17] (fun a bb i wr => ∃ (k : Nat) (g : Int), k ≤ n ∧ a = .int .i64 (auVw rs g) ∧ bb = .int .i64 g ∧ i = .int .i64 k ∧ Hid (auLd rs k = g) ∧ Below w1.heap.size w1 wr) (fun _ _ i _ => n - (intOf i).toNat)
 case atStart => exact ⟨0, -1, Nat.zero_le _, rfl, rfl, rfl, rfl, Below.refl _ _⟩
 case round =>
  obtain ⟨k, g, hk, rfl, rfl, rfl, H0, hb⟩ := hrel
  have hbb := below_next HB.out hb
  have X1 := HX1.out.below hb
  have c1 := X1.cell
  have f1 := X1.froz
  have ob1 : b1 < wr.heap.size := X1.lt
  by_cases hlt : k < n
  ·clear X1 c1 f1
   have hlk : (k : Int) < (n : Int) := by omega
   obtain ⟨r, h, b, off, ex, rfl, _, _, XN, y, _⟩ := LAt.node (NAt.below Hx.out.nodes hbb) (i := k) (by show _ < n; omega)
   have cN := XN.cell
   have HE : Hid (rs.getD k rep0 = r) := HR.out k _ ex
   have hrt := HRt.out.2 k r h ex
   have hsz := hrt.2.1
   have hvw := hrt.2.2.1
   have hid : Hid (r.id = (k : Int)) := hrt.2.2.2
   clear ex hrt y
   obtain ⟨d1, hd1⟩ : ∃ q, leadsB r = q := ⟨_, rfl⟩
   have HD1 : Hid _ := hd1
   clear hd1
   go_wp2_with (first | ((with_reducible refine store_midX 64 X2 0 [.int .i64 r.id, .int .i64 r.size, .int .i64 r.view, .bool r.normal, .int .i64 r.last, .slice h.L.1 h.L.2.1 h.L.2.2, .int .i64 r.commit, .slice h.O.1 h.O.2.1 h.O.2.2, .slice h.A.1 h.A.2.1 h.A.2.2, .slice h.D.1 h.D.2.1 h.D.2.2] (by simp) (by kernel_rfl) (by simp [Value.oneCell']) rfl rfl ?_); intro V1 S; replace X2 : Bx V1 b2 [.int .i64 r.id, .int .i64 r.size, .int .i64 r.view, .bool r.normal, .int .i64 r.last, .slice h.L.1 h.L.2.1 h.L.2.2, .int .i64 r.commit, .slice h.O.1 h.O.2.1 h.O.2.2, .slice h.A.1 h.A.2.1 h.A.2.2, .slice h.D.1 h.D.2.1 h.D.2.2] := S.bx; replace c2 := X2.cell; replace f2 := X2.froz; replace B := bkp B S.kept; clear S) | ((have g := ob1); clear g; (with_reducible refine alloc_newX 64 [.int .i64 0, .int .i64 0, .int .i64 0, .bool false, .int .i64 0, .slice none 0 0, .int .i64 0, .slice none 0 0, .slice none 0 0, .slice none 0 0] (fun _ => by kernel_rfl) ?_); intro b2 W2 N2; have ob2 := N2.ge; have B := N2.below; have X2 := N2.bx; have c2 := X2.cell; have f2 := X2.froz; clear N2) | fail)
   clear XN cN
   refine (leads_is' r h hsz hvw _ d1 HD1.out).mono ?_
   rintro e w2 ⟨rfl, BB⟩
   replace X2 := X2.below BB
   replace c2 := X2.cell
   replace f2 := X2.froz
   replace B := below_next B BB
   clear BB
   cases d1 with
   | false =>
    have HN : Hid _ := auLd_no HE.out H0.out (Or.inl HD1.out)
    have HBq : Hid _ := below_next hb B
    clear hb
    go_wp2
    go_roundw
    case rel => exact ⟨k + 1, _, by omega, rfl, rfl, by go_num, HN, HBq.out⟩
    case measure => simp [intOf]; omega
   | true =>
    by_cases q0 : auVw rs g < r.view
    rotate_left 1
    ·have q0' : decide (auVw rs g < r.view) = false := decide_eq_false q0
     have HN : Hid _ := auLd_no HE.out H0.out (Or.inr fun z => q0 ((auVw_lt (by omega)).1 z))
     have HBq : Hid _ := below_next hb B
     clear hb
     go_wp2
     go_roundw
     case rel => exact ⟨k + 1, _, by omega, rfl, rfl, by go_num, HN, HBq.out⟩
     case measure => simp [intOf]; omega
    have q0' : decide (auVw rs g < r.view) = true := decide_eq_true q0
    have HN : Hid (auLd rs (k + 1) = (k : Int)) := auLd_yes HE.out HD1.out H0.out ((auVw_lt (by omega)).2 q0)
    have HVW : Hid (auVw rs (k : Int) = r.view) := auVw_at HE.out
    rw [hid.out] at c2
    clear X2
    go_wp2_with fail
    go_quiet (fail)
    have DQ : Below w2.heap.size w2 (w2.drewN nq) := below_drewN (Below.refl _ _) nq
    replace B := below_next B DQ
    clear DQ
    generalize w2.drewN nq = w3 at *
    have HBq : Hid _ := below_next hb B
    clear hb
    go_wp2
    go_roundw
    case rel => exact ⟨k + 1, _, by omega, by rw [HVW.out], rfl, by go_num, HN, HBq.out⟩
    case measure => simp [intOf]; omega
  ·obtain rfl : k = n := by omega
   have hc2 := HC.out
   have hv2 := HV.out
   unfold auLC at hc2
   unfold auLV at hv2
   rw [if_pos rfl, H0.out] at hc2 hv2
   by_cases q0 : g < 0
   ·rw [if_pos q0] at hc2 hv2
    subst hc2 hv2
    clear HC HV
    have B : Below w.heap.size w wr := hbb
    go_wp2_with (first | ((with_reducible refine store_midX 38 X1 0 [.int .i64 4, .int .i64 0] (by simp) (by kernel_rfl) (by simp [Value.oneCell']) rfl rfl ?_); intro V1 S; replace X1 : Bx V1 b1 [.int .i64 4, .int .i64 0] := S.bx; replace c1 := X1.cell; replace f1 := X1.froz; replace B := bkp B S.kept; clear S))
    refine bodyPost_ret (v := .agg #[.int .i64 4, .int .i64 0]) (by simp [results, Try.results19, go_sem, *]) rfl ⟨rfl, B⟩
   ·rw [if_neg q0] at hc2 hv2
    subst hc2 hv2
    clear HC HV
    have B : Below w.heap.size w wr := hbb
    go_wp2_with (first | ((with_reducible refine store_midX 38 X1 0 [.int .i64 0, .int .i64 g] (by simp) (by kernel_rfl) (by simp [Value.oneCell']) rfl rfl ?_); intro V1 S; replace X1 : Bx V1 b1 [.int .i64 0, .int .i64 g] := S.bx; replace c1 := X1.cell; replace f1 := X1.froz; replace B := bkp B S.kept; clear S))
    refine bodyPost_ret (v := .agg #[.int .i64 0, .int .i64 g]) (by simp [results, Try.results19, go_sem, *]) rfl ⟨rfl, B⟩
end Go.Proofs.Ytannjgdginfgeaa
namespace Go.Proofs.Ytannjgdginfgeaa
open Go.RowKit
end Go.Proofs.Ytannjgdginfgeaa
namespace Go.Proofs.Ytannjgdginfgeaa
open Go.RowKit
end Go.Proofs.Ytannjgdginfgeaa
namespace Go.Proofs.Ytannjgdginfgeaa
open Go.RowKit
theorem auMLeader_is {own : Bool} {lo hi : Nat} (N M Sl : Hd) (xs : List Nod) (ms : List Mal) (es : List En) (w : World) (x : ClAt w own lo hi N M Sl xs ms es) (hs : ClSz N M Sl xs ms 1048576) (c v : Int) (hc : auLC (cluF (xs.map (·.1)) (ms.map (·.1)) es) (auLd (xs.map (·.1)) (xs.map (·.1)).length) = c) (hv : auLV (cluF (xs.map (·.1)) (ms.map (·.1)) es) (auLd (xs.map (·.1)) (xs.map (·.1)).length) = v) :
  Calls Try.prog 18 #[.agg #[.slice N.1 N.2.1 N.2.2, .slice M.1 M.2.1 M.2.2, .slice Sl.1 Sl.2.1 Sl.2.2]] w fun e w' => e = .returned (.agg #[.int .i64 c, .int .i64 v]) ∧ Below w.heap.size w w' := by
 obtain ⟨⟨ao, n, cap⟩, hN⟩ : ∃ q : Hd, N = q := ⟨N, rfl⟩
 subst hN
 have hl : (xs.map (·.1)).length = n := by simpa using x.nodes.len
 obtain ⟨cd, hcd⟩ : ∃ cd, cluF (xs.map (·.1)) (ms.map (·.1)) es = cd := ⟨_, rfl⟩
 have HCD : Hid _ := hcd
 have hn := hs.n
 have HS : Hid _ := hs
 have Hx : Hid _ := x
 obtain ⟨rs, hrs⟩ : ∃ rs, (xs.map (·.1)) = rs := ⟨_, rfl⟩
 have HR : Hid (∀ (i : Nat) (a : Nod), xs[i]? = some a → rs.getD i rep0 = a.1) := fun i a e => by rw [← hrs]; exact mapD e
 rw [hcd, hrs] at hc hv
 rw [hrs] at hl
 rw [hl] at hc hv
 have HC : Hid _ := hc
 have HV : Hid _ := hv
 clear hc hv hcd hrs hl hs x
 simp only at hn ⊢
 go_enter Try.func18, Try.ntmps18
 go_wp2_with (first | ((have g := ob0); clear g; (with_reducible refine alloc_newX 38 [.int .i64 0, .int .i64 0] (fun _ => by kernel_rfl) ?_); intro b1 W1 N1; have ob1 := Nat.le_trans B.size N1.ge; have o0_b1 := ltl X0.lt N1.ge; replace X0 := X0.below N1.below; replace c0 := X0.cell; replace B := below_next B N1.below; have X1 := N1.bx; have c1 := X1.cell; have f1 := X1.froz; clear N1) | ((with_reducible refine box_newX 33 [.slice ao n cap, .slice M.1 M.2.1 M.2.2, .slice Sl.1 Sl.2.1 Sl.2.2] rfl ?_); intro b0 W0 N0; have ob0 := N0.ge; have B := N0.below; have X0 := N0.bx; have c0 := X0.cell; clear N0) | fail)
 refine (l11Fault_is b0 (ao, n, cap) M Sl xs ms es _ X0 (Hx.out.below B) HS.out cd HCD.out).mono ?_
 rintro e w1 ⟨rfl, BB⟩
 replace X0 := X0.below BB
 replace c0 := X0.cell
 replace X1 := X1.below BB
 replace c1 := X1.cell
 replace f1 := X1.froz
 replace B := below_next B BB
 clear BB
 by_cases h0 : cd = 0
 rotate_left 1
 ·have h0' : (cd != 0) = true := by simp [h0]
  obtain rfl : c = cd := by rw [← HC.out]; unfold auLC; rw [if_neg h0]
  obtain rfl : v = 0 := by rw [← HV.out]; unfold auLV; rw [if_neg h0]
  clear HC HV
  go_wp2_with (first | ((with_reducible refine store_midX 38 X1 0 [.int .i64 c, .int .i64 0] (by simp) (by kernel_rfl) (by simp [Value.oneCell']) rfl rfl ?_); intro V1 S; replace X0 := X0.kp S.kept; replace c0 := X0.cell; replace X1 : Bx V1 b1 [.int .i64 c, .int .i64 0] := S.bx; replace c1 := X1.cell; replace f1 := X1.froz; replace B := bkp B S.kept; clear S))
  refine bodyPost_ret (v := .agg #[.int .i64 c, .int .i64 0]) (by simp [results, Try.results18, go_sem, *]) rfl ⟨rfl, B⟩
 subst h0
 have HRt : Hid _ := auRight Hx.out HCD.out
 go_wp2_with fail
 have HX0 : Hid _ := X0
 have HX1 : Hid _ := X1
 have HB : Hid _ := B
 have l01 : b0 < w1.heap.size := X0.lt
 clear X0 c0 X1 c1 f1 B
 go_loopw [4, 5] (fun bb i wr => ∃ (k : Nat) (g : Int), k ≤ n ∧ bb = .int .i64 g ∧ i = .int .i64 k ∧ Hid (auLd rs k = g) ∧ Below w1.heap.size w1 wr) (fun _ i _ => n - (intOf i).toNat)
 case atStart => exact ⟨0, -1, Nat.zero_le _, rfl, rfl, rfl, Below.refl _ _⟩
 case round =>
  obtain ⟨k, g, hk, rfl, rfl, H0, hq⟩ := hrel
  have hb := below_next HB.out hq
  have X0 := HX0.out.below hq
  have c0 := X0.cell
  by_cases hlt : k < n
  ·have hlk : (k : Int) < (n : Int) := by omega
   have hlow := auLd_lt rs k
   rw [H0.out] at hlow
   obtain ⟨r, h, b, off, ex, rfl, _, _, XN, y, _⟩ := LAt.node (NAt.below Hx.out.nodes hb) (i := k) (by show _ < n; omega)
   have cN := XN.cell
   have HE : Hid (rs.getD k rep0 = r) := HR.out k _ ex
   have hrt := HRt.out.2 k r h ex
   have hsz := hrt.2.1
   have hvw := hrt.2.2.1
   clear ex hrt y
   obtain ⟨nm, hnm⟩ : ∃ q, r.normal = q := ⟨_, rfl⟩
   obtain ⟨pr, hpr⟩ : ∃ q, (r.view % r.size == r.id) = q := ⟨_, rfl⟩
   have HPr : Hid _ := hpr
   have HLd : Hid (leadsB r = (nm && pr)) := by show _ = _; unfold leadsB; rw [hnm, hpr]
   rw [hnm] at XN
   have cN := XN.cell
   clear hnm hpr
   cases nm with
   | false =>
    go_wp2_with fail
    have DQ : Below wr.heap.size wr wr.drew := (Below.refl _ _).drew
    replace X0 := X0.below DQ
    replace c0 := X0.cell
    replace XN := XN.below DQ
    replace cN := XN.cell
    replace hq := below_next hq DQ
    replace hb := below_next hb DQ
    clear DQ
    refine wp_region_held_drew (S := (fun w' => (∀ k_2 : Nat, w'.cell? ⟨b0, k_2, none⟩ = [.slice (some ⟨b, off, none⟩) n cap, .slice M.1 M.2.1 M.2.2, .slice Sl.1 Sl.2.1 Sl.2.2][k_2]?) ∧ (w'.cell? ⟨b, off + k * 10, none⟩ = [.int .i64 r.id, .int .i64 r.size, .int .i64 r.view, .bool false, .int .i64 r.last, .slice h.L.1 h.L.2.1 h.L.2.2, .int .i64 r.commit, .slice h.O.1 h.O.2.1 h.O.2.2, .slice h.A.1 h.A.2.1 h.A.2.2, .slice h.D.1 h.D.2.1 h.D.2.2][0]? ∧ ∀ k_1 : Nat, k_1 < 10 → w'.cell? ⟨b, off + k * 10 + k_1, none⟩ = [.int .i64 r.id, .int .i64 r.size, .int .i64 r.view, .bool false, .int .i64 r.last, .slice h.L.1 h.L.2.1 h.L.2.2, .int .i64 r.commit, .slice h.O.1 h.O.2.1 h.O.2.2, .slice h.A.1 h.A.2.1 h.A.2.2, .slice h.D.1 h.D.2.1 h.D.2.2][k_1]?))) (by kernel_rfl) ⟨c0, cN⟩ (fun hZq => ?_)
    refine tk 0 hZq ?_
    refine tk 1 hZq ?_
    refine tk 2 hZq ?_
    refine tk 3 hZq ?_
    refine tk 4 hZq ?_
    refine tk 5 hZq ?_
    refine tk 6 hZq ?_
    refine tks 7 hZq ?_
    refine tks 8 hZq ?_
    refine tks 9 hZq ?_
    refine tks 10 hZq ?_
    refine tks 11 hZq ?_
    refine tk 12 hZq ?_
    refine tk 13 hZq ?_
    refine tks 14 hZq ?_
    refine tks 15 hZq ?_
    refine tks 16 hZq ?_
    refine tks 17 hZq ?_
    refine tks 18 hZq ?_
    refine tks 19 hZq ?_
    refine tks 20 hZq ?_
    refine tks 21 hZq ?_
    refine tks 22 hZq ?_
    refine tks 23 hZq ?_
    refine tks 24 hZq ?_
    refine tks 25 hZq ?_
    refine tks 26 hZq ?_
    refine tks 27 hZq ?_
    refine tks 28 hZq ?_
    refine tks 29 hZq ?_
    refine tks 30 hZq ?_
    refine tk 31 hZq ?_
    refine wpAnyH_done (by kernel_rfl) ?_ _
    have HN : Hid _ := auLd_no HE.out H0.out (Or.inl HLd.out)
    have HBq : Hid _ := hq
    clear hb hq
    go_wp2
    go_roundw
    case rel => exact ⟨k + 1, _, by omega, rfl, by go_num, HN, HBq.out⟩
    case measure => simp [intOf]; omega
   | true =>
    cases pr with
    | false =>
     go_wp2_with fail
     have DQ : Below wr.heap.size wr wr.drew := (Below.refl _ _).drew
     replace X0 := X0.below DQ
     replace c0 := X0.cell
     replace XN := XN.below DQ
     replace cN := XN.cell
     replace hq := below_next hq DQ
     replace hb := below_next hb DQ
     clear DQ
     refine wp_region_held_drew (S := (fun w' => (∀ k_2 : Nat, w'.cell? ⟨b0, k_2, none⟩ = [.slice (some ⟨b, off, none⟩) n cap, .slice M.1 M.2.1 M.2.2, .slice Sl.1 Sl.2.1 Sl.2.2][k_2]?) ∧ (w'.cell? ⟨b, off + k * 10, none⟩ = [.int .i64 r.id, .int .i64 r.size, .int .i64 r.view, .bool true, .int .i64 r.last, .slice h.L.1 h.L.2.1 h.L.2.2, .int .i64 r.commit, .slice h.O.1 h.O.2.1 h.O.2.2, .slice h.A.1 h.A.2.1 h.A.2.2, .slice h.D.1 h.D.2.1 h.D.2.2][0]? ∧ ∀ k_1 : Nat, k_1 < 10 → w'.cell? ⟨b, off + k * 10 + k_1, none⟩ = [.int .i64 r.id, .int .i64 r.size, .int .i64 r.view, .bool true, .int .i64 r.last, .slice h.L.1 h.L.2.1 h.L.2.2, .int .i64 r.commit, .slice h.O.1 h.O.2.1 h.O.2.2, .slice h.A.1 h.A.2.1 h.A.2.2, .slice h.D.1 h.D.2.1 h.D.2.2][k_1]?))) (by kernel_rfl) ⟨c0, cN⟩ (fun hZq => ?_)
     refine tk 0 hZq ?_
     refine tk 1 hZq ?_
     refine tk 2 hZq ?_
     refine tk 3 hZq ?_
     refine tk 4 hZq ?_
     refine tk 5 hZq ?_
     refine tk 6 hZq ?_
     refine tk 7 hZq ?_
     refine tk 8 hZq ?_
     refine tk 9 hZq ?_
     refine tk 10 hZq ?_
     refine rd1 11 (fun KK hKK => ?_)
     go_simp
     go_at_call 46
     refine (l9PrimaryO_is b (off + k * 10) r.id r.size r.view true r.last h.L r.commit h.O h.A h.D hsz hvw _ XN).mono ?_
     rintro e w2 ⟨rfl, BB⟩
     rw [HPr.out]
     replace X0 := X0.below BB
     replace c0 := X0.cell
     replace XN := XN.below BB
     replace cN := XN.cell
     replace hq := below_next hq BB
     replace hb := below_next hb BB
     clear BB
     clear hZq
     refine hKK _ _ ⟨c0, cN⟩ (fun hZq => ?_)
     clear hKK KK
     refine tk 12 hZq ?_
     refine tk 13 hZq ?_
     refine tks 14 hZq ?_
     refine tks 15 hZq ?_
     refine tks 16 hZq ?_
     refine tks 17 hZq ?_
     refine tks 18 hZq ?_
     refine tks 19 hZq ?_
     refine tks 20 hZq ?_
     refine tks 21 hZq ?_
     refine tks 22 hZq ?_
     refine tks 23 hZq ?_
     refine tks 24 hZq ?_
     refine tks 25 hZq ?_
     refine tks 26 hZq ?_
     refine tks 27 hZq ?_
     refine tks 28 hZq ?_
     refine tks 29 hZq ?_
     refine tks 30 hZq ?_
     refine tk 31 hZq ?_
     refine wpAnyH_done (by kernel_rfl) ?_ _
     have HN : Hid _ := auLd_no HE.out H0.out (Or.inl HLd.out)
     have HBq : Hid _ := hq
     clear hb hq
     go_wp2
     go_roundw
     case rel => exact ⟨k + 1, _, by omega, rfl, by go_num, HN, HBq.out⟩
     case measure => simp [intOf]; omega
    | true =>
     by_cases q0 : g < 0
     ·have Q0 : Hid _ := q0
      go_wp2_with fail
      have DQ : Below wr.heap.size wr wr.drew := (Below.refl _ _).drew
      replace X0 := X0.below DQ
      replace c0 := X0.cell
      replace XN := XN.below DQ
      replace cN := XN.cell
      replace hq := below_next hq DQ
      replace hb := below_next hb DQ
      clear DQ
      refine wp_region_held_drew (S := (fun w' => (∀ k_2 : Nat, w'.cell? ⟨b0, k_2, none⟩ = [.slice (some ⟨b, off, none⟩) n cap, .slice M.1 M.2.1 M.2.2, .slice Sl.1 Sl.2.1 Sl.2.2][k_2]?) ∧ (w'.cell? ⟨b, off + k * 10, none⟩ = [.int .i64 r.id, .int .i64 r.size, .int .i64 r.view, .bool true, .int .i64 r.last, .slice h.L.1 h.L.2.1 h.L.2.2, .int .i64 r.commit, .slice h.O.1 h.O.2.1 h.O.2.2, .slice h.A.1 h.A.2.1 h.A.2.2, .slice h.D.1 h.D.2.1 h.D.2.2][0]? ∧ ∀ k_1 : Nat, k_1 < 10 → w'.cell? ⟨b, off + k * 10 + k_1, none⟩ = [.int .i64 r.id, .int .i64 r.size, .int .i64 r.view, .bool true, .int .i64 r.last, .slice h.L.1 h.L.2.1 h.L.2.2, .int .i64 r.commit, .slice h.O.1 h.O.2.1 h.O.2.2, .slice h.A.1 h.A.2.1 h.A.2.2, .slice h.D.1 h.D.2.1 h.D.2.2][k_1]?))) (by kernel_rfl) ⟨c0, cN⟩ (fun hZq => ?_)
      refine tk 0 hZq ?_
      refine tk 1 hZq ?_
      refine tk 2 hZq ?_
      refine tk 3 hZq ?_
      refine tk 4 hZq ?_
      refine tk 5 hZq ?_
      refine tk 6 hZq ?_
      refine tk 7 hZq ?_
      refine tk 8 hZq ?_
      refine tk 9 hZq ?_
      refine tk 10 hZq ?_
      refine rd1 11 (fun KK hKK => ?_)
      go_simp
      go_at_call 46
      refine (l9PrimaryO_is b (off + k * 10) r.id r.size r.view true r.last h.L r.commit h.O h.A h.D hsz hvw _ XN).mono ?_
      rintro e w2 ⟨rfl, BB⟩
      rw [HPr.out]
      replace X0 := X0.below BB
      replace c0 := X0.cell
      replace XN := XN.below BB
      replace cN := XN.cell
      replace hq := below_next hq BB
      replace hb := below_next hb BB
      clear BB
      clear hZq
      refine hKK _ _ ⟨c0, cN⟩ (fun hZq => ?_)
      clear hKK KK
      refine tk 12 hZq ?_
      refine tk 13 hZq ?_
      refine tk 14 hZq ?_
      refine tk 15 hZq ?_
      refine tk 16 hZq ?_
      refine tks 17 hZq ?_
      refine tks 18 hZq ?_
      refine tks 19 hZq ?_
      refine tks 20 hZq ?_
      refine tks 21 hZq ?_
      refine tks 22 hZq ?_
      refine tks 23 hZq ?_
      refine tks 24 hZq ?_
      refine tks 25 hZq ?_
      refine tks 26 hZq ?_
      refine tks 27 hZq ?_
      refine tks 28 hZq ?_
      refine tks 29 hZq ?_
      refine tk 30 hZq ?_
      refine tk 31 hZq ?_
      refine wpAnyH_done (by kernel_rfl) ?_ _
      have HN : Hid _ := auLd_yes HE.out HLd.out H0.out (Or.inl Q0.out)
      have HBq : Hid _ := hq
      clear hb hq
      go_wp2
      go_roundw
      case rel => exact ⟨k + 1, _, by omega, rfl, by go_num, HN, HBq.out⟩
      case measure => simp [intOf]; omega
     obtain ⟨m, rfl⟩ : ∃ m : Nat, g = (m : Int) := ⟨g.toNat, by omega⟩
     have hmn : m < n := by omega
     have hmi : (m : Int) < (n : Int) := by omega
     have hm0 : (0 : Int) ≤ (m : Int) := by omega
     have q0' : decide ((m : Int) < 0) = false := decide_eq_false q0
     obtain ⟨r2, h2, b', off', ex2, eN, _, _, XN2, y2, _⟩ := LAt.node (NAt.below Hx.out.nodes hb) (i := m) (by show _ < n; omega)
     simp only [Option.some.injEq, Addr.mk.injEq, and_true] at eN
     obtain ⟨rfl, rfl⟩ := eN
     have cN2 := XN2.cell
     have HE2 : Hid ((rs.getD (m : Int).toNat rep0).view = r2.view) := by show _ = _; rw [Int.toNat_natCast, HR.out m _ ex2]
     clear ex2 y2
     by_cases q1 : r2.view < r.view
     ·have Q1 : Hid _ := q1
      have q1' : decide (r2.view < r.view) = true := decide_eq_true q1
      go_wp2_with fail
      have DQ : Below wr.heap.size wr wr.drew := (Below.refl _ _).drew
      replace X0 := X0.below DQ
      replace c0 := X0.cell
      replace XN := XN.below DQ
      replace cN := XN.cell
      replace XN2 := XN2.below DQ
      replace cN2 := XN2.cell
      replace hq := below_next hq DQ
      replace hb := below_next hb DQ
      clear DQ
      refine wp_region_held_drew (S := (fun w' => (∀ k_2 : Nat, w'.cell? ⟨b0, k_2, none⟩ = [.slice (some ⟨b, off, none⟩) n cap, .slice M.1 M.2.1 M.2.2, .slice Sl.1 Sl.2.1 Sl.2.2][k_2]?) ∧ (w'.cell? ⟨b, off + k * 10, none⟩ = [.int .i64 r.id, .int .i64 r.size, .int .i64 r.view, .bool true, .int .i64 r.last, .slice h.L.1 h.L.2.1 h.L.2.2, .int .i64 r.commit, .slice h.O.1 h.O.2.1 h.O.2.2, .slice h.A.1 h.A.2.1 h.A.2.2, .slice h.D.1 h.D.2.1 h.D.2.2][0]? ∧ ∀ k_1 : Nat, k_1 < 10 → w'.cell? ⟨b, off + k * 10 + k_1, none⟩ = [.int .i64 r.id, .int .i64 r.size, .int .i64 r.view, .bool true, .int .i64 r.last, .slice h.L.1 h.L.2.1 h.L.2.2, .int .i64 r.commit, .slice h.O.1 h.O.2.1 h.O.2.2, .slice h.A.1 h.A.2.1 h.A.2.2, .slice h.D.1 h.D.2.1 h.D.2.2][k_1]?) ∧ (w'.cell? ⟨b, off + m * 10, none⟩ = [.int .i64 r2.id, .int .i64 r2.size, .int .i64 r2.view, .bool r2.normal, .int .i64 r2.last, .slice h2.L.1 h2.L.2.1 h2.L.2.2, .int .i64 r2.commit, .slice h2.O.1 h2.O.2.1 h2.O.2.2, .slice h2.A.1 h2.A.2.1 h2.A.2.2, .slice h2.D.1 h2.D.2.1 h2.D.2.2][0]? ∧ ∀ k_1 : Nat, k_1 < 10 → w'.cell? ⟨b, off + m * 10 + k_1, none⟩ = [.int .i64 r2.id, .int .i64 r2.size, .int .i64 r2.view, .bool r2.normal, .int .i64 r2.last, .slice h2.L.1 h2.L.2.1 h2.L.2.2, .int .i64 r2.commit, .slice h2.O.1 h2.O.2.1 h2.O.2.2, .slice h2.A.1 h2.A.2.1 h2.A.2.2, .slice h2.D.1 h2.D.2.1 h2.D.2.2][k_1]?))) (by kernel_rfl) ⟨c0, cN, cN2⟩ (fun hZq => ?_)
      refine tk 0 hZq ?_
      refine tk 1 hZq ?_
      refine tk 2 hZq ?_
      refine tk 3 hZq ?_
      refine tk 4 hZq ?_
      refine tk 5 hZq ?_
      refine tk 6 hZq ?_
      refine tk 7 hZq ?_
      refine tk 8 hZq ?_
      refine tk 9 hZq ?_
      refine tk 10 hZq ?_
      refine rd1 11 (fun KK hKK => ?_)
      go_simp
      go_at_call 46
      refine (l9PrimaryO_is b (off + k * 10) r.id r.size r.view true r.last h.L r.commit h.O h.A h.D hsz hvw _ XN).mono ?_
      rintro e w2 ⟨rfl, BB⟩
      rw [HPr.out]
      replace X0 := X0.below BB
      replace c0 := X0.cell
      replace XN := XN.below BB
      replace cN := XN.cell
      replace XN2 := XN2.below BB
      replace cN2 := XN2.cell
      replace hq := below_next hq BB
      replace hb := below_next hb BB
      clear BB
      clear hZq
      refine hKK _ _ ⟨c0, cN, cN2⟩ (fun hZq => ?_)
      clear hKK KK
      refine tk 12 hZq ?_
      refine tk 13 hZq ?_
      refine tk 14 hZq ?_
      refine tk 15 hZq ?_
      refine tk 16 hZq ?_
      refine tk 17 hZq ?_
      refine tk 18 hZq ?_
      refine tk 19 hZq ?_
      refine tk 20 hZq ?_
      refine tk 21 hZq ?_
      refine tk 22 hZq ?_
      refine tk 23 hZq ?_
      refine tk 24 hZq ?_
      refine tk 25 hZq ?_
      refine tk 26 hZq ?_
      refine tk 27 hZq ?_
      refine tk 28 hZq ?_
      refine tk 29 hZq ?_
      refine tk 30 hZq ?_
      refine tk 31 hZq ?_
      refine wpAnyH_done (by kernel_rfl) ?_ _
      have HN : Hid _ := auLd_yes HE.out HLd.out H0.out (Or.inr (by rw [HE2.out]; exact Q1.out))
      have HBq : Hid _ := hq
      clear hb hq
      go_wp2
      go_roundw
      case rel => exact ⟨k + 1, _, by omega, rfl, by go_num, HN, HBq.out⟩
      case measure => simp [intOf]; omega
     ·have Q1 : Hid _ := q1
      have q1' : decide (r2.view < r.view) = false := decide_eq_false q1
      go_wp2_with fail
      have DQ : Below wr.heap.size wr wr.drew := (Below.refl _ _).drew
      replace X0 := X0.below DQ
      replace c0 := X0.cell
      replace XN := XN.below DQ
      replace cN := XN.cell
      replace XN2 := XN2.below DQ
      replace cN2 := XN2.cell
      replace hq := below_next hq DQ
      replace hb := below_next hb DQ
      clear DQ
      refine wp_region_held_drew (S := (fun w' => (∀ k_2 : Nat, w'.cell? ⟨b0, k_2, none⟩ = [.slice (some ⟨b, off, none⟩) n cap, .slice M.1 M.2.1 M.2.2, .slice Sl.1 Sl.2.1 Sl.2.2][k_2]?) ∧ (w'.cell? ⟨b, off + k * 10, none⟩ = [.int .i64 r.id, .int .i64 r.size, .int .i64 r.view, .bool true, .int .i64 r.last, .slice h.L.1 h.L.2.1 h.L.2.2, .int .i64 r.commit, .slice h.O.1 h.O.2.1 h.O.2.2, .slice h.A.1 h.A.2.1 h.A.2.2, .slice h.D.1 h.D.2.1 h.D.2.2][0]? ∧ ∀ k_1 : Nat, k_1 < 10 → w'.cell? ⟨b, off + k * 10 + k_1, none⟩ = [.int .i64 r.id, .int .i64 r.size, .int .i64 r.view, .bool true, .int .i64 r.last, .slice h.L.1 h.L.2.1 h.L.2.2, .int .i64 r.commit, .slice h.O.1 h.O.2.1 h.O.2.2, .slice h.A.1 h.A.2.1 h.A.2.2, .slice h.D.1 h.D.2.1 h.D.2.2][k_1]?) ∧ (w'.cell? ⟨b, off + m * 10, none⟩ = [.int .i64 r2.id, .int .i64 r2.size, .int .i64 r2.view, .bool r2.normal, .int .i64 r2.last, .slice h2.L.1 h2.L.2.1 h2.L.2.2, .int .i64 r2.commit, .slice h2.O.1 h2.O.2.1 h2.O.2.2, .slice h2.A.1 h2.A.2.1 h2.A.2.2, .slice h2.D.1 h2.D.2.1 h2.D.2.2][0]? ∧ ∀ k_1 : Nat, k_1 < 10 → w'.cell? ⟨b, off + m * 10 + k_1, none⟩ = [.int .i64 r2.id, .int .i64 r2.size, .int .i64 r2.view, .bool r2.normal, .int .i64 r2.last, .slice h2.L.1 h2.L.2.1 h2.L.2.2, .int .i64 r2.commit, .slice h2.O.1 h2.O.2.1 h2.O.2.2, .slice h2.A.1 h2.A.2.1 h2.A.2.2, .slice h2.D.1 h2.D.2.1 h2.D.2.2][k_1]?))) (by kernel_rfl) ⟨c0, cN, cN2⟩ (fun hZq => ?_)
      refine tk 0 hZq ?_
      refine tk 1 hZq ?_
      refine tk 2 hZq ?_
      refine tk 3 hZq ?_
      refine tk 4 hZq ?_
      refine tk 5 hZq ?_
      refine tk 6 hZq ?_
      refine tk 7 hZq ?_
      refine tk 8 hZq ?_
      refine tk 9 hZq ?_
      refine tk 10 hZq ?_
      refine rd1 11 (fun KK hKK => ?_)
      go_simp
      go_at_call 46
      refine (l9PrimaryO_is b (off + k * 10) r.id r.size r.view true r.last h.L r.commit h.O h.A h.D hsz hvw _ XN).mono ?_
      rintro e w2 ⟨rfl, BB⟩
      rw [HPr.out]
      replace X0 := X0.below BB
      replace c0 := X0.cell
      replace XN := XN.below BB
      replace cN := XN.cell
      replace XN2 := XN2.below BB
      replace cN2 := XN2.cell
      replace hq := below_next hq BB
      replace hb := below_next hb BB
      clear BB
      clear hZq
      refine hKK _ _ ⟨c0, cN, cN2⟩ (fun hZq => ?_)
      clear hKK KK
      refine tk 12 hZq ?_
      refine tk 13 hZq ?_
      refine tk 14 hZq ?_
      refine tk 15 hZq ?_
      refine tk 16 hZq ?_
      refine tk 17 hZq ?_
      refine tk 18 hZq ?_
      refine tk 19 hZq ?_
      refine tk 20 hZq ?_
      refine tk 21 hZq ?_
      refine tk 22 hZq ?_
      refine tk 23 hZq ?_
      refine tk 24 hZq ?_
      refine tk 25 hZq ?_
      refine tk 26 hZq ?_
      refine tk 27 hZq ?_
      refine tk 28 hZq ?_
      refine tk 29 hZq ?_
      refine tk 30 hZq ?_
      refine tk 31 hZq ?_
      refine wpAnyH_done (by kernel_rfl) ?_ _
      have HN : Hid _ := auLd_no HE.out H0.out (Or.inr (fun z => z.elim (fun z => by omega) (fun z => Q1.out (by rw [HE2.out] at z; exact z))))
      have HBq : Hid _ := hq
      clear hb hq
      go_wp2
      go_roundw
      case rel => exact ⟨k + 1, _, by omega, rfl, by go_num, HN, HBq.out⟩
      case measure => simp [intOf]; omega
  ·have X1 := HX1.out.below hq
   have c1 := X1.cell
   have f1 := X1.froz
   obtain rfl : k = n := by omega
   have hc2 := HC.out
   have hv2 := HV.out
   unfold auLC at hc2
   unfold auLV at hv2
   rw [if_pos rfl, H0.out] at hc2 hv2
   by_cases q0 : g < 0
   ·rw [if_pos q0] at hc2 hv2
    subst hc2 hv2
    clear HC HV
    have B : Below w.heap.size w wr := hb
    have ob1 : b1 < wr.heap.size := X1.lt
    go_wp2_with (first | ((with_reducible refine store_midX 38 X1 0 [.int .i64 4, .int .i64 0] (by simp) (by kernel_rfl) (by simp [Value.oneCell']) rfl rfl ?_); intro V1 S; replace X1 : Bx V1 b1 [.int .i64 4, .int .i64 0] := S.bx; replace c1 := X1.cell; replace f1 := X1.froz; replace B := bkp B S.kept; clear S))
    refine bodyPost_ret (v := .agg #[.int .i64 4, .int .i64 0]) (by simp [results, Try.results18, go_sem, *]) rfl ⟨rfl, B⟩
   ·rw [if_neg q0] at hc2 hv2
    subst hc2 hv2
    clear HC HV
    have B : Below w.heap.size w wr := hb
    have ob1 : b1 < wr.heap.size := X1.lt
    go_wp2_with (first | ((with_reducible refine store_midX 38 X1 0 [.int .i64 0, .int .i64 g] (by simp) (by kernel_rfl) (by simp [Value.oneCell']) rfl rfl ?_); intro V1 S; replace X1 : Bx V1 b1 [.int .i64 0, .int .i64 g] := S.bx; replace c1 := X1.cell; replace f1 := X1.froz; replace B := bkp B S.kept; clear S))
    refine bodyPost_ret (v := .agg #[.int .i64 0, .int .i64 g]) (by simp [results, Try.results18, go_sem, *]) rfl ⟨rfl, B⟩
end Go.Proofs.Ytannjgdginfgeaa
namespace Go.Proofs.Ytannjgdginfgeaa
open Go.RowKit
theorem eqNRes_yes (c v : Int) (w : World) :
  Calls Try.prog 20 #[.agg #[.int .i64 c, .int .i64 v], .agg #[.int .i64 c, .int .i64 v]] w fun e w' => e = .returned (.bool true) ∧ Below w.heap.size w w' := by
 have he : (c != c) = false := by simp
 have hv : (v != v) = false := by simp
 go_enter Try.func20, Try.ntmps20
 go_wp2
 go_ret
 exact ⟨rfl, ((Below.refl _ _).alloc (Nat.le_refl _) _).alloc (by simp) _⟩
end Go.Proofs.Ytannjgdginfgeaa
namespace Go.Proofs.Ytannjgdginfgeaa
open Go.RowKit
theorem lawLeaderOf {own : Bool} (N M Sl : Hd) (xs : List Nod) (ms : List Mal) (es : List En) (w : World) (x : ClAt w own 0 w.heap.size N M Sl xs ms es) (hs : ClSz N M Sl xs ms maxLen) : Calls Try.prog 6 #[.agg #[.slice N.1 N.2.1 N.2.2, .slice M.1 M.2.1 M.2.2, .slice Sl.1 Sl.2.1 Sl.2.2]] w fun e w' => e = .returned (.bool true) ∧ Below w.heap.size w w' := by
 obtain ⟨c, hc⟩ : ∃ c, auLC (cluF (xs.map (·.1)) (ms.map (·.1)) es) (auLd (xs.map (·.1)) (xs.map (·.1)).length) = c := ⟨_, rfl⟩
 obtain ⟨v, hv⟩ : ∃ v, auLV (cluF (xs.map (·.1)) (ms.map (·.1)) es) (auLd (xs.map (·.1)) (xs.map (·.1)).length) = v := ⟨_, rfl⟩
 have HC : Hid _ := hc
 have HV : Hid _ := hv
 clear hc hv
 go_enter Try.func6, Try.ntmps6
 go_wp2_with (first | ((with_reducible refine box_newX 26 [.slice N.1 N.2.1 N.2.2, .slice M.1 M.2.1 M.2.2, .slice Sl.1 Sl.2.1 Sl.2.2] rfl ?_); intro b0 W0 N0; have ob0 := N0.ge; have B := N0.below; have X0 := N0.bx; have c0 := X0.cell; clear N0) | fail)
 refine (szCluster_lt N M Sl xs ms es _ (x.below B) hs).mono ?_
 rintro e w1 ⟨q, rfl, BB, hq⟩
 replace X0 := X0.below BB
 replace c0 := X0.cell
 replace B := below_next B BB
 clear BB
 rcases hq with hq | ⟨hq0, hq1, HZ⟩
 ·go_wp2
  go_ret
  exact ⟨rfl, B⟩
 have hq' : ¬ q < 0 := by omega
 clear hq0 hq1
 go_wp2_with fail
 refine (toCluster_any N M Sl xs ms es _ (x.below B) HZ).mono ?_
 rintro e w2 ⟨z1, u1, N1, M1, S1, xa, ma, rfl, _, _, y1, e1, e2, z1', BB⟩
 replace X0 := X0.below BB
 replace c0 := X0.cell
 replace B := below_next B BB
 clear BB
 go_wp2_with fail
 refine (auMLeader_is N1 M1 S1 xa ma es _ y1 z1' c v (by rw [e1, e2]; exact HC.out) (by rw [e1, e2]; exact HV.out)).mono ?_
 rintro e w3 ⟨rfl, BB⟩
 replace X0 := X0.below BB
 replace c0 := X0.cell
 replace B := below_next B BB
 clear BB
 clear y1 z1' e1 e2
 go_wp2_with (first | ((with_reducible refine store_midX 38 X1 0 [.int .i64 c, .int .i64 v] (by simp) (by kernel_rfl) (by simp [Value.oneCell']) rfl rfl ?_); intro V1 S; replace X0 := X0.kp S.kept; replace c0 := X0.cell; replace X1 : Bx V1 b1 [.int .i64 c, .int .i64 v] := S.bx; replace c1 := X1.cell; replace f1 := X1.froz; replace B := bkp B S.kept; clear S) | ((have g := ob0); clear g; (with_reducible refine alloc_newX 38 [.int .i64 0, .int .i64 0] (fun _ => by kernel_rfl) ?_); intro b1 W1 N1; have ob1 := Nat.le_trans B.size N1.ge; have o0_b1 := ltl X0.lt N1.ge; replace X0 := X0.below N1.below; replace c0 := X0.cell; replace B := below_next B N1.below; have X1 := N1.bx; have c1 := X1.cell; have f1 := X1.froz; clear N1) | fail)
 refine (toCluster_any N M Sl xs ms es _ (x.below B) HZ).mono ?_
 rintro e w4 ⟨zY, uY, N2, M2, S2, xb, mb, rfl, GzY, hy1, y1, e1, e2, z1', BB⟩
 have ozY : w.heap.size ≤ zY := Nat.le_trans B.size GzY
 have o0_zY := ltl X0.lt GzY
 have o1_zY := ltl X1.lt GzY
 clear GzY
 replace X0 := X0.below BB
 replace c0 := X0.cell
 replace X1 := X1.below BB
 replace c1 := X1.cell
 replace f1 := X1.froz
 replace B := below_next B BB
 have E1 : Hid _ := e1
 have E2 : Hid _ := e2
 clear e1 e2
 clear BB
 go_wp2_with (first | ((with_reducible refine store_midX 33 X2 0 [.slice N2.1 N2.2.1 N2.2.2, .slice M2.1 M2.2.1 M2.2.2, .slice S2.1 S2.2.1 S2.2.2] (by simp) (by kernel_rfl) (by simp [Value.oneCell']) rfl rfl ?_); intro V2 S; replace X0 := X0.kp S.kept; replace c0 := X0.cell; replace X1 := X1.kp S.kept; replace c1 := X1.cell; replace f1 := X1.froz; replace X2 : Bx V2 b2 [.slice N2.1 N2.2.1 N2.2.2, .slice M2.1 M2.2.1 M2.2.2, .slice S2.1 S2.2.1 S2.2.2] := S.bx; replace c2 := X2.cell; replace f2 := X2.froz; replace y1 := y1.kept S.kept (by omega); replace hy1 := Nat.le_trans hy1 S.kept.size; replace B := bkp B S.kept; clear S) | ((have g := ob1); clear g; (with_reducible refine alloc_newX 33 [.slice none 0 0, .slice none 0 0, .slice none 0 0] (fun _ => by kernel_rfl) ?_); intro b2 W2 N2; have ob2 := Nat.le_trans B.size N2.ge; have o0_b2 := ltl X0.lt N2.ge; have o1_b2 := ltl X1.lt N2.ge; have oy1_b2 : uY ≤ b2 := Nat.le_trans hy1 N2.ge; replace X0 := X0.below N2.below; replace c0 := X0.cell; replace X1 := X1.below N2.below; replace c1 := X1.cell; replace f1 := X1.froz; replace y1 := y1.below N2.below; replace hy1 := Nat.le_trans hy1 N2.below.size; replace B := below_next B N2.below; have X2 := N2.bx; have c2 := X2.cell; have f2 := X2.froz; clear N2) | fail)
 refine (auLeader_is N2 M2 S2 xb mb es _ y1 z1' c v (by rw [E1.out, E2.out]; exact HC.out) (by rw [E1.out, E2.out]; exact HV.out)).mono ?_
 rintro e w5 ⟨rfl, BB⟩
 replace X0 := X0.below BB
 replace c0 := X0.cell
 replace X1 := X1.below BB
 replace c1 := X1.cell
 replace f1 := X1.froz
 replace X2 := X2.below BB
 replace c2 := X2.cell
 replace f2 := X2.froz
 replace y1 := y1.below BB
 replace hy1 := Nat.le_trans hy1 BB.size
 replace B := below_next B BB
 clear BB
 go_wp2_with (first | ((with_reducible refine store_midX 38 X3 0 [.int .i64 c, .int .i64 v] (by simp) (by kernel_rfl) (by simp [Value.oneCell']) rfl rfl ?_); intro V3 S; replace X0 := X0.kp S.kept; replace c0 := X0.cell; replace X1 := X1.kp S.kept; replace c1 := X1.cell; replace f1 := X1.froz; replace X2 := X2.kp S.kept; replace c2 := X2.cell; replace f2 := X2.froz; replace X3 : Bx V3 b3 [.int .i64 c, .int .i64 v] := S.bx; replace c3 := X3.cell; replace f3 := X3.froz; replace y1 := y1.kept S.kept (by omega); replace hy1 := Nat.le_trans hy1 S.kept.size; replace B := bkp B S.kept; clear S) | ((have g := ob2); clear g; (with_reducible refine alloc_newX 38 [.int .i64 0, .int .i64 0] (fun _ => by kernel_rfl) ?_); intro b3 W3 N3; have ob3 := Nat.le_trans B.size N3.ge; have o0_b3 := ltl X0.lt N3.ge; have o1_b3 := ltl X1.lt N3.ge; have o2_b3 := ltl X2.lt N3.ge; have oy1_b3 : uY ≤ b3 := Nat.le_trans hy1 N3.ge; replace X0 := X0.below N3.below; replace c0 := X0.cell; replace X1 := X1.below N3.below; replace c1 := X1.cell; replace f1 := X1.froz; replace X2 := X2.below N3.below; replace c2 := X2.cell; replace f2 := X2.froz; replace y1 := y1.below N3.below; replace hy1 := Nat.le_trans hy1 N3.below.size; replace B := below_next B N3.below; have X3 := N3.bx; have c3 := X3.cell; have f3 := X3.froz; clear N3) | fail)
 refine (eqNRes_yes c v _).mono ?_
 rintro e w6 ⟨rfl, BB⟩
 replace X0 := X0.below BB
 replace c0 := X0.cell
 replace X1 := X1.below BB
 replace c1 := X1.cell
 replace f1 := X1.froz
 replace X2 := X2.below BB
 replace c2 := X2.cell
 replace f2 := X2.froz
 replace X3 := X3.below BB
 replace c3 := X3.cell
 replace f3 := X3.froz
 replace y1 := y1.below BB
 replace hy1 := Nat.le_trans hy1 BB.size
 replace B := below_next B BB
 clear BB
 go_wp2_with fail
 have DQ : Below w6.heap.size w6 w6.drew := (Below.refl _ _).drew
 replace X0 := X0.below DQ
 replace c0 := X0.cell
 replace X1 := X1.below DQ
 replace c1 := X1.cell
 replace f1 := X1.froz
 replace X2 := X2.below DQ
 replace c2 := X2.cell
 replace f2 := X2.froz
 replace X3 := X3.below DQ
 replace c3 := X3.cell
 replace f3 := X3.froz
 replace y1 := y1.below DQ
 replace hy1 := Nat.le_trans hy1 DQ.size
 replace B := below_next B DQ
 clear DQ
 refine wp_region_held_drew (S := (fun w' => (∀ k : Nat, w'.cell? ⟨b0, k, none⟩ = [.slice N.1 N.2.1 N.2.2, .slice M.1 M.2.1 M.2.2, .slice Sl.1 Sl.2.1 Sl.2.2][k]?) ∧ (∀ k : Nat, w'.cell? ⟨b2, k, none⟩ = [.slice N2.1 N2.2.1 N2.2.2, .slice M2.1 M2.2.1 M2.2.2, .slice S2.1 S2.2.1 S2.2.2][k]?))) (by kernel_rfl) ⟨c0, c2⟩ (fun hZq => ?_)
 refine tk 0 hZq ?_
 refine tk 1 hZq ?_
 refine rd1 2 (fun KK hKK => ?_)
 go_simp
 go_at_call 11
 refine (toCluster_any N M Sl xs ms es _ (x.below B) HZ).mono ?_
 rintro e v1 ⟨z9, u9, N9, M9, S9, xc, mc, rfl, _, _, y9, e1, e2, _, BB⟩
 replace X0 := X0.below BB
 replace c0 := X0.cell
 replace X1 := X1.below BB
 replace c1 := X1.cell
 replace f1 := X1.froz
 replace X2 := X2.below BB
 replace c2 := X2.cell
 replace f2 := X2.froz
 replace X3 := X3.below BB
 replace c3 := X3.cell
 replace f3 := X3.froz
 replace y1 := y1.below BB
 replace hy1 := Nat.le_trans hy1 BB.size
 replace B := below_next B BB
 clear BB
 clear hZq
 refine hKK _ _ ⟨c0, c2⟩ (fun hZq => ?_)
 clear hKK KK
 refine rd1 3 (fun KK hKK => ?_)
 go_simp
 go_at_call 13
 refine (eqCluster_yes N2 M2 S2 N9 M9 S9 xb xc mb mc es _ y1 y9 (e1.trans E1.out.symm) (e2.trans E2.out.symm) z1').mono ?_
 rintro e v2 ⟨rfl, BB⟩
 replace X0 := X0.below BB
 replace c0 := X0.cell
 replace X1 := X1.below BB
 replace c1 := X1.cell
 replace f1 := X1.froz
 replace X2 := X2.below BB
 replace c2 := X2.cell
 replace f2 := X2.froz
 replace X3 := X3.below BB
 replace c3 := X3.cell
 replace f3 := X3.froz
 replace y1 := y1.below BB
 replace hy1 := Nat.le_trans hy1 BB.size
 replace B := below_next B BB
 clear BB
 clear hZq
 refine hKK _ _ ⟨c0, c2⟩ (fun hZq => ?_)
 clear hKK KK
 refine tk 4 hZq ?_
 refine wpAnyH_done (by kernel_rfl) ?_ _
 go_wp2
 go_ret
 exact ⟨rfl, B⟩
open Go.ChangeShapes Go.WideShapes Go.ChangeAt Go.Joins
set_option maxRecDepth 100000 in
theorem liftedLeaderOf (os : Os) (started : os.Started) (H : Type) (enc : TypeId × Value → H) :
  ReturnsInHanded {} Try.checked os 6 .any (Rows.fnExactLeaderOfSpec.pre6 enc Try.prog Try.f6 Rows.fnExactLeaderOfRow.domain false) (Rows.fnExactLeaderOfSpec.post enc Try.prog Try.f6 false true false false) := by
 refine returnsInHanded_of_change (C := Try.checked) Try.own started (by kernel_rfl) Try.func6
  (ChangeSpec.witness6 (enc := enc) (C := Try.checked) false ⟨#[], #[.agg #[.slice none 0 0, .slice none 0 0, .slice none 0 0]], []⟩ 8 (by kernel_rfl) (by kernel_rfl) (by kernel_rfl) (by kernel_rfl)) ?_
 intro W base args ds gs before hval0 hW hcnd _
 have hval : ∀ (j : Nat) t v, Try.f6.params[j]? = some t → args[j]? = some v → Value.okWide Try.prog W .any base t v := hval0
 have hW' := hW
 obtain ⟨p, q, hA0, hV, rfl, hfz, hnd⟩ := hW
 have hA : DataW.TrodAll enc Try.prog W 0 (fun _ => true) true Try.f6.params.toList args.toList ds p := hA0
 rw [Try.params6] at hA hval
 obtain ⟨v0, vs0, d0, ds0, p0, q0, hargs, rfl, rfl, h0, r0⟩ := trodAll_cons hA
 obtain ⟨rfl, rfl, rfl⟩ := trodAll_nil r0
 obtain rfl : args = #[v0] := by cases args; simp_all
 obtain ⟨rfl, rfl⟩ := trodVars_none hV
 have lt0 : ∀ x ∈ p0, x.block < W.heap.size := by obtain ⟨m, hm⟩ := h0; exact DataW.trod_lt m _ _ _ hm
 have k0 := h0
 obtain ⟨cN, cM, cS, cx, cm, ce, rfl, cz, cl⟩ := open_cluster Try.clTy (hval 0 26 v0 rfl rfl) h0
 clear hA0 hval0
 refine (lawLeaderOf cN cM cS cx cm ce W cl cz).mono fun e W' ⟨he, bel⟩ => ?_
 subst he
 exact ⟨_, rfl, _, _, _, [], _, [], hW', trodAll_mk1 (shut_bool Try.underlying4 _), (trodAll_cons_mk (Below.trod Try.laidOut (by kernel_rfl) (of_decide_eq_true (by kernel_rfl)) k0 bel lt0) trodAll_mk0), rfl, bel.frame _, fun h => by cases h⟩
set_option maxRecDepth 100000 in
theorem closedLeaderOf : joinedFacts Try.prog 6 Try.f6 Rows.fnExactLeaderOfSpec Rows.fnExactLeaderOfRow = true := by
 have q1 : (Rows.fnExactLeaderOfRow.inPlace == Try.prog.inPlace 6) = true := by rw [inPlace_at leads_is inp_is]; kernel_rfl
 have q2 : (Rows.fnExactLeaderOfRow.unfollowed == Try.prog.unfollowed 6) = true := by rw [unfollowed_at leads_is unf_is]; kernel_rfl
 have q3 : (Rows.fnExactLeaderOfRow.recurses == Try.prog.recurses 6) = true := (by rw [recurses_unf leads_is (by rw [unfollowed_at leads_is unf_is]; kernel_rfl)]; rfl)
 have q4 : (Rows.fnExactLeaderOfRow.named == Try.prog.varsNamed 6) = true := by rw [varsNamed_at leads_is var_ok ent_is]; kernel_rfl
 have q5 : (Try.prog.make == some Rows.fnExactLeaderOfRow.make) = true := by rw [made_cut]; rfl
 have q6 : (Rows.fnExactLeaderOfRow.lifted == Try.prog.liftsFinal) = true := by rw [lifts_no]; rfl
 have q7 : Try.prog.mayEnter = true := may_enter
 have q8 : laidOutB Try.prog = true := Try.laidOut
 unfold joinedFacts
 repeat' (with_reducible refine Bool.and_eq_true_iff.2 ⟨?_, ?_⟩)
 all_goals (first | with_reducible exact q1 | with_reducible exact q2 | with_reducible exact q3 | with_reducible exact q4 | with_reducible exact q5 | with_reducible exact q6 | with_reducible exact q7 | with_reducible exact q8 | (as_aux_lemma => kernel_rfl))
theorem leaderOf_holds : Rows.FnExactLeaderOfSaid :=
 OpenClaim.holds_of_wide 6 Try.f6 rfl rfl rfl rfl rfl rfl rfl ⟨rfl, rfl, rfl, rfl, rfl⟩ rfl rfl rfl rfl rfl (by as_aux_lemma => kernel_rfl) Try.func6 closedLeaderOf
  (of_decide_eq_true (by as_aux_lemma => kernel_rfl)) (by unfold Func.isWrapper; first | (rw [if_pos (by decide +kernel)]; kernel_rfl) | (rw [if_neg (by decide +kernel)]; exact ⟨rfl, rfl⟩))
  (fun os started H enc _ => liftedLeaderOf os started H enc)
#print axioms leaderOf_holds
end Go.Proofs.Ytannjgdginfgeaa
