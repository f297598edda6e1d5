/- Chapter 13: LeaderOf of the program. -/
import Derived.Test.YtgldocaohcoleaaGreatQAFN
import Derived.Test.YtgldocaohcoleaaGreatUAN
import Derived.Test.YtgldocaohcoleaaGreatQABN
import Derived.Test.YtgldocaohcoleaaGreatQAJN
set_option maxRecDepth 20000
set_option maxHeartbeats 16000000
namespace Go.Proofs.YtgldocaohcoleaaGreat
open Go.RowKit
def auLC (cd g : Int) : Int := if cd = 0 then (if g < 0 then 4 else 0) else cd
def auLV (cd g : Int) : Int := if cd = 0 then (if g < 0 then 0 else g) else 0
def auVw (rs : List Rep) (g : Int) : Int := if g < 0 then -1 else (rs.getD g.toNat rep0).view
theorem auVw_lt {rs : List Rep} {g v : Int} (hv : 0 ≤ v) : (g < 0 ∨ (rs.getD g.toNat rep0).view < v) ↔ auVw rs g < v := by
 unfold auVw
 by_cases h : g < 0
 ·rw [if_pos h]; exact ⟨fun _ => by omega, fun _ => Or.inl h⟩
 ·rw [if_neg h]; exact ⟨fun z => z.resolve_left h, Or.inr⟩
theorem auVw_at {rs : List Rep} {k : Nat} {r : Rep} (e : rs.getD k rep0 = r) : auVw rs (k : Int) = r.view := by
 unfold auVw
 rw [if_neg (by omega), Int.toNat_natCast, e]
theorem auLeader_is {own : Bool} {lo hi : Nat} (N M Sl : Hd) (xs : List Nod) (ms : List Mal) (es : List En) (w : World) (x : ClAt w own lo hi N M Sl xs ms es) (hs : ClSz N M Sl xs ms 1048576) (c v : Int) (hc : auLC (cluF (xs.map (·.1)) (ms.map (·.1)) es) (auLd (xs.map (·.1)) (xs.map (·.1)).length) = c) (hv : auLV (cluF (xs.map (·.1)) (ms.map (·.1)) es) (auLd (xs.map (·.1)) (xs.map (·.1)).length) = v) :
  Calls Tryz.prog 36 #[.agg #[.slice N.1 N.2.1 N.2.2, .slice M.1 M.2.1 M.2.2, .slice Sl.1 Sl.2.1 Sl.2.2]] w fun e w' => e = .returned (.agg #[.int .i64 c, .int .i64 v]) ∧ Below w.heap.size w w' := by
 obtain ⟨⟨ao, n, cap⟩, hN⟩ : ∃ q : Hd, N = q := ⟨N, rfl⟩
 subst hN
 have hl : (xs.map (·.1)).length = n := by simpa using x.nodes.len
 obtain ⟨cd, hcd⟩ : ∃ cd, cluF (xs.map (·.1)) (ms.map (·.1)) es = cd := ⟨_, rfl⟩
 have HCD : Hid _ := hcd
 have hn := hs.n
 have HS : Hid _ := hs
 have Hx : Hid _ := x
 obtain ⟨rs, hrs⟩ : ∃ rs, (xs.map (·.1)) = rs := ⟨_, rfl⟩
 have HR : Hid (∀ (i : Nat) (a : Nod), xs[i]? = some a → rs.getD i rep0 = a.1) := fun i a e => by rw [← hrs]; exact mapD e
 rw [hcd, hrs] at hc hv
 rw [hrs] at hl
 rw [hl] at hc hv
 have HC : Hid _ := hc
 have HV : Hid _ := hv
 clear hc hv hcd hrs hl hs x
 simp only at hn ⊢
 go_enter Tryz.func36, Tryz.ntmps36
 go_wp2_with (first | ((have g := ob0); clear g; (with_reducible refine alloc_newX 57 [.int .i64 0, .int .i64 0] (fun _ => by kernel_rfl) ?_); intro b1 W1 N1; have ob1 := Nat.le_trans B.size N1.ge; have o0_b1 := ltl X0.lt N1.ge; replace X0 := X0.below N1.below; replace c0 := X0.cell; replace B := below_next B N1.below; have X1 := N1.bx; have c1 := X1.cell; have f1 := X1.froz; clear N1) | ((with_reducible refine box_newX 32 [.slice ao n cap, .slice M.1 M.2.1 M.2.2, .slice Sl.1 Sl.2.1 Sl.2.2] rfl ?_); intro b0 W0 N0; have ob0 := N0.ge; have B := N0.below; have X0 := N0.bx; have c0 := X0.cell; clear N0) | fail)
 refine (implClF_is (ao, n, cap) M Sl xs ms es _ (Hx.out.below B) HS.out cd HCD.out).mono ?_
 rintro e w1 ⟨rfl, BB⟩
 replace X0 := X0.below BB
 replace c0 := X0.cell
 replace X1 := X1.below BB
 replace c1 := X1.cell
 replace f1 := X1.froz
 replace B := below_next B BB
 clear BB
 by_cases h0 : cd = 0
 rotate_left 1
 ·have h0' : (cd != 0) = true := by simp [h0]
  obtain rfl : c = cd := by rw [← HC.out]; unfold auLC; rw [if_neg h0]
  obtain rfl : v = 0 := by rw [← HV.out]; unfold auLV; rw [if_neg h0]
  clear HC HV
  go_wp2_with (first | ((with_reducible refine store_midX 57 X1 0 [.int .i64 c, .int .i64 0] (by simp) (by kernel_rfl) (by simp [Value.oneCell']) rfl rfl ?_); intro V1 S; replace X0 := X0.kp S.kept; replace c0 := X0.cell; replace X1 : Bx V1 b1 [.int .i64 c, .int .i64 0] := S.bx; replace c1 := X1.cell; replace f1 := X1.froz; replace B := bkp B S.kept; clear S))
  refine bodyPost_ret (v := .agg #[.int .i64 c, .int .i64 0]) (by simp [results, Tryz.results36, go_sem, *]) rfl ⟨rfl, B⟩
 subst h0
 have HRt : Hid _ := auRight Hx.out HCD.out
 go_wp2_with fail
 have HX0 : Hid _ := X0
 have HX1 : Hid _ := X1
 have HB : Hid _ := B
 have lB := X1.lt
 clear X0 c0 X1 c1 f1 B
 go_loopw [4, 5, 17] (fun a bb i wr => ∃ (k : Nat) (g : Int), k ≤ n ∧ a = .int .i64 (auVw rs g) ∧ bb = .int .i64 g ∧ i = .int .i64 k ∧ Hid (auLd rs k = g) ∧ Below w1.heap.size w1 wr) (fun _ _ i _ => n - (intOf i).toNat)
 case atStart => exact ⟨0, -1, Nat.zero_le _, rfl, rfl, rfl, rfl, Below.refl _ _⟩
 case round =>
  obtain ⟨k, g, hk, rfl, rfl, rfl, H0, hb⟩ := hrel
  have hbb := below_next HB.out hb
  have X1 := HX1.out.below hb
  have c1 := X1.cell
  have f1 := X1.froz
  have ob1 : b1 < wr.heap.size := X1.lt
  by_cases hlt : k < n
  ·clear X1 c1 f1
   have hlk : (k : Int) < (n : Int) := by omega
   obtain ⟨r, h, b, off, ex, rfl, _, _, XN, y, _⟩ := LAt.node (NAt.below Hx.out.nodes hbb) (i := k) (by show _ < n; omega)
   have cN := XN.cell
   have HE : Hid (rs.getD k rep0 = r) := HR.out k _ ex
   have hrt := HRt.out.2 k r h ex
   have hsz := hrt.2.1
   have hvw := hrt.2.2.1
   have hid : Hid (r.id = (k : Int)) := hrt.2.2.2
   clear ex hrt y
   obtain ⟨d1, hd1⟩ : ∃ q, leadsB r = q := ⟨_, rfl⟩
   have HD1 : Hid _ := hd1
   clear hd1
   go_wp2_with (first | ((with_reducible refine store_midX 65 X2 0 [.int .i64 r.id, .int .i64 r.size, .int .i64 r.view, .bool r.normal, .int .i64 r.last, .slice h.L.1 h.L.2.1 h.L.2.2, .int .i64 r.commit, .slice h.O.1 h.O.2.1 h.O.2.2, .slice h.A.1 h.A.2.1 h.A.2.2, .slice h.D.1 h.D.2.1 h.D.2.2] (by simp) (by kernel_rfl) (by simp [Value.oneCell']) rfl rfl ?_); intro V1 S; replace X2 : Bx V1 b2 [.int .i64 r.id, .int .i64 r.size, .int .i64 r.view, .bool r.normal, .int .i64 r.last, .slice h.L.1 h.L.2.1 h.L.2.2, .int .i64 r.commit, .slice h.O.1 h.O.2.1 h.O.2.2, .slice h.A.1 h.A.2.1 h.A.2.2, .slice h.D.1 h.D.2.1 h.D.2.2] := S.bx; replace c2 := X2.cell; replace f2 := X2.froz; replace B := bkp B S.kept; clear S) | ((have g := ob1); clear g; (with_reducible refine alloc_newX 65 [.int .i64 0, .int .i64 0, .int .i64 0, .bool false, .int .i64 0, .slice none 0 0, .int .i64 0, .slice none 0 0, .slice none 0 0, .slice none 0 0] (fun _ => by kernel_rfl) ?_); intro b2 W2 N2; have ob2 := N2.ge; have B := N2.below; have X2 := N2.bx; have c2 := X2.cell; have f2 := X2.froz; clear N2) | fail)
   clear XN cN
   refine (leads_is' r h hsz hvw _ d1 HD1.out).mono ?_
   rintro e w2 ⟨rfl, BB⟩
   replace X2 := X2.below BB
   replace c2 := X2.cell
   replace f2 := X2.froz
   replace B := below_next B BB
   clear BB
   cases d1 with
   | false =>
    have HN : Hid _ := auLd_no HE.out H0.out (Or.inl HD1.out)
    have HBq : Hid _ := below_next hb B
    clear hb
    go_wp2
    go_roundw
    case rel => exact ⟨k + 1, _, by omega, rfl, rfl, by go_num, HN, HBq.out⟩
    case measure => simp [intOf]; omega
   | true =>
    by_cases q0 : auVw rs g < r.view
    rotate_left 1
    ·have q0' : decide (auVw rs g < r.view) = false := decide_eq_false q0
     have HN : Hid _ := auLd_no HE.out H0.out (Or.inr fun z => q0 ((auVw_lt (by omega)).1 z))
     have HBq : Hid _ := below_next hb B
     clear hb
     go_wp2
     go_roundw
     case rel => exact ⟨k + 1, _, by omega, rfl, rfl, by go_num, HN, HBq.out⟩
     case measure => simp [intOf]; omega
    have q0' : decide (auVw rs g < r.view) = true := decide_eq_true q0
    have HN : Hid (auLd rs (k + 1) = (k : Int)) := auLd_yes HE.out HD1.out H0.out ((auVw_lt (by omega)).2 q0)
    have HVW : Hid (auVw rs (k : Int) = r.view) := auVw_at HE.out
    rw [hid.out] at c2
    clear X2
    go_wp2_with fail
    go_quiet (fail)
    have DQ : Below w2.heap.size w2 (w2.drewN nq) := below_drewN (Below.refl _ _) nq
    replace B := below_next B DQ
    clear DQ
    generalize w2.drewN nq = w3 at *
    have HBq : Hid _ := below_next hb B
    clear hb
    go_wp2
    go_roundw
    case rel => exact ⟨k + 1, _, by omega, by rw [HVW.out], rfl, by go_num, HN, HBq.out⟩
    case measure => simp [intOf]; omega
  ·obtain rfl : k = n := by omega
   have hc2 := HC.out
   have hv2 := HV.out
   unfold auLC at hc2
   unfold auLV at hv2
   rw [if_pos rfl, H0.out] at hc2 hv2
   by_cases q0 : g < 0
   ·rw [if_pos q0] at hc2 hv2
    subst hc2 hv2
    clear HC HV
    have B : Below w.heap.size w wr := hbb
    go_wp2_with (first | ((with_reducible refine store_midX 57 X1 0 [.int .i64 4, .int .i64 0] (by simp) (by kernel_rfl) (by simp [Value.oneCell']) rfl rfl ?_); intro V1 S; replace X1 : Bx V1 b1 [.int .i64 4, .int .i64 0] := S.bx; replace c1 := X1.cell; replace f1 := X1.froz; replace B := bkp B S.kept; clear S))
    refine bodyPost_ret (v := .agg #[.int .i64 4, .int .i64 0]) (by simp [results, Tryz.results36, go_sem, *]) rfl ⟨rfl, B⟩
   ·rw [if_neg q0] at hc2 hv2
    subst hc2 hv2
    clear HC HV
    have B : Below w.heap.size w wr := hbb
    go_wp2_with (first | ((with_reducible refine store_midX 57 X1 0 [.int .i64 0, .int .i64 g] (by simp) (by kernel_rfl) (by simp [Value.oneCell']) rfl rfl ?_); intro V1 S; replace X1 : Bx V1 b1 [.int .i64 0, .int .i64 g] := S.bx; replace c1 := X1.cell; replace f1 := X1.froz; replace B := bkp B S.kept; clear S))
    refine bodyPost_ret (v := .agg #[.int .i64 0, .int .i64 g]) (by simp [results, Tryz.results36, go_sem, *]) rfl ⟨rfl, B⟩
def ksum (K : Nat → Hd) : Nat → Nat
 | 0 => 0
 | i + 1 => ksum K i + (K i).2.1
theorem ksum_le (K : Nat → Hd) : ∀ (n i : Nat), i < n → (K i).2.1 ≤ ksum K n
 | 0, i, h => absurd h (Nat.not_lt_zero _)
 | n + 1, i, h => by
  show (K i).2.1 ≤ ksum K n + (K n).2.1
  rcases Nat.lt_succ_iff_lt_or_eq.1 h with q | q
  ·have := ksum_le K n i q; omega
  ·subst q; omega
def rsum (h : RH) : Nat := h.L.2.1 + h.O.2.1 + h.A.2.1 + h.D.2.1 + ksum h.K h.D.2.1
theorem rsum_sz (h : RH) : RSz h (rsum h) := ⟨by unfold rsum; omega, by unfold rsum; omega, by unfold rsum; omega, by unfold rsum; omega, fun i hi => by have := ksum_le h.K _ i hi; unfold rsum; omega⟩
def nsum : List Nod → Nat
 | [] => 0
 | a :: t => 1 + rsum a.2 + nsum t
section
variable {w w' : World} {lo hi : Nat} {h : RH} {r : Rep}
end
def NMk (w0 : World) (lo hi b off n cap : Nat) (xs : List Nod) (i : Nat) (r : Rep) (h : RH) (W : World) : Prop :=
 LAt nodeK W true lo hi (some ⟨b, off, none⟩) n cap (xs.set i (r, h)) ∧ KeptS (inL nodeK (some ⟨b, off, none⟩) n xs) w0 W
section
variable {w0 W W' : World} {lo hi b off n cap i : Nat} {xs : List Nod} {r : Rep} {h : RH}
end
end Go.Proofs.YtgldocaohcoleaaGreat
