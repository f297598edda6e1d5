/- Chapter 13 in plain words: what is sealed, logs of one view, who comes first, what is even. No program is named here. -/
import Derived.Test.YtgldocaohcoleaaGreatQAFN
import Derived.Test.YtgldocaohcoleaaGreatQABN
import Derived.Test.YtgldocaohcoleaaGreatQAJN
import Derived.Test.YtgldocaohcoleaaGreatQAGN
import Derived.Test.YtgldocaohcoleaaGreatQALN
import Derived.Test.YtgldocaohcoleaaGreatZFN
set_option maxRecDepth 20000
set_option maxHeartbeats 16000000
namespace Go.Proofs.YtgldocaohcoleaaGreat
open Go.RowKit
def auSeal (es : List En) (r : Rep) : Bool := decide (commN (r.log.take r.commit.toNat) es = r.commit.toNat)
def auPair (a b : Rep) : Bool := !(decide (a.last = b.last)) || (decide (commN a.log b.log = a.log.length) || decide (commN b.log a.log = b.log.length))
def auMatch (rs : List Rep) : Bool := decide (∀ i, i < rs.length → ∀ j, j < i → auPair (rs.getD i rep0) (rs.getD j rep0) = true)
def auGTo (rs : List Rep) : Nat → Int
 | 0 => -1
 | k + 1 => if (rs.getD k rep0).normal = true then max (auGTo rs k) (rs.getD k rep0).view else auGTo rs k
def auG (rs : List Rep) : Int := auGTo rs rs.length
def auHas (g : Int) (es : List En) (r : Rep) : Bool := (!leadsB r || decide (r.view < g)) || decide (commN es r.log = es.length)
def auSafe (rs : List Rep) (es : List En) : Bool := (rs.all (auSeal es) && auMatch rs) && rs.all (auHas (auG rs) es)
def auEv (f r : Rep) : Bool := ((r.normal && decide (r.view = f.view)) && decide (r.log = f.log)) && decide (r.commit = r.log.length)
def auEven (rs : List Rep) : Bool := rs.all (auEv (rs.getD 0 rep0))
def auLd (rs : List Rep) : Nat → Int
 | 0 => -1
 | k + 1 => if leadsB (rs.getD k rep0) = true ∧ (auLd rs k < 0 ∨ (rs.getD (auLd rs k).toNat rep0).view < (rs.getD k rep0).view) then (k : Int) else auLd rs k
theorem auAll_no {p : Rep → Bool} {rs : List Rep} {k : Nat} (hk : k < rs.length) (h : p (rs.getD k rep0) = false) : rs.all p = false := by
 rw [List.all_eq_false]
 refine ⟨rs.getD k rep0, ?_, by rw [h]; decide⟩
 rw [List.getD, List.getElem?_eq_getElem hk]
 exact List.getElem_mem hk
theorem auAll_yes {p : Rep → Bool} {rs : List Rep} (h : ∀ k, k < rs.length → p (rs.getD k rep0) = true) : rs.all p = true := by
 rw [List.all_eq_true]
 intro r hr
 obtain ⟨k, hk, e⟩ := List.getElem_of_mem hr
 have := h k hk
 rw [List.getD, List.getElem?_eq_getElem hk, Option.getD_some, e] at this
 exact this
theorem auPair_symm (a b : Rep) : auPair a b = auPair b a := by
 unfold auPair
 rw [Bool.or_comm (decide (commN a.log b.log = a.log.length))]
 congr 2
 exact decide_eq_decide.2 ⟨Eq.symm, Eq.symm⟩
theorem auPair_far {a b : Rep} (h : ¬ a.last = b.last) : auPair a b = true := by unfold auPair; simp [h]
theorem auPair_near {a b : Rep} (h : a.last = b.last) {d1 d2 : Bool} (h1 : decide (commN a.log b.log = a.log.length) = d1) (h2 : decide (commN b.log a.log = b.log.length) = d2) : auPair a b = (d1 || d2) := by unfold auPair; rw [h1, h2]; simp [h]
theorem auMatch_no {rs : List Rep} {i j : Nat} (hi : i < rs.length) (hj : j < i) (h : auPair (rs.getD i rep0) (rs.getD j rep0) = false) : auMatch rs = false := by
 unfold auMatch
 rw [decide_eq_false_iff_not]
 intro z
 rw [z i hi j hj] at h
 cases h
theorem auMatch_yes {rs : List Rep} (h : ∀ i, i < rs.length → ∀ j, j < i → auPair (rs.getD i rep0) (rs.getD j rep0) = true) : auMatch rs = true := decide_eq_true h
theorem auGTo_yes {rs : List Rep} {k : Nat} {r : Rep} (e : rs.getD k rep0 = r) (h : r.normal = true) {g : Int} (hg : auGTo rs k = g) : auGTo rs (k + 1) = max g r.view := by
 show (if (rs.getD k rep0).normal = true then max (auGTo rs k) (rs.getD k rep0).view else auGTo rs k) = _
 rw [e, if_pos h, hg]
theorem auGTo_no {rs : List Rep} {k : Nat} {r : Rep} (e : rs.getD k rep0 = r) (h : r.normal = false) {g : Int} (hg : auGTo rs k = g) : auGTo rs (k + 1) = g := by
 show (if (rs.getD k rep0).normal = true then max (auGTo rs k) (rs.getD k rep0).view else auGTo rs k) = _
 rw [e, h, if_neg (by decide), hg]
theorem auLd_yes {rs : List Rep} {k : Nat} {r : Rep} (e : rs.getD k rep0 = r) (h : leadsB r = true) {g : Int} (hg : auLd rs k = g) (hv : g < 0 ∨ (rs.getD g.toNat rep0).view < r.view) : auLd rs (k + 1) = k := by
 unfold auLd
 rw [e, hg, if_pos ⟨h, hv⟩]
theorem auLd_no {rs : List Rep} {k : Nat} {r : Rep} (e : rs.getD k rep0 = r) {g : Int} (hg : auLd rs k = g) (h : leadsB r = false ∨ ¬ (g < 0 ∨ (rs.getD g.toNat rep0).view < r.view)) : auLd rs (k + 1) = g := by
 unfold auLd
 rw [e, hg, if_neg]
 rintro ⟨z1, z2⟩
 rcases h with h | h
 ·rw [h] at z1; cases z1
 ·exact h z2
theorem auLogsEq {o1 o2 : Bool} {l1 u1 l2 u2 : Nat} (a1 : Option Addr) (n1 c1 : Nat) (a2 : Option Addr) (n2 c2 : Nat) (xs ys : List En) (w : World) (h1 : RowAt w o1 l1 u1 6 a1 n1 c1 (sixs xs)) (h2 : RowAt w o2 l2 u2 6 a2 n2 c2 (sixs ys)) (hq1 : n1 ≤ 2097152) (hq2 : n2 ≤ 2097152) (d : Bool) (hd : decide (xs = ys) = d) :
  Calls Tryz.prog 187 #[.slice a1 n1 c1, .slice a2 n2 c2] w fun e w' => e = .returned (.bool d) ∧ Below w.heap.size w w' := by
 have hx := h1.nSixs
 have hy := h2.nSixs
 subst hd
 by_cases hne : n1 = n2
 ·subst hne
  have hb0 : ((n1 : Int) != (n1 : Int)) = false := by simp
  go_enter Tryz.func187, Tryz.ntmps187
  go_wp2
  go_loopw [13] (fun i wr => ∃ k : Nat, k ≤ n1 ∧ i = .int .i64 k ∧ Hid (∀ j, j < k → xs.getD j en0 = ys.getD j en0) ∧ Below w.heap.size w wr) (fun i _ => n1 - (intOf i).toNat)
  case atStart => exact ⟨0, Nat.zero_le _, rfl, fun j hj => absurd hj (Nat.not_lt_zero _), Below.refl _ _⟩
  case round =>
   obtain ⟨k, hk, rfl, HA, hb⟩ := hrel
   by_cases hlt : k < n1
   ·have hl : (k : Int) < (n1 : Int) := by omega
    have HN : Hid (xs.getD k en0 = ys.getD k en0 → ∀ j, j < k + 1 → xs.getD j en0 = ys.getD j en0) := fun h0 j hj => by
     by_cases e : j = k
     ·rw [e]; exact h0
     ·exact HA.out j (by omega)
    have HB : Hid (xs.getD k en0 ≠ ys.getD k en0 → decide (xs = ys) = false) := fun h0 => decide_eq_false fun e => h0 (by rw [e])
    obtain ⟨b1, o1, rfl, _, _, hs1, e0, e1, e2, e3, e4, e5, _⟩ := (h1.below hb).six hlt
    obtain ⟨b2, o2, rfl, _, _, hs2, f0, f1, f2, f3, f4, f5, _⟩ := (h2.below hb).six hlt
    obtain ⟨⟨x0, x1, x2, x3, x4, x5⟩, hxx⟩ : ∃ x, xs.getD k en0 = x := ⟨_, rfl⟩
    obtain ⟨⟨y0, y1, y2, y3, y4, y5⟩, hyy⟩ : ∃ x, ys.getD k en0 = x := ⟨_, rfl⟩
    rw [hxx] at e0 e1 e2 e3 e4 e5 HN HB
    rw [hyy] at f0 f1 f2 f3 f4 f5 HN HB
    simp only at e0 e1 e2 e3 e4 e5 f0 f1 f2 f3 f4 f5
    clear hxx hyy
    obtain ⟨q, hq⟩ : ∃ q, decide (((x0, x1, x2, x3, x4, x5) : En) = (y0, y1, y2, y3, y4, y5)) = q := ⟨_, rfl⟩
    have HQ : Hid _ := hq
    have R := run_neEn x0 x1 x2 x3 x4 x5 y0 y1 y2 y3 y4 y5 q hq
    have RG := run_guEn
    clear hq
    have D : Below wr.heap.size wr wr.drew := (Below.refl _ _).drew
    replace e0 := cell_later D e0
    replace e1 := cell_later D e1
    replace e2 := cell_later D e2
    replace e3 := cell_later D e3
    replace e4 := cell_later D e4
    replace e5 := cell_later D e5
    replace f0 := cell_later D f0
    replace f1 := cell_later D f1
    replace f2 := cell_later D f2
    replace f3 := cell_later D f3
    replace f4 := cell_later D f4
    replace f5 := cell_later D f5
    replace hb := below_step hb hb.size D
    clear D
    go_wp2_with fail
    go_region_held3 (fun w' => w'.cell? ⟨b1, o1 + k * 6, none⟩ = some (.int .i64 x0) ∧ w'.cell? ⟨b1, o1 + k * 6 + 1, none⟩ = some (.int .i64 x1) ∧ w'.cell? ⟨b1, o1 + k * 6 + 2, none⟩ = some (.int .i64 x2) ∧ w'.cell? ⟨b1, o1 + k * 6 + 3, none⟩ = some (.int .i64 x3) ∧ w'.cell? ⟨b1, o1 + k * 6 + 4, none⟩ = some (.int .i64 x4) ∧ w'.cell? ⟨b1, o1 + k * 6 + 5, none⟩ = some (.int .i64 x5) ∧ w'.cell? ⟨b2, o2 + k * 6, none⟩ = some (.int .i64 y0) ∧ w'.cell? ⟨b2, o2 + k * 6 + 1, none⟩ = some (.int .i64 y1) ∧ w'.cell? ⟨b2, o2 + k * 6 + 2, none⟩ = some (.int .i64 y2) ∧ w'.cell? ⟨b2, o2 + k * 6 + 3, none⟩ = some (.int .i64 y3) ∧ w'.cell? ⟨b2, o2 + k * 6 + 4, none⟩ = some (.int .i64 y4) ∧ w'.cell? ⟨b2, o2 + k * 6 + 5, none⟩ = some (.int .i64 y5)) (exact ⟨e0, e1, e2, e3, e4, e5, f0, f1, f2, f3, f4, f5⟩) (fail)
    clear e0 e1 e2 e3 e4 e5 f0 f1 f2 f3 f4 f5 R RG
    cases q with
    | true =>
     have HN2 : Hid _ := HN.out (of_decide_eq_true HQ.out)
     clear HN HB HQ
     go_wp2
     go_roundw
     case rel => exact ⟨k + 1, by omega, by go_num, HN2, hb⟩
     case measure => simp [intOf]; omega
    | false =>
     have HF : Hid _ := HB.out (of_decide_eq_false HQ.out)
     clear HN HB HQ
     go_wp2
     go_ret
     exact ⟨by rw [HF.out]; rfl, hb⟩
   ·obtain rfl : k = n1 := by omega
    have HF : Hid (decide (xs = ys) = true) := decide_eq_true (list_eq_of en0 hx hy HA.out)
    go_wp2
    go_ret
    exact ⟨by rw [HF.out]; rfl, hb⟩
 ·have hb0 : ((n1 : Int) != (n2 : Int)) = true := by simp; omega
  have HF : Hid (decide (xs = ys) = false) := decide_eq_false fun e => hne (by rw [← hx, ← hy, e])
  go_enter Tryz.func187, Tryz.ntmps187
  go_wp2
  go_ret
  exact ⟨by rw [HF.out]; rfl, Below.refl _ _⟩
theorem auEach1 (FN : Nat) (hcf : ∀ (vs : Array Value) (W : World), (callFunc FN vs).run Tryz.prog W = .ok (.enter FN vs) W) (p1 : Nat) {own : Bool} {lo hi : Nat} (N : Hd) (xs : List Nod) (w : World) (x : NAt w own lo hi N xs) (hn : N.2.1 ≤ 1048576) (p : Rep → Bool)
  (hact : ∀ (W : World) (k : Nat) (r : Rep) (h : RH), Below w.heap.size w W → xs[k]? = some (r, h) → RepAt W own lo hi h r → Calls Tryz.prog FN #[.agg #[.int .i64 r.id, .int .i64 r.size, .int .i64 r.view, .bool r.normal, .int .i64 r.last, .slice h.L.1 h.L.2.1 h.L.2.2, .int .i64 r.commit, .slice h.O.1 h.O.2.1 h.O.2.2, .slice h.A.1 h.A.2.1 h.A.2.2, .slice h.D.1 h.D.2.1 h.D.2.2], .pointer (some ⟨p1, 0, none⟩)] W fun e w' => e = .returned (.bool (p r)) ∧ Below W.heap.size W w') (d : Bool) (hd : (xs.map (·.1)).all p = d) :
  Calls Tryz.prog 185 #[.slice N.1 N.2.1 N.2.2, .func (.func FN) #[] #[.pointer (some ⟨p1, 0, none⟩)]] w fun e w' => e = .returned (.bool d) ∧ Below w.heap.size w w' := by
 obtain ⟨ao, n, cap⟩ := N
 simp only at hn ⊢
 have hl : (xs.map (·.1)).length = n := by simpa using x.len
 obtain ⟨rs, hrs⟩ : ∃ rs, xs.map (·.1) = rs := ⟨_, rfl⟩
 have HR : Hid (∀ (i : Nat) (a : Nod), xs[i]? = some a → rs.getD i rep0 = a.1) := fun i a e => by rw [← hrs]; exact mapD e
 rw [hrs] at hd hl
 have HL : Hid _ := hl
 have HD : Hid _ := hd
 have HA : Hid _ := hact
 have Hx : Hid (NAt w own lo hi _ xs) := x
 clear hd hrs hl x hact
 go_enter Tryz.func185, Tryz.ntmps185
 go_wp2
 go_loopw [9] (fun i wr => ∃ k : Nat, k ≤ n ∧ i = .int .i64 k ∧ Hid (∀ j, j < k → p (rs.getD j rep0) = true) ∧ Below w.heap.size w wr) (fun i _ => n - (intOf i).toNat)
 case atStart => exact ⟨0, Nat.zero_le _, rfl, fun j hj => absurd hj (Nat.not_lt_zero _), Below.refl _ _⟩
 case round =>
  obtain ⟨k, hk, rfl, H0, hb⟩ := hrel
  by_cases hlt : k < n
  ·have hlk : (k : Int) < (n : Int) := by omega
   obtain ⟨r, h, b, off, ex, rfl, _, _, XN, y, _⟩ := LAt.node (NAt.below Hx.out hb) hlt
   have cN := XN.cell
   have HE : Hid (rs.getD k rep0 = r) := HR.out k _ ex
   have HX : Hid _ := ex
   clear ex
   obtain ⟨q, hq⟩ : ∃ q, p r = q := ⟨_, rfl⟩
   have HQ : Hid _ := hq
   clear hq
   go_wp2_with (first | ((with_reducible refine store_midX 65 X0 0 [.int .i64 r.id, .int .i64 r.size, .int .i64 r.view, .bool r.normal, .int .i64 r.last, .slice h.L.1 h.L.2.1 h.L.2.2, .int .i64 r.commit, .slice h.O.1 h.O.2.1 h.O.2.2, .slice h.A.1 h.A.2.1 h.A.2.2, .slice h.D.1 h.D.2.1 h.D.2.2] (by simp) (by kernel_rfl) (by simp [Value.oneCell']) rfl rfl ?_); intro V1 S; replace X0 : Bx V1 b0 [.int .i64 r.id, .int .i64 r.size, .int .i64 r.view, .bool r.normal, .int .i64 r.last, .slice h.L.1 h.L.2.1 h.L.2.2, .int .i64 r.commit, .slice h.O.1 h.O.2.1 h.O.2.2, .slice h.A.1 h.A.2.1 h.A.2.2, .slice h.D.1 h.D.2.1 h.D.2.2] := S.bx; replace c0 := X0.cell; replace f0 := X0.froz; replace B := bkp B S.kept; clear S) | ((with_reducible refine alloc_newX 65 [.int .i64 0, .int .i64 0, .int .i64 0, .bool false, .int .i64 0, .slice none 0 0, .int .i64 0, .slice none 0 0, .slice none 0 0, .slice none 0 0] (fun _ => by kernel_rfl) ?_); intro b0 W0 N0; have ob0 := N0.ge; have B := N0.below; have X0 := N0.bx; have c0 := X0.cell; have f0 := X0.froz; clear N0) | fail)
   clear XN cN
   refine (HA.out _ k r h (below_next hb B) HX.out (y.below B)).mono ?_
   rintro e w1 ⟨rfl, BB⟩
   rw [HQ.out]
   replace X0 := X0.below BB
   replace c0 := X0.cell
   replace f0 := X0.froz
   replace B := below_next B BB
   clear BB
   cases q with
   | false =>
    have e : d = false := by rw [← HD.out]; exact auAll_no (by rw [HL.out]; exact hlt) (by rw [HE.out]; exact HQ.out)
    subst e
    have hbb := below_next hb B
    clear hb HD
    go_wp2
    go_ret
    exact ⟨rfl, hbb⟩
   | true =>
    have HN : Hid (∀ j, j < k + 1 → p (rs.getD j rep0) = true) := fun j hj => by
     by_cases e : j = k
     ·rw [e, HE.out]; exact HQ.out
     ·exact H0.out j (by omega)
    have HB : Hid _ := below_next hb B
    clear hb
    go_wp2
    go_roundw
    case rel => exact ⟨k + 1, by omega, by go_num, HN, HB.out⟩
    case measure => simp [intOf]; omega
  ·obtain rfl : k = n := by omega
   have e : d = true := by rw [← HD.out]; exact auAll_yes (by rw [HL.out]; exact H0.out)
   subst e
   clear HD
   go_wp2
   go_ret
   exact ⟨rfl, hb⟩
theorem auEach2 (FN : Nat) (hcf : ∀ (vs : Array Value) (W : World), (callFunc FN vs).run Tryz.prog W = .ok (.enter FN vs) W) (p1 p2 : Nat) {own : Bool} {lo hi : Nat} (N : Hd) (xs : List Nod) (w : World) (x : NAt w own lo hi N xs) (hn : N.2.1 ≤ 1048576) (p : Rep → Bool)
  (hact : ∀ (W : World) (k : Nat) (r : Rep) (h : RH), Below w.heap.size w W → xs[k]? = some (r, h) → RepAt W own lo hi h r → Calls Tryz.prog FN #[.agg #[.int .i64 r.id, .int .i64 r.size, .int .i64 r.view, .bool r.normal, .int .i64 r.last, .slice h.L.1 h.L.2.1 h.L.2.2, .int .i64 r.commit, .slice h.O.1 h.O.2.1 h.O.2.2, .slice h.A.1 h.A.2.1 h.A.2.2, .slice h.D.1 h.D.2.1 h.D.2.2], .pointer (some ⟨p1, 0, none⟩), .pointer (some ⟨p2, 0, none⟩)] W fun e w' => e = .returned (.bool (p r)) ∧ Below W.heap.size W w') (d : Bool) (hd : (xs.map (·.1)).all p = d) :
  Calls Tryz.prog 185 #[.slice N.1 N.2.1 N.2.2, .func (.func FN) #[] #[.pointer (some ⟨p1, 0, none⟩), .pointer (some ⟨p2, 0, none⟩)]] w fun e w' => e = .returned (.bool d) ∧ Below w.heap.size w w' := by
 obtain ⟨ao, n, cap⟩ := N
 simp only at hn ⊢
 have hl : (xs.map (·.1)).length = n := by simpa using x.len
 obtain ⟨rs, hrs⟩ : ∃ rs, xs.map (·.1) = rs := ⟨_, rfl⟩
 have HR : Hid (∀ (i : Nat) (a : Nod), xs[i]? = some a → rs.getD i rep0 = a.1) := fun i a e => by rw [← hrs]; exact mapD e
 rw [hrs] at hd hl
 have HL : Hid _ := hl
 have HD : Hid _ := hd
 have HA : Hid _ := hact
 have Hx : Hid (NAt w own lo hi _ xs) := x
 clear hd hrs hl x hact
 go_enter Tryz.func185, Tryz.ntmps185
 go_wp2
 go_loopw [9] (fun i wr => ∃ k : Nat, k ≤ n ∧ i = .int .i64 k ∧ Hid (∀ j, j < k → p (rs.getD j rep0) = true) ∧ Below w.heap.size w wr) (fun i _ => n - (intOf i).toNat)
 case atStart => exact ⟨0, Nat.zero_le _, rfl, fun j hj => absurd hj (Nat.not_lt_zero _), Below.refl _ _⟩
 case round =>
  obtain ⟨k, hk, rfl, H0, hb⟩ := hrel
  by_cases hlt : k < n
  ·have hlk : (k : Int) < (n : Int) := by omega
   obtain ⟨r, h, b, off, ex, rfl, _, _, XN, y, _⟩ := LAt.node (NAt.below Hx.out hb) hlt
   have cN := XN.cell
   have HE : Hid (rs.getD k rep0 = r) := HR.out k _ ex
   have HX : Hid _ := ex
   clear ex
   obtain ⟨q, hq⟩ : ∃ q, p r = q := ⟨_, rfl⟩
   have HQ : Hid _ := hq
   clear hq
   go_wp2_with (first | ((with_reducible refine store_midX 65 X0 0 [.int .i64 r.id, .int .i64 r.size, .int .i64 r.view, .bool r.normal, .int .i64 r.last, .slice h.L.1 h.L.2.1 h.L.2.2, .int .i64 r.commit, .slice h.O.1 h.O.2.1 h.O.2.2, .slice h.A.1 h.A.2.1 h.A.2.2, .slice h.D.1 h.D.2.1 h.D.2.2] (by simp) (by kernel_rfl) (by simp [Value.oneCell']) rfl rfl ?_); intro V1 S; replace X0 : Bx V1 b0 [.int .i64 r.id, .int .i64 r.size, .int .i64 r.view, .bool r.normal, .int .i64 r.last, .slice h.L.1 h.L.2.1 h.L.2.2, .int .i64 r.commit, .slice h.O.1 h.O.2.1 h.O.2.2, .slice h.A.1 h.A.2.1 h.A.2.2, .slice h.D.1 h.D.2.1 h.D.2.2] := S.bx; replace c0 := X0.cell; replace f0 := X0.froz; replace B := bkp B S.kept; clear S) | ((with_reducible refine alloc_newX 65 [.int .i64 0, .int .i64 0, .int .i64 0, .bool false, .int .i64 0, .slice none 0 0, .int .i64 0, .slice none 0 0, .slice none 0 0, .slice none 0 0] (fun _ => by kernel_rfl) ?_); intro b0 W0 N0; have ob0 := N0.ge; have B := N0.below; have X0 := N0.bx; have c0 := X0.cell; have f0 := X0.froz; clear N0) | fail)
   clear XN cN
   refine (HA.out _ k r h (below_next hb B) HX.out (y.below B)).mono ?_
   rintro e w1 ⟨rfl, BB⟩
   rw [HQ.out]
   replace X0 := X0.below BB
   replace c0 := X0.cell
   replace f0 := X0.froz
   replace B := below_next B BB
   clear BB
   cases q with
   | false =>
    have e : d = false := by rw [← HD.out]; exact auAll_no (by rw [HL.out]; exact hlt) (by rw [HE.out]; exact HQ.out)
    subst e
    have hbb := below_next hb B
    clear hb HD
    go_wp2
    go_ret
    exact ⟨rfl, hbb⟩
   | true =>
    have HN : Hid (∀ j, j < k + 1 → p (rs.getD j rep0) = true) := fun j hj => by
     by_cases e : j = k
     ·rw [e, HE.out]; exact HQ.out
     ·exact H0.out j (by omega)
    have HB : Hid _ := below_next hb B
    clear hb
    go_wp2
    go_roundw
    case rel => exact ⟨k + 1, by omega, by go_num, HN, HB.out⟩
    case measure => simp [intOf]; omega
  ·obtain rfl : k = n := by omega
   have e : d = true := by rw [← HD.out]; exact auAll_yes (by rw [HL.out]; exact H0.out)
   subst e
   clear HD
   go_wp2
   go_ret
   exact ⟨rfl, hb⟩
theorem auSealed1_is {own o2 : Bool} {lo hi l2 u2 : Nat} (r : Rep) (h : RH) (N M Sl : Hd) (es : List En) (b0 : Nat) (w : World) (x : RepAt w own lo hi h r) (hc : 0 ≤ r.commit ∧ r.commit ≤ r.log.length) (hz : h.L.2.1 ≤ 2097152) (X0 : Bx w b0 [.slice N.1 N.2.1 N.2.2, .slice M.1 M.2.1 M.2.2, .slice Sl.1 Sl.2.1 Sl.2.2]) (s : RowAt w o2 l2 u2 6 Sl.1 Sl.2.1 Sl.2.2 (sixs es)) :
  Calls Tryz.prog 241 #[.agg #[.int .i64 r.id, .int .i64 r.size, .int .i64 r.view, .bool r.normal, .int .i64 r.last, .slice h.L.1 h.L.2.1 h.L.2.2, .int .i64 r.commit, .slice h.O.1 h.O.2.1 h.O.2.2, .slice h.A.1 h.A.2.1 h.A.2.2, .slice h.D.1 h.D.2.1 h.D.2.2], .pointer (some ⟨b0, 0, none⟩)] w fun e w' => e = .returned (.bool (auSeal es r)) ∧ Below w.heap.size w w' := by
 obtain ⟨cm, hcm⟩ : ∃ cm : Nat, r.commit = (cm : Int) := ⟨r.commit.toNat, by omega⟩
 have xl := x.log
 have hl := xl.nSixs
 have hle := xl.le
 have hcl : (cm : Int) ≤ (h.L.2.2 : Int) := by omega
 have hc0 : (0 : Int) ≤ (cm : Int) := by omega
 have hcn : cm ≤ h.L.2.1 := by omega
 have HD : Hid (decide (commN (r.log.take cm) es = cm) = auSeal es r) := by show _ = _; unfold auSeal; rw [hcm, Int.toNat_natCast]
 obtain ⟨dd, hdd⟩ : ∃ dd, auSeal es r = dd := ⟨_, rfl⟩
 rw [hdd] at HD ⊢
 clear hc hdd x hl
 obtain ⟨⟨ao, ln, lc⟩, hO, hA, hDs, hK⟩ := h
 simp only at xl hle hcl hcn hz ⊢
 by_cases h0 : ln = 0
 ·have hr0 : r.commit = 0 := by omega
  rw [hr0]
  have HD0 : Hid (decide (commN (r.log.take 0) es = 0) = dd) := by show _ = _; have := HD.out; rw [show cm = 0 by omega] at this; exact this
  replace HD := HD0
  clear HD0 hr0 hcm hcl hc0 hcn
  have hcl : (0 : Int) ≤ (lc : Int) := by omega
  have HT : Hid (RowAt w false 0 0 6 ao 0 lc (sixs (r.log.take 0))) := by show RowAt _ _ _ _ _ _ _ _ _; rw [List.take_zero]; exact RowAt.nilR _ _ _ _ _ _ _
  rcases ao with _ | ⟨ab, af, ap⟩
  ·skip
   have c0 := X0.cell
   have ob0 := X0.lt
   clear xl
   go_enter Tryz.func241, Tryz.ntmps241
   go_wp2_with (first | ((have g := ob0); clear g; (with_reducible refine box_newX 65 [.int .i64 r.id, .int .i64 r.size, .int .i64 r.view, .bool r.normal, .int .i64 r.last, .slice none ln lc, .int .i64 0, .slice hO.1 hO.2.1 hO.2.2, .slice hA.1 hA.2.1 hA.2.2, .slice hDs.1 hDs.2.1 hDs.2.2] rfl ?_); intro b1 W1 N1; have ob1 := N1.ge; have o0_b1 := ltl X0.lt N1.ge; replace X0 := X0.below N1.below; replace c0 := X0.cell; have B := N1.below; have X1 := N1.bx; have c1 := X1.cell; clear N1) | fail)
   have DQ : Below W1.heap.size W1 W1.drew := (Below.refl _ _).drew
   replace X0 := X0.below DQ
   replace c0 := X0.cell
   replace X1 := X1.below DQ
   replace c1 := X1.cell
   replace B := below_next B DQ
   clear DQ
   refine wp_region_held_drew (S := (fun w' => (∀ k : Nat, w'.cell? ⟨b0, k, none⟩ = [.slice N.1 N.2.1 N.2.2, .slice M.1 M.2.1 M.2.2, .slice Sl.1 Sl.2.1 Sl.2.2][k]?) ∧ (∀ k : Nat, w'.cell? ⟨b1, k, none⟩ = [.int .i64 r.id, .int .i64 r.size, .int .i64 r.view, .bool r.normal, .int .i64 r.last, .slice none ln lc, .int .i64 0, .slice hO.1 hO.2.1 hO.2.2, .slice hA.1 hA.2.1 hA.2.2, .slice hDs.1 hDs.2.1 hDs.2.2][k]?))) (by kernel_rfl) ⟨c0, c1⟩ (fun hZq => ?_)
   refine tk 0 hZq ?_
   refine tk 1 hZq ?_
   refine tk 2 hZq ?_
   refine tk 3 hZq ?_
   refine tk 4 hZq ?_
   refine tk 5 hZq ?_
   refine tk 6 hZq ?_
   refine rd1 7 (fun KK hKK => ?_)
   go_simp
   go_at_call 45
   refine (implIsB_is _ _ 0 lc Sl.2.1 Sl.2.2 (r.log.take 0) es _ (HT.out.below B) (s.below B) (by omega) dd HD.out).mono ?_
   rintro e w1 ⟨rfl, BB⟩
   replace X0 := X0.below BB
   replace c0 := X0.cell
   replace X1 := X1.below BB
   replace c1 := X1.cell
   replace B := below_next B BB
   clear BB
   clear hZq
   refine hKK _ _ ⟨c0, c1⟩ (fun hZq => ?_)
   clear hKK KK
   refine tk 8 hZq ?_
   refine wpAnyH_done (by kernel_rfl) ?_ _
   go_wp2
   go_ret
   exact ⟨rfl, B⟩
  ·skip
   have c0 := X0.cell
   have ob0 := X0.lt
   clear xl
   go_enter Tryz.func241, Tryz.ntmps241
   go_wp2_with (first | ((have g := ob0); clear g; (with_reducible refine box_newX 65 [.int .i64 r.id, .int .i64 r.size, .int .i64 r.view, .bool r.normal, .int .i64 r.last, .slice (some ⟨ab, af, ap⟩) ln lc, .int .i64 0, .slice hO.1 hO.2.1 hO.2.2, .slice hA.1 hA.2.1 hA.2.2, .slice hDs.1 hDs.2.1 hDs.2.2] rfl ?_); intro b1 W1 N1; have ob1 := N1.ge; have o0_b1 := ltl X0.lt N1.ge; replace X0 := X0.below N1.below; replace c0 := X0.cell; have B := N1.below; have X1 := N1.bx; have c1 := X1.cell; clear N1) | fail)
   have DQ : Below W1.heap.size W1 W1.drew := (Below.refl _ _).drew
   replace X0 := X0.below DQ
   replace c0 := X0.cell
   replace X1 := X1.below DQ
   replace c1 := X1.cell
   replace B := below_next B DQ
   clear DQ
   refine wp_region_held_drew (S := (fun w' => (∀ k : Nat, w'.cell? ⟨b0, k, none⟩ = [.slice N.1 N.2.1 N.2.2, .slice M.1 M.2.1 M.2.2, .slice Sl.1 Sl.2.1 Sl.2.2][k]?) ∧ (∀ k : Nat, w'.cell? ⟨b1, k, none⟩ = [.int .i64 r.id, .int .i64 r.size, .int .i64 r.view, .bool r.normal, .int .i64 r.last, .slice (some ⟨ab, af, ap⟩) ln lc, .int .i64 0, .slice hO.1 hO.2.1 hO.2.2, .slice hA.1 hA.2.1 hA.2.2, .slice hDs.1 hDs.2.1 hDs.2.2][k]?))) (by kernel_rfl) ⟨c0, c1⟩ (fun hZq => ?_)
   refine tk 0 hZq ?_
   refine tk 1 hZq ?_
   refine tk 2 hZq ?_
   refine tk 3 hZq ?_
   refine tk 4 hZq ?_
   refine tk 5 hZq ?_
   refine tk 6 hZq ?_
   refine rd1 7 (fun KK hKK => ?_)
   go_simp
   go_at_call 45
   refine (implIsB_is _ _ 0 lc Sl.2.1 Sl.2.2 (r.log.take 0) es _ (HT.out.below B) (s.below B) (by omega) dd HD.out).mono ?_
   rintro e w1 ⟨rfl, BB⟩
   replace X0 := X0.below BB
   replace c0 := X0.cell
   replace X1 := X1.below BB
   replace c1 := X1.cell
   replace B := below_next B BB
   clear BB
   clear hZq
   refine hKK _ _ ⟨c0, c1⟩ (fun hZq => ?_)
   clear hKK KK
   refine tk 8 hZq ?_
   refine wpAnyH_done (by kernel_rfl) ?_ _
   go_wp2
   go_ret
   exact ⟨rfl, B⟩
 ·rw [hcm]
  clear hcm
  obtain ⟨b, off, rfl, _⟩ := xl.cells h0
  have HT : Hid (RowAt w own lo hi 6 (some ⟨b, off, none⟩) cm lc (sixs (r.log.take cm))) := xl.front6 hcn
  have c0 := X0.cell
  have ob0 := X0.lt
  clear xl
  go_enter Tryz.func241, Tryz.ntmps241
  go_wp2_with (first | ((have g := ob0); clear g; (with_reducible refine box_newX 65 [.int .i64 r.id, .int .i64 r.size, .int .i64 r.view, .bool r.normal, .int .i64 r.last, .slice (some ⟨b, off, none⟩) ln lc, .int .i64 (cm : Int), .slice hO.1 hO.2.1 hO.2.2, .slice hA.1 hA.2.1 hA.2.2, .slice hDs.1 hDs.2.1 hDs.2.2] rfl ?_); intro b1 W1 N1; have ob1 := N1.ge; have o0_b1 := ltl X0.lt N1.ge; replace X0 := X0.below N1.below; replace c0 := X0.cell; have B := N1.below; have X1 := N1.bx; have c1 := X1.cell; clear N1) | fail)
  have DQ : Below W1.heap.size W1 W1.drew := (Below.refl _ _).drew
  replace X0 := X0.below DQ
  replace c0 := X0.cell
  replace X1 := X1.below DQ
  replace c1 := X1.cell
  replace B := below_next B DQ
  clear DQ
  refine wp_region_held_drew (S := (fun w' => (∀ k : Nat, w'.cell? ⟨b0, k, none⟩ = [.slice N.1 N.2.1 N.2.2, .slice M.1 M.2.1 M.2.2, .slice Sl.1 Sl.2.1 Sl.2.2][k]?) ∧ (∀ k : Nat, w'.cell? ⟨b1, k, none⟩ = [.int .i64 r.id, .int .i64 r.size, .int .i64 r.view, .bool r.normal, .int .i64 r.last, .slice (some ⟨b, off, none⟩) ln lc, .int .i64 (cm : Int), .slice hO.1 hO.2.1 hO.2.2, .slice hA.1 hA.2.1 hA.2.2, .slice hDs.1 hDs.2.1 hDs.2.2][k]?))) (by kernel_rfl) ⟨c0, c1⟩ (fun hZq => ?_)
  refine tk 0 hZq ?_
  refine tk 1 hZq ?_
  refine tk 2 hZq ?_
  refine tk 3 hZq ?_
  refine tk 4 hZq ?_
  refine tk 5 hZq ?_
  refine tk 6 hZq ?_
  refine rd1 7 (fun KK hKK => ?_)
  go_simp
  go_at_call 45
  refine (implIsB_is _ _ cm lc Sl.2.1 Sl.2.2 (r.log.take cm) es _ (HT.out.below B) (s.below B) (by omega) dd HD.out).mono ?_
  rintro e w1 ⟨rfl, BB⟩
  replace X0 := X0.below BB
  replace c0 := X0.cell
  replace X1 := X1.below BB
  replace c1 := X1.cell
  replace B := below_next B BB
  clear BB
  clear hZq
  refine hKK _ _ ⟨c0, c1⟩ (fun hZq => ?_)
  clear hKK KK
  refine tk 8 hZq ?_
  refine wpAnyH_done (by kernel_rfl) ?_ _
  go_wp2
  go_ret
  exact ⟨rfl, B⟩
theorem auRight {own : Bool} {lo hi : Nat} {N M Sl : Hd} {xs : List Nod} {ms : List Mal} {es : List En} {w : World} (x : ClAt w own lo hi N M Sl xs ms es) (h : cluF (xs.map (·.1)) (ms.map (·.1)) es = 0) : (1 ≤ N.2.1 ∧ N.2.1 ≤ 5) ∧ ∀ (k : Nat) (r : Rep) (hh : RH), xs[k]? = some (r, hh) → (0 ≤ r.commit ∧ r.commit ≤ r.log.length) ∧ (1 ≤ r.size ∧ r.size ≤ 5) ∧ (0 ≤ r.view ∧ r.view ≤ 300) ∧ r.id = k := by
 have hl : (xs.map (·.1)).length = N.2.1 := by simpa using x.nodes.len
 unfold cluF at h
 by_cases h1 : (1 ≤ ((xs.map (·.1)).length : Int) ∧ ((xs.map (·.1)).length : Int) ≤ 5) ∧ (ms.map (·.1)).length ≤ 120
 ·rw [if_pos h1] at h
  by_cases h2 : nodesF (xs.map (·.1)) = 0
  ·rw [hl] at h1
   refine ⟨⟨by omega, by omega⟩, fun k r hh ex => ?_⟩
   have hk : k < xs.length := by
    rcases Nat.lt_or_ge k xs.length with z | z
    ·exact z
    ·rw [List.getElem?_eq_none z] at ex; cases ex
   obtain ⟨a1, a2, a3⟩ := nodesF_all h2 k (by simpa using hk)
   rw [mapD ex] at a1 a2 a3
   simp only at a1 a2 a3
   obtain ⟨b1, b2, _⟩ := rep_ok a1
   obtain ⟨c1, c2, c3, c4⟩ := b1
   refine ⟨?_, c1, ⟨c3.1, by omega⟩, a2⟩
   unfold lgF at b2
   by_cases q : logF r.log = 0
   ·rw [if_pos q] at b2
    by_cases q2 : 0 ≤ r.commit ∧ r.commit ≤ r.log.length
    ·exact q2
    ·rw [if_neg q2] at b2; cases b2
   ·rw [if_neg q] at b2; exact absurd b2 q
  ·rw [if_neg h2] at h; exact absurd h h2
 ·rw [if_neg h1] at h; cases h
theorem auHolds (FN : Nat) (hcf : ∀ (vs : Array Value) (W : World), (callFunc FN vs).run Tryz.prog W = .ok (.enter FN vs) W) {own : Bool} {lo hi : Nat} (N M Sl : Hd) (xs : List Nod) (ms : List Mal) (es : List En) (w : World) (x : ClAt w own lo hi N M Sl xs ms es) (hs : ClSz N M Sl xs ms 1048576) (b : Bool)
  (hact : ∀ W : World, Below w.heap.size w W → cluF (xs.map (·.1)) (ms.map (·.1)) es = 0 → Calls Tryz.prog FN #[.agg #[.slice N.1 N.2.1 N.2.2, .slice M.1 M.2.1 M.2.2, .slice Sl.1 Sl.2.1 Sl.2.2]] W fun e w' => e = .returned (.bool b) ∧ Below W.heap.size W w') (d : Bool) (hd : (decide (cluF (xs.map (·.1)) (ms.map (·.1)) es = 0) && b) = d) :
  Calls Tryz.prog 105 #[.agg #[.slice N.1 N.2.1 N.2.2, .slice M.1 M.2.1 M.2.2, .slice Sl.1 Sl.2.1 Sl.2.2], .func (.func FN) #[] #[]] w fun e w' => e = .returned (.bool d) ∧ Below w.heap.size w w' := by
 obtain ⟨cd, hcd⟩ : ∃ cd, cluF (xs.map (·.1)) (ms.map (·.1)) es = cd := ⟨_, rfl⟩
 have HC : Hid _ := hcd
 have HA : Hid _ := hact
 have HD : Hid _ := hd
 clear hd hact
 go_enter Tryz.func105, Tryz.ntmps105
 go_wp2_with (first | ((with_reducible refine box_newX 32 [.slice N.1 N.2.1 N.2.2, .slice M.1 M.2.1 M.2.2, .slice Sl.1 Sl.2.1 Sl.2.2] rfl ?_); intro b0 W0 N0; have ob0 := N0.ge; have B := N0.below; have X0 := N0.bx; have c0 := X0.cell; clear N0) | fail)
 refine (implClF_is N M Sl xs ms es _ (x.below B) hs cd HC.out).mono ?_
 rintro e w1 ⟨rfl, BB⟩
 replace X0 := X0.below BB
 replace c0 := X0.cell
 replace B := below_next B BB
 clear BB
 clear hcd
 by_cases q0 : cd = 0
 rotate_left 1
 ·have q0' : (cd == 0) = false := by simp [q0]
  have e : d = false := by rw [← HD.out, HC.out, decide_eq_false q0, Bool.false_and]
  subst e
  clear HD HA
  go_wp2
  go_ret
  exact ⟨rfl, B⟩
 subst q0
 have e : d = b := by rw [← HD.out, HC.out]; simp
 subst e
 clear HD
 go_wp2_with fail
 refine (HA.out _ B HC.out).mono ?_
 rintro e w2 ⟨rfl, BB⟩
 replace X0 := X0.below BB
 replace c0 := X0.cell
 replace B := below_next B BB
 clear BB
 go_wp2
 go_ret
 exact ⟨rfl, B⟩
theorem auHaveSealed_is {own : Bool} {lo hi : Nat} (N M Sl : Hd) (xs : List Nod) (ms : List Mal) (es : List En) (w : World) (x : ClAt w own lo hi N M Sl xs ms es) (hs : ClSz N M Sl xs ms 1048576) (hr : cluF (xs.map (·.1)) (ms.map (·.1)) es = 0) (d : Bool) (hd : (xs.map (·.1)).all (auSeal es) = d) :
  Calls Tryz.prog 188 #[.agg #[.slice N.1 N.2.1 N.2.2, .slice M.1 M.2.1 M.2.2, .slice Sl.1 Sl.2.1 Sl.2.2]] w fun e w' => e = .returned (.bool d) ∧ Below w.heap.size w w' := by
 have HRt : Hid _ := auRight x hr
 have HD : Hid _ := hd
 have HS : Hid _ := hs
 have Hx : Hid _ := x
 have hmf : ∀ (fn : Fn) (first cap : Array Value) (w : World), (Instr.makeFunc fn first cap).run Tryz.prog w = .ok (.func fn first cap) w := fun _ _ _ _ => rfl
 clear hd hr hs x
 go_enter Tryz.func188, Tryz.ntmps188
 go_wp2_with (first | ((with_reducible refine box_newX 32 [.slice N.1 N.2.1 N.2.2, .slice M.1 M.2.1 M.2.2, .slice Sl.1 Sl.2.1 Sl.2.2] rfl ?_); intro b0 W0 N0; have ob0 := N0.ge; have B := N0.below; have X0 := N0.bx; have c0 := X0.cell; clear N0) | fail)
 have HX0 : Hid _ := X0
 refine (auEach1 241 (fun _ _ => rfl) b0 N xs _ (Hx.out.nodes.below B) HS.out.n (auSeal es) (fun W k r h hb ex y => auSealed1_is r h N M Sl es b0 W y (HRt.out.2 k r h ex).1 (Nat.le_trans (HS.out.nodes k _ ex).L (by omega)) (HX0.out.below hb) ((Hx.out.slog.below B).below hb)) d HD.out).mono ?_
 rintro e w1 ⟨rfl, BB⟩
 replace X0 := X0.below BB
 replace c0 := X0.cell
 replace B := below_next B BB
 clear BB
 go_wp2
 go_ret
 exact ⟨rfl, B⟩
end Go.Proofs.YtgldocaohcoleaaGreat
