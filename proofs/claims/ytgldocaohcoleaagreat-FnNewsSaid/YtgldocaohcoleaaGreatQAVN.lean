/- Chapter 11: nodes and mails copied by the program. -/
import Derived.Test.YtgldocaohcoleaaGreatQAFN
import Derived.Test.YtgldocaohcoleaaGreatQASN
import Derived.Test.YtgldocaohcoleaaGreatQAJN
import Derived.Test.YtgldocaohcoleaaGreatWLN
import Derived.Test.YtgldocaohcoleaaGreatQAUN
import Derived.Test.YtgldocaohcoleaaGreatZFN
import Derived.BigQuiet
import Derived.Test.YtgldocaohcoleaaGreatQABN
import Derived.Test.YtgldocaohcoleaaGreatQAGN
set_option maxRecDepth 20000
set_option maxHeartbeats 16000000
namespace Go.Proofs.YtgldocaohcoleaaGreat
open Go.RowKit
theorem GLk.el {α : Type} {k : Kd α} {w : World} {base : Nat} {T : TypeId} {ra : Option Addr} {rc n : Nat} {xs : List α} {kk : Nat} (K : KdOk k) (h : GLk k w base T (.slice ra n rc) n xs kk) {i : Nat} (hi : i < n) : ∃ a g, xs[i]? = some a ∧ ra = some ⟨g, 0, none⟩ ∧ base ≤ g ∧ g < w.heap.size ∧ (∀ j, j < k.sz → w.cell? ⟨g, i * k.sz + j, none⟩ = (k.cells a)[j]?) ∧ (∀ j, w.frozen? ⟨g, j, none⟩ = false) := by
 have hx : i < xs.length := by rw [h.len]; exact hi
 obtain ⟨ao, cap, e, R, hg⟩ := h.form
 obtain ⟨g, e2, _, h1, h2⟩ := hg (by omega)
 simp only [Value.slice.injEq, true_and] at e
 obtain ⟨rfl, rfl⟩ := e
 subst e2
 refine ⟨xs[i], g, List.getElem?_eq_getElem hx, rfl, h1, h2, fun j hj => ?_, fun j => h.own.frozenAt j⟩
 rw [h.own.cellAt _ (at_lt hi hj), flatMap_at K xs i _ (List.getElem?_eq_getElem hx) j hj]
theorem cloneN_o {o : Bool} {l u : Nat} (ab : Option Addr) (nb cb : Nat) (cs : List Value) (w : World) (h : RowAt w o l u 10 ab nb cb cs) (h1 : ∀ u ∈ cs, u.oneCell' = true) (hn : nb ≤ 1048576) :
  Calls Tryz.prog 238 #[.slice ab nb cb] w fun e w' => ∃ ra rc, e = .returned (.slice ra nb rc) ∧ w'.ownsRow w.heap.size 65 10 (.slice ra nb rc) nb cs ∧ Below w.heap.size w w' := by
 obtain ⟨j0, hj0, hy0, hy1, hy2⟩ := info_parts Tryz.infReplica
 have hq : ∀ W, (binOp .eql 28 (.slice ab nb cb) (.slice none 0 0)).run Tryz.prog W = .ok (.bool ab.isNone) W := fun W => Lib.run_eql_slice_nil W _ _ ab nb cb 0 0 Tryz.underlying28
 cases ab with
 | none =>
  simp only [Option.isNone_none] at hq
  have hz : nb = 0 := Decidable.byContradiction fun hne => by obtain ⟨_, _, e, _⟩ := h.cells hne; cases e
  subst hz
  have hbs : cs = [] := List.eq_nil_of_length_eq_zero (by have := h.len; omega)
  go_enter Tryz.func238, Tryz.ntmps238
  go_wp2
  go_ret
  exact ⟨none, 0, rfl, by rw [hbs]; exact World.ownsRow_nil _ _ _ _, Below.refl _ _⟩
 | some ad =>
  simp only [Option.isNone_some] at hq
  have B3 : Below w.heap.size w (w.alloc (.cells #[] 65)) := (Below.refl _ _).alloc (Nat.le_refl _) _
  have O3 : (w.alloc (.cells #[] 65)).ownsRow w.heap.size 65 10 (.slice (some ⟨w.heap.size, 0, none⟩) 0 0) 0 [] := World.ownsRow_made w #[] 0 (Nat.le_refl _) (Nat.zero_le _) rfl
  have hsrc : ∀ j u, cs[j]? = some u → (w.alloc (.cells #[] 65)).cell? (ad.add j) = some u := fun j u hj => by
   have hjl : j < cs.length := (List.getElem?_eq_some_iff.1 hj).1
   have hl := h.len
   obtain ⟨b, off, e, _, _, _, hc, _⟩ := (h.below B3).cells (by omega)
   obtain rfl : ad = ⟨b, off, none⟩ := by simpa using e
   rw [Addr.add_lit, hc j (by omega), List.getD_eq_getElem?_getD, hj]; rfl
  go_enter Tryz.func238, Tryz.ntmps238
  go_wp2_with (at_builtin; refine wpList_append_own _ rfl _ _ 28 rfl w.heap.size 65 j0 _ 10 144 Tryz.underlying28 hj0 hy0 hy1 hy2 rfl (by decide) _ 0 [] rfl O3 ad nb cb cs rfl h.len hsrc h1 (by unfold maxLen; omega) (by omega) (by simp) ?_; intro v2 w1 hown1 hg1 _)
  rw [List.nil_append, Nat.zero_add] at hown1
  have hg2 : (w.alloc (.cells #[] 65)).grownBy w1 (some w.heap.size) := hg1
  have BB := B3.trans (grown_below hg2 B3.size (fun k hk => by injection hk with hk; omega))
  obtain ⟨ra, rc, e9, _, _⟩ := owns_slice hown1
  subst e9
  have HO : Hid _ := hown1
  clear hown1 hg1 hg2
  go_wp2
  go_ret
  exact ⟨ra, rc, rfl, HO.out, BB⟩
theorem cloneM_o {o : Bool} {l u : Nat} (ab : Option Addr) (nb cb : Nat) (cs : List Value) (w : World) (h : RowAt w o l u 15 ab nb cb cs) (h1 : ∀ u ∈ cs, u.oneCell' = true) (hn : nb ≤ 1048576) :
  Calls Tryz.prog 239 #[.slice ab nb cb] w fun e w' => ∃ ra rc, e = .returned (.slice ra nb rc) ∧ w'.ownsRow w.heap.size 75 15 (.slice ra nb rc) nb cs ∧ Below w.heap.size w w' := by
 obtain ⟨j0, hj0, hy0, hy1, hy2⟩ := info_parts Tryz.infMail
 have hq : ∀ W, (binOp .eql 29 (.slice ab nb cb) (.slice none 0 0)).run Tryz.prog W = .ok (.bool ab.isNone) W := fun W => Lib.run_eql_slice_nil W _ _ ab nb cb 0 0 Tryz.underlying29
 cases ab with
 | none =>
  simp only [Option.isNone_none] at hq
  have hz : nb = 0 := Decidable.byContradiction fun hne => by obtain ⟨_, _, e, _⟩ := h.cells hne; cases e
  subst hz
  have hbs : cs = [] := List.eq_nil_of_length_eq_zero (by have := h.len; omega)
  go_enter Tryz.func239, Tryz.ntmps239
  go_wp2
  go_ret
  exact ⟨none, 0, rfl, by rw [hbs]; exact World.ownsRow_nil _ _ _ _, Below.refl _ _⟩
 | some ad =>
  simp only [Option.isNone_some] at hq
  have B3 : Below w.heap.size w (w.alloc (.cells #[] 75)) := (Below.refl _ _).alloc (Nat.le_refl _) _
  have O3 : (w.alloc (.cells #[] 75)).ownsRow w.heap.size 75 15 (.slice (some ⟨w.heap.size, 0, none⟩) 0 0) 0 [] := World.ownsRow_made w #[] 0 (Nat.le_refl _) (Nat.zero_le _) rfl
  have hsrc : ∀ j u, cs[j]? = some u → (w.alloc (.cells #[] 75)).cell? (ad.add j) = some u := fun j u hj => by
   have hjl : j < cs.length := (List.getElem?_eq_some_iff.1 hj).1
   have hl := h.len
   obtain ⟨b, off, e, _, _, _, hc, _⟩ := (h.below B3).cells (by omega)
   obtain rfl : ad = ⟨b, off, none⟩ := by simpa using e
   rw [Addr.add_lit, hc j (by omega), List.getD_eq_getElem?_getD, hj]; rfl
  go_enter Tryz.func239, Tryz.ntmps239
  go_wp2_with (at_builtin; refine wpList_append_own _ rfl _ _ 29 rfl w.heap.size 75 j0 _ 15 136 Tryz.underlying29 hj0 hy0 hy1 hy2 rfl (by decide) _ 0 [] rfl O3 ad nb cb cs rfl h.len hsrc h1 (by unfold maxLen; omega) (by omega) (by simp) ?_; intro v2 w1 hown1 hg1 _)
  rw [List.nil_append, Nat.zero_add] at hown1
  have hg2 : (w.alloc (.cells #[] 75)).grownBy w1 (some w.heap.size) := hg1
  have BB := B3.trans (grown_below hg2 B3.size (fun k hk => by injection hk with hk; omega))
  obtain ⟨ra, rc, e9, _, _⟩ := owns_slice hown1
  subst e9
  have HO : Hid _ := hown1
  clear hown1 hg1 hg2
  go_wp2
  go_ret
  exact ⟨ra, rc, rfl, HO.out, BB⟩
theorem nodes_one (xs : List Nod) : ∀ u ∈ xs.flatMap nodeK.cells, u.oneCell' = true := fun u hu => by
 obtain ⟨a, _, h⟩ := List.mem_flatMap.1 hu
 simp only [nodeK, repC, hv, List.mem_cons, List.not_mem_nil, or_false] at h
 rcases h with rfl | rfl | rfl | rfl | rfl | rfl | rfl | rfl | rfl | rfl <;> rfl
theorem mails_one (xs : List Mal) : ∀ u ∈ xs.flatMap mailK.cells, u.oneCell' = true := fun u hu => by
 obtain ⟨a, _, h⟩ := List.mem_flatMap.1 hu
 simp only [mailK, mlV, hv, List.mem_cons, List.not_mem_nil, or_false] at h
 rcases h with rfl | rfl | rfl | rfl | rfl | rfl | rfl | rfl | rfl | rfl | rfl | rfl | rfl | rfl | rfl <;> rfl
def CpyReplica (xs : List Nod) (w : World) (base : Nat) (v : Value) (n kk : Nat) : Prop := ∃ ys, GLk nodeK w base 65 v n ys kk ∧ ys.map (·.1) = xs.map (·.1) ∧ (∀ i, kk ≤ i → ys[i]? = xs[i]?) ∧ ∀ (i : Nat) (a : Nod), ys[i]? = some a → RSz a.2 1048576
theorem CpyReplica.below {xs : List Nod} {w W : World} {base n kk : Nat} {v : Value} (x : CpyReplica xs w base v n kk) (hb : Below w.heap.size w W) : CpyReplica xs W base v n kk := by
 obtain ⟨ys, G, e⟩ := x
 exact ⟨ys, G.below nodeOk hb, e⟩
theorem CpyReplica.there {xs : List Nod} {w : World} {base g n cap kk : Nat} (x : CpyReplica xs w base (.slice (some ⟨g, 0, none⟩) n cap) n kk) {i : Nat} (hi : i < n) : w.there g (i * 10) 10 := fun j hj => by
 obtain ⟨ys, G, _⟩ := x
 obtain ⟨a, g', _, e, _, _, hc, hf⟩ := G.el nodeOk hi
 simp only [Option.some.injEq, Addr.mk.injEq, and_true] at e
 subst e
 have t := hc j hj
 have hl := nodeOk.len a
 refine ⟨?_, hf _⟩
 show (w.cell? ⟨g, i * nodeK.sz + j, none⟩).isSome = true
 rw [t, List.getElem?_eq_getElem (by rw [hl]; exact hj)]; rfl
theorem CpyReplica.put {xs : List Nod} {w W : World} {base g n cap kk z u : Nat} (x : CpyReplica xs w base (.slice (some ⟨g, 0, none⟩) n cap) n kk) (hk : kk < n) {r : Rep} {h h' : RH} (ex : xs[kk]? = some (r, h)) (hb : Below w.heap.size w W) (hz : w.heap.size ≤ z) (hu : u ≤ W.heap.size) (y : nodeK.mem W true z u (r, h')) (hsz : (fun a : Nod => RSz a.2 1048576) (r, h')) :
  CpyReplica xs (W.setCells g (kk * 10) [.int .i64 r.id, .int .i64 r.size, .int .i64 r.view, .bool r.normal, .int .i64 r.last, .slice h'.L.1 h'.L.2.1 h'.L.2.2, .int .i64 r.commit, .slice h'.O.1 h'.O.2.1 h'.O.2.2, .slice h'.A.1 h'.A.2.1 h'.A.2.2, .slice h'.D.1 h'.D.2.1 h'.D.2.2]) base (.slice (some ⟨g, 0, none⟩) n cap) n (kk + 1) := by
 obtain ⟨ys, G, e1, e2, e3⟩ := x
 have ec : ys[kk]? = some (r, h) := by rw [e2 kk (Nat.le_refl _)]; exact ex
 have hg := G.own.lt g rfl
 have P := (G.below nodeOk hb).put nodeOk hk (r, h) (r, h') ec 0 [.int .i64 r.id, .int .i64 r.size, .int .i64 r.view, .bool r.normal, .int .i64 r.last, .slice h'.L.1 h'.L.2.1 h'.L.2.2, .int .i64 r.commit, .slice h'.O.1 h'.O.2.1 h'.O.2.2, .slice h'.A.1 h'.A.2.1 h'.A.2.2, .slice h'.D.1 h'.D.2.1 h'.D.2.2] (show 0 + 10 ≤ 10 by omega) (fun j hj => by rw [if_pos ⟨Nat.zero_le _, show j < 0 + 10 by have : j < 10 := hj; omega⟩, Nat.sub_zero]; rfl)
  (nodeOk.widen y (by omega) hu) (fun q hq => by have := nodeOk.inB y hq; omega) (fun j d hj ed q hq hq2 => by
   have h3 := nodeOk.inB y hq
   have h4 := (nodeOk.inB (G.each j d hj ed) hq2).2.2
   omega)
 have hxl : kk < ys.length := by rw [G.len]; exact hk
 refine ⟨ys.set kk (r, h'), P, ?_, fun i hi => by rw [List.getElem?_set_ne (by omega)]; exact e2 i (by omega), fun i a ea => ?_⟩
 ·rw [← e1]
  apply List.ext_getElem?
  intro i
  rw [List.getElem?_map, List.getElem?_map]
  by_cases c : i = kk
  ·subst c; rw [List.getElem?_set_self hxl, ec]; rfl
  ·rw [List.getElem?_set_ne (Ne.symm c)]
 ·by_cases c : i = kk
  ·subst c
   rw [List.getElem?_set_self hxl] at ea
   rw [← Option.some.inj ea]; exact hsz
  ·rw [List.getElem?_set_ne (Ne.symm c)] at ea; exact e3 i a ea
theorem copyNodes_o {own : Bool} {lo hi : Nat} (N : Hd) (xs : List Nod) (w : World) (x : LAt nodeK w own lo hi N.1 N.2.1 N.2.2 xs) (hn : N.2.1 ≤ 1048576) (hs : ∀ (i : Nat) (a : Nod), xs[i]? = some a → RSz a.2 1048576) :
  Calls Tryz.prog 177 #[.slice N.1 N.2.1 N.2.2] w fun e w' => ∃ (N' : Hd) (ys : List Nod), e = .returned (.slice N'.1 N'.2.1 N'.2.2) ∧ N'.2.1 = N.2.1 ∧ GrowL nodeK w' w.heap.size 65 (.slice N'.1 N'.2.1 N'.2.2) N'.2.1 ys ∧ ys.map (·.1) = xs.map (·.1) ∧ (∀ (i : Nat) (a : Nod), ys[i]? = some a → RSz a.2 1048576) ∧ Below w.heap.size w w' := by
 obtain ⟨na, n, nc⟩ := N
 simp only at hn x ⊢
 have HS : Hid _ := hs
 clear hs
 go_enter Tryz.func177, Tryz.ntmps177
 go_wp2_with fail
 refine (cloneN_o na n nc _ _ x.row (nodes_one xs) hn).mono ?_
 rintro e w1 ⟨ra, rc, rfl, O, BB⟩
 have C0 : CpyReplica xs w1 w.heap.size (.slice ra n rc) n 0 := ⟨xs, GLk.start x.len O, rfl, fun i _ => rfl, HS.out⟩
 have HC0 : Hid _ := C0
 have HB1 : Hid _ := BB
 clear O C0 BB
 go_wp2
 go_loopw [10] (fun i wr => ∃ k : Nat, k ≤ n ∧ i = .int .i64 k ∧ CpyReplica xs wr w.heap.size (.slice ra n rc) n k ∧ Below w.heap.size w wr) (fun i _ => n - (intOf i).toNat)
 case atStart => exact ⟨0, Nat.zero_le _, rfl, HC0.out, HB1.out⟩
 case round =>
  clear HC0 HB1
  obtain ⟨k, hk, rfl, C, hb⟩ := hrel
  by_cases hlt : k < n
  ·have hlk : (k : Int) < (n : Int) := by omega
   obtain ⟨r, h, b', f', ex, ex', -, -, -, y, -⟩ := (x.below nodeOk hb).node hlt
   have hmk := HS.out k _ ex
   obtain ⟨ys, G, e1, e2, e3⟩ := C
   obtain ⟨a, g, ea, rfl, hg1, hg2, hc, hf⟩ := G.el nodeOk hlt
   clear ex'
   have ea2 : a = (r, h) := by rw [e2 k (Nat.le_refl _), ex] at ea; exact (Option.some.inj ea).symm
   subst ea2
   have HC : Hid (CpyReplica xs wr w.heap.size (.slice (some ⟨g, 0, none⟩) n rc) n k) := ⟨ys, G, e1, e2, e3⟩
   have c9 : wr.cell? ⟨g, k * 10, none⟩ = [.int .i64 r.id, .int .i64 r.size, .int .i64 r.view, .bool r.normal, .int .i64 r.last, .slice h.L.1 h.L.2.1 h.L.2.2, .int .i64 r.commit, .slice h.O.1 h.O.2.1 h.O.2.2, .slice h.A.1 h.A.2.1 h.A.2.2, .slice h.D.1 h.D.2.1 h.D.2.2][0]? ∧ ∀ j, j < 10 → wr.cell? ⟨g, k * 10 + j, none⟩ = [.int .i64 r.id, .int .i64 r.size, .int .i64 r.view, .bool r.normal, .int .i64 r.last, .slice h.L.1 h.L.2.1 h.L.2.2, .int .i64 r.commit, .slice h.O.1 h.O.2.1 h.O.2.2, .slice h.A.1 h.A.2.1 h.A.2.2, .slice h.D.1 h.D.2.1 h.D.2.2][j]? := ⟨hc 0 (by decide), hc⟩
   have HF : Hid _ := hf
   have HX : Hid _ := ex
   have HH : Hid _ := hb
   have hsz := hb.size
   clear G e1 e2 e3 ea hc hf ex hb
   simp only at hmk
   go_wp2_with (first | ((with_reducible refine store_midX 65 X0 0 [.int .i64 r.id, .int .i64 r.size, .int .i64 r.view, .bool r.normal, .int .i64 r.last, .slice h.L.1 h.L.2.1 h.L.2.2, .int .i64 r.commit, .slice h.O.1 h.O.2.1 h.O.2.2, .slice h.A.1 h.A.2.1 h.A.2.2, .slice h.D.1 h.D.2.1 h.D.2.2] (by simp) (by kernel_rfl) (by simp [Value.oneCell']) rfl rfl ?_); intro V1 S; replace X0 : Bx V1 b0 [.int .i64 r.id, .int .i64 r.size, .int .i64 r.view, .bool r.normal, .int .i64 r.last, .slice h.L.1 h.L.2.1 h.L.2.2, .int .i64 r.commit, .slice h.O.1 h.O.2.1 h.O.2.2, .slice h.A.1 h.A.2.1 h.A.2.2, .slice h.D.1 h.D.2.1 h.D.2.2] := S.bx; replace c0 := X0.cell; replace f0 := X0.froz; replace B := bkp B S.kept; clear S) | ((with_reducible refine alloc_newX 65 [.int .i64 0, .int .i64 0, .int .i64 0, .bool false, .int .i64 0, .slice none 0 0, .int .i64 0, .slice none 0 0, .slice none 0 0, .slice none 0 0] (fun _ => by kernel_rfl) ?_); intro b0 W0 N0; have ob0 := N0.ge; have B := N0.below; have X0 := N0.bx; have c0 := X0.cell; have f0 := X0.froz; clear N0) | fail)
   clear c9
   refine (copyReplica_z r h _ (y.below B) hmk).mono ?_
   rintro e w2 ⟨z1, u1, h', rfl, Gz1, hy1, y1, s1, BB⟩
   have oz1 : wr.heap.size ≤ z1 := Nat.le_trans B.size Gz1
   have o0_z1 := ltl X0.lt Gz1
   clear Gz1
   replace X0 := X0.below BB
   replace c0 := X0.cell
   replace f0 := X0.froz
   replace B := below_next B BB
   clear BB
   have TH := (HC.out.below B).there hlt
   go_wp2_with (first | ((refine store_elP 65 TH [.int .i64 r.id, .int .i64 r.size, .int .i64 r.view, .bool r.normal, .int .i64 r.last, .slice h'.L.1 h'.L.2.1 h'.L.2.2, .int .i64 r.commit, .slice h'.O.1 h'.O.2.1 h'.O.2.2, .slice h'.A.1 h'.A.2.1 h'.A.2.2, .slice h'.D.1 h'.D.2.1 h'.D.2.2] (by simp) (by kernel_rfl) (by simp [Value.oneCell']) rfl rfl ?_); intro W5 hW5) | fail)
   have HC2 : Hid (CpyReplica xs W5 w.heap.size (.slice (some ⟨g, 0, none⟩) n rc) n (k + 1)) := by
    show CpyReplica _ _ _ _ _ _
    rw [hW5.eq]
    exact HC.out.put hlt HX.out B oz1 hy1 y1 s1
   have HB2 : Hid (Below w.heap.size w W5) := by
    show Below _ _ _
    rw [hW5.eq]
    exact (below_next HH.out B).trans ((kept_el g _ _).below _ hg1 (Nat.le_trans hsz B.size))
   clear hW5 B y1 hy1
   go_wp2
   go_roundw
   case rel => exact ⟨k + 1, by omega, by go_num, HC2.out, HB2.out⟩
   case measure => simp [intOf]; omega
  ·obtain rfl : k = n := by omega
   go_wp2
   go_ret
   obtain ⟨ys, G, e1, e2, e3⟩ := C
   exact ⟨(ra, k, rc), ys, rfl, rfl, G.full, e1, e3, hb⟩
def CpyMail (xs : List Mal) (w : World) (base : Nat) (v : Value) (n kk : Nat) : Prop := ∃ ys, GLk mailK w base 75 v n ys kk ∧ ys.map (·.1) = xs.map (·.1) ∧ (∀ i, kk ≤ i → ys[i]? = xs[i]?) ∧ ∀ (i : Nat) (a : Mal), ys[i]? = some a → a.2.2.1 ≤ 1048576
theorem CpyMail.below {xs : List Mal} {w W : World} {base n kk : Nat} {v : Value} (x : CpyMail xs w base v n kk) (hb : Below w.heap.size w W) : CpyMail xs W base v n kk := by
 obtain ⟨ys, G, e⟩ := x
 exact ⟨ys, G.below mailOk hb, e⟩
theorem CpyMail.there {xs : List Mal} {w : World} {base g n cap kk : Nat} (x : CpyMail xs w base (.slice (some ⟨g, 0, none⟩) n cap) n kk) {i : Nat} (hi : i < n) : w.there g (i * 15) 15 := fun j hj => by
 obtain ⟨ys, G, _⟩ := x
 obtain ⟨a, g', _, e, _, _, hc, hf⟩ := G.el mailOk hi
 simp only [Option.some.injEq, Addr.mk.injEq, and_true] at e
 subst e
 have t := hc j hj
 have hl := mailOk.len a
 refine ⟨?_, hf _⟩
 show (w.cell? ⟨g, i * mailK.sz + j, none⟩).isSome = true
 rw [t, List.getElem?_eq_getElem (by rw [hl]; exact hj)]; rfl
theorem CpyMail.put {xs : List Mal} {w W : World} {base g n cap kk z u : Nat} (x : CpyMail xs w base (.slice (some ⟨g, 0, none⟩) n cap) n kk) (hk : kk < n) {m : Ml} {h h' : Hd} (ex : xs[kk]? = some (m, h)) (hb : Below w.heap.size w W) (hz : w.heap.size ≤ z) (hu : u ≤ W.heap.size) (y : mailK.mem W true z u (m, h')) (hsz : (fun a : Mal => a.2.2.1 ≤ 1048576) (m, h')) :
  CpyMail xs (W.setCells g (kk * 15 + 13) [.slice h'.1 h'.2.1 h'.2.2]) base (.slice (some ⟨g, 0, none⟩) n cap) n (kk + 1) := by
 obtain ⟨ys, G, e1, e2, e3⟩ := x
 have ec : ys[kk]? = some (m, h) := by rw [e2 kk (Nat.le_refl _)]; exact ex
 have hg := G.own.lt g rfl
 have P := (G.below mailOk hb).put mailOk hk (m, h) (m, h') ec 13 [.slice h'.1 h'.2.1 h'.2.2] (show 13 + 1 ≤ 15 by omega) (fun j hj => by
   have hj' : j < 15 := hj
   rcases (by omega : j = 0 ∨ j = 1 ∨ j = 2 ∨ j = 3 ∨ j = 4 ∨ j = 5 ∨ j = 6 ∨ j = 7 ∨ j = 8 ∨ j = 9 ∨ j = 10 ∨ j = 11 ∨ j = 12 ∨ j = 13 ∨ j = 14) with rfl | rfl | rfl | rfl | rfl | rfl | rfl | rfl | rfl | rfl | rfl | rfl | rfl | rfl | rfl <;> rfl)
  (mailOk.widen y (by omega) hu) (fun q hq => by have := mailOk.inB y hq; omega) (fun j d hj ed q hq hq2 => by
   have h3 := mailOk.inB y hq
   have h4 := (mailOk.inB (G.each j d hj ed) hq2).2.2
   omega)
 have hxl : kk < ys.length := by rw [G.len]; exact hk
 refine ⟨ys.set kk (m, h'), P, ?_, fun i hi => by rw [List.getElem?_set_ne (by omega)]; exact e2 i (by omega), fun i a ea => ?_⟩
 ·rw [← e1]
  apply List.ext_getElem?
  intro i
  rw [List.getElem?_map, List.getElem?_map]
  by_cases c : i = kk
  ·subst c; rw [List.getElem?_set_self hxl, ec]; rfl
  ·rw [List.getElem?_set_ne (Ne.symm c)]
 ·by_cases c : i = kk
  ·subst c
   rw [List.getElem?_set_self hxl] at ea
   rw [← Option.some.inj ea]; exact hsz
  ·rw [List.getElem?_set_ne (Ne.symm c)] at ea; exact e3 i a ea
theorem copyMails_o {own : Bool} {lo hi : Nat} (N : Hd) (xs : List Mal) (w : World) (x : LAt mailK w own lo hi N.1 N.2.1 N.2.2 xs) (hn : N.2.1 ≤ 1048576) (hs : ∀ (i : Nat) (a : Mal), xs[i]? = some a → a.2.2.1 ≤ 1048576) :
  Calls Tryz.prog 178 #[.slice N.1 N.2.1 N.2.2] w fun e w' => ∃ (N' : Hd) (ys : List Mal), e = .returned (.slice N'.1 N'.2.1 N'.2.2) ∧ N'.2.1 = N.2.1 ∧ GrowL mailK w' w.heap.size 75 (.slice N'.1 N'.2.1 N'.2.2) N'.2.1 ys ∧ ys.map (·.1) = xs.map (·.1) ∧ (∀ (i : Nat) (a : Mal), ys[i]? = some a → a.2.2.1 ≤ 1048576) ∧ Below w.heap.size w w' := by
 obtain ⟨na, n, nc⟩ := N
 simp only at hn x ⊢
 have HS : Hid _ := hs
 clear hs
 go_enter Tryz.func178, Tryz.ntmps178
 go_wp2_with fail
 refine (cloneM_o na n nc _ _ x.row (mails_one xs) hn).mono ?_
 rintro e w1 ⟨ra, rc, rfl, O, BB⟩
 have C0 : CpyMail xs w1 w.heap.size (.slice ra n rc) n 0 := ⟨xs, GLk.start x.len O, rfl, fun i _ => rfl, HS.out⟩
 have HC0 : Hid _ := C0
 have HB1 : Hid _ := BB
 clear O C0 BB
 go_wp2
 go_loopw [10] (fun i wr => ∃ k : Nat, k ≤ n ∧ i = .int .i64 k ∧ CpyMail xs wr w.heap.size (.slice ra n rc) n k ∧ Below w.heap.size w wr) (fun i _ => n - (intOf i).toNat)
 case atStart => exact ⟨0, Nat.zero_le _, rfl, HC0.out, HB1.out⟩
 case round =>
  clear HC0 HB1
  obtain ⟨k, hk, rfl, C, hb⟩ := hrel
  by_cases hlt : k < n
  ·have hlk : (k : Int) < (n : Int) := by omega
   obtain ⟨m, h, b', f', ex, ex', -, -, -, y, -⟩ := (x.below mailOk hb).mail hlt
   have hmk := HS.out k _ ex
   obtain ⟨ys, G, e1, e2, e3⟩ := C
   obtain ⟨a, g, ea, rfl, hg1, hg2, hc, hf⟩ := G.el mailOk hlt
   clear ex'
   have ea2 : a = (m, h) := by rw [e2 k (Nat.le_refl _), ex] at ea; exact (Option.some.inj ea).symm
   subst ea2
   have HC : Hid (CpyMail xs wr w.heap.size (.slice (some ⟨g, 0, none⟩) n rc) n k) := ⟨ys, G, e1, e2, e3⟩
   have c9 : wr.cell? ⟨g, k * 15, none⟩ = [.int .i64 m.kind, .int .i64 m.fr, .int .i64 m.to, .int .i64 m.view, .int .i64 m.at_, .bool m.has, .int .i64 m.en.1, .int .i64 m.en.2.1, .int .i64 m.en.2.2.1, .int .i64 m.en.2.2.2.1, .int .i64 m.en.2.2.2.2.1, .int .i64 m.en.2.2.2.2.2, .int .i64 m.last, .slice h.1 h.2.1 h.2.2, .int .i64 m.commit][0]? ∧ ∀ j, j < 15 → wr.cell? ⟨g, k * 15 + j, none⟩ = [.int .i64 m.kind, .int .i64 m.fr, .int .i64 m.to, .int .i64 m.view, .int .i64 m.at_, .bool m.has, .int .i64 m.en.1, .int .i64 m.en.2.1, .int .i64 m.en.2.2.1, .int .i64 m.en.2.2.2.1, .int .i64 m.en.2.2.2.2.1, .int .i64 m.en.2.2.2.2.2, .int .i64 m.last, .slice h.1 h.2.1 h.2.2, .int .i64 m.commit][j]? := ⟨hc 0 (by decide), hc⟩
   have HF : Hid _ := hf
   have HX : Hid _ := ex
   have HH : Hid _ := hb
   have hsz := hb.size
   clear G e1 e2 e3 ea hc hf ex hb
   simp only at hmk
   go_wp2_with (first | ((with_reducible refine store_midX 75 X0 0 [.int .i64 m.kind, .int .i64 m.fr, .int .i64 m.to, .int .i64 m.view, .int .i64 m.at_, .bool m.has, .int .i64 m.en.1, .int .i64 m.en.2.1, .int .i64 m.en.2.2.1, .int .i64 m.en.2.2.2.1, .int .i64 m.en.2.2.2.2.1, .int .i64 m.en.2.2.2.2.2, .int .i64 m.last, .slice h.1 h.2.1 h.2.2, .int .i64 m.commit] (by simp) (by kernel_rfl) (by simp [Value.oneCell']) rfl rfl ?_); intro V1 S; replace X0 : Bx V1 b0 [.int .i64 m.kind, .int .i64 m.fr, .int .i64 m.to, .int .i64 m.view, .int .i64 m.at_, .bool m.has, .int .i64 m.en.1, .int .i64 m.en.2.1, .int .i64 m.en.2.2.1, .int .i64 m.en.2.2.2.1, .int .i64 m.en.2.2.2.2.1, .int .i64 m.en.2.2.2.2.2, .int .i64 m.last, .slice h.1 h.2.1 h.2.2, .int .i64 m.commit] := S.bx; replace c0 := X0.cell; replace f0 := X0.froz; replace B := bkp B S.kept; clear S) | ((with_reducible refine alloc_newX 75 [.int .i64 0, .int .i64 0, .int .i64 0, .int .i64 0, .int .i64 0, .bool false, .int .i64 0, .int .i64 0, .int .i64 0, .int .i64 0, .int .i64 0, .int .i64 0, .int .i64 0, .slice none 0 0, .int .i64 0] (fun _ => by kernel_rfl) ?_); intro b0 W0 N0; have ob0 := N0.ge; have B := N0.below; have X0 := N0.bx; have c0 := X0.cell; have f0 := X0.froz; clear N0) | fail)
   clear c9
   refine (cloneE_z h.1 h.2.1 h.2.2 m.log _ (y.below B) hmk).mono ?_
   rintro e w2 ⟨ra', rc', z1, u1, rfl, Gz1, _, hy1, y1, BB⟩
   have oz1 : wr.heap.size ≤ z1 := Nat.le_trans B.size Gz1
   have o0_z1 := ltl X0.lt Gz1
   clear Gz1
   replace X0 := X0.below BB
   replace c0 := X0.cell
   replace f0 := X0.froz
   replace B := below_next B BB
   clear BB
   obtain ⟨tc, tf⟩ := (HC.out.below B).there hlt 13 (by decide)
   obtain ⟨tv, tc⟩ := Option.isSome_iff_exists.1 tc
   go_wp2_with (first | ((refine store_oneM 30 (b := g) (k := k * 15 + 13) tc tf (.slice ra' h.2.1 rc') (by kernel_rfl) rfl rfl rfl ?_); intro W5 hW5) | fail)
   have HC2 : Hid (CpyMail xs W5 w.heap.size (.slice (some ⟨g, 0, none⟩) n rc) n (k + 1)) := by
    show CpyMail _ _ _ _ _ _
    rw [hW5.eq]
    exact HC.out.put (h' := (ra', h.2.1, rc')) hlt HX.out B oz1 hy1 y1 hmk
   have HB2 : Hid (Below w.heap.size w W5) := by
    show Below _ _ _
    rw [hW5.eq]
    exact (below_next HH.out B).trans ((kept_el g (k * 15 + 13) [.slice ra' h.2.1 rc']).below _ hg1 (Nat.le_trans hsz B.size))
   clear hW5 B y1 hy1
   go_wp2
   go_roundw
   case rel => exact ⟨k + 1, by omega, by go_num, HC2.out, HB2.out⟩
   case measure => simp [intOf]; omega
  ·obtain rfl : k = n := by omega
   go_wp2
   go_ret
   obtain ⟨ys, G, e1, e2, e3⟩ := C
   exact ⟨(ra, k, rc), ys, rfl, rfl, G.full, e1, e3, hb⟩
theorem seal_is {own : Bool} {lo hi base b0 : Nat} (N M S : Hd) (xs : List Nod) (ys : List Mal) (es : List En) (q : Rep) (h : RH) (w : World) (x : LiveAt w 75 base b0 N M S xs ys es) (hbw : base ≤ w.heap.size) (y : RepAt w own lo hi h q) (hs : RSz h 1048576) (hc : 0 ≤ q.commit ∧ q.commit ≤ q.log.length) :
  Calls Tryz.prog 232 #[.pointer (some ⟨b0, 0, none⟩), .agg #[.int .i64 q.id, .int .i64 q.size, .int .i64 q.view, .bool q.normal, .int .i64 q.last, .slice h.L.1 h.L.2.1 h.L.2.2, .int .i64 q.commit, .slice h.O.1 h.O.2.1 h.O.2.2, .slice h.A.1 h.A.2.1 h.A.2.2, .slice h.D.1 h.D.2.1 h.D.2.2]] w fun e w' => e = .returned (.tuple #[]) ∧ SealRes w w' 75 base b0 N M S xs ys (sealE q es) := by
 obtain ⟨id, size, view, normal, last, log, commit, oks, asks, doers⟩ := q
 obtain ⟨L, O, A, D, K⟩ := h
 simp only at hc
 obtain ⟨cm, hcm⟩ : ∃ cm : Nat, commit = (cm : Int) := ⟨commit.toNat, by omega⟩
 subst hcm
 have hlL : log.length = L.2.1 := y.log.nSixs
 have hcl : cm ≤ L.2.1 := by have := hc.2; omega
 have hle := y.log.le
 have hLs : L.2.1 ≤ 1048576 := hs.L
 have hel := x.slog.nSixs
 have HSE : Hid (sealE ⟨id, size, view, normal, last, log, (cm : Int), oks, asks, doers⟩ es = if S.2.1 < cm then log.take cm else es) := by
  show _ = _
  unfold sealE
  simp only [hel, Int.toNat_natCast]
  by_cases c : S.2.1 < cm
  ·rw [if_pos c, if_pos (by omega)]
  ·rw [if_neg c, if_neg (by omega)]
 have HY : Hid (RowAt w own lo hi 6 L.1 L.2.1 L.2.2 (sixs log)) := y.log
 have HX : Hid _ := x
 have X0 := x.bx
 have c0 := X0.cell
 have f0 := X0.froz
 have ob0 := X0.lt
 clear y hs hc x hlL hel
 go_enter Tryz.func232, Tryz.ntmps232
 go_wp2_with (first | ((have g := ob0); clear g; (with_reducible refine box_newX 65 [.int .i64 id, .int .i64 size, .int .i64 view, .bool normal, .int .i64 last, .slice L.1 L.2.1 L.2.2, .int .i64 (cm : Int), .slice O.1 O.2.1 O.2.2, .slice A.1 A.2.1 A.2.2, .slice D.1 D.2.1 D.2.2] rfl ?_); intro b1 W1 N1; have ob1 := N1.ge; have o0_b1 := ltl X0.lt N1.ge; replace X0 := X0.below N1.below; replace c0 := X0.cell; replace f0 := X0.froz; have B := N1.below; have X1 := N1.bx; have c1 := X1.cell; clear N1) | fail)
 go_quiet (fail)
 have DQ : Below W1.heap.size W1 (W1.drewN nq) := below_drewN (Below.refl _ _) nq
 replace X0 := X0.below DQ
 replace c0 := X0.cell
 replace f0 := X0.froz
 replace X1 := X1.below DQ
 replace c1 := X1.cell
 replace B := below_next B DQ
 clear DQ
 generalize W1.drewN nq = wq at *
 by_cases hq : S.2.1 < cm
 rotate_left 1
 ·have hq2 : ¬ (S.2.1 : Int) < (cm : Int) := by omega
  go_wp2
  go_end0
  rw [HSE.out, if_neg hq]
  exact ⟨rfl, ⟨S, HX.out.below B, fun k hk => Or.inl hk⟩, ⟨B.os, B.tape, B.output, B.size, fun k hk _ => B.block k hk⟩⟩
 have hq2 : (S.2.1 : Int) < (cm : Int) := by omega
 obtain ⟨lb, lf, eL, -⟩ := HY.out.cells (by omega)
 obtain ⟨L1, Ln, Lc⟩ := L
 simp only at eL hcl hle hLs
 subst eL
 have hcc : (cm : Int) ≤ (Lc : Int) := by omega
 have HP : Hid _ := HY.out.preE hcl
 have hcs : cm ≤ 1048576 := by omega
 go_wp2_with fail
 refine (cloneE_z (some ⟨lb, lf, none⟩) cm Lc (log.take cm) _ (HP.out.below B) hcs).mono ?_
 rintro e w2 ⟨ra, rc, zs, us, rfl, Gzs, -, hys, ys', BB⟩
 have ozs : w.heap.size ≤ zs := Nat.le_trans B.size Gzs
 have o0_zs := ltl X0.lt Gzs
 have o1_zs := ltl X1.lt Gzs
 clear Gzs
 replace X0 := X0.below BB
 replace c0 := X0.cell
 replace f0 := X0.froz
 replace X1 := X1.below BB
 replace c1 := X1.cell
 replace B := below_next B BB
 clear BB
 go_wp2_with (first | ((with_reducible refine store_oneX 30 X0 2 (.slice ra cm rc) (by simp) (by kernel_rfl) rfl rfl rfl ?_); intro W5 PX) | fail)
 go_end0
 rw [HSE.out, if_pos hq]
 have x2 := HX.out.below B
 have hin : ∀ k, inL nodeK N.1 N.2.1 xs k → k < zs ∨ us ≤ k := fun k hk => by have := HX.out.nodes.inB hk; have := B.size; omega
 have hiv : ∀ k, inV M ys k → k < zs ∨ us ≤ k := fun k hk => by have := HX.out.mails.inB hk; omega
 refine ⟨rfl, ⟨(ra, cm, rc), x2.setS ys' (by omega) hin hiv (Or.inl (by omega)) hcs PX, fun k hk => Or.inr (by have := ys'.inB hk; omega)⟩, ?_⟩
 have hb : b0 < w.heap.size := HX.out.bx.lt
 exact ⟨PX.kept.os.trans B.os, PX.kept.tape.trans B.tape, PX.kept.output.trans B.output, Nat.le_trans B.size PX.kept.size, fun k hk hne => (PX.kept.block k (Nat.lt_of_lt_of_le hk B.size) (by omega)).trans (B.block k hk)⟩
def nplC (d : Int) (n : Nat) (v : Int) : Int := if d = 0 then (if 0 ≤ v ∧ v ≤ (n : Int) - 1 then 0 else 3) else d
theorem nodePl_is {own : Bool} {lo hi : Nat} (N M Sl : Hd) (xs : List Nod) (ms : List Mal) (es : List En) (v : Int) (w : World) (x : ClAt w own lo hi N M Sl xs ms es) (hs : ClSz N M Sl xs ms 1048576) (c : Int) (hc : cluF (xs.map (·.1)) (ms.map (·.1)) es = c) (d : Int) (hd : nplC c N.2.1 v = d) :
  Calls Tryz.prog 168 #[.agg #[.slice N.1 N.2.1 N.2.2, .slice M.1 M.2.1 M.2.2, .slice Sl.1 Sl.2.1 Sl.2.2], .int .i64 v] w fun e w' => e = .returned (.int .i64 d) ∧ Below w.heap.size w w' := by
 have HD : Hid _ := hd
 have HC : Hid _ := hc
 clear hd hc
 go_enter Tryz.func168, Tryz.ntmps168
 go_wp2_with (first | ((with_reducible refine box_newX 32 [.slice N.1 N.2.1 N.2.2, .slice M.1 M.2.1 M.2.2, .slice Sl.1 Sl.2.1 Sl.2.2] rfl ?_); intro b0 W0 N0; have ob0 := N0.ge; have B := N0.below; have X0 := N0.bx; have c0 := X0.cell; clear N0) | fail)
 refine (implClF_is N M Sl xs ms es _ (x.below B) hs c HC.out).mono ?_
 rintro e w1 ⟨rfl, BB⟩
 replace X0 := X0.below BB
 replace c0 := X0.cell
 replace B := below_next B BB
 clear BB
 by_cases q2 : c = 0
 rotate_left 1
 ·have q2' : (c != 0) = true := by simp [q2]
  have e : d = c := by rw [← HD.out]; exact if_neg q2
  subst e
  clear HD HC
  go_wp2
  go_ret
  exact ⟨rfl, B⟩
 subst q2
 have HD2 := HD.out
 unfold nplC at HD2
 rw [if_pos rfl] at HD2
 replace HD : Hid _ := HD2
 clear HD2
 go_wp2_with fail
 by_cases q0 : 0 ≤ v ∧ v ≤ (N.2.1 : Int) - 1
 rotate_left 1
 ·have e : d = 3 := by rw [← HD.out]; exact if_neg q0
  subst e
  clear HD
  refine (isPlaceOf_is N.2.1 v _ false (by simp only [decide_eq_false_eq]; exact q0)).mono ?_
  rintro e W9 ⟨rfl, rfl⟩
  go_wp2
  go_ret
  exact ⟨rfl, B⟩
 have e : d = 0 := by rw [← HD.out]; exact if_pos q0
 subst e
 clear HD
 refine (isPlaceOf_is N.2.1 v _ true (by simp only [decide_eq_true_eq]; exact q0)).mono ?_
 rintro e W9 ⟨rfl, rfl⟩
 go_wp2
 go_ret
 exact ⟨rfl, B⟩
theorem step_allocX {P : Program} {ops : Array Oper} {dst : Option Tmp} {type : TypeId} {pos : String} {after : Array Edge} {a : Act} {w : World} {K : Act → World → Prop} {Q : Exit → Act → World → Prop} {E : Prop} (ty : TypeId) (cs : List Value) (hz : ∀ w, (zeroValue ty).run P w = .ok (.agg cs.toArray) w)
  (h : ∀ (b : Nat) (W : World), NewX w W b cs → K (a.put dst (.pointer (some ⟨b, 0, none⟩))) W) : if Region.wanted ⟨dst, .alloc ty, type, pos, after, none⟩ (yielded ops a.tmps) = true then Oper.wp P ⟨dst, .alloc ty, type, pos, after, none⟩ a w K Q else E := by
 have hw : Region.wanted ⟨dst, .alloc ty, type, pos, after, none⟩ (yielded ops a.tmps) = true := by simp [Region.wanted]
 rw [if_pos hw]
 unfold Oper.wp execOp
 go_simp
 exact h _ _ (by simpa using newX_mk w cs.toArray ty)
def GatRes (w w' : World) (T : TypeId) (base b : Nat) (N Sd : Hd) (xs : List Nod) (ys : List Mal) (es : List En) (M0 : Hd) : Prop := (∃ M' : Hd, LiveAt w' T base b N M' Sd xs ys es) ∧ KeptS (fun k => k = b ∨ (hv M0).ownBlock = some k) w w'
theorem gather_is {lo hi base b0 : Nat} (N M Sd : Hd) (xs : List Nod) (ys : List Mal) (es : List En) (s : Hd) (zs : List Mal) (w : World) (x : LiveAt w 75 base b0 N M Sd xs ys es) (hbw : base ≤ w.heap.size) (h120 : M.2.1 ≤ 120) (y : LAt mailK w true lo hi s.1 s.2.1 s.2.2 zs) (hlo : base ≤ lo) (hhi : hi ≤ w.heap.size) (hap : ∀ (i : Nat) (a : Mal), zs[i]? = some a → ∀ k, mailK.inn a k → ¬ inL nodeK N.1 N.2.1 xs k ∧ ¬ inV M ys k ∧ ¬ hR Sd k ∧ k ≠ b0) (hsz : ∀ (i : Nat) (a : Mal), zs[i]? = some a → a.2.2.1 ≤ 1048576) :
  Calls Tryz.prog 231 #[.pointer (some ⟨b0, 0, none⟩), .slice s.1 s.2.1 s.2.2] w fun e w' => e = .returned (.tuple #[]) ∧ GatRes w w' 75 base b0 N Sd xs (ys ++ zs.take (120 - ys.length)) es M := by
 obtain ⟨kk, hkk⟩ : ∃ kk : Nat, kk = min (120 - M.2.1) s.2.1 := ⟨_, rfl⟩
 have hyl : ys.length = M.2.1 := x.mails.gr.len
 have hzl : zs.length = s.2.1 := y.len
 have HT : Hid (zs.take (120 - ys.length) = zs.take kk) := by
  show _ = _
  rw [hyl, hkk]
  by_cases c : 120 - M.2.1 ≤ s.2.1
  ·rw [Nat.min_eq_left c]
  ·rw [Nat.min_eq_right (by omega), List.take_of_length_le (by omega), List.take_of_length_le (by omega)]
 have hk1 : kk ≤ s.2.1 := by omega
 have hk2 : M.2.1 + kk ≤ 120 := by omega
 have hmin : (if (s.2.1 : Int) < 120 - (M.2.1 : Int) then (s.2.1 : Int) else 120 - (M.2.1 : Int)) = (kk : Int) := by split <;> omega
 have YP := y.pre mailOk hk1
 have gets : ∀ (i : Nat) (a : Mal), (zs.take kk)[i]? = some a → zs[i]? = some a := fun i a e => by
  have hi : i < kk := by have := (List.getElem?_eq_some_iff.1 e).1; rw [List.length_take] at this; omega
  rwa [List.getElem?_take_of_lt hi] at e
 obtain ⟨i0, hi0, ha0, hb0, hc0⟩ := info_parts Tryz.infMail
 have hcap := y.row.le
 have hw1 : IntKind.i64.wrap ((120 : Int) - (M.2.1 : Int)) = 120 - (M.2.1 : Int) := wrapI_same _ (by omega)
 have hkc : (kk : Int) ≤ (s.2.2 : Int) := by omega
 have hk0 : ¬ (kk : Int) < 0 := by omega
 have X0 := x.bx
 have c0 := X0.cell
 have f0 := X0.froz
 have ob0 := X0.lt
 have HX : Hid _ := x
 have HYP : Hid _ := YP
 have HG : Hid _ := gets
 have HAP : Hid _ := hap
 have HSZ : Hid _ := hsz
 have HLH : Hid (base ≤ lo ∧ hi ≤ w.heap.size) := ⟨hlo, hhi⟩
 have HBW : Hid _ := hbw
 clear x y YP gets hkk hap hsz hlo hhi hbw
 go_enter Tryz.func231, Tryz.ntmps231
 go_wp2_with fail
 have DQ : Below w.heap.size w w.drew := (Below.refl _ _).drew
 obtain ⟨M', W2, hr, KS, hL, X2⟩ := (HX.out.below DQ).app (P := Tryz.prog) (Nat.le_trans HBW.out DQ.size) 29 i0 (.agg #[.int .i64 0, .int .i64 0, .int .i64 0, .int .i64 0, .int .i64 0, .bool false, .int .i64 0, .int .i64 0, .int .i64 0, .int .i64 0, .int .i64 0, .int .i64 0, .int .i64 0, .slice none 0 0, .int .i64 0]) 136 Tryz.underlying29 hi0 ha0 hb0 hc0 rfl (by omega) s.1 kk s.2.2 (zs.take kk) (HYP.out.below mailOk DQ).row HYP.out.len (fun i a e => mailOk.widen (mailOk.below (HYP.out.each i a e) DQ) HLH.out.1 (Nat.le_trans HLH.out.2 DQ.size)) (fun i a e => HAP.out i a (HG.out i a e)) (fun i j a c e1 e2 => HYP.out.sep rfl i j a c e1 e2) (by omega) (fun i a e => HSZ.out i a (HG.out i a e))
 have HL : Hid _ := hL
 have HKS : Hid _ := KS
 replace X0 := X0.below DQ
 replace c0 := X0.cell
 replace f0 := X0.froz
 clear hL KS DQ hi0 ha0 hb0 hc0
 refine wp_region_held_drew (S := (fun _ => True)) (by kernel_rfl) trivial (fun hZq => ?_)
 refine tk 0 hZq ?_
 refine tk 1 hZq ?_
 refine tk 2 hZq ?_
 refine tk 3 hZq ?_
 refine tk 4 hZq ?_
 refine tk 6 hZq ?_
 refine tk 7 hZq ?_
 refine tk 8 hZq ?_
 refine tk 9 hZq ?_
 refine tk 10 hZq ?_
 refine tk 11 hZq ?_
 refine rd1 5 (fun KK hKK => ?_)
 rw [if_pos (by simp [Region.wanted])]
 unfold Oper.wp execOp
 go_simp
 clear hZq
 refine hKK _ _ trivial (fun hZq => ?_)
 clear hKK KK
 refine rd1 12 (fun KK hKK => ?_)
 refine step_append_run rfl _ _ _ _ rfl _ _ rfl rfl _ _ (hr _) ?_
 clear hZq
 refine hKK _ _ trivial (fun hZq => ?_)
 clear hKK KK
 refine tk 13 hZq ?_
 refine tk 14 hZq ?_
 refine tk 15 hZq ?_
 refine rd1 16 (fun KK hKK => ?_)
 refine step_oneX 29 X2 1 (.slice M'.1 M'.2.1 M'.2.2) (by simp) (by kernel_rfl) rfl rfl rfl ?_
 intro W3 PX
 clear hZq
 refine hKK _ _ trivial (fun hZq => ?_)
 clear hKK KK
 refine wpAnyH_done (by kernel_rfl) ?_ _
 go_end0
 rw [HT.out]
 exact ⟨rfl, ⟨M', HL.out W3 PX⟩, KeptS.thenB (Below.drew (Below.refl _ _)) ((HKS.out.andS (KeptS.one PX.kept)).imp fun k hk => hk.elim Or.inr Or.inl)⟩
end Go.Proofs.YtgldocaohcoleaaGreat
