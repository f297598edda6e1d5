/- Chapter 11: nodes and mails copied by the program. -/
import Derived.Test.YtclghfoinologaaGreatQAV
set_option maxRecDepth 20000
set_option maxHeartbeats 16000000
namespace Go.Proofs.YtclghfoinologaaGreat
open Go.RowKit
theorem GLk.el {α : Type} {k : Kd α} {w : World} {base : Nat} {T : TypeId} {ra : Option Addr} {rc n : Nat} {xs : List α} {kk : Nat} (K : KdOk k) (h : GLk k w base T (.slice ra n rc) n xs kk) {i : Nat} (hi : i < n) : ∃ a g, xs[i]? = some a ∧ ra = some ⟨g, 0, none⟩ ∧ base ≤ g ∧ g < w.heap.size ∧ (∀ j, j < k.sz → w.cell? ⟨g, i * k.sz + j, none⟩ = (k.cells a)[j]?) ∧ (∀ j, w.frozen? ⟨g, j, none⟩ = false) := by
 have hx : i < xs.length := by rw [h.len];exact hi
 obtain ⟨ao, cap, e, R, hg⟩ := h.form
 obtain ⟨g, e2, _, h1, h2⟩ := hg (by omega)
 simp only [Value.slice.injEq, true_and] at e
 obtain ⟨rfl, rfl⟩ := e
 subst e2
 refine ⟨xs[i], g, List.getElem?_eq_getElem hx, rfl, h1, h2, fun j hj => ?_, fun j => h.own.frozenAt j⟩
 rw [h.own.cellAt _ (at_lt hi hj), flatMap_at K xs i _ (List.getElem?_eq_getElem hx) j hj]
theorem cloneN_o {o : Bool} {l u : Nat} (ab : Option Addr) (nb cb : Nat) (cs : List Value) (w : World) (h : RowAt w o l u 10 ab nb cb cs) (h1 : ∀ u ∈ cs, u.oneCell' = true) (hn : nb ≤ 1048576) :
  Calls Tryz.prog 117 #[.slice ab nb cb] w fun e w' => ∃ ra rc, e = .returned (.slice ra nb rc) ∧ w'.ownsRow w.heap.size 63 10 (.slice ra nb rc) nb cs ∧ Below w.heap.size w w' := by
 obtain ⟨j0, hj0, hy0, hy1, hy2⟩ := info_parts Tryz.infReplica
 have hq : ∀ W, (binOp .eql 32 (.slice ab nb cb) (.slice none 0 0)).run Tryz.prog W = .ok (.bool ab.isNone) W := fun W => Lib.run_eql_slice_nil W _ _ ab nb cb 0 0 Tryz.underlying32
 cases ab with
 | none =>
  simp only [Option.isNone_none] at hq
  have hz : nb = 0 := Decidable.byContradiction fun hne => by obtain ⟨_, _, e, _⟩ := h.cells hne;cases e
  subst hz
  have hbs : cs = [] := List.eq_nil_of_length_eq_zero (by have := h.len;omega)
  go_enter Tryz.func117, Tryz.ntmps117
  go_wp2;go_ret
  exact ⟨none, 0, rfl, by rw [hbs];exact World.ownsRow_nil _ _ _ _, Below.refl _ _⟩
 | some ad =>
  simp only [Option.isNone_some] at hq
  have B3 : Below w.heap.size w (w.alloc (.cells #[] 63)) := (Below.refl _ _).alloc (Nat.le_refl _) _
  have O3 : (w.alloc (.cells #[] 63)).ownsRow w.heap.size 63 10 (.slice (some ⟨w.heap.size, 0, none⟩) 0 0) 0 [] := World.ownsRow_made w #[] 0 (Nat.le_refl _) (Nat.zero_le _) rfl
  have hsrc : ∀ j u, cs[j]? = some u → (w.alloc (.cells #[] 63)).cell? (ad.add j) = some u := fun j u hj => by
   have hjl : j < cs.length := (List.getElem?_eq_some_iff.1 hj).1
   have hl := h.len
   obtain ⟨b, off, e, _, _, _, hc, _⟩ := (h.below B3).cells (by omega)
   obtain rfl : ad = ⟨b, off, none⟩ := by simpa using e
   rw [Addr.add_lit, hc j (by omega), List.getD_eq_getElem?_getD, hj];rfl
  go_enter Tryz.func117, Tryz.ntmps117
  go_wp2_with (at_builtin;refine wpList_append_own _ rfl _ _ 32 rfl w.heap.size 63 j0 _ 10 144 Tryz.underlying32 hj0 hy0 hy1 hy2 rfl (by decide) _ 0 [] rfl O3 ad nb cb cs rfl h.len hsrc h1 (by unfold maxLen;omega) (by omega) (by simp) ?_;intro v2 w1 hown1 hg1 _)
  rw [List.nil_append, Nat.zero_add] at hown1
  have hg2 : (w.alloc (.cells #[] 63)).grownBy w1 (some w.heap.size) := hg1
  have BB := B3.trans (grown_below hg2 B3.size (fun k hk => by injection hk with hk;omega))
  obtain ⟨ra, rc, e9, _, _⟩ := owns_slice hown1
  subst e9
  have HO : Hid _ := hown1
  clear hown1 hg1 hg2;go_wp2;go_ret;exact ⟨ra, rc, rfl, HO.out, BB⟩
theorem cloneM_o {o : Bool} {l u : Nat} (ab : Option Addr) (nb cb : Nat) (cs : List Value) (w : World) (h : RowAt w o l u 15 ab nb cb cs) (h1 : ∀ u ∈ cs, u.oneCell' = true) (hn : nb ≤ 1048576) :
  Calls Tryz.prog 119 #[.slice ab nb cb] w fun e w' => ∃ ra rc, e = .returned (.slice ra nb rc) ∧ w'.ownsRow w.heap.size 96 15 (.slice ra nb rc) nb cs ∧ Below w.heap.size w w' := by
 obtain ⟨j0, hj0, hy0, hy1, hy2⟩ := info_parts Tryz.infMail
 have hq : ∀ W, (binOp .eql 33 (.slice ab nb cb) (.slice none 0 0)).run Tryz.prog W = .ok (.bool ab.isNone) W := fun W => Lib.run_eql_slice_nil W _ _ ab nb cb 0 0 Tryz.underlying33
 cases ab with
 | none =>
  simp only [Option.isNone_none] at hq
  have hz : nb = 0 := Decidable.byContradiction fun hne => by obtain ⟨_, _, e, _⟩ := h.cells hne;cases e
  subst hz
  have hbs : cs = [] := List.eq_nil_of_length_eq_zero (by have := h.len;omega)
  go_enter Tryz.func119, Tryz.ntmps119
  go_wp2;go_ret
  exact ⟨none, 0, rfl, by rw [hbs];exact World.ownsRow_nil _ _ _ _, Below.refl _ _⟩
 | some ad =>
  simp only [Option.isNone_some] at hq
  have B3 : Below w.heap.size w (w.alloc (.cells #[] 96)) := (Below.refl _ _).alloc (Nat.le_refl _) _
  have O3 : (w.alloc (.cells #[] 96)).ownsRow w.heap.size 96 15 (.slice (some ⟨w.heap.size, 0, none⟩) 0 0) 0 [] := World.ownsRow_made w #[] 0 (Nat.le_refl _) (Nat.zero_le _) rfl
  have hsrc : ∀ j u, cs[j]? = some u → (w.alloc (.cells #[] 96)).cell? (ad.add j) = some u := fun j u hj => by
   have hjl : j < cs.length := (List.getElem?_eq_some_iff.1 hj).1
   have hl := h.len
   obtain ⟨b, off, e, _, _, _, hc, _⟩ := (h.below B3).cells (by omega)
   obtain rfl : ad = ⟨b, off, none⟩ := by simpa using e
   rw [Addr.add_lit, hc j (by omega), List.getD_eq_getElem?_getD, hj];rfl
  go_enter Tryz.func119, Tryz.ntmps119
  go_wp2_with (at_builtin;refine wpList_append_own _ rfl _ _ 33 rfl w.heap.size 96 j0 _ 15 136 Tryz.underlying33 hj0 hy0 hy1 hy2 rfl (by decide) _ 0 [] rfl O3 ad nb cb cs rfl h.len hsrc h1 (by unfold maxLen;omega) (by omega) (by simp) ?_;intro v2 w1 hown1 hg1 _)
  rw [List.nil_append, Nat.zero_add] at hown1
  have hg2 : (w.alloc (.cells #[] 96)).grownBy w1 (some w.heap.size) := hg1
  have BB := B3.trans (grown_below hg2 B3.size (fun k hk => by injection hk with hk;omega))
  obtain ⟨ra, rc, e9, _, _⟩ := owns_slice hown1
  subst e9
  have HO : Hid _ := hown1
  clear hown1 hg1 hg2;go_wp2;go_ret;exact ⟨ra, rc, rfl, HO.out, BB⟩
theorem nodes_one (xs : List Nod) : ∀ u ∈ xs.flatMap nodeK.cells, u.oneCell' = true := fun u hu => by
 obtain ⟨a, _, h⟩ := List.mem_flatMap.1 hu
 simp only [nodeK, repC, hv, List.mem_cons, List.not_mem_nil, or_false] at h
 rcases h with rfl | rfl | rfl | rfl | rfl | rfl | rfl | rfl | rfl | rfl <;> rfl
theorem mails_one (xs : List Mal) : ∀ u ∈ xs.flatMap mailK.cells, u.oneCell' = true := fun u hu => by
 obtain ⟨a, _, h⟩ := List.mem_flatMap.1 hu
 simp only [mailK, mlV, hv, List.mem_cons, List.not_mem_nil, or_false] at h
 rcases h with rfl | rfl | rfl | rfl | rfl | rfl | rfl | rfl | rfl | rfl | rfl | rfl | rfl | rfl | rfl <;> rfl
def CpyReplica (xs : List Nod) (w : World) (base : Nat) (v : Value) (n kk : Nat) : Prop := ∃ ys, GLk nodeK w base 63 v n ys kk ∧ ys.map (·.1) = xs.map (·.1) ∧ (∀ i, kk ≤ i → ys[i]? = xs[i]?) ∧ ∀ (i : Nat) (a : Nod), ys[i]? = some a → RSz a.2 1048576
theorem CpyReplica.below {xs : List Nod} {w W : World} {base n kk : Nat} {v : Value} (x : CpyReplica xs w base v n kk) (hb : Below w.heap.size w W) : CpyReplica xs W base v n kk := by
 obtain ⟨ys, G, e⟩ := x
 exact ⟨ys, G.below nodeOk hb, e⟩
theorem CpyReplica.there {xs : List Nod} {w : World} {base g n cap kk : Nat} (x : CpyReplica xs w base (.slice (some ⟨g, 0, none⟩) n cap) n kk) {i : Nat} (hi : i < n) : w.there g (i * 10) 10 := fun j hj => by
 obtain ⟨ys, G, _⟩ := x
 obtain ⟨a, g', _, e, _, _, hc, hf⟩ := G.el nodeOk hi
 simp only [Option.some.injEq, Addr.mk.injEq, and_true] at e;subst e;have t := hc j hj;have hl := nodeOk.len a
 refine ⟨?_, hf _⟩
 show (w.cell? ⟨g, i * nodeK.sz + j, none⟩).isSome = true
 rw [t, List.getElem?_eq_getElem (by rw [hl];exact hj)];rfl
theorem CpyReplica.put {xs : List Nod} {w W : World} {base g n cap kk z u : Nat} (x : CpyReplica xs w base (.slice (some ⟨g, 0, none⟩) n cap) n kk) (hk : kk < n) {r : Rep} {h h' : RH} (ex : xs[kk]? = some (r, h)) (hb : Below w.heap.size w W) (hz : w.heap.size ≤ z) (hu : u ≤ W.heap.size) (y : nodeK.mem W true z u (r, h')) (hsz : (fun a : Nod => RSz a.2 1048576) (r, h')) :
  CpyReplica xs (W.setCells g (kk * 10) [.int .i64 r.id, .int .i64 r.size, .int .i64 r.view, .bool r.normal, .int .i64 r.last, .slice h'.L.1 h'.L.2.1 h'.L.2.2, .int .i64 r.commit, .slice h'.O.1 h'.O.2.1 h'.O.2.2, .slice h'.A.1 h'.A.2.1 h'.A.2.2, .slice h'.D.1 h'.D.2.1 h'.D.2.2]) base (.slice (some ⟨g, 0, none⟩) n cap) n (kk + 1) := by
 obtain ⟨ys, G, e1, e2, e3⟩ := x
 have ec : ys[kk]? = some (r, h) := by rw [e2 kk (Nat.le_refl _)];exact ex
 have hg := G.own.lt g rfl
 have P := (G.below nodeOk hb).put nodeOk hk (r, h) (r, h') ec 0 [.int .i64 r.id, .int .i64 r.size, .int .i64 r.view, .bool r.normal, .int .i64 r.last, .slice h'.L.1 h'.L.2.1 h'.L.2.2, .int .i64 r.commit, .slice h'.O.1 h'.O.2.1 h'.O.2.2, .slice h'.A.1 h'.A.2.1 h'.A.2.2, .slice h'.D.1 h'.D.2.1 h'.D.2.2] (show 0 + 10 ≤ 10 by omega) (fun j hj => by rw [if_pos ⟨Nat.zero_le _, show j < 0 + 10 by have : j < 10 := hj;omega⟩, Nat.sub_zero];rfl)
  (nodeOk.widen y (by omega) hu) (fun q hq => by have := nodeOk.inB y hq;omega) (fun j d hj ed q hq hq2 => by
   have h3 := nodeOk.inB y hq;have h4 := (nodeOk.inB (G.each j d hj ed) hq2).2.2
   omega)
 have hxl : kk < ys.length := by rw [G.len];exact hk
 refine ⟨ys.set kk (r, h'), P, ?_, fun i hi => by rw [List.getElem?_set_ne (by omega)];exact e2 i (by omega), fun i a ea => ?_⟩
 ·rw [← e1]
  apply List.ext_getElem?
  intro i;rw [List.getElem?_map, List.getElem?_map]
  by_cases c : i = kk
  ·subst c;rw [List.getElem?_set_self hxl, ec];rfl
  ·rw [List.getElem?_set_ne (Ne.symm c)]
 ·by_cases c : i = kk
  ·subst c;rw [List.getElem?_set_self hxl] at ea;rw [← Option.some.inj ea];exact hsz
  ·rw [List.getElem?_set_ne (Ne.symm c)] at ea;exact e3 i a ea
theorem copyNodes_o {own : Bool} {lo hi : Nat} (N : Hd) (xs : List Nod) (w : World) (x : LAt nodeK w own lo hi N.1 N.2.1 N.2.2 xs) (hn : N.2.1 ≤ 1048576) (hs : ∀ (i : Nat) (a : Nod), xs[i]? = some a → RSz a.2 1048576) :
  Calls Tryz.prog 78 #[.slice N.1 N.2.1 N.2.2] w fun e w' => ∃ (N' : Hd) (ys : List Nod), e = .returned (.slice N'.1 N'.2.1 N'.2.2) ∧ N'.2.1 = N.2.1 ∧ GrowL nodeK w' w.heap.size 63 (.slice N'.1 N'.2.1 N'.2.2) N'.2.1 ys ∧ ys.map (·.1) = xs.map (·.1) ∧ (∀ (i : Nat) (a : Nod), ys[i]? = some a → RSz a.2 1048576) ∧ Below w.heap.size w w' := by
 obtain ⟨na, n, nc⟩ := N
 simp only at hn x ⊢
 have HS : Hid _ := hs
 clear hs
 go_enter Tryz.func78, Tryz.ntmps78
 go_wp2_with fail;refine (cloneN_o na n nc _ _ x.row (nodes_one xs) hn).mono ?_;rintro e w1 ⟨ra, rc, rfl, O, BB⟩
 have C0 : CpyReplica xs w1 w.heap.size (.slice ra n rc) n 0 := ⟨xs, GLk.start x.len O, rfl, fun i _ => rfl, HS.out⟩
 have HC0 : Hid _ := C0
 have HB1 : Hid _ := BB
 clear O C0 BB;go_wp2
 go_loopw [10] (fun i wr => ∃ k : Nat, k ≤ n ∧ i = .int .i64 k ∧ CpyReplica xs wr w.heap.size (.slice ra n rc) n k ∧ Below w.heap.size w wr) (fun i _ => n - (intOf i).toNat)
 case atStart => exact ⟨0, Nat.zero_le _, rfl, HC0.out, HB1.out⟩
 case round =>
  clear HC0 HB1
  obtain ⟨k, hk, rfl, C, hb⟩ := hrel
  by_cases hlt : k < n
  ·have hlk : (k : Int) < (n : Int) := by omega
   obtain ⟨r, h, b', f', ex, ex', -, -, -, y, -⟩ := (x.below nodeOk hb).node hlt
   have hmk := HS.out k _ ex
   obtain ⟨ys, G, e1, e2, e3⟩ := C
   obtain ⟨a, g, ea, rfl, hg1, hg2, hc, hf⟩ := G.el nodeOk hlt
   clear ex'
   have ea2 : a = (r, h) := by rw [e2 k (Nat.le_refl _), ex] at ea;exact (Option.some.inj ea).symm
   subst ea2
   have HC : Hid (CpyReplica xs wr w.heap.size (.slice (some ⟨g, 0, none⟩) n rc) n k) := ⟨ys, G, e1, e2, e3⟩
   have c9 : wr.cell? ⟨g, k * 10, none⟩ = [.int .i64 r.id, .int .i64 r.size, .int .i64 r.view, .bool r.normal, .int .i64 r.last, .slice h.L.1 h.L.2.1 h.L.2.2, .int .i64 r.commit, .slice h.O.1 h.O.2.1 h.O.2.2, .slice h.A.1 h.A.2.1 h.A.2.2, .slice h.D.1 h.D.2.1 h.D.2.2][0]? ∧ ∀ j, j < 10 → wr.cell? ⟨g, k * 10 + j, none⟩ = [.int .i64 r.id, .int .i64 r.size, .int .i64 r.view, .bool r.normal, .int .i64 r.last, .slice h.L.1 h.L.2.1 h.L.2.2, .int .i64 r.commit, .slice h.O.1 h.O.2.1 h.O.2.2, .slice h.A.1 h.A.2.1 h.A.2.2, .slice h.D.1 h.D.2.1 h.D.2.2][j]? := ⟨hc 0 (by decide), hc⟩
   have HF : Hid _ := hf
   have HX : Hid _ := ex
   have HH : Hid _ := hb
   have hsz := hb.size;clear G e1 e2 e3 ea hc hf ex hb
   simp only at hmk
   go_wp2_with (first | ((with_reducible refine sm 63 X0 0 [.int .i64 r.id, .int .i64 r.size, .int .i64 r.view, .bool r.normal, .int .i64 r.last, .slice h.L.1 h.L.2.1 h.L.2.2, .int .i64 r.commit, .slice h.O.1 h.O.2.1 h.O.2.2, .slice h.A.1 h.A.2.1 h.A.2.2, .slice h.D.1 h.D.2.1 h.D.2.2] ?_);intro V1 S;replace X0 : Bx V1 b0 [.int .i64 r.id, .int .i64 r.size, .int .i64 r.view, .bool r.normal, .int .i64 r.last, .slice h.L.1 h.L.2.1 h.L.2.2, .int .i64 r.commit, .slice h.O.1 h.O.2.1 h.O.2.2, .slice h.A.1 h.A.2.1 h.A.2.2, .slice h.D.1 h.D.2.1 h.D.2.2] := S.bx;replace c0 := X0.cell;replace f0 := X0.froz;replace B := bkp B S.kept;clear S) | ((with_reducible refine al 63 [.int .i64 0, .int .i64 0, .int .i64 0, .bool false, .int .i64 0, .slice none 0 0, .int .i64 0, .slice none 0 0, .slice none 0 0, .slice none 0 0] ?_);intro b0 W0 N0;have ob0 := N0.ge;have B := N0.below;obtain ⟨X0, c0, f0⟩ := N0.a;clear N0) | fail)
   clear c9;refine (copyReplica_z r h _ (y.below B) hmk).mono ?_;rintro e w2 ⟨z1, u1, h', rfl, Gz1, hy1, y1, s1, BB⟩;have oz1 := Nat.le_trans B.size Gz1;have o0_z1 := ltl X0.lt Gz1;clear Gz1;replace X0 := X0.below BB;replace c0 := X0.cell;replace f0 := X0.froz;replace B := below_next B BB;clear BB;have TH := (HC.out.below B).there hlt
   go_wp2_with (first | ((refine store_elP 63 TH [.int .i64 r.id, .int .i64 r.size, .int .i64 r.view, .bool r.normal, .int .i64 r.last, .slice h'.L.1 h'.L.2.1 h'.L.2.2, .int .i64 r.commit, .slice h'.O.1 h'.O.2.1 h'.O.2.2, .slice h'.A.1 h'.A.2.1 h'.A.2.2, .slice h'.D.1 h'.D.2.1 h'.D.2.2] (by simp) (by kernel_rfl) (by simp [Value.oneCell']) rfl rfl ?_);intro W5 hW5) | fail)
   have HC2 : Hid (CpyReplica xs W5 w.heap.size (.slice (some ⟨g, 0, none⟩) n rc) n (k + 1)) := by
    show CpyReplica _ _ _ _ _ _
    rw [hW5.eq];exact HC.out.put hlt HX.out B oz1 hy1 y1 s1
   have HB2 : Hid (Below w.heap.size w W5) := by
    show Below _ _ _
    rw [hW5.eq];exact (below_next HH.out B).trans ((kept_el g _ _).below _ hg1 (Nat.le_trans hsz B.size))
   clear hW5 B y1 hy1;go_wp2
   go_roundw
   case rel => exact ⟨k + 1, by omega, by go_num, HC2.out, HB2.out⟩
   case measure => simp [intOf];omega
  ·obtain rfl : k = n := by omega
   go_wp2;go_ret
   obtain ⟨ys, G, e1, e2, e3⟩ := C
   exact ⟨(ra, k, rc), ys, rfl, rfl, G.full, e1, e3, hb⟩
def CpyMail (xs : List Mal) (w : World) (base : Nat) (v : Value) (n kk : Nat) : Prop := ∃ ys, GLk mailK w base 96 v n ys kk ∧ ys.map (·.1) = xs.map (·.1) ∧ (∀ i, kk ≤ i → ys[i]? = xs[i]?) ∧ ∀ (i : Nat) (a : Mal), ys[i]? = some a → a.2.2.1 ≤ 1048576
theorem CpyMail.below {xs : List Mal} {w W : World} {base n kk : Nat} {v : Value} (x : CpyMail xs w base v n kk) (hb : Below w.heap.size w W) : CpyMail xs W base v n kk := by
 obtain ⟨ys, G, e⟩ := x
 exact ⟨ys, G.below mailOk hb, e⟩
theorem CpyMail.there {xs : List Mal} {w : World} {base g n cap kk : Nat} (x : CpyMail xs w base (.slice (some ⟨g, 0, none⟩) n cap) n kk) {i : Nat} (hi : i < n) : w.there g (i * 15) 15 := fun j hj => by
 obtain ⟨ys, G, _⟩ := x
 obtain ⟨a, g', _, e, _, _, hc, hf⟩ := G.el mailOk hi
 simp only [Option.some.injEq, Addr.mk.injEq, and_true] at e;subst e;have t := hc j hj;have hl := mailOk.len a
 refine ⟨?_, hf _⟩
 show (w.cell? ⟨g, i * mailK.sz + j, none⟩).isSome = true
 rw [t, List.getElem?_eq_getElem (by rw [hl];exact hj)];rfl
theorem CpyMail.put {xs : List Mal} {w W : World} {base g n cap kk z u : Nat} (x : CpyMail xs w base (.slice (some ⟨g, 0, none⟩) n cap) n kk) (hk : kk < n) {m : Ml} {h h' : Hd} (ex : xs[kk]? = some (m, h)) (hb : Below w.heap.size w W) (hz : w.heap.size ≤ z) (hu : u ≤ W.heap.size) (y : mailK.mem W true z u (m, h')) (hsz : (fun a : Mal => a.2.2.1 ≤ 1048576) (m, h')) :
  CpyMail xs (W.setCells g (kk * 15 + 13) [.slice h'.1 h'.2.1 h'.2.2]) base (.slice (some ⟨g, 0, none⟩) n cap) n (kk + 1) := by
 obtain ⟨ys, G, e1, e2, e3⟩ := x
 have ec : ys[kk]? = some (m, h) := by rw [e2 kk (Nat.le_refl _)];exact ex
 have hg := G.own.lt g rfl
 have P := (G.below mailOk hb).put mailOk hk (m, h) (m, h') ec 13 [.slice h'.1 h'.2.1 h'.2.2] (show 13 + 1 ≤ 15 by omega) (fun j hj => by
   have hj' : j < 15 := hj
   rcases (by omega : j = 0 ∨ j = 1 ∨ j = 2 ∨ j = 3 ∨ j = 4 ∨ j = 5 ∨ j = 6 ∨ j = 7 ∨ j = 8 ∨ j = 9 ∨ j = 10 ∨ j = 11 ∨ j = 12 ∨ j = 13 ∨ j = 14) with rfl | rfl | rfl | rfl | rfl | rfl | rfl | rfl | rfl | rfl | rfl | rfl | rfl | rfl | rfl <;> rfl)
  (mailOk.widen y (by omega) hu) (fun q hq => by have := mailOk.inB y hq;omega) (fun j d hj ed q hq hq2 => by
   have h3 := mailOk.inB y hq;have h4 := (mailOk.inB (G.each j d hj ed) hq2).2.2
   omega)
 have hxl : kk < ys.length := by rw [G.len];exact hk
 refine ⟨ys.set kk (m, h'), P, ?_, fun i hi => by rw [List.getElem?_set_ne (by omega)];exact e2 i (by omega), fun i a ea => ?_⟩
 ·rw [← e1]
  apply List.ext_getElem?
  intro i;rw [List.getElem?_map, List.getElem?_map]
  by_cases c : i = kk
  ·subst c;rw [List.getElem?_set_self hxl, ec];rfl
  ·rw [List.getElem?_set_ne (Ne.symm c)]
 ·by_cases c : i = kk
  ·subst c;rw [List.getElem?_set_self hxl] at ea;rw [← Option.some.inj ea];exact hsz
  ·rw [List.getElem?_set_ne (Ne.symm c)] at ea;exact e3 i a ea
theorem copyMails_o {own : Bool} {lo hi : Nat} (N : Hd) (xs : List Mal) (w : World) (x : LAt mailK w own lo hi N.1 N.2.1 N.2.2 xs) (hn : N.2.1 ≤ 1048576) (hs : ∀ (i : Nat) (a : Mal), xs[i]? = some a → a.2.2.1 ≤ 1048576) :
  Calls Tryz.prog 79 #[.slice N.1 N.2.1 N.2.2] w fun e w' => ∃ (N' : Hd) (ys : List Mal), e = .returned (.slice N'.1 N'.2.1 N'.2.2) ∧ N'.2.1 = N.2.1 ∧ GrowL mailK w' w.heap.size 96 (.slice N'.1 N'.2.1 N'.2.2) N'.2.1 ys ∧ ys.map (·.1) = xs.map (·.1) ∧ (∀ (i : Nat) (a : Mal), ys[i]? = some a → a.2.2.1 ≤ 1048576) ∧ Below w.heap.size w w' := by
 obtain ⟨na, n, nc⟩ := N
 simp only at hn x ⊢
 have HS : Hid _ := hs
 clear hs
 go_enter Tryz.func79, Tryz.ntmps79
 go_wp2_with fail;refine (cloneM_o na n nc _ _ x.row (mails_one xs) hn).mono ?_;rintro e w1 ⟨ra, rc, rfl, O, BB⟩
 have C0 : CpyMail xs w1 w.heap.size (.slice ra n rc) n 0 := ⟨xs, GLk.start x.len O, rfl, fun i _ => rfl, HS.out⟩
 have HC0 : Hid _ := C0
 have HB1 : Hid _ := BB
 clear O C0 BB;go_wp2
 go_loopw [10] (fun i wr => ∃ k : Nat, k ≤ n ∧ i = .int .i64 k ∧ CpyMail xs wr w.heap.size (.slice ra n rc) n k ∧ Below w.heap.size w wr) (fun i _ => n - (intOf i).toNat)
 case atStart => exact ⟨0, Nat.zero_le _, rfl, HC0.out, HB1.out⟩
 case round =>
  clear HC0 HB1
  obtain ⟨k, hk, rfl, C, hb⟩ := hrel
  by_cases hlt : k < n
  ·have hlk : (k : Int) < (n : Int) := by omega
   obtain ⟨m, h, b', f', ex, ex', -, -, -, y, -⟩ := (x.below mailOk hb).mail hlt
   have hmk := HS.out k _ ex
   obtain ⟨ys, G, e1, e2, e3⟩ := C
   obtain ⟨a, g, ea, rfl, hg1, hg2, hc, hf⟩ := G.el mailOk hlt
   clear ex'
   have ea2 : a = (m, h) := by rw [e2 k (Nat.le_refl _), ex] at ea;exact (Option.some.inj ea).symm
   subst ea2
   have HC : Hid (CpyMail xs wr w.heap.size (.slice (some ⟨g, 0, none⟩) n rc) n k) := ⟨ys, G, e1, e2, e3⟩
   have c9 : wr.cell? ⟨g, k * 15, none⟩ = [.int .i64 m.kind, .int .i64 m.fr, .int .i64 m.to, .int .i64 m.view, .int .i64 m.at_, .bool m.has, .int .i64 m.en.1, .int .i64 m.en.2.1, .int .i64 m.en.2.2.1, .int .i64 m.en.2.2.2.1, .int .i64 m.en.2.2.2.2.1, .int .i64 m.en.2.2.2.2.2, .int .i64 m.last, .slice h.1 h.2.1 h.2.2, .int .i64 m.commit][0]? ∧ ∀ j, j < 15 → wr.cell? ⟨g, k * 15 + j, none⟩ = [.int .i64 m.kind, .int .i64 m.fr, .int .i64 m.to, .int .i64 m.view, .int .i64 m.at_, .bool m.has, .int .i64 m.en.1, .int .i64 m.en.2.1, .int .i64 m.en.2.2.1, .int .i64 m.en.2.2.2.1, .int .i64 m.en.2.2.2.2.1, .int .i64 m.en.2.2.2.2.2, .int .i64 m.last, .slice h.1 h.2.1 h.2.2, .int .i64 m.commit][j]? := ⟨hc 0 (by decide), hc⟩
   have HF : Hid _ := hf
   have HX : Hid _ := ex
   have HH : Hid _ := hb
   have hsz := hb.size;clear G e1 e2 e3 ea hc hf ex hb
   simp only at hmk
   go_wp2_with (first | ((with_reducible refine sm 96 X0 0 [.int .i64 m.kind, .int .i64 m.fr, .int .i64 m.to, .int .i64 m.view, .int .i64 m.at_, .bool m.has, .int .i64 m.en.1, .int .i64 m.en.2.1, .int .i64 m.en.2.2.1, .int .i64 m.en.2.2.2.1, .int .i64 m.en.2.2.2.2.1, .int .i64 m.en.2.2.2.2.2, .int .i64 m.last, .slice h.1 h.2.1 h.2.2, .int .i64 m.commit] ?_);intro V1 S;replace X0 : Bx V1 b0 [.int .i64 m.kind, .int .i64 m.fr, .int .i64 m.to, .int .i64 m.view, .int .i64 m.at_, .bool m.has, .int .i64 m.en.1, .int .i64 m.en.2.1, .int .i64 m.en.2.2.1, .int .i64 m.en.2.2.2.1, .int .i64 m.en.2.2.2.2.1, .int .i64 m.en.2.2.2.2.2, .int .i64 m.last, .slice h.1 h.2.1 h.2.2, .int .i64 m.commit] := S.bx;replace c0 := X0.cell;replace f0 := X0.froz;replace B := bkp B S.kept;clear S) | ((with_reducible refine al 96 [.int .i64 0, .int .i64 0, .int .i64 0, .int .i64 0, .int .i64 0, .bool false, .int .i64 0, .int .i64 0, .int .i64 0, .int .i64 0, .int .i64 0, .int .i64 0, .int .i64 0, .slice none 0 0, .int .i64 0] ?_);intro b0 W0 N0;have ob0 := N0.ge;have B := N0.below;obtain ⟨X0, c0, f0⟩ := N0.a;clear N0) | fail)
   clear c9;refine (cloneE_z h.1 h.2.1 h.2.2 m.log _ (y.below B) hmk).mono ?_;rintro e w2 ⟨ra', rc', z1, u1, rfl, Gz1, _, hy1, y1, BB⟩;have oz1 := Nat.le_trans B.size Gz1;have o0_z1 := ltl X0.lt Gz1;clear Gz1;replace X0 := X0.below BB;replace c0 := X0.cell;replace f0 := X0.froz;replace B := below_next B BB;clear BB
   obtain ⟨tc, tf⟩ := (HC.out.below B).there hlt 13 (by decide)
   obtain ⟨tv, tc⟩ := Option.isSome_iff_exists.1 tc
   go_wp2_with (first | ((refine store_oneM 34 (b := g) (k := k * 15 + 13) tc tf (.slice ra' h.2.1 rc') (by kernel_rfl) rfl rfl rfl ?_);intro W5 hW5) | fail)
   have HC2 : Hid (CpyMail xs W5 w.heap.size (.slice (some ⟨g, 0, none⟩) n rc) n (k + 1)) := by
    show CpyMail _ _ _ _ _ _
    rw [hW5.eq];exact HC.out.put (h' := (ra', h.2.1, rc')) hlt HX.out B oz1 hy1 y1 hmk
   have HB2 : Hid (Below w.heap.size w W5) := by
    show Below _ _ _
    rw [hW5.eq];exact (below_next HH.out B).trans ((kept_el g (k * 15 + 13) [.slice ra' h.2.1 rc']).below _ hg1 (Nat.le_trans hsz B.size))
   clear hW5 B y1 hy1;go_wp2
   go_roundw
   case rel => exact ⟨k + 1, by omega, by go_num, HC2.out, HB2.out⟩
   case measure => simp [intOf];omega
  ·obtain rfl : k = n := by omega
   go_wp2;go_ret
   obtain ⟨ys, G, e1, e2, e3⟩ := C
   exact ⟨(ra, k, rc), ys, rfl, rfl, G.full, e1, e3, hb⟩
def fstF (f : Nat → Int) : Nat → Int
 | 0 => 0
 | k + 1 => if fstF f k = 0 then f k else fstF f k
theorem fstF_le (f : Nat → Int) {k c : Nat} (hc : fstF f k ≠ 0) (n : Nat) (hn : n = k + c) : fstF f n = fstF f k := by
 induction c generalizing n with
 | zero => rw [hn];rfl
 | succ c ih =>
  have e := ih (k + c) rfl;rw [hn]
  show (if fstF f (k + c) = 0 then f (k + c) else fstF f (k + c)) = _
  rw [e, if_neg hc]
theorem fstF_stop {f : Nat → Int} {k n : Nat} {d c : Int} (hd : fstF f n = d) (h0 : fstF f k = 0) (hk : k < n) (hc : f k = c) (h1 : c ≠ 0) : d = c := by
 have e : fstF f (k + 1) = c := by show (if fstF f k = 0 then f k else fstF f k) = c;rw [if_pos h0, hc]
 rw [← hd, fstF_le f (k := k + 1) (c := n - (k + 1)) (by rw [e];exact h1) n (by omega), e]
theorem fstF_next {f : Nat → Int} {k : Nat} (h0 : fstF f k = 0) (hc : f k = 0) : fstF f (k + 1) = 0 := by show (if fstF f k = 0 then f k else fstF f k) = 0; rw [if_pos h0, hc]
theorem fstF_all {f : Nat → Int} {n : Nat} (h : fstF f n = 0) : ∀ i, i < n → f i = 0 := by
 induction n with
 | zero => intro i hi;omega
 | succ n ih =>
  have h' : (if fstF f n = 0 then f n else fstF f n) = 0 := h
  by_cases e : fstF f n = 0
  ·rw [if_pos e] at h';intro i hi
   rcases Nat.lt_succ_iff_lt_or_eq.1 hi with q | q
   ·exact ih e i q
   ·rw [q];exact h'
  ·rw [if_neg e] at h';exact absurd h' e
def nodeF (rs : List Rep) (i : Nat) : Int := if repF (rs.getD i rep0) = 0 then (if (rs.getD i rep0).id = i ∧ (rs.getD i rep0).size = rs.length then 0 else 1) else repF (rs.getD i rep0)
def mailIn (rs : List Rep) (m : Ml) : Int := if 0 ≤ m.to ∧ m.to ≤ (rs.length : Int) - 1 then mailAtF (rs.getD m.to.toNat rep0) m else 3
def nodesF (rs : List Rep) : Int := fstF (nodeF rs) rs.length
def mailsF (rs : List Rep) (ms : List Ml) : Int := fstF (fun i => mailIn rs (ms.getD i ml0)) ms.length
def cluF (rs : List Rep) (ms : List Ml) (es : List En) : Int := if (1 ≤ (rs.length : Int) ∧ (rs.length : Int) ≤ 5) ∧ ms.length ≤ 120 then (if nodesF rs = 0 then (if mailsF rs ms = 0 then logF es else mailsF rs ms) else nodesF rs) else 2
theorem nodeF_rep {rs : List Rep} {i : Nat} {r : Rep} (e : rs.getD i rep0 = r) {c : Int} (hc : repF r = c) (h : c ≠ 0) : nodeF rs i = c := by unfold nodeF; rw [e, hc, if_neg h]
theorem nodeF_form {rs : List Rep} {i : Nat} {r : Rep} (e : rs.getD i rep0 = r) (hc : repF r = 0) (h : ¬ (r.id = i ∧ r.size = rs.length)) : nodeF rs i = 1 := by unfold nodeF; rw [e, if_pos hc, if_neg h]
theorem nodeF_ok {rs : List Rep} {i : Nat} {r : Rep} (e : rs.getD i rep0 = r) (hc : repF r = 0) (h : r.id = i ∧ r.size = rs.length) : nodeF rs i = 0 := by unfold nodeF; rw [e, if_pos hc, if_pos h]
theorem nodesF_all {rs : List Rep} (h : nodesF rs = 0) (i : Nat) (hi : i < rs.length) : repF (rs.getD i rep0) = 0 ∧ (rs.getD i rep0).id = i ∧ (rs.getD i rep0).size = rs.length := by
 have e := fstF_all h i hi;unfold nodeF at e
 by_cases q : repF (rs.getD i rep0) = 0
 ·rw [if_pos q] at e
  by_cases q2 : (rs.getD i rep0).id = i ∧ (rs.getD i rep0).size = rs.length
  ·exact ⟨q, q2⟩
  ·rw [if_neg q2] at e;cases e
 ·rw [if_neg q] at e;exact absurd e q
theorem mapD {β γ : Type} {d : β} {xs : List (β × γ)} {i : Nat} {a : β × γ} (e : xs[i]? = some a) : (xs.map (·.1)).getD i d = a.1 := by simp [List.getD, e]
end Go.Proofs.YtclghfoinologaaGreat
