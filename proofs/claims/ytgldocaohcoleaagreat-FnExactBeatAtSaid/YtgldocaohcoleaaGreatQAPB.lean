/- Chapter 11: a cluster that is about to change, in memory. No program is named here. -/
import Derived.Test.YtgldocaohcoleaaGreatQAOB
set_option maxRecDepth 20000
set_option maxHeartbeats 16000000
namespace Go.Proofs.YtgldocaohcoleaaGreat
open Go.RowKit
theorem GrowL.keptS {α : Type} {k : Kd α} {w w' : World} {base : Nat} {T : TypeId} {v : Value} {n : Nat} {xs : List α} (K : KdOk k) (h : GrowL k w base T v n xs) {S : Nat → Prop} (hk : KeptS S w w') (h1 : ∀ q, v.ownBlock = some q → ¬ S q) (h2 : ∀ (i : Nat) (a : α), xs[i]? = some a → Sep (k.inn a) S) : GrowL k w' base T v n xs := by
 refine ⟨h.len, ⟨h.own.1, ?_⟩, fun i a e => K.widen (K.keptS (h.each i a e) hk (h2 i a e)) (Nat.le_refl _) hk.size, h.far, h.sep⟩
 rcases h.own.2 with q | ⟨g, cap, cur, hv, hg, hh, rest⟩
 ·exact .inl q
 ·have hlt : g < w.heap.size := by
   rcases Nat.lt_or_ge g w.heap.size with q | q
   ·exact q
   ·rw [Array.getElem?_eq_none q] at hh;cases hh
  exact .inr ⟨g, cap, cur, hv, hg, by rw [hk.block g hlt (h1 g (by rw [hv];rfl))];exact hh, rest⟩
def inV (M : Hd) (ys : List Mal) (q : Nat) : Prop := (hv M).ownBlock = some q ∨ ∃ (i : Nat) (a : Mal), ys[i]? = some a ∧ mailK.inn a q
structure MGr (W : World) (T : TypeId) (z u : Nat) (M : Hd) (ys : List Mal) : Prop where
 gr : GrowL mailK W z T (hv M) M.2.1 ys
 lt : ∀ q, inV M ys q → q < u
section
variable {w w' : World} {T : TypeId} {z u : Nat} {M : Hd} {ys : List Mal}
theorem MGr.inB (x : MGr w T z u M ys) {q : Nat} (hq : inV M ys q) : z ≤ q ∧ q < u ∧ q < w.heap.size := by
 have h1 := x.lt q hq
 rcases hq with h | ⟨i, a, e, h⟩
 ·have := x.gr.own.lt q h;exact ⟨this.1, h1, this.2⟩
 ·have := mailOk.inB (x.gr.each i a e) h;exact ⟨this.1, h1, this.2.2⟩
theorem MGr.below (x : MGr w T z u M ys) (hb : Below w.heap.size w w') : MGr w' T z u M ys := ⟨x.gr.below mailOk hb, x.lt⟩
theorem MGr.keptS (x : MGr w T z u M ys) {S : Nat → Prop} (hk : KeptS S w w') (hd : Sep (inV M ys) S) : MGr w' T z u M ys :=
 ⟨x.gr.keptS mailOk hk (fun q hq => hd q (Or.inl hq)) (fun i a e q hq => hd q (Or.inr ⟨i, a, e, hq⟩)), x.lt⟩
theorem MGr.kept (x : MGr w T z u M ys) {l r : Nat} (hk : Kept l r w w') (hd : u ≤ l ∨ r ≤ z) : MGr w' T z u M ys :=
 x.keptS (S := fun q => l ≤ q ∧ q < r) (hk.toS fun k h1 h2 => ⟨h1, h2⟩) fun q hq hs => by have := x.inB hq;omega
theorem MGr.mono (x : MGr w T z u M ys) {u' : Nat} (h : u ≤ u') : MGr w T z u' M ys := ⟨x.gr, fun q hq => Nat.lt_of_lt_of_le (x.lt q hq) h⟩
end
theorem mono_own {w : World} {base base' : Nat} {e : TypeId} {size : Nat} {v : Value} {n : Nat} {xs : List Value} (h : w.ownsRow base e size v n xs) (hb : base' ≤ base) : w.ownsRow base' e size v n xs := by
 refine ⟨h.1, ?_⟩
 rcases h.2 with q | ⟨g, cap, cur, hv, hg, rest⟩
 ·exact .inl q
 ·exact .inr ⟨g, cap, cur, hv, Nat.le_trans hb hg, rest⟩
theorem GrowL.lower {α : Type} {k : Kd α} (K : KdOk k) {w : World} {base base' : Nat} {T : TypeId} {v : Value} {n : Nat} {xs : List α} (h : GrowL k w base T v n xs) (hb : base' ≤ base) : GrowL k w base' T v n xs :=
 ⟨h.len, mono_own h.own hb, fun i a e => K.widen (h.each i a e) hb (Nat.le_refl _), h.far, h.sep⟩
structure LiveAt (W : World) (T : TypeId) (base b : Nat) (N M S : Hd) (xs : List Nod) (ys : List Mal) (es : List En) : Prop where
 bx : Bx W b [.slice N.1 N.2.1 N.2.2, .slice M.1 M.2.1 M.2.2, .slice S.1 S.2.1 S.2.2]
 bb : base ≤ b
 nodes : NAt W true base W.heap.size N xs
 mails : MGr W T base W.heap.size M ys
 slog : RowAt W true base W.heap.size 6 S.1 S.2.1 S.2.2 (sixs es)
 sNM : Sep (inL nodeK N.1 N.2.1 xs) (inV M ys)
 sNS : Sep (inL nodeK N.1 N.2.1 xs) (hR S)
 sMS : Sep (inV M ys) (hR S)
 bN : ¬ inL nodeK N.1 N.2.1 xs b
 bM : ¬ inV M ys b
 bS : ¬ hR S b
 sz : ClSz N M S xs ys 1048576
theorem LiveAt.below {W W' : World} {T : TypeId} {base b : Nat} {N M S : Hd} {xs : List Nod} {ys : List Mal} {es : List En} (x : LiveAt W T base b N M S xs ys es) (hb : Below W.heap.size W W') : LiveAt W' T base b N M S xs ys es :=
 ⟨x.bx.below hb, x.bb, (x.nodes.below hb).widen (Nat.le_refl _) hb.size, (x.mails.below hb).mono hb.size, (x.slog.below hb).widen (Nat.le_refl _) hb.size, x.sNM, x.sNS, x.sMS, x.bN, x.bM, x.bS, x.sz⟩
theorem liveAt_of {W : World} {T : TypeId} {base b z1 u1 z2 u2 z3 u3 : Nat} {N M S : Hd} {xs : List Nod} {ys : List Mal} {es : List En} (X : Bx W b [.slice N.1 N.2.1 N.2.2, .slice M.1 M.2.1 M.2.2, .slice S.1 S.2.1 S.2.2]) (hb : base ≤ b) (n : NAt W true z1 u1 N xs) (m : MGr W T z2 u2 M ys) (s : RowAt W true z3 u3 6 S.1 S.2.1 S.2.2 (sixs es)) (h1 : base ≤ z1) (h2 : base ≤ z2) (h3 : base ≤ z3) (g1 : u1 ≤ W.heap.size) (g3 : u3 ≤ W.heap.size) (a1 : u1 ≤ z2) (a2 : u1 ≤ z3) (a3 : u2 ≤ z3) (k1 : u1 ≤ b) (k2 : u2 ≤ b) (k3 : u3 ≤ b) (sz : ClSz N M S xs ys 1048576) : LiveAt W T base b N M S xs ys es := by
 refine ⟨X, hb, n.widen h1 g1, ⟨m.gr.lower mailOk h2, fun q hq => (m.inB hq).2.2⟩, s.widen h3 g3, fun q a b' => ?_, fun q a b' => ?_, fun q a b' => ?_, fun a => ?_, fun a => ?_, fun a => ?_, sz⟩
 ·have := n.inB a;have := m.inB b';omega
 ·have := n.inB a;have := s.inB b';omega
 ·have := m.inB a;have := s.inB b';omega
 ·have := n.inB a;omega
 ·have := m.inB a;omega
 ·have := s.inB a;omega
theorem MGr.at {w : World} {T : TypeId} {z u : Nat} {M : Hd} {ys : List Mal} (x : MGr w T z u M ys) : MAt w true z w.heap.size M ys := by
 obtain ⟨ao, cap, e, L⟩ := x.gr.els
 have e' : Value.slice M.1 M.2.1 M.2.2 = .slice ao M.2.1 cap := e
 simp only [Value.slice.injEq, true_and] at e'
 obtain ⟨e1, e2⟩ := e'
 show LAt mailK w true z w.heap.size M.1 M.2.1 M.2.2 ys
 rw [e1, e2];exact L
theorem inL_inV {M : Hd} {ys : List Mal} {w : World} {T : TypeId} {z u : Nat} (x : MGr w T z u M ys) {q : Nat} (h : inL mailK M.1 M.2.1 ys q) : inV M ys q := by
 rcases h with ⟨h0, rfl⟩ | h
 ·obtain ⟨ao, cap, e, _, hb⟩ := owns_slice x.gr.own
  have e' : Value.slice M.1 M.2.1 M.2.2 = .slice ao M.2.1 cap := e
  simp only [Value.slice.injEq, true_and] at e';refine Or.inl ?_;rw [hb h0, e'.1]
 ·exact Or.inr h
theorem LiveAt.clu {W : World} {T : TypeId} {base b : Nat} {N M S : Hd} {xs : List Nod} {ys : List Mal} {es : List En} (x : LiveAt W T base b N M S xs ys es) : ClAt W true base W.heap.size N M S xs ys es :=
 ⟨x.nodes, x.mails.at, x.slog, fun _ => ⟨fun q a c => x.sNM q a (inL_inV x.mails c), x.sNS, fun q a c => x.sMS q (inL_inV x.mails a) c⟩⟩
def cntB : List Bool → Int
 | [] => 0
 | b :: bs => (if b = true then 1 else 0) + cntB bs
theorem cntB_in : ∀ bs : List Bool, 0 ≤ cntB bs ∧ cntB bs ≤ bs.length
 | [] => by simp [cntB]
 | b :: bs => by have := cntB_in bs;simp only [cntB, List.length_cons];split <;> omega
theorem cntB_drop {bs : List Bool} {k : Nat} (h : k < bs.length) : cntB (bs.drop k) = (if bs.getD k false = true then 1 else 0) + cntB (bs.drop (k + 1)) := by
 rw [List.drop_eq_getElem_cons h];simp only [cntB, List.getD, List.getElem?_eq_getElem h, Option.getD_some]
theorem askers_is {own : Bool} {lo hi : Nat} (r : Rep) (h : RH) (s : Hd) (b0 : Nat) (w : World) (X0 : Bx w b0 [.int .i64 r.id, .int .i64 r.size, .int .i64 r.view, .bool r.normal, .int .i64 r.last, .slice h.L.1 h.L.2.1 h.L.2.2, .int .i64 r.commit, .slice h.O.1 h.O.2.1 h.O.2.2, .slice h.A.1 h.A.2.1 h.A.2.2, .slice h.D.1 h.D.2.1 h.D.2.2, .slice s.1 s.2.1 s.2.2]) (x : RowAt w own lo hi 1 h.A.1 h.A.2.1 h.A.2.2 (bls r.asks)) (hz : h.A.2.1 ≤ 1048576) :
  Calls Tryz.prog 114 #[.pointer (some ⟨b0, 0, none⟩)] w fun e w' => e = .returned (.int .i64 (cntB r.asks)) ∧ w' = w := by
 have hal := x.nBls;have c0 := X0.cell;have hle := x.le;obtain ⟨res, hres⟩ : ∃ res, cntB r.asks = res := ⟨_, rfl⟩
 have HR : Hid _ := hres
 rw [hres];clear hres
 have HB : Hid _ := fun k => cntB_in (r.asks.drop k)
 generalize hA : h.A = A at *
 obtain ⟨aa, na, ca⟩ := A
 simp only at x hz hal hle c0
 go_enter Tryz.func114, Tryz.ntmps114
 go_wp2
 go_loopw [3, 5, 12] (fun cv _ iv wr => ∃ (k : Nat) (t : Int), k ≤ na ∧ iv = .int .i64 k ∧ cv = .int .i64 t ∧ 0 ≤ t ∧ t ≤ k ∧ Hid (t + cntB (r.asks.drop k) = res) ∧ w = wr) (fun _ _ iv _ => na - (intOf iv).toNat)
 case atStart => exact ⟨0, 0, Nat.zero_le _, rfl, rfl, Int.le_refl _, Int.le_refl _, (by show _ = _;rw [← HR.out];simp), rfl⟩
 case round =>
  obtain ⟨k, t, hk, rfl, rfl, t0, t1, HT, rfl⟩ := hrel
  by_cases hlt : k < na
  ·have hlk : (k : Int) < (na : Int) := by omega
   have HD : Hid _ := cntB_drop (bs := r.asks) (k := k) (by omega)
   obtain ⟨b, off, rfl, _, _, _, e0, _⟩ := x.bool hlt
   have w1 : IntKind.i64.wrap (t + 1) = t + 1 := wrapI_same _ (by omega)
   obtain ⟨y, hy⟩ : ∃ y, r.asks.getD k false = y := ⟨_, rfl⟩;rw [hy] at e0 HD;clear hy;cases y
   ·have HT2 : Hid (t + cntB (r.asks.drop (k + 1)) = res) := by show _ = _;rw [← HT.out, HD.out];simp
    clear HT HD;go_wp2
    go_roundw
    case rel => exact ⟨k + 1, t, by omega, by go_num, rfl, t0, by omega, HT2, by first | rfl | trivial⟩
    case measure => simp [intOf];omega
   ·have HT2 : Hid (t + 1 + cntB (r.asks.drop (k + 1)) = res) := by show _ = _;rw [← HT.out, HD.out];simp;omega
    clear HT HD;go_wp2
    go_roundw
    case rel => exact ⟨k + 1, t + 1, by omega, by go_num, rfl, by omega, by omega, HT2, by first | rfl | trivial⟩
    case measure => simp [intOf];omega
  ·have e : t = res := by rw [← HT.out, List.drop_eq_nil_of_le (by omega)];simp [cntB]
   subst e;go_wp2;go_ret;exact ⟨rfl, rfl⟩
theorem isEnough_is (r : Rep) (h : RH) (s : Hd) (k : Int) (hk : 0 ≤ k ∧ k ≤ 1000) (b0 : Nat) (w : World) (X0 : Bx w b0 [.int .i64 r.id, .int .i64 r.size, .int .i64 r.view, .bool r.normal, .int .i64 r.last, .slice h.L.1 h.L.2.1 h.L.2.2, .int .i64 r.commit, .slice h.O.1 h.O.2.1 h.O.2.2, .slice h.A.1 h.A.2.1 h.A.2.2, .slice h.D.1 h.D.2.1 h.D.2.2, .slice s.1 s.2.1 s.2.2]) :
  Calls Tryz.prog 113 #[.pointer (some ⟨b0, 0, none⟩), .int .i64 k] w fun e w' => e = .returned (.bool (decide (2 * k > r.size))) ∧ w' = w := by
 have c0 := X0.cell
 have w1 : IntKind.i64.wrap (2 * k) = 2 * k := wrapI_same _ (by omega)
 go_enter Tryz.func113, Tryz.ntmps113
 go_wp2;go_ret;exact ⟨rfl, rfl⟩
def othL (i : Nat) : Nat → List Int
 | 0 => []
 | k + 1 => if k = i then othL i k else othL i k ++ [(k : Int)]
theorem othL_len (i : Nat) : ∀ k, (othL i k).length ≤ k
 | 0 => by simp [othL]
 | k + 1 => by have := othL_len i k;rw [othL];split <;> simp <;> omega
def intF (xs : List Int) (a _b : Nat) : Value := .int .i64 (xs.getD a 0)
theorem flat_ints (xs : List Int) : flatF 1 xs.length (intF xs) = ints xs := by
 apply List.ext_getElem (by simp [flatF, ints])
 intro j h1 h2;simp only [flatF, ints, List.length_map, List.length_range, Nat.mul_one] at h1 h2
 simp [flatF, ints, intF, List.getD, Nat.div_one, h1]
theorem int_snoc {wr W : World} {base b1 : Nat} {v : Value} {xs : List Int} {y : Int} (G : GrowAt 1 wr base 2 v xs.length (intF xs) kd0 (fun _ => [])) (B : Below wr.heap.size wr W) (X1 : Bx W b1 [.int .i64 y]) (hbase : base ≤ wr.heap.size) (hn : xs.length ≤ 1000) :
  ∃ v' w', (∀ ty, (Builtin.append_ #[61, 61] ty #[v, .slice (some ⟨b1, 0, none⟩) 1 1]).run Tryz.prog W = .ok v' w') ∧ GrowAt 1 w' base 2 v' (xs ++ [y]).length (intF (xs ++ [y])) kd0 (fun _ => []) ∧ Below base W w' := by
 obtain ⟨i2, hi2, ha2, hb2, hc2⟩ := info_parts Tryz.info2'
 have LR : RowAt W false b1 (b1 + 1) 1 (some ⟨b1, 0, none⟩) 1 1 [.int .i64 y] := ⟨by simp, Nat.le_refl _, fun _ => ⟨b1, 0, rfl, Nat.le_refl _, Nat.lt_succ_self _, X1.lt, fun i hi => by rw [Nat.zero_add, X1.cell i, List.getD_eq_getElem?_getD, List.getElem?_eq_getElem (by simpa using hi)];rfl, fun z => by cases z⟩⟩
 obtain ⟨v', w', hr, G2, _, BB⟩ := GrowAt.snoc (P := Tryz.prog) (G.below B) 61 i2 (.int .i64 0) 8 Tryz.underlying61 hi2 ha2 hb2 hc2 rfl (by omega) (by omega) ⟨b1, 0, none⟩ 1 [.int .i64 y] LR (by simp [Value.oneCell']) (intF (xs ++ [y])) kd0 (fun _ => []) (fun i j hi _ => by simp [intF, List.getD, List.getElem?_append_left hi]) (by simp [intF, List.range_succ]) (fun _ _ => rfl) (fun _ _ => rfl) (RowAt.nilR _ _ _ _ _ _ _) (fun h0 => absurd rfl h0) (by omega) (Nat.le_trans hbase B.size)
 exact ⟨v', w', hr, by rw [List.length_append];exact G2, BB⟩
theorem others_is (r : Rep) (h : RH) (s : Hd) (b0 : Nat) (w : World) (X0 : Bx w b0 [.int .i64 r.id, .int .i64 r.size, .int .i64 r.view, .bool r.normal, .int .i64 r.last, .slice h.L.1 h.L.2.1 h.L.2.2, .int .i64 r.commit, .slice h.O.1 h.O.2.1 h.O.2.2, .slice h.A.1 h.A.2.1 h.A.2.2, .slice h.D.1 h.D.2.1 h.D.2.2, .slice s.1 s.2.1 s.2.2]) (m i : Nat) (hm : r.size = m) (hi : r.id = i) (hm5 : m ≤ 5) :
  Calls Tryz.prog 194 #[.pointer (some ⟨b0, 0, none⟩)] w fun e w' => CloR w w' e 1 (othL i m).length (ints (othL i m)) := by
 rw [hm, hi] at X0;clear hm hi;have c0 := X0.cell
 go_enter Tryz.func194, Tryz.ntmps194
 go_wp2
 go_loopw [3, 4, 10] (fun v _ iv wr => ∃ k : Nat, k ≤ m ∧ iv = .int .i64 k ∧ GrowAt 1 wr w.heap.size 2 v (othL i k).length (intF (othL i k)) kd0 (fun _ => []) ∧ w.heap.size ≤ wr.heap.size ∧ Below w.heap.size w wr) (fun _ _ iv _ => m - (intOf iv).toNat)
 case atStart => exact ⟨0, Nat.zero_le _, rfl, GrowAt.nil _ _ _ _ _ _ _, Nat.le_refl _, Below.refl _ _⟩
 case round =>
  rename_i v _
  obtain ⟨k, hk, rfl, G, LZ, BL⟩ := hrel
  clear c0;have XX := X0.low BL X0.lt;have c0 := XX.cell
  by_cases hlt : k < m
  ·have hlk : (k : Int) < (m : Int) := by omega
   have HO : Hid (othL i (k + 1) = if k = i then othL i k else othL i k ++ [(k : Int)]) := rfl
   have HG : Hid _ := G
   have HLZ : Hid _ := LZ
   have HBL : Hid _ := BL
   clear G
   by_cases q : k = i
   ·have q1 : ((k : Int) != (i : Int)) = false := by simp [q]
    have HO2 : Hid (othL i (k + 1) = othL i k) := by show _ = _;rw [HO.out, if_pos q]
    clear q HO;go_wp2
    go_roundw
    case rel => exact ⟨k + 1, by omega, by go_num, by rw [HO2.out];exact HG.out, HLZ.out, HBL.out⟩
    case measure => simp [intOf];omega
   ·have q1 : ((k : Int) != (i : Int)) = true := by simp;omega
    have HO2 : Hid (othL i (k + 1) = othL i k ++ [(k : Int)]) := by show _ = _;rw [HO.out, if_neg q]
    clear q HO;have hll := othL_len i k
    go_wp2_with (first | (at_builtin;refine Lib.wpList_append_run _ rfl _ _ _ _ rfl _ _ rfl rfl _ _ (hr _) ?_) | ((with_reducible refine lit_newX 61 1 _ [.int .i64 k] 2 (fun _ => by kernel_rfl)  ?_);intro bl W0 N0;have obl := N0.ge;have B := N0.below;have Xl := N0.bx;have cl := Xl.cell;clear N0;obtain ⟨v', w', hr, G2, BB⟩ := int_snoc HG.out B Xl HLZ.out (by omega);have HG2 : Hid _ := G2;clear G2) | fail)
    have BL2 : Hid (Below w.heap.size w w') := (BL.trans (B.mono LZ)).trans BB
    have LZ2 : Hid (w.heap.size ≤ w'.heap.size) := Nat.le_trans LZ (Nat.le_trans B.size BB.size)
    clear Xl cl B BB hr;go_wp2
    go_roundw
    case rel => exact ⟨k + 1, by omega, by go_num, by rw [HO2.out];exact HG2.out, LZ2.out, BL2.out⟩
    case measure => simp [intOf];omega
  ·obtain rfl : k = m := by omega
   obtain ⟨ao, cap, rfl, E⟩ := G.els
   have R := E.row;rw [flat_ints] at R;clear G E;go_wp2;go_ret;exact ⟨ao, cap, _, _, rfl, Nat.le_refl _, BL.size, Nat.le_refl _, R, BL⟩
theorem Tryz.infoMail : (Tryz.prog.info? 75).map (fun i => (i.zero, i.size, i.bytes)) = some (some (.agg #[.int .i64 0, .int .i64 0, .int .i64 0, .int .i64 0, .int .i64 0, .bool false, .int .i64 0, .int .i64 0, .int .i64 0, .int .i64 0, .int .i64 0, .int .i64 0, .int .i64 0, .slice none 0 0, .int .i64 0]), 15, 136) := by kernel_rfl
def putM (m : Ml) (fr tgt view : Int) : Ml := ⟨m.kind, fr, tgt, view, m.at_, m.has, m.en, m.last, m.log, m.commit⟩
theorem mlF_last (K : Nat → Hd) (ms : List Ml) (m : Ml) : (List.range 15).map (mlF K (ms ++ [m]) ms.length) = mlV (K ms.length) m := by
 have e : (ms ++ [m]).getD ms.length ml0 = m := by simp [List.getD]
 unfold mlF;rw [e]
 simp [List.range_succ, mlV]
theorem mlF_old (K : Nat → Hd) (ms : List Ml) (m : Ml) {i j : Nat} (hi : i < ms.length) : mlF K (ms ++ [m]) i j = mlF K ms i j := by
 unfold mlF;rw [show (ms ++ [m]).getD i ml0 = ms.getD i ml0 by simp [List.getD, List.getElem?_append_left hi]]
theorem mlL_old (ms : List Ml) (m : Ml) {i : Nat} (hi : i < ms.length) : mlL (ms ++ [m]) i = mlL ms i := by
 unfold mlL;rw [show (ms ++ [m]).getD i ml0 = ms.getD i ml0 by simp [List.getD, List.getElem?_append_left hi]]
theorem mlL_last (ms : List Ml) (m : Ml) : mlL (ms ++ [m]) ms.length = m.log := by simp [mlL, List.getD]
def SentAt (w : World) (base : Nat) (v : Value) (Km : Nat → Hd) (ms : List Ml) : Prop := GrowAt 15 w base 75 v ms.length (mlF Km ms) Km (mlL ms)
theorem sent_snoc {W : World} {base b1 : Nat} {v : Value} {Km : Nat → Hd} {ms : List Ml} {m : Ml} {hd : Hd} (G : SentAt W base v Km ms) (X1 : Bx W b1 (mlV hd m)) (R : RowAt W true base W.heap.size 6 hd.1 hd.2.1 hd.2.2 (sixs m.log)) (hsep : hd.2.1 ≠ 0 → v.ownBlock ≠ some (sb hd.1) ∧ ∀ j, j < ms.length → (Km j).2.1 ≠ 0 → sb (Km j).1 ≠ sb hd.1) (hbase : base ≤ W.heap.size) (hn : ms.length ≤ 1000) :
  ∃ v' w', (∀ ty, (Builtin.append_ #[29, 29] ty #[v, .slice (some ⟨b1, 0, none⟩) 1 1]).run Tryz.prog W = .ok v' w') ∧ SentAt w' base v' (fun j => if j = ms.length then hd else Km j) (ms ++ [m]) ∧ KeptS (fun k => v.ownBlock = some k) W w' ∧ Below base W w' := by
 obtain ⟨i2, hi2, ha2, hb2, hc2⟩ := info_parts Tryz.infoMail
 have LR : RowAt W false b1 (b1 + 1) 15 (some ⟨b1, 0, none⟩) 1 1 (mlV hd m) := ⟨by simp [mlV], Nat.le_refl _, fun _ => ⟨b1, 0, rfl, Nat.le_refl _, Nat.lt_succ_self _, X1.lt, fun i hi => by rw [Nat.zero_add, X1.cell i, List.getD_eq_getElem?_getD, List.getElem?_eq_getElem (by simpa [mlV] using hi)];rfl, fun z => by cases z⟩⟩
 obtain ⟨K2, hK2⟩ : ∃ K2 : Nat → Hd, K2 = fun j => if j = ms.length then hd else Km j := ⟨_, rfl⟩
 have e1K : K2 ms.length = hd := by rw [hK2];simp
 have e2K : ∀ j, j < ms.length → K2 j = Km j := fun j hj => by rw [hK2];simp [Nat.ne_of_lt hj]
 obtain ⟨v', w', hr, G2, KS, BB⟩ := GrowAt.snoc (P := Tryz.prog) G 29 i2 (.agg #[.int .i64 0, .int .i64 0, .int .i64 0, .int .i64 0, .int .i64 0, .bool false, .int .i64 0, .int .i64 0, .int .i64 0, .int .i64 0, .int .i64 0, .int .i64 0, .int .i64 0, .slice none 0 0, .int .i64 0]) 136 Tryz.underlying29 hi2 ha2 hb2 hc2 rfl (by omega) (by omega) ⟨b1, 0, none⟩ 1 (mlV hd m) LR (by simp [mlV, hv, Value.oneCell']) (mlF K2 (ms ++ [m])) K2 (mlL (ms ++ [m])) (fun i j hi _ => by rw [mlF_old _ _ _ hi];unfold mlF;rw [e2K i hi]) (by rw [mlF_last, e1K]) e2K (fun i hi => mlL_old _ _ hi) (by rw [e1K, mlL_last];exact R) (fun h0 => by rw [e1K] at h0 ⊢;exact hsep h0) (by omega) hbase
 refine ⟨v', w', hr, ?_, KS, BB⟩
 rw [← hK2];unfold SentAt;rw [List.length_append];exact G2
theorem sendOf_is (r : Rep) (h : RH) (s : Hd) (view tgt : Int) (m : Ml) (hd : Hd) (base b0 : Nat) (w : World) (Km : Nat → Hd) (ms : List Ml) (X0 : Bx w b0 [.int .i64 r.id, .int .i64 r.size, .int .i64 r.view, .bool r.normal, .int .i64 r.last, .slice h.L.1 h.L.2.1 h.L.2.2, .int .i64 r.commit, .slice h.O.1 h.O.2.1 h.O.2.2, .slice h.A.1 h.A.2.1 h.A.2.2, .slice h.D.1 h.D.2.1 h.D.2.2, .slice s.1 s.2.1 s.2.2]) (G : SentAt w base (.slice s.1 s.2.1 s.2.2) Km ms) (R : RowAt w true base w.heap.size 6 hd.1 hd.2.1 hd.2.2 (sixs m.log)) (hsep : hd.2.1 ≠ 0 → (Value.slice s.1 s.2.1 s.2.2).ownBlock ≠ some (sb hd.1) ∧ ∀ j, j < ms.length → (Km j).2.1 ≠ 0 → sb (Km j).1 ≠ sb hd.1) (hb : b0 < base) (hbase : base ≤ w.heap.size) (hn : ms.length ≤ 1000) :
  Calls Tryz.prog 250 #[.pointer (some ⟨b0, 0, none⟩), .int .i64 view, .int .i64 tgt, .agg #[.int .i64 m.kind, .int .i64 m.fr, .int .i64 m.to, .int .i64 m.view, .int .i64 m.at_, .bool m.has, .int .i64 m.en.1, .int .i64 m.en.2.1, .int .i64 m.en.2.2.1, .int .i64 m.en.2.2.2.1, .int .i64 m.en.2.2.2.2.1, .int .i64 m.en.2.2.2.2.2, .int .i64 m.last, .slice hd.1 hd.2.1 hd.2.2, .int .i64 m.commit]] w fun e w' => ∃ s' : Hd, e = .returned (.tuple #[]) ∧ Bx w' b0 [.int .i64 r.id, .int .i64 r.size, .int .i64 r.view, .bool r.normal, .int .i64 r.last, .slice h.L.1 h.L.2.1 h.L.2.2, .int .i64 r.commit, .slice h.O.1 h.O.2.1 h.O.2.2, .slice h.A.1 h.A.2.1 h.A.2.2, .slice h.D.1 h.D.2.1 h.D.2.2, .slice s'.1 s'.2.1 s'.2.2] ∧ SentAt w' base (.slice s'.1 s'.2.1 s'.2.2) (fun j => if j = ms.length then hd else Km j) (ms ++ [putM m r.id tgt view]) ∧ s'.2.1 = ms.length + 1 ∧ KeptS (fun k => k = b0 ∨ (Value.slice s.1 s.2.1 s.2.2).ownBlock = some k) w w' := by
 have c0 := X0.cell;have f0 := X0.froz;have ob0 := X0.lt
 have lG : w.heap.size ≤ w.heap.size := Nat.le_refl _
 have HG : Hid _ := G
 have HR : Hid _ := R
 have HSEP : Hid _ := hsep
 clear G R hsep
 go_enter Tryz.func250, Tryz.ntmps250
 go_upto_region 4 with (first | ((with_reducible refine store_oneX 2 X1 3 (.int .i64 view) (by simp) (by kernel_rfl) rfl rfl rfl ?_);intro V3 S;replace X0 := X0.kp S.kept;replace c0 := X0.cell;replace f0 := X0.froz;replace X1 : Bx V3 b1 [.int .i64 m.kind, .int .i64 r.id, .int .i64 tgt, .int .i64 view, .int .i64 m.at_, .bool m.has, .int .i64 m.en.1, .int .i64 m.en.2.1, .int .i64 m.en.2.2.1, .int .i64 m.en.2.2.2.1, .int .i64 m.en.2.2.2.2.1, .int .i64 m.en.2.2.2.2.2, .int .i64 m.last, .slice hd.1 hd.2.1 hd.2.2, .int .i64 m.commit] := S.bx;replace c1 := X1.cell;replace f1 := X1.froz;replace B := bkp B S.kept;clear S) | ((with_reducible refine store_oneX 2 X1 2 (.int .i64 tgt) (by simp) (by kernel_rfl) rfl rfl rfl ?_);intro V2 S;replace X0 := X0.kp S.kept;replace c0 := X0.cell;replace f0 := X0.froz;replace X1 : Bx V2 b1 [.int .i64 m.kind, .int .i64 r.id, .int .i64 tgt, .int .i64 m.view, .int .i64 m.at_, .bool m.has, .int .i64 m.en.1, .int .i64 m.en.2.1, .int .i64 m.en.2.2.1, .int .i64 m.en.2.2.2.1, .int .i64 m.en.2.2.2.2.1, .int .i64 m.en.2.2.2.2.2, .int .i64 m.last, .slice hd.1 hd.2.1 hd.2.2, .int .i64 m.commit] := S.bx;replace c1 := X1.cell;replace f1 := X1.froz;replace B := bkp B S.kept;clear S) | ((with_reducible refine store_oneX 2 X1 1 (.int .i64 r.id) (by simp) (by kernel_rfl) rfl rfl rfl ?_);intro V1 S;replace X0 := X0.kp S.kept;replace c0 := X0.cell;replace f0 := X0.froz;replace X1 : Bx V1 b1 [.int .i64 m.kind, .int .i64 r.id, .int .i64 m.to, .int .i64 m.view, .int .i64 m.at_, .bool m.has, .int .i64 m.en.1, .int .i64 m.en.2.1, .int .i64 m.en.2.2.1, .int .i64 m.en.2.2.2.1, .int .i64 m.en.2.2.2.2.1, .int .i64 m.en.2.2.2.2.2, .int .i64 m.last, .slice hd.1 hd.2.1 hd.2.2, .int .i64 m.commit] := S.bx;replace c1 := X1.cell;replace f1 := X1.froz;replace B := bkp B S.kept;clear S) | ((have g := ob0);clear g;(with_reducible refine box_newX 75 [.int .i64 m.kind, .int .i64 m.fr, .int .i64 m.to, .int .i64 m.view, .int .i64 m.at_, .bool m.has, .int .i64 m.en.1, .int .i64 m.en.2.1, .int .i64 m.en.2.2.1, .int .i64 m.en.2.2.2.1, .int .i64 m.en.2.2.2.2.1, .int .i64 m.en.2.2.2.2.2, .int .i64 m.last, .slice hd.1 hd.2.1 hd.2.2, .int .i64 m.commit] rfl ?_);intro b1 W1 N1;have ob1 := N1.ge;have o0_b1 := ltl X0.lt N1.ge;replace X0 := X0.below N1.below;replace c0 := X0.cell;replace f0 := X0.froz;have B := N1.below;have X1 := N1.bx;have c1 := X1.cell;have f1 := X1.froz;clear N1) | fail)
 have DA : Below V3.heap.size V3 (V3.alloc (.cells #[.int .i64 m.kind, .int .i64 r.id, .int .i64 tgt, .int .i64 view, .int .i64 m.at_, .bool m.has, .int .i64 m.en.1, .int .i64 m.en.2.1, .int .i64 m.en.2.2.1, .int .i64 m.en.2.2.2.1, .int .i64 m.en.2.2.2.2.1, .int .i64 m.en.2.2.2.2.2, .int .i64 m.last, .slice hd.1 hd.2.1 hd.2.2, .int .i64 m.commit] 75)).drew := ((Below.refl _ _).alloc (Nat.le_refl _) _).drew
 have DB : Below V3.heap.size V3 (V3.alloc (.cells #[.int .i64 m.kind, .int .i64 r.id, .int .i64 tgt, .int .i64 view, .int .i64 m.at_, .bool m.has, .int .i64 m.en.1, .int .i64 m.en.2.1, .int .i64 m.en.2.2.1, .int .i64 m.en.2.2.2.1, .int .i64 m.en.2.2.2.2.1, .int .i64 m.en.2.2.2.2.2, .int .i64 m.last, .slice hd.1 hd.2.1 hd.2.2, .int .i64 m.commit] 75)) := (Below.refl _ _).alloc (Nat.le_refl _) _
 have LX : Bx (V3.alloc (.cells #[.int .i64 m.kind, .int .i64 r.id, .int .i64 tgt, .int .i64 view, .int .i64 m.at_, .bool m.has, .int .i64 m.en.1, .int .i64 m.en.2.1, .int .i64 m.en.2.2.1, .int .i64 m.en.2.2.2.1, .int .i64 m.en.2.2.2.2.1, .int .i64 m.en.2.2.2.2.2, .int .i64 m.last, .slice hd.1 hd.2.1 hd.2.2, .int .i64 m.commit] 75)).drew V3.heap.size (mlV hd (putM m r.id tgt view)) := bx_alloc V3.drew (mlV hd (putM m r.id tgt view)) 75
 have SB := Nat.le_trans hbase B.size
 obtain ⟨v', w', hr, G2, KS, BB⟩ := sent_snoc (hd := hd) (m := putM m r.id tgt view) ((HG.out : GrowAt _ _ _ _ _ _ _ _ _).below (below_next B DA)) LX ((HR.out.below (below_next B DA)).widen (Nat.le_refl _) (below_next B DA).size) HSEP.out (Nat.le_trans SB DA.size) hn
 have nb : ¬ ((Value.slice s.1 s.2.1 s.2.2).ownBlock = some b0) := fun z => by have := (GrowAt.own (HG.out : GrowAt _ _ _ _ _ _ _ _ _)).lt b0 z;omega
 have XA := X0.below DB;have XD := X0.below DA;have XN := XD.keptS KS nb;have cA := XA.cell;have cN := XN.cell;have fN := XN.froz;have YA := X1.below DB;have dA := YA.cell
 obtain ⟨sa, sc, e9, _, _⟩ := owns_slice (GrowAt.own (G2 : GrowAt _ _ _ _ _ _ _ _ _))
 rw [show (ms ++ [putM m r.id tgt view]).length = ms.length + 1 by simp] at e9
 subst e9
 have HG2 : Hid _ := G2
 have KF : Hid (KeptS (fun k => k = b0 ∨ (Value.slice s.1 s.2.1 s.2.2).ownBlock = some k) w w') := (KeptS.below (below_next B DA)).trans (KS.mono fun k hk => Or.inr hk)
 clear G2 KS BB LX;go_wp2_with fail
 go_region_law (first | (refine step_append_run rfl _ _ _ _ rfl _ _ rfl rfl _ _ (hr _) ?_))
 all_goals
  clear cA cN fN dA hr
  have KC : Kept b0 (b0 + 1) w' (w'.setCell ⟨b0, 10, none⟩ (.slice sa (ms.length + 1) sc)) := Kept.setCell (p := ⟨b0, 10, none⟩) (Kept.refl _ _ _) (Nat.le_refl _) (Nat.lt_succ_self _) _
  have X9 := XN.set 10 (by simp) (.slice sa (ms.length + 1) sc)
  have G9 := GrowAt.kept HG2.out KC (by omega)
  have K9 := KF.out.setCell (p := ⟨b0, 10, none⟩) (Or.inl rfl) (.slice sa (ms.length + 1) sc)
  have HX9 : Hid _ := X9
  have HG9 : Hid _ := G9
  have HK9 : Hid _ := K9
  clear KC X9 G9 K9 XN XA XD YA;go_wp2
  exact bodyPost_end (v := .tuple #[]) (by simp [results, Tryz.results250, go_sem]) rfl ⟨(sa, (ms.length + 1), sc), rfl, HX9.out, HG9.out, by simp, HK9.out⟩
theorem send_is (r : Rep) (h : RH) (s : Hd) (tgt : Int) (m : Ml) (hd : Hd) (base b0 : Nat) (w : World) (Km : Nat → Hd) (ms : List Ml) (X0 : Bx w b0 [.int .i64 r.id, .int .i64 r.size, .int .i64 r.view, .bool r.normal, .int .i64 r.last, .slice h.L.1 h.L.2.1 h.L.2.2, .int .i64 r.commit, .slice h.O.1 h.O.2.1 h.O.2.2, .slice h.A.1 h.A.2.1 h.A.2.2, .slice h.D.1 h.D.2.1 h.D.2.2, .slice s.1 s.2.1 s.2.2]) (G : SentAt w base (.slice s.1 s.2.1 s.2.2) Km ms) (R : RowAt w true base w.heap.size 6 hd.1 hd.2.1 hd.2.2 (sixs m.log)) (hsep : hd.2.1 ≠ 0 → (Value.slice s.1 s.2.1 s.2.2).ownBlock ≠ some (sb hd.1) ∧ ∀ j, j < ms.length → (Km j).2.1 ≠ 0 → sb (Km j).1 ≠ sb hd.1) (hb : b0 < base) (hbase : base ≤ w.heap.size) (hn : ms.length ≤ 1000) :
  Calls Tryz.prog 195 #[.pointer (some ⟨b0, 0, none⟩), .int .i64 tgt, .agg #[.int .i64 m.kind, .int .i64 m.fr, .int .i64 m.to, .int .i64 m.view, .int .i64 m.at_, .bool m.has, .int .i64 m.en.1, .int .i64 m.en.2.1, .int .i64 m.en.2.2.1, .int .i64 m.en.2.2.2.1, .int .i64 m.en.2.2.2.2.1, .int .i64 m.en.2.2.2.2.2, .int .i64 m.last, .slice hd.1 hd.2.1 hd.2.2, .int .i64 m.commit]] w fun e w' => ∃ s' : Hd, e = .returned (.tuple #[]) ∧ Bx w' b0 [.int .i64 r.id, .int .i64 r.size, .int .i64 r.view, .bool r.normal, .int .i64 r.last, .slice h.L.1 h.L.2.1 h.L.2.2, .int .i64 r.commit, .slice h.O.1 h.O.2.1 h.O.2.2, .slice h.A.1 h.A.2.1 h.A.2.2, .slice h.D.1 h.D.2.1 h.D.2.2, .slice s'.1 s'.2.1 s'.2.2] ∧ SentAt w' base (.slice s'.1 s'.2.1 s'.2.2) (fun j => if j = ms.length then hd else Km j) (ms ++ [putM m r.id tgt r.view]) ∧ s'.2.1 = ms.length + 1 ∧ KeptS (fun k => k = b0 ∨ base ≤ k) w w' := by
 have c0 := X0.cell;have ob0 := X0.lt
 have HG : Hid (GrowAt _ _ _ _ _ _ _ _ _) := G
 have HR : Hid _ := R
 have HSEP : Hid _ := hsep
 clear G R hsep
 go_enter Tryz.func195, Tryz.ntmps195
 go_wp2_with (first | ((have g := ob0);clear g;(with_reducible refine box_newX 75 [.int .i64 m.kind, .int .i64 m.fr, .int .i64 m.to, .int .i64 m.view, .int .i64 m.at_, .bool m.has, .int .i64 m.en.1, .int .i64 m.en.2.1, .int .i64 m.en.2.2.1, .int .i64 m.en.2.2.2.1, .int .i64 m.en.2.2.2.2.1, .int .i64 m.en.2.2.2.2.2, .int .i64 m.last, .slice hd.1 hd.2.1 hd.2.2, .int .i64 m.commit] rfl ?_);intro b1 W1 N1;have ob1 := N1.ge;have o0_b1 := ltl X0.lt N1.ge;replace X0 := X0.below N1.below;replace c0 := X0.cell;have B := N1.below;have X1 := N1.bx;have c1 := X1.cell;clear N1) | fail)
 have DQ : Below W1.heap.size W1 W1.drew := (Below.refl _ _).drew
 replace X0 := X0.below DQ;replace c0 := X0.cell;replace X1 := X1.below DQ;replace c1 := X1.cell;replace B := below_next B DQ;clear DQ;have cv := X0.cell 2;simp only [List.getElem?_cons_succ, List.getElem?_cons_zero] at cv
 have nb1 : Hid (¬ (Value.slice s.1 s.2.1 s.2.2).ownBlock = some b1) := fun z => by have := (HG.out.own.lt b1 z).2;omega
 refine wp_region_held_drew (S := (fun w' => w'.cell? ⟨b0, 2, none⟩ = some (.int .i64 r.view) ∧ ∀ k : Nat, w'.cell? ⟨b1, k, none⟩ = [.int .i64 m.kind, .int .i64 m.fr, .int .i64 m.to, .int .i64 m.view, .int .i64 m.at_, .bool m.has, .int .i64 m.en.1, .int .i64 m.en.2.1, .int .i64 m.en.2.2.1, .int .i64 m.en.2.2.2.1, .int .i64 m.en.2.2.2.2.1, .int .i64 m.en.2.2.2.2.2, .int .i64 m.last, .slice hd.1 hd.2.1 hd.2.2, .int .i64 m.commit][k]?)) (by kernel_rfl) ⟨cv, c1⟩ (fun hZq => ?_)
 refine tk 0 hZq ?_;refine tk 1 hZq ?_;refine tk 2 hZq ?_;refine tk 3 hZq ?_;refine tk 4 hZq ?_;refine tk 5 hZq ?_;refine tk 6 hZq ?_;refine tk 7 hZq ?_
 refine rd1 8 (fun KK hKK => ?_)
 go_simp
 go_at_call 250
 refine (sendOf_is r h s r.view tgt m hd base b0 _ Km ms X0 (HG.out.below B) ((HR.out.below B).widen (Nat.le_refl _) B.size) HSEP.out hb (Nat.le_trans hbase B.size) hn).mono ?_;rintro e w2 ⟨s', rfl, X2, G2, hs2, KS2⟩;have cv := X2.cell 2;simp only [List.getElem?_cons_succ, List.getElem?_cons_zero] at cv
 have c1 := (X1.keptS KS2 (fun z => z.elim (fun q => by omega) nb1.out)).cell
 have K9 : Hid (KeptS (fun q => q = b0 ∨ base ≤ q) w w2) := (KeptS.below B).trans (KS2.mono fun k hk => hk.imp id fun z => (HG.out.own.lt k z).1)
 have H1 : Hid _ := X2
 have H2 : Hid _ := G2
 clear X2 G2 KS2 X0 X1;clear hZq
 refine hKK _ _ ⟨cv, c1⟩ (fun hZq => ?_)
 clear hKK KK
 refine wpAnyH_done (by kernel_rfl) ?_ _
 go_wp2
 exact bodyPost_end (v := .tuple #[]) (by simp [results, Tryz.results195, go_sem]) rfl ⟨s', rfl, H1.out, H2.out, hs2, K9.out⟩
def chg0 : Ml := ⟨3, 0, 0, 0, 0, false, en0, 0, [], 0⟩
def chgM (r : Rep) (t : Int) : Ml := putM chg0 r.id t r.view
def chgL (r : Rep) : List Ml := (othL r.id.toNat r.size.toNat).map (chgM r)
theorem take_map_succ {xs : List Int} {k : Nat} (h : k < xs.length) (f : Int → Ml) : (xs.take (k + 1)).map f = (xs.take k).map f ++ [f (xs.getD k 0)] := by
 have e : xs.getD k 0 = xs[k] := by simp [List.getD, h]
 rw [e, List.take_add_one, List.getElem?_eq_getElem h, List.map_append];rfl
def NilK (Km : Nat → Hd) (n : Nat) : Prop := ∀ j, j < n → (Km j).2.1 = 0
theorem sendChanges_is (r : Rep) (h : RH) (b0 : Nat) (w : World) (X0 : Bx w b0 [.int .i64 r.id, .int .i64 r.size, .int .i64 r.view, .bool r.normal, .int .i64 r.last, .slice h.L.1 h.L.2.1 h.L.2.2, .int .i64 r.commit, .slice h.O.1 h.O.2.1 h.O.2.2, .slice h.A.1 h.A.2.1 h.A.2.2, .slice h.D.1 h.D.2.1 h.D.2.2, .slice none 0 0]) (hs : 1 ≤ r.size ∧ r.size ≤ 5) (hid : 0 ≤ r.id ∧ r.id ≤ r.size - 1) :
  Calls Tryz.prog 116 #[.pointer (some ⟨b0, 0, none⟩)] w fun e w' => ∃ (s : Hd) (Km : Nat → Hd) (base : Nat), e = .returned (.tuple #[]) ∧ Bx w' b0 [.int .i64 r.id, .int .i64 r.size, .int .i64 r.view, .bool r.normal, .int .i64 r.last, .slice h.L.1 h.L.2.1 h.L.2.2, .int .i64 r.commit, .slice h.O.1 h.O.2.1 h.O.2.2, .slice h.A.1 h.A.2.1 h.A.2.2, .slice h.D.1 h.D.2.1 h.D.2.2, .slice s.1 s.2.1 s.2.2] ∧ SentAt w' base (.slice s.1 s.2.1 s.2.2) Km (chgL r) ∧ s.2.1 = (chgL r).length ∧ NilK Km s.2.1 ∧ w.heap.size ≤ base ∧ KeptS (fun k => k = b0) w w' := by
 obtain ⟨m, hm⟩ : ∃ m : Nat, r.size = m := ⟨r.size.toNat, by omega⟩
 obtain ⟨i, hi0⟩ : ∃ i : Nat, r.id = i := ⟨r.id.toNat, by omega⟩
 have HC : Hid (chgL r = (othL i m).map (chgM r)) := by show _ = _;unfold chgL;rw [hm, hi0];rfl
 have hlen := othL_len i m
 have hm5 : m ≤ 5 := by omega
 have c0 := X0.cell;have ob0 := X0.lt
 go_enter Tryz.func116, Tryz.ntmps116
 go_wp2_with fail;refine (others_is r h (none, 0, 0) b0 _ X0 m i hm hi0 hm5).mono ?_;rintro e w1 ⟨ra, rc, z, ue, rfl, Gz, zu, hR, R, BB⟩;clear hm hi0 hs hid
 have lb : b0 < w1.heap.size := Nat.lt_of_lt_of_le ob0 BB.size
 have HX : Hid _ := X0.below BB
 have hRn := R.le
 have HW : Hid _ := BB.size
 have HBB : Hid _ := BB
 have HZB : Hid (b0 < z) := Nat.lt_of_lt_of_le ob0 Gz
 clear X0 c0 BB Gz zu;generalize hxs : othL i m = xs at *
 have HXS : Hid _ := hxs
 clear hxs;go_wp2
 have HNR : Hid (∀ q, inR ra xs.length q → ¬ (q = b0 ∨ w1.heap.size ≤ q)) := fun q hq hs => by
  have hb := R.inB hq
  have := HZB.out
  omega
 go_loopw [3, 7] (fun _ iv wr => ∃ (k : Nat) (s : Hd) (Km : Nat → Hd), k ≤ xs.length ∧ iv = .int .i64 k ∧ Bx wr b0 [.int .i64 r.id, .int .i64 r.size, .int .i64 r.view, .bool r.normal, .int .i64 r.last, .slice h.L.1 h.L.2.1 h.L.2.2, .int .i64 r.commit, .slice h.O.1 h.O.2.1 h.O.2.2, .slice h.A.1 h.A.2.1 h.A.2.2, .slice h.D.1 h.D.2.1 h.D.2.2, .slice s.1 s.2.1 s.2.2] ∧ SentAt wr w1.heap.size (.slice s.1 s.2.1 s.2.2) Km ((xs.take k).map (chgM r)) ∧ s.2.1 = k ∧ NilK Km k ∧ w1.heap.size ≤ wr.heap.size ∧ KeptS (fun q => q = b0 ∨ w1.heap.size ≤ q) w1 wr) (fun _ iv _ => xs.length - (intOf iv).toNat)
 case atStart => exact ⟨0, (none, 0, 0), kd0, Nat.zero_le _, rfl, HX.out, GrowAt.nil _ _ _ _ _ _ _, rfl, fun j hj => absurd hj (Nat.not_lt_zero _), Nat.le_refl _, KeptS.refl _ _⟩
 case round =>
  obtain ⟨k, s, Km, hk, rfl, X0, G, hsk, NK, LZ, KS⟩ := hrel
  clear HX
  by_cases hlt : k < xs.length
  ·have hlk : (k : Int) < (xs.length : Int) := by omega
   have R2 : RowAt wr true z ue 1 ra xs.length rc (ints xs) := R.keptR KS (fun q hq hs => HNR.out q hq hs)
   obtain ⟨b, off, rfl, _, _, _, e0, _⟩ := R2.int hlt
   clear R2;obtain ⟨t, ht⟩ : ∃ t, xs.getD k 0 = t := ⟨_, rfl⟩;rw [ht] at e0
   have HT : Hid _ := take_map_succ hlt (chgM r)
   rw [ht] at HT;clear ht
   have hml : ((xs.take k).map (chgM r)).length = k := by simp;omega
   have HML : Hid _ := hml
   go_wp2_with fail
   refine (send_is r h s t chg0 (none, 0, 0) w1.heap.size b0 _ Km _ X0 G (RowAt.nilR _ _ _ _ _ _ _) (fun h0 => absurd rfl h0) lb LZ (by rw [HML.out];omega)).mono ?_
   rintro e w2 ⟨s', rfl, X2, G2, hs2, KS2⟩;rw [HML.out] at G2 hs2
   have G3 : SentAt w2 w1.heap.size (.slice s'.1 s'.2.1 s'.2.2) (fun j => if j = k then (none, 0, 0) else Km j) ((xs.take (k + 1)).map (chgM r)) := by rw [HT.out];exact G2
   have NK2 : NilK (fun j => if j = k then ((none : Option Addr), 0, 0) else Km j) (k + 1) := fun j hj => by
    by_cases e : j = k
    ·simp [e]
    ·simp only [if_neg e];exact NK j (by omega)
   have H1 : Hid _ := X2
   have H2 : Hid _ := G3
   have H3 : Hid _ := hs2
   have H4 : Hid _ := NK2
   have H5 : Hid (w1.heap.size ≤ w2.heap.size) := Nat.le_trans LZ KS2.size
   have H6 : Hid _ := KS.trans KS2
   clear X0 X2 G G2 G3 hs2 NK2 KS KS2 HT hml HML e0;go_wp2
   go_roundw
   case rel => exact ⟨k + 1, s', (fun j => if j = k then (none, 0, 0) else Km j), by omega, by go_num, H1.out, H2.out, H3.out, H4.out, H5.out, H6.out⟩
   case measure => simp [intOf];omega
  ·obtain rfl : k = xs.length := by omega
   have K9 : KeptS (fun q => q = b0) w wr := ⟨KS.os.trans HBB.out.os, KS.tape.trans HBB.out.tape, KS.output.trans HBB.out.output, Nat.le_trans HW.out LZ, fun q hq hn => (KS.block q (Nat.lt_of_lt_of_le hq HW.out) (fun z => z.elim hn fun z => by have := HW.out;omega)).trans (HBB.out.block q hq)⟩
   rw [List.take_length] at G
   have H1 : Hid _ := X0
   have H2 : Hid _ := G
   have H3 : Hid _ := K9
   have H4 : Hid _ := NK
   clear X0 G KS K9 NK;go_wp2
   refine bodyPost_end (v := .tuple #[]) (by simp [results, Tryz.results116, go_sem]) rfl ⟨s, Km, w1.heap.size, rfl, H1.out, ?_, ?_, ?_, HW.out, H3.out⟩
   ·rw [HC.out];exact H2.out
   ·rw [HC.out, hsk];simp
   ·rw [hsk];exact H4.out
theorem chgL_len (r : Rep) : (chgL r).length ≤ r.size.toNat := by unfold chgL; rw [List.length_map]; exact othL_len _ _
theorem ans_of {w : World} {lo mid hi base : Nat} {h : RH} {s : Hd} {Km : Nat → Hd} {r : Rep} {ms : List Ml} (R : RepAt w true lo mid h r) (G : SentAt w base (.slice s.1 s.2.1 s.2.2) Km ms) (h1 : mid ≤ base) (h2 : mid ≤ hi) (h3 : lo ≤ base) (h4 : hi = w.heap.size) : AnsAt w true lo hi h s Km r ms := by
 obtain ⟨ao, cap, e, E⟩ := GrowAt.els G
 simp only [Value.slice.injEq] at e
 obtain ⟨e1, e2, e3⟩ := e
 subst h4
 refine ⟨R.widen (Nat.le_refl _) h2, ⟨e2.symm, ?_⟩, fun _ k k1 k2 => ?_⟩
 ·rw [e1, e2, e3];exact E.widen h3 (Nat.le_refl _)
 ·rw [e1, e2] at k2;have a1 := R.inB k1;have a2 := E.inB k2;omega
theorem step_litX {P : Program} {ops : Array Oper} {dst : Option Tmp} {type : TypeId} {pos : String} {after : Array Edge} {a : Act} {w : World} {K : Act → World → Prop} {Q : Exit → Act → World → Prop} {E : Prop} (t : TypeId) (n : Nat) (parts : Array (Nat × Operand)) (cs : List Value) (T : TypeId) (hb : ∀ w : World, (Instr.buildSlice t n (parts.map fun (i, x) => (i, a.eval x))).run P w = .ok (.slice (some ⟨w.heap.size, 0, none⟩) n n) (w.alloc (.cells cs.toArray T)))
  (h : ∀ (b : Nat) (W : World), NewX w W b cs → K (a.put dst (.slice (some ⟨b, 0, none⟩) n n)) W) : if Region.wanted ⟨dst, .buildSlice t n parts, type, pos, after, none⟩ (yielded ops a.tmps) = true then Oper.wp P ⟨dst, .buildSlice t n parts, type, pos, after, none⟩ a w K Q else E := by
 have hw : Region.wanted ⟨dst, .buildSlice t n parts, type, pos, after, none⟩ (yielded ops a.tmps) = true := by simp [Region.wanted]
 rw [if_pos hw]
 have hK2 := h _ _ (by simpa using newX_mk w cs.toArray T)
 have hb' : (Instr.buildSlice t n (Array.map (fun x => (x.fst, a.eval x.snd)) parts)).run P w = _ := hb w
 unfold Oper.wp execOp;simp only [Sem.run_bind, Sem.run_pure, Result.andThen_ok, hb'];exact hK2
theorem AnsAt.ro {w : World} {own : Bool} {lo hi : Nat} {h : RH} {s : Hd} {Km : Nat → Hd} {r : Rep} {ms : List Ml} (x : AnsAt w own lo hi h s Km r ms) : AnsAt w false lo hi h s Km r ms := ⟨x.rep.ro, ⟨x.send.len, x.send.els.ro⟩, fun q => by cases q⟩
theorem AnsAt.keptS {w w' : World} {own : Bool} {lo hi : Nat} {h : RH} {s : Hd} {Km : Nat → Hd} {r : Rep} {ms : List Ml} (x : AnsAt w own lo hi h s Km r ms) {S : Nat → Prop} (hk : KeptS S w w') (hd : Sep (inAns h s Km) S) : AnsAt w' own lo hi h s Km r ms := ⟨x.rep.keptS hk fun k q => hd k (Or.inl q), x.send.keptS hk fun k q => hd k (Or.inr q), x.sep⟩
theorem RowAt.pre {w : World} {own : Bool} {lo hi size : Nat} {ao : Option Addr} {n cap : Nat} {cs : List Value} (h : RowAt w own lo hi size ao n cap cs) {k : Nat} (hk : k ≤ n) : RowAt w own lo hi size ao k cap (cs.take (k * size)) := by
 have hl := h.len
 have hks : k * size ≤ n * size := Nat.mul_le_mul_right _ hk
 refine ⟨by rw [List.length_take];omega, Nat.le_trans hk h.le, fun h0 => ?_⟩
 obtain ⟨b, off, rfl, h1, h2, h3, h4, h5⟩ := h.cells (by omega)
 refine ⟨b, off, rfl, h1, h2, h3, fun i hi => ?_, fun ho i hi => h5 ho i (by omega)⟩
 rw [h4 i (by omega), List.getD_eq_getElem?_getD, List.getD_eq_getElem?_getD, List.getElem?_take_of_lt hi]
theorem sixs_takeV (xs : List En) (k : Nat) (hk : k ≤ xs.length) : sixs (xs.take k) = (sixs xs).take (k * 6) := by
 have hl : (xs.take k).length = k := by rw [List.length_take];omega
 apply List.ext_getElem?
 intro j
 by_cases hj : j < k * 6
 ·rw [List.getElem?_take_of_lt hj]
  have hd : j / 6 < k := by omega
  have e : (xs.take k).getD (j / 6) en0 = xs.getD (j / 6) en0 := by rw [List.getD_eq_getElem?_getD, List.getD_eq_getElem?_getD, List.getElem?_take_of_lt hd]
  have a1 : j < (xs.take k).length * 6 := by omega
  have a2 : j < xs.length * 6 := by omega
  simp only [sixs, List.getElem?_map, List.getElem?_range a1, List.getElem?_range a2, Option.map_some, e]
 ·rw [List.getElem?_eq_none (by rw [sixs_len];omega), List.getElem?_eq_none (by rw [List.length_take];omega)]
theorem RowAt.preE {w : World} {own : Bool} {lo hi : Nat} {ao : Option Addr} {n cap : Nat} {xs : List En} (h : RowAt w own lo hi 6 ao n cap (sixs xs)) {k : Nat} (hk : k ≤ n) : RowAt w own lo hi 6 ao k cap (sixs (xs.take k)) := by
 rw [sixs_takeV xs k (by rw [h.nSixs];exact hk)];exact h.pre hk
def SealRes (w w' : World) (T : TypeId) (base b : Nat) (N M S0 : Hd) (xs : List Nod) (ys : List Mal) (es : List En) : Prop := (∃ S' : Hd, LiveAt w' T base b N M S' xs ys es ∧ ∀ k, hR S' k → hR S0 k ∨ w.heap.size ≤ k) ∧ KeptS (fun k => k = b) w w'
def sealE (q : Rep) (es : List En) : List En := if (es.length : Int) < q.commit then q.log.take q.commit.toNat else es
section
variable {W W2 W3 : World} {T : TypeId} {base b : Nat} {N M S : Hd} {xs : List Nod} {ys : List Mal} {es : List En}
theorem KeptS.one {W W' : World} {b : Nat} (h : Kept b (b + 1) W W') : KeptS (fun q => q = b) W W' := h.toS fun k h1 h2 => by omega
theorem KeptS.thenB {S : Nat → Prop} {w a c : World} (B : Below w.heap.size w a) (h : KeptS S a c) : KeptS S w c :=
 ⟨h.os.trans B.os, h.tape.trans B.tape, h.output.trans B.output, Nat.le_trans B.size h.size, fun k hk hs => (h.block k (Nat.lt_of_lt_of_le hk B.size) hs).trans (B.block k hk)⟩
theorem KeptS.andS {S R : Nat → Prop} {w a c : World} (h : KeptS S w a) (g : KeptS R a c) : KeptS (fun k => S k ∨ R k) w c :=
 ⟨g.os.trans h.os, g.tape.trans h.tape, g.output.trans h.output, Nat.le_trans h.size g.size, fun k hk hs => (g.block k (Nat.lt_of_lt_of_le hk h.size) fun q => hs (Or.inr q)).trans (h.block k hk fun q => hs (Or.inl q))⟩
theorem KeptS.imp {S R : Nat → Prop} {w a : World} (h : KeptS S w a) (hi : ∀ k, S k → R k) : KeptS R w a :=
 ⟨h.os, h.tape, h.output, h.size, fun k hk hs => h.block k hk fun q => hs (hi k q)⟩
theorem LiveAt.setS (x : LiveAt W T base b N M S xs ys es) {z u : Nat} {S' : Hd} {es' : List En} (R : RowAt W true z u 6 S'.1 S'.2.1 S'.2.2 (sixs es')) (hz : base ≤ z) (hN : ∀ q, inL nodeK N.1 N.2.1 xs q → q < z ∨ u ≤ q) (hM : ∀ q, inV M ys q → q < z ∨ u ≤ q) (hb : b < z ∨ u ≤ b) (hs : S'.2.1 ≤ 1048576)
  (P : PutX W W3 b [.slice N.1 N.2.1 N.2.2, .slice M.1 M.2.1 M.2.2, .slice S'.1 S'.2.1 S'.2.2]) : LiveAt W3 T base b N M S' xs ys es' := by
 have KS := KeptS.one P.kept;have hsz := P.kept.size
 refine ⟨P.bx, x.bb, (LAt.keptS nodeOk x.nodes KS fun q hq e => x.bN (e ▸ hq)).widen nodeOk (Nat.le_refl _) hsz, (x.mails.keptS KS fun q hq e => x.bM (e ▸ hq)).mono hsz, ?_, x.sNM, fun q a c => ?_, fun q a c => ?_, x.bN, x.bM, fun c => ?_, ⟨x.sz.n, x.sz.m, hs, x.sz.nodes, x.sz.mails⟩⟩
 ·have R2 := R.keptR KS fun q hq e => by have := R.inB hq;omega
  refine ⟨R2.len, R2.le, fun h0 => ?_⟩
  obtain ⟨b1, o1, e, h1, h2, h3, h4, h5⟩ := R2.cells h0
  exact ⟨b1, o1, e, by omega, h3, h3, h4, h5⟩
 ·have := R.inB c;have := hN q a;omega
 ·have := R.inB c;have := hM q a;omega
 ·have := R.inB c;omega
theorem LiveAt.setN (x : LiveAt W T base b N M S xs ys es) {p o i : Nat} {N' : Hd} (eN : N = (some ⟨p, o, none⟩, N'.2)) (hi : i < N.2.1) {q : Rep} {h : RH} {z u : Nat} (y : RepAt W true z u h q) (hz : base ≤ z) (hu : u ≤ W.heap.size) (hsz : RSz h 1048576) (hN : ∀ k, inL nodeK N.1 N.2.1 xs k → k < z ∨ u ≤ k) (hM : ∀ k, inV M ys k → k < z ∨ u ≤ k) (hS : ∀ k, hR S k → k < z ∨ u ≤ k) (hb : b < z ∨ u ≤ b) : LiveAt (W.setCells p (o + i * 10) (repC q h)) T base b N M S (xs.set i (q, h)) ys es := by
 have hn0 : N.2.1 ≠ 0 := by omega
 have hp : inL nodeK N.1 N.2.1 xs p := Or.inl ⟨hn0, by rw [eN];rfl⟩
 have KS : KeptS (fun k => k = p) W (W.setCells p (o + i * 10) (repC q h)) := KeptS.one (kept_el _ _ _)
 have hs : (W.setCells p (o + i * 10) (repC q h)).heap.size = W.heap.size := size_setCells' _ _ _ _
 have hin : ∀ k, inRep h k → z ≤ k ∧ k < u := fun k hk => by have := y.inB hk;omega
 have inN : ∀ k, inL nodeK N.1 N.2.1 (xs.set i (q, h)) k → inL nodeK N.1 N.2.1 xs k ∨ (z ≤ k ∧ k < u) := fun k hk => by
  rcases hk with c | ⟨j, a, e, c⟩
  ·exact Or.inl (Or.inl c)
  ·by_cases c2 : j = i
   ·subst c2
    have hx : j < xs.length := by rw [LAt.len x.nodes];exact hi
    rw [List.getElem?_set_self hx] at e;rw [← Option.some.inj e] at c;exact Or.inr (hin k c)
   ·rw [List.getElem?_set_ne (Ne.symm c2)] at e;exact Or.inl (Or.inr ⟨j, a, e, c⟩)
 have L : LAt nodeK W true base W.heap.size (some ⟨p, o, none⟩) N.2.1 N.2.2 xs := by
  have := x.nodes
  unfold NAt at this
  rw [eN] at this ⊢;exact this
 have P := L.put nodeOk hi (q, h) (nodeOk.widen (a := (q, h)) y hz hu) (fun k hk => by have := hin k hk;have := hN p hp;omega) (fun j c ec _ k hk hk2 => by
  have := hin k hk
  have := hN k (Or.inr ⟨j, c, ec, hk2⟩)
  omega)
 refine ⟨x.bx.keptS KS fun e => x.bN (e ▸ hp), x.bb, ?_, by rw [hs];exact x.mails.keptS KS fun k hk e => x.sNM p hp (e ▸ hk), by rw [hs];exact x.slog.keptR KS fun k hk e => x.sNS p hp (e ▸ hk), fun k a c => ?_, fun k a c => ?_, x.sMS, fun a => ?_, x.bM, x.bS, ⟨x.sz.n, x.sz.m, x.sz.s, fun j a e => ?_, x.sz.mails⟩⟩
 ·rw [hs]
  show LAt nodeK _ true base _ N.1 N.2.1 N.2.2 _
  rw [eN];rw [eN] at P;exact P
 ·rcases inN k a with d | d
  ·exact x.sNM k d c
  ·have := hM k c;omega
 ·rcases inN k a with d | d
  ·exact x.sNS k d c
  ·have := hS k c;omega
 ·rcases inN b a with d | d
  ·exact x.bN d
  ·omega
 ·by_cases c2 : j = i
  ·subst c2
   have hx : j < xs.length := by rw [LAt.len x.nodes];exact hi
   rw [List.getElem?_set_self hx] at e;rw [← Option.some.inj e];exact hsz
  ·rw [List.getElem?_set_ne (Ne.symm c2)] at e;exact x.sz.nodes j a e
theorem LiveAt.app {P : Program} (x : LiveAt W T base b N M S xs ys es) (hbw : base ≤ W.heap.size) (t : TypeId) (i0 : TypeInfo) (z : Value) (bytes : Nat) (ht : P.underlying t = some (.slice T)) (hi0 : P.info? T = some i0) (hz0 : i0.zero = some z) (hz1 : i0.size = 15) (hz2 : i0.bytes = bytes) (hzs : z.cells.size = 15) (hby : bytes ≤ 1000)
  {ow : Bool} {l u : Nat} (ao : Option Addr) (m c : Nat) (zs : List Mal) (hrow : RowAt W ow l u 15 ao m c (zs.flatMap mailK.cells)) (hzl : zs.length = m) (hm : ∀ (i : Nat) (a : Mal), zs[i]? = some a → mailK.mem W true base W.heap.size a) (hap : ∀ (i : Nat) (a : Mal), zs[i]? = some a → ∀ k, mailK.inn a k → ¬ inL nodeK N.1 N.2.1 xs k ∧ ¬ inV M ys k ∧ ¬ hR S k ∧ k ≠ b) (hsep2 : ∀ (i j : Nat) (a c : Mal), zs[i]? = some a → zs[j]? = some c → i ≠ j → Sep (mailK.inn a) (mailK.inn c)) (hn : M.2.1 + m ≤ 1000000) (hsz : ∀ (i : Nat) (a : Mal), zs[i]? = some a → a.2.2.1 ≤ 1048576) :
  ∃ (M' : Hd) (W2 : World), (∀ ty, (Builtin.append_ #[t, t] ty #[.slice M.1 M.2.1 M.2.2, .slice ao m c]).run P W = .ok (.slice M'.1 M'.2.1 M'.2.2) W2) ∧ KeptS (fun q => (hv M).ownBlock = some q) W W2 ∧ (∀ W3, PutX W2 W3 b [.slice N.1 N.2.1 N.2.2, .slice M'.1 M'.2.1 M'.2.2, .slice S.1 S.2.1 S.2.2] → LiveAt W3 T base b N M' S xs (ys ++ zs) es) ∧ Bx W2 b [.slice N.1 N.2.1 N.2.2, .slice M.1 M.2.1 M.2.2, .slice S.1 S.2.1 S.2.2] := by
 have hone : ∀ a ∈ zs, ∀ u ∈ mailK.cells a, u.oneCell' = true := fun a _ u h => by
  simp only [mailK, mlV, hv, List.mem_cons, List.not_mem_nil, or_false] at h
  rcases h with rfl | rfl | rfl | rfl | rfl | rfl | rfl | rfl | rfl | rfl | rfl | rfl | rfl | rfl | rfl <;> rfl
 obtain ⟨v', W2, hr, G, KS, BL, hat⟩ := x.mails.gr.app (P := P) mailOk t i0 z bytes ht hi0 hz0 hz1 hz2 hzs hby ao m c zs hrow hzl hone hm (fun i a e q hq hv' => (hap i a e q hq).2.1 (Or.inl hv')) (fun i j a d e1 e2 q h1 h2 => (hap j d e2 q h2).2.1 (Or.inr ⟨i, a, e1, h1⟩)) hsep2 hn hbw
 obtain ⟨ma, mc, ev, _, _⟩ := owns_slice G.own
 subst ev
 have hX := x.bx.keptS KS fun e => x.bM (Or.inl e)
 have hsz2 := KS.size
 refine ⟨(ma, M.2.1 + m, mc), W2, hr, KS, fun W3 Pt => ?_, hX⟩
 have K3 := KeptS.one Pt.kept;have hs3 := Pt.kept.size
 have own' : ∀ q, (hv (ma, M.2.1 + m, mc)).ownBlock = some q → (hv M).ownBlock = some q ∨ q = W.heap.size := fun q hq => by
  rcases hat with e | e
  ·exact Or.inl (e ▸ hq)
  ·exact Or.inr (Option.some.inj (e ▸ hq)).symm
 have inM : ∀ q, inV (ma, M.2.1 + m, mc) (ys ++ zs) q → inV M ys q ∨ q = W.heap.size ∨ ∃ (i : Nat) (a : Mal), zs[i]? = some a ∧ mailK.inn a q := fun q hq => by
  rcases hq with h | ⟨i, a, e, h⟩
  ·rcases own' q h with c1 | c1
   ·exact Or.inl (Or.inl c1)
   ·exact Or.inr (Or.inl c1)
  ·rcases Nat.lt_or_ge i ys.length with p | p
   ·rw [List.getElem?_append_left p] at e;exact Or.inl (Or.inr ⟨i, a, e, h⟩)
   ·rw [List.getElem?_append_right p] at e;exact Or.inr (Or.inr ⟨_, a, e, h⟩)
 have bM' : ¬ inV (ma, M.2.1 + m, mc) (ys ++ zs) b := fun h => by
  rcases inM b h with c1 | c1 | ⟨i, a, e, c1⟩
  ·exact x.bM c1
  ·have := x.bx.lt;omega
  ·exact (hap i a e b c1).2.2.2 rfl
 have MG : MGr W2 T base W2.heap.size (ma, M.2.1 + m, mc) (ys ++ zs) := ⟨G, fun q hq => by
  rcases hq with h | ⟨i, a, e, h⟩
  ·exact (G.own.lt q h).2
  ·exact (mailOk.inB (G.each i a e) h).2.2⟩
 have N2 : NAt W2 true base W2.heap.size N xs := (LAt.keptS nodeOk x.nodes KS fun q hq e => x.sNM q hq (Or.inl e)).widen nodeOk (Nat.le_refl _) hsz2
 have S2 : RowAt W2 true base W2.heap.size 6 S.1 S.2.1 S.2.2 (sixs es) := (x.slog.keptR KS fun q hq e => x.sMS q (Or.inl e) hq).widen (Nat.le_refl _) hsz2
 refine ⟨Pt.bx, x.bb, (LAt.keptS nodeOk N2 K3 fun q hq e => x.bN (e ▸ hq)).widen nodeOk (Nat.le_refl _) hs3, (MG.keptS K3 fun q hq e => bM' (e ▸ hq)).mono hs3, (S2.keptR K3 fun q hq e => x.bS (e ▸ hq)).widen (Nat.le_refl _) hs3, fun q a d => ?_, x.sNS, fun q a d => ?_, x.bN, bM', x.bS, ⟨x.sz.n, by show M.2.1 + m ≤ 1048576;omega, x.sz.s, x.sz.nodes, fun i a e => ?_⟩⟩
 ·rcases inM q d with c1 | c1 | ⟨i, e, e2, c1⟩
  ·exact x.sNM q a c1
  ·have := x.nodes.inB a;omega
  ·exact (hap i e e2 q c1).1 a
 ·rcases inM q a with c1 | c1 | ⟨i, e, e2, c1⟩
  ·exact x.sMS q c1 d
  ·have := x.slog.inB d;omega
  ·exact (hap i e e2 q c1).2.2.1 d
 ·rcases Nat.lt_or_ge i ys.length with p | p
  ·rw [List.getElem?_append_left p] at e;exact x.sz.mails i a e
  ·rw [List.getElem?_append_right p] at e;exact hsz _ a e
end
theorem LAt.pre {α : Type} {k : Kd α} (K : KdOk k) {w : World} {own : Bool} {lo hi : Nat} {ao : Option Addr} {n cap : Nat} {xs : List α} (h : LAt k w own lo hi ao n cap xs) {j : Nat} (hj : j ≤ n) : LAt k w own lo hi ao j cap (xs.take j) := by
 have hl : (xs.take j).length = j := by rw [List.length_take, h.len];omega
 have get : ∀ (i : Nat) (a : α), (xs.take j)[i]? = some a → xs[i]? = some a := fun i a e => by
  have hi : i < j := by have := (List.getElem?_eq_some_iff.1 e).1;omega
  rwa [List.getElem?_take_of_lt hi] at e
 have e : (xs.take j).flatMap k.cells = (xs.flatMap k.cells).take (j * k.sz) := by
  apply List.ext_getElem?
  intro q
  by_cases hq : q < j * k.sz
  ·rw [List.getElem?_take_of_lt hq];have hs := K.pos
   have hd : q / k.sz < j := Nat.div_lt_of_lt_mul (by rwa [Nat.mul_comm])
   have hm := Nat.mod_lt q hs
   have eq : q = q / k.sz * k.sz + q % k.sz := by rw [Nat.mul_comm];exact (Nat.div_add_mod q k.sz).symm
   have hx : q / k.sz < xs.length := by rw [h.len];omega
   rw [eq, flatMap_at K (xs.take j) (q / k.sz) xs[q / k.sz] (by rw [List.getElem?_take_of_lt hd];exact List.getElem?_eq_getElem hx) _ hm, flatMap_at K xs (q / k.sz) _ (List.getElem?_eq_getElem hx) _ hm]
  ·rw [List.getElem?_eq_none (by rw [flatMap_len K, hl];omega), List.getElem?_eq_none (by rw [List.length_take];omega)]
 exact ⟨hl, by rw [e];exact h.row.pre hj, fun i a c => h.each i a (get i a c), fun ho i a c => h.far ho i a (get i a c), fun ho i m a c e1 e2 hne => h.sep ho i m a c (get i a e1) (get m c e2) hne⟩
def mals (K : Nat → Hd) (ms : List Ml) : List Mal := (List.range ms.length).map fun i => (ms.getD i ml0, K i)
theorem mals_len (K : Nat → Hd) (ms : List Ml) : (mals K ms).length = ms.length := by simp [mals]
theorem mals_at {K : Nat → Hd} {ms : List Ml} {i : Nat} {a : Mal} (e : (mals K ms)[i]? = some a) : i < ms.length ∧ a = (ms.getD i ml0, K i) := by
 obtain ⟨h1, h2⟩ := List.getElem?_eq_some_iff.1 e
 have h3 : i < ms.length := by simpa [mals] using h1
 exact ⟨h3, by rw [← h2];simp [mals]⟩
theorem mals_get {K : Nat → Hd} {ms : List Ml} {i : Nat} (h : i < ms.length) : (mals K ms)[i]? = some (ms.getD i ml0, K i) := by simp [mals, h]
theorem mals_fst (K : Nat → Hd) (ms : List Ml) : (mals K ms).map (·.1) = ms := by
 apply List.ext_getElem (by simp [mals])
 intro i h1 h2
 simp [mals, List.getD, h2]
theorem MailsAt.lat {w : World} {own : Bool} {lo hi : Nat} {ao : Option Addr} {n cap : Nat} {K : Nat → Hd} {ms : List Ml} (h : MailsAt w own lo hi ao n cap K ms) : LAt mailK w own lo hi ao n cap (mals K ms) := by
 have hl : (mals K ms).length = n := by rw [mals_len];exact h.len
 refine ⟨hl, ?_, fun i a e => ?_, fun ho i a e q hq => ?_, fun ho i j a c e1 e2 hne q h1 h2 => ?_⟩
 ·have e : (mals K ms).flatMap mailK.cells = flatF 15 n (mlF K ms) := by
   apply List.ext_getElem?
   intro q
   by_cases hq : q < n * 15
   ·have hd : q / 15 < n := by omega
    have t := flatMap_at mailOk (mals K ms) (q / 15) _ (mals_get (by rw [h.len];exact hd)) (q % 15) (Nat.mod_lt _ (by show 0 < 15;omega))
    have e2 : q / 15 * mailK.sz + q % 15 = q := by show q / 15 * 15 + q % 15 = q;omega
    rw [e2] at t;rw [t]
    have t2 := flatF_get (sz := 15) (n := n) (mlF K ms) (i := q / 15) (j := q % 15) hd (by omega)
    rw [show q / 15 * 15 + q % 15 = q by omega] at t2
    have hlf : q < (flatF 15 n (mlF K ms)).length := by rw [flatF_len];exact hq
    rw [List.getElem?_eq_getElem hlf];rw [List.getD_eq_getElem?_getD, List.getElem?_eq_getElem hlf, Option.getD_some] at t2;rw [t2];unfold mlF
    have hl2 : q % 15 < (mlV (K (q / 15)) (ms.getD (q / 15) ml0)).length := by show q % 15 < 15;omega
    obtain ⟨mm, hmm⟩ : ∃ mm, ms.getD (q / 15) ml0 = mm := ⟨_, rfl⟩
    rw [hmm] at hl2 ⊢
    rw [List.getD_eq_getElem?_getD]
    show (mlV _ _)[q % 15]? = some ((mlV _ _)[q % 15]?.getD default)
    rw [List.getElem?_eq_getElem hl2, Option.getD_some]
   ·rw [List.getElem?_eq_none (by rw [flatMap_len mailOk, hl];show n * 15 ≤ q;omega), List.getElem?_eq_none (by rw [flatF_len];omega)]
  rw [e];exact h.els.row
 ·obtain ⟨hi', rfl⟩ := mals_at e
  exact h.els.logs i (by rw [← h.len];exact hi')
 ·obtain ⟨hi', rfl⟩ := mals_at e
  rw [hq.2]
  exact (h.els.sep ho i (by rw [← h.len];exact hi') hq.1).1
 ·obtain ⟨hi', rfl⟩ := mals_at e1
  obtain ⟨hj', rfl⟩ := mals_at e2
  have := (h.els.sep ho i (by rw [← h.len];exact hi') h1.1).2 j (by rw [← h.len];exact hj') (Ne.symm hne) h2.1
  exact this (h2.2.symm.trans h1.2)
end Go.Proofs.YtgldocaohcoleaaGreat
