/- Chapter 11: a cluster of the model that is about to change. No function is named here. -/
import Derived.Test.YtclghfoinologaaGreatCS0
import Derived.Test.YtclghfoinologaaGreatQBC
set_option maxRecDepth 20000
set_option maxHeartbeats 16000000
namespace Go.Proofs.YtclghfoinologaaGreat
open Go.RowKit
theorem LAt.putR {α : Type} {k : Kd α} {w : World} {lo hi lo' hi2 n cap : Nat} {xs : List α} (K : KdOk k) {b off : Nat} (h : LAt k w true lo hi (some ⟨b, off, none⟩) n cap xs) {i : Nat} (hi' : i < n) (a : α) (hm : k.mem w false lo' hi2 a) (hl : lo' ≤ lo) (hh : hi ≤ hi2) (hf : ∀ q, k.inn a q → q ≠ b) :
  LAt k (w.setCells b (off + i * k.sz) (k.cells a)) false lo' hi2 (some ⟨b, off, none⟩) n cap (xs.set i a) := by
 have hx : i < xs.length := by rw [h.len];exact hi'
 have KS1 : KeptS (fun x => x = b) w (w.setCells b (off + i * k.sz) (k.cells a)) := (((Kept.refl b (b + 1) w).setCells (Nat.le_refl _) (Nat.lt_succ_self _) _ _)).toS fun q h1 h2 => by omega
 refine ⟨by simpa using h.len, ⟨by rw [flatMap_len K];simp [h.len], h.row.le, fun hn => ?_⟩, fun j c e => ?_, fun z => (by cases z), fun z => (by cases z)⟩
 ·obtain ⟨b', off', e, h1, h2, h3, h4, h5⟩ := h.row.cells hn
  simp only [Option.some.injEq, Addr.mk.injEq, and_true] at e
  obtain ⟨rfl, rfl⟩ := e
  refine ⟨_, _, rfl, by omega, by omega, by rw [size_setCells'];exact h3, fun q hq => ?_, fun z => (by cases z)⟩
  by_cases hin : i * k.sz ≤ q ∧ q < i * k.sz + k.sz
  ·have := World.cell?_setCells_in b (k.cells a) (off + i * k.sz) w (fun j hj => by rw [K.len] at hj;rw [Nat.add_assoc, h4 _ (at_lt hi' hj)];rfl) (q - i * k.sz) (by rw [K.len];omega)
   rw [show off + i * k.sz + (q - i * k.sz) = off + q by omega] at this
   rw [this, List.getD_eq_getElem?_getD]
   have t := flatMap_set_in K xs i hx a (q - i * k.sz) (by omega)
   rw [show i * k.sz + (q - i * k.sz) = q by omega] at t
   rw [t, List.getElem?_eq_getElem (by rw [K.len];omega)];rfl
  ·rw [World.cell?_setCells_out b (k.cells a) (off + i * k.sz) w ⟨b, off + q, none⟩ (fun _ _ => by show off + q < off + i * k.sz ∨ _;rw [K.len];show _ ∨ off + i * k.sz + k.sz ≤ off + q;omega), h4 q hq]
   rw [List.getD_eq_getElem?_getD, List.getD_eq_getElem?_getD, flatMap_set_out K xs i a q (by omega)]
 ·by_cases e2 : j = i
  ·subst e2
   have : a = c := by simpa [hx] using e
   subst this
   exact K.keptS hm KS1 fun q hq => hf q hq
  ·rw [List.getElem?_set_ne (Ne.symm e2)] at e
   exact K.widen (K.ro (K.keptS (h.each j c e) KS1 fun q hq => h.far rfl j c e q hq)) hl hh
structure LiveM (W : World) (T : TypeId) (lo base b : Nat) (N M S : Hd) (xs : List Nod) (ys : List Mal) (es : List En) : Prop where
 bx : Bx W b [.slice N.1 N.2.1 N.2.2, .slice M.1 M.2.1 M.2.2, .slice S.1 S.2.1 S.2.2]
 bb : base ≤ b
 lb : lo ≤ base
 nodes : NAt W false lo W.heap.size N xs
 mails : MGr W T base W.heap.size M ys
 slog : RowAt W false base W.heap.size 6 S.1 S.2.1 S.2.2 (sixs es)
 sNM : Sep (inL nodeK N.1 N.2.1 xs) (inV M ys)
 sMS : Sep (inV M ys) (hR S)
 bN : ¬ inL nodeK N.1 N.2.1 xs b
 bM : ¬ inV M ys b
 bS : ¬ hR S b
 sz : ClSz N M S xs ys 1048576
section
variable {W W2 W3 : World} {T : TypeId} {lo base b : Nat} {N M S : Hd} {xs : List Nod} {ys : List Mal} {es : List En}
theorem LiveM.below (x : LiveM W T lo base b N M S xs ys es) (hb : Below W.heap.size W W2) : LiveM W2 T lo base b N M S xs ys es :=
 ⟨x.bx.below hb, x.bb, x.lb, (x.nodes.below hb).widen (Nat.le_refl _) hb.size, (x.mails.below hb).mono hb.size, (x.slog.below hb).widen (Nat.le_refl _) hb.size, x.sNM, x.sMS, x.bN, x.bM, x.bS, x.sz⟩
theorem LiveAt.setM (x : LiveAt W T base b N M S xs ys es) {p o i : Nat} {N' : Hd} (eN : N = (some ⟨p, o, none⟩, N'.2)) (hi : i < N.2.1) {q : Rep} {h : RH} {z u : Nat} (y : RepAt W false z u h q) (hz : lo ≤ z) (hu : u ≤ base) (hw : base ≤ W.heap.size) (hl : lo ≤ base) (hsz : RSz h 1048576) : LiveM (W.setCells p (o + i * 10) (repC q h)) T lo base b N M S (xs.set i (q, h)) ys es := by
 have hn0 : N.2.1 ≠ 0 := by omega
 have hp : inL nodeK N.1 N.2.1 xs p := Or.inl ⟨hn0, by rw [eN];rfl⟩
 have hbp := (x.nodes.inB hp).1
 have KS : KeptS (fun k => k = p) W (W.setCells p (o + i * 10) (repC q h)) := KeptS.one (kept_el _ _ _)
 have hs : (W.setCells p (o + i * 10) (repC q h)).heap.size = W.heap.size := size_setCells' _ _ _ _
 have hin : ∀ k, inRep h k → z ≤ k ∧ k < base := fun k hk => by have := y.inB hk;omega
 have inN : ∀ k, inL nodeK N.1 N.2.1 (xs.set i (q, h)) k → inL nodeK N.1 N.2.1 xs k ∨ k < base := fun k hk => by
  rcases hk with c | ⟨j, a, e, c⟩
  ·exact Or.inl (Or.inl c)
  ·by_cases c2 : j = i
   ·subst c2
    have hx : j < xs.length := by rw [LAt.len x.nodes];exact hi
    rw [List.getElem?_set_self hx] at e;rw [← Option.some.inj e] at c;exact Or.inr (hin k c).2
   ·rw [List.getElem?_set_ne (Ne.symm c2)] at e;exact Or.inl (Or.inr ⟨j, a, e, c⟩)
 have L : LAt nodeK W true base W.heap.size (some ⟨p, o, none⟩) N.2.1 N.2.2 xs := by
  have := x.nodes
  unfold NAt at this
  rw [eN] at this ⊢;exact this
 have P := L.putR nodeOk hi (q, h) (nodeOk.widen (a := (q, h)) y hz (Nat.le_trans hu hw)) hl (Nat.le_refl _) (fun k hk => by have := hin k hk;omega)
 refine ⟨x.bx.keptS KS fun e => x.bN (e ▸ hp), x.bb, hl, ?_, by rw [hs];exact x.mails.keptS KS fun k hk e => x.sNM p hp (e ▸ hk), by rw [hs];exact (x.slog.keptR KS fun k hk e => x.sNS p hp (e ▸ hk)).ro, fun k a c => ?_, x.sMS, fun a => ?_, x.bM, x.bS, ⟨x.sz.n, x.sz.m, x.sz.s, fun j a e => ?_, x.sz.mails⟩⟩
 ·rw [hs]
  show LAt nodeK _ false lo _ N.1 N.2.1 N.2.2 _
  rw [eN];rw [eN] at P;exact P
 ·rcases inN k a with d | d
  ·exact x.sNM k d c
  ·have := x.mails.inB c;omega
 ·rcases inN b a with d | d
  ·exact x.bN d
  ·have := x.bb;omega
 ·by_cases c2 : j = i
  ·subst c2
   have hx : j < xs.length := by rw [LAt.len x.nodes];exact hi
   rw [List.getElem?_set_self hx] at e;rw [← Option.some.inj e];exact hsz
  ·rw [List.getElem?_set_ne (Ne.symm c2)] at e;exact x.sz.nodes j a e
theorem LiveAt.gap (x : LiveAt W T base b N M S xs ys es) {i : Nat} (hi : i < N.2.1) {q : Rep} {h : RH} {z u w0 : Nat} (y : RepAt W false z u h q) (hu : u ≤ w0) : ∀ k, inL nodeK N.1 N.2.1 (xs.set i (q, h)) k → k < w0 ∨ base ≤ k := fun k hk => by
 rcases hk with c | ⟨j, a, e, c⟩
 ·exact Or.inr (x.nodes.inB (Or.inl c)).1
 ·by_cases c2 : j = i
  ·subst c2
   have hx : j < xs.length := by rw [LAt.len x.nodes];exact hi
   rw [List.getElem?_set_self hx] at e;rw [← Option.some.inj e] at c
   have := y.inB c;omega
  ·rw [List.getElem?_set_ne (Ne.symm c2)] at e;exact Or.inr (x.nodes.inB (Or.inr ⟨j, a, e, c⟩)).1
theorem LiveM.cluKept (x : LiveM W T lo base b N M S xs ys es) {b2 : Nat} (hk : Kept b2 (b2 + 1) W W2) (hb : b2 < base) (hg : ∀ k, inL nodeK N.1 N.2.1 xs k → k ≠ b2) : ClAt W2 false lo W2.heap.size N M S xs ys es :=
 ⟨(LAt.keptS nodeOk x.nodes (KeptS.one hk) fun q hq e => hg q hq e).widen nodeOk (Nat.le_refl _) hk.size, (LAt.ro mailOk ((x.mails.kept hk (Or.inr hb)).mono hk.size).at).widen mailOk x.lb (Nat.le_refl _), ((x.slog.kept hk (Or.inr hb)).widen x.lb hk.size), fun z => (by cases z)⟩
theorem LiveM.setS (x : LiveM W T lo base b N M S xs ys es) (B : Below W.heap.size W W2) {z u : Nat} {S' : Hd} {es' : List En} (R : RowAt W2 true z u 6 S'.1 S'.2.1 S'.2.2 (sixs es')) (hz : W.heap.size ≤ z) (hw : base ≤ W.heap.size) (hs : S'.2.1 ≤ 1048576)
  (P : PutX W2 W3 b [.slice N.1 N.2.1 N.2.2, .slice M.1 M.2.1 M.2.2, .slice S'.1 S'.2.1 S'.2.2]) : LiveM W3 T lo base b N M S' xs ys es' := by
 have hbw := x.bx.lt;have y := x.below B;have KS := KeptS.one P.kept;have hsz := P.kept.size;have hlb := x.lb
 refine ⟨P.bx, x.bb, x.lb, (LAt.keptS nodeOk y.nodes KS fun q hq e => y.bN (e ▸ hq)).widen nodeOk (Nat.le_refl _) hsz, (y.mails.keptS KS fun q hq e => y.bM (e ▸ hq)).mono hsz, ?_, y.sNM, fun q a c => ?_, y.bN, y.bM, fun c => ?_, ⟨x.sz.n, x.sz.m, hs, x.sz.nodes, x.sz.mails⟩⟩
 ·have R2 := (R.keptR KS fun q hq e => by have := R.inB hq;omega).ro
  refine ⟨R2.len, R2.le, fun h0 => ?_⟩
  obtain ⟨b1, o1, e, h1, h2, h3, h4, h5⟩ := R2.cells h0
  exact ⟨b1, o1, e, by omega, h3, h3, h4, h5⟩
 ·have := R.inB c;have := x.mails.inB a;omega
 ·have := R.inB c;omega
theorem LiveM.app {P : Program} (x : LiveM W T lo base b N M S xs ys es) (hbw : base ≤ W.heap.size) (t : TypeId) (i0 : TypeInfo) (z : Value) (bytes : Nat) (ht : P.underlying t = some (.slice T)) (hi0 : P.info? T = some i0) (hz0 : i0.zero = some z) (hz1 : i0.size = 15) (hz2 : i0.bytes = bytes) (hzs : z.cells.size = 15) (hby : bytes ≤ 1000)
  {ow : Bool} {l u : Nat} (ao : Option Addr) (m c : Nat) (zs : List Mal) (hrow : RowAt W ow l u 15 ao m c (zs.flatMap mailK.cells)) (hzl : zs.length = m) (hm : ∀ (i : Nat) (a : Mal), zs[i]? = some a → mailK.mem W true base W.heap.size a) (hap : ∀ (i : Nat) (a : Mal), zs[i]? = some a → ∀ k, mailK.inn a k → ¬ inL nodeK N.1 N.2.1 xs k ∧ ¬ inV M ys k ∧ ¬ hR S k ∧ k ≠ b) (hsep2 : ∀ (i j : Nat) (a c : Mal), zs[i]? = some a → zs[j]? = some c → i ≠ j → Sep (mailK.inn a) (mailK.inn c)) (hn : M.2.1 + m ≤ 1000000) (hsz : ∀ (i : Nat) (a : Mal), zs[i]? = some a → a.2.2.1 ≤ 1048576) :
  ∃ (M' : Hd) (W2 : World), (∀ ty, (Builtin.append_ #[t, t] ty #[.slice M.1 M.2.1 M.2.2, .slice ao m c]).run P W = .ok (.slice M'.1 M'.2.1 M'.2.2) W2) ∧ KeptS (fun q => (hv M).ownBlock = some q) W W2 ∧ (∀ W3, PutX W2 W3 b [.slice N.1 N.2.1 N.2.2, .slice M'.1 M'.2.1 M'.2.2, .slice S.1 S.2.1 S.2.2] → LiveM W3 T lo base b N M' S xs (ys ++ zs) es) ∧ Bx W2 b [.slice N.1 N.2.1 N.2.2, .slice M.1 M.2.1 M.2.2, .slice S.1 S.2.1 S.2.2] := by
 have hone : ∀ a ∈ zs, ∀ u ∈ mailK.cells a, u.oneCell' = true := fun a _ u h => by
  simp only [mailK, mlV, hv, List.mem_cons, List.not_mem_nil, or_false] at h
  rcases h with rfl | rfl | rfl | rfl | rfl | rfl | rfl | rfl | rfl | rfl | rfl | rfl | rfl | rfl | rfl <;> rfl
 obtain ⟨v', W2, hr, G, KS, BL, hat⟩ := x.mails.gr.app (P := P) mailOk t i0 z bytes ht hi0 hz0 hz1 hz2 hzs hby ao m c zs hrow hzl hone hm (fun i a e q hq hv' => (hap i a e q hq).2.1 (Or.inl hv')) (fun i j a d e1 e2 q h1 h2 => (hap j d e2 q h2).2.1 (Or.inr ⟨i, a, e1, h1⟩)) hsep2 hn hbw
 obtain ⟨ma, mc, ev, _, _⟩ := owns_slice G.own
 subst ev
 have hX := x.bx.keptS KS fun e => x.bM (Or.inl e)
 have hsz2 := KS.size
 refine ⟨(ma, M.2.1 + m, mc), W2, hr, KS, fun W3 Pt => ?_, hX⟩
 have K3 := KeptS.one Pt.kept;have hs3 := Pt.kept.size
 have own' : ∀ q, (hv (ma, M.2.1 + m, mc)).ownBlock = some q → (hv M).ownBlock = some q ∨ q = W.heap.size := fun q hq => by
  rcases hat with e | e
  ·exact Or.inl (e ▸ hq)
  ·exact Or.inr (Option.some.inj (e ▸ hq)).symm
 have inM : ∀ q, inV (ma, M.2.1 + m, mc) (ys ++ zs) q → inV M ys q ∨ q = W.heap.size ∨ ∃ (i : Nat) (a : Mal), zs[i]? = some a ∧ mailK.inn a q := fun q hq => by
  rcases hq with h | ⟨i, a, e, h⟩
  ·rcases own' q h with c1 | c1
   ·exact Or.inl (Or.inl c1)
   ·exact Or.inr (Or.inl c1)
  ·rcases Nat.lt_or_ge i ys.length with p | p
   ·rw [List.getElem?_append_left p] at e;exact Or.inl (Or.inr ⟨i, a, e, h⟩)
   ·rw [List.getElem?_append_right p] at e;exact Or.inr (Or.inr ⟨_, a, e, h⟩)
 have bM' : ¬ inV (ma, M.2.1 + m, mc) (ys ++ zs) b := fun h => by
  rcases inM b h with c1 | c1 | ⟨i, a, e, c1⟩
  ·exact x.bM c1
  ·have := x.bx.lt;omega
  ·exact (hap i a e b c1).2.2.2 rfl
 have MG : MGr W2 T base W2.heap.size (ma, M.2.1 + m, mc) (ys ++ zs) := ⟨G, fun q hq => by
  rcases hq with h | ⟨i, a, e, h⟩
  ·exact (G.own.lt q h).2
  ·exact (mailOk.inB (G.each i a e) h).2.2⟩
 have N2 : NAt W2 false lo W2.heap.size N xs := (LAt.keptS nodeOk x.nodes KS fun q hq e => x.sNM q hq (Or.inl e)).widen nodeOk (Nat.le_refl _) hsz2
 have S2 : RowAt W2 false base W2.heap.size 6 S.1 S.2.1 S.2.2 (sixs es) := (x.slog.keptR KS fun q hq e => x.sMS q (Or.inl e) hq).widen (Nat.le_refl _) hsz2
 refine ⟨Pt.bx, x.bb, x.lb, (LAt.keptS nodeOk N2 K3 fun q hq e => x.bN (e ▸ hq)).widen nodeOk (Nat.le_refl _) hs3, (MG.keptS K3 fun q hq e => bM' (e ▸ hq)).mono hs3, (S2.keptR K3 fun q hq e => x.bS (e ▸ hq)).widen (Nat.le_refl _) hs3, fun q a d => ?_, fun q a d => ?_, x.bN, bM', x.bS, ⟨x.sz.n, by show M.2.1 + m ≤ 1048576;omega, x.sz.s, x.sz.nodes, fun i a e => ?_⟩⟩
 ·rcases inM q d with c1 | c1 | ⟨i, e, e2, c1⟩
  ·exact x.sNM q a c1
  ·have := x.nodes.inB a;omega
  ·exact (hap i e e2 q c1).1 a
 ·rcases inM q a with c1 | c1 | ⟨i, e, e2, c1⟩
  ·exact x.sMS q c1 d
  ·have := x.slog.inB d;omega
  ·exact (hap i e e2 q c1).2.2.1 d
 ·rcases Nat.lt_or_ge i ys.length with p | p
  ·rw [List.getElem?_append_left p] at e;exact x.sz.mails i a e
  ·rw [List.getElem?_append_right p] at e;exact hsz _ a e
theorem LiveM.one {P : Program} {Wc W : World} (x : LiveM Wc T lo base b N M S xs ys es) (B : Below Wc.heap.size Wc W) (hbw : base ≤ Wc.heap.size) (t : TypeId) (i0 : TypeInfo) (z : Value) (bytes : Nat) (ht : P.underlying t = some (.slice T)) (hi0 : P.info? T = some i0) (hz0 : i0.zero = some z) (hz1 : i0.size = 15) (hz2 : i0.bytes = bytes) (hzs : z.cells.size = 15) (hby : bytes ≤ 1000)
  {b1 z1 u1 : Nat} {m : Ml} {h : Hd} (X1 : Bx W b1 (mailK.cells (m, h))) (R1 : RowAt W true z1 u1 6 h.1 h.2.1 h.2.2 (sixs m.log)) (hz : Wc.heap.size ≤ z1) (hu : u1 ≤ W.heap.size) (hn : ys.length ≤ 120) (hs : h.2.1 ≤ 1048576) :
  ∃ (M' : Hd) (W2 : World), (∀ ty, (Builtin.append_ #[t, t] ty #[.slice M.1 M.2.1 M.2.2, .slice (some ⟨b1, 0, none⟩) 1 1]).run P W = .ok (.slice M'.1 M'.2.1 M'.2.2) W2) ∧ Below base W W2 ∧ (∀ W3, PutX W2 W3 b [.slice N.1 N.2.1 N.2.2, .slice M'.1 M'.2.1 M'.2.2, .slice S.1 S.2.1 S.2.2] → LiveM W3 T lo base b N M' S xs (ys ++ [(m, h)]) es) ∧ Bx W2 b [.slice N.1 N.2.1 N.2.2, .slice M.1 M.2.1 M.2.2, .slice S.1 S.2.1 S.2.2] := by
 have hl : ys.length = M.2.1 := x.mails.gr.len
 have one : ∀ {i : Nat} {a : Mal}, ([(m, h)] : List Mal)[i]? = some a → i = 0 ∧ a = (m, h) := fun {i a} e => by
  have h1 := (List.getElem?_eq_some_iff.1 e).1
  have : i = 0 := by simpa using h1
  subst this
  simp at e
  exact ⟨rfl, e.symm⟩
 obtain ⟨M', W2, hr, KS, hL, X⟩ := (x.below B).app (P := P) (Nat.le_trans hbw B.size) t i0 z bytes ht hi0 hz0 hz1 hz2 hzs hby (some ⟨b1, 0, none⟩) 1 1 [(m, h)] (one_row X1) rfl (fun i a e => by
   obtain ⟨-, rfl⟩ := one e
   exact RowAt.widen R1 (Nat.le_trans hbw hz) hu) (fun i a e k hk => by
   obtain ⟨-, rfl⟩ := one e
   have h1 := (R1.inB hk).1
   refine ⟨fun c => ?_, fun c => ?_, fun c => ?_, fun c => ?_⟩
   ·have := (x.nodes.inB c).2.2;omega
   ·have := (x.mails.inB c).2.2;omega
   ·have := (x.slog.inB c).2.2;omega
   ·have := x.bx.lt;omega) (fun i j a c e1 e2 ne => by
   obtain ⟨rfl, -⟩ := one e1
   obtain ⟨rfl, -⟩ := one e2
   exact absurd rfl ne) (by omega) (fun i a e => by obtain ⟨-, rfl⟩ := one e;exact hs)
 refine ⟨M', W2, hr, KS.low _ (fun k hk => (x.mails.gr.own.lt k hk).1) (Nat.le_trans hbw B.size), hL, X⟩
end
theorem doM_end {ms zs : List Ml} {yk : List Ml} {k n : Nat} (hn : zs.length = n) (hk : k ≤ n) (e : yk = ms ++ zs.take k) (h120 : yk.length ≤ 120) (hend : k = n ∨ 120 ≤ yk.length) : yk = ms ++ zs.take (120 - ms.length) := by
 have hl : yk.length = ms.length + k := by rw [e, List.length_append, List.length_take];omega
 rcases hend with h | h
 ·rw [e, List.take_of_length_le (by omega), List.take_of_length_le (by omega)]
 ·rw [e, show 120 - ms.length = k by omega]
theorem l11Bad_is (c : Int) (w : World) : Calls Tryz.prog 21 #[.int .i64 c] w fun e w' => e = .returned (.agg #[.int .i64 c, .slice none 0 0, .slice none 0 0, .slice none 0 0]) ∧ Below w.heap.size w w' := by
 go_enter Tryz.func21, Tryz.ntmps21
 go_wp2_with (first | ((with_reducible refine sm 38 X0 0 [.int .i64 c, .slice none 0 0, .slice none 0 0, .slice none 0 0] ?_);intro V1 S;replace X0 : Bx V1 b0 [.int .i64 c, .slice none 0 0, .slice none 0 0, .slice none 0 0] := S.bx;replace c0 := X0.cell;replace f0 := X0.froz;replace B := bkp B S.kept;clear S) | ((with_reducible refine al 38 [.int .i64 0, .slice none 0 0, .slice none 0 0, .slice none 0 0] ?_);intro b0 W0 N0;have ob0 := N0.ge;have B := N0.below;obtain ⟨X0, c0, f0⟩ := N0.a;clear N0))
 refine bodyPost_ret (v := .agg #[.int .i64 c, .slice none 0 0, .slice none 0 0, .slice none 0 0]) (by simp [results, Tryz.results21, go_sem, *]) rfl ⟨rfl, B⟩
end Go.Proofs.YtclghfoinologaaGreat
