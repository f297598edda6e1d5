/- Chapter 11: what changes in a cluster that is about to change. No program is named here. -/
import Derived.Test.YtclghfoinologaaGreatQAX
import Derived.Test.YtclghfoinologaaGreatWS
set_option maxRecDepth 20000
set_option maxHeartbeats 16000000
namespace Go.Proofs.YtclghfoinologaaGreat
open Go.RowKit
theorem RowAt.pre {w : World} {own : Bool} {lo hi size : Nat} {ao : Option Addr} {n cap : Nat} {cs : List Value} (h : RowAt w own lo hi size ao n cap cs) {k : Nat} (hk : k ≤ n) : RowAt w own lo hi size ao k cap (cs.take (k * size)) := by
 have hl := h.len
 have hks : k * size ≤ n * size := Nat.mul_le_mul_right _ hk
 refine ⟨by rw [List.length_take];omega, Nat.le_trans hk h.le, fun h0 => ?_⟩
 obtain ⟨b, off, rfl, h1, h2, h3, h4, h5⟩ := h.cells (by omega)
 refine ⟨b, off, rfl, h1, h2, h3, fun i hi => ?_, fun ho i hi => h5 ho i (by omega)⟩
 rw [h4 i (by omega), List.getD_eq_getElem?_getD, List.getD_eq_getElem?_getD, List.getElem?_take_of_lt hi]
theorem sixs_takeV (xs : List En) (k : Nat) (hk : k ≤ xs.length) : sixs (xs.take k) = (sixs xs).take (k * 6) := by
 have hl : (xs.take k).length = k := by rw [List.length_take];omega
 apply List.ext_getElem?
 intro j
 by_cases hj : j < k * 6
 ·rw [List.getElem?_take_of_lt hj]
  have hd : j / 6 < k := by omega
  have e : (xs.take k).getD (j / 6) en0 = xs.getD (j / 6) en0 := by rw [List.getD_eq_getElem?_getD, List.getD_eq_getElem?_getD, List.getElem?_take_of_lt hd]
  have a1 : j < (xs.take k).length * 6 := by omega
  have a2 : j < xs.length * 6 := by omega
  simp only [sixs, List.getElem?_map, List.getElem?_range a1, List.getElem?_range a2, Option.map_some, e]
 ·rw [List.getElem?_eq_none (by rw [sixs_len];omega), List.getElem?_eq_none (by rw [List.length_take];omega)]
theorem RowAt.preE {w : World} {own : Bool} {lo hi : Nat} {ao : Option Addr} {n cap : Nat} {xs : List En} (h : RowAt w own lo hi 6 ao n cap (sixs xs)) {k : Nat} (hk : k ≤ n) : RowAt w own lo hi 6 ao k cap (sixs (xs.take k)) := by
 rw [sixs_takeV xs k (by rw [h.nSixs];exact hk)];exact h.pre hk
def SealRes (w w' : World) (T : TypeId) (base b : Nat) (N M S0 : Hd) (xs : List Nod) (ys : List Mal) (es : List En) : Prop := (∃ S' : Hd, LiveAt w' T base b N M S' xs ys es ∧ ∀ k, hR S' k → hR S0 k ∨ w.heap.size ≤ k) ∧ KeptS (fun k => k = b) w w'
def sealE (q : Rep) (es : List En) : List En := if (es.length : Int) < q.commit then q.log.take q.commit.toNat else es
section
variable {W W2 W3 : World} {T : TypeId} {base b : Nat} {N M S : Hd} {xs : List Nod} {ys : List Mal} {es : List En}
theorem KeptS.one {W W' : World} {b : Nat} (h : Kept b (b + 1) W W') : KeptS (fun q => q = b) W W' := h.toS fun k h1 h2 => by omega
theorem KeptS.thenB {S : Nat → Prop} {w a c : World} (B : Below w.heap.size w a) (h : KeptS S a c) : KeptS S w c :=
 ⟨h.os.trans B.os, h.tape.trans B.tape, h.output.trans B.output, Nat.le_trans B.size h.size, fun k hk hs => (h.block k (Nat.lt_of_lt_of_le hk B.size) hs).trans (B.block k hk)⟩
theorem KeptS.andS {S R : Nat → Prop} {w a c : World} (h : KeptS S w a) (g : KeptS R a c) : KeptS (fun k => S k ∨ R k) w c :=
 ⟨g.os.trans h.os, g.tape.trans h.tape, g.output.trans h.output, Nat.le_trans h.size g.size, fun k hk hs => (g.block k (Nat.lt_of_lt_of_le hk h.size) fun q => hs (Or.inr q)).trans (h.block k hk fun q => hs (Or.inl q))⟩
theorem KeptS.imp {S R : Nat → Prop} {w a : World} (h : KeptS S w a) (hi : ∀ k, S k → R k) : KeptS R w a :=
 ⟨h.os, h.tape, h.output, h.size, fun k hk hs => h.block k hk fun q => hs (hi k q)⟩
theorem LiveAt.setS (x : LiveAt W T base b N M S xs ys es) {z u : Nat} {S' : Hd} {es' : List En} (R : RowAt W true z u 6 S'.1 S'.2.1 S'.2.2 (sixs es')) (hz : base ≤ z) (hN : ∀ q, inL nodeK N.1 N.2.1 xs q → q < z ∨ u ≤ q) (hM : ∀ q, inV M ys q → q < z ∨ u ≤ q) (hb : b < z ∨ u ≤ b) (hs : S'.2.1 ≤ 1048576)
  (P : PutX W W3 b [.slice N.1 N.2.1 N.2.2, .slice M.1 M.2.1 M.2.2, .slice S'.1 S'.2.1 S'.2.2]) : LiveAt W3 T base b N M S' xs ys es' := by
 have KS := KeptS.one P.kept;have hsz := P.kept.size
 refine ⟨P.bx, x.bb, (LAt.keptS nodeOk x.nodes KS fun q hq e => x.bN (e ▸ hq)).widen nodeOk (Nat.le_refl _) hsz, (x.mails.keptS KS fun q hq e => x.bM (e ▸ hq)).mono hsz, ?_, x.sNM, fun q a c => ?_, fun q a c => ?_, x.bN, x.bM, fun c => ?_, ⟨x.sz.n, x.sz.m, hs, x.sz.nodes, x.sz.mails⟩⟩
 ·have R2 := R.keptR KS fun q hq e => by have := R.inB hq;omega
  refine ⟨R2.len, R2.le, fun h0 => ?_⟩
  obtain ⟨b1, o1, e, h1, h2, h3, h4, h5⟩ := R2.cells h0
  exact ⟨b1, o1, e, by omega, h3, h3, h4, h5⟩
 ·have := R.inB c;have := hN q a;omega
 ·have := R.inB c;have := hM q a;omega
 ·have := R.inB c;omega
theorem LiveAt.setN (x : LiveAt W T base b N M S xs ys es) {p o i : Nat} {N' : Hd} (eN : N = (some ⟨p, o, none⟩, N'.2)) (hi : i < N.2.1) {q : Rep} {h : RH} {z u : Nat} (y : RepAt W true z u h q) (hz : base ≤ z) (hu : u ≤ W.heap.size) (hsz : RSz h 1048576) (hN : ∀ k, inL nodeK N.1 N.2.1 xs k → k < z ∨ u ≤ k) (hM : ∀ k, inV M ys k → k < z ∨ u ≤ k) (hS : ∀ k, hR S k → k < z ∨ u ≤ k) (hb : b < z ∨ u ≤ b) : LiveAt (W.setCells p (o + i * 10) (repC q h)) T base b N M S (xs.set i (q, h)) ys es := by
 have hn0 : N.2.1 ≠ 0 := by omega
 have hp : inL nodeK N.1 N.2.1 xs p := Or.inl ⟨hn0, by rw [eN];rfl⟩
 have KS : KeptS (fun k => k = p) W (W.setCells p (o + i * 10) (repC q h)) := KeptS.one (kept_el _ _ _)
 have hs : (W.setCells p (o + i * 10) (repC q h)).heap.size = W.heap.size := size_setCells' _ _ _ _
 have hin : ∀ k, inRep h k → z ≤ k ∧ k < u := fun k hk => by have := y.inB hk;omega
 have inN : ∀ k, inL nodeK N.1 N.2.1 (xs.set i (q, h)) k → inL nodeK N.1 N.2.1 xs k ∨ (z ≤ k ∧ k < u) := fun k hk => by
  rcases hk with c | ⟨j, a, e, c⟩
  ·exact Or.inl (Or.inl c)
  ·by_cases c2 : j = i
   ·subst c2
    have hx : j < xs.length := by rw [LAt.len x.nodes];exact hi
    rw [List.getElem?_set_self hx] at e;rw [← Option.some.inj e] at c;exact Or.inr (hin k c)
   ·rw [List.getElem?_set_ne (Ne.symm c2)] at e;exact Or.inl (Or.inr ⟨j, a, e, c⟩)
 have L : LAt nodeK W true base W.heap.size (some ⟨p, o, none⟩) N.2.1 N.2.2 xs := by
  have := x.nodes
  unfold NAt at this
  rw [eN] at this ⊢;exact this
 have P := L.put nodeOk hi (q, h) (nodeOk.widen (a := (q, h)) y hz hu) (fun k hk => by have := hin k hk;have := hN p hp;omega) (fun j c ec _ k hk hk2 => by
  have := hin k hk
  have := hN k (Or.inr ⟨j, c, ec, hk2⟩)
  omega)
 refine ⟨x.bx.keptS KS fun e => x.bN (e ▸ hp), x.bb, ?_, by rw [hs];exact x.mails.keptS KS fun k hk e => x.sNM p hp (e ▸ hk), by rw [hs];exact x.slog.keptR KS fun k hk e => x.sNS p hp (e ▸ hk), fun k a c => ?_, fun k a c => ?_, x.sMS, fun a => ?_, x.bM, x.bS, ⟨x.sz.n, x.sz.m, x.sz.s, fun j a e => ?_, x.sz.mails⟩⟩
 ·rw [hs]
  show LAt nodeK _ true base _ N.1 N.2.1 N.2.2 _
  rw [eN];rw [eN] at P;exact P
 ·rcases inN k a with d | d
  ·exact x.sNM k d c
  ·have := hM k c;omega
 ·rcases inN k a with d | d
  ·exact x.sNS k d c
  ·have := hS k c;omega
 ·rcases inN b a with d | d
  ·exact x.bN d
  ·omega
 ·by_cases c2 : j = i
  ·subst c2
   have hx : j < xs.length := by rw [LAt.len x.nodes];exact hi
   rw [List.getElem?_set_self hx] at e;rw [← Option.some.inj e];exact hsz
  ·rw [List.getElem?_set_ne (Ne.symm c2)] at e;exact x.sz.nodes j a e
theorem LiveAt.app {P : Program} (x : LiveAt W T base b N M S xs ys es) (hbw : base ≤ W.heap.size) (t : TypeId) (i0 : TypeInfo) (z : Value) (bytes : Nat) (ht : P.underlying t = some (.slice T)) (hi0 : P.info? T = some i0) (hz0 : i0.zero = some z) (hz1 : i0.size = 15) (hz2 : i0.bytes = bytes) (hzs : z.cells.size = 15) (hby : bytes ≤ 1000)
  {ow : Bool} {l u : Nat} (ao : Option Addr) (m c : Nat) (zs : List Mal) (hrow : RowAt W ow l u 15 ao m c (zs.flatMap mailK.cells)) (hzl : zs.length = m) (hm : ∀ (i : Nat) (a : Mal), zs[i]? = some a → mailK.mem W true base W.heap.size a) (hap : ∀ (i : Nat) (a : Mal), zs[i]? = some a → ∀ k, mailK.inn a k → ¬ inL nodeK N.1 N.2.1 xs k ∧ ¬ inV M ys k ∧ ¬ hR S k ∧ k ≠ b) (hsep2 : ∀ (i j : Nat) (a c : Mal), zs[i]? = some a → zs[j]? = some c → i ≠ j → Sep (mailK.inn a) (mailK.inn c)) (hn : M.2.1 + m ≤ 1000000) (hsz : ∀ (i : Nat) (a : Mal), zs[i]? = some a → a.2.2.1 ≤ 1048576) :
  ∃ (M' : Hd) (W2 : World), (∀ ty, (Builtin.append_ #[t, t] ty #[.slice M.1 M.2.1 M.2.2, .slice ao m c]).run P W = .ok (.slice M'.1 M'.2.1 M'.2.2) W2) ∧ KeptS (fun q => (hv M).ownBlock = some q) W W2 ∧ (∀ W3, PutX W2 W3 b [.slice N.1 N.2.1 N.2.2, .slice M'.1 M'.2.1 M'.2.2, .slice S.1 S.2.1 S.2.2] → LiveAt W3 T base b N M' S xs (ys ++ zs) es) ∧ Bx W2 b [.slice N.1 N.2.1 N.2.2, .slice M.1 M.2.1 M.2.2, .slice S.1 S.2.1 S.2.2] := by
 have hone : ∀ a ∈ zs, ∀ u ∈ mailK.cells a, u.oneCell' = true := fun a _ u h => by
  simp only [mailK, mlV, hv, List.mem_cons, List.not_mem_nil, or_false] at h
  rcases h with rfl | rfl | rfl | rfl | rfl | rfl | rfl | rfl | rfl | rfl | rfl | rfl | rfl | rfl | rfl <;> rfl
 obtain ⟨v', W2, hr, G, KS, BL, hat⟩ := x.mails.gr.app (P := P) mailOk t i0 z bytes ht hi0 hz0 hz1 hz2 hzs hby ao m c zs hrow hzl hone hm (fun i a e q hq hv' => (hap i a e q hq).2.1 (Or.inl hv')) (fun i j a d e1 e2 q h1 h2 => (hap j d e2 q h2).2.1 (Or.inr ⟨i, a, e1, h1⟩)) hsep2 hn hbw
 obtain ⟨ma, mc, ev, _, _⟩ := owns_slice G.own
 subst ev
 have hX := x.bx.keptS KS fun e => x.bM (Or.inl e)
 have hsz2 := KS.size
 refine ⟨(ma, M.2.1 + m, mc), W2, hr, KS, fun W3 Pt => ?_, hX⟩
 have K3 := KeptS.one Pt.kept;have hs3 := Pt.kept.size
 have own' : ∀ q, (hv (ma, M.2.1 + m, mc)).ownBlock = some q → (hv M).ownBlock = some q ∨ q = W.heap.size := fun q hq => by
  rcases hat with e | e
  ·exact Or.inl (e ▸ hq)
  ·exact Or.inr (Option.some.inj (e ▸ hq)).symm
 have inM : ∀ q, inV (ma, M.2.1 + m, mc) (ys ++ zs) q → inV M ys q ∨ q = W.heap.size ∨ ∃ (i : Nat) (a : Mal), zs[i]? = some a ∧ mailK.inn a q := fun q hq => by
  rcases hq with h | ⟨i, a, e, h⟩
  ·rcases own' q h with c1 | c1
   ·exact Or.inl (Or.inl c1)
   ·exact Or.inr (Or.inl c1)
  ·rcases Nat.lt_or_ge i ys.length with p | p
   ·rw [List.getElem?_append_left p] at e;exact Or.inl (Or.inr ⟨i, a, e, h⟩)
   ·rw [List.getElem?_append_right p] at e;exact Or.inr (Or.inr ⟨_, a, e, h⟩)
 have bM' : ¬ inV (ma, M.2.1 + m, mc) (ys ++ zs) b := fun h => by
  rcases inM b h with c1 | c1 | ⟨i, a, e, c1⟩
  ·exact x.bM c1
  ·have := x.bx.lt;omega
  ·exact (hap i a e b c1).2.2.2 rfl
 have MG : MGr W2 T base W2.heap.size (ma, M.2.1 + m, mc) (ys ++ zs) := ⟨G, fun q hq => by
  rcases hq with h | ⟨i, a, e, h⟩
  ·exact (G.own.lt q h).2
  ·exact (mailOk.inB (G.each i a e) h).2.2⟩
 have N2 : NAt W2 true base W2.heap.size N xs := (LAt.keptS nodeOk x.nodes KS fun q hq e => x.sNM q hq (Or.inl e)).widen nodeOk (Nat.le_refl _) hsz2
 have S2 : RowAt W2 true base W2.heap.size 6 S.1 S.2.1 S.2.2 (sixs es) := (x.slog.keptR KS fun q hq e => x.sMS q (Or.inl e) hq).widen (Nat.le_refl _) hsz2
 refine ⟨Pt.bx, x.bb, (LAt.keptS nodeOk N2 K3 fun q hq e => x.bN (e ▸ hq)).widen nodeOk (Nat.le_refl _) hs3, (MG.keptS K3 fun q hq e => bM' (e ▸ hq)).mono hs3, (S2.keptR K3 fun q hq e => x.bS (e ▸ hq)).widen (Nat.le_refl _) hs3, fun q a d => ?_, x.sNS, fun q a d => ?_, x.bN, bM', x.bS, ⟨x.sz.n, by show M.2.1 + m ≤ 1048576;omega, x.sz.s, x.sz.nodes, fun i a e => ?_⟩⟩
 ·rcases inM q d with c1 | c1 | ⟨i, e, e2, c1⟩
  ·exact x.sNM q a c1
  ·have := x.nodes.inB a;omega
  ·exact (hap i e e2 q c1).1 a
 ·rcases inM q a with c1 | c1 | ⟨i, e, e2, c1⟩
  ·exact x.sMS q c1 d
  ·have := x.slog.inB d;omega
  ·exact (hap i e e2 q c1).2.2.1 d
 ·rcases Nat.lt_or_ge i ys.length with p | p
  ·rw [List.getElem?_append_left p] at e;exact x.sz.mails i a e
  ·rw [List.getElem?_append_right p] at e;exact hsz _ a e
end
theorem LAt.pre {α : Type} {k : Kd α} (K : KdOk k) {w : World} {own : Bool} {lo hi : Nat} {ao : Option Addr} {n cap : Nat} {xs : List α} (h : LAt k w own lo hi ao n cap xs) {j : Nat} (hj : j ≤ n) : LAt k w own lo hi ao j cap (xs.take j) := by
 have hl : (xs.take j).length = j := by rw [List.length_take, h.len];omega
 have get : ∀ (i : Nat) (a : α), (xs.take j)[i]? = some a → xs[i]? = some a := fun i a e => by
  have hi : i < j := by have := (List.getElem?_eq_some_iff.1 e).1;omega
  rwa [List.getElem?_take_of_lt hi] at e
 have e : (xs.take j).flatMap k.cells = (xs.flatMap k.cells).take (j * k.sz) := by
  apply List.ext_getElem?
  intro q
  by_cases hq : q < j * k.sz
  ·rw [List.getElem?_take_of_lt hq];have hs := K.pos
   have hd : q / k.sz < j := Nat.div_lt_of_lt_mul (by rwa [Nat.mul_comm])
   have hm := Nat.mod_lt q hs
   have eq : q = q / k.sz * k.sz + q % k.sz := by rw [Nat.mul_comm];exact (Nat.div_add_mod q k.sz).symm
   have hx : q / k.sz < xs.length := by rw [h.len];omega
   rw [eq, flatMap_at K (xs.take j) (q / k.sz) xs[q / k.sz] (by rw [List.getElem?_take_of_lt hd];exact List.getElem?_eq_getElem hx) _ hm, flatMap_at K xs (q / k.sz) _ (List.getElem?_eq_getElem hx) _ hm]
  ·rw [List.getElem?_eq_none (by rw [flatMap_len K, hl];omega), List.getElem?_eq_none (by rw [List.length_take];omega)]
 exact ⟨hl, by rw [e];exact h.row.pre hj, fun i a c => h.each i a (get i a c), fun ho i a c => h.far ho i a (get i a c), fun ho i m a c e1 e2 hne => h.sep ho i m a c (get i a e1) (get m c e2) hne⟩
def mals (K : Nat → Hd) (ms : List Ml) : List Mal := (List.range ms.length).map fun i => (ms.getD i ml0, K i)
theorem mals_len (K : Nat → Hd) (ms : List Ml) : (mals K ms).length = ms.length := by simp [mals]
theorem mals_at {K : Nat → Hd} {ms : List Ml} {i : Nat} {a : Mal} (e : (mals K ms)[i]? = some a) : i < ms.length ∧ a = (ms.getD i ml0, K i) := by
 obtain ⟨h1, h2⟩ := List.getElem?_eq_some_iff.1 e
 have h3 : i < ms.length := by simpa [mals] using h1
 exact ⟨h3, by rw [← h2];simp [mals]⟩
theorem mals_get {K : Nat → Hd} {ms : List Ml} {i : Nat} (h : i < ms.length) : (mals K ms)[i]? = some (ms.getD i ml0, K i) := by simp [mals, h]
theorem mals_fst (K : Nat → Hd) (ms : List Ml) : (mals K ms).map (·.1) = ms := by
 apply List.ext_getElem (by simp [mals])
 intro i h1 h2
 simp [mals, List.getD, h2]
theorem MailsAt.lat {w : World} {own : Bool} {lo hi : Nat} {ao : Option Addr} {n cap : Nat} {K : Nat → Hd} {ms : List Ml} (h : MailsAt w own lo hi ao n cap K ms) : LAt mailK w own lo hi ao n cap (mals K ms) := by
 have hl : (mals K ms).length = n := by rw [mals_len];exact h.len
 refine ⟨hl, ?_, fun i a e => ?_, fun ho i a e q hq => ?_, fun ho i j a c e1 e2 hne q h1 h2 => ?_⟩
 ·have e : (mals K ms).flatMap mailK.cells = flatF 15 n (mlF K ms) := by
   apply List.ext_getElem?
   intro q
   by_cases hq : q < n * 15
   ·have hd : q / 15 < n := by omega
    have t := flatMap_at mailOk (mals K ms) (q / 15) _ (mals_get (by rw [h.len];exact hd)) (q % 15) (Nat.mod_lt _ (by show 0 < 15;omega))
    have e2 : q / 15 * mailK.sz + q % 15 = q := by show q / 15 * 15 + q % 15 = q;omega
    rw [e2] at t;rw [t]
    have t2 := flatF_get (sz := 15) (n := n) (mlF K ms) (i := q / 15) (j := q % 15) hd (by omega)
    rw [show q / 15 * 15 + q % 15 = q by omega] at t2
    have hlf : q < (flatF 15 n (mlF K ms)).length := by rw [flatF_len];exact hq
    rw [List.getElem?_eq_getElem hlf];rw [List.getD_eq_getElem?_getD, List.getElem?_eq_getElem hlf, Option.getD_some] at t2;rw [t2];unfold mlF
    have hl2 : q % 15 < (mlV (K (q / 15)) (ms.getD (q / 15) ml0)).length := by show q % 15 < 15;omega
    obtain ⟨mm, hmm⟩ : ∃ mm, ms.getD (q / 15) ml0 = mm := ⟨_, rfl⟩
    rw [hmm] at hl2 ⊢
    rw [List.getD_eq_getElem?_getD]
    show (mlV _ _)[q % 15]? = some ((mlV _ _)[q % 15]?.getD default)
    rw [List.getElem?_eq_getElem hl2, Option.getD_some]
   ·rw [List.getElem?_eq_none (by rw [flatMap_len mailOk, hl];show n * 15 ≤ q;omega), List.getElem?_eq_none (by rw [flatF_len];omega)]
  rw [e];exact h.els.row
 ·obtain ⟨hi', rfl⟩ := mals_at e
  exact h.els.logs i (by rw [← h.len];exact hi')
 ·obtain ⟨hi', rfl⟩ := mals_at e
  rw [hq.2]
  exact (h.els.sep ho i (by rw [← h.len];exact hi') hq.1).1
 ·obtain ⟨hi', rfl⟩ := mals_at e1
  obtain ⟨hj', rfl⟩ := mals_at e2
  have := (h.els.sep ho i (by rw [← h.len];exact hi') h1.1).2 j (by rw [← h.len];exact hj') (Ne.symm hne) h2.1
  exact this (h2.2.symm.trans h1.2)
def telB (r : Rep) (k : Nat) : Prop := (k : Int) = r.id ∨ r.normal = false ∧ (r.doers.getD k dr0).1 = true
instance (r : Rep) (k : Nat) : Decidable (telB r k) := inferInstanceAs (Decidable (_ ∨ _))
structure Rows3 (w : World) (base : Nat) (v1 v2 v3 : Value) (n1 n2 n3 : Nat) (c1 c2 c3 : List Value) : Prop where
 a : w.ownsRow base 2 1 v1 n1 c1
 b : w.ownsRow base 2 1 v2 n2 c2
 c : w.ownsRow base 34 1 v3 n3 c3
 ab : ∀ g, v1.ownBlock = some g → v2.ownBlock ≠ some g
 ac : ∀ g, v1.ownBlock = some g → v3.ownBlock ≠ some g
 bc : ∀ g, v2.ownBlock = some g → v3.ownBlock ≠ some g
section
variable {w w' : World} {base b1 : Nat} {v1 v2 v3 : Value} {n1 n2 n3 : Nat} {c1 c2 c3 : List Value}
end
section
variable {W : World} {g p : Nat} {ac : Option Addr} {nc cc : Nat} {bs : List Nat}
end
section
variable {W : World} {g p : Nat} {ac : Option Addr} {nc cc : Nat} {bs : List Nat}
end
structure AD (W : World) (zz ka kd : Nat) (s t : Hd) (asks : List Bool) (ds : List Dr) (K : Nat → Hd) : Prop where
 oa : W.ownsRow zz 4 1 (.slice s.1 s.2.1 s.2.2) ka (bls asks)
 od : GrowAt 4 W zz 136 (.slice t.1 t.2.1 t.2.2) kd (drF K ds) K (drL ds)
 len : ds.length = kd
 small : ∀ i, i < kd → (K i).2.1 ≤ 8
 sep1 : ∀ x, (Value.slice s.1 s.2.1 s.2.2).ownBlock = some x → (Value.slice t.1 t.2.1 t.2.2).ownBlock ≠ some x
 sep2 : ∀ i, i < kd → (K i).2.1 ≠ 0 → (Value.slice s.1 s.2.1 s.2.2).ownBlock ≠ some (sb (K i).1)
section
variable {W W' : World} {zz ka kd : Nat} {s t : Hd} {asks : List Bool} {ds : List Dr} {K : Nat → Hd}
end
structure PutM (w W : World) (b k : Nat) (v : Value) : Prop where
 eq : W = w.setCell ⟨b, k, none⟩ v
theorem store_oneM {P : Program} {ops : Array Oper} {rest : List Oper} {dst : Option Tmp} {type : TypeId} {pos : String} {after : Array Edge} {a : Act} {w : World} {Q : Exit → Act → World → Prop} (ty : TypeId) {x y : Operand} {b k : Nat} {u : Value} (hc : w.cell? ⟨b, k, none⟩ = some u) (hf : w.frozen? ⟨b, k, none⟩ = false) (v : Value) (hi : (P.info? ty).map (·.size) = some 1) (hv : v.oneCell' = true) (hx : a.eval x = .pointer (some ⟨b, k, none⟩)) (hy : a.eval y = v)
  (h : ∀ W : World, PutM w W b k v → wpList P ops Q rest (a.put dst undef) W) : wpList P ops Q (⟨dst, .store ty x y, type, pos, after, none⟩ :: rest) a w := by
 refine wpList_plain rfl fun K hK => ?_
 have hK2 := hK _ _ (h _ ⟨rfl⟩);unfold Oper.wp execOp;simp only [hx, hy, Instr.storeAt, Instr.sureAddr, Sem.run_bind, Sem.run_pure, Result.andThen_ok, run_storeVar_oneC hc hf ty v hv hi];exact hK2
end Go.Proofs.YtclghfoinologaaGreat
