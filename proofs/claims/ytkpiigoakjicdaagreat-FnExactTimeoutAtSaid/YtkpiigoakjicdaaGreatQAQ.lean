/- Chapter 11: what changes in a cluster that is about to change. No program is named here. -/
import Derived.Test.YtkpiigoakjicdaaGreatCU2
import Derived.Test.YtkpiigoakjicdaaGreatWS
import Derived.Test.YtkpiigoakjicdaaGreatQAM
import Derived.Deep.DeepCutAuto
import Derived.Test.YtkpiigoakjicdaaGreatQAE
import Derived.Test.YtkpiigoakjicdaaGreatQAB
import Derived.Test.YtkpiigoakjicdaaGreatQAG
import Derived.Test.YtkpiigoakjicdaaGreatQAN
import Derived.Test.YtkpiigoakjicdaaGreatQAD
import Derived.Test.YtkpiigoakjicdaaGreatQAK
import Derived.Test.YtkpiigoakjicdaaGreatQAL
import Derived.Test.YtkpiigoakjicdaaGreatWH
import Derived.Test.YtkpiigoakjicdaaGreatWC
import Derived.Test.YtkpiigoakjicdaaGreatQAC
set_option maxRecDepth 20000
set_option maxHeartbeats 16000000
namespace Go.Proofs.YtkpiigoakjicdaaGreat
open Go.RowKit
theorem RowAt.pre {w : World} {own : Bool} {lo hi size : Nat} {ao : Option Addr} {n cap : Nat} {cs : List Value} (h : RowAt w own lo hi size ao n cap cs) {k : Nat} (hk : k ≤ n) : RowAt w own lo hi size ao k cap (cs.take (k * size)) := by
  have hl := h.len
  have hks : k * size ≤ n * size := Nat.mul_le_mul_right _ hk
  refine ⟨by rw [List.length_take]; omega, Nat.le_trans hk h.le, fun h0 => ?_⟩
  obtain ⟨b, off, rfl, h1, h2, h3, h4, h5⟩ := h.cells (by omega)
  refine ⟨b, off, rfl, h1, h2, h3, fun i hi => ?_, fun ho i hi => h5 ho i (by omega)⟩
  rw [h4 i (by omega), List.getD_eq_getElem?_getD, List.getD_eq_getElem?_getD, List.getElem?_take_of_lt hi]
theorem sixs_takeV (xs : List En) (k : Nat) (hk : k ≤ xs.length) : sixs (xs.take k) = (sixs xs).take (k * 6) := by
  have hl : (xs.take k).length = k := by rw [List.length_take]; omega
  apply List.ext_getElem?
  intro j
  by_cases hj : j < k * 6
  · rw [List.getElem?_take_of_lt hj]
    have hd : j / 6 < k := by omega
    have e : (xs.take k).getD (j / 6) en0 = xs.getD (j / 6) en0 := by rw [List.getD_eq_getElem?_getD, List.getD_eq_getElem?_getD, List.getElem?_take_of_lt hd]
    have a1 : j < (xs.take k).length * 6 := by omega
    have a2 : j < xs.length * 6 := by omega
    simp only [sixs, List.getElem?_map, List.getElem?_range a1, List.getElem?_range a2, Option.map_some, e]
  · rw [List.getElem?_eq_none (by rw [sixs_len]; omega), List.getElem?_eq_none (by rw [List.length_take]; omega)]
theorem RowAt.preE {w : World} {own : Bool} {lo hi : Nat} {ao : Option Addr} {n cap : Nat} {xs : List En} (h : RowAt w own lo hi 6 ao n cap (sixs xs)) {k : Nat} (hk : k ≤ n) : RowAt w own lo hi 6 ao k cap (sixs (xs.take k)) := by
  rw [sixs_takeV xs k (by rw [h.nSixs]; exact hk)]; exact h.pre hk
def SealRes (w w' : World) (T : TypeId) (base b : Nat) (N M S0 : Hd) (xs : List Nod) (ys : List Mal) (es : List En) : Prop := (∃ S' : Hd, LiveAt w' T base b N M S' xs ys es ∧ ∀ k, hR S' k → hR S0 k ∨ w.heap.size ≤ k) ∧ KeptS (fun k => k = b) w w'
def sealE (q : Rep) (es : List En) : List En := if (es.length : Int) < q.commit then q.log.take q.commit.toNat else es
section
variable {W W2 W3 : World} {T : TypeId} {base b : Nat} {N M S : Hd} {xs : List Nod} {ys : List Mal} {es : List En}
theorem KeptS.one {W W' : World} {b : Nat} (h : Kept b (b + 1) W W') : KeptS (fun q => q = b) W W' := h.toS fun k h1 h2 => by omega
theorem KeptS.thenB {S : Nat → Prop} {w a c : World} (B : Below w.heap.size w a) (h : KeptS S a c) : KeptS S w c :=
  ⟨h.os.trans B.os, h.tape.trans B.tape, h.output.trans B.output, Nat.le_trans B.size h.size, fun k hk hs => (h.block k (Nat.lt_of_lt_of_le hk B.size) hs).trans (B.block k hk)⟩
theorem KeptS.andS {S R : Nat → Prop} {w a c : World} (h : KeptS S w a) (g : KeptS R a c) : KeptS (fun k => S k ∨ R k) w c :=
  ⟨g.os.trans h.os, g.tape.trans h.tape, g.output.trans h.output, Nat.le_trans h.size g.size, fun k hk hs => (g.block k (Nat.lt_of_lt_of_le hk h.size) fun q => hs (Or.inr q)).trans (h.block k hk fun q => hs (Or.inl q))⟩
theorem KeptS.imp {S R : Nat → Prop} {w a : World} (h : KeptS S w a) (hi : ∀ k, S k → R k) : KeptS R w a :=
  ⟨h.os, h.tape, h.output, h.size, fun k hk hs => h.block k hk fun q => hs (hi k q)⟩
theorem LiveAt.setS (x : LiveAt W T base b N M S xs ys es) {z u : Nat} {S' : Hd} {es' : List En} (R : RowAt W true z u 6 S'.1 S'.2.1 S'.2.2 (sixs es')) (hz : base ≤ z) (hN : ∀ q, inL nodeK N.1 N.2.1 xs q → q < z ∨ u ≤ q) (hM : ∀ q, inV M ys q → q < z ∨ u ≤ q) (hb : b < z ∨ u ≤ b) (hs : S'.2.1 ≤ 1048576)
    (P : PutX W W3 b [.slice N.1 N.2.1 N.2.2, .slice M.1 M.2.1 M.2.2, .slice S'.1 S'.2.1 S'.2.2]) : LiveAt W3 T base b N M S' xs ys es' := by
  have KS := KeptS.one P.kept
  have hsz := P.kept.size
  refine ⟨P.bx, x.bb, (LAt.keptS nodeOk x.nodes KS fun q hq e => x.bN (e ▸ hq)).widen nodeOk (Nat.le_refl _) hsz, (x.mails.keptS KS fun q hq e => x.bM (e ▸ hq)).mono hsz, ?_, x.sNM, fun q a c => ?_, fun q a c => ?_, x.bN, x.bM, fun c => ?_, ⟨x.sz.n, x.sz.m, hs, x.sz.nodes, x.sz.mails⟩⟩
  · have R2 := R.keptR KS fun q hq e => by have := R.inB hq; omega
    refine ⟨R2.len, R2.le, fun h0 => ?_⟩
    obtain ⟨b1, o1, e, h1, h2, h3, h4, h5⟩ := R2.cells h0
    exact ⟨b1, o1, e, by omega, h3, h3, h4, h5⟩
  · have := R.inB c; have := hN q a; omega
  · have := R.inB c; have := hM q a; omega
  · have := R.inB c; omega
theorem LiveAt.setN (x : LiveAt W T base b N M S xs ys es) {p o i : Nat} {N' : Hd} (eN : N = (some ⟨p, o, none⟩, N'.2)) (hi : i < N.2.1) {q : Rep} {h : RH} {z u : Nat} (y : RepAt W true z u h q) (hz : base ≤ z) (hu : u ≤ W.heap.size) (hsz : RSz h 1048576) (hN : ∀ k, inL nodeK N.1 N.2.1 xs k → k < z ∨ u ≤ k) (hM : ∀ k, inV M ys k → k < z ∨ u ≤ k) (hS : ∀ k, hR S k → k < z ∨ u ≤ k) (hb : b < z ∨ u ≤ b) : LiveAt (W.setCells p (o + i * 10) (repC q h)) T base b N M S (xs.set i (q, h)) ys es := by
  have hn0 : N.2.1 ≠ 0 := by omega
  have hp : inL nodeK N.1 N.2.1 xs p := Or.inl ⟨hn0, by rw [eN]; rfl⟩
  have KS : KeptS (fun k => k = p) W (W.setCells p (o + i * 10) (repC q h)) := KeptS.one (kept_el _ _ _)
  have hs : (W.setCells p (o + i * 10) (repC q h)).heap.size = W.heap.size := size_setCells' _ _ _ _
  have hin : ∀ k, inRep h k → z ≤ k ∧ k < u := fun k hk => by have := y.inB hk; omega
  have inN : ∀ k, inL nodeK N.1 N.2.1 (xs.set i (q, h)) k → inL nodeK N.1 N.2.1 xs k ∨ (z ≤ k ∧ k < u) := fun k hk => by
    rcases hk with c | ⟨j, a, e, c⟩
    · exact Or.inl (Or.inl c)
    · by_cases c2 : j = i
      · subst c2
        have hx : j < xs.length := by rw [LAt.len x.nodes]; exact hi
        rw [List.getElem?_set_self hx] at e
        rw [← Option.some.inj e] at c
        exact Or.inr (hin k c)
      · rw [List.getElem?_set_ne (Ne.symm c2)] at e
        exact Or.inl (Or.inr ⟨j, a, e, c⟩)
  have L : LAt nodeK W true base W.heap.size (some ⟨p, o, none⟩) N.2.1 N.2.2 xs := by
    have := x.nodes
    unfold NAt at this
    rw [eN] at this ⊢; exact this
  have P := L.put nodeOk hi (q, h) (nodeOk.widen (a := (q, h)) y hz hu) (fun k hk => by have := hin k hk; have := hN p hp; omega) (fun j c ec _ k hk hk2 => by
    have := hin k hk
    have := hN k (Or.inr ⟨j, c, ec, hk2⟩)
    omega)
  refine ⟨x.bx.keptS KS fun e => x.bN (e ▸ hp), x.bb, ?_, by rw [hs]; exact x.mails.keptS KS fun k hk e => x.sNM p hp (e ▸ hk), by rw [hs]; exact x.slog.keptR KS fun k hk e => x.sNS p hp (e ▸ hk), fun k a c => ?_, fun k a c => ?_, x.sMS, fun a => ?_, x.bM, x.bS, ⟨x.sz.n, x.sz.m, x.sz.s, fun j a e => ?_, x.sz.mails⟩⟩
  · rw [hs]
    show LAt nodeK _ true base _ N.1 N.2.1 N.2.2 _
    rw [eN]
    rw [eN] at P
    exact P
  · rcases inN k a with d | d
    · exact x.sNM k d c
    · have := hM k c; omega
  · rcases inN k a with d | d
    · exact x.sNS k d c
    · have := hS k c; omega
  · rcases inN b a with d | d
    · exact x.bN d
    · omega
  · by_cases c2 : j = i
    · subst c2
      have hx : j < xs.length := by rw [LAt.len x.nodes]; exact hi
      rw [List.getElem?_set_self hx] at e
      rw [← Option.some.inj e]; exact hsz
    · rw [List.getElem?_set_ne (Ne.symm c2)] at e
      exact x.sz.nodes j a e
theorem LiveAt.app {P : Program} (x : LiveAt W T base b N M S xs ys es) (hbw : base ≤ W.heap.size) (t : TypeId) (i0 : TypeInfo) (z : Value) (bytes : Nat) (ht : P.underlying t = some (.slice T)) (hi0 : P.info? T = some i0) (hz0 : i0.zero = some z) (hz1 : i0.size = 15) (hz2 : i0.bytes = bytes) (hzs : z.cells.size = 15) (hby : bytes ≤ 1000)
    {ow : Bool} {l u : Nat} (ao : Option Addr) (m c : Nat) (zs : List Mal) (hrow : RowAt W ow l u 15 ao m c (zs.flatMap mailK.cells)) (hzl : zs.length = m) (hm : ∀ (i : Nat) (a : Mal), zs[i]? = some a → mailK.mem W true base W.heap.size a) (hap : ∀ (i : Nat) (a : Mal), zs[i]? = some a → ∀ k, mailK.inn a k → ¬ inL nodeK N.1 N.2.1 xs k ∧ ¬ inV M ys k ∧ ¬ hR S k ∧ k ≠ b) (hsep2 : ∀ (i j : Nat) (a c : Mal), zs[i]? = some a → zs[j]? = some c → i ≠ j → Sep (mailK.inn a) (mailK.inn c)) (hn : M.2.1 + m ≤ 1000000) (hsz : ∀ (i : Nat) (a : Mal), zs[i]? = some a → a.2.2.1 ≤ 1048576) :
    ∃ (M' : Hd) (W2 : World), (∀ ty, (Builtin.append_ #[t, t] ty #[.slice M.1 M.2.1 M.2.2, .slice ao m c]).run P W = .ok (.slice M'.1 M'.2.1 M'.2.2) W2) ∧ KeptS (fun q => (hv M).ownBlock = some q) W W2 ∧ (∀ W3, PutX W2 W3 b [.slice N.1 N.2.1 N.2.2, .slice M'.1 M'.2.1 M'.2.2, .slice S.1 S.2.1 S.2.2] → LiveAt W3 T base b N M' S xs (ys ++ zs) es) ∧ Bx W2 b [.slice N.1 N.2.1 N.2.2, .slice M.1 M.2.1 M.2.2, .slice S.1 S.2.1 S.2.2] := by
  have hone : ∀ a ∈ zs, ∀ u ∈ mailK.cells a, u.oneCell' = true := fun a _ u h => by
    simp only [mailK, mlV, hv, List.mem_cons, List.not_mem_nil, or_false] at h
    rcases h with rfl | rfl | rfl | rfl | rfl | rfl | rfl | rfl | rfl | rfl | rfl | rfl | rfl | rfl | rfl <;> rfl
  obtain ⟨v', W2, hr, G, KS, BL, hat⟩ := x.mails.gr.app (P := P) mailOk t i0 z bytes ht hi0 hz0 hz1 hz2 hzs hby ao m c zs hrow hzl hone hm (fun i a e q hq hv' => (hap i a e q hq).2.1 (Or.inl hv')) (fun i j a d e1 e2 q h1 h2 => (hap j d e2 q h2).2.1 (Or.inr ⟨i, a, e1, h1⟩)) hsep2 hn hbw
  obtain ⟨ma, mc, ev, _, _⟩ := owns_slice G.own
  subst ev
  have hX := x.bx.keptS KS fun e => x.bM (Or.inl e)
  have hsz2 := KS.size
  refine ⟨(ma, M.2.1 + m, mc), W2, hr, KS, fun W3 Pt => ?_, hX⟩
  have K3 := KeptS.one Pt.kept
  have hs3 := Pt.kept.size
  have own' : ∀ q, (hv (ma, M.2.1 + m, mc)).ownBlock = some q → (hv M).ownBlock = some q ∨ q = W.heap.size := fun q hq => by
    rcases hat with e | e
    · exact Or.inl (e ▸ hq)
    · exact Or.inr (Option.some.inj (e ▸ hq)).symm
  have inM : ∀ q, inV (ma, M.2.1 + m, mc) (ys ++ zs) q → inV M ys q ∨ q = W.heap.size ∨ ∃ (i : Nat) (a : Mal), zs[i]? = some a ∧ mailK.inn a q := fun q hq => by
    rcases hq with h | ⟨i, a, e, h⟩
    · rcases own' q h with c1 | c1
      · exact Or.inl (Or.inl c1)
      · exact Or.inr (Or.inl c1)
    · rcases Nat.lt_or_ge i ys.length with p | p
      · rw [List.getElem?_append_left p] at e
        exact Or.inl (Or.inr ⟨i, a, e, h⟩)
      · rw [List.getElem?_append_right p] at e
        exact Or.inr (Or.inr ⟨_, a, e, h⟩)
  have bM' : ¬ inV (ma, M.2.1 + m, mc) (ys ++ zs) b := fun h => by
    rcases inM b h with c1 | c1 | ⟨i, a, e, c1⟩
    · exact x.bM c1
    · have := x.bx.lt; omega
    · exact (hap i a e b c1).2.2.2 rfl
  have MG : MGr W2 T base W2.heap.size (ma, M.2.1 + m, mc) (ys ++ zs) := ⟨G, fun q hq => by
    rcases hq with h | ⟨i, a, e, h⟩
    · exact (G.own.lt q h).2
    · exact (mailOk.inB (G.each i a e) h).2.2⟩
  have N2 : NAt W2 true base W2.heap.size N xs := (LAt.keptS nodeOk x.nodes KS fun q hq e => x.sNM q hq (Or.inl e)).widen nodeOk (Nat.le_refl _) hsz2
  have S2 : RowAt W2 true base W2.heap.size 6 S.1 S.2.1 S.2.2 (sixs es) := (x.slog.keptR KS fun q hq e => x.sMS q (Or.inl e) hq).widen (Nat.le_refl _) hsz2
  refine ⟨Pt.bx, x.bb, (LAt.keptS nodeOk N2 K3 fun q hq e => x.bN (e ▸ hq)).widen nodeOk (Nat.le_refl _) hs3, (MG.keptS K3 fun q hq e => bM' (e ▸ hq)).mono hs3, (S2.keptR K3 fun q hq e => x.bS (e ▸ hq)).widen (Nat.le_refl _) hs3, fun q a d => ?_, x.sNS, fun q a d => ?_, x.bN, bM', x.bS, ⟨x.sz.n, by show M.2.1 + m ≤ 1048576; omega, x.sz.s, x.sz.nodes, fun i a e => ?_⟩⟩
  · rcases inM q d with c1 | c1 | ⟨i, e, e2, c1⟩
    · exact x.sNM q a c1
    · have := x.nodes.inB a; omega
    · exact (hap i e e2 q c1).1 a
  · rcases inM q a with c1 | c1 | ⟨i, e, e2, c1⟩
    · exact x.sMS q c1 d
    · have := x.slog.inB d; omega
    · exact (hap i e e2 q c1).2.2.1 d
  · rcases Nat.lt_or_ge i ys.length with p | p
    · rw [List.getElem?_append_left p] at e; exact x.sz.mails i a e
    · rw [List.getElem?_append_right p] at e; exact hsz _ a e
end
theorem LAt.pre {α : Type} {k : Kd α} (K : KdOk k) {w : World} {own : Bool} {lo hi : Nat} {ao : Option Addr} {n cap : Nat} {xs : List α} (h : LAt k w own lo hi ao n cap xs) {j : Nat} (hj : j ≤ n) : LAt k w own lo hi ao j cap (xs.take j) := by
  have hl : (xs.take j).length = j := by rw [List.length_take, h.len]; omega
  have get : ∀ (i : Nat) (a : α), (xs.take j)[i]? = some a → xs[i]? = some a := fun i a e => by
    have hi : i < j := by have := (List.getElem?_eq_some_iff.1 e).1; omega
    rwa [List.getElem?_take_of_lt hi] at e
  have e : (xs.take j).flatMap k.cells = (xs.flatMap k.cells).take (j * k.sz) := by
    apply List.ext_getElem?
    intro q
    by_cases hq : q < j * k.sz
    · rw [List.getElem?_take_of_lt hq]
      have hs := K.pos
      have hd : q / k.sz < j := Nat.div_lt_of_lt_mul (by rwa [Nat.mul_comm])
      have hm := Nat.mod_lt q hs
      have eq : q = q / k.sz * k.sz + q % k.sz := by rw [Nat.mul_comm]; exact (Nat.div_add_mod q k.sz).symm
      have hx : q / k.sz < xs.length := by rw [h.len]; omega
      rw [eq, flatMap_at K (xs.take j) (q / k.sz) xs[q / k.sz] (by rw [List.getElem?_take_of_lt hd]; exact List.getElem?_eq_getElem hx) _ hm, flatMap_at K xs (q / k.sz) _ (List.getElem?_eq_getElem hx) _ hm]
    · rw [List.getElem?_eq_none (by rw [flatMap_len K, hl]; omega), List.getElem?_eq_none (by rw [List.length_take]; omega)]
  exact ⟨hl, by rw [e]; exact h.row.pre hj, fun i a c => h.each i a (get i a c), fun ho i a c => h.far ho i a (get i a c), fun ho i m a c e1 e2 hne => h.sep ho i m a c (get i a e1) (get m c e2) hne⟩
def mals (K : Nat → Hd) (ms : List Ml) : List Mal := (List.range ms.length).map fun i => (ms.getD i ml0, K i)
theorem mals_len (K : Nat → Hd) (ms : List Ml) : (mals K ms).length = ms.length := by simp [mals]
theorem mals_at {K : Nat → Hd} {ms : List Ml} {i : Nat} {a : Mal} (e : (mals K ms)[i]? = some a) : i < ms.length ∧ a = (ms.getD i ml0, K i) := by
  obtain ⟨h1, h2⟩ := List.getElem?_eq_some_iff.1 e
  have h3 : i < ms.length := by simpa [mals] using h1
  exact ⟨h3, by rw [← h2]; simp [mals]⟩
theorem mals_get {K : Nat → Hd} {ms : List Ml} {i : Nat} (h : i < ms.length) : (mals K ms)[i]? = some (ms.getD i ml0, K i) := by simp [mals, h]
theorem mals_fst (K : Nat → Hd) (ms : List Ml) : (mals K ms).map (·.1) = ms := by
  apply List.ext_getElem (by simp [mals])
  intro i h1 h2
  simp [mals, List.getD, h2]
theorem MailsAt.lat {w : World} {own : Bool} {lo hi : Nat} {ao : Option Addr} {n cap : Nat} {K : Nat → Hd} {ms : List Ml} (h : MailsAt w own lo hi ao n cap K ms) : LAt mailK w own lo hi ao n cap (mals K ms) := by
  have hl : (mals K ms).length = n := by rw [mals_len]; exact h.len
  refine ⟨hl, ?_, fun i a e => ?_, fun ho i a e q hq => ?_, fun ho i j a c e1 e2 hne q h1 h2 => ?_⟩
  · have e : (mals K ms).flatMap mailK.cells = flatF 15 n (mlF K ms) := by
      apply List.ext_getElem?
      intro q
      by_cases hq : q < n * 15
      · have hd : q / 15 < n := by omega
        have t := flatMap_at mailOk (mals K ms) (q / 15) _ (mals_get (by rw [h.len]; exact hd)) (q % 15) (Nat.mod_lt _ (by show 0 < 15; omega))
        have e2 : q / 15 * mailK.sz + q % 15 = q := by show q / 15 * 15 + q % 15 = q; omega
        rw [e2] at t
        rw [t]
        have t2 := flatF_get (sz := 15) (n := n) (mlF K ms) (i := q / 15) (j := q % 15) hd (by omega)
        rw [show q / 15 * 15 + q % 15 = q by omega] at t2
        have hlf : q < (flatF 15 n (mlF K ms)).length := by rw [flatF_len]; exact hq
        rw [List.getElem?_eq_getElem hlf]
        rw [List.getD_eq_getElem?_getD, List.getElem?_eq_getElem hlf, Option.getD_some] at t2
        rw [t2]
        unfold mlF
        have hl2 : q % 15 < (mlV (K (q / 15)) (ms.getD (q / 15) ml0)).length := by show q % 15 < 15; omega
        obtain ⟨mm, hmm⟩ : ∃ mm, ms.getD (q / 15) ml0 = mm := ⟨_, rfl⟩
        rw [hmm] at hl2 ⊢
        rw [List.getD_eq_getElem?_getD]
        show (mlV _ _)[q % 15]? = some ((mlV _ _)[q % 15]?.getD default)
        rw [List.getElem?_eq_getElem hl2, Option.getD_some]
      · rw [List.getElem?_eq_none (by rw [flatMap_len mailOk, hl]; show n * 15 ≤ q; omega), List.getElem?_eq_none (by rw [flatF_len]; omega)]
    rw [e]; exact h.els.row
  · obtain ⟨hi', rfl⟩ := mals_at e
    exact h.els.logs i (by rw [← h.len]; exact hi')
  · obtain ⟨hi', rfl⟩ := mals_at e
    rw [hq.2]
    exact (h.els.sep ho i (by rw [← h.len]; exact hi') hq.1).1
  · obtain ⟨hi', rfl⟩ := mals_at e1
    obtain ⟨hj', rfl⟩ := mals_at e2
    have := (h.els.sep ho i (by rw [← h.len]; exact hi') h1.1).2 j (by rw [← h.len]; exact hj') (Ne.symm hne) h2.1
    exact this (h2.2.symm.trans h1.2)
def telB (r : Rep) (k : Nat) : Prop := (k : Int) = r.id ∨ r.normal = false ∧ (r.doers.getD k dr0).1 = true
instance (r : Rep) (k : Nat) : Decidable (telB r k) := inferInstanceAs (Decidable (_ ∨ _))
structure Rows3 (w : World) (base : Nat) (v1 v2 v3 : Value) (n1 n2 n3 : Nat) (c1 c2 c3 : List Value) : Prop where
  a : w.ownsRow base 2 1 v1 n1 c1
  b : w.ownsRow base 2 1 v2 n2 c2
  c : w.ownsRow base 24 1 v3 n3 c3
  ab : ∀ g, v1.ownBlock = some g → v2.ownBlock ≠ some g
  ac : ∀ g, v1.ownBlock = some g → v3.ownBlock ≠ some g
  bc : ∀ g, v2.ownBlock = some g → v3.ownBlock ≠ some g
section
variable {w w' : World} {base b1 : Nat} {v1 v2 v3 : Value} {n1 n2 n3 : Nat} {c1 c2 c3 : List Value}
end
end Go.Proofs.YtkpiigoakjicdaaGreat
namespace Go.Proofs.YtkpiigoakjicdaaGreat
open Go.RowKit Go.ChangeShapes Go.WideShapes Go.Deep
def bys (bs : List Nat) : List Value := bs.map fun (b : Nat) => Value.int .u8 (b : Int)
def SrcAt (w : World) (g p : Nat) (ac : Option Addr) (nc cc : Nat) : Prop := w.heap[g]? = some (.cells #[.slice ac nc cc, .int .i64 p] 169 (0, 0))
structure SB (W : World) (g p : Nat) (ac : Option Addr) (nc cc : Nat) (bs : List Nat) : Prop where
  src : SrcAt W g p ac nc cc
  row : ∃ o lo hi, RowAt W o lo hi 1 ac nc cc (bys bs) ∧ (hi ≤ g ∨ g < lo)
  byte : ∀ i, bs.getD i 0 < 256
  few : nc ≤ 1048576
section
variable {W : World} {g p : Nat} {ac : Option Addr} {nc cc : Nat} {bs : List Nat}
end
section
variable {W : World} {g p : Nat} {ac : Option Addr} {nc cc : Nat} {bs : List Nat}
end
structure AD (W : World) (zz ka kd : Nat) (s t : Hd) (asks : List Bool) (ds : List Dr) (K : Nat → Hd) : Prop where
  oa : W.ownsRow zz 4 1 (.slice s.1 s.2.1 s.2.2) ka (bls asks)
  od : GrowAt 4 W zz 167 (.slice t.1 t.2.1 t.2.2) kd (drF K ds) K (drL ds)
  len : ds.length = kd
  small : ∀ i, i < kd → (K i).2.1 ≤ 8
  sep1 : ∀ x, (Value.slice s.1 s.2.1 s.2.2).ownBlock = some x → (Value.slice t.1 t.2.1 t.2.2).ownBlock ≠ some x
  sep2 : ∀ i, i < kd → (K i).2.1 ≠ 0 → (Value.slice s.1 s.2.1 s.2.2).ownBlock ≠ some (sb (K i).1)
section
variable {W W' : World} {zz ka kd : Nat} {s t : Hd} {asks : List Bool} {ds : List Dr} {K : Nat → Hd}
end
structure PutM (w W : World) (b k : Nat) (v : Value) : Prop where
  eq : W = w.setCell ⟨b, k, none⟩ v
theorem store_oneM {P : Program} {ops : Array Oper} {rest : List Oper} {dst : Option Tmp} {type : TypeId} {pos : String} {after : Array Edge} {a : Act} {w : World} {Q : Exit → Act → World → Prop} (ty : TypeId) {x y : Operand} {b k : Nat} {u : Value} (hc : w.cell? ⟨b, k, none⟩ = some u) (hf : w.frozen? ⟨b, k, none⟩ = false) (v : Value) (hi : (P.info? ty).map (·.size) = some 1) (hv : v.oneCell' = true) (hx : a.eval x = .pointer (some ⟨b, k, none⟩)) (hy : a.eval y = v)
    (h : ∀ W : World, PutM w W b k v → wpList P ops Q rest (a.put dst undef) W) : wpList P ops Q (⟨dst, .store ty x y, type, pos, after, none⟩ :: rest) a w := by
  refine wpList_plain rfl fun K hK => ?_
  have hK2 := hK _ _ (h _ ⟨rfl⟩)
  unfold Oper.wp execOp
  simp only [hx, hy, Instr.storeAt, Instr.sureAddr, Sem.run_bind, Sem.run_pure, Result.andThen_ok, run_storeVar_oneC hc hf ty v hv hi]
  exact hK2
theorem GLk.el {α : Type} {k : Kd α} {w : World} {base : Nat} {T : TypeId} {ra : Option Addr} {rc n : Nat} {xs : List α} {kk : Nat} (K : KdOk k) (h : GLk k w base T (.slice ra n rc) n xs kk) {i : Nat} (hi : i < n) : ∃ a g, xs[i]? = some a ∧ ra = some ⟨g, 0, none⟩ ∧ base ≤ g ∧ g < w.heap.size ∧ (∀ j, j < k.sz → w.cell? ⟨g, i * k.sz + j, none⟩ = (k.cells a)[j]?) ∧ (∀ j, w.frozen? ⟨g, j, none⟩ = false) := by
  have hx : i < xs.length := by rw [h.len]; exact hi
  obtain ⟨ao, cap, e, R, hg⟩ := h.form
  obtain ⟨g, e2, _, h1, h2⟩ := hg (by omega)
  simp only [Value.slice.injEq, true_and] at e
  obtain ⟨rfl, rfl⟩ := e
  subst e2
  refine ⟨xs[i], g, List.getElem?_eq_getElem hx, rfl, h1, h2, fun j hj => ?_, fun j => h.own.frozenAt j⟩
  rw [h.own.cellAt _ (at_lt hi hj), flatMap_at K xs i _ (List.getElem?_eq_getElem hx) j hj]
theorem cloneN_o {o : Bool} {l u : Nat} (ab : Option Addr) (nb cb : Nat) (cs : List Value) (w : World) (h : RowAt w o l u 10 ab nb cb cs) (h1 : ∀ u ∈ cs, u.oneCell' = true) (hn : nb ≤ 1048576) :
    Calls Tryz.prog 242 #[.slice ab nb cb] w fun e w' => ∃ ra rc, e = .returned (.slice ra nb rc) ∧ w'.ownsRow w.heap.size 29 10 (.slice ra nb rc) nb cs ∧ Below w.heap.size w w' := by
  obtain ⟨j0, hj0, hy0, hy1, hy2⟩ := info_parts Tryz.infReplica
  have hq : ∀ W, (binOp .eql 76 (.slice ab nb cb) (.slice none 0 0)).run Tryz.prog W = .ok (.bool ab.isNone) W := fun W => Lib.run_eql_slice_nil W _ _ ab nb cb 0 0 Tryz.underlying76
  cases ab with
  | none =>
    simp only [Option.isNone_none] at hq
    have hz : nb = 0 := Decidable.byContradiction fun hne => by obtain ⟨_, _, e, _⟩ := h.cells hne; cases e
    subst hz
    have hbs : cs = [] := List.eq_nil_of_length_eq_zero (by have := h.len; omega)
    go_enter Tryz.func242, Tryz.ntmps242
    go_wp2
    go_ret
    exact ⟨none, 0, rfl, by rw [hbs]; exact World.ownsRow_nil _ _ _ _, Below.refl _ _⟩
  | some ad =>
    simp only [Option.isNone_some] at hq
    have B3 : Below w.heap.size w (w.alloc (.cells #[] 29)) := (Below.refl _ _).alloc (Nat.le_refl _) _
    have O3 : (w.alloc (.cells #[] 29)).ownsRow w.heap.size 29 10 (.slice (some ⟨w.heap.size, 0, none⟩) 0 0) 0 [] := World.ownsRow_made w #[] 0 (Nat.le_refl _) (Nat.zero_le _) rfl
    have hsrc : ∀ j u, cs[j]? = some u → (w.alloc (.cells #[] 29)).cell? (ad.add j) = some u := fun j u hj => by
      have hjl : j < cs.length := (List.getElem?_eq_some_iff.1 hj).1
      have hl := h.len
      obtain ⟨b, off, e, _, _, _, hc, _⟩ := (h.below B3).cells (by omega)
      obtain rfl : ad = ⟨b, off, none⟩ := by simpa using e
      rw [Addr.add_lit, hc j (by omega), List.getD_eq_getElem?_getD, hj]; rfl
    go_enter Tryz.func242, Tryz.ntmps242
    go_wp2_with (at_builtin; refine wpList_append_own _ rfl _ _ 76 rfl w.heap.size 29 j0 _ 10 144 Tryz.underlying76 hj0 hy0 hy1 hy2 rfl (by decide) _ 0 [] rfl O3 ad nb cb cs rfl h.len hsrc h1 (by unfold maxLen; omega) (by omega) (by simp) ?_; intro v2 w1 hown1 hg1 _)
    rw [List.nil_append, Nat.zero_add] at hown1
    have hg2 : (w.alloc (.cells #[] 29)).grownBy w1 (some w.heap.size) := hg1
    have BB := B3.trans (grown_below hg2 B3.size (fun k hk => by injection hk with hk; omega))
    obtain ⟨ra, rc, e9, _, _⟩ := owns_slice hown1
    subst e9
    have HO : Hid _ := hown1
    clear hown1 hg1 hg2
    go_wp2
    go_ret
    exact ⟨ra, rc, rfl, HO.out, BB⟩
theorem cloneM_o {o : Bool} {l u : Nat} (ab : Option Addr) (nb cb : Nat) (cs : List Value) (w : World) (h : RowAt w o l u 15 ab nb cb cs) (h1 : ∀ u ∈ cs, u.oneCell' = true) (hn : nb ≤ 1048576) :
    Calls Tryz.prog 243 #[.slice ab nb cb] w fun e w' => ∃ ra rc, e = .returned (.slice ra nb rc) ∧ w'.ownsRow w.heap.size 41 15 (.slice ra nb rc) nb cs ∧ Below w.heap.size w w' := by
  obtain ⟨j0, hj0, hy0, hy1, hy2⟩ := info_parts Tryz.infMail
  have hq : ∀ W, (binOp .eql 31 (.slice ab nb cb) (.slice none 0 0)).run Tryz.prog W = .ok (.bool ab.isNone) W := fun W => Lib.run_eql_slice_nil W _ _ ab nb cb 0 0 Tryz.underlying31
  cases ab with
  | none =>
    simp only [Option.isNone_none] at hq
    have hz : nb = 0 := Decidable.byContradiction fun hne => by obtain ⟨_, _, e, _⟩ := h.cells hne; cases e
    subst hz
    have hbs : cs = [] := List.eq_nil_of_length_eq_zero (by have := h.len; omega)
    go_enter Tryz.func243, Tryz.ntmps243
    go_wp2
    go_ret
    exact ⟨none, 0, rfl, by rw [hbs]; exact World.ownsRow_nil _ _ _ _, Below.refl _ _⟩
  | some ad =>
    simp only [Option.isNone_some] at hq
    have B3 : Below w.heap.size w (w.alloc (.cells #[] 41)) := (Below.refl _ _).alloc (Nat.le_refl _) _
    have O3 : (w.alloc (.cells #[] 41)).ownsRow w.heap.size 41 15 (.slice (some ⟨w.heap.size, 0, none⟩) 0 0) 0 [] := World.ownsRow_made w #[] 0 (Nat.le_refl _) (Nat.zero_le _) rfl
    have hsrc : ∀ j u, cs[j]? = some u → (w.alloc (.cells #[] 41)).cell? (ad.add j) = some u := fun j u hj => by
      have hjl : j < cs.length := (List.getElem?_eq_some_iff.1 hj).1
      have hl := h.len
      obtain ⟨b, off, e, _, _, _, hc, _⟩ := (h.below B3).cells (by omega)
      obtain rfl : ad = ⟨b, off, none⟩ := by simpa using e
      rw [Addr.add_lit, hc j (by omega), List.getD_eq_getElem?_getD, hj]; rfl
    go_enter Tryz.func243, Tryz.ntmps243
    go_wp2_with (at_builtin; refine wpList_append_own _ rfl _ _ 31 rfl w.heap.size 41 j0 _ 15 136 Tryz.underlying31 hj0 hy0 hy1 hy2 rfl (by decide) _ 0 [] rfl O3 ad nb cb cs rfl h.len hsrc h1 (by unfold maxLen; omega) (by omega) (by simp) ?_; intro v2 w1 hown1 hg1 _)
    rw [List.nil_append, Nat.zero_add] at hown1
    have hg2 : (w.alloc (.cells #[] 41)).grownBy w1 (some w.heap.size) := hg1
    have BB := B3.trans (grown_below hg2 B3.size (fun k hk => by injection hk with hk; omega))
    obtain ⟨ra, rc, e9, _, _⟩ := owns_slice hown1
    subst e9
    have HO : Hid _ := hown1
    clear hown1 hg1 hg2
    go_wp2
    go_ret
    exact ⟨ra, rc, rfl, HO.out, BB⟩
theorem nodes_one (xs : List Nod) : ∀ u ∈ xs.flatMap nodeK.cells, u.oneCell' = true := fun u hu => by
  obtain ⟨a, _, h⟩ := List.mem_flatMap.1 hu
  simp only [nodeK, repC, hv, List.mem_cons, List.not_mem_nil, or_false] at h
  rcases h with rfl | rfl | rfl | rfl | rfl | rfl | rfl | rfl | rfl | rfl <;> rfl
theorem mails_one (xs : List Mal) : ∀ u ∈ xs.flatMap mailK.cells, u.oneCell' = true := fun u hu => by
  obtain ⟨a, _, h⟩ := List.mem_flatMap.1 hu
  simp only [mailK, mlV, hv, List.mem_cons, List.not_mem_nil, or_false] at h
  rcases h with rfl | rfl | rfl | rfl | rfl | rfl | rfl | rfl | rfl | rfl | rfl | rfl | rfl | rfl | rfl <;> rfl
def CpyReplica (xs : List Nod) (w : World) (base : Nat) (v : Value) (n kk : Nat) : Prop := ∃ ys, GLk nodeK w base 29 v n ys kk ∧ ys.map (·.1) = xs.map (·.1) ∧ (∀ i, kk ≤ i → ys[i]? = xs[i]?) ∧ ∀ (i : Nat) (a : Nod), ys[i]? = some a → RSz a.2 1048576
theorem CpyReplica.below {xs : List Nod} {w W : World} {base n kk : Nat} {v : Value} (x : CpyReplica xs w base v n kk) (hb : Below w.heap.size w W) : CpyReplica xs W base v n kk := by
  obtain ⟨ys, G, e⟩ := x
  exact ⟨ys, G.below nodeOk hb, e⟩
theorem CpyReplica.there {xs : List Nod} {w : World} {base g n cap kk : Nat} (x : CpyReplica xs w base (.slice (some ⟨g, 0, none⟩) n cap) n kk) {i : Nat} (hi : i < n) : w.there g (i * 10) 10 := fun j hj => by
  obtain ⟨ys, G, _⟩ := x
  obtain ⟨a, g', _, e, _, _, hc, hf⟩ := G.el nodeOk hi
  simp only [Option.some.injEq, Addr.mk.injEq, and_true] at e
  subst e
  have t := hc j hj
  have hl := nodeOk.len a
  refine ⟨?_, hf _⟩
  show (w.cell? ⟨g, i * nodeK.sz + j, none⟩).isSome = true
  rw [t, List.getElem?_eq_getElem (by rw [hl]; exact hj)]; rfl
theorem CpyReplica.put {xs : List Nod} {w W : World} {base g n cap kk z u : Nat} (x : CpyReplica xs w base (.slice (some ⟨g, 0, none⟩) n cap) n kk) (hk : kk < n) {r : Rep} {h h' : RH} (ex : xs[kk]? = some (r, h)) (hb : Below w.heap.size w W) (hz : w.heap.size ≤ z) (hu : u ≤ W.heap.size) (y : nodeK.mem W true z u (r, h')) (hsz : (fun a : Nod => RSz a.2 1048576) (r, h')) :
    CpyReplica xs (W.setCells g (kk * 10) [.int .i64 r.id, .int .i64 r.size, .int .i64 r.view, .bool r.normal, .int .i64 r.last, .slice h'.L.1 h'.L.2.1 h'.L.2.2, .int .i64 r.commit, .slice h'.O.1 h'.O.2.1 h'.O.2.2, .slice h'.A.1 h'.A.2.1 h'.A.2.2, .slice h'.D.1 h'.D.2.1 h'.D.2.2]) base (.slice (some ⟨g, 0, none⟩) n cap) n (kk + 1) := by
  obtain ⟨ys, G, e1, e2, e3⟩ := x
  have ec : ys[kk]? = some (r, h) := by rw [e2 kk (Nat.le_refl _)]; exact ex
  have hg := G.own.lt g rfl
  have P := (G.below nodeOk hb).put nodeOk hk (r, h) (r, h') ec 0 [.int .i64 r.id, .int .i64 r.size, .int .i64 r.view, .bool r.normal, .int .i64 r.last, .slice h'.L.1 h'.L.2.1 h'.L.2.2, .int .i64 r.commit, .slice h'.O.1 h'.O.2.1 h'.O.2.2, .slice h'.A.1 h'.A.2.1 h'.A.2.2, .slice h'.D.1 h'.D.2.1 h'.D.2.2] (show 0 + 10 ≤ 10 by omega) (fun j hj => by rw [if_pos ⟨Nat.zero_le _, show j < 0 + 10 by have : j < 10 := hj; omega⟩, Nat.sub_zero]; rfl)
    (nodeOk.widen y (by omega) hu) (fun q hq => by have := nodeOk.inB y hq; omega) (fun j d hj ed q hq hq2 => by
      have h3 := nodeOk.inB y hq
      have h4 := (nodeOk.inB (G.each j d hj ed) hq2).2.2
      omega)
  have hxl : kk < ys.length := by rw [G.len]; exact hk
  refine ⟨ys.set kk (r, h'), P, ?_, fun i hi => by rw [List.getElem?_set_ne (by omega)]; exact e2 i (by omega), fun i a ea => ?_⟩
  · rw [← e1]
    apply List.ext_getElem?
    intro i
    rw [List.getElem?_map, List.getElem?_map]
    by_cases c : i = kk
    · subst c; rw [List.getElem?_set_self hxl, ec]; rfl
    · rw [List.getElem?_set_ne (Ne.symm c)]
  · by_cases c : i = kk
    · subst c
      rw [List.getElem?_set_self hxl] at ea
      rw [← Option.some.inj ea]; exact hsz
    · rw [List.getElem?_set_ne (Ne.symm c)] at ea; exact e3 i a ea
theorem copyNodes_o {own : Bool} {lo hi : Nat} (N : Hd) (xs : List Nod) (w : World) (x : LAt nodeK w own lo hi N.1 N.2.1 N.2.2 xs) (hn : N.2.1 ≤ 1048576) (hs : ∀ (i : Nat) (a : Nod), xs[i]? = some a → RSz a.2 1048576) :
    Calls Tryz.prog 198 #[.slice N.1 N.2.1 N.2.2] w fun e w' => ∃ (N' : Hd) (ys : List Nod), e = .returned (.slice N'.1 N'.2.1 N'.2.2) ∧ N'.2.1 = N.2.1 ∧ GrowL nodeK w' w.heap.size 29 (.slice N'.1 N'.2.1 N'.2.2) N'.2.1 ys ∧ ys.map (·.1) = xs.map (·.1) ∧ (∀ (i : Nat) (a : Nod), ys[i]? = some a → RSz a.2 1048576) ∧ Below w.heap.size w w' := by
  obtain ⟨na, n, nc⟩ := N
  simp only at hn x ⊢
  have HS : Hid _ := hs
  clear hs
  go_enter Tryz.func198, Tryz.ntmps198
  go_wp2_with fail
  refine (cloneN_o na n nc _ _ x.row (nodes_one xs) hn).mono ?_
  rintro e w1 ⟨ra, rc, rfl, O, BB⟩
  have C0 : CpyReplica xs w1 w.heap.size (.slice ra n rc) n 0 := ⟨xs, GLk.start x.len O, rfl, fun i _ => rfl, HS.out⟩
  have HC0 : Hid _ := C0
  have HB1 : Hid _ := BB
  clear O C0 BB
  go_wp2
  go_loopw [10] (fun i wr => ∃ k : Nat, k ≤ n ∧ i = .int .i64 k ∧ CpyReplica xs wr w.heap.size (.slice ra n rc) n k ∧ Below w.heap.size w wr) (fun i _ => n - (intOf i).toNat)
  case atStart => exact ⟨0, Nat.zero_le _, rfl, HC0.out, HB1.out⟩
  case round =>
    clear HC0 HB1
    obtain ⟨k, hk, rfl, C, hb⟩ := hrel
    by_cases hlt : k < n
    · have hlk : (k : Int) < (n : Int) := by omega
      obtain ⟨r, h, b', f', ex, ex', -, -, -, y, -⟩ := (x.below nodeOk hb).node hlt
      have hmk := HS.out k _ ex
      obtain ⟨ys, G, e1, e2, e3⟩ := C
      obtain ⟨a, g, ea, rfl, hg1, hg2, hc, hf⟩ := G.el nodeOk hlt
      clear ex'
      have ea2 : a = (r, h) := by rw [e2 k (Nat.le_refl _), ex] at ea; exact (Option.some.inj ea).symm
      subst ea2
      have HC : Hid (CpyReplica xs wr w.heap.size (.slice (some ⟨g, 0, none⟩) n rc) n k) := ⟨ys, G, e1, e2, e3⟩
      have c9 : wr.cell? ⟨g, k * 10, none⟩ = [.int .i64 r.id, .int .i64 r.size, .int .i64 r.view, .bool r.normal, .int .i64 r.last, .slice h.L.1 h.L.2.1 h.L.2.2, .int .i64 r.commit, .slice h.O.1 h.O.2.1 h.O.2.2, .slice h.A.1 h.A.2.1 h.A.2.2, .slice h.D.1 h.D.2.1 h.D.2.2][0]? ∧ ∀ j, j < 10 → wr.cell? ⟨g, k * 10 + j, none⟩ = [.int .i64 r.id, .int .i64 r.size, .int .i64 r.view, .bool r.normal, .int .i64 r.last, .slice h.L.1 h.L.2.1 h.L.2.2, .int .i64 r.commit, .slice h.O.1 h.O.2.1 h.O.2.2, .slice h.A.1 h.A.2.1 h.A.2.2, .slice h.D.1 h.D.2.1 h.D.2.2][j]? := ⟨hc 0 (by decide), hc⟩
      have HF : Hid _ := hf
      have HX : Hid _ := ex
      have HH : Hid _ := hb
      have hsz := hb.size
      clear G e1 e2 e3 ea hc hf ex hb
      simp only at hmk
      go_wp2_with (first | ((with_reducible refine store_midX 29 X0 0 [.int .i64 r.id, .int .i64 r.size, .int .i64 r.view, .bool r.normal, .int .i64 r.last, .slice h.L.1 h.L.2.1 h.L.2.2, .int .i64 r.commit, .slice h.O.1 h.O.2.1 h.O.2.2, .slice h.A.1 h.A.2.1 h.A.2.2, .slice h.D.1 h.D.2.1 h.D.2.2] (by simp) (by kernel_rfl) (by simp [Value.oneCell']) rfl rfl ?_); intro V1 S; replace X0 : Bx V1 b0 [.int .i64 r.id, .int .i64 r.size, .int .i64 r.view, .bool r.normal, .int .i64 r.last, .slice h.L.1 h.L.2.1 h.L.2.2, .int .i64 r.commit, .slice h.O.1 h.O.2.1 h.O.2.2, .slice h.A.1 h.A.2.1 h.A.2.2, .slice h.D.1 h.D.2.1 h.D.2.2] := S.bx; replace c0 := X0.cell; replace f0 := X0.froz; replace B := bkp B S.kept; clear S) | ((with_reducible refine alloc_newX 29 [.int .i64 0, .int .i64 0, .int .i64 0, .bool false, .int .i64 0, .slice none 0 0, .int .i64 0, .slice none 0 0, .slice none 0 0, .slice none 0 0] (fun _ => by kernel_rfl) ?_); intro b0 W0 N0; have ob0 : wr.heap.size ≤ b0 := N0.ge; have B := N0.below; have X0 := N0.bx; have c0 := X0.cell; have f0 := X0.froz; clear N0) | fail)
      clear c9
      refine (copyReplica_z r h _ (y.below B) hmk).mono ?_
      rintro e w2 ⟨z1, u1, h', rfl, Gz1, hy1, y1, s1, BB⟩
      have oz1 : wr.heap.size ≤ z1 := Nat.le_trans B.size Gz1
      have o0_z1 : b0 < z1 := ltl X0.lt Gz1
      clear Gz1
      replace X0 := X0.below BB
      replace c0 := X0.cell
      replace f0 := X0.froz
      replace B := below_next B BB
      clear BB
      have TH := (HC.out.below B).there hlt
      go_wp2_with (first | ((refine store_elP 29 TH [.int .i64 r.id, .int .i64 r.size, .int .i64 r.view, .bool r.normal, .int .i64 r.last, .slice h'.L.1 h'.L.2.1 h'.L.2.2, .int .i64 r.commit, .slice h'.O.1 h'.O.2.1 h'.O.2.2, .slice h'.A.1 h'.A.2.1 h'.A.2.2, .slice h'.D.1 h'.D.2.1 h'.D.2.2] (by simp) (by kernel_rfl) (by simp [Value.oneCell']) rfl rfl ?_); intro W5 hW5) | fail)
      have HC2 : Hid (CpyReplica xs W5 w.heap.size (.slice (some ⟨g, 0, none⟩) n rc) n (k + 1)) := by
        show CpyReplica _ _ _ _ _ _
        rw [hW5.eq]
        exact HC.out.put hlt HX.out B oz1 hy1 y1 s1
      have HB2 : Hid (Below w.heap.size w W5) := by
        show Below _ _ _
        rw [hW5.eq]
        exact (below_next HH.out B).trans ((kept_el g _ _).below _ hg1 (Nat.le_trans hsz B.size))
      clear hW5 B y1 hy1
      go_wp2
      go_roundw
      case rel => exact ⟨k + 1, by omega, by go_num, HC2.out, HB2.out⟩
      case measure => simp [intOf]; omega
    · obtain rfl : k = n := by omega
      go_wp2
      go_ret
      obtain ⟨ys, G, e1, e2, e3⟩ := C
      exact ⟨(ra, k, rc), ys, rfl, rfl, G.full, e1, e3, hb⟩
def CpyMail (xs : List Mal) (w : World) (base : Nat) (v : Value) (n kk : Nat) : Prop := ∃ ys, GLk mailK w base 41 v n ys kk ∧ ys.map (·.1) = xs.map (·.1) ∧ (∀ i, kk ≤ i → ys[i]? = xs[i]?) ∧ ∀ (i : Nat) (a : Mal), ys[i]? = some a → a.2.2.1 ≤ 1048576
theorem CpyMail.below {xs : List Mal} {w W : World} {base n kk : Nat} {v : Value} (x : CpyMail xs w base v n kk) (hb : Below w.heap.size w W) : CpyMail xs W base v n kk := by
  obtain ⟨ys, G, e⟩ := x
  exact ⟨ys, G.below mailOk hb, e⟩
theorem CpyMail.there {xs : List Mal} {w : World} {base g n cap kk : Nat} (x : CpyMail xs w base (.slice (some ⟨g, 0, none⟩) n cap) n kk) {i : Nat} (hi : i < n) : w.there g (i * 15) 15 := fun j hj => by
  obtain ⟨ys, G, _⟩ := x
  obtain ⟨a, g', _, e, _, _, hc, hf⟩ := G.el mailOk hi
  simp only [Option.some.injEq, Addr.mk.injEq, and_true] at e
  subst e
  have t := hc j hj
  have hl := mailOk.len a
  refine ⟨?_, hf _⟩
  show (w.cell? ⟨g, i * mailK.sz + j, none⟩).isSome = true
  rw [t, List.getElem?_eq_getElem (by rw [hl]; exact hj)]; rfl
theorem CpyMail.put {xs : List Mal} {w W : World} {base g n cap kk z u : Nat} (x : CpyMail xs w base (.slice (some ⟨g, 0, none⟩) n cap) n kk) (hk : kk < n) {m : Ml} {h h' : Hd} (ex : xs[kk]? = some (m, h)) (hb : Below w.heap.size w W) (hz : w.heap.size ≤ z) (hu : u ≤ W.heap.size) (y : mailK.mem W true z u (m, h')) (hsz : (fun a : Mal => a.2.2.1 ≤ 1048576) (m, h')) :
    CpyMail xs (W.setCells g (kk * 15 + 13) [.slice h'.1 h'.2.1 h'.2.2]) base (.slice (some ⟨g, 0, none⟩) n cap) n (kk + 1) := by
  obtain ⟨ys, G, e1, e2, e3⟩ := x
  have ec : ys[kk]? = some (m, h) := by rw [e2 kk (Nat.le_refl _)]; exact ex
  have hg := G.own.lt g rfl
  have P := (G.below mailOk hb).put mailOk hk (m, h) (m, h') ec 13 [.slice h'.1 h'.2.1 h'.2.2] (show 13 + 1 ≤ 15 by omega) (fun j hj => by
      have hj' : j < 15 := hj
      rcases (by omega : j = 0 ∨ j = 1 ∨ j = 2 ∨ j = 3 ∨ j = 4 ∨ j = 5 ∨ j = 6 ∨ j = 7 ∨ j = 8 ∨ j = 9 ∨ j = 10 ∨ j = 11 ∨ j = 12 ∨ j = 13 ∨ j = 14) with rfl | rfl | rfl | rfl | rfl | rfl | rfl | rfl | rfl | rfl | rfl | rfl | rfl | rfl | rfl <;> rfl)
    (mailOk.widen y (by omega) hu) (fun q hq => by have := mailOk.inB y hq; omega) (fun j d hj ed q hq hq2 => by
      have h3 := mailOk.inB y hq
      have h4 := (mailOk.inB (G.each j d hj ed) hq2).2.2
      omega)
  have hxl : kk < ys.length := by rw [G.len]; exact hk
  refine ⟨ys.set kk (m, h'), P, ?_, fun i hi => by rw [List.getElem?_set_ne (by omega)]; exact e2 i (by omega), fun i a ea => ?_⟩
  · rw [← e1]
    apply List.ext_getElem?
    intro i
    rw [List.getElem?_map, List.getElem?_map]
    by_cases c : i = kk
    · subst c; rw [List.getElem?_set_self hxl, ec]; rfl
    · rw [List.getElem?_set_ne (Ne.symm c)]
  · by_cases c : i = kk
    · subst c
      rw [List.getElem?_set_self hxl] at ea
      rw [← Option.some.inj ea]; exact hsz
    · rw [List.getElem?_set_ne (Ne.symm c)] at ea; exact e3 i a ea
theorem copyMails_o {own : Bool} {lo hi : Nat} (N : Hd) (xs : List Mal) (w : World) (x : LAt mailK w own lo hi N.1 N.2.1 N.2.2 xs) (hn : N.2.1 ≤ 1048576) (hs : ∀ (i : Nat) (a : Mal), xs[i]? = some a → a.2.2.1 ≤ 1048576) :
    Calls Tryz.prog 199 #[.slice N.1 N.2.1 N.2.2] w fun e w' => ∃ (N' : Hd) (ys : List Mal), e = .returned (.slice N'.1 N'.2.1 N'.2.2) ∧ N'.2.1 = N.2.1 ∧ GrowL mailK w' w.heap.size 41 (.slice N'.1 N'.2.1 N'.2.2) N'.2.1 ys ∧ ys.map (·.1) = xs.map (·.1) ∧ (∀ (i : Nat) (a : Mal), ys[i]? = some a → a.2.2.1 ≤ 1048576) ∧ Below w.heap.size w w' := by
  obtain ⟨na, n, nc⟩ := N
  simp only at hn x ⊢
  have HS : Hid _ := hs
  clear hs
  go_enter Tryz.func199, Tryz.ntmps199
  go_wp2_with fail
  refine (cloneM_o na n nc _ _ x.row (mails_one xs) hn).mono ?_
  rintro e w1 ⟨ra, rc, rfl, O, BB⟩
  have C0 : CpyMail xs w1 w.heap.size (.slice ra n rc) n 0 := ⟨xs, GLk.start x.len O, rfl, fun i _ => rfl, HS.out⟩
  have HC0 : Hid _ := C0
  have HB1 : Hid _ := BB
  clear O C0 BB
  go_wp2
  go_loopw [10] (fun i wr => ∃ k : Nat, k ≤ n ∧ i = .int .i64 k ∧ CpyMail xs wr w.heap.size (.slice ra n rc) n k ∧ Below w.heap.size w wr) (fun i _ => n - (intOf i).toNat)
  case atStart => exact ⟨0, Nat.zero_le _, rfl, HC0.out, HB1.out⟩
  case round =>
    clear HC0 HB1
    obtain ⟨k, hk, rfl, C, hb⟩ := hrel
    by_cases hlt : k < n
    · have hlk : (k : Int) < (n : Int) := by omega
      obtain ⟨m, h, b', f', ex, ex', -, -, -, y, -⟩ := (x.below mailOk hb).mail hlt
      have hmk := HS.out k _ ex
      obtain ⟨ys, G, e1, e2, e3⟩ := C
      obtain ⟨a, g, ea, rfl, hg1, hg2, hc, hf⟩ := G.el mailOk hlt
      clear ex'
      have ea2 : a = (m, h) := by rw [e2 k (Nat.le_refl _), ex] at ea; exact (Option.some.inj ea).symm
      subst ea2
      have HC : Hid (CpyMail xs wr w.heap.size (.slice (some ⟨g, 0, none⟩) n rc) n k) := ⟨ys, G, e1, e2, e3⟩
      have c9 : wr.cell? ⟨g, k * 15, none⟩ = [.int .i64 m.kind, .int .i64 m.fr, .int .i64 m.to, .int .i64 m.view, .int .i64 m.at_, .bool m.has, .int .i64 m.en.1, .int .i64 m.en.2.1, .int .i64 m.en.2.2.1, .int .i64 m.en.2.2.2.1, .int .i64 m.en.2.2.2.2.1, .int .i64 m.en.2.2.2.2.2, .int .i64 m.last, .slice h.1 h.2.1 h.2.2, .int .i64 m.commit][0]? ∧ ∀ j, j < 15 → wr.cell? ⟨g, k * 15 + j, none⟩ = [.int .i64 m.kind, .int .i64 m.fr, .int .i64 m.to, .int .i64 m.view, .int .i64 m.at_, .bool m.has, .int .i64 m.en.1, .int .i64 m.en.2.1, .int .i64 m.en.2.2.1, .int .i64 m.en.2.2.2.1, .int .i64 m.en.2.2.2.2.1, .int .i64 m.en.2.2.2.2.2, .int .i64 m.last, .slice h.1 h.2.1 h.2.2, .int .i64 m.commit][j]? := ⟨hc 0 (by decide), hc⟩
      have HF : Hid _ := hf
      have HX : Hid _ := ex
      have HH : Hid _ := hb
      have hsz := hb.size
      clear G e1 e2 e3 ea hc hf ex hb
      simp only at hmk
      go_wp2_with (first | ((with_reducible refine store_midX 41 X0 0 [.int .i64 m.kind, .int .i64 m.fr, .int .i64 m.to, .int .i64 m.view, .int .i64 m.at_, .bool m.has, .int .i64 m.en.1, .int .i64 m.en.2.1, .int .i64 m.en.2.2.1, .int .i64 m.en.2.2.2.1, .int .i64 m.en.2.2.2.2.1, .int .i64 m.en.2.2.2.2.2, .int .i64 m.last, .slice h.1 h.2.1 h.2.2, .int .i64 m.commit] (by simp) (by kernel_rfl) (by simp [Value.oneCell']) rfl rfl ?_); intro V1 S; replace X0 : Bx V1 b0 [.int .i64 m.kind, .int .i64 m.fr, .int .i64 m.to, .int .i64 m.view, .int .i64 m.at_, .bool m.has, .int .i64 m.en.1, .int .i64 m.en.2.1, .int .i64 m.en.2.2.1, .int .i64 m.en.2.2.2.1, .int .i64 m.en.2.2.2.2.1, .int .i64 m.en.2.2.2.2.2, .int .i64 m.last, .slice h.1 h.2.1 h.2.2, .int .i64 m.commit] := S.bx; replace c0 := X0.cell; replace f0 := X0.froz; replace B := bkp B S.kept; clear S) | ((with_reducible refine alloc_newX 41 [.int .i64 0, .int .i64 0, .int .i64 0, .int .i64 0, .int .i64 0, .bool false, .int .i64 0, .int .i64 0, .int .i64 0, .int .i64 0, .int .i64 0, .int .i64 0, .int .i64 0, .slice none 0 0, .int .i64 0] (fun _ => by kernel_rfl) ?_); intro b0 W0 N0; have ob0 : wr.heap.size ≤ b0 := N0.ge; have B := N0.below; have X0 := N0.bx; have c0 := X0.cell; have f0 := X0.froz; clear N0) | fail)
      clear c9
      refine (cloneE_z h.1 h.2.1 h.2.2 m.log _ (y.below B) hmk).mono ?_
      rintro e w2 ⟨ra', rc', z1, u1, rfl, Gz1, _, hy1, y1, BB⟩
      have oz1 : wr.heap.size ≤ z1 := Nat.le_trans B.size Gz1
      have o0_z1 : b0 < z1 := ltl X0.lt Gz1
      clear Gz1
      replace X0 := X0.below BB
      replace c0 := X0.cell
      replace f0 := X0.froz
      replace B := below_next B BB
      clear BB
      obtain ⟨tc, tf⟩ := (HC.out.below B).there hlt 13 (by decide)
      obtain ⟨tv, tc⟩ := Option.isSome_iff_exists.1 tc
      go_wp2_with (first | ((refine store_oneM 24 (b := g) (k := k * 15 + 13) tc tf (.slice ra' h.2.1 rc') (by kernel_rfl) rfl rfl rfl ?_); intro W5 hW5) | fail)
      have HC2 : Hid (CpyMail xs W5 w.heap.size (.slice (some ⟨g, 0, none⟩) n rc) n (k + 1)) := by
        show CpyMail _ _ _ _ _ _
        rw [hW5.eq]
        exact HC.out.put (h' := (ra', h.2.1, rc')) hlt HX.out B oz1 hy1 y1 hmk
      have HB2 : Hid (Below w.heap.size w W5) := by
        show Below _ _ _
        rw [hW5.eq]
        exact (below_next HH.out B).trans ((kept_el g (k * 15 + 13) [.slice ra' h.2.1 rc']).below _ hg1 (Nat.le_trans hsz B.size))
      clear hW5 B y1 hy1
      go_wp2
      go_roundw
      case rel => exact ⟨k + 1, by omega, by go_num, HC2.out, HB2.out⟩
      case measure => simp [intOf]; omega
    · obtain rfl : k = n := by omega
      go_wp2
      go_ret
      obtain ⟨ys, G, e1, e2, e3⟩ := C
      exact ⟨(ra, k, rc), ys, rfl, rfl, G.full, e1, e3, hb⟩
def fstF (f : Nat → Int) : Nat → Int
  | 0 => 0
  | k + 1 => if fstF f k = 0 then f k else fstF f k
theorem fstF_le (f : Nat → Int) {k c : Nat} (hc : fstF f k ≠ 0) (n : Nat) (hn : n = k + c) : fstF f n = fstF f k := by
  induction c generalizing n with
  | zero => rw [hn]; rfl
  | succ c ih =>
    have e := ih (k + c) rfl
    rw [hn]
    show (if fstF f (k + c) = 0 then f (k + c) else fstF f (k + c)) = _
    rw [e, if_neg hc]
theorem fstF_stop {f : Nat → Int} {k n : Nat} {d c : Int} (hd : fstF f n = d) (h0 : fstF f k = 0) (hk : k < n) (hc : f k = c) (h1 : c ≠ 0) : d = c := by
  have e : fstF f (k + 1) = c := by show (if fstF f k = 0 then f k else fstF f k) = c; rw [if_pos h0, hc]
  rw [← hd, fstF_le f (k := k + 1) (c := n - (k + 1)) (by rw [e]; exact h1) n (by omega), e]
theorem fstF_next {f : Nat → Int} {k : Nat} (h0 : fstF f k = 0) (hc : f k = 0) : fstF f (k + 1) = 0 := by show (if fstF f k = 0 then f k else fstF f k) = 0; rw [if_pos h0, hc]
theorem fstF_all {f : Nat → Int} {n : Nat} (h : fstF f n = 0) : ∀ i, i < n → f i = 0 := by
  induction n with
  | zero => intro i hi; omega
  | succ n ih =>
    have h' : (if fstF f n = 0 then f n else fstF f n) = 0 := h
    by_cases e : fstF f n = 0
    · rw [if_pos e] at h'
      intro i hi
      rcases Nat.lt_succ_iff_lt_or_eq.1 hi with q | q
      · exact ih e i q
      · rw [q]; exact h'
    · rw [if_neg e] at h'; exact absurd h' e
def nodeF (rs : List Rep) (i : Nat) : Int := if repF (rs.getD i rep0) = 0 then (if (rs.getD i rep0).id = i ∧ (rs.getD i rep0).size = rs.length then 0 else 1) else repF (rs.getD i rep0)
def mailIn (rs : List Rep) (m : Ml) : Int := if 0 ≤ m.to ∧ m.to ≤ (rs.length : Int) - 1 then mailAtF (rs.getD m.to.toNat rep0) m else 3
def nodesF (rs : List Rep) : Int := fstF (nodeF rs) rs.length
def mailsF (rs : List Rep) (ms : List Ml) : Int := fstF (fun i => mailIn rs (ms.getD i ml0)) ms.length
def cluF (rs : List Rep) (ms : List Ml) (es : List En) : Int := if (1 ≤ (rs.length : Int) ∧ (rs.length : Int) ≤ 5) ∧ ms.length ≤ 120 then (if nodesF rs = 0 then (if mailsF rs ms = 0 then logF es else mailsF rs ms) else nodesF rs) else 2
theorem nodeF_rep {rs : List Rep} {i : Nat} {r : Rep} (e : rs.getD i rep0 = r) {c : Int} (hc : repF r = c) (h : c ≠ 0) : nodeF rs i = c := by unfold nodeF; rw [e, hc, if_neg h]
theorem nodeF_form {rs : List Rep} {i : Nat} {r : Rep} (e : rs.getD i rep0 = r) (hc : repF r = 0) (h : ¬ (r.id = i ∧ r.size = rs.length)) : nodeF rs i = 1 := by unfold nodeF; rw [e, if_pos hc, if_neg h]
theorem nodeF_ok {rs : List Rep} {i : Nat} {r : Rep} (e : rs.getD i rep0 = r) (hc : repF r = 0) (h : r.id = i ∧ r.size = rs.length) : nodeF rs i = 0 := by unfold nodeF; rw [e, if_pos hc, if_pos h]
theorem nodesF_all {rs : List Rep} (h : nodesF rs = 0) (i : Nat) (hi : i < rs.length) : repF (rs.getD i rep0) = 0 ∧ (rs.getD i rep0).id = i ∧ (rs.getD i rep0).size = rs.length := by
  have e := fstF_all h i hi
  unfold nodeF at e
  by_cases q : repF (rs.getD i rep0) = 0
  · rw [if_pos q] at e
    by_cases q2 : (rs.getD i rep0).id = i ∧ (rs.getD i rep0).size = rs.length
    · exact ⟨q, q2⟩
    · rw [if_neg q2] at e; cases e
  · rw [if_neg q] at e; exact absurd e q
theorem mapD {β γ : Type} {d : β} {xs : List (β × γ)} {i : Nat} {a : β × γ} (e : xs[i]? = some a) : (xs.map (·.1)).getD i d = a.1 := by simp [List.getD, e]
theorem nodesFault_is {own : Bool} {lo hi : Nat} (N : Hd) (xs : List Nod) (w : World) (x : NAt w own lo hi N xs) (hn : N.2.1 ≤ 1048576) (hs : ∀ (i : Nat) (a : Nod), xs[i]? = some a → RSz a.2 1048576) (d : Int) (hd : nodesF (xs.map (·.1)) = d) :
    Calls Tryz.prog 240 #[.slice N.1 N.2.1 N.2.2] w fun e w' => e = .returned (.int .i64 d) ∧ Below w.heap.size w w' := by
  obtain ⟨ao, n, cap⟩ := N
  simp only at hn ⊢
  have hl : (xs.map (·.1)).length = n := by simpa using x.len
  unfold nodesF at hd
  obtain ⟨rs, hrs⟩ : ∃ rs, xs.map (·.1) = rs := ⟨_, rfl⟩
  have HR : Hid (∀ (i : Nat) (a : Nod), xs[i]? = some a → rs.getD i rep0 = a.1) := fun i a e => by rw [← hrs]; exact mapD e
  rw [hrs] at hd hl
  rw [hl] at hd
  have HL : Hid _ := hl
  have HD : Hid _ := hd
  have HS : Hid _ := hs
  have Hx : Hid (NAt w own lo hi _ xs) := x
  clear hd hs hrs hl x
  go_enter Tryz.func240, Tryz.ntmps240
  go_wp2
  go_loopw [8] (fun i wr => ∃ k : Nat, k ≤ n ∧ i = .int .i64 k ∧ Hid (fstF (nodeF rs) k = 0) ∧ Below w.heap.size w wr) (fun i _ => n - (intOf i).toNat)
  case atStart => exact ⟨0, Nat.zero_le _, rfl, rfl, Below.refl _ _⟩
  case round =>
    obtain ⟨k, hk, rfl, H0, hb⟩ := hrel
    by_cases hlt : k < n
    · have hlk : (k : Int) < (n : Int) := by omega
      obtain ⟨r, h, b, off, ex, rfl, _, _, XN, y, _⟩ := LAt.node (NAt.below Hx.out hb) hlt
      have cN := XN.cell
      have hmk := HS.out k _ ex
      have HE : Hid (rs.getD k rep0 = r) := HR.out k _ ex
      clear ex
      simp only at hmk
      obtain ⟨c, hc⟩ : ∃ c, repF r = c := ⟨_, rfl⟩
      have HC : Hid _ := hc
      clear hc
      go_wp2_with (first | ((with_reducible refine store_midX 29 X0 0 [.int .i64 r.id, .int .i64 r.size, .int .i64 r.view, .bool r.normal, .int .i64 r.last, .slice h.L.1 h.L.2.1 h.L.2.2, .int .i64 r.commit, .slice h.O.1 h.O.2.1 h.O.2.2, .slice h.A.1 h.A.2.1 h.A.2.2, .slice h.D.1 h.D.2.1 h.D.2.2] (by simp) (by kernel_rfl) (by simp [Value.oneCell']) rfl rfl ?_); intro V1 S; replace X0 : Bx V1 b0 [.int .i64 r.id, .int .i64 r.size, .int .i64 r.view, .bool r.normal, .int .i64 r.last, .slice h.L.1 h.L.2.1 h.L.2.2, .int .i64 r.commit, .slice h.O.1 h.O.2.1 h.O.2.2, .slice h.A.1 h.A.2.1 h.A.2.2, .slice h.D.1 h.D.2.1 h.D.2.2] := S.bx; replace c0 := X0.cell; replace f0 := X0.froz; replace B := bkp B S.kept; clear S) | ((with_reducible refine alloc_newX 29 [.int .i64 0, .int .i64 0, .int .i64 0, .bool false, .int .i64 0, .slice none 0 0, .int .i64 0, .slice none 0 0, .slice none 0 0, .slice none 0 0] (fun _ => by kernel_rfl) ?_); intro b0 W0 N0; have ob0 : wr.heap.size ≤ b0 := N0.ge; have B := N0.below; have X0 := N0.bx; have c0 := X0.cell; have f0 := X0.froz; clear N0) | fail)
      clear XN cN
      refine (implRF_is r h _ (y.below B) (hmk.mono (by omega)) c HC.out).mono ?_
      rintro e w1 ⟨rfl, BB⟩
      replace X0 := X0.below BB
      replace c0 := X0.cell
      replace f0 := X0.froz
      replace B := below_next B BB
      clear BB
      by_cases q0 : c = 0
      rotate_left 1
      · have q0' : (c != 0) = true := by simp [q0]
        have e := fstF_stop HD.out H0.out hlt (nodeF_rep HE.out HC.out q0) q0
        subst e
        have hbb := below_next hb B
        clear hb HD
        go_wp2
        go_ret
        exact ⟨rfl, hbb⟩
      subst q0
      by_cases q1 : r.id = k
      rotate_left 1
      · have q1' : (r.id != (k : Int)) = true := by simp [q1]
        have e := fstF_stop HD.out H0.out hlt (nodeF_form HE.out HC.out (fun z => q1 z.1)) (by decide)
        subst e
        have hbb := below_next hb B
        clear hb HD
        go_wp2
        go_ret
        exact ⟨rfl, hbb⟩
      have q1' : (r.id != (k : Int)) = false := by simp [q1]
      have Q1 : Hid _ := q1
      clear q1
      by_cases q2 : r.size = n
      rotate_left 1
      · have q2' : (r.size != (n : Int)) = true := by simp [q2]
        have e := fstF_stop HD.out H0.out hlt (nodeF_form HE.out HC.out (fun z => q2 (by rw [z.2, HL.out]))) (by decide)
        subst e
        have hbb := below_next hb B
        clear hb HD
        go_wp2
        go_ret
        exact ⟨rfl, hbb⟩
      have q2' : (r.size != (n : Int)) = false := by simp [q2]
      have Q2 : Hid _ := q2
      clear q2
      have HN : Hid (fstF (nodeF rs) (k + 1) = 0) := fstF_next H0.out (nodeF_ok HE.out HC.out ⟨Q1.out, by rw [HL.out]; exact Q2.out⟩)
      have HB : Hid _ := below_next hb B
      clear hb
      go_wp2
      go_roundw
      case rel => exact ⟨k + 1, by omega, by go_num, HN, HB.out⟩
      case measure => simp [intOf]; omega
    · obtain rfl : k = n := by omega
      have e : d = 0 := by rw [← HD.out]; exact H0.out
      subst e
      clear HD
      go_wp2
      go_ret
      exact ⟨rfl, hb⟩
end Go.Proofs.YtkpiigoakjicdaaGreat
