/- Chapter 9: a node that asks for a view; how many ask; the others. -/
import Derived.Test.YtclghfoinologaaGreatQAU
set_option maxRecDepth 20000
set_option maxHeartbeats 16000000
namespace Go.Proofs.YtclghfoinologaaGreat
open Go.RowKit
def othL (i : Nat) : Nat → List Int
 | 0 => []
 | k + 1 => if k = i then othL i k else othL i k ++ [(k : Int)]
def putM (m : Ml) (fr tgt view : Int) : Ml := ⟨m.kind, fr, tgt, view, m.at_, m.has, m.en, m.last, m.log, m.commit⟩
theorem step_litX {P : Program} {ops : Array Oper} {dst : Option Tmp} {type : TypeId} {pos : String} {after : Array Edge} {a : Act} {w : World} {K : Act → World → Prop} {Q : Exit → Act → World → Prop} {E : Prop} (t : TypeId) (n : Nat) (parts : Array (Nat × Operand)) (cs : List Value) (T : TypeId) (hb : ∀ w : World, (Instr.buildSlice t n (parts.map fun (i, x) => (i, a.eval x))).run P w = .ok (.slice (some ⟨w.heap.size, 0, none⟩) n n) (w.alloc (.cells cs.toArray T)))
  (h : ∀ (b : Nat) (W : World), NewX w W b cs → K (a.put dst (.slice (some ⟨b, 0, none⟩) n n)) W) : if Region.wanted ⟨dst, .buildSlice t n parts, type, pos, after, none⟩ (yielded ops a.tmps) = true then Oper.wp P ⟨dst, .buildSlice t n parts, type, pos, after, none⟩ a w K Q else E := by
 have hw : Region.wanted ⟨dst, .buildSlice t n parts, type, pos, after, none⟩ (yielded ops a.tmps) = true := by simp [Region.wanted]
 rw [if_pos hw]
 have hK2 := h _ _ (by simpa using newX_mk w cs.toArray T)
 have hb' : (Instr.buildSlice t n (Array.map (fun x => (x.fst, a.eval x.snd)) parts)).run P w = _ := hb w
 unfold Oper.wp execOp;simp only [Sem.run_bind, Sem.run_pure, Result.andThen_ok, hb'];exact hK2
theorem RowAt.pre {w : World} {own : Bool} {lo hi size : Nat} {ao : Option Addr} {n cap : Nat} {cs : List Value} (h : RowAt w own lo hi size ao n cap cs) {k : Nat} (hk : k ≤ n) : RowAt w own lo hi size ao k cap (cs.take (k * size)) := by
 have hl := h.len
 have hks : k * size ≤ n * size := Nat.mul_le_mul_right _ hk
 refine ⟨by rw [List.length_take];omega, Nat.le_trans hk h.le, fun h0 => ?_⟩
 obtain ⟨b, off, rfl, h1, h2, h3, h4, h5⟩ := h.cells (by omega)
 refine ⟨b, off, rfl, h1, h2, h3, fun i hi => ?_, fun ho i hi => h5 ho i (by omega)⟩
 rw [h4 i (by omega), List.getD_eq_getElem?_getD, List.getD_eq_getElem?_getD, List.getElem?_take_of_lt hi]
section
variable {W W2 W3 : World} {T : TypeId} {base b : Nat} {N M S : Hd} {xs : List Nod} {ys : List Mal} {es : List En}
theorem KeptS.one {W W' : World} {b : Nat} (h : Kept b (b + 1) W W') : KeptS (fun q => q = b) W W' := h.toS fun k h1 h2 => by omega
theorem LiveAt.app {P : Program} (x : LiveAt W T base b N M S xs ys es) (hbw : base ≤ W.heap.size) (t : TypeId) (i0 : TypeInfo) (z : Value) (bytes : Nat) (ht : P.underlying t = some (.slice T)) (hi0 : P.info? T = some i0) (hz0 : i0.zero = some z) (hz1 : i0.size = 15) (hz2 : i0.bytes = bytes) (hzs : z.cells.size = 15) (hby : bytes ≤ 1000)
  {ow : Bool} {l u : Nat} (ao : Option Addr) (m c : Nat) (zs : List Mal) (hrow : RowAt W ow l u 15 ao m c (zs.flatMap mailK.cells)) (hzl : zs.length = m) (hm : ∀ (i : Nat) (a : Mal), zs[i]? = some a → mailK.mem W true base W.heap.size a) (hap : ∀ (i : Nat) (a : Mal), zs[i]? = some a → ∀ k, mailK.inn a k → ¬ inL nodeK N.1 N.2.1 xs k ∧ ¬ inV M ys k ∧ ¬ hR S k ∧ k ≠ b) (hsep2 : ∀ (i j : Nat) (a c : Mal), zs[i]? = some a → zs[j]? = some c → i ≠ j → Sep (mailK.inn a) (mailK.inn c)) (hn : M.2.1 + m ≤ 1000000) (hsz : ∀ (i : Nat) (a : Mal), zs[i]? = some a → a.2.2.1 ≤ 1048576) :
  ∃ (M' : Hd) (W2 : World), (∀ ty, (Builtin.append_ #[t, t] ty #[.slice M.1 M.2.1 M.2.2, .slice ao m c]).run P W = .ok (.slice M'.1 M'.2.1 M'.2.2) W2) ∧ KeptS (fun q => (hv M).ownBlock = some q) W W2 ∧ (∀ W3, PutX W2 W3 b [.slice N.1 N.2.1 N.2.2, .slice M'.1 M'.2.1 M'.2.2, .slice S.1 S.2.1 S.2.2] → LiveAt W3 T base b N M' S xs (ys ++ zs) es) ∧ Bx W2 b [.slice N.1 N.2.1 N.2.2, .slice M.1 M.2.1 M.2.2, .slice S.1 S.2.1 S.2.2] := by
 have hone : ∀ a ∈ zs, ∀ u ∈ mailK.cells a, u.oneCell' = true := fun a _ u h => by
  simp only [mailK, mlV, hv, List.mem_cons, List.not_mem_nil, or_false] at h
  rcases h with rfl | rfl | rfl | rfl | rfl | rfl | rfl | rfl | rfl | rfl | rfl | rfl | rfl | rfl | rfl <;> rfl
 obtain ⟨v', W2, hr, G, KS, BL, hat⟩ := x.mails.gr.app (P := P) mailOk t i0 z bytes ht hi0 hz0 hz1 hz2 hzs hby ao m c zs hrow hzl hone hm (fun i a e q hq hv' => (hap i a e q hq).2.1 (Or.inl hv')) (fun i j a d e1 e2 q h1 h2 => (hap j d e2 q h2).2.1 (Or.inr ⟨i, a, e1, h1⟩)) hsep2 hn hbw
 obtain ⟨ma, mc, ev, _, _⟩ := owns_slice G.own
 subst ev
 have hX := x.bx.keptS KS fun e => x.bM (Or.inl e)
 have hsz2 := KS.size
 refine ⟨(ma, M.2.1 + m, mc), W2, hr, KS, fun W3 Pt => ?_, hX⟩
 have K3 := KeptS.one Pt.kept;have hs3 := Pt.kept.size
 have own' : ∀ q, (hv (ma, M.2.1 + m, mc)).ownBlock = some q → (hv M).ownBlock = some q ∨ q = W.heap.size := fun q hq => by
  rcases hat with e | e
  ·exact Or.inl (e ▸ hq)
  ·exact Or.inr (Option.some.inj (e ▸ hq)).symm
 have inM : ∀ q, inV (ma, M.2.1 + m, mc) (ys ++ zs) q → inV M ys q ∨ q = W.heap.size ∨ ∃ (i : Nat) (a : Mal), zs[i]? = some a ∧ mailK.inn a q := fun q hq => by
  rcases hq with h | ⟨i, a, e, h⟩
  ·rcases own' q h with c1 | c1
   ·exact Or.inl (Or.inl c1)
   ·exact Or.inr (Or.inl c1)
  ·rcases Nat.lt_or_ge i ys.length with p | p
   ·rw [List.getElem?_append_left p] at e;exact Or.inl (Or.inr ⟨i, a, e, h⟩)
   ·rw [List.getElem?_append_right p] at e;exact Or.inr (Or.inr ⟨_, a, e, h⟩)
 have bM' : ¬ inV (ma, M.2.1 + m, mc) (ys ++ zs) b := fun h => by
  rcases inM b h with c1 | c1 | ⟨i, a, e, c1⟩
  ·exact x.bM c1
  ·have := x.bx.lt;omega
  ·exact (hap i a e b c1).2.2.2 rfl
 have MG : MGr W2 T base W2.heap.size (ma, M.2.1 + m, mc) (ys ++ zs) := ⟨G, fun q hq => by
  rcases hq with h | ⟨i, a, e, h⟩
  ·exact (G.own.lt q h).2
  ·exact (mailOk.inB (G.each i a e) h).2.2⟩
 have N2 : NAt W2 true base W2.heap.size N xs := (LAt.keptS nodeOk x.nodes KS fun q hq e => x.sNM q hq (Or.inl e)).widen nodeOk (Nat.le_refl _) hsz2
 have S2 : RowAt W2 true base W2.heap.size 6 S.1 S.2.1 S.2.2 (sixs es) := (x.slog.keptR KS fun q hq e => x.sMS q (Or.inl e) hq).widen (Nat.le_refl _) hsz2
 refine ⟨Pt.bx, x.bb, (LAt.keptS nodeOk N2 K3 fun q hq e => x.bN (e ▸ hq)).widen nodeOk (Nat.le_refl _) hs3, (MG.keptS K3 fun q hq e => bM' (e ▸ hq)).mono hs3, (S2.keptR K3 fun q hq e => x.bS (e ▸ hq)).widen (Nat.le_refl _) hs3, fun q a d => ?_, x.sNS, fun q a d => ?_, x.bN, bM', x.bS, ⟨x.sz.n, by show M.2.1 + m ≤ 1048576;omega, x.sz.s, x.sz.nodes, fun i a e => ?_⟩⟩
 ·rcases inM q d with c1 | c1 | ⟨i, e, e2, c1⟩
  ·exact x.sNM q a c1
  ·have := x.nodes.inB a;omega
  ·exact (hap i e e2 q c1).1 a
 ·rcases inM q a with c1 | c1 | ⟨i, e, e2, c1⟩
  ·exact x.sMS q c1 d
  ·have := x.slog.inB d;omega
  ·exact (hap i e e2 q c1).2.2.1 d
 ·rcases Nat.lt_or_ge i ys.length with p | p
  ·rw [List.getElem?_append_left p] at e;exact x.sz.mails i a e
  ·rw [List.getElem?_append_right p] at e;exact hsz _ a e
end
def telB (r : Rep) (k : Nat) : Prop := (k : Int) = r.id ∨ r.normal = false ∧ (r.doers.getD k dr0).1 = true
instance (r : Rep) (k : Nat) : Decidable (telB r k) := inferInstanceAs (Decidable (_ ∨ _))
structure Rows3 (w : World) (base : Nat) (v1 v2 v3 : Value) (n1 n2 n3 : Nat) (c1 c2 c3 : List Value) : Prop where
 a : w.ownsRow base 2 1 v1 n1 c1
 b : w.ownsRow base 2 1 v2 n2 c2
 c : w.ownsRow base 34 1 v3 n3 c3
 ab : ∀ g, v1.ownBlock = some g → v2.ownBlock ≠ some g
 ac : ∀ g, v1.ownBlock = some g → v3.ownBlock ≠ some g
 bc : ∀ g, v2.ownBlock = some g → v3.ownBlock ≠ some g
section
variable {w w' : World} {base b1 : Nat} {v1 v2 v3 : Value} {n1 n2 n3 : Nat} {c1 c2 c3 : List Value}
end
section
variable {W : World} {g p : Nat} {ac : Option Addr} {nc cc : Nat} {bs : List Nat}
end
section
variable {W : World} {g p : Nat} {ac : Option Addr} {nc cc : Nat} {bs : List Nat}
end
structure AD (W : World) (zz ka kd : Nat) (s t : Hd) (asks : List Bool) (ds : List Dr) (K : Nat → Hd) : Prop where
 oa : W.ownsRow zz 4 1 (.slice s.1 s.2.1 s.2.2) ka (bls asks)
 od : GrowAt 4 W zz 136 (.slice t.1 t.2.1 t.2.2) kd (drF K ds) K (drL ds)
 len : ds.length = kd
 small : ∀ i, i < kd → (K i).2.1 ≤ 8
 sep1 : ∀ x, (Value.slice s.1 s.2.1 s.2.2).ownBlock = some x → (Value.slice t.1 t.2.1 t.2.2).ownBlock ≠ some x
 sep2 : ∀ i, i < kd → (K i).2.1 ≠ 0 → (Value.slice s.1 s.2.1 s.2.2).ownBlock ≠ some (sb (K i).1)
section
variable {W W' : World} {zz ka kd : Nat} {s t : Hd} {asks : List Bool} {ds : List Dr} {K : Nat → Hd}
end
structure PutM (w W : World) (b k : Nat) (v : Value) : Prop where
 eq : W = w.setCell ⟨b, k, none⟩ v
theorem store_oneM {P : Program} {ops : Array Oper} {rest : List Oper} {dst : Option Tmp} {type : TypeId} {pos : String} {after : Array Edge} {a : Act} {w : World} {Q : Exit → Act → World → Prop} (ty : TypeId) {x y : Operand} {b k : Nat} {u : Value} (hc : w.cell? ⟨b, k, none⟩ = some u) (hf : w.frozen? ⟨b, k, none⟩ = false) (v : Value) (hi : (P.info? ty).map (·.size) = some 1) (hv : v.oneCell' = true) (hx : a.eval x = .pointer (some ⟨b, k, none⟩)) (hy : a.eval y = v)
  (h : ∀ W : World, PutM w W b k v → wpList P ops Q rest (a.put dst undef) W) : wpList P ops Q (⟨dst, .store ty x y, type, pos, after, none⟩ :: rest) a w := by
 refine wpList_plain rfl fun K hK => ?_
 have hK2 := hK _ _ (h _ ⟨rfl⟩);unfold Oper.wp execOp;simp only [hx, hy, Instr.storeAt, Instr.sureAddr, Sem.run_bind, Sem.run_pure, Result.andThen_ok, run_storeVar_oneC hc hf ty v hv hi];exact hK2
end Go.Proofs.YtclghfoinologaaGreat
