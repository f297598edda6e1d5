/- Chapter 11: what the model copies, in plain words. No program is named here. -/
import Derived.Test.YtclghfoinologaaGreatQAV
set_option maxRecDepth 20000
set_option maxHeartbeats 16000000
namespace Go.Proofs.YtclghfoinologaaGreat
open Go.RowKit
theorem Ro.low {w W : World} {b oz n : Nat} {vs : List Value} (h : Ro w b oz vs) (hb : Below n w W) (hn : b < n) : Ro W b oz vs :=
 ⟨Nat.lt_of_lt_of_le h.lt hb.size, by rw [World.cell?_of_block (w := w) (a := ⟨b, oz, none⟩) (hb.block b hn)];exact h.cell.1, fun k hk => by rw [World.cell?_of_block (w := w) (a := ⟨b, oz + k, none⟩) (hb.block b hn)];exact h.cell.2 k hk⟩
theorem Rm.low {w W : World} {b oz n : Nat} {vs : List Value} (h : Rm w b oz vs) (hb : Below n w W) (hn : b < n) : Rm W b oz vs :=
 ⟨Nat.lt_of_lt_of_le h.lt hb.size, by rw [World.cell?_of_block (w := w) (a := ⟨b, oz, none⟩) (hb.block b hn)];exact h.cell.1, fun k hk => by rw [World.cell?_of_block (w := w) (a := ⟨b, oz + k, none⟩) (hb.block b hn)];exact h.cell.2 k hk⟩
def CpN (rs : List Rep) (T : TypeId) (w : World) (zz : Nat) (v : Value) (k : Nat) : Prop := ∃ ys : List Nod, GrowL nodeK w zz T v k ys ∧ ys.map (·.1) = rs.take k ∧ ∀ (i : Nat) (a : Nod), ys[i]? = some a → RSz a.2 1048576
theorem CpN.below {rs : List Rep} {T : TypeId} {w w' : World} {zz k : Nat} {v : Value} (h : CpN rs T w zz v k) (hb : Below w.heap.size w w') : CpN rs T w' zz v k := by
 obtain ⟨ys, G, e⟩ := h
 exact ⟨ys, G.below nodeOk hb, e⟩
theorem CpN.kept {rs : List Rep} {T : TypeId} {w w' : World} {zz k : Nat} {v : Value} (h : CpN rs T w zz v k) {l u : Nat} (hk : Kept l u w w') (hd : u ≤ zz) : CpN rs T w' zz v k := by
 obtain ⟨ys, G, e⟩ := h
 exact ⟨ys, G.kept nodeOk hk hd, e⟩
theorem CpN.snoc {P : Program} {t T : TypeId} {i0 : TypeInfo} {z : Value} {bytes : Nat} (ht : P.underlying t = some (.slice T)) (hi0 : P.info? T = some i0) (hz0 : i0.zero = some z) (hz1 : i0.size = 10) (hz2 : i0.bytes = bytes) (hzs : z.cells.size = 10) (hby : bytes ≤ 1000) {rs : List Rep} {wr W : World} {zz b1 k : Nat} {v : Value} {r : Rep} {h : RH} {z1 u1 : Nat} (G : CpN rs T wr zz v k) (B : Below wr.heap.size wr W) (X1 : Bx W b1 (repC r h)) (R1 : RepAt W true z1 u1 h r) (hs : RSz h 1048576) (hz1' : wr.heap.size ≤ z1) (hu1 : u1 ≤ W.heap.size) (hzz : zz ≤ wr.heap.size) (hq : rs[k]? = some r) (hk : k ≤ 1000) :
  ∃ v' w', (∀ ty, (Builtin.append_ #[t, t] ty #[v, .slice (some ⟨b1, 0, none⟩) 1 1]).run P W = .ok v' w') ∧ CpN rs T w' zz v' (k + 1) ∧ Below zz W w' := by
 obtain ⟨ys, G, e, s⟩ := G
 have hsz := B.size
 have LR : RowAt W false b1 (b1 + 1) 10 (some ⟨b1, 0, none⟩) 1 1 (nodeK.cells (r, h)) := ⟨rfl, Nat.le_refl _, fun _ => ⟨b1, 0, rfl, Nat.le_refl _, Nat.lt_succ_self _, X1.lt, fun i hi => by
  have hi' : i < (repC r h).length := hi
  rw [Nat.zero_add, X1.cell i, List.getD_eq_getElem?_getD]
  show _ = some ((repC r h)[i]?.getD default)
  rw [List.getElem?_eq_getElem hi'];rfl, fun z => by cases z⟩⟩
 have inb : ∀ q', inRep h q' → z1 ≤ q' := fun q' hq' => (R1.inB hq').1
 obtain ⟨v', w', hr, G2, _, BB⟩ := GrowL.snoc (P := P) nodeOk (G.below nodeOk B) t i0 z bytes ht hi0 hz0 hz1 hz2 hzs hby ⟨b1, 0, none⟩ 1 (r, h) LR (by intro u hu;simp only [nodeK, repC, hv, List.mem_cons, List.not_mem_nil, or_false] at hu;rcases hu with rfl | rfl | rfl | rfl | rfl | rfl | rfl | rfl | rfl | rfl <;> rfl) (nodeOk.widen (a := (r, h)) R1 (by omega) hu1) (fun q' hq' ee => by
  have h1 := inb q' hq';have h2 := (G.own.lt q' ee).2
  omega) (fun i b eb q' hq' hb' => by
  have h1 := inb q' hq';have h2 := (nodeOk.inB (G.each i b eb) hb').2.2
  omega) (by omega) (by omega)
 refine ⟨v', w', hr, ⟨_, G2, ?_, fun i a ea => ?_⟩, BB⟩
 ·rw [List.map_append, e, List.take_add_one, hq];rfl
 ·rcases Nat.lt_or_ge i ys.length with p | p
  ·rw [List.getElem?_append_left p] at ea;exact s i a ea
  ·rw [List.getElem?_append_right p] at ea
   have : a ∈ [(r, h)] := List.mem_of_getElem? ea
   have e3 : a = (r, h) := by simpa using this
   rw [e3];exact hs
theorem liveAt_ofD {W : World} {T : TypeId} {base b z1 u1 z2 u2 z3 u3 : Nat} {N M S : Hd} {xs : List Nod} {ys : List Mal} {es : List En} (X : Bx W b [.slice N.1 N.2.1 N.2.2, .slice M.1 M.2.1 M.2.2, .slice S.1 S.2.1 S.2.2]) (hb : base ≤ b) (n : NAt W true z1 u1 N xs) (m : MGr W T z2 u2 M ys) (s : RowAt W true z3 u3 6 S.1 S.2.1 S.2.2 (sixs es)) (h1 : base ≤ z1) (h2 : base ≤ z2) (h3 : base ≤ z3) (g1 : u1 ≤ W.heap.size) (g3 : u3 ≤ W.heap.size) (a1 : u1 ≤ z2 ∨ u2 ≤ z1) (a2 : u1 ≤ z3 ∨ u3 ≤ z1) (a3 : u2 ≤ z3 ∨ u3 ≤ z2) (k1 : u1 ≤ b ∨ b < z1) (k2 : u2 ≤ b ∨ b < z2) (k3 : u3 ≤ b ∨ b < z3) (sz : ClSz N M S xs ys 1048576) : LiveAt W T base b N M S xs ys es := by
 refine ⟨X, hb, n.widen h1 g1, ⟨m.gr.lower mailOk h2, fun q hq => (m.inB hq).2.2⟩, s.widen h3 g3, fun q a b' => ?_, fun q a b' => ?_, fun q a b' => ?_, fun a => ?_, fun a => ?_, fun a => ?_, sz⟩
 ·have := n.inB a;have := m.inB b';omega
 ·have := n.inB a;have := s.inB b';omega
 ·have := m.inB a;have := s.inB b';omega
 ·have := n.inB a;omega
 ·have := m.inB a;omega
 ·have := s.inB a;omega
theorem MGr.none {W : World} (T : TypeId) (z u : Nat) : MGr W T z u (none, 0, 0) [] := ⟨GrowL.nil _ _ _ _, fun q hq => by
 rcases hq with h | ⟨i, a, e, _⟩
 ·cases h
 ·simp at e⟩
theorem one_row {W : World} {b1 : Nat} {a : Mal} (X1 : Bx W b1 (mailK.cells a)) : RowAt W false b1 (b1 + 1) 15 (some ⟨b1, 0, none⟩) 1 1 ([a].flatMap mailK.cells) := ⟨rfl, Nat.le_refl _, fun _ => ⟨b1, 0, rfl, Nat.le_refl _, Nat.lt_succ_self _, X1.lt, fun i hi => by
  have hi' : i < (mailK.cells a).length := hi
  have e : [a].flatMap mailK.cells = mailK.cells a := by simp
  rw [Nat.zero_add, X1.cell i, List.getD_eq_getElem?_getD, e, List.getElem?_eq_getElem hi'];rfl, fun z => by cases z⟩⟩
theorem LiveAt.keptL {W W' : World} {T : TypeId} {base b : Nat} {N M S : Hd} {xs : List Nod} {ys : List Mal} {es : List En} (x : LiveAt W T base b N M S xs ys es) {l u : Nat} (hk : Kept l u W W') (hu : u ≤ base) : LiveAt W' T base b N M S xs ys es :=
 ⟨x.bx.kept hk (Or.inr (Nat.le_trans hu x.bb)), x.bb, (x.nodes.kept hk (Or.inr hu)).widen (Nat.le_refl _) hk.size, (x.mails.kept hk (Or.inr hu)).mono hk.size, (x.slog.kept hk (Or.inr hu)).widen (Nat.le_refl _) hk.size, x.sNM, x.sNS, x.sMS, x.bN, x.bM, x.bS, x.sz⟩
theorem LiveAt.lower {W : World} {T : TypeId} {base base' b : Nat} {N M S : Hd} {xs : List Nod} {ys : List Mal} {es : List En} (x : LiveAt W T base b N M S xs ys es) (h : base' ≤ base) : LiveAt W T base' b N M S xs ys es :=
 ⟨x.bx, Nat.le_trans h x.bb, x.nodes.widen h (Nat.le_refl _), ⟨x.mails.gr.lower mailOk h, x.mails.lt⟩, x.slog.widen h (Nat.le_refl _), x.sNM, x.sNS, x.sMS, x.bN, x.bM, x.bS, x.sz⟩
theorem LiveAt.one {P : Program} {Wc W : World} {T : TypeId} {base b : Nat} {N M S : Hd} {xs : List Nod} {ys : List Mal} {es : List En} (x : LiveAt Wc T base b N M S xs ys es) (B : Below Wc.heap.size Wc W) (hbw : base ≤ Wc.heap.size) (t : TypeId) (i0 : TypeInfo) (z : Value) (bytes : Nat) (ht : P.underlying t = some (.slice T)) (hi0 : P.info? T = some i0) (hz0 : i0.zero = some z) (hz1 : i0.size = 15) (hz2 : i0.bytes = bytes) (hzs : z.cells.size = 15) (hby : bytes ≤ 1000)
  {b1 z1 u1 : Nat} {m : Ml} {h : Hd} (X1 : Bx W b1 (mailK.cells (m, h))) (R1 : RowAt W true z1 u1 6 h.1 h.2.1 h.2.2 (sixs m.log)) (hz : Wc.heap.size ≤ z1) (hu : u1 ≤ W.heap.size) (hn : ys.length ≤ 120) (hs : h.2.1 ≤ 1048576) :
  ∃ (M' : Hd) (W2 : World), (∀ ty, (Builtin.append_ #[t, t] ty #[.slice M.1 M.2.1 M.2.2, .slice (some ⟨b1, 0, none⟩) 1 1]).run P W = .ok (.slice M'.1 M'.2.1 M'.2.2) W2) ∧ Below base W W2 ∧ (∀ W3, PutX W2 W3 b [.slice N.1 N.2.1 N.2.2, .slice M'.1 M'.2.1 M'.2.2, .slice S.1 S.2.1 S.2.2] → LiveAt W3 T base b N M' S xs (ys ++ [(m, h)]) es) ∧ Bx W2 b [.slice N.1 N.2.1 N.2.2, .slice M.1 M.2.1 M.2.2, .slice S.1 S.2.1 S.2.2] := by
 have hl : ys.length = M.2.1 := x.mails.gr.len
 have one : ∀ {i : Nat} {a : Mal}, ([(m, h)] : List Mal)[i]? = some a → i = 0 ∧ a = (m, h) := fun {i a} e => by
  have h1 := (List.getElem?_eq_some_iff.1 e).1
  have : i = 0 := by simpa using h1
  subst this
  simp at e
  exact ⟨rfl, e.symm⟩
 obtain ⟨M', W2, hr, KS, hL, X⟩ := (x.below B).app (P := P) (Nat.le_trans hbw B.size) t i0 z bytes ht hi0 hz0 hz1 hz2 hzs hby (some ⟨b1, 0, none⟩) 1 1 [(m, h)] (one_row X1) rfl (fun i a e => by
   obtain ⟨-, rfl⟩ := one e
   exact RowAt.widen R1 (Nat.le_trans hbw hz) hu) (fun i a e k hk => by
   obtain ⟨-, rfl⟩ := one e
   have h1 := (R1.inB hk).1
   refine ⟨fun c => ?_, fun c => ?_, fun c => ?_, fun c => ?_⟩
   ·have := (x.nodes.inB c).2.2;omega
   ·have := (x.mails.inB c).2.2;omega
   ·have := (x.slog.inB c).2.2;omega
   ·have := x.bx.lt;omega) (fun i j a c e1 e2 ne => by
   obtain ⟨rfl, -⟩ := one e1
   obtain ⟨rfl, -⟩ := one e2
   exact absurd rfl ne) (by omega) (fun i a e => by obtain ⟨-, rfl⟩ := one e;exact hs)
 refine ⟨M', W2, hr, KS.low _ (fun k hk => (x.mails.gr.own.lt k hk).1) (Nat.le_trans hbw B.size), hL, X⟩
end Go.Proofs.YtclghfoinologaaGreat
