/- Chapter 9: lists that are drawn. -/
import Derived.Test.YtonclmbihhdkpaaGreatQAF
import Derived.Test.YtonclmbihhdkpaaGreatQAB
import Derived.Test.YtonclmbihhdkpaaGreatQAP
import Derived.Test.YtonclmbihhdkpaaGreatXJ
import Derived.Deep.DeepCutAuto
set_option maxRecDepth 20000
set_option maxHeartbeats 16000000
namespace Go.Proofs.YtonclmbihhdkpaaGreat
open Go.RowKit
theorem pick_in {W : World} {g p : Nat} {ac : Option Addr} {nc cc : Nat} {bs : List Nat} (h : SB W g p ac nc cc bs) (n : Nat) (hn0 : 0 < n) (hn : n ≤ 200) (hp : p ≤ 100000) {o2 : Bool} {l2 u2 : Nat} (al : Option Addr) (cl : Nat) (zs : List Int) (hl : RowAt W o2 l2 u2 1 al n cl (ints zs)) (hd2 : u2 ≤ g ∨ g < l2) :
  Calls Tryz.prog 122 #[.pointer (some ⟨g, 0, none⟩), .slice al n cl] W fun e w' => ∃ i : Nat, i < n ∧ e = .returned (.int .i64 (zs.getD i 0)) ∧ SB w' g (p + 1) ac nc cc bs ∧ Kept g (g + 1) W w' ∧ w'.heap.size = W.heap.size := by
 go_enter Tryz.func122, Tryz.ntmps122
 go_wp2_with fail
 refine (next_sb h n rfl hn0 hn hp).mono ?_
 rintro e w1 ⟨v, hv, rfl, h1, h2, h3⟩
 obtain ⟨b, off, rfl, _, _, _, c1, _⟩ := (hl.kept h2 (by omega)).int hv
 have hv2 : (v : Int) < n := by omega
 go_wp2
 go_ret
 exact ⟨v, hv, rfl, h1, h2, h3⟩
theorem bx_row {W : World} {b n : Nat} {cs : List Value} (X : Bx W b cs) (hl : cs.length = n) : RowAt W true b (b + 1) 1 (some ⟨b, 0, none⟩) n n cs :=
 ⟨by omega, Nat.le_refl _, fun _ => ⟨b, 0, rfl, Nat.le_refl _, Nat.lt_succ_self _, X.lt, fun i hi => by rw [Nat.zero_add, X.cell i, List.getD_eq_getElem?_getD, List.getElem?_eq_getElem (by omega)]; rfl, fun _ i _ => by rw [Nat.zero_add]; exact X.froz i⟩⟩
theorem row_lo {w : World} {own : Bool} {lo hi size : Nat} {ao : Option Addr} {n cap : Nat} {cs : List Value} (R : RowAt w own lo hi size ao n cap cs) {lo' : Nat} (h : n ≠ 0 → lo' ≤ sb ao) : RowAt w own lo' hi size ao n cap cs := by
 refine ⟨R.len, R.le, fun hn => ?_⟩
 obtain ⟨b, off, e, h1, h2⟩ := R.cells hn
 have := h hn
 rw [e] at this
 exact ⟨b, off, e, this, h2⟩
def RepDrawn (w w' : World) (e : Ending) (g p q : Nat) (ac : Option Addr) (nc cc : Nat) (bs : List Nat) : Prop := ∃ (r : Rep) (hh : RH) (p' : Nat), e = .returned (.agg #[.int .i64 r.id, .int .i64 r.size, .int .i64 r.view, .bool r.normal, .int .i64 r.last, .slice hh.L.1 hh.L.2.1 hh.L.2.2, .int .i64 r.commit, .slice hh.O.1 hh.O.2.1 hh.O.2.2, .slice hh.A.1 hh.A.2.1 hh.A.2.2, .slice hh.D.1 hh.D.2.1 hh.D.2.2]) ∧ RepAt w' true w.heap.size w'.heap.size hh r ∧ RSz hh 1000 ∧ w'.ownsRow w.heap.size 2 1 (.slice hh.O.1 hh.O.2.1 hh.O.2.2) hh.O.2.1 (ints r.oks) ∧ (hh.O.2.1 ≠ 0 ∨ hh.O = (none, 0, 0)) ∧ p' ≤ p + q ∧ SB w' g p' ac nc cc bs ∧ Kept g (g + 1) w w'
theorem GrowAt.keptS {sz : Nat} {w w' : World} {base : Nat} {T : TypeId} {v : Value} {n : Nat} {F : Nat → Nat → Value} {K : Nat → Hd} {L : Nat → List En} (h : GrowAt sz w base T v n F K L) {S : Nat → Prop} (hk : KeptS S w w') (h1 : ∀ x, v.ownBlock = some x → ¬ S x) (h2 : ∀ i, i < n → (K i).2.1 ≠ 0 → ¬ S (sb (K i).1)) : GrowAt sz w' base T v n F K L :=
 ⟨owns_keptS h.own hk h1, fun i hi => ((h.logs i hi).keptR hk (fun k q => by obtain ⟨q1, q2⟩ := q; rw [q2]; exact h2 i hi q1)).widen (Nat.le_refl _) hk.size, h.sep⟩
theorem bls_snoc (xs : List Bool) (y : Bool) : bls (xs ++ [y]) = bls xs ++ [.bool y] := by simp [bls]
theorem doer_snoc {W : World} {base b1 : Nat} {v : Value} {K : Nat → Hd} {ds : List Dr} {d : Dr} {hd : Hd} (G : GrowAt 4 W base 158 v ds.length (drF K ds) K (drL ds)) (X1 : Bx W b1 [.bool d.1, .int .i64 d.2.1, .slice hd.1 hd.2.1 hd.2.2, .int .i64 d.2.2.2]) (R : RowAt W true base W.heap.size 6 hd.1 hd.2.1 hd.2.2 (sixs d.2.2.1)) (hsep : hd.2.1 ≠ 0 → v.ownBlock ≠ some (sb hd.1) ∧ ∀ j, j < ds.length → (K j).2.1 ≠ 0 → sb (K j).1 ≠ sb hd.1) (hbase : base ≤ W.heap.size) (hn : ds.length ≤ 1000) :
  ∃ v' w', (∀ ty, (Builtin.append_ #[27, 27] ty #[v, .slice (some ⟨b1, 0, none⟩) 1 1]).run Tryz.prog W = .ok v' w') ∧ GrowAt 4 w' base 158 v' (ds.length + 1) (drF (fun j => if j = ds.length then hd else K j) (ds ++ [d])) (fun j => if j = ds.length then hd else K j) (drL (ds ++ [d])) ∧ KeptS (fun k => v.ownBlock = some k) W w' ∧ (v'.ownBlock = v.ownBlock ∨ v'.ownBlock = some W.heap.size) := by
 obtain ⟨i2, hi2, ha2, hb2, hc2⟩ := info_parts Tryz.infoDoer
 obtain ⟨K2, hK2⟩ : ∃ K2 : Nat → Hd, K2 = fun j => if j = ds.length then hd else K j := ⟨_, rfl⟩
 have e1K : K2 ds.length = hd := by rw [hK2]; simp
 have e2K : ∀ j, j < ds.length → K2 j = K j := fun j hj => by rw [hK2]; simp [Nat.ne_of_lt hj]
 have eo : ∀ i, i < ds.length → (ds ++ [d]).getD i dr0 = ds.getD i dr0 := fun i hi => by simp [List.getD, List.getElem?_append_left hi]
 have en : (ds ++ [d]).getD ds.length dr0 = d := by simp [List.getD]
 have LR : RowAt W false b1 (b1 + 1) 4 (some ⟨b1, 0, none⟩) 1 1 [.bool d.1, .int .i64 d.2.1, .slice hd.1 hd.2.1 hd.2.2, .int .i64 d.2.2.2] := ⟨by simp, Nat.le_refl _, fun _ => ⟨b1, 0, rfl, Nat.le_refl _, Nat.lt_succ_self _, X1.lt, fun i hi => by rw [Nat.zero_add, X1.cell i, List.getD_eq_getElem?_getD, List.getElem?_eq_getElem (by simpa using hi)]; rfl, fun z => by cases z⟩⟩
 have ND : (List.range 4).map (drF K2 (ds ++ [d]) ds.length) = [.bool d.1, .int .i64 d.2.1, .slice hd.1 hd.2.1 hd.2.2, .int .i64 d.2.2.2] := by
  have : (List.range 4).map (drF K2 (ds ++ [d]) ds.length) = [.bool ((ds ++ [d]).getD ds.length dr0).1, .int .i64 ((ds ++ [d]).getD ds.length dr0).2.1, hv (K2 ds.length), .int .i64 ((ds ++ [d]).getD ds.length dr0).2.2.2] := rfl
  rw [this, en, e1K]; rfl
 obtain ⟨v', w', hr, G2, KS, BB⟩ := GrowAt.snoc (P := Tryz.prog) G 27 i2 (.agg #[.bool false, .int .i64 0, .slice none 0 0, .int .i64 0]) 48 Tryz.underlying27 hi2 ha2 hb2 hc2 rfl (by omega) (by omega) ⟨b1, 0, none⟩ 1 _ LR (by simp [Value.oneCell']) (drF K2 (ds ++ [d])) K2 (drL (ds ++ [d])) (fun i j hi _ => by unfold drF; rw [eo i hi, e2K i hi]) ND e2K (fun i hi => by unfold drL; rw [eo i hi]) (by rw [e1K]; unfold drL; rw [en]; exact R) (fun h0 => by rw [e1K] at h0 ⊢; exact hsep h0) (by omega) hbase
 have hsrc : ∀ j u, [Value.bool d.1, .int .i64 d.2.1, .slice hd.1 hd.2.1 hd.2.2, .int .i64 d.2.2.2][j]? = some u → W.cell? ((⟨b1, 0, none⟩ : Addr).add j) = some u := fun j u hj => by rw [Addr.add_lit, Nat.zero_add, X1.cell j]; exact hj
 obtain ⟨v2, w2, hr2, _, _, _, hat⟩ := run_append_own_at (P := Tryz.prog) W base 27 158 158 i2 (.agg #[.bool false, .int .i64 0, .slice none 0 0, .int .i64 0]) 4 48 Tryz.underlying27 hi2 ha2 hb2 hc2 rfl (by omega) v ds.length _ G.own ⟨b1, 0, none⟩ 1 1 _ (by simp) hsrc (by simp [Value.oneCell']) (by unfold maxLen; omega) (by omega) hbase
 have e := hr 158
 rw [hr2] at e
 injection e with e1 e2
 refine ⟨v', w', hr, ?_, KS, by rw [← e1]; exact hat⟩
 rw [← hK2]; exact G2
structure AD (W : World) (zz ka kd : Nat) (s t : Hd) (asks : List Bool) (ds : List Dr) (K : Nat → Hd) : Prop where
 oa : W.ownsRow zz 4 1 (.slice s.1 s.2.1 s.2.2) ka (bls asks)
 od : GrowAt 4 W zz 158 (.slice t.1 t.2.1 t.2.2) kd (drF K ds) K (drL ds)
 len : ds.length = kd
 small : ∀ i, i < kd → (K i).2.1 ≤ 8
 sep1 : ∀ x, (Value.slice s.1 s.2.1 s.2.2).ownBlock = some x → (Value.slice t.1 t.2.1 t.2.2).ownBlock ≠ some x
 sep2 : ∀ i, i < kd → (K i).2.1 ≠ 0 → (Value.slice s.1 s.2.1 s.2.2).ownBlock ≠ some (sb (K i).1)
section
variable {W W' : World} {zz ka kd : Nat} {s t : Hd} {asks : List Bool} {ds : List Dr} {K : Nat → Hd}
theorem AD.nil (W : World) (zz : Nat) (K : Nat → Hd) : AD W zz 0 0 (none, 0, 0) (none, 0, 0) [] [] K :=
 ⟨World.ownsRow_nil _ _ _ _, GrowAt.nil _ _ _ _ _ _ _, rfl, fun i hi => absurd hi (Nat.not_lt_zero _), fun x e => (by cases e), fun i hi => absurd hi (Nat.not_lt_zero _)⟩
theorem AD.below (h : AD W zz ka kd s t asks ds K) (hb : Below W.heap.size W W') : AD W' zz ka kd s t asks ds K := ⟨owns_below h.oa hb, h.od.below hb, h.len, h.small, h.sep1, h.sep2⟩
theorem AD.kept (h : AD W zz ka kd s t asks ds K) {l u : Nat} (hk : Kept l u W W') (hd : u ≤ zz) : AD W' zz ka kd s t asks ds K := ⟨owns_kept h.oa hk fun x e => Or.inr (Nat.le_trans hd (World.ownsRow.lt h.oa x e).1), h.od.kept hk hd, h.len, h.small, h.sep1, h.sep2⟩
theorem AD.ask (h : AD W zz ka kd s t asks ds K) {b1 : Nat} (y : Bool) (X : Bx W b1 [.bool y]) (hn : ka ≤ 1000) (hz : zz ≤ W.heap.size) :
  ∃ (s' : Hd) (w' : World), (∀ ty, (Builtin.append_ #[26, 26] ty #[.slice s.1 s.2.1 s.2.2, .slice (some ⟨b1, 0, none⟩) 1 1]).run Tryz.prog W = .ok (.slice s'.1 s'.2.1 s'.2.2) w') ∧ AD w' zz (ka + 1) kd s' t (asks ++ [y]) ds K ∧ Below zz W w' := by
 obtain ⟨i4, hi4, ha4, hb4, hc4⟩ := info_parts Tryz.info4'
 obtain ⟨v', w', hr, ho, KS, hat⟩ := own_snoc h.oa 26 i4 (.bool false) 1 Tryz.underlying26 hi4 ha4 hb4 hc4 rfl (by omega) (.bool y) rfl X hn hz
 obtain ⟨sa, sc, e9, _, _⟩ := owns_slice ho
 subst e9
 have hlog : ∀ i, i < kd → (K i).2.1 ≠ 0 → sb (K i).1 < W.heap.size := fun i hi h0 => ((h.od.logs i hi).inB (k := sb (K i).1) ⟨h0, rfl⟩).2.2
 refine ⟨(sa, ka + 1, sc), w', hr, ⟨by rw [bls_snoc]; exact ho, h.od.keptS KS (fun x e1 e2 => h.sep1 x e2 e1) (fun i hi h0 e2 => h.sep2 i hi h0 e2), h.len, h.small, fun x e1 e2 => ?_, fun i hi h0 e1 => ?_⟩, KS.low zz (fun x e => (World.ownsRow.lt h.oa x e).1) hz⟩
 ·rcases hat with z | z
  ·exact h.sep1 x (z ▸ e1) e2
  ·rw [z] at e1
   have := (World.ownsRow.lt h.od.own x e2).2
   have e3 : W.heap.size = x := Option.some.inj e1
   omega
 ·rcases hat with z | z
  ·exact h.sep2 i hi h0 (z ▸ e1)
  ·rw [z] at e1
   have := hlog i hi h0
   have e3 : W.heap.size = sb (K i).1 := Option.some.inj e1
   omega
theorem AD.doer (h : AD W zz ka kd s t asks ds K) {b1 : Nat} (d : Dr) (hd : Hd) (X : Bx W b1 [.bool d.1, .int .i64 d.2.1, .slice hd.1 hd.2.1 hd.2.2, .int .i64 d.2.2.2]) (R : RowAt W true zz W.heap.size 6 hd.1 hd.2.1 hd.2.2 (sixs d.2.2.1)) (h8 : hd.2.1 ≤ 8) (hfr : hd.2.1 ≠ 0 → (Value.slice s.1 s.2.1 s.2.2).ownBlock ≠ some (sb hd.1) ∧ (Value.slice t.1 t.2.1 t.2.2).ownBlock ≠ some (sb hd.1) ∧ ∀ j, j < kd → (K j).2.1 ≠ 0 → sb (K j).1 ≠ sb hd.1) (hn : kd ≤ 1000) (hz : zz ≤ W.heap.size) :
  ∃ (t' : Hd) (K' : Nat → Hd) (w' : World), (∀ ty, (Builtin.append_ #[27, 27] ty #[.slice t.1 t.2.1 t.2.2, .slice (some ⟨b1, 0, none⟩) 1 1]).run Tryz.prog W = .ok (.slice t'.1 t'.2.1 t'.2.2) w') ∧ AD w' zz ka (kd + 1) s t' asks (ds ++ [d]) K' ∧ Below zz W w' := by
 have hl := h.len
 subst hl
 obtain ⟨v', w', hr, G2, KS, hat⟩ := doer_snoc h.od X R (fun h0 => (hfr h0).2) hz hn
 obtain ⟨ta, tc, e9, _, _⟩ := owns_slice G2.own
 subst e9
 obtain ⟨K2, hK2⟩ : ∃ K2 : Nat → Hd, K2 = fun j => if j = ds.length then hd else K j := ⟨_, rfl⟩
 rw [← hK2] at G2
 have eN : K2 ds.length = hd := by rw [hK2]; simp
 have eO : ∀ j, j < ds.length → K2 j = K j := fun j hj => by rw [hK2]; simp [Nat.ne_of_lt hj]
 refine ⟨(ta, ds.length + 1, tc), K2, w', hr, ⟨owns_keptS h.oa KS (fun x e1 e2 => h.sep1 x e1 e2), G2, by simp, fun i hi => ?_, fun x e1 e2 => ?_, fun i hi h0 e1 => ?_⟩, KS.low zz (fun x e => (World.ownsRow.lt h.od.own x e).1) hz⟩
 ·rcases Nat.lt_succ_iff_lt_or_eq.1 hi with q | q
  ·rw [eO i q]; exact h.small i q
  ·rw [q, eN]; exact h8
 ·rcases hat with z | z
  ·exact h.sep1 x e1 (z ▸ e2)
  ·rw [z] at e2
   have := (World.ownsRow.lt h.oa x e1).2
   have e3 : W.heap.size = x := Option.some.inj e2
   omega
 ·rcases Nat.lt_succ_iff_lt_or_eq.1 hi with q | q
  ·rw [eO i q] at h0 e1; exact h.sep2 i q h0 e1
  ·rw [q, eN] at h0 e1; exact (hfr h0).1 e1
theorem AD.lt (h : AD W zz ka kd s t asks ds K) (x : Nat) (hx : (Value.slice s.1 s.2.1 s.2.2).ownBlock = some x ∨ (Value.slice t.1 t.2.1 t.2.2).ownBlock = some x ∨ ∃ i, i < kd ∧ (K i).2.1 ≠ 0 ∧ x = sb (K i).1) : zz ≤ x ∧ x < W.heap.size := by
 rcases hx with e | e | ⟨i, hi, h0, e⟩
 ·exact World.ownsRow.lt h.oa x e
 ·exact World.ownsRow.lt h.od.own x e
 ·have := (h.od.logs i hi).inB (k := x) ⟨h0, e⟩
  exact ⟨this.1, this.2.2⟩
theorem AD.lists (h : AD W zz ka kd s t asks ds K) : ∃ c1 c2, s.2.2 = c1 ∧ t.2.2 = c2 ∧ RowAt W true zz W.heap.size 1 s.1 s.2.1 s.2.2 (bls asks) ∧ DoersAt W true zz W.heap.size t.1 t.2.1 t.2.2 K ds ∧ s.2.1 = ka ∧ t.2.1 = kd ∧ Sep (hR s) (inE t.1 t.2.1 K) := by
 obtain ⟨a1, c1, e1, R1, b1⟩ := owns_slice h.oa
 obtain ⟨a2, c2, e2, E2⟩ := h.od.els
 obtain ⟨_, _, e3, R3, b3⟩ := owns_slice h.od.own
 simp only [Value.slice.injEq] at e1 e2 e3
 obtain ⟨p1, p2, p3⟩ := e1
 obtain ⟨q1, q2, q3⟩ := e2
 refine ⟨_, _, rfl, rfl, by rw [p1, p2, p3]; exact R1, ⟨by rw [q2]; exact h.len, by rw [q1, q2, q3]; exact E2⟩, p2, q2, fun x hx hy => ?_⟩
 obtain ⟨hx0, hx1⟩ := hx
 have o1 : (Value.slice s.1 s.2.1 s.2.2).ownBlock = some x := by rw [b1 (by rw [← p2]; exact hx0), ← p1]; exact congrArg some hx1.symm
 rcases hy with ⟨hy0, hy1⟩ | ⟨i, hi, h0, hy1⟩
 ·refine h.sep1 x o1 ?_
  rw [b3 (by rw [← q2]; exact hy0), hy1]
  have : t.1 = _ := e3.1
  rw [this]
 ·rw [hy1] at o1
  exact h.sep2 i (by rw [← q2]; exact hi) h0 o1
theorem AD.fresh (h : AD W zz ka kd s t asks ds K) (x : Nat) (hx : W.heap.size ≤ x) : (Value.slice s.1 s.2.1 s.2.2).ownBlock ≠ some x ∧ (Value.slice t.1 t.2.1 t.2.2).ownBlock ≠ some x ∧ ∀ j, j < kd → (K j).2.1 ≠ 0 → sb (K j).1 ≠ x :=
 ⟨fun e => by have := (h.lt x (Or.inl e)).2; omega, fun e => by have := (h.lt x (Or.inr (Or.inl e))).2; omega, fun j hj h0 e => by have := (h.lt x (Or.inr (Or.inr ⟨j, hj, h0, e.symm⟩))).2; omega⟩
theorem AD.rep (h : AD W zz ka kd s t asks ds K) {lo zL uL gl n c : Nat} {xs : List En} {id size view last commit : Int} {nm : Bool} (L : RowAt W true zL uL 6 (some ⟨gl, 0, none⟩) n c (sixs xs)) (h1 : uL ≤ zz) (h2 : lo ≤ zL) (h3 : zz ≤ W.heap.size) (h4 : lo ≤ zz) : RepAt W true lo W.heap.size ⟨(some ⟨gl, 0, none⟩, n, c), (none, 0, 0), s, t, K⟩ ⟨id, size, view, nm, last, xs, commit, [], asks, ds⟩ := by
 obtain ⟨_, _, _, _, RA, RD, _, _, SP⟩ := h.lists
 have hA : ∀ x, hR s x → zz ≤ x := fun x hx => (RA.inB hx).1
 have hD : ∀ x, inE t.1 t.2.1 K x → zz ≤ x := fun x hx => (RD.els.inB hx).1
 have hL : ∀ x, hR (some (⟨gl, 0, none⟩ : Addr), n, c) x → x < uL := fun x hx => (L.inB hx).2.1
 exact ⟨L.widen h2 (by omega), RowAt.nilR _ _ _ _ _ _ _, RA.widen h4 (Nat.le_refl _), RD.widen h4 (Nat.le_refl _), fun _ => ⟨fun x _ b => absurd rfl b.1, fun x a b => by have := hL x a; have := hA x b; omega, fun x a b => by have := hL x a; have := hD x b; omega, fun x a _ => absurd rfl a.1, fun x a _ => absurd rfl a.1, SP⟩⟩
end
def OksSt (w wr : World) (g p : Nat) (ac : Option Addr) (nc cc : Nat) (m gl n c zL uL b0 b2 vw cm : Nat) (xs : List En) (id : Int) (iv : Value) : Prop := ∃ (k : Nat) (s : Hd) (oks : List Int) (q : Nat), k ≤ m ∧ iv = .int .i64 k ∧ Bx wr b0 [.int .i64 0, .int .i64 0, .int .i64 0, .bool false, .int .i64 0, .slice none 0 0, .int .i64 0, .slice none 0 0, .slice none 0 0, .slice none 0 0] ∧ Bx wr b2 [.int .i64 id, .int .i64 (m : Int), .int .i64 (vw : Int), .bool true, .int .i64 (vw : Int), .slice (some ⟨gl, 0, none⟩) n c, .int .i64 (cm : Int), .slice s.1 s.2.1 s.2.2, .slice none 0 0, .slice none 0 0] ∧ wr.ownsRow w.heap.size 2 1 (.slice s.1 s.2.1 s.2.2) k (ints oks) ∧ (∀ x, (Value.slice s.1 s.2.1 s.2.2).ownBlock = some x → uL ≤ x ∧ x ≠ b0 ∧ x ≠ b2) ∧ RowAt wr true zL uL 6 (some ⟨gl, 0, none⟩) n c (sixs xs) ∧ uL ≤ wr.heap.size ∧ q ≤ p + 100 + k ∧ SrcAt wr g q ac nc cc ∧ Kept g (g + 1) w wr
def AskSt (w : World) (g p : Nat) (ac : Option Addr) (nc cc m gl n c zL uL b0 b2 vw cm vl vi zz : Nat) (xs : List En) (ka kd : Nat) (wr : World) : Prop := ∃ (s t : Hd) (asks : List Bool) (ds : List Dr) (K : Nat → Hd) (q : Nat), Bx wr b0 [.int .i64 0, .int .i64 0, .int .i64 0, .bool false, .int .i64 0, .slice none 0 0, .int .i64 0, .slice none 0 0, .slice none 0 0, .slice none 0 0] ∧ Bx wr b2 [.int .i64 (vi : Int), .int .i64 (m : Int), .int .i64 (vw : Int), .bool false, .int .i64 (vl : Int), .slice (some ⟨gl, 0, none⟩) n c, .int .i64 (cm : Int), .slice none 0 0, .slice s.1 s.2.1 s.2.2, .slice t.1 t.2.1 t.2.2] ∧ AD wr zz ka kd s t asks ds K ∧ RowAt wr true zL uL 6 (some ⟨gl, 0, none⟩) n c (sixs xs) ∧ zz ≤ wr.heap.size ∧ q ≤ p + 90 + 3 * ka + 90 * kd ∧ SrcAt wr g q ac nc cc ∧ Kept g (g + 1) w wr
theorem l9Replica_any (g p : Nat) (ac : Option Addr) (nc cc : Nat) (bs : List Nat) (w : World) (h : SB w g p ac nc cc bs) (hp : p ≤ 30000) : Calls Tryz.prog 120 #[.pointer (some ⟨g, 0, none⟩)] w fun e w' => RepDrawn w w' e g p 700 ac nc cc bs := by
 have hg : g < w.heap.size := h.lt
 have KP : Kept g (g + 1) w w := Kept.refl _ _ _
 have D := h
 obtain ⟨i2, hi2, ha2, hb2, hc2⟩ := info_parts Tryz.info2'
 obtain ⟨i4, hi4, ha4, hb4, hc4⟩ := info_parts Tryz.info4'
 go_enter Tryz.func120, Tryz.ntmps120
 go_wp2_with (first | ((have g := ob0); clear g; (with_reducible refine lit_newX 25 5 _ [.int .i64 3, .int .i64 3, .int .i64 1, .int .i64 2, .int .i64 5] 2 (fun _ => by kernel_rfl)  ?_); intro b1 W1 N1; have ob1 : w.heap.size ≤ b1 := Nat.le_trans KP.size N1.ge; have o0_b1 := N1.u X0; replace X0 := N1.r X0; replace c0 := X0.cell; replace f0 := X0.froz; replace D := D.below N1.below; replace KP := KP.next N1.below; obtain ⟨X1, c1⟩ := N1.c; clear N1) | ((with_reducible refine al 29 [.int .i64 0, .int .i64 0, .int .i64 0, .bool false, .int .i64 0, .slice none 0 0, .int .i64 0, .slice none 0 0, .slice none 0 0, .slice none 0 0] ?_); intro b0 W0 N0; have ob0 : w.heap.size ≤ b0 := Nat.le_trans KP.size N0.ge; replace D := D.below N0.below; replace KP := KP.next N0.below; obtain ⟨X0, c0, f0⟩ := N0.a; clear N0) | fail)
 have R1 : RowAt _ true b1 (b1 + 1) 1 (some ⟨b1, 0, none⟩) 5 5 (ints [3, 3, 1, 2, 5]) := bx_row X1 rfl
 refine (pick_in D 5 (by omega) (by omega) (by omega) _ _ [3, 3, 1, 2, 5] R1 (by omega)).mono ?_
 rintro e u1x ⟨i1, hi1, rfl, D', K', -⟩
 replace X0 := X0.kept K' (by omega)
 replace c0 := X0.cell
 replace f0 := X0.froz
 replace X1 := X1.kept K' (by omega)
 replace c1 := X1.cell
 replace KP := KP.trans K'
 replace D := D'
 clear D' K'
 clear R1 X1 c1
 obtain ⟨m, hm, hm1, hm5⟩ : ∃ m : Nat, ([3, 3, 1, 2, 5] : List Int).getD i1 0 = (m : Int) ∧ 1 ≤ m ∧ m ≤ 5 := by
  rcases (by omega : i1 = 0 ∨ i1 = 1 ∨ i1 = 2 ∨ i1 = 3 ∨ i1 = 4) with e | e | e | e | e <;> subst e
  ·exact ⟨3, rfl, by omega, by omega⟩
  ·exact ⟨3, rfl, by omega, by omega⟩
  ·exact ⟨1, rfl, by omega, by omega⟩
  ·exact ⟨2, rfl, by omega, by omega⟩
  ·exact ⟨5, rfl, by omega, by omega⟩
 rw [hm]
 clear hm hi1
 go_wp2_with fail
 refine (next_sb D m rfl (by omega) (by omega) (by omega)).mono ?_
 rintro e u2x ⟨vi, hvi, rfl, D', K', -⟩
 replace X0 := X0.kept K' (by omega)
 replace c0 := X0.cell
 replace f0 := X0.froz
 replace KP := KP.trans K'
 replace D := D'
 clear D' K'
 go_wp2_with fail
 refine (next_sb D 6 rfl (by omega) (by omega) (by omega)).mono ?_
 rintro e u3x ⟨vw, hvw, rfl, D', K', -⟩
 replace X0 := X0.kept K' (by omega)
 replace c0 := X0.cell
 replace f0 := X0.froz
 replace KP := KP.trans K'
 replace D := D'
 clear D' K'
 go_wp2_with fail
 refine (chance_sb D 3 rfl (by omega) (by omega) (by omega)).mono ?_
 rintro e u4x ⟨cb, rfl, D', K', -⟩
 replace X0 := X0.kept K' (by omega)
 replace c0 := X0.cell
 replace f0 := X0.froz
 replace KP := KP.trans K'
 replace D := D'
 clear D' K'
 have lw4 := KP.size
 go_wp2_with fail
 refine (l8Log_any g _ ac nc cc bs _ D (by omega)).mono ?_
 rintro e u5x ⟨gl, n, c, xs, p', rfl, hn8, OA, hp', D', K'⟩
 obtain ⟨_, _, eA, L5⟩ := RowAt.of_owned OA
 cases eA
 obtain ⟨zL, hzL⟩ : ∃ zL, zL = u4x.heap.size := ⟨_, rfl⟩
 rw [← hzL] at L5 lw4
 have l0 : b0 < zL := by rw [hzL]; exact X0.lt
 have hzL' := hzL
 clear hzL OA
 obtain ⟨uL, huL⟩ : ∃ uL, uL = u5x.heap.size := ⟨_, rfl⟩
 rw [← huL] at L5
 have hL5 : uL ≤ u5x.heap.size := Nat.le_of_eq huL
 have hzu : zL ≤ uL := by rw [huL, hzL']; exact K'.size
 clear huL hzL'
 replace X0 := X0.kept K' (by omega)
 replace c0 := X0.cell
 replace f0 := X0.froz
 replace KP := KP.trans K'
 replace D := D'
 clear D' K'
 have wn : IntKind.i64.wrap ((n : Int) + 1) = (n : Int) + 1 := wrapI_same _ (by omega)
 have wv : IntKind.i64.wrap ((vw : Int) + 1) = (vw : Int) + 1 := wrapI_same _ (by omega)
 cases cb
 ·go_wp2_with (first | ((with_reducible refine sm 29 X2 0 [.int .i64 (vi : Int), .int .i64 (m : Int), .int .i64 (vw : Int), .bool true, .int .i64 0, .slice (some ⟨gl, 0, none⟩) n c, .int .i64 0, .slice none 0 0, .slice none 0 0, .slice none 0 0] ?_); intro V1 S; replace X0 := X0.kp S.kept; replace c0 := X0.cell; replace f0 := X0.froz; replace X2 : Bx V1 b2 [.int .i64 (vi : Int), .int .i64 (m : Int), .int .i64 (vw : Int), .bool true, .int .i64 0, .slice (some ⟨gl, 0, none⟩) n c, .int .i64 0, .slice none 0 0, .slice none 0 0, .slice none 0 0] := S.bx; replace c2 := X2.cell; replace f2 := X2.froz; replace L5 := L5.kept S.kept (by omega); replace hL5 := Nat.le_trans hL5 S.kept.size; replace KP := KP.low (S.kept.below _ (by omega) KP.size); replace D := h.move KP (D.src.kept S.kept (by omega)); clear S) | ((with_reducible refine al 29 [.int .i64 0, .int .i64 0, .int .i64 0, .bool false, .int .i64 0, .slice none 0 0, .int .i64 0, .slice none 0 0, .slice none 0 0, .slice none 0 0] ?_); intro b2 W2 N2; have ob2 : w.heap.size ≤ b2 := Nat.le_trans KP.size N2.ge; have o0_b2 := N2.u X0; have oL5_b2 : uL ≤ b2 := Nat.le_trans hL5 N2.ge; replace X0 := N2.r X0; replace c0 := X0.cell; replace f0 := X0.froz; replace L5 := L5.below N2.below; replace hL5 := Nat.le_trans hL5 N2.below.size; replace D := D.below N2.below; replace KP := KP.next N2.below; obtain ⟨X2, c2, f2⟩ := N2.a; clear N2) | fail)
  refine (next_sb D (n + 1) (by simp) (by omega) (by omega) (by omega)).mono ?_
  rintro e u6x ⟨cm, hcm, rfl, D', K', -⟩
  replace X0 := X0.kept K' (by omega)
  replace c0 := X0.cell
  replace f0 := X0.froz
  replace X2 := X2.kept K' (by omega)
  replace c2 := X2.cell
  replace f2 := X2.froz
  replace L5 := L5.kept K' (by omega)
  replace hL5 := Nat.le_trans hL5 K'.size
  replace KP := KP.trans K'
  replace D := D'
  clear D' K'
  go_wp2_with (first | ((with_reducible refine so 2 X2 6 (.int .i64 (cm : Int)) ?_); intro V2 S; replace X0 := X0.kp S.kept; replace c0 := X0.cell; replace f0 := X0.froz; replace X2 : Bx V2 b2 [.int .i64 (vi : Int), .int .i64 (m : Int), .int .i64 (vw : Int), .bool true, .int .i64 0, .slice (some ⟨gl, 0, none⟩) n c, .int .i64 (cm : Int), .slice none 0 0, .slice none 0 0, .slice none 0 0] := S.bx; replace c2 := X2.cell; replace f2 := X2.froz; replace L5 := L5.kept S.kept (by omega); replace hL5 := Nat.le_trans hL5 S.kept.size; replace KP := KP.low (S.kept.below _ (by omega) KP.size); replace D := h.move KP (D.src.kept S.kept (by omega)); clear S) | fail)
  refine (next_sb D (vw + 1) (by simp) (by omega) (by omega) (by omega)).mono ?_
  rintro e u7x ⟨vl, hvl, rfl, D', K', -⟩
  replace X0 := X0.kept K' (by omega)
  replace c0 := X0.cell
  replace f0 := X0.froz
  replace X2 := X2.kept K' (by omega)
  replace c2 := X2.cell
  replace f2 := X2.froz
  replace L5 := L5.kept K' (by omega)
  replace hL5 := Nat.le_trans hL5 K'.size
  replace KP := KP.trans K'
  replace D := D'
  clear D' K'
  go_upto_region 6 with (first | ((with_reducible refine so 2 X2 4 (.int .i64 (vl : Int)) ?_); intro V3 S; replace X0 := X0.kp S.kept; replace c0 := X0.cell; replace f0 := X0.froz; replace X2 : Bx V3 b2 [.int .i64 (vi : Int), .int .i64 (m : Int), .int .i64 (vw : Int), .bool true, .int .i64 (vl : Int), .slice (some ⟨gl, 0, none⟩) n c, .int .i64 (cm : Int), .slice none 0 0, .slice none 0 0, .slice none 0 0] := S.bx; replace c2 := X2.cell; replace f2 := X2.froz; replace L5 := L5.kept S.kept (by omega); replace hL5 := Nat.le_trans hL5 S.kept.size; replace KP := KP.low (S.kept.below _ (by omega) KP.size); replace D := h.move KP (D.src.kept S.kept (by omega)); clear S) | fail)
  go_upto_region 7 with (first | ((with_reducible refine so 2 X2 4 (.int .i64 (vw : Int)) ?_); intro V4 S; replace X0 := X0.kp S.kept; replace c0 := X0.cell; replace f0 := X0.froz; replace X2 : Bx V4 b2 [.int .i64 (vi : Int), .int .i64 (m : Int), .int .i64 (vw : Int), .bool true, .int .i64 (vw : Int), .slice (some ⟨gl, 0, none⟩) n c, .int .i64 (cm : Int), .slice none 0 0, .slice none 0 0, .slice none 0 0] := S.bx; replace c2 := X2.cell; replace f2 := X2.froz; replace L5 := L5.kept S.kept (by omega); replace hL5 := Nat.le_trans hL5 S.kept.size; replace KP := KP.low (S.kept.below _ (by omega) KP.size); replace D := h.move KP (D.src.kept S.kept (by omega)); clear S) | fail)
  have HL6 : Hid (uL ≤ V4.heap.size) := hL5
  go_wp2_with fail
  refine (chance_sb D 2 rfl (by omega) (by omega) (by omega)).mono ?_
  rintro e u8x ⟨ch, rfl, D', K', hsz8⟩
  replace X0 := X0.kept K' (by omega)
  replace c0 := X0.cell
  replace f0 := X0.froz
  replace X2 := X2.kept K' (by omega)
  replace c2 := X2.cell
  replace f2 := X2.froz
  replace L5 := L5.kept K' (by omega)
  replace hL5 := Nat.le_trans hL5 K'.size
  replace KP := KP.trans K'
  replace D := D'
  clear D' K'
  have hs8 : V4.heap.size ≤ u8x.heap.size := Nat.le_of_eq hsz8.symm
  clear hsz8
  go_upto_if 42 with fail
  first | go_frame | skip
  go_cut [] (fun wx => ∃ (id : Int) (q : Nat), Bx wx b0 [.int .i64 0, .int .i64 0, .int .i64 0, .bool false, .int .i64 0, .slice none 0 0, .int .i64 0, .slice none 0 0, .slice none 0 0, .slice none 0 0] ∧ Bx wx b2 [.int .i64 id, .int .i64 (m : Int), .int .i64 (vw : Int), .bool true, .int .i64 (vw : Int), .slice (some ⟨gl, 0, none⟩) n c, .int .i64 (cm : Int), .slice none 0 0, .slice none 0 0, .slice none 0 0] ∧ RowAt wx true zL uL 6 (some ⟨gl, 0, none⟩) n c (sixs xs) ∧ q ≤ p + 90 ∧ SB wx g q ac nc cc bs ∧ Kept g (g + 1) w wx ∧ V4.heap.size ≤ wx.heap.size)
  case first =>
   have hr : (vw : Int).tmod (m : Int) = (vw : Int) % (m : Int) := Int.tmod_eq_emod_of_nonneg (by omega)
   have h0m : ¬ (m : Int) = 0 := by omega
   have hwm : IntKind.i64.wrap ((vw : Int) % (m : Int)) = (vw : Int) % (m : Int) := by
    have h2 := Int.emod_nonneg (vw : Int) h0m
    have h3 : (vw : Int) % (m : Int) < (m : Int) := Int.emod_lt_of_pos _ (by omega)
    exact wrapI_same _ (by omega)
   cases ch
   ·go_wp2_with fail
    go_meet
    exact ⟨_, _, X0, X2, L5, by omega, D, KP, hs8⟩
   ·go_wp2_with (first | ((with_reducible refine so 2 X2 0 (.int .i64 ((vw : Int) % (m : Int))) ?_); intro V5 S; replace X0 := X0.kp S.kept; replace c0 := X0.cell; replace f0 := X0.froz; replace X2 : Bx V5 b2 [.int .i64 ((vw : Int) % (m : Int)), .int .i64 (m : Int), .int .i64 (vw : Int), .bool true, .int .i64 (vw : Int), .slice (some ⟨gl, 0, none⟩) n c, .int .i64 (cm : Int), .slice none 0 0, .slice none 0 0, .slice none 0 0] := S.bx; replace c2 := X2.cell; replace f2 := X2.froz; replace L5 := L5.kept S.kept (by omega); replace hL5 := Nat.le_trans hL5 S.kept.size; replace KP := KP.low (S.kept.below _ (by omega) KP.size); replace D := h.move KP (D.src.kept S.kept (by omega)); replace hs8 := Nat.le_trans hs8 S.kept.size; clear S) | fail)
    go_meet
    exact ⟨_, _, X0, X2, L5, by omega, D, KP, hs8⟩
  case rest =>
   clear c0 f0 c2 f2 D KP X0 X2 L5 hs8
   obtain ⟨id, q, X0, X2, L5, hq, D, KP, hs8⟩ := hcut
   rename World => w8
   have c0 := X0.cell
   have f0 := X0.froz
   have c2 := X2.cell
   have f2 := X2.froz
   have hL5' : uL ≤ w8.heap.size := Nat.le_trans HL6.out hs8
   clear hL5
   have hL5 := hL5'
   clear hL5'
   go_wp2_with fail
   refine (l9Primary_is b2 id (m : Int) (vw : Int) true (vw : Int) (some ⟨gl, 0, none⟩, n, c) (cm : Int) (none, 0, 0) (none, 0, 0) (none, 0, 0) (by omega) (by omega) _ X2).mono ?_
   rintro e w9 ⟨rfl, BB⟩
   obtain ⟨l, hl⟩ : ∃ l, ((vw : Int) % (m : Int) == id) = l := ⟨_, rfl⟩
   rw [hl]
   clear hl
   replace X0 := X0.below BB
   replace c0 := X0.cell
   replace f0 := X0.froz
   replace X2 := X2.below BB
   replace c2 := X2.cell
   replace f2 := X2.froz
   replace L5 := L5.below BB
   replace hL5 := Nat.le_trans hL5 BB.size
   replace D := D.below BB
   replace KP := KP.next BB
   clear BB
   have olr : uL ≤ b2 := oL5_b2
   cases l
   ·go_wp2_with (first | ((with_reducible refine sm 29 X0 0 [.int .i64 id, .int .i64 (m : Int), .int .i64 (vw : Int), .bool true, .int .i64 (vw : Int), .slice (some ⟨gl, 0, none⟩) n c, .int .i64 (cm : Int), .slice none 0 0, .slice none 0 0, .slice none 0 0] ?_); intro V5 S; replace X0 : Bx V5 b0 [.int .i64 id, .int .i64 (m : Int), .int .i64 (vw : Int), .bool true, .int .i64 (vw : Int), .slice (some ⟨gl, 0, none⟩) n c, .int .i64 (cm : Int), .slice none 0 0, .slice none 0 0, .slice none 0 0] := S.bx; replace c0 := X0.cell; replace f0 := X0.froz; replace X2 := X2.kp S.kept; replace c2 := X2.cell; replace f2 := X2.froz; replace L5 := L5.kept S.kept (by omega); replace hL5 := Nat.le_trans hL5 S.kept.size; replace KP := KP.low (S.kept.below _ (by omega) KP.size); replace D := h.move KP (D.src.kept S.kept (by omega)); clear S))
    refine bodyPost_ret (v := .agg #[.int .i64 id, .int .i64 (m : Int), .int .i64 (vw : Int), .bool true, .int .i64 (vw : Int), .slice (some ⟨gl, 0, none⟩) n c, .int .i64 (cm : Int), .slice none 0 0, .slice none 0 0, .slice none 0 0]) (by simp [results, Tryz.results120, go_sem, *]) rfl ⟨⟨id, (m : Int), (vw : Int), true, (vw : Int), xs, (cm : Int), [], [], []⟩, ⟨(some ⟨gl, 0, none⟩, n, c), (none, 0, 0), (none, 0, 0), (none, 0, 0), kd0⟩, q, rfl, ?_, ⟨show n ≤ 1000 by omega, Nat.zero_le _, Nat.zero_le _, Nat.zero_le _, fun _ _ => Nat.zero_le _⟩, World.ownsRow_nil _ _ _ _, Or.inr rfl, by omega, D, KP⟩
    exact repAt_ofZ (z5 := zL) (u5 := uL) (z7 := zL) (u7 := zL) (z8 := zL) (u8 := zL) (z9 := zL) (u9 := zL) L5 (RowAt.nilR _ _ _ _ _ _ _) (RowAt.nilR _ _ _ _ _ _ _) ⟨rfl, ElsAt.nil _ _ _ _ _ _ _ _ _ _⟩ ⟨by omega, by omega⟩ ⟨by omega, by omega⟩ ⟨by omega, by omega⟩ ⟨by omega, by omega⟩ (by omega) (by omega) (by omega) (by omega) (by omega) (by omega)
   ·have OK0 : Hid (OksSt w w9 g p ac nc cc m gl n c zL uL b0 b2 vw cm xs id (.int .i64 0)) := ⟨0, (none, 0, 0), [], q, Nat.zero_le _, rfl, X0, X2, by simpa [ints] using World.ownsRow_nil _ _ _ _, (fun x e => by cases e), L5, hL5, by omega, D.src, KP⟩
    clear X0 X2 c0 f0 c2 f2 L5 D KP hL5 hq
    go_wp2
    go_loopw [5] (fun iv wr => OksSt w wr g p ac nc cc m gl n c zL uL b0 b2 vw cm xs id iv) (fun iv _ => m - (intOf iv).toNat)
    case atStart => exact OK0.out
    case round =>
     obtain ⟨k, s, oks, q, hk, rfl, X0, X2, O7, HB, L5, hL5, hq, SS, KP⟩ := hrel
     clear OK0
     have D := h.move KP SS
     clear SS
     have c0 := X0.cell
     have f0 := X0.froz
     have c2 := X2.cell
     have f2 := X2.froz
     have HB7 : Hid _ := HB
     have HO7 : Hid (wr.ownsRow w.heap.size 2 1 (.slice s.1 s.2.1 s.2.2) k (ints oks)) := O7
     clear HB O7
     have lt0 := X0.lt
     have lt2 := X2.lt
     by_cases hlt : k < m
     ·have hlk : (k : Int) < (m : Int) := by omega
      go_wp2_with fail
      have DQ : Below wr.heap.size wr wr.drew := (Below.refl _ _).drew
      replace X0 := X0.below DQ
      replace c0 := X0.cell
      replace f0 := X0.froz
      replace X2 := X2.below DQ
      replace c2 := X2.cell
      replace f2 := X2.froz
      replace L5 := L5.below DQ
      replace hL5 := Nat.le_trans hL5 DQ.size
      replace D := D.below DQ
      replace KP := KP.next DQ
      clear DQ
      replace HO7 : Hid (World.ownsRow _ w.heap.size 2 1 (.slice s.1 s.2.1 s.2.2) k (ints oks)) := owns_below HO7.out (Below.refl _ _).drew
      have k5 := X2.cell 5
      simp only [List.getElem?_cons_succ, List.getElem?_cons_zero] at k5
      refine wp_region_held_drew (S := (fun w' => w'.cell? ⟨b2, 5, none⟩ = some (.slice (some ⟨gl, 0, none⟩) n c))) (by kernel_rfl) k5 (fun hZq => ?_)
      refine tk 0 hZq ?_
      refine tk 2 hZq ?_
      refine tk 3 hZq ?_
      refine tk 4 hZq ?_
      refine tk 5 hZq ?_
      refine tk 6 hZq ?_
      refine wpAnyH_ready (rs := [1, 7]) (by kernel_rfl) (by simp) ?_
      refine (AllReadyH.cons rfl (fun KK hKK => ?_) (AllReadyH.cons rfl (fun KK hKK => ?_) AllReadyH.nil))
      ·rw [if_pos (by simp [Region.wanted])]
       unfold Oper.wp execOp
       go_simp
       clear hZq
       refine hKK _ _ k5 (fun hZq => ?_)
       clear hKK KK
       refine rd1 7 (fun KK hKK => ?_)
       go_simp
       go_at_call 121
       refine (next_sb D (n + 1) (by simp) (by omega) (by omega) (by omega)).mono ?_
       rintro e v1 ⟨y, hy, rfl, D', K', -⟩
       clear k5
       replace X0 := X0.kept K' (by omega)
       replace c0 := X0.cell
       replace f0 := X0.froz
       replace X2 := X2.kept K' (by omega)
       replace c2 := X2.cell
       replace f2 := X2.froz
       replace L5 := L5.kept K' (by omega)
       replace hL5 := Nat.le_trans hL5 K'.size
       replace HO7 : Hid (World.ownsRow _ w.heap.size 2 1 (.slice s.1 s.2.1 s.2.2) k (ints oks)) := owns_kept HO7.out K' (fun x e => Or.inr (Nat.le_trans hg (World.ownsRow.lt HO7.out x e).1))
       replace lt0 := X0.lt
       replace lt2 := X2.lt
       replace KP := KP.trans K'
       replace D := D'
       clear D' K'
       have k5 := X2.cell 5
       simp only [List.getElem?_cons_succ, List.getElem?_cons_zero] at k5
       clear hZq
       refine hKK _ _ k5 (fun hZq => ?_)
       clear hKK KK
       refine rd1 8 (fun KK hKK => ?_)
       refine step_litX 25 1 _ [.int .i64 (y : Int)] 2 (fun _ => by kernel_rfl) ?_
       intro bl Wl Nl
       have bB := Nl.below
       have Xl := Nl.bx
       clear Nl k5
       replace X0 := X0.below bB
       replace c0 := X0.cell
       replace f0 := X0.froz
       replace X2 := X2.below bB
       replace c2 := X2.cell
       replace f2 := X2.froz
       replace L5 := L5.below bB
       replace hL5 := Nat.le_trans hL5 bB.size
       replace D := D.below bB
       replace KP := KP.next bB
       replace HO7 : Hid (World.ownsRow _ w.heap.size 2 1 (.slice s.1 s.2.1 s.2.2) k (ints oks)) := owns_below HO7.out bB
       replace lt0 := X0.lt
       replace lt2 := X2.lt
       clear bB
       have k5 := X2.cell 5
       simp only [List.getElem?_cons_succ, List.getElem?_cons_zero] at k5
       clear hZq
       refine hKK _ _ k5 (fun hZq => ?_)
       clear hKK KK
       refine rd1 9 (fun KK hKK => ?_)
       obtain ⟨v', w6, hr, ho, KS, hat⟩ := own_snoc HO7.out 25 i2 (.int .i64 0) 8 Tryz.underlying25 hi2 ha2 hb2 hc2 rfl (by omega) (.int .i64 (y : Int)) rfl Xl (by omega) KP.size
       refine step_append_run rfl _ _ _ _ rfl _ _ rfl rfl _ _ (hr _) ?_
       clear hr Xl k5
       have NEW : Hid (∀ x, v'.ownBlock = some x → uL ≤ x ∧ x ≠ b0 ∧ x ≠ b2) := fun x e => by
        rcases hat with z | z
        ·exact HB7.out x (z ▸ e)
        ·rw [z] at e; injection e with e; omega
       have KR := KS.kept (fun x e => World.ownsRow.lt HO7.out x e)
       have BL := KS.low w.heap.size (fun x e => (World.ownsRow.lt HO7.out x e).1) KP.size
       have hs6 := KS.size
       replace X0 := X0.keptS KS (fun e => (HB7.out b0 e).2.1 rfl)
       replace c0 := X0.cell
       replace f0 := X0.froz
       replace X2 := X2.keptS KS (fun e => (HB7.out b2 e).2.2 rfl)
       replace c2 := X2.cell
       replace f2 := X2.froz
       replace L5 := L5.keptR KS (fun x hx e => by have := L5.inB hx; have := HB7.out x e; omega)
       replace hL5 := Nat.le_trans hL5 hs6
       replace KP := KP.low BL
       replace D := h.move KP (D.src.kept KR (Or.inl hg))
       obtain ⟨sa, sc, e9, _, _⟩ := owns_slice ho
       subst e9
       have HO8 : Hid (World.ownsRow _ w.heap.size 2 1 (.slice sa (k + 1) sc) (k + 1) (ints oks ++ [.int .i64 (y : Int)])) := ho
       clear KS BL KR hat HO7 ho hs6
       replace lt0 := X0.lt
       replace lt2 := X2.lt
       have k5 := X2.cell 5
       simp only [List.getElem?_cons_succ, List.getElem?_cons_zero] at k5
       clear hZq
       refine hKK _ _ k5 (fun hZq => ?_)
       clear hKK KK
       refine tk 10 hZq ?_
       refine rd1 11 (fun KK hKK => ?_)
       refine step_oneX 25 X2 7 (.slice sa (k + 1) sc) (by simp) (by kernel_rfl) rfl rfl rfl ?_
       intro V7 S
       clear k5
       have HO9 : Hid (World.ownsRow _ w.heap.size 2 1 (.slice sa (k + 1) sc) (k + 1) (ints oks ++ [.int .i64 (y : Int)])) := owns_kept HO8.out S.kept (fun x e => by have := NEW.out x e; omega)
       replace X0 := X0.kp S.kept
       replace c0 := X0.cell
       replace f0 := X0.froz
       replace X2 : Bx V7 b2 [.int .i64 id, .int .i64 (m : Int), .int .i64 (vw : Int), .bool true, .int .i64 (vw : Int), .slice (some ⟨gl, 0, none⟩) n c, .int .i64 (cm : Int), .slice sa (k + 1) sc, .slice none 0 0, .slice none 0 0] := S.bx
       replace c2 := X2.cell
       replace f2 := X2.froz
       replace L5 := L5.kept S.kept (by omega)
       replace hL5 := Nat.le_trans hL5 S.kept.size
       replace KP := KP.low (S.kept.below _ (by omega) KP.size)
       replace D := h.move KP (D.src.kept S.kept (by omega))
       clear S
       have k5 := X2.cell 5
       simp only [List.getElem?_cons_succ, List.getElem?_cons_zero] at k5
       clear hZq
       refine hKK _ _ k5 (fun hZq => ?_)
       clear hKK KK
       refine wpAnyH_done (by kernel_rfl) ?_ _
       have HR : Hid (OksSt w V7 g p ac nc cc m gl n c zL uL b0 b2 vw cm xs id (.int .i64 ((k + 1 : Nat) : Int))) := ⟨k + 1, (sa, k + 1, sc), oks ++ [(y : Int)], _, by omega, rfl, X0, X2, (by rw [ints_snoc]; exact HO9.out), NEW.out, L5, hL5, (by omega), D.src, KP⟩
       clear X0 c0 f0 X2 c2 f2 L5 D KP HO8 HO9 NEW k5
       go_wp2
       go_roundw
       case rel => first | exact HR.out | (have := HR.out; simpa using this)
       case measure => simp [intOf]; omega
      ·go_simp
       go_at_call 121
       refine (next_sb D (n + 1) (by simp) (by omega) (by omega) (by omega)).mono ?_
       rintro e v1 ⟨y, hy, rfl, D', K', -⟩
       clear k5
       replace X0 := X0.kept K' (by omega)
       replace c0 := X0.cell
       replace f0 := X0.froz
       replace X2 := X2.kept K' (by omega)
       replace c2 := X2.cell
       replace f2 := X2.froz
       replace L5 := L5.kept K' (by omega)
       replace hL5 := Nat.le_trans hL5 K'.size
       replace HO7 : Hid (World.ownsRow _ w.heap.size 2 1 (.slice s.1 s.2.1 s.2.2) k (ints oks)) := owns_kept HO7.out K' (fun x e => Or.inr (Nat.le_trans hg (World.ownsRow.lt HO7.out x e).1))
       replace lt0 := X0.lt
       replace lt2 := X2.lt
       replace KP := KP.trans K'
       replace D := D'
       clear D' K'
       have k5 := X2.cell 5
       simp only [List.getElem?_cons_succ, List.getElem?_cons_zero] at k5
       clear hZq
       refine hKK _ _ k5 (fun hZq => ?_)
       clear hKK KK
       refine wpAnyH_ready (rs := [1, 8]) (by kernel_rfl) (by simp) ?_
       refine (AllReadyH.cons rfl (fun KK hKK => ?_) (AllReadyH.cons rfl (fun KK hKK => ?_) AllReadyH.nil))
       ·rw [if_pos (by simp [Region.wanted])]
        unfold Oper.wp execOp
        go_simp
        clear hZq
        refine hKK _ _ k5 (fun hZq => ?_)
        clear hKK KK
        refine rd1 8 (fun KK hKK => ?_)
        refine step_litX 25 1 _ [.int .i64 (y : Int)] 2 (fun _ => by kernel_rfl) ?_
        intro bl Wl Nl
        have bB := Nl.below
        have Xl := Nl.bx
        clear Nl k5
        replace X0 := X0.below bB
        replace c0 := X0.cell
        replace f0 := X0.froz
        replace X2 := X2.below bB
        replace c2 := X2.cell
        replace f2 := X2.froz
        replace L5 := L5.below bB
        replace hL5 := Nat.le_trans hL5 bB.size
        replace D := D.below bB
        replace KP := KP.next bB
        replace HO7 : Hid (World.ownsRow _ w.heap.size 2 1 (.slice s.1 s.2.1 s.2.2) k (ints oks)) := owns_below HO7.out bB
        replace lt0 := X0.lt
        replace lt2 := X2.lt
        clear bB
        have k5 := X2.cell 5
        simp only [List.getElem?_cons_succ, List.getElem?_cons_zero] at k5
        clear hZq
        refine hKK _ _ k5 (fun hZq => ?_)
        clear hKK KK
        refine rd1 9 (fun KK hKK => ?_)
        obtain ⟨v', w6, hr, ho, KS, hat⟩ := own_snoc HO7.out 25 i2 (.int .i64 0) 8 Tryz.underlying25 hi2 ha2 hb2 hc2 rfl (by omega) (.int .i64 (y : Int)) rfl Xl (by omega) KP.size
        refine step_append_run rfl _ _ _ _ rfl _ _ rfl rfl _ _ (hr _) ?_
        clear hr Xl k5
        have NEW : Hid (∀ x, v'.ownBlock = some x → uL ≤ x ∧ x ≠ b0 ∧ x ≠ b2) := fun x e => by
         rcases hat with z | z
         ·exact HB7.out x (z ▸ e)
         ·rw [z] at e; injection e with e; omega
        have KR := KS.kept (fun x e => World.ownsRow.lt HO7.out x e)
        have BL := KS.low w.heap.size (fun x e => (World.ownsRow.lt HO7.out x e).1) KP.size
        have hs6 := KS.size
        replace X0 := X0.keptS KS (fun e => (HB7.out b0 e).2.1 rfl)
        replace c0 := X0.cell
        replace f0 := X0.froz
        replace X2 := X2.keptS KS (fun e => (HB7.out b2 e).2.2 rfl)
        replace c2 := X2.cell
        replace f2 := X2.froz
        replace L5 := L5.keptR KS (fun x hx e => by have := L5.inB hx; have := HB7.out x e; omega)
        replace hL5 := Nat.le_trans hL5 hs6
        replace KP := KP.low BL
        replace D := h.move KP (D.src.kept KR (Or.inl hg))
        obtain ⟨sa, sc, e9, _, _⟩ := owns_slice ho
        subst e9
        have HO8 : Hid (World.ownsRow _ w.heap.size 2 1 (.slice sa (k + 1) sc) (k + 1) (ints oks ++ [.int .i64 (y : Int)])) := ho
        clear KS BL KR hat HO7 ho hs6
        replace lt0 := X0.lt
        replace lt2 := X2.lt
        have k5 := X2.cell 5
        simp only [List.getElem?_cons_succ, List.getElem?_cons_zero] at k5
        clear hZq
        refine hKK _ _ k5 (fun hZq => ?_)
        clear hKK KK
        refine tk 10 hZq ?_
        refine rd1 11 (fun KK hKK => ?_)
        refine step_oneX 25 X2 7 (.slice sa (k + 1) sc) (by simp) (by kernel_rfl) rfl rfl rfl ?_
        intro V7 S
        clear k5
        have HO9 : Hid (World.ownsRow _ w.heap.size 2 1 (.slice sa (k + 1) sc) (k + 1) (ints oks ++ [.int .i64 (y : Int)])) := owns_kept HO8.out S.kept (fun x e => by have := NEW.out x e; omega)
        replace X0 := X0.kp S.kept
        replace c0 := X0.cell
        replace f0 := X0.froz
        replace X2 : Bx V7 b2 [.int .i64 id, .int .i64 (m : Int), .int .i64 (vw : Int), .bool true, .int .i64 (vw : Int), .slice (some ⟨gl, 0, none⟩) n c, .int .i64 (cm : Int), .slice sa (k + 1) sc, .slice none 0 0, .slice none 0 0] := S.bx
        replace c2 := X2.cell
        replace f2 := X2.froz
        replace L5 := L5.kept S.kept (by omega)
        replace hL5 := Nat.le_trans hL5 S.kept.size
        replace KP := KP.low (S.kept.below _ (by omega) KP.size)
        replace D := h.move KP (D.src.kept S.kept (by omega))
        clear S
        have k5 := X2.cell 5
        simp only [List.getElem?_cons_succ, List.getElem?_cons_zero] at k5
        clear hZq
        refine hKK _ _ k5 (fun hZq => ?_)
        clear hKK KK
        refine wpAnyH_done (by kernel_rfl) ?_ _
        have HR : Hid (OksSt w V7 g p ac nc cc m gl n c zL uL b0 b2 vw cm xs id (.int .i64 ((k + 1 : Nat) : Int))) := ⟨k + 1, (sa, k + 1, sc), oks ++ [(y : Int)], _, by omega, rfl, X0, X2, (by rw [ints_snoc]; exact HO9.out), NEW.out, L5, hL5, (by omega), D.src, KP⟩
        clear X0 c0 f0 X2 c2 f2 L5 D KP HO8 HO9 NEW k5
        go_wp2
        go_roundw
        case rel => first | exact HR.out | (have := HR.out; simpa using this)
        case measure => simp [intOf]; omega
       ·refine step_litX 25 1 _ [.int .i64 (y : Int)] 2 (fun _ => by kernel_rfl) ?_
        intro bl Wl Nl
        have bB := Nl.below
        have Xl := Nl.bx
        clear Nl k5
        replace X0 := X0.below bB
        replace c0 := X0.cell
        replace f0 := X0.froz
        replace X2 := X2.below bB
        replace c2 := X2.cell
        replace f2 := X2.froz
        replace L5 := L5.below bB
        replace hL5 := Nat.le_trans hL5 bB.size
        replace D := D.below bB
        replace KP := KP.next bB
        replace HO7 : Hid (World.ownsRow _ w.heap.size 2 1 (.slice s.1 s.2.1 s.2.2) k (ints oks)) := owns_below HO7.out bB
        replace lt0 := X0.lt
        replace lt2 := X2.lt
        clear bB
        have k5 := X2.cell 5
        simp only [List.getElem?_cons_succ, List.getElem?_cons_zero] at k5
        clear hZq
        refine hKK _ _ k5 (fun hZq => ?_)
        clear hKK KK
        refine rd1 1 (fun KK hKK => ?_)
        rw [if_pos (by simp [Region.wanted])]
        unfold Oper.wp execOp
        go_simp
        clear hZq
        refine hKK _ _ k5 (fun hZq => ?_)
        clear hKK KK
        refine rd1 9 (fun KK hKK => ?_)
        obtain ⟨v', w6, hr, ho, KS, hat⟩ := own_snoc HO7.out 25 i2 (.int .i64 0) 8 Tryz.underlying25 hi2 ha2 hb2 hc2 rfl (by omega) (.int .i64 (y : Int)) rfl Xl (by omega) KP.size
        refine step_append_run rfl _ _ _ _ rfl _ _ rfl rfl _ _ (hr _) ?_
        clear hr Xl k5
        have NEW : Hid (∀ x, v'.ownBlock = some x → uL ≤ x ∧ x ≠ b0 ∧ x ≠ b2) := fun x e => by
         rcases hat with z | z
         ·exact HB7.out x (z ▸ e)
         ·rw [z] at e; injection e with e; omega
        have KR := KS.kept (fun x e => World.ownsRow.lt HO7.out x e)
        have BL := KS.low w.heap.size (fun x e => (World.ownsRow.lt HO7.out x e).1) KP.size
        have hs6 := KS.size
        replace X0 := X0.keptS KS (fun e => (HB7.out b0 e).2.1 rfl)
        replace c0 := X0.cell
        replace f0 := X0.froz
        replace X2 := X2.keptS KS (fun e => (HB7.out b2 e).2.2 rfl)
        replace c2 := X2.cell
        replace f2 := X2.froz
        replace L5 := L5.keptR KS (fun x hx e => by have := L5.inB hx; have := HB7.out x e; omega)
        replace hL5 := Nat.le_trans hL5 hs6
        replace KP := KP.low BL
        replace D := h.move KP (D.src.kept KR (Or.inl hg))
        obtain ⟨sa, sc, e9, _, _⟩ := owns_slice ho
        subst e9
        have HO8 : Hid (World.ownsRow _ w.heap.size 2 1 (.slice sa (k + 1) sc) (k + 1) (ints oks ++ [.int .i64 (y : Int)])) := ho
        clear KS BL KR hat HO7 ho hs6
        replace lt0 := X0.lt
        replace lt2 := X2.lt
        have k5 := X2.cell 5
        simp only [List.getElem?_cons_succ, List.getElem?_cons_zero] at k5
        clear hZq
        refine hKK _ _ k5 (fun hZq => ?_)
        clear hKK KK
        refine tk 10 hZq ?_
        refine rd1 11 (fun KK hKK => ?_)
        refine step_oneX 25 X2 7 (.slice sa (k + 1) sc) (by simp) (by kernel_rfl) rfl rfl rfl ?_
        intro V7 S
        clear k5
        have HO9 : Hid (World.ownsRow _ w.heap.size 2 1 (.slice sa (k + 1) sc) (k + 1) (ints oks ++ [.int .i64 (y : Int)])) := owns_kept HO8.out S.kept (fun x e => by have := NEW.out x e; omega)
        replace X0 := X0.kp S.kept
        replace c0 := X0.cell
        replace f0 := X0.froz
        replace X2 : Bx V7 b2 [.int .i64 id, .int .i64 (m : Int), .int .i64 (vw : Int), .bool true, .int .i64 (vw : Int), .slice (some ⟨gl, 0, none⟩) n c, .int .i64 (cm : Int), .slice sa (k + 1) sc, .slice none 0 0, .slice none 0 0] := S.bx
        replace c2 := X2.cell
        replace f2 := X2.froz
        replace L5 := L5.kept S.kept (by omega)
        replace hL5 := Nat.le_trans hL5 S.kept.size
        replace KP := KP.low (S.kept.below _ (by omega) KP.size)
        replace D := h.move KP (D.src.kept S.kept (by omega))
        clear S
        have k5 := X2.cell 5
        simp only [List.getElem?_cons_succ, List.getElem?_cons_zero] at k5
        clear hZq
        refine hKK _ _ k5 (fun hZq => ?_)
        clear hKK KK
        refine wpAnyH_done (by kernel_rfl) ?_ _
        have HR : Hid (OksSt w V7 g p ac nc cc m gl n c zL uL b0 b2 vw cm xs id (.int .i64 ((k + 1 : Nat) : Int))) := ⟨k + 1, (sa, k + 1, sc), oks ++ [(y : Int)], _, by omega, rfl, X0, X2, (by rw [ints_snoc]; exact HO9.out), NEW.out, L5, hL5, (by omega), D.src, KP⟩
        clear X0 c0 f0 X2 c2 f2 L5 D KP HO8 HO9 NEW k5
        go_wp2
        go_roundw
        case rel => first | exact HR.out | (have := HR.out; simpa using this)
        case measure => simp [intOf]; omega
     ·obtain rfl : k = m := by omega
      obtain ⟨ao, cap, e9, R7, hb9⟩ := owns_slice HO7.out
      simp only [Value.slice.injEq] at e9
      obtain ⟨q1, q2, q3⟩ := e9
      have R8 : RowAt wr true uL wr.heap.size 1 s.1 s.2.1 s.2.2 (ints oks) := by
       rw [q1, q2, q3]
       exact row_lo R7 (fun hn => by have := (HB7.out _ (hb9 hn)).1; exact this)
      have hR8 : wr.heap.size ≤ wr.heap.size := Nat.le_refl _
      have HO8 : Hid (World.ownsRow _ w.heap.size 2 1 (.slice s.1 s.2.1 s.2.2) s.2.1 (ints oks)) := (by rw [← q2] at HO7; exact HO7.out : World.ownsRow _ w.heap.size 2 1 (.slice s.1 s.2.1 s.2.2) s.2.1 (ints oks))
      have hs5 : s.2.1 ≤ 5 := by omega
      have hs1 : s.2.1 ≠ 0 := by omega
      have hz0 : w.heap.size ≤ uL := Nat.le_trans lw4 hzu
      clear q1 q2 q3 R7 hb9 HO7
      have HNB : Hid (∀ x, inR s.1 s.2.1 x → ¬ x = b0) := fun x hx e => by
       obtain ⟨h1, h2⟩ := hx
       have e2 : (Value.slice s.1 s.2.1 s.2.2).ownBlock = some x := by
        obtain ⟨bb, off, e3, _⟩ := R8.cells h1
        rw [h2, e3]; rfl
       exact (HB7.out x e2).2.1 e
      go_wp2_with (first | ((with_reducible refine sm 29 X0 0 [.int .i64 id, .int .i64 (k : Int), .int .i64 (vw : Int), .bool true, .int .i64 (vw : Int), .slice (some ⟨gl, 0, none⟩) n c, .int .i64 (cm : Int), .slice s.1 s.2.1 s.2.2, .slice none 0 0, .slice none 0 0] ?_); intro V5 S; replace X0 : Bx V5 b0 [.int .i64 id, .int .i64 (k : Int), .int .i64 (vw : Int), .bool true, .int .i64 (vw : Int), .slice (some ⟨gl, 0, none⟩) n c, .int .i64 (cm : Int), .slice s.1 s.2.1 s.2.2, .slice none 0 0, .slice none 0 0] := S.bx; replace c0 := X0.cell; replace f0 := X0.froz; replace X2 := X2.kp S.kept; replace c2 := X2.cell; replace f2 := X2.froz; replace L5 := L5.kept S.kept (by omega); replace hL5 := Nat.le_trans hL5 S.kept.size; replace R8 := R8.keptR (S.kept.toS (S := fun x => x = b0) (fun x x1 x2 => by omega)) (fun x hx e => HNB.out x hx e); replace hR8 := Nat.le_trans hR8 S.kept.size; replace KP := KP.low (S.kept.below _ (by omega) KP.size); replace D := h.move KP (D.src.kept S.kept (by omega)); have HO9 : Hid (World.ownsRow _ w.heap.size 2 1 (.slice s.1 s.2.1 s.2.2) s.2.1 (ints oks)) := owns_kept HO8.out S.kept (fun x e => by have := HB7.out x e; omega); clear S))
      refine bodyPost_ret (v := .agg #[.int .i64 id, .int .i64 (k : Int), .int .i64 (vw : Int), .bool true, .int .i64 (vw : Int), .slice (some ⟨gl, 0, none⟩) n c, .int .i64 (cm : Int), .slice s.1 s.2.1 s.2.2, .slice none 0 0, .slice none 0 0]) (by simp [results, Tryz.results120, go_sem, *]) rfl ⟨⟨id, (k : Int), (vw : Int), true, (vw : Int), xs, (cm : Int), oks, [], []⟩, ⟨(some ⟨gl, 0, none⟩, n, c), s, (none, 0, 0), (none, 0, 0), kd0⟩, q, rfl, ?_, ⟨show n ≤ 1000 by omega, show s.2.1 ≤ 1000 by omega, Nat.zero_le _, Nat.zero_le _, fun _ _ => Nat.zero_le _⟩, HO9.out, Or.inl hs1, by omega, D, KP⟩
      exact repAt_ofZ (z5 := zL) (u5 := uL) (z7 := uL) (u7 := wr.heap.size) (z8 := zL) (u8 := zL) (z9 := zL) (u9 := zL) L5 R8 (RowAt.nilR _ _ _ _ _ _ _) ⟨rfl, ElsAt.nil _ _ _ _ _ _ _ _ _ _⟩ ⟨by omega, by omega⟩ ⟨by omega, by omega⟩ ⟨by omega, by omega⟩ ⟨by omega, by omega⟩ (by omega) (by omega) (by omega) (by omega) (by omega) (by omega)
 ·go_wp2_with (first | ((with_reducible refine sm 29 X2 0 [.int .i64 (vi : Int), .int .i64 (m : Int), .int .i64 (vw : Int), .bool false, .int .i64 0, .slice (some ⟨gl, 0, none⟩) n c, .int .i64 0, .slice none 0 0, .slice none 0 0, .slice none 0 0] ?_); intro V1 S; replace X0 := X0.kp S.kept; replace c0 := X0.cell; replace f0 := X0.froz; replace X2 : Bx V1 b2 [.int .i64 (vi : Int), .int .i64 (m : Int), .int .i64 (vw : Int), .bool false, .int .i64 0, .slice (some ⟨gl, 0, none⟩) n c, .int .i64 0, .slice none 0 0, .slice none 0 0, .slice none 0 0] := S.bx; replace c2 := X2.cell; replace f2 := X2.froz; replace L5 := L5.kept S.kept (by omega); replace hL5 := Nat.le_trans hL5 S.kept.size; replace KP := KP.low (S.kept.below _ (by omega) KP.size); replace D := h.move KP (D.src.kept S.kept (by omega)); clear S) | ((with_reducible refine al 29 [.int .i64 0, .int .i64 0, .int .i64 0, .bool false, .int .i64 0, .slice none 0 0, .int .i64 0, .slice none 0 0, .slice none 0 0, .slice none 0 0] ?_); intro b2 W2 N2; have ob2 : w.heap.size ≤ b2 := Nat.le_trans KP.size N2.ge; have o0_b2 := N2.u X0; have oL5_b2 : uL ≤ b2 := Nat.le_trans hL5 N2.ge; replace X0 := N2.r X0; replace c0 := X0.cell; replace f0 := X0.froz; replace L5 := L5.below N2.below; replace hL5 := Nat.le_trans hL5 N2.below.size; replace D := D.below N2.below; replace KP := KP.next N2.below; obtain ⟨X2, c2, f2⟩ := N2.a; clear N2) | fail)
  refine (next_sb D (n + 1) (by simp) (by omega) (by omega) (by omega)).mono ?_
  rintro e u6x ⟨cm, hcm, rfl, D', K', -⟩
  replace X0 := X0.kept K' (by omega)
  replace c0 := X0.cell
  replace f0 := X0.froz
  replace X2 := X2.kept K' (by omega)
  replace c2 := X2.cell
  replace f2 := X2.froz
  replace L5 := L5.kept K' (by omega)
  replace hL5 := Nat.le_trans hL5 K'.size
  replace KP := KP.trans K'
  replace D := D'
  clear D' K'
  go_wp2_with (first | ((with_reducible refine so 2 X2 6 (.int .i64 (cm : Int)) ?_); intro V2 S; replace X0 := X0.kp S.kept; replace c0 := X0.cell; replace f0 := X0.froz; replace X2 : Bx V2 b2 [.int .i64 (vi : Int), .int .i64 (m : Int), .int .i64 (vw : Int), .bool false, .int .i64 0, .slice (some ⟨gl, 0, none⟩) n c, .int .i64 (cm : Int), .slice none 0 0, .slice none 0 0, .slice none 0 0] := S.bx; replace c2 := X2.cell; replace f2 := X2.froz; replace L5 := L5.kept S.kept (by omega); replace hL5 := Nat.le_trans hL5 S.kept.size; replace KP := KP.low (S.kept.below _ (by omega) KP.size); replace D := h.move KP (D.src.kept S.kept (by omega)); clear S) | fail)
  refine (next_sb D (vw + 1) (by simp) (by omega) (by omega) (by omega)).mono ?_
  rintro e u7x ⟨vl, hvl, rfl, D', K', -⟩
  replace X0 := X0.kept K' (by omega)
  replace c0 := X0.cell
  replace f0 := X0.froz
  replace X2 := X2.kept K' (by omega)
  replace c2 := X2.cell
  replace f2 := X2.froz
  replace L5 := L5.kept K' (by omega)
  replace hL5 := Nat.le_trans hL5 K'.size
  replace KP := KP.trans K'
  replace D := D'
  clear D' K'
  go_upto_region 14 with (first | ((with_reducible refine so 2 X2 4 (.int .i64 (vl : Int)) ?_); intro V3 S; replace X0 := X0.kp S.kept; replace c0 := X0.cell; replace f0 := X0.froz; replace X2 : Bx V3 b2 [.int .i64 (vi : Int), .int .i64 (m : Int), .int .i64 (vw : Int), .bool false, .int .i64 (vl : Int), .slice (some ⟨gl, 0, none⟩) n c, .int .i64 (cm : Int), .slice none 0 0, .slice none 0 0, .slice none 0 0] := S.bx; replace c2 := X2.cell; replace f2 := X2.froz; replace L5 := L5.kept S.kept (by omega); replace hL5 := Nat.le_trans hL5 S.kept.size; replace KP := KP.low (S.kept.below _ (by omega) KP.size); replace D := h.move KP (D.src.kept S.kept (by omega)); clear S) | fail)
  obtain ⟨zz, hzz⟩ : ∃ zz, zz = V3.heap.size := ⟨_, rfl⟩
  have lt0 : b0 < zz := by rw [hzz]; exact X0.lt
  have lt2 : b2 < zz := by rw [hzz]; exact X2.lt
  have luz : uL ≤ zz := by rw [hzz]; exact hL5
  have lwz : w.heap.size ≤ zz := by rw [hzz]; exact KP.size
  have lgz : g + 1 ≤ zz := by omega
  have hzl : zz ≤ V3.heap.size := Nat.le_of_eq hzz
  clear hzz
  have A0 : Hid (AskSt w g p ac nc cc m gl n c zL uL b0 b2 vw cm vl vi zz xs 0 0 V3) := ⟨(none, 0, 0), (none, 0, 0), [], [], kd0, _, X0, X2, AD.nil _ _ _, L5, hzl, by omega, D.src, KP⟩
  have lb02 : b0 < b2 := by omega
  clear X0 X2 c0 f0 c2 f2 L5 D KP hL5 hzl
  go_wp2
  go_loopw [6] (fun iv wr => ∃ k : Nat, k ≤ m ∧ iv = .int .i64 k ∧ AskSt w g p ac nc cc m gl n c zL uL b0 b2 vw cm vl vi zz xs k k wr) (fun iv _ => m - (intOf iv).toNat)
  case atStart => exact ⟨0, Nat.zero_le _, rfl, A0.out⟩
  case round =>
   clear A0
   obtain ⟨k, hk, rfl, AS⟩ := hrel
   by_cases hlt : k < m
   ·have hlk : (k : Int) < (m : Int) := by omega
    obtain ⟨s, t, asks, ds, K, q, X0, X2, A, L5, LZ, hq, SS, KP⟩ := AS
    have D := h.move KP SS
    clear SS
    have c0 := X0.cell
    have f0 := X0.froz
    have c2 := X2.cell
    have f2 := X2.froz
    have hL5 : uL ≤ wr.heap.size := Nat.le_trans luz LZ
    go_wp2_with fail
    first | go_frame | skip
    go_cut [] (fun wx => AskSt w g p ac nc cc m gl n c zL uL b0 b2 vw cm vl vi zz xs (k + 1) k wx)
    case first =>
     have DQ : Below wr.heap.size wr wr.drew := (Below.refl _ _).drew
     replace X0 := X0.below DQ
     replace c0 := X0.cell
     replace f0 := X0.froz
     replace X2 := X2.below DQ
     replace c2 := X2.cell
     replace f2 := X2.froz
     replace L5 := L5.below DQ
     replace hL5 := Nat.le_trans hL5 DQ.size
     replace D := D.below DQ
     replace KP := KP.next DQ
     clear DQ
     replace A := A.below (Below.refl _ _).drew
     replace LZ : zz ≤ wr.drew.heap.size := LZ
     refine wp_region_held_drew (S := (fun _ => True)) (by kernel_rfl) trivial (fun hZq => ?_)
     refine tk 0 hZq ?_
     refine tk 2 hZq ?_
     refine wpAnyH_ready (rs := [1, 3]) (by kernel_rfl) (by simp) ?_
     refine (AllReadyH.cons rfl (fun KK hKK => ?_) (AllReadyH.cons rfl (fun KK hKK => ?_) AllReadyH.nil))
     ·rw [if_pos (by simp [Region.wanted])]
      unfold Oper.wp execOp
      go_simp
      clear hZq
      refine hKK _ _ trivial (fun hZq => ?_)
      clear hKK KK
      refine rd1 3 (fun KK hKK => ?_)
      go_simp
      go_at_call 181
      refine (chance_sb D 2 rfl (by omega) (by omega) (by omega)).mono ?_
      rintro e v1 ⟨y, rfl, D', K', -⟩
      replace X0 := X0.kept K' (by omega)
      replace c0 := X0.cell
      replace f0 := X0.froz
      replace X2 := X2.kept K' (by omega)
      replace c2 := X2.cell
      replace f2 := X2.froz
      replace L5 := L5.kept K' (by omega)
      replace hL5 := Nat.le_trans hL5 K'.size
      replace A := A.kept K' lgz
      replace LZ := Nat.le_trans LZ K'.size
      replace KP := KP.trans K'
      replace D := D'
      clear D' K'
      clear hZq
      refine hKK _ _ trivial (fun hZq => ?_)
      clear hKK KK
      refine rd1 4 (fun KK hKK => ?_)
      refine step_litX 26 1 _ [.bool y] 4 (fun _ => by kernel_rfl) ?_
      intro bl Wl Nl
      have bB := Nl.below
      have Xl := Nl.bx
      clear Nl
      replace X0 := X0.below bB
      replace c0 := X0.cell
      replace f0 := X0.froz
      replace X2 := X2.below bB
      replace c2 := X2.cell
      replace f2 := X2.froz
      replace L5 := L5.below bB
      replace hL5 := Nat.le_trans hL5 bB.size
      replace D := D.below bB
      replace KP := KP.next bB
      replace A := A.below bB
      replace LZ := Nat.le_trans LZ bB.size
      clear bB
      clear hZq
      refine hKK _ _ trivial (fun hZq => ?_)
      clear hKK KK
      refine rd1 5 (fun KK hKK => ?_)
      obtain ⟨s', w6, hr, A2, BL⟩ := A.ask y Xl (by omega) LZ
      refine step_append_run rfl _ _ _ _ rfl _ _ rfl rfl _ _ (hr _) ?_
      clear hr Xl A
      replace X0 := X0.low BL lt0
      replace c0 := X0.cell
      replace f0 := X0.froz
      replace X2 := X2.low BL lt2
      replace c2 := X2.cell
      replace f2 := X2.froz
      replace L5 := L5.kept (Kept.ofB BL) (Or.inl luz)
      replace hL5 := Nat.le_trans hL5 BL.size
      replace KP := KP.low (BL.mono lwz)
      replace D := h.move KP (D.src.kept (Kept.ofB BL) (Or.inl (by omega)))
      replace LZ := Nat.le_trans LZ BL.size
      clear BL
      clear hZq
      refine hKK _ _ trivial (fun hZq => ?_)
      clear hKK KK
      refine tk 6 hZq ?_
      refine rd1 7 (fun KK hKK => ?_)
      refine step_oneX 26 X2 8 (.slice s'.1 s'.2.1 s'.2.2) (by simp) (by kernel_rfl) rfl rfl rfl ?_
      intro V7 S
      replace A2 := A2.kept S.kept (by omega)
      replace LZ := Nat.le_trans LZ S.kept.size
      replace X0 := X0.kp S.kept
      replace c0 := X0.cell
      replace f0 := X0.froz
      replace X2 : Bx V7 b2 [.int .i64 (vi : Int), .int .i64 (m : Int), .int .i64 (vw : Int), .bool false, .int .i64 (vl : Int), .slice (some ⟨gl, 0, none⟩) n c, .int .i64 (cm : Int), .slice none 0 0, .slice s'.1 s'.2.1 s'.2.2, .slice t.1 t.2.1 t.2.2] := S.bx
      replace c2 := X2.cell
      replace f2 := X2.froz
      replace L5 := L5.kept S.kept (by omega)
      replace hL5 := Nat.le_trans hL5 S.kept.size
      replace KP := KP.low (S.kept.below _ (by omega) KP.size)
      replace D := h.move KP (D.src.kept S.kept (by omega))
      clear S
      clear hZq
      refine hKK _ _ trivial (fun hZq => ?_)
      clear hKK KK
      refine wpAnyH_done (by kernel_rfl) ?_ _
      go_wp2_with fail
      go_meet
      exact ⟨s', t, _, ds, K, _, X0, X2, A2, L5, LZ, by omega, D.src, KP⟩
     ·go_simp
      go_at_call 181
      refine (chance_sb D 2 rfl (by omega) (by omega) (by omega)).mono ?_
      rintro e v1 ⟨y, rfl, D', K', -⟩
      replace X0 := X0.kept K' (by omega)
      replace c0 := X0.cell
      replace f0 := X0.froz
      replace X2 := X2.kept K' (by omega)
      replace c2 := X2.cell
      replace f2 := X2.froz
      replace L5 := L5.kept K' (by omega)
      replace hL5 := Nat.le_trans hL5 K'.size
      replace A := A.kept K' lgz
      replace LZ := Nat.le_trans LZ K'.size
      replace KP := KP.trans K'
      replace D := D'
      clear D' K'
      clear hZq
      refine hKK _ _ trivial (fun hZq => ?_)
      clear hKK KK
      refine wpAnyH_ready (rs := [1, 4]) (by kernel_rfl) (by simp) ?_
      refine (AllReadyH.cons rfl (fun KK hKK => ?_) (AllReadyH.cons rfl (fun KK hKK => ?_) AllReadyH.nil))
      ·rw [if_pos (by simp [Region.wanted])]
       unfold Oper.wp execOp
       go_simp
       clear hZq
       refine hKK _ _ trivial (fun hZq => ?_)
       clear hKK KK
       refine rd1 4 (fun KK hKK => ?_)
       refine step_litX 26 1 _ [.bool y] 4 (fun _ => by kernel_rfl) ?_
       intro bl Wl Nl
       have bB := Nl.below
       have Xl := Nl.bx
       clear Nl
       replace X0 := X0.below bB
       replace c0 := X0.cell
       replace f0 := X0.froz
       replace X2 := X2.below bB
       replace c2 := X2.cell
       replace f2 := X2.froz
       replace L5 := L5.below bB
       replace hL5 := Nat.le_trans hL5 bB.size
       replace D := D.below bB
       replace KP := KP.next bB
       replace A := A.below bB
       replace LZ := Nat.le_trans LZ bB.size
       clear bB
       clear hZq
       refine hKK _ _ trivial (fun hZq => ?_)
       clear hKK KK
       refine rd1 5 (fun KK hKK => ?_)
       obtain ⟨s', w6, hr, A2, BL⟩ := A.ask y Xl (by omega) LZ
       refine step_append_run rfl _ _ _ _ rfl _ _ rfl rfl _ _ (hr _) ?_
       clear hr Xl A
       replace X0 := X0.low BL lt0
       replace c0 := X0.cell
       replace f0 := X0.froz
       replace X2 := X2.low BL lt2
       replace c2 := X2.cell
       replace f2 := X2.froz
       replace L5 := L5.kept (Kept.ofB BL) (Or.inl luz)
       replace hL5 := Nat.le_trans hL5 BL.size
       replace KP := KP.low (BL.mono lwz)
       replace D := h.move KP (D.src.kept (Kept.ofB BL) (Or.inl (by omega)))
       replace LZ := Nat.le_trans LZ BL.size
       clear BL
       clear hZq
       refine hKK _ _ trivial (fun hZq => ?_)
       clear hKK KK
       refine tk 6 hZq ?_
       refine rd1 7 (fun KK hKK => ?_)
       refine step_oneX 26 X2 8 (.slice s'.1 s'.2.1 s'.2.2) (by simp) (by kernel_rfl) rfl rfl rfl ?_
       intro V7 S
       replace A2 := A2.kept S.kept (by omega)
       replace LZ := Nat.le_trans LZ S.kept.size
       replace X0 := X0.kp S.kept
       replace c0 := X0.cell
       replace f0 := X0.froz
       replace X2 : Bx V7 b2 [.int .i64 (vi : Int), .int .i64 (m : Int), .int .i64 (vw : Int), .bool false, .int .i64 (vl : Int), .slice (some ⟨gl, 0, none⟩) n c, .int .i64 (cm : Int), .slice none 0 0, .slice s'.1 s'.2.1 s'.2.2, .slice t.1 t.2.1 t.2.2] := S.bx
       replace c2 := X2.cell
       replace f2 := X2.froz
       replace L5 := L5.kept S.kept (by omega)
       replace hL5 := Nat.le_trans hL5 S.kept.size
       replace KP := KP.low (S.kept.below _ (by omega) KP.size)
       replace D := h.move KP (D.src.kept S.kept (by omega))
       clear S
       clear hZq
       refine hKK _ _ trivial (fun hZq => ?_)
       clear hKK KK
       refine wpAnyH_done (by kernel_rfl) ?_ _
       go_wp2_with fail
       go_meet
       exact ⟨s', t, _, ds, K, _, X0, X2, A2, L5, LZ, by omega, D.src, KP⟩
      ·refine step_litX 26 1 _ [.bool y] 4 (fun _ => by kernel_rfl) ?_
       intro bl Wl Nl
       have bB := Nl.below
       have Xl := Nl.bx
       clear Nl
       replace X0 := X0.below bB
       replace c0 := X0.cell
       replace f0 := X0.froz
       replace X2 := X2.below bB
       replace c2 := X2.cell
       replace f2 := X2.froz
       replace L5 := L5.below bB
       replace hL5 := Nat.le_trans hL5 bB.size
       replace D := D.below bB
       replace KP := KP.next bB
       replace A := A.below bB
       replace LZ := Nat.le_trans LZ bB.size
       clear bB
       clear hZq
       refine hKK _ _ trivial (fun hZq => ?_)
       clear hKK KK
       refine rd1 1 (fun KK hKK => ?_)
       rw [if_pos (by simp [Region.wanted])]
       unfold Oper.wp execOp
       go_simp
       clear hZq
       refine hKK _ _ trivial (fun hZq => ?_)
       clear hKK KK
       refine rd1 5 (fun KK hKK => ?_)
       obtain ⟨s', w6, hr, A2, BL⟩ := A.ask y Xl (by omega) LZ
       refine step_append_run rfl _ _ _ _ rfl _ _ rfl rfl _ _ (hr _) ?_
       clear hr Xl A
       replace X0 := X0.low BL lt0
       replace c0 := X0.cell
       replace f0 := X0.froz
       replace X2 := X2.low BL lt2
       replace c2 := X2.cell
       replace f2 := X2.froz
       replace L5 := L5.kept (Kept.ofB BL) (Or.inl luz)
       replace hL5 := Nat.le_trans hL5 BL.size
       replace KP := KP.low (BL.mono lwz)
       replace D := h.move KP (D.src.kept (Kept.ofB BL) (Or.inl (by omega)))
       replace LZ := Nat.le_trans LZ BL.size
       clear BL
       clear hZq
       refine hKK _ _ trivial (fun hZq => ?_)
       clear hKK KK
       refine tk 6 hZq ?_
       refine rd1 7 (fun KK hKK => ?_)
       refine step_oneX 26 X2 8 (.slice s'.1 s'.2.1 s'.2.2) (by simp) (by kernel_rfl) rfl rfl rfl ?_
       intro V7 S
       replace A2 := A2.kept S.kept (by omega)
       replace LZ := Nat.le_trans LZ S.kept.size
       replace X0 := X0.kp S.kept
       replace c0 := X0.cell
       replace f0 := X0.froz
       replace X2 : Bx V7 b2 [.int .i64 (vi : Int), .int .i64 (m : Int), .int .i64 (vw : Int), .bool false, .int .i64 (vl : Int), .slice (some ⟨gl, 0, none⟩) n c, .int .i64 (cm : Int), .slice none 0 0, .slice s'.1 s'.2.1 s'.2.2, .slice t.1 t.2.1 t.2.2] := S.bx
       replace c2 := X2.cell
       replace f2 := X2.froz
       replace L5 := L5.kept S.kept (by omega)
       replace hL5 := Nat.le_trans hL5 S.kept.size
       replace KP := KP.low (S.kept.below _ (by omega) KP.size)
       replace D := h.move KP (D.src.kept S.kept (by omega))
       clear S
       clear hZq
       refine hKK _ _ trivial (fun hZq => ?_)
       clear hKK KK
       refine wpAnyH_done (by kernel_rfl) ?_ _
       go_wp2_with fail
       go_meet
       exact ⟨s', t, _, ds, K, _, X0, X2, A2, L5, LZ, by omega, D.src, KP⟩
    case rest =>
     clear c0 f0 c2 f2 D KP X0 X2 L5 hL5 A LZ hq
     clear s t asks ds K q
     obtain ⟨s, t, asks, ds, K, q, X0, X2, A, L5, LZ, hq, SS, KP⟩ := hcut
     have D := h.move KP SS
     clear SS
     have c0 := X0.cell
     have f0 := X0.froz
     have c2 := X2.cell
     have f2 := X2.froz
     have hL5 : uL ≤ wc.heap.size := Nat.le_trans luz LZ
     skip
     have KX : Kept g (g + 1) wc wc := Kept.refl _ _ _
     have ob2 := lb02
     go_wp2_with fail
     refine (chance_sb D 2 rfl (by omega) (by omega) (by omega)).mono ?_
     rintro e x1 ⟨kn, rfl, D', K', -⟩
     replace X0 := X0.kept K' (by omega)
     replace c0 := X0.cell
     replace f0 := X0.froz
     replace X2 := X2.kept K' (by omega)
     replace c2 := X2.cell
     replace f2 := X2.froz
     replace L5 := L5.kept K' (by omega)
     replace hL5 := Nat.le_trans hL5 K'.size
     replace KX := KX.trans K'
     replace KP := KP.trans K'
     replace D := D'
     clear D' K'
     cases kn
     ·go_upto_region 23 with (first | ((with_reducible refine sm 158 X3 0 [.bool false, .int .i64 0, .slice none 0 0, .int .i64 0] ?_); intro V4 S; replace X0 := X0.kp S.kept; replace c0 := X0.cell; replace f0 := X0.froz; replace X2 := X2.kp S.kept; replace c2 := X2.cell; replace f2 := X2.froz; replace X3 : Bx V4 b3 [.bool false, .int .i64 0, .slice none 0 0, .int .i64 0] := S.bx; replace c3 := X3.cell; replace f3 := X3.froz; replace L5 := L5.kept S.kept (by omega); replace hL5 := Nat.le_trans hL5 S.kept.size; replace KP := KP.low (S.kept.below _ (by omega) KP.size); replace D := h.move KP (D.src.kept S.kept (by omega)); replace KX := KX.low (S.kept.below _ (by omega) KX.size); clear S) | ((have g := ob2); clear g; (with_reducible refine al 158 [.bool false, .int .i64 0, .slice none 0 0, .int .i64 0] ?_); intro b3 W3 N3; have ob3 : w.heap.size ≤ b3 := Nat.le_trans KP.size N3.ge; have o0_b3 := N3.u X0; have o2_b3 := N3.u X2; have oL5_b3 : uL ≤ b3 := Nat.le_trans hL5 N3.ge; have KX_b3 : wc.heap.size ≤ b3 := Nat.le_trans KX.size N3.ge; replace X0 := N3.r X0; replace c0 := X0.cell; replace f0 := X0.froz; replace X2 := N3.r X2; replace c2 := X2.cell; replace f2 := X2.froz; replace L5 := L5.below N3.below; replace hL5 := Nat.le_trans hL5 N3.below.size; replace D := D.below N3.below; replace KP := KP.next N3.below; replace KX := KX.next N3.below; obtain ⟨X3, c3, f3⟩ := N3.a; clear N3) | fail)
      go_upto_region 16 with (first | ((with_reducible refine so 27 X2 9 (.slice t'.1 t'.2.1 t'.2.2) ?_); intro V5 S; replace X0 := X0.kp S.kept; replace c0 := X0.cell; replace f0 := X0.froz; replace X2 : Bx V5 b2 [.int .i64 (vi : Int), .int .i64 (m : Int), .int .i64 (vw : Int), .bool false, .int .i64 (vl : Int), .slice (some ⟨gl, 0, none⟩) n c, .int .i64 (cm : Int), .slice none 0 0, .slice s.1 s.2.1 s.2.2, .slice t'.1 t'.2.1 t'.2.2] := S.bx; replace c2 := X2.cell; replace f2 := X2.froz; replace L5 := L5.kept S.kept (by omega); replace hL5 := Nat.le_trans hL5 S.kept.size; replace KP := KP.low (S.kept.below _ (by omega) KP.size); replace D := h.move KP (D.src.kept S.kept (by omega)); replace HA2 : Hid (AD V5 zz (k + 1) (k + 1) s t' asks _ K2) := HA2.out.kept S.kept (by omega); replace LZ6 := Nat.le_trans LZ6 S.kept.size; clear S) | (at_builtin; refine Lib.wpList_append_run _ rfl _ _ _ _ rfl _ _ rfl rfl _ _ (hr _) ?_; replace X0 := X0.low BL lt0; replace c0 := X0.cell; replace f0 := X0.froz; replace X2 := X2.low BL lt2; replace c2 := X2.cell; replace f2 := X2.froz; replace L5 := L5.kept (Kept.ofB BL) (Or.inl luz); replace hL5 := Nat.le_trans hL5 BL.size; replace KP := KP.low (BL.mono lwz); replace D := h.move KP (D.src.kept (Kept.ofB BL) (Or.inl (by omega))); have LZ6 : zz ≤ w6.heap.size := Nat.le_trans (Nat.le_trans LZ KX.size) BL.size; clear BL X3 c3 f3 X4 c4 KX) | ((have g := ob3); clear g; (with_reducible refine lit_newX 27 1 _ [.bool false, .int .i64 0, .slice none 0 0, .int .i64 0] 158 (fun _ => by kernel_rfl)  ?_); intro b4 W4 N4; have ob4 : w.heap.size ≤ b4 := Nat.le_trans KP.size N4.ge; have o0_b4 := N4.u X0; have o2_b4 := N4.u X2; have o3_b4 := N4.u X3; have oL5_b4 : uL ≤ b4 := Nat.le_trans hL5 N4.ge; have KX_b4 : wc.heap.size ≤ b4 := Nat.le_trans KX.size N4.ge; replace X0 := N4.r X0; replace c0 := X0.cell; replace f0 := X0.froz; replace X2 := N4.r X2; replace c2 := X2.cell; replace f2 := X2.froz; replace X3 := N4.r X3; replace c3 := X3.cell; replace f3 := X3.froz; replace L5 := L5.below N4.below; replace hL5 := Nat.le_trans hL5 N4.below.size; replace D := D.below N4.below; replace KP := KP.next N4.below; replace KX := KX.next N4.below; obtain ⟨X4, c4⟩ := N4.c; clear N4; obtain ⟨t', K2, w6, hr, A2, BL⟩ := AD.doer (A.kept KX lgz) (false, 0, [], 0) (none, 0, 0) X4 (RowAt.nilR _ _ _ _ _ _ _) (by first | exact hn2 | (show 0 ≤ 8; omega)) (fun h0 => absurd rfl h0) (by omega) (Nat.le_trans LZ KX.size); have HA2 : Hid (AD w6 zz (k + 1) (k + 1) s t' asks _ K2) := A2; clear A2) | fail)
      have HR : Hid (AskSt w g p ac nc cc m gl n c zL uL b0 b2 vw cm vl vi zz xs (k + 1) (k + 1) V5) := ⟨s, t', asks, _, K2, _, X0, X2, HA2.out, L5, LZ6, by omega, D.src, KP⟩
      clear X0 c0 f0 X2 c2 f2 L5 D KP HA2 LZ6 hL5 hr
      go_wp2
      go_roundw
      case rel => exact ⟨k + 1, by omega, by go_num, HR.out⟩
      case measure => simp [intOf]; omega
     ·go_wp2_with (first | ((with_reducible refine sm 158 X3 0 [.bool true, .int .i64 0, .slice none 0 0, .int .i64 0] ?_); intro V4 S; replace X0 := X0.kp S.kept; replace c0 := X0.cell; replace f0 := X0.froz; replace X2 := X2.kp S.kept; replace c2 := X2.cell; replace f2 := X2.froz; replace X3 : Bx V4 b3 [.bool true, .int .i64 0, .slice none 0 0, .int .i64 0] := S.bx; replace c3 := X3.cell; replace f3 := X3.froz; replace L5 := L5.kept S.kept (by omega); replace hL5 := Nat.le_trans hL5 S.kept.size; replace KP := KP.low (S.kept.below _ (by omega) KP.size); replace D := h.move KP (D.src.kept S.kept (by omega)); replace KX := KX.low (S.kept.below _ (by omega) KX.size); clear S) | ((have g := ob2); clear g; (with_reducible refine al 158 [.bool false, .int .i64 0, .slice none 0 0, .int .i64 0] ?_); intro b3 W3 N3; have ob3 : w.heap.size ≤ b3 := Nat.le_trans KP.size N3.ge; have o0_b3 := N3.u X0; have o2_b3 := N3.u X2; have oL5_b3 : uL ≤ b3 := Nat.le_trans hL5 N3.ge; have KX_b3 : wc.heap.size ≤ b3 := Nat.le_trans KX.size N3.ge; replace X0 := N3.r X0; replace c0 := X0.cell; replace f0 := X0.froz; replace X2 := N3.r X2; replace c2 := X2.cell; replace f2 := X2.froz; replace L5 := L5.below N3.below; replace hL5 := Nat.le_trans hL5 N3.below.size; replace D := D.below N3.below; replace KP := KP.next N3.below; replace KX := KX.next N3.below; obtain ⟨X3, c3, f3⟩ := N3.a; clear N3) | fail)
      refine (next_sb D 4 rfl (by omega) (by omega) (by omega)).mono ?_
      rintro e x2 ⟨la, hla, rfl, D', K', -⟩
      replace X0 := X0.kept K' (by omega)
      replace c0 := X0.cell
      replace f0 := X0.froz
      replace X2 := X2.kept K' (by omega)
      replace c2 := X2.cell
      replace f2 := X2.froz
      replace X3 := X3.kept K' (by omega)
      replace c3 := X3.cell
      replace f3 := X3.froz
      replace L5 := L5.kept K' (by omega)
      replace hL5 := Nat.le_trans hL5 K'.size
      replace KX := KX.trans K'
      replace KP := KP.trans K'
      replace D := D'
      clear D' K'
      go_wp2_with (first | ((with_reducible refine so 2 X3 1 (.int .i64 (la : Int)) ?_); intro V5 S; replace X0 := X0.kp S.kept; replace c0 := X0.cell; replace f0 := X0.froz; replace X2 := X2.kp S.kept; replace c2 := X2.cell; replace f2 := X2.froz; replace X3 : Bx V5 b3 [.bool true, .int .i64 (la : Int), .slice none 0 0, .int .i64 0] := S.bx; replace c3 := X3.cell; replace f3 := X3.froz; replace L5 := L5.kept S.kept (by omega); replace hL5 := Nat.le_trans hL5 S.kept.size; replace KP := KP.low (S.kept.below _ (by omega) KP.size); replace D := h.move KP (D.src.kept S.kept (by omega)); replace KX := KX.low (S.kept.below _ (by omega) KX.size); clear S) | fail)
      refine (l8Log_any g _ ac nc cc bs _ D (by omega)).mono ?_
      rintro e x3 ⟨gl2, n2, cc2, xs2, p2, rfl, hn2, OA, hp2, D', K'⟩
      obtain ⟨_, _, eA, M9⟩ := RowAt.of_owned OA
      cases eA
      clear OA
      obtain ⟨zM, hzM⟩ : ∃ zM, zM = V5.heap.size := ⟨_, rfl⟩
      rw [← hzM] at M9
      have o3M : b3 < zM := by rw [hzM]; exact X3.lt
      have KXM : wc.heap.size ≤ zM := by rw [hzM]; exact KX.size
      obtain ⟨uM, huM⟩ : ∃ uM, uM = x3.heap.size := ⟨_, rfl⟩
      rw [← huM] at M9
      have hM9 : uM ≤ x3.heap.size := Nat.le_of_eq huM
      clear hzM huM
      replace X0 := X0.kept K' (by omega)
      replace c0 := X0.cell
      replace f0 := X0.froz
      replace X2 := X2.kept K' (by omega)
      replace c2 := X2.cell
      replace f2 := X2.froz
      replace X3 := X3.kept K' (by omega)
      replace c3 := X3.cell
      replace f3 := X3.froz
      replace L5 := L5.kept K' (by omega)
      replace hL5 := Nat.le_trans hL5 K'.size
      replace KX := KX.trans K'
      replace KP := KP.trans K'
      replace D := D'
      clear D' K'
      have l02 : b2 < zM := by omega
      have l00 : b0 < zM := by omega
      have wn2 : IntKind.i64.wrap ((n2 : Int) + 1) = (n2 : Int) + 1 := wrapI_same _ (by omega)
      go_wp2_with (first | ((with_reducible refine so 24 X3 2 (.slice (some ⟨gl2, 0, none⟩) n2 cc2) ?_); intro V6 S; replace X0 := X0.kp S.kept; replace c0 := X0.cell; replace f0 := X0.froz; replace X2 := X2.kp S.kept; replace c2 := X2.cell; replace f2 := X2.froz; replace X3 : Bx V6 b3 [.bool true, .int .i64 (la : Int), .slice (some ⟨gl2, 0, none⟩) n2 cc2, .int .i64 0] := S.bx; replace c3 := X3.cell; replace f3 := X3.froz; replace L5 := L5.kept S.kept (by omega); replace hL5 := Nat.le_trans hL5 S.kept.size; replace M9 := M9.kept S.kept (by omega); replace hM9 := Nat.le_trans hM9 S.kept.size; replace KP := KP.low (S.kept.below _ (by omega) KP.size); replace D := h.move KP (D.src.kept S.kept (by omega)); replace KX := KX.low (S.kept.below _ (by omega) KX.size); clear S) | fail)
      refine (next_sb D (n2 + 1) (by simp) (by omega) (by omega) (by omega)).mono ?_
      rintro e x4 ⟨cm2, hcm2, rfl, D', K', -⟩
      replace X0 := X0.kept K' (by omega)
      replace c0 := X0.cell
      replace f0 := X0.froz
      replace X2 := X2.kept K' (by omega)
      replace c2 := X2.cell
      replace f2 := X2.froz
      replace X3 := X3.kept K' (by omega)
      replace c3 := X3.cell
      replace f3 := X3.froz
      replace L5 := L5.kept K' (by omega)
      replace hL5 := Nat.le_trans hL5 K'.size
      replace M9 := M9.kept K' (by omega)
      replace hM9 := Nat.le_trans hM9 K'.size
      replace KX := KX.trans K'
      replace KP := KP.trans K'
      replace D := D'
      clear D' K'
      go_upto_region 23 with (first | ((with_reducible refine so 2 X3 3 (.int .i64 (cm2 : Int)) ?_); intro V7 S; replace X0 := X0.kp S.kept; replace c0 := X0.cell; replace f0 := X0.froz; replace X2 := X2.kp S.kept; replace c2 := X2.cell; replace f2 := X2.froz; replace X3 : Bx V7 b3 [.bool true, .int .i64 (la : Int), .slice (some ⟨gl2, 0, none⟩) n2 cc2, .int .i64 (cm2 : Int)] := S.bx; replace c3 := X3.cell; replace f3 := X3.froz; replace L5 := L5.kept S.kept (by omega); replace hL5 := Nat.le_trans hL5 S.kept.size; replace M9 := M9.kept S.kept (by omega); replace hM9 := Nat.le_trans hM9 S.kept.size; replace KP := KP.low (S.kept.below _ (by omega) KP.size); replace D := h.move KP (D.src.kept S.kept (by omega)); replace KX := KX.low (S.kept.below _ (by omega) KX.size); clear S) | fail)
      go_upto_region 16 with (first | ((with_reducible refine so 27 X2 9 (.slice t'.1 t'.2.1 t'.2.2) ?_); intro V8 S; replace X0 := X0.kp S.kept; replace c0 := X0.cell; replace f0 := X0.froz; replace X2 : Bx V8 b2 [.int .i64 (vi : Int), .int .i64 (m : Int), .int .i64 (vw : Int), .bool false, .int .i64 (vl : Int), .slice (some ⟨gl, 0, none⟩) n c, .int .i64 (cm : Int), .slice none 0 0, .slice s.1 s.2.1 s.2.2, .slice t'.1 t'.2.1 t'.2.2] := S.bx; replace c2 := X2.cell; replace f2 := X2.froz; replace L5 := L5.kept S.kept (by omega); replace hL5 := Nat.le_trans hL5 S.kept.size; replace KP := KP.low (S.kept.below _ (by omega) KP.size); replace D := h.move KP (D.src.kept S.kept (by omega)); replace HA2 : Hid (AD V8 zz (k + 1) (k + 1) s t' asks _ K2) := HA2.out.kept S.kept (by omega); replace LZ6 := Nat.le_trans LZ6 S.kept.size; clear S) | (at_builtin; refine Lib.wpList_append_run _ rfl _ _ _ _ rfl _ _ rfl rfl _ _ (hr _) ?_; replace X0 := X0.low BL lt0; replace c0 := X0.cell; replace f0 := X0.froz; replace X2 := X2.low BL lt2; replace c2 := X2.cell; replace f2 := X2.froz; replace L5 := L5.kept (Kept.ofB BL) (Or.inl luz); replace hL5 := Nat.le_trans hL5 BL.size; replace KP := KP.low (BL.mono lwz); replace D := h.move KP (D.src.kept (Kept.ofB BL) (Or.inl (by omega))); have LZ6 : zz ≤ w6.heap.size := Nat.le_trans (Nat.le_trans LZ KX.size) BL.size; clear BL X3 c3 f3 X4 c4 KX M9 hM9) | ((have g := ob3); clear g; (with_reducible refine lit_newX 27 1 _ [.bool true, .int .i64 (la : Int), .slice (some ⟨gl2, 0, none⟩) n2 cc2, .int .i64 (cm2 : Int)] 158 (fun _ => by kernel_rfl)  ?_); intro b4 W4 N4; have ob4 : w.heap.size ≤ b4 := Nat.le_trans KP.size N4.ge; have o0_b4 := N4.u X0; have o2_b4 := N4.u X2; have o3_b4 := N4.u X3; have oL5_b4 : uL ≤ b4 := Nat.le_trans hL5 N4.ge; have oM9_b4 : uM ≤ b4 := Nat.le_trans hM9 N4.ge; have KX_b4 : wc.heap.size ≤ b4 := Nat.le_trans KX.size N4.ge; replace X0 := N4.r X0; replace c0 := X0.cell; replace f0 := X0.froz; replace X2 := N4.r X2; replace c2 := X2.cell; replace f2 := X2.froz; replace X3 := N4.r X3; replace c3 := X3.cell; replace f3 := X3.froz; replace L5 := L5.below N4.below; replace hL5 := Nat.le_trans hL5 N4.below.size; replace M9 := M9.below N4.below; replace hM9 := Nat.le_trans hM9 N4.below.size; replace D := D.below N4.below; replace KP := KP.next N4.below; replace KX := KX.next N4.below; obtain ⟨X4, c4⟩ := N4.c; clear N4; obtain ⟨t', K2, w6, hr, A2, BL⟩ := AD.doer (A.kept KX lgz) (true, (la : Int), xs2, (cm2 : Int)) (some ⟨gl2, 0, none⟩, n2, cc2) X4 (M9.widen (by omega) hM9) (by first | exact hn2 | (show 0 ≤ 8; omega)) (fun h0 => A.fresh gl2 (by have := (M9.inB (k := gl2) ⟨h0, rfl⟩).1; omega)) (by omega) (Nat.le_trans LZ KX.size); have HA2 : Hid (AD w6 zz (k + 1) (k + 1) s t' asks _ K2) := A2; clear A2) | fail)
      have HR : Hid (AskSt w g p ac nc cc m gl n c zL uL b0 b2 vw cm vl vi zz xs (k + 1) (k + 1) V8) := ⟨s, t', asks, _, K2, _, X0, X2, HA2.out, L5, LZ6, by omega, D.src, KP⟩
      clear X0 c0 f0 X2 c2 f2 L5 D KP HA2 LZ6 hL5 hr
      go_wp2
      go_roundw
      case rel => exact ⟨k + 1, by omega, by go_num, HR.out⟩
      case measure => simp [intOf]; omega
   ·obtain rfl : k = m := by omega
    obtain ⟨s, t, asks, ds, K, q, X0, X2, A, L5, LZ, hq, SS, KP⟩ := AS
    have D := h.move KP SS
    clear SS
    have c0 := X0.cell
    have f0 := X0.froz
    have c2 := X2.cell
    have f2 := X2.froz
    have hL5 : uL ≤ wr.heap.size := Nat.le_trans luz LZ
    obtain ⟨_, _, -, -, -, -, es1, es2, -⟩ := A.lists
    have ESK : Hid (∀ i, i < t.2.1 → (K i).2.1 ≤ 1000) := fun i hi => by
     have := A.small i (by rw [← es2]; exact hi)
     omega
    have es1' : s.2.1 ≤ 1000 := by omega
    have es2' : t.2.1 ≤ 1000 := by omega
    clear es1 es2
    go_wp2_with (first | ((with_reducible refine sm 29 X0 0 [.int .i64 (vi : Int), .int .i64 (k : Int), .int .i64 (vw : Int), .bool false, .int .i64 (vl : Int), .slice (some ⟨gl, 0, none⟩) n c, .int .i64 (cm : Int), .slice none 0 0, .slice s.1 s.2.1 s.2.2, .slice t.1 t.2.1 t.2.2] ?_); intro V9 S; replace X0 : Bx V9 b0 [.int .i64 (vi : Int), .int .i64 (k : Int), .int .i64 (vw : Int), .bool false, .int .i64 (vl : Int), .slice (some ⟨gl, 0, none⟩) n c, .int .i64 (cm : Int), .slice none 0 0, .slice s.1 s.2.1 s.2.2, .slice t.1 t.2.1 t.2.2] := S.bx; replace c0 := X0.cell; replace f0 := X0.froz; replace X2 := X2.kp S.kept; replace c2 := X2.cell; replace f2 := X2.froz; replace L5 := L5.kept S.kept (by omega); replace hL5 := Nat.le_trans hL5 S.kept.size; replace KP := KP.low (S.kept.below _ (by omega) KP.size); replace D := h.move KP (D.src.kept S.kept (by omega)); replace A := A.kept S.kept (by omega); replace LZ := Nat.le_trans LZ S.kept.size; clear S))
    refine bodyPost_ret (v := .agg #[.int .i64 (vi : Int), .int .i64 (k : Int), .int .i64 (vw : Int), .bool false, .int .i64 (vl : Int), .slice (some ⟨gl, 0, none⟩) n c, .int .i64 (cm : Int), .slice none 0 0, .slice s.1 s.2.1 s.2.2, .slice t.1 t.2.1 t.2.2]) (by simp [results, Tryz.results120, go_sem, *]) rfl ⟨⟨(vi : Int), (k : Int), (vw : Int), false, (vl : Int), xs, (cm : Int), [], asks, ds⟩, ⟨(some ⟨gl, 0, none⟩, n, c), (none, 0, 0), s, t, K⟩, q, rfl, ?_, ⟨show n ≤ 1000 by omega, Nat.zero_le _, es1', es2', ESK.out⟩, ?_, Or.inr rfl, ?_, ?_, KP⟩
    rotate_left 1
    exact World.ownsRow_nil _ _ _ _
    clear ESK es1' es2' X0 c0 f0 X2 c2 f2 A L5 D KP
    omega
    exact D
    exact A.rep L5 luz (by omega) LZ lwz
end Go.Proofs.YtonclmbihhdkpaaGreat
