/- Chapter 9: lists that are drawn. -/
import Derived.Test.YtannjgdginfgeaaWU
import Derived.Test.YtannjgdginfgeaaXC
import Derived.Test.YtannjgdginfgeaaYD
import Derived.Test.YtannjgdginfgeaaYE
import Derived.Test.YtannjgdginfgeaaZA
import Derived.Test.YtannjgdginfgeaaXA
import Derived.Test.YtannjgdginfgeaaYN
import Derived.Test.YtannjgdginfgeaaWS
namespace Go.Proofs.Ytannjgdginfgeaa
open Go.RowKit

theorem GrowAt.keptS {sz : Nat} {w w' : World} {base : Nat} {T : TypeId} {v : Value} {n : Nat} {F : Nat → Nat → Value} {K : Nat → Hd} {L : Nat → List En} (h : GrowAt sz w base T v n F K L) {S : Nat → Prop} (hk : KeptS S w w') (h1 : ∀ x, v.ownBlock = some x → ¬ S x) (h2 : ∀ i, i < n → (K i).2.1 ≠ 0 → ¬ S (sb (K i).1)) : GrowAt sz w' base T v n F K L :=
  ⟨owns_keptS h.own hk h1, fun i hi => ((h.logs i hi).keptR hk (fun k q => by obtain ⟨q1, q2⟩ := q; rw [q2]; exact h2 i hi q1)).widen (Nat.le_refl _) hk.size, h.sep⟩
/-- one more doer -/
theorem doer_snoc {W : World} {base b1 : Nat} {v : Value} {K : Nat → Hd} {ds : List Dr} {d : Dr} {hd : Hd} (G : GrowAt 4 W base 113 v ds.length (drF K ds) K (drL ds)) (X1 : Bx W b1 [.bool d.1, .int .i64 d.2.1, .slice hd.1 hd.2.1 hd.2.2, .int .i64 d.2.2.2]) (R : RowAt W true base W.heap.size 6 hd.1 hd.2.1 hd.2.2 (sixs d.2.2.1)) (hsep : hd.2.1 ≠ 0 → v.ownBlock ≠ some (sb hd.1) ∧ ∀ j, j < ds.length → (K j).2.1 ≠ 0 → sb (K j).1 ≠ sb hd.1) (hbase : base ≤ W.heap.size) (hn : ds.length ≤ 1000) :
    ∃ v' w', (∀ ty, (Builtin.append_ #[62, 62] ty #[v, .slice (some ⟨b1, 0, none⟩) 1 1]).run Try.prog W = .ok v' w') ∧ GrowAt 4 w' base 113 v' (ds.length + 1) (drF (fun j => if j = ds.length then hd else K j) (ds ++ [d])) (fun j => if j = ds.length then hd else K j) (drL (ds ++ [d])) ∧ KeptS (fun k => v.ownBlock = some k) W w' ∧ (v'.ownBlock = v.ownBlock ∨ v'.ownBlock = some W.heap.size) := by
  obtain ⟨i2, hi2, ha2, hb2, hc2⟩ := info_parts Try.infoDoer
  obtain ⟨K2, hK2⟩ : ∃ K2 : Nat → Hd, K2 = fun j => if j = ds.length then hd else K j := ⟨_, rfl⟩
  have e1K : K2 ds.length = hd := by rw [hK2]; simp
  have e2K : ∀ j, j < ds.length → K2 j = K j := fun j hj => by rw [hK2]; simp [Nat.ne_of_lt hj]
  have eo : ∀ i, i < ds.length → (ds ++ [d]).getD i dr0 = ds.getD i dr0 := fun i hi => by simp [List.getD, List.getElem?_append_left hi]
  have en : (ds ++ [d]).getD ds.length dr0 = d := by simp [List.getD]
  have LR : RowAt W false b1 (b1 + 1) 4 (some ⟨b1, 0, none⟩) 1 1 [.bool d.1, .int .i64 d.2.1, .slice hd.1 hd.2.1 hd.2.2, .int .i64 d.2.2.2] := ⟨by simp, Nat.le_refl _, fun _ => ⟨b1, 0, rfl, Nat.le_refl _, Nat.lt_succ_self _, X1.lt, fun i hi => by rw [Nat.zero_add, X1.cell i, List.getD_eq_getElem?_getD, List.getElem?_eq_getElem (by simpa using hi)]; rfl, fun z => by cases z⟩⟩
  have ND : (List.range 4).map (drF K2 (ds ++ [d]) ds.length) = [.bool d.1, .int .i64 d.2.1, .slice hd.1 hd.2.1 hd.2.2, .int .i64 d.2.2.2] := by
    have : (List.range 4).map (drF K2 (ds ++ [d]) ds.length) = [.bool ((ds ++ [d]).getD ds.length dr0).1, .int .i64 ((ds ++ [d]).getD ds.length dr0).2.1, hv (K2 ds.length), .int .i64 ((ds ++ [d]).getD ds.length dr0).2.2.2] := rfl
    rw [this, en, e1K]; rfl
  obtain ⟨v', w', hr, G2, KS, BB⟩ := GrowAt.snoc (P := Try.prog) G 62 i2 (.agg #[.bool false, .int .i64 0, .slice none 0 0, .int .i64 0]) 48 Try.underlying62 hi2 ha2 hb2 hc2 rfl (by omega) (by omega) ⟨b1, 0, none⟩ 1 _ LR (by simp [Value.oneCell']) (drF K2 (ds ++ [d])) K2 (drL (ds ++ [d])) (fun i j hi _ => by unfold drF; rw [eo i hi, e2K i hi]) ND e2K (fun i hi => by unfold drL; rw [eo i hi]) (by rw [e1K]; unfold drL; rw [en]; exact R) (fun h0 => by rw [e1K] at h0 ⊢; exact hsep h0) (by omega) hbase
  have hsrc : ∀ j u, [Value.bool d.1, .int .i64 d.2.1, .slice hd.1 hd.2.1 hd.2.2, .int .i64 d.2.2.2][j]? = some u → W.cell? ((⟨b1, 0, none⟩ : Addr).add j) = some u := fun j u hj => by rw [Addr.add_lit, Nat.zero_add, X1.cell j]; exact hj
  obtain ⟨v2, w2, hr2, _, _, _, hat⟩ := run_append_own_at (P := Try.prog) W base 62 113 113 i2 (.agg #[.bool false, .int .i64 0, .slice none 0 0, .int .i64 0]) 4 48 Try.underlying62 hi2 ha2 hb2 hc2 rfl (by omega) v ds.length _ G.own ⟨b1, 0, none⟩ 1 1 _ (by simp) hsrc (by simp [Value.oneCell']) (by unfold maxLen; omega) (by omega) hbase
  have e := hr 113
  rw [hr2] at e
  injection e with e1 e2
  refine ⟨v', w', hr, ?_, KS, by rw [← e1]; exact hat⟩
  rw [← hK2]; exact G2

end Go.Proofs.Ytannjgdginfgeaa

/- Chapter 9: two lists that are drawn side by side, Asks and Doers. -/
namespace Go.Proofs.Ytannjgdginfgeaa
open Go.RowKit

/-- Asks and Doers that grow side by side: ka and kd of them are there -/
structure AD (W : World) (zz ka kd : Nat) (s t : Hd) (asks : List Bool) (ds : List Dr) (K : Nat → Hd) : Prop where
  oa : W.ownsRow zz 4 1 (.slice s.1 s.2.1 s.2.2) ka (bls asks)
  od : GrowAt 4 W zz 113 (.slice t.1 t.2.1 t.2.2) kd (drF K ds) K (drL ds)
  len : ds.length = kd
  small : ∀ i, i < kd → (K i).2.1 ≤ 8
  sep1 : ∀ x, (Value.slice s.1 s.2.1 s.2.2).ownBlock = some x → (Value.slice t.1 t.2.1 t.2.2).ownBlock ≠ some x
  sep2 : ∀ i, i < kd → (K i).2.1 ≠ 0 → (Value.slice s.1 s.2.1 s.2.2).ownBlock ≠ some (sb (K i).1)
section
variable {W W' : World} {zz ka kd : Nat} {s t : Hd} {asks : List Bool} {ds : List Dr} {K : Nat → Hd}
theorem AD.nil (W : World) (zz : Nat) (K : Nat → Hd) : AD W zz 0 0 (none, 0, 0) (none, 0, 0) [] [] K :=
  ⟨World.ownsRow_nil _ _ _ _, GrowAt.nil _ _ _ _ _ _ _, rfl, fun i hi => absurd hi (Nat.not_lt_zero _), fun x e => (by cases e), fun i hi => absurd hi (Nat.not_lt_zero _)⟩
theorem AD.below (h : AD W zz ka kd s t asks ds K) (hb : Below W.heap.size W W') : AD W' zz ka kd s t asks ds K := ⟨owns_below h.oa hb, h.od.below hb, h.len, h.small, h.sep1, h.sep2⟩
theorem AD.kept (h : AD W zz ka kd s t asks ds K) {l u : Nat} (hk : Kept l u W W') (hd : u ≤ zz) : AD W' zz ka kd s t asks ds K := ⟨owns_kept h.oa hk fun x e => Or.inr (Nat.le_trans hd (World.ownsRow.lt h.oa x e).1), h.od.kept hk hd, h.len, h.small, h.sep1, h.sep2⟩
/-- one more doer, whose log lies in a block of its own -/
theorem AD.doer (h : AD W zz ka kd s t asks ds K) {b1 : Nat} (d : Dr) (hd : Hd) (X : Bx W b1 [.bool d.1, .int .i64 d.2.1, .slice hd.1 hd.2.1 hd.2.2, .int .i64 d.2.2.2]) (R : RowAt W true zz W.heap.size 6 hd.1 hd.2.1 hd.2.2 (sixs d.2.2.1)) (h8 : hd.2.1 ≤ 8) (hfr : hd.2.1 ≠ 0 → (Value.slice s.1 s.2.1 s.2.2).ownBlock ≠ some (sb hd.1) ∧ (Value.slice t.1 t.2.1 t.2.2).ownBlock ≠ some (sb hd.1) ∧ ∀ j, j < kd → (K j).2.1 ≠ 0 → sb (K j).1 ≠ sb hd.1) (hn : kd ≤ 1000) (hz : zz ≤ W.heap.size) :
    ∃ (t' : Hd) (K' : Nat → Hd) (w' : World), (∀ ty, (Builtin.append_ #[62, 62] ty #[.slice t.1 t.2.1 t.2.2, .slice (some ⟨b1, 0, none⟩) 1 1]).run Try.prog W = .ok (.slice t'.1 t'.2.1 t'.2.2) w') ∧ AD w' zz ka (kd + 1) s t' asks (ds ++ [d]) K' ∧ Below zz W w' := by
  have hl := h.len
  subst hl
  obtain ⟨v', w', hr, G2, KS, hat⟩ := doer_snoc h.od X R (fun h0 => (hfr h0).2) hz hn
  obtain ⟨ta, tc, e9, _, _⟩ := owns_slice G2.own
  subst e9
  obtain ⟨K2, hK2⟩ : ∃ K2 : Nat → Hd, K2 = fun j => if j = ds.length then hd else K j := ⟨_, rfl⟩
  rw [← hK2] at G2
  have eN : K2 ds.length = hd := by rw [hK2]; simp
  have eO : ∀ j, j < ds.length → K2 j = K j := fun j hj => by rw [hK2]; simp [Nat.ne_of_lt hj]
  refine ⟨(ta, ds.length + 1, tc), K2, w', hr, ⟨owns_keptS h.oa KS (fun x e1 e2 => h.sep1 x e1 e2), G2, by simp, fun i hi => ?_, fun x e1 e2 => ?_, fun i hi h0 e1 => ?_⟩, KS.low zz (fun x e => (World.ownsRow.lt h.od.own x e).1) hz⟩
  · rcases Nat.lt_succ_iff_lt_or_eq.1 hi with q | q
    · rw [eO i q]; exact h.small i q
    · rw [q, eN]; exact h8
  · rcases hat with z | z
    · exact h.sep1 x e1 (z ▸ e2)
    · rw [z] at e2
      have := (World.ownsRow.lt h.oa x e1).2
      have e3 : W.heap.size = x := Option.some.inj e2
      omega
  · rcases Nat.lt_succ_iff_lt_or_eq.1 hi with q | q
    · rw [eO i q] at h0 e1; exact h.sep2 i q h0 e1
    · rw [q, eN] at h0 e1; exact (hfr h0).1 e1
/-- all its blocks are there -/
theorem AD.lt (h : AD W zz ka kd s t asks ds K) (x : Nat) (hx : (Value.slice s.1 s.2.1 s.2.2).ownBlock = some x ∨ (Value.slice t.1 t.2.1 t.2.2).ownBlock = some x ∨ ∃ i, i < kd ∧ (K i).2.1 ≠ 0 ∧ x = sb (K i).1) : zz ≤ x ∧ x < W.heap.size := by
  rcases hx with e | e | ⟨i, hi, h0, e⟩
  · exact World.ownsRow.lt h.oa x e
  · exact World.ownsRow.lt h.od.own x e
  · have := (h.od.logs i hi).inB (k := x) ⟨h0, e⟩
    exact ⟨this.1, this.2.2⟩
/-- what was drawn, as a replica's lists -/
theorem AD.lists (h : AD W zz ka kd s t asks ds K) : ∃ c1 c2, s.2.2 = c1 ∧ t.2.2 = c2 ∧ RowAt W true zz W.heap.size 1 s.1 s.2.1 s.2.2 (bls asks) ∧ DoersAt W true zz W.heap.size t.1 t.2.1 t.2.2 K ds ∧ s.2.1 = ka ∧ t.2.1 = kd ∧ Sep (hR s) (inE t.1 t.2.1 K) := by
  obtain ⟨a1, c1, e1, R1, b1⟩ := owns_slice h.oa
  obtain ⟨a2, c2, e2, E2⟩ := h.od.els
  obtain ⟨_, _, e3, R3, b3⟩ := owns_slice h.od.own
  simp only [Value.slice.injEq] at e1 e2 e3
  obtain ⟨p1, p2, p3⟩ := e1
  obtain ⟨q1, q2, q3⟩ := e2
  refine ⟨_, _, rfl, rfl, by rw [p1, p2, p3]; exact R1, ⟨by rw [q2]; exact h.len, by rw [q1, q2, q3]; exact E2⟩, p2, q2, fun x hx hy => ?_⟩
  obtain ⟨hx0, hx1⟩ := hx
  have o1 : (Value.slice s.1 s.2.1 s.2.2).ownBlock = some x := by rw [b1 (by rw [← p2]; exact hx0), ← p1]; exact congrArg some hx1.symm
  rcases hy with ⟨hy0, hy1⟩ | ⟨i, hi, h0, hy1⟩
  · refine h.sep1 x o1 ?_
    rw [b3 (by rw [← q2]; exact hy0), hy1]
    have : t.1 = _ := e3.1
    rw [this]
  · rw [hy1] at o1
    exact h.sep2 i (by rw [← q2]; exact hi) h0 o1
theorem AD.rep (h : AD W zz ka kd s t asks ds K) {lo zL uL gl n c : Nat} {xs : List En} {id size view last commit : Int} {nm : Bool} (L : RowAt W true zL uL 6 (some ⟨gl, 0, none⟩) n c (sixs xs)) (h1 : uL ≤ zz) (h2 : lo ≤ zL) (h3 : zz ≤ W.heap.size) (h4 : lo ≤ zz) : RepAt W true lo W.heap.size ⟨(some ⟨gl, 0, none⟩, n, c), (none, 0, 0), s, t, K⟩ ⟨id, size, view, nm, last, xs, commit, [], asks, ds⟩ := by
  obtain ⟨_, _, _, _, RA, RD, _, _, SP⟩ := h.lists
  have hA : ∀ x, hR s x → zz ≤ x := fun x hx => (RA.inB hx).1
  have hD : ∀ x, inE t.1 t.2.1 K x → zz ≤ x := fun x hx => (RD.els.inB hx).1
  have hL : ∀ x, hR (some (⟨gl, 0, none⟩ : Addr), n, c) x → x < uL := fun x hx => (L.inB hx).2.1
  exact ⟨L.widen h2 (by omega), RowAt.nilR _ _ _ _ _ _ _, RA.widen h4 (Nat.le_refl _), RD.widen h4 (Nat.le_refl _), fun _ => ⟨fun x _ b => absurd rfl b.1, fun x a b => by have := hL x a; have := hA x b; omega, fun x a b => by have := hL x a; have := hD x b; omega, fun x a _ => absurd rfl a.1, fun x a _ => absurd rfl a.1, SP⟩⟩
end

end Go.Proofs.Ytannjgdginfgeaa
