/- Chapter 9: lists whose elements each have a log, that grow by append. No program is named here. -/
import Derived.Test.YtonclmbihhdkpaaGreatQAF
import Derived.Test.YtonclmbihhdkpaaGreatQAC
import Derived.Maps.AppendAt
import Derived.Lib.AppendZeros
import Derived.Test.YtonclmbihhdkpaaGreatQAG
import Derived.Test.YtonclmbihhdkpaaGreatQAK
import Derived.Test.YtonclmbihhdkpaaGreatWN
import Derived.Test.YtonclmbihhdkpaaGreatWF
import Derived.Deep.DeepCutAuto
set_option maxRecDepth 20000
set_option maxHeartbeats 16000000
namespace Go.Proofs.YtonclmbihhdkpaaGreat
open Go.RowKit
structure GrowAt (sz : Nat) (w : World) (base : Nat) (T : TypeId) (v : Value) (n : Nat) (F : Nat → Nat → Value) (K : Nat → Hd) (L : Nat → List En) : Prop where
 own : w.ownsRow base T sz v n (flatF sz n F)
 logs : ∀ i, i < n → RowAt w true base w.heap.size 6 (K i).1 (K i).2.1 (K i).2.2 (sixs (L i))
 sep : ∀ i, i < n → (K i).2.1 ≠ 0 → v.ownBlock ≠ some (sb (K i).1) ∧ ∀ j, j < n → j ≠ i → (K j).2.1 ≠ 0 → sb (K j).1 ≠ sb (K i).1
theorem GrowAt.nil (sz : Nat) (w : World) (base : Nat) (T : TypeId) (F : Nat → Nat → Value) (K : Nat → Hd) (L : Nat → List En) : GrowAt sz w base T (.slice none 0 0) 0 F K L :=
 ⟨by rw [flatF_zero]; exact World.ownsRow_nil _ _ _ _, fun i hi => absurd hi (Nat.not_lt_zero _), fun i hi => absurd hi (Nat.not_lt_zero _)⟩
theorem GrowAt.below {sz : Nat} {w w' : World} {base : Nat} {T : TypeId} {v : Value} {n : Nat} {F : Nat → Nat → Value} {K : Nat → Hd} {L : Nat → List En} (h : GrowAt sz w base T v n F K L) (hb : Below w.heap.size w w') : GrowAt sz w' base T v n F K L :=
 ⟨owns_below h.own hb, fun i hi => ((h.logs i hi).below hb).widen (Nat.le_refl _) hb.size, h.sep⟩
theorem GrowAt.kept {sz : Nat} {w w' : World} {base : Nat} {T : TypeId} {v : Value} {n : Nat} {F : Nat → Nat → Value} {K : Nat → Hd} {L : Nat → List En} (h : GrowAt sz w base T v n F K L) {l u : Nat} (hk : Kept l u w w') (hd : u ≤ base) : GrowAt sz w' base T v n F K L := by
 refine ⟨?_, fun i hi => ((h.logs i hi).kept hk (Or.inr hd)).widen (Nat.le_refl _) hk.size, h.sep⟩
 refine ⟨h.own.1, ?_⟩
 rcases h.own.2 with q | ⟨g, cap, cur, hv, hg, hh, rest⟩
 ·exact .inl q
 ·have hlt : g < w.heap.size := by
   rcases Nat.lt_or_ge g w.heap.size with q | q
   ·exact q
   ·rw [Array.getElem?_eq_none q] at hh; cases hh
  exact .inr ⟨g, cap, cur, hv, hg, by rw [hk.block g hlt (Or.inr (by omega))]; exact hh, rest⟩
theorem owns_slice {w : World} {base : Nat} {T : TypeId} {sz n : Nat} {v : Value} {cs : List Value} (h : w.ownsRow base T sz v n cs) : ∃ ao cap, v = .slice ao n cap ∧ RowAt w true base w.heap.size sz ao n cap cs ∧ (n ≠ 0 → v.ownBlock = some (sb ao)) := by
 rcases h.2 with ⟨q1, q2⟩ | ⟨g, cap, cur, hv, rest⟩
 ·subst q1; subst q2
  exact ⟨none, 0, rfl, ⟨by simpa using h.1, Nat.le_refl _, fun q => absurd rfl q⟩, fun q => absurd rfl q⟩
 ·have h' := h
  rw [hv] at h'
  exact ⟨_, cap, hv, RowAt.of_owns h' rest.2.2.1, fun _ => by rw [hv]; rfl⟩
theorem GrowAt.els {sz : Nat} {w : World} {base : Nat} {T : TypeId} {v : Value} {n : Nat} {F : Nat → Nat → Value} {K : Nat → Hd} {L : Nat → List En} (h : GrowAt sz w base T v n F K L) : ∃ ao cap, v = .slice ao n cap ∧ ElsAt sz w true base w.heap.size ao n cap F K L := by
 obtain ⟨ao, cap, e, R, hb⟩ := owns_slice h.own
 exact ⟨ao, cap, e, R, h.logs, fun _ i hi h0 => ⟨fun q => (h.sep i hi h0).1 (by rw [hb (by omega), q]), (h.sep i hi h0).2⟩⟩
theorem GrowAt.snoc {P : Program} {sz : Nat} {w : World} {base : Nat} {T : TypeId} {v : Value} {n : Nat} {F : Nat → Nat → Value} {K : Nat → Hd} {L : Nat → List En} (h : GrowAt sz w base T v n F K L) (t : TypeId) (i0 : TypeInfo) (z : Value) (bytes : Nat) (ht : P.underlying t = some (.slice T)) (hi0 : P.info? T = some i0) (hz0 : i0.zero = some z) (hz1 : i0.size = sz) (hz2 : i0.bytes = bytes) (hzs : z.cells.size = sz) (hsz : 0 < sz) (hby : bytes ≤ 1000)
  {ow : Bool} {l u : Nat} (ad : Addr) (c : Nat) (ns : List Value) (hrow : RowAt w ow l u sz (some ad) 1 c ns) (h1 : ∀ u ∈ ns, u.oneCell' = true) (F' : Nat → Nat → Value) (K' : Nat → Hd) (L' : Nat → List En) (hF : ∀ i j, i < n → j < sz → F' i j = F i j) (hN : (List.range sz).map (F' n) = ns) (hK : ∀ i, i < n → K' i = K i) (hL : ∀ i, i < n → L' i = L i)
  (hlog : RowAt w true base w.heap.size 6 (K' n).1 (K' n).2.1 (K' n).2.2 (sixs (L' n))) (hsep : (K' n).2.1 ≠ 0 → v.ownBlock ≠ some (sb (K' n).1) ∧ ∀ j, j < n → (K j).2.1 ≠ 0 → sb (K j).1 ≠ sb (K' n).1) (hn : n + 1 ≤ 1000000) (hbase : base ≤ w.heap.size) :
  ∃ v' w', (∀ ty, (Builtin.append_ #[t, t] ty #[v, .slice (some ad) 1 c]).run P w = .ok v' w') ∧ GrowAt sz w' base T v' (n + 1) F' K' L' ∧ KeptS (fun k => v.ownBlock = some k) w w' ∧ Below base w w' := by
 have hsrc : ∀ j u, ns[j]? = some u → w.cell? (ad.add j) = some u := fun j u hj => by
  have hjl : j < ns.length := (List.getElem?_eq_some_iff.1 hj).1
  have hl := hrow.len
  obtain ⟨b, off, e, _, _, _, hc, _⟩ := hrow.cells (by omega)
  have e2 : ad = ⟨b, off, none⟩ := Option.some.inj e
  rw [e2]
  have := hc j (by omega)
  rw [List.getD_eq_getElem?_getD, hj, Option.getD_some] at this
  rw [Addr.add_lit]; exact this
 have hby2 : (n + 1) * bytes ≤ 140737488355328 := Nat.le_trans (Nat.mul_le_mul hn hby) (by decide)
 have A := fun ty => run_append_own_at (P := P) w base t ty T i0 z sz bytes ht hi0 hz0 hz1 hz2 hzs hsz v n _ h.own ad 1 c ns hrow.len hsrc h1 (by unfold maxLen; omega) hby2 hbase
 obtain ⟨v', w', hr, ho, hg, _, hat⟩ := A T
 have hrun : ∀ ty, (Builtin.append_ #[t, t] ty #[v, .slice (some ad) 1 c]).run P w = .ok v' w' := fun ty => by
  have : ∀ ty, Builtin.append_ #[t, t] ty #[v, .slice (some ad) 1 c] = Builtin.append_ #[t, t] T #[v, .slice (some ad) 1 c] := fun _ => rfl
  rw [this]; exact hr
 have KS : KeptS (fun k => v.ownBlock = some k) w w' := ⟨hg.os, hg.tape, hg.output, hg.size, fun k hk hs => hg.block k hk (fun e => hs e.symm)⟩
 have inb : ∀ i, i < n + 1 → (K' i).2.1 ≠ 0 → sb (K' i).1 < w.heap.size ∧ v.ownBlock ≠ some (sb (K' i).1) := fun i hi h0 => by
  by_cases e : i = n
  ·subst e; exact ⟨(hlog.inB ⟨h0, rfl⟩).2.2, (hsep h0).1⟩
  ·have hi' : i < n := by omega
   rw [hK i hi'] at h0 ⊢
   exact ⟨((h.logs i hi').inB ⟨h0, rfl⟩).2.2, (h.sep i hi' h0).1⟩
 refine ⟨v', w', hrun, ⟨?_, fun i hi => ?_, fun i hi h0 => ⟨fun q => ?_, fun j hj hne h2 => ?_⟩⟩, KS, (Below.refl base w).grown hg hbase (fun g hg' => (h.own.lt g hg').1)⟩
 ·rw [flatF_snoc, hN, flatF_congr hF]; exact ho
 ·have R : RowAt w true base w.heap.size 6 (K' i).1 (K' i).2.1 (K' i).2.2 (sixs (L' i)) := by
   by_cases e : i = n
   ·subst e; exact hlog
   ·rw [hK i (by omega), hL i (by omega)]; exact h.logs i (by omega)
  refine (R.keptR KS fun k hk hs => ?_).widen (Nat.le_refl _) hg.size
  have := (inb i hi hk.1).2
  rw [← hk.2] at this
  exact this hs
 ·rcases hat with e | e
  ·exact (inb i hi h0).2 (e ▸ q)
  ·rw [e] at q
   have := (inb i hi h0).1
   have e3 : w.heap.size = sb (K' i).1 := Option.some.inj q
   omega
 ·by_cases e1 : i = n
  ·subst e1
   have hj' : j < i := by omega
   rw [hK j hj'] at h2 ⊢
   exact (hsep h0).2 j hj' h2
  ·by_cases e2 : j = n
   ·subst e2
    have hi' : i < j := by omega
    rw [hK i hi'] at h0 ⊢
    exact fun q => (hsep h2).2 i hi' h0 q.symm
   ·have hi' : i < n := by omega
    have hj' : j < n := by omega
    rw [hK i hi'] at h0 ⊢
    rw [hK j hj'] at h2 ⊢
    exact (h.sep i hi' h0).2 j hj' hne h2
def NodeAns (w w' : World) (e : Ending) (c : Int) (q : Rep) (ms : List Ml) : Prop := ∃ (z u : Nat) (h : RH) (s : Hd) (Km : Nat → Hd), e = .returned (.agg #[.int .i64 c, .int .i64 q.id, .int .i64 q.size, .int .i64 q.view, .bool q.normal, .int .i64 q.last, .slice h.L.1 h.L.2.1 h.L.2.2, .int .i64 q.commit, .slice h.O.1 h.O.2.1 h.O.2.2, .slice h.A.1 h.A.2.1 h.A.2.2, .slice h.D.1 h.D.2.1 h.D.2.2, .slice s.1 s.2.1 s.2.2]) ∧ w.heap.size ≤ z ∧ u ≤ w'.heap.size ∧ AnsAt w' true z u h s Km q ms ∧ ASz h s Km 1048576 ∧ Below w.heap.size w w'
def NodeRes (w w' : World) (e : Ending) (c : Int) (q : Rep) (ms : List Ml) : Prop := ∃ (z u : Nat) (h : RH) (s : Hd) (Km : Nat → Hd), e = .returned (.agg #[.int .i64 c, .int .i64 q.id, .int .i64 q.size, .int .i64 q.view, .bool q.normal, .int .i64 q.last, .slice h.L.1 h.L.2.1 h.L.2.2, .int .i64 q.commit, .slice h.O.1 h.O.2.1 h.O.2.2, .slice h.A.1 h.A.2.1 h.A.2.2, .slice h.D.1 h.D.2.1 h.D.2.2, .slice s.1 s.2.1 s.2.2]) ∧ w.heap.size ≤ z ∧ u ≤ w'.heap.size ∧ AnsAt w' false z u h s Km q ms ∧ ASz h s Km 1048576 ∧ Below w.heap.size w w'
theorem KeptS.low {S : Nat → Prop} {w w' : World} (h : KeptS S w w') (B : Nat) (h1 : ∀ k, S k → B ≤ k) (h2 : B ≤ w.heap.size) : Below B w w' :=
 ⟨h.os, h.tape, h.output, h.size, fun k hk => h.block k (by omega) (fun hs => by have := h1 k hs; omega)⟩
theorem Bx.low {w W : World} {b n : Nat} {vs : List Value} (h : Bx w b vs) (hb : Below n w W) (hn : b < n) : Bx W b vs :=
 ⟨Nat.lt_of_lt_of_le h.lt hb.size, fun k => by rw [World.cell?_of_block (w := w) (a := ⟨b, k, none⟩) (hb.block b hn)]; exact h.cell k, fun k => by rw [World.frozen?_of_block (w := w) (a := ⟨b, k, none⟩) (hb.block b hn)]; exact h.froz k⟩
theorem lit_newX {P : Program} {ops : Array Oper} {rest : List Oper} {dst : Option Tmp} {type : TypeId} {pos : String} {after : Array Edge} {a : Act} {w : World} {Q : Exit → Act → World → Prop} (t : TypeId) (n : Nat) (parts : Array (Nat × Operand)) (cs : List Value) (T : TypeId) (hb : ∀ w : World, (Instr.buildSlice t n (parts.map fun (i, x) => (i, a.eval x))).run P w = .ok (.slice (some ⟨w.heap.size, 0, none⟩) n n) (w.alloc (.cells cs.toArray T)))
  (h : ∀ (b : Nat) (W : World), NewX w W b cs → wpList P ops Q rest (a.put dst (.slice (some ⟨b, 0, none⟩) n n)) W) : wpList P ops Q (⟨dst, .buildSlice t n parts, type, pos, after, none⟩ :: rest) a w := by
 refine wpList_plain rfl fun K hK => ?_
 have hK2 := hK _ _ (h _ _ (by simpa using newX_mk w cs.toArray T))
 have hb' : (Instr.buildSlice t n (Array.map (fun x => (x.fst, a.eval x.snd)) parts)).run P w = _ := hb w
 unfold Oper.wp execOp
 simp only [Sem.run_bind, Sem.run_pure, Result.andThen_ok, hb']
 exact hK2
theorem lit_newO {P : Program} {ops : Array Oper} {rest : List Oper} {dst : Option Tmp} {type : TypeId} {pos : String} {after : Array Edge} {a : Act} {w : World} {Q : Exit → Act → World → Prop} (t : TypeId) (n : Nat) (parts : Array (Nat × Operand)) (cs : List Value) (T : TypeId) (hb : ∀ w : World, (Instr.buildSlice t n (parts.map fun (i, x) => (i, a.eval x))).run P w = .ok (.slice (some ⟨w.heap.size, 0, none⟩) n n) (w.alloc (.cells cs.toArray T)))
  (h : ∀ (b : Nat) (W : World), NewX w W b cs → W.heap[b]? = some (.cells cs.toArray T) → wpList P ops Q rest (a.put dst (.slice (some ⟨b, 0, none⟩) n n)) W) : wpList P ops Q (⟨dst, .buildSlice t n parts, type, pos, after, none⟩ :: rest) a w := by
 refine wpList_plain rfl fun K hK => ?_
 have hK2 := hK _ _ (h _ _ (by simpa using newX_mk w cs.toArray T) (heap_alloc_new w _))
 have hb' : (Instr.buildSlice t n (Array.map (fun x => (x.fst, a.eval x.snd)) parts)).run P w = _ := hb w
 unfold Oper.wp execOp
 simp only [Sem.run_bind, Sem.run_pure, Result.andThen_ok, hb']
 exact hK2
theorem Kept.ofB {n : Nat} {w w' : World} (h : Below n w w') : Kept n w.heap.size w w' := ⟨h.os, h.tape, h.output, h.size, fun k hk hd => h.block k (by omega)⟩
theorem copy_snoc {wr W : World} {zz b1 k z1 ue1 qm rc1 : Nat} {v : Value} {K' : Nat → Hd} {ds : List Dr} {ra1 : Option Addr} {kn : Bool} {la cm : Int} {n : Nat} (G : GrowAt 4 wr zz 158 v k (drF K' ds) K' (drL ds)) (B : Below wr.heap.size wr W) (X1 : Bx W b1 [.bool kn, .int .i64 la, .slice ra1 qm rc1, .int .i64 cm]) (R1 : RowAt W true z1 ue1 6 ra1 qm rc1 (sixs (drL ds k))) (hz1 : wr.heap.size ≤ z1) (hu1 : ue1 ≤ W.heap.size) (hzz : zz ≤ wr.heap.size) (h1 : (ds.getD k dr0).1 = kn) (h2 : (ds.getD k dr0).2.1 = la) (h3 : (ds.getD k dr0).2.2.2 = cm) (hk : k < n) (hn : n ≤ 1000) :
  ∃ v' w', (∀ ty, (Builtin.append_ #[27, 27] ty #[v, .slice (some ⟨b1, 0, none⟩) 1 1]).run Tryz.prog W = .ok v' w') ∧ GrowAt 4 w' zz 158 v' (k + 1) (drF (fun j => if j = k then (ra1, qm, rc1) else K' j) ds) (fun j => if j = k then (ra1, qm, rc1) else K' j) (drL ds) ∧ Below zz W w' := by
 obtain ⟨i9, hi9, ha9, hb9, hc9⟩ := info_parts Tryz.infoDoer
 have hsz := B.size
 have LR : RowAt W false b1 (b1 + 1) 4 (some ⟨b1, 0, none⟩) 1 1 [.bool kn, .int .i64 la, .slice ra1 qm rc1, .int .i64 cm] := ⟨by simp, Nat.le_refl _, fun _ => ⟨b1, 0, rfl, Nat.le_refl _, Nat.lt_succ_self _, X1.lt, fun i hi => by rw [Nat.zero_add, X1.cell i, List.getD_eq_getElem?_getD, List.getElem?_eq_getElem (by simpa using hi)]; rfl, fun z => by cases z⟩⟩
 obtain ⟨K2, hK2⟩ : ∃ K2 : Nat → Hd, K2 = fun j => if j = k then (ra1, qm, rc1) else K' j := ⟨_, rfl⟩
 have e1K : K2 k = (ra1, qm, rc1) := by rw [hK2]; simp
 have e2K : ∀ j, j < k → K2 j = K' j := fun j hj => by rw [hK2]; simp [Nat.ne_of_lt hj]
 have ND : (List.range 4).map (drF K2 ds k) = [.bool (ds.getD k dr0).1, .int .i64 (ds.getD k dr0).2.1, hv (K2 k), .int .i64 (ds.getD k dr0).2.2.2] := rfl
 obtain ⟨v', w', hr, G2, _, BB⟩ := GrowAt.snoc (P := Tryz.prog) (G.below B) 27 i9 (.agg #[.bool false, .int .i64 0, .slice none 0 0, .int .i64 0]) 48 Tryz.underlying27 hi9 ha9 hb9 hc9 rfl (by omega) (by omega) ⟨b1, 0, none⟩ 1 [.bool kn, .int .i64 la, .slice ra1 qm rc1, .int .i64 cm] LR (by simp [Value.oneCell']) (drF K2 ds) K2 (drL ds) (fun i j hi hj => by unfold drF; rw [e2K i hi]) (by rw [ND, h1, h2, h3, e1K]; rfl) e2K (fun _ _ => rfl) (by rw [e1K]; exact R1.widen (by omega) hu1) (fun h0 => by
  rw [e1K] at h0 ⊢
  have i1 := R1.inB (k := sb ra1) ⟨h0, rfl⟩
  refine ⟨fun qq => ?_, fun j hj h2 => ?_⟩
  ·have := (G.own.lt (sb ra1) qq).2; omega
  ·have := ((G.logs j hj).inB (k := sb (K' j).1) ⟨h2, rfl⟩).2.2; simp only; omega) (by omega) (by omega)
 rw [← hK2]
 exact ⟨v', w', hr, G2, BB⟩
theorem owns_litO {w : World} {base b : Nat} {T : TypeId} {sz : Nat} (hb : base ≤ b) (h : w.heap[b]? = some (.cells ([] : List Value).toArray T)) : w.ownsRow base T sz (.slice (some ⟨b, 0, none⟩) 0 0) 0 [] :=
 ⟨by simp, .inr ⟨b, 0, #[], rfl, hb, h, Nat.le_refl _, Nat.zero_le _, by simp, by simp⟩⟩
theorem l8Copy_z {o : Bool} {l u : Nat} (ab : Option Addr) (nb cb : Nat) (xs : List En) (w : World) (h : RowAt w o l u 6 ab nb cb (sixs xs)) (hn : nb ≤ 1048576) :
  Calls Tryz.prog 138 #[.slice ab nb cb] w fun e w' => CloR w w' e 6 nb (sixs xs) := by
 obtain ⟨j0, hj0, hy0, hy1, hy2⟩ := info_parts Tryz.infoEntry
 have B3 : Below w.heap.size w (w.alloc (.cells #[] 44)) := (Below.refl _ _).alloc (Nat.le_refl _) _
 obtain ⟨ad', cp, w4, hr4, R4, B4, -⟩ := run_append_fresh (P := Tryz.prog) (w.alloc (.cells #[] 44)) 24 24 44 j0 (.agg #[.int .i64 0, .int .i64 0, .int .i64 0, .int .i64 0, .int .i64 0, .int .i64 0]) 6 48 Tryz.underlying24 hj0 hy0 hy1 hy2 (by rw [hy1]; rfl) w.heap.size ab nb cb (sixs xs) (h.below B3) (sixs_oneX xs) hn (by omega)
 go_enter Tryz.func138, Tryz.ntmps138
 go_wp2_with (at_builtin; refine Lib.wpList_append_run _ rfl _ _ _ _ rfl _ _ rfl rfl _ _ hr4 ?_)
 have B5 := below_next B3 B4
 have R5 : RowAt w4 true w.heap.size w4.heap.size 6 (some ad') nb cp (sixs xs) := R4.widen (by simp) (Nat.le_refl _)
 clear B3 B4 R4 hr4
 go_wp2
 go_ret
 exact ⟨some ad', cp, _, _, rfl, Nat.le_refl _, B5.size, Nat.le_refl _, R5, B5⟩
theorem l9Copy_z {own : Bool} {lo hi : Nat} (r : Rep) (h : RH) (w : World) (x : RepAt w own lo hi h r) (hs : RSz h 1048576) (hn9 : h.D.2.1 ≤ 1000) :
  Calls Tryz.prog 70 #[.agg #[.int .i64 r.id, .int .i64 r.size, .int .i64 r.view, .bool r.normal, .int .i64 r.last, .slice h.L.1 h.L.2.1 h.L.2.2, .int .i64 r.commit, .slice h.O.1 h.O.2.1 h.O.2.2, .slice h.A.1 h.A.2.1 h.A.2.2, .slice h.D.1 h.D.2.1 h.D.2.2]] w fun e w' => ∃ (z u : Nat) (h' : RH), e = .returned (.agg #[.int .i64 r.id, .int .i64 r.size, .int .i64 r.view, .bool r.normal, .int .i64 r.last, .slice h'.L.1 h'.L.2.1 h'.L.2.2, .int .i64 r.commit, .slice h'.O.1 h'.O.2.1 h'.O.2.2, .slice h'.A.1 h'.A.2.1 h'.A.2.2, .slice h'.D.1 h'.D.2.1 h'.D.2.2]) ∧ w.heap.size ≤ z ∧ u ≤ w'.heap.size ∧ RepAt w' true z u h' r ∧ RSz h' 1048576 ∧ Below w.heap.size w w' := by
 obtain ⟨i2, hi2, ha2, hb2, hc2⟩ := info_parts Tryz.info2'
 obtain ⟨i4, hi4, ha4, hb4, hc4⟩ := info_parts Tryz.info4'
 obtain ⟨i9, hi9, ha9, hb9, hc9⟩ := info_parts Tryz.infoDoer
 have HS : Hid (∀ i, i < h.D.2.1 → (h.K i).2.1 ≤ 1048576) := hs.K
 have hdl := x.doers.len
 go_enter Tryz.func70, Tryz.ntmps70
 go_wp2_with (first | ((have g := ob0); clear g; (with_reducible refine al 29 [.int .i64 0, .int .i64 0, .int .i64 0, .bool false, .int .i64 0, .slice none 0 0, .int .i64 0, .slice none 0 0, .slice none 0 0, .slice none 0 0] ?_); intro b1 W1 N1; have ob1 := N1.o B; have o0_b1 := N1.u X0; replace X0 := N1.r X0; replace c0 := X0.cell; replace f0 := X0.froz; replace B := N1.n B; obtain ⟨X1, c1, f1⟩ := N1.a; clear N1) | ((with_reducible refine box_newX 29 [.int .i64 r.id, .int .i64 r.size, .int .i64 r.view, .bool r.normal, .int .i64 r.last, .slice h.L.1 h.L.2.1 h.L.2.2, .int .i64 r.commit, .slice h.O.1 h.O.2.1 h.O.2.2, .slice h.A.1 h.A.2.1 h.A.2.2, .slice h.D.1 h.D.2.1 h.D.2.2] rfl ?_); intro b0 W0 N0; have ob0 := N0.ge; have B := N0.below; obtain ⟨X0, c0, f0⟩ := N0.a; clear N0) | fail)
 refine (l8Copy_z _ _ _ r.log _ (by exact x.log.below B) hs.L).mono ?_
 rintro e w5 ⟨ra5, rc5, z5, ue5, rfl, Gz5, _, hR5, R5, BB⟩
 have oz5 : w.heap.size ≤ z5 := Nat.le_trans B.size Gz5
 have o0_z5 := ltl X0.lt Gz5
 have o1_z5 := ltl X1.lt Gz5
 clear Gz5
 replace X0 := X0.below BB
 replace c0 := X0.cell
 replace f0 := X0.froz
 replace X1 := X1.below BB
 replace c1 := X1.cell
 replace f1 := X1.froz
 replace B := below_next B BB
 clear BB
 go_upto_region 2 with (first | ((with_reducible refine so 24 X0 5 (.slice ra5 h.L.2.1 rc5) ?_); intro V1 S; replace X0 : Bx V1 b0 [.int .i64 r.id, .int .i64 r.size, .int .i64 r.view, .bool r.normal, .int .i64 r.last, .slice ra5 h.L.2.1 rc5, .int .i64 r.commit, .slice h.O.1 h.O.2.1 h.O.2.2, .slice h.A.1 h.A.2.1 h.A.2.2, .slice h.D.1 h.D.2.1 h.D.2.2] := S.bx; replace c0 := X0.cell; replace f0 := X0.froz; replace X1 := X1.kp S.kept; replace c1 := X1.cell; replace f1 := X1.froz; replace R5 := R5.kept S.kept (by omega); replace hR5 := Nat.le_trans hR5 S.kept.size; replace B := bkp B S.kept; clear S))
 skip
 go_upto_region 3 with (first | ((with_reducible refine so 25 X0 7 (.slice (some ad7) h.O.2.1 rc7) ?_); intro V2 S; replace X0 : Bx V2 b0 [.int .i64 r.id, .int .i64 r.size, .int .i64 r.view, .bool r.normal, .int .i64 r.last, .slice ra5 h.L.2.1 rc5, .int .i64 r.commit, .slice (some ad7) h.O.2.1 rc7, .slice h.A.1 h.A.2.1 h.A.2.2, .slice h.D.1 h.D.2.1 h.D.2.2] := S.bx; replace c0 := X0.cell; replace f0 := X0.froz; replace X1 := X1.kp S.kept; replace c1 := X1.cell; replace f1 := X1.froz; replace X2 := X2.kp S.kept; replace c2 := X2.cell; replace R5 := R5.kept S.kept (by omega); replace hR5 := Nat.le_trans hR5 S.kept.size; replace R7 := R7.kept S.kept (by omega); replace hR7 := Nat.le_trans hR7 S.kept.size; replace B := bkp B S.kept; clear S) | (at_builtin; refine Lib.wpList_append_run _ rfl _ _ _ _ rfl _ _ rfl rfl _ _ hr7 ?_; have oz7 : w.heap.size ≤ z7 := Nat.le_trans B.size Gz7; have o0_z7 := ltl X0.lt Gz7; have o1_z7 := ltl X1.lt Gz7; have o2_z7 := ltl X2.lt Gz7; have oR5_z7 : ue5 ≤ z7 := Nat.le_trans hR5 Gz7; replace X0 := X0.below BB; replace c0 := X0.cell; replace f0 := X0.froz; replace X1 := X1.below BB; replace c1 := X1.cell; replace f1 := X1.froz; replace X2 := X2.below BB; replace c2 := X2.cell; replace R5 := R5.below BB; replace hR5 := Nat.le_trans hR5 BB.size; replace B := below_next B BB; clear BB) | ((have g := ob1); clear g; (with_reducible refine lit_newX 25 0 #[] [] 2 (fun _ => by kernel_rfl)  ?_); intro b2 W2 N2; have ob2 := N2.o B; have o0_b2 := N2.u X0; have o1_b2 := N2.u X1; have oR5_b2 : ue5 ≤ b2 := Nat.le_trans hR5 N2.ge; replace X0 := N2.r X0; replace c0 := X0.cell; replace f0 := X0.froz; replace X1 := N2.r X1; replace c1 := X1.cell; replace f1 := X1.froz; replace R5 := R5.below N2.below; replace hR5 := Nat.le_trans hR5 N2.below.size; replace B := N2.n B; obtain ⟨X2, c2⟩ := N2.c; clear N2; obtain ⟨ad7, rc7, v7, hr7, Q7, BB, -⟩ := run_append_fresh (P := Tryz.prog) W2 25 25 2 i2 (.int .i64 0) 1 8 Tryz.underlying25 hi2 ha2 hb2 hc2 (by rw [hb2]; rfl) b2 h.O.1 h.O.2.1 h.O.2.2 (ints r.oks) (x.oks.below B) (ints_oneX r.oks) hs.O (by omega); obtain ⟨z7, ue7, Gz7, hR7, R7⟩ : ∃ z u, W2.heap.size ≤ z ∧ u ≤ v7.heap.size ∧ RowAt v7 true z u 1 (some ad7) h.O.2.1 rc7 (ints r.oks) := ⟨_, _, Nat.le_refl _, Nat.le_refl _, Q7⟩; clear Q7) | fail)
 go_upto_region 4 with (first | ((with_reducible refine so 26 X0 8 (.slice (some ad8) h.A.2.1 rc8) ?_); intro V3 S; replace X0 : Bx V3 b0 [.int .i64 r.id, .int .i64 r.size, .int .i64 r.view, .bool r.normal, .int .i64 r.last, .slice ra5 h.L.2.1 rc5, .int .i64 r.commit, .slice (some ad7) h.O.2.1 rc7, .slice (some ad8) h.A.2.1 rc8, .slice h.D.1 h.D.2.1 h.D.2.2] := S.bx; replace c0 := X0.cell; replace f0 := X0.froz; replace X1 := X1.kp S.kept; replace c1 := X1.cell; replace f1 := X1.froz; replace X2 := X2.kp S.kept; replace c2 := X2.cell; replace X3 := X3.kp S.kept; replace c3 := X3.cell; replace R5 := R5.kept S.kept (by omega); replace hR5 := Nat.le_trans hR5 S.kept.size; replace R7 := R7.kept S.kept (by omega); replace hR7 := Nat.le_trans hR7 S.kept.size; replace R8 := R8.kept S.kept (by omega); replace hR8 := Nat.le_trans hR8 S.kept.size; replace B := bkp B S.kept; clear S) | (at_builtin; refine Lib.wpList_append_run _ rfl _ _ _ _ rfl _ _ rfl rfl _ _ hr8 ?_; have oz8 : w.heap.size ≤ z8 := Nat.le_trans B.size Gz8; have o0_z8 := ltl X0.lt Gz8; have o1_z8 := ltl X1.lt Gz8; have o2_z8 := ltl X2.lt Gz8; have o3_z8 := ltl X3.lt Gz8; have oR5_z8 : ue5 ≤ z8 := Nat.le_trans hR5 Gz8; have oR7_z8 : ue7 ≤ z8 := Nat.le_trans hR7 Gz8; replace X0 := X0.below BB; replace c0 := X0.cell; replace f0 := X0.froz; replace X1 := X1.below BB; replace c1 := X1.cell; replace f1 := X1.froz; replace X2 := X2.below BB; replace c2 := X2.cell; replace X3 := X3.below BB; replace c3 := X3.cell; replace R5 := R5.below BB; replace hR5 := Nat.le_trans hR5 BB.size; replace R7 := R7.below BB; replace hR7 := Nat.le_trans hR7 BB.size; replace B := below_next B BB; clear BB) | ((have g := ob2); clear g; (with_reducible refine lit_newX 26 0 #[] [] 4 (fun _ => by kernel_rfl)  ?_); intro b3 W3 N3; have ob3 := N3.o B; have o0_b3 := N3.u X0; have o1_b3 := N3.u X1; have o2_b3 := N3.u X2; have oR5_b3 : ue5 ≤ b3 := Nat.le_trans hR5 N3.ge; have oR7_b3 : ue7 ≤ b3 := Nat.le_trans hR7 N3.ge; replace X0 := N3.r X0; replace c0 := X0.cell; replace f0 := X0.froz; replace X1 := N3.r X1; replace c1 := X1.cell; replace f1 := X1.froz; replace X2 := N3.r X2; replace c2 := X2.cell; replace R5 := R5.below N3.below; replace hR5 := Nat.le_trans hR5 N3.below.size; replace R7 := R7.below N3.below; replace hR7 := Nat.le_trans hR7 N3.below.size; replace B := N3.n B; obtain ⟨X3, c3⟩ := N3.c; clear N3; obtain ⟨ad8, rc8, v8, hr8, Q8, BB, -⟩ := run_append_fresh (P := Tryz.prog) W3 26 26 4 i4 (.bool false) 1 1 Tryz.underlying26 hi4 ha4 hb4 hc4 (by rw [hb4]; rfl) b3 h.A.1 h.A.2.1 h.A.2.2 (bls r.asks) (x.asks.below B) (bls_one r.asks) hs.A (by omega); obtain ⟨z8, ue8, Gz8, hR8, R8⟩ : ∃ z u, W3.heap.size ≤ z ∧ u ≤ v8.heap.size ∧ RowAt v8 true z u 1 (some ad8) h.A.2.1 rc8 (bls r.asks) := ⟨_, _, Nat.le_refl _, Nat.le_refl _, Q8⟩; clear Q8) | fail)
 obtain ⟨zz, hzz⟩ : ∃ zz, zz = V3.heap.size := ⟨_, rfl⟩
 have lt0 : b0 < zz := by rw [hzz]; exact X0.lt
 have lt1 : b1 < zz := by rw [hzz]; exact X1.lt
 have l5 : ue5 ≤ zz := by rw [hzz]; exact hR5
 have l7 : ue7 ≤ zz := by rw [hzz]; exact hR7
 have l8 : ue8 ≤ zz := by rw [hzz]; exact hR8
 have lw : w.heap.size ≤ zz := by rw [hzz]; exact B.size
 have HZZ : Hid _ := hzz
 clear hzz
 clear X2 c2 X3 c3
 go_wp2_with (first | ((with_reducible refine lit_newO 27 0 #[] [] 158 (fun _ => by kernel_rfl) ?_); intro b4 W9 N4 HH; replace X0 := N4.r X0; replace c0 := X0.cell; replace f0 := X0.froz; replace X1 := N4.r X1; replace c1 := X1.cell; replace f1 := X1.froz; replace R5 := R5.below N4.below; replace hR5 := Nat.le_trans hR5 N4.below.size; replace R7 := R7.below N4.below; replace hR7 := Nat.le_trans hR7 N4.below.size; replace R8 := R8.below N4.below; replace hR8 := Nat.le_trans hR8 N4.below.size; replace B := N4.n B; have GG : zz ≤ b4 := (by rw [HZZ.out]; exact N4.ge); have LZ : zz ≤ W9.heap.size := (by rw [HZZ.out]; exact N4.below.size); clear N4) | fail)
 have O0 : W9.ownsRow zz 158 4 (.slice (some ⟨b4, 0, none⟩) 0 0) 0 (flatF 4 0 (drF kd0 r.doers)) := by rw [flatF_zero]; exact owns_litO GG HH
 have G0 : GrowAt 4 W9 zz 158 (.slice (some ⟨b4, 0, none⟩) 0 0) 0 (drF kd0 r.doers) kd0 (drL r.doers) := ⟨O0, fun i hi => absurd hi (Nat.not_lt_zero _), fun i hi => absurd hi (Nat.not_lt_zero _)⟩
 clear O0 HH HZZ GG
 have HX0 : Hid _ := X0
 have HX1 : Hid _ := X1
 have HR5 : Hid _ := R5
 have HR7 : Hid _ := R7
 have HR8 : Hid _ := R8
 have HB : Hid _ := B
 clear X0 X1 R5 R7 R8 B c1 f1 f0
 go_loopw [3, 4, 5] (fun v iv _ wr => ∃ (k : Nat) (K' : Nat → Hd), k ≤ h.D.2.1 ∧ iv = .int .i64 k ∧ GrowAt 4 wr zz 158 v k (drF K' r.doers) K' (drL r.doers) ∧ (∀ i, i < k → (K' i).2.1 = (h.K i).2.1) ∧ zz ≤ wr.heap.size ∧ Below zz W9 wr) (fun _ iv _ _ => h.D.2.1 - (intOf iv).toNat)
 case atStart => exact ⟨0, kd0, Nat.zero_le _, rfl, G0, fun i hi => absurd hi (Nat.not_lt_zero _), LZ, Below.refl _ _⟩
 case round =>
  rename_i v _
  obtain ⟨k, K', hk, rfl, G, HE, LZ2, BL⟩ := hrel
  clear c0 G0 LZ
  have X0 := HX0.out.low BL lt0
  have c0 := X0.cell
  have hbw : Below w.heap.size w wr := HB.out.trans (BL.mono lw)
  by_cases hlt : k < h.D.2.1
  ·have hlk : (k : Int) < (h.D.2.1 : Int) := by omega
   obtain ⟨b, off, ed, _, _, hbs, e0, e1, e2, e3, _⟩ := (x.doers.below hbw).doer hlt
   have RR := (x.doers.els.logs k hlt).below hbw
   have hmk := HS.out k hlt
   obtain ⟨kn, hkn⟩ : ∃ kn, (r.doers.getD k dr0).1 = kn := ⟨_, rfl⟩
   obtain ⟨la, hla⟩ : ∃ la, (r.doers.getD k dr0).2.1 = la := ⟨_, rfl⟩
   obtain ⟨cm, hcm⟩ : ∃ cm, (r.doers.getD k dr0).2.2.2 = cm := ⟨_, rfl⟩
   rw [hkn] at e0
   rw [hla] at e1
   rw [hcm] at e3
   have H1 : Hid _ := hkn
   have H2 : Hid _ := hla
   have H3 : Hid _ := hcm
   clear hkn hla hcm
   obtain ⟨⟨qa, qm, qc⟩, hKk⟩ : ∃ q, h.K k = q := ⟨_, rfl⟩
   rw [hKk] at e2 RR hmk
   have HKK : Hid _ := hKk
   clear hKk
   simp only at e2 RR hmk
   rw [ed] at c0
   have HG : Hid _ := G
   have HEh : Hid _ := HE
   clear G HE
   go_wp2_with (first | ((with_reducible refine sm 158 X0 0 [.bool kn, .int .i64 la, .slice qa qm qc, .int .i64 cm] ?_); intro V1 S; replace X0 : Bx V1 b0 [.bool kn, .int .i64 la, .slice qa qm qc, .int .i64 cm] := S.bx; replace c0 := X0.cell; replace f0 := X0.froz; replace B := bkp B S.kept; clear S) | ((with_reducible refine al 158 [.bool false, .int .i64 0, .slice none 0 0, .int .i64 0] ?_); intro b0 W0 N0; have ob0 := N0.ge; have B := N0.below; obtain ⟨X0, c0, f0⟩ := N0.a; clear N0) | fail)
   refine (l8Copy_z qa qm qc _ _ (RR.below B) hmk).mono ?_
   rintro e w1 ⟨ra1, rc1, z1, ue1, rfl, Gz1, zu1, hR1, R1, BB⟩
   have oz1 : wr.heap.size ≤ z1 := Nat.le_trans B.size Gz1
   have o0_z1 := ltl X0.lt Gz1
   clear Gz1
   replace X0 := X0.below BB
   replace c0 := X0.cell
   replace f0 := X0.froz
   replace B := below_next B BB
   clear BB
   go_upto_region 10 with (first | ((with_reducible refine so 24 X0 2 (.slice ra1 qm rc1) ?_); intro V2 S; replace X0 : Bx V2 b0 [.bool kn, .int .i64 la, .slice ra1 qm rc1, .int .i64 cm] := S.bx; replace c0 := X0.cell; replace f0 := X0.froz; replace R1 := R1.kept S.kept (by omega); replace hR1 := Nat.le_trans hR1 S.kept.size; replace B := bkp B S.kept; clear S) | fail)
   go_wp2_with (first | (at_builtin; refine Lib.wpList_append_run _ rfl _ _ _ _ rfl _ _ rfl rfl _ _ (hr _) ?_) | ((have g := ob0); clear g; (with_reducible refine lit_newX 27 1 _ [.bool kn, .int .i64 la, .slice ra1 qm rc1, .int .i64 cm] 158 (fun _ => by kernel_rfl)  ?_); intro b1 W1 N1; have ob1 := N1.o B; have o0_b1 := N1.u X0; have oR1_b1 : ue1 ≤ b1 := Nat.le_trans hR1 N1.ge; replace X0 := N1.r X0; replace c0 := X0.cell; replace f0 := X0.froz; replace R1 := R1.below N1.below; replace hR1 := Nat.le_trans hR1 N1.below.size; replace B := N1.n B; obtain ⟨X1, c1⟩ := N1.c; clear N1; obtain ⟨v', w', hr, G2, BB⟩ := copy_snoc HG.out B X1 R1 oz1 hR1 LZ2 H1.out H2.out H3.out hlt hn9; have HG2 : Hid _ := G2; clear G2) | fail)
   have BL2 : Hid (Below zz W9 w') := (BL.trans (B.mono LZ2)).trans BB
   have HE2 : Hid (∀ i, i < k + 1 → ((fun j => if j = k then (ra1, qm, rc1) else K' j) i).2.1 = (h.K i).2.1) := fun i hi => by
    by_cases e : i = k
    ·subst e; rw [HKK.out]; simp
    ·simp only [if_neg e]; exact HEh.out i (by omega)
   have LZ3 : Hid (zz ≤ w'.heap.size) := Nat.le_trans LZ2 (Nat.le_trans B.size BB.size)
   clear X0 c0 f0 X1 c1 R1 B BB hr
   go_wp2
   go_roundw
   case rel => exact ⟨k + 1, by omega, by go_num, (fun j => if j = k then (ra1, qm, rc1) else K' j), HG2.out, HE2.out, LZ3.out, BL2.out⟩
   case measure => simp [intOf]; omega
  ·obtain rfl : k = h.D.2.1 := by omega
   obtain ⟨ao9, c9, rfl, E9⟩ := G.els
   have KB := Kept.ofB BL
   have R5 := HR5.out.kept KB (Or.inl l5)
   have R7 := HR7.out.kept KB (Or.inl l7)
   have R8 := HR8.out.kept KB (Or.inl l8)
   have R9 : DoersAt wr true zz wr.heap.size ao9 h.D.2.1 c9 K' r.doers := ⟨hdl, E9⟩
   have X1 := HX1.out.low BL lt1
   have c1 := X1.cell
   have f0 := X0.froz
   have f1 := X1.froz
   have B : Below w.heap.size w wr := hbw
   have hR5 : ue5 ≤ wr.heap.size := by omega
   have hR7 : ue7 ≤ wr.heap.size := by omega
   have hR8 : ue8 ≤ wr.heap.size := by omega
   obtain ⟨ue9, hu9⟩ : ∃ ue9, ue9 = wr.heap.size := ⟨_, rfl⟩
   rw [← hu9] at R9
   have hR9 : ue9 ≤ wr.heap.size := Nat.le_of_eq hu9
   clear hu9 E9 G KB HX0 HX1 HR5 HR7 HR8 HB BL
   go_wp2_with (first | ((with_reducible refine sm 29 X1 0 [.int .i64 r.id, .int .i64 r.size, .int .i64 r.view, .bool r.normal, .int .i64 r.last, .slice ra5 h.L.2.1 rc5, .int .i64 r.commit, .slice (some ad7) h.O.2.1 rc7, .slice (some ad8) h.A.2.1 rc8, .slice ao9 h.D.2.1 c9] ?_); intro V22 S; replace X0 := X0.kp S.kept; replace c0 := X0.cell; replace f0 := X0.froz; replace X1 : Bx V22 b1 [.int .i64 r.id, .int .i64 r.size, .int .i64 r.view, .bool r.normal, .int .i64 r.last, .slice ra5 h.L.2.1 rc5, .int .i64 r.commit, .slice (some ad7) h.O.2.1 rc7, .slice (some ad8) h.A.2.1 rc8, .slice ao9 h.D.2.1 c9] := S.bx; replace c1 := X1.cell; replace f1 := X1.froz; replace R5 := R5.kept S.kept (by omega); replace hR5 := Nat.le_trans hR5 S.kept.size; replace R7 := R7.kept S.kept (by omega); replace hR7 := Nat.le_trans hR7 S.kept.size; replace R8 := R8.kept S.kept (by omega); replace hR8 := Nat.le_trans hR8 S.kept.size; replace R9 := R9.kept S.kept (by omega); replace hR9 := Nat.le_trans hR9 S.kept.size; replace B := bkp B S.kept; clear S) | ((with_reducible refine so 27 X0 9 (.slice ao9 h.D.2.1 c9) ?_); intro V21 S; replace X0 : Bx V21 b0 [.int .i64 r.id, .int .i64 r.size, .int .i64 r.view, .bool r.normal, .int .i64 r.last, .slice ra5 h.L.2.1 rc5, .int .i64 r.commit, .slice (some ad7) h.O.2.1 rc7, .slice (some ad8) h.A.2.1 rc8, .slice ao9 h.D.2.1 c9] := S.bx; replace c0 := X0.cell; replace f0 := X0.froz; replace X1 := X1.kp S.kept; replace c1 := X1.cell; replace f1 := X1.froz; replace R5 := R5.kept S.kept (by omega); replace hR5 := Nat.le_trans hR5 S.kept.size; replace R7 := R7.kept S.kept (by omega); replace hR7 := Nat.le_trans hR7 S.kept.size; replace R8 := R8.kept S.kept (by omega); replace hR8 := Nat.le_trans hR8 S.kept.size; replace R9 := R9.kept S.kept (by omega); replace hR9 := Nat.le_trans hR9 S.kept.size; replace B := bkp B S.kept; clear S))
   refine bodyPost_ret (v := .agg #[.int .i64 r.id, .int .i64 r.size, .int .i64 r.view, .bool r.normal, .int .i64 r.last, .slice ra5 h.L.2.1 rc5, .int .i64 r.commit, .slice (some ad7) h.O.2.1 rc7, .slice (some ad8) h.A.2.1 rc8, .slice ao9 h.D.2.1 c9]) (by simp [results, Tryz.results70, go_sem, *]) rfl ⟨w.heap.size, V22.heap.size, ⟨(ra5, h.L.2.1, rc5), (some ad7, h.O.2.1, rc7), (some ad8, h.A.2.1, rc8), (ao9, h.D.2.1, c9), K'⟩, rfl, Nat.le_refl _, Nat.le_refl _, ?_, ?_, B⟩
   ·exact repAt_ofZ R5 R7 R8 R9 ⟨by omega, by omega⟩ ⟨by omega, by omega⟩ ⟨by omega, by omega⟩ ⟨by omega, by omega⟩ (by omega) (by omega) (by omega) (by omega) (by omega) (by omega)
   ·exact ⟨hs.L, hs.O, hs.A, hs.D, fun i hi => by rw [HE i hi]; exact HS.out i hi⟩
end Go.Proofs.YtonclmbihhdkpaaGreat
