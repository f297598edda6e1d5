/- Chapter 9, plain: what enough have, counted (the model) and read off a sorted list (the program). No program is named here. -/
import Derived.Test.YtlmefgpgfdgimaaWL
import Derived.Test.YtlmefgpgfdgimaaI5s
import Derived.Deep.DeepCutAuto
set_option maxRecDepth 20000
set_option maxHeartbeats 16000000
namespace Go.Proofs.Ytlmefgpgfdgimaa
open Go.RowKit
structure InsIn (xs ys : List Int) (i j : Nat) : Prop where
 perm : ys.Perm xs
 low : ∀ p q, p < q → q < j → ys.getD p 0 ≤ ys.getD q 0
 up : ∀ p q, j ≤ p → p < q → q ≤ i → ys.getD p 0 ≤ ys.getD q 0
 over : ∀ p q, p < j → j < q → q ≤ i → ys.getD p 0 ≤ ys.getD q 0
theorem run_storeVar_oneC {P : Program} {w : World} {b k : Nat} {u : Value} (hc : w.cell? ⟨b, k, none⟩ = some u) (hf : w.frozen? ⟨b, k, none⟩ = false) (ty : TypeId) (v : Value) (hv : v.oneCell' = true) (hi : (P.info? ty).map (·.size) = some 1) : (storeVar ty ⟨b, k, none⟩ v).run P w = .ok () (w.setCells b k [v]) := by
 have := run_storeCells_cells (P := P) b k [v] 0 w (fun j hj => by
  have e : j = 0 := by simpa using hj
  rw [e, Nat.add_zero, hc]; rfl) (fun j hj => by
  have e : j = 0 := by simpa using hj
  rw [e, Nat.add_zero]; exact hf) (fun x hx => by simp at hx; subst hx; exact hv)
 have hc : v.cells = #[v] := by cases v <;> first | rfl | cases hv
 cases hq : P.info? ty with
 | none => simp [hq] at hi
 | some i =>
  have hs : i.size = 1 := by simpa [hq] using hi
  simp only [Nat.add_zero] at this
  simp [storeVar, sizeOf, typeInfo, hq, hc, hs, this]
theorem rep_ok {r : Rep} (h : repF r = 0) : numsP r ∧ lgF r.log r.commit = 0 ∧ (r.normal = true → r.last = r.view) ∧ sizesP r ∧ oksF r.log.length r.oks = 0 ∧ drsF r.doers = 0 := by
 unfold repF at h
 by_cases h1 : numsP r
 ·rw [if_pos h1] at h
  by_cases h2 : lgF r.log r.commit = 0
  ·rw [if_pos h2] at h
   by_cases h3 : (r.normal = true ∧ r.last ≠ r.view) ∨ ¬ sizesP r
   ·rw [if_pos h3] at h; cases h
   ·rw [if_neg h3] at h
    by_cases h4 : oksF r.log.length r.oks = 0
    ·rw [if_pos h4] at h
     exact ⟨h1, h2, fun hn => Decidable.byContradiction fun q => h3 (Or.inl ⟨hn, q⟩), Decidable.byContradiction fun q => h3 (Or.inr q), h4, h⟩
    ·rw [if_neg h4] at h; exact absurd h h4
  ·rw [if_neg h2] at h; exact absurd h h2
 ·rw [if_neg h1] at h; cases h
structure Led (r : Rep) : Prop where
 size : 1 ≤ r.size ∧ r.size ≤ 5
 id : 0 ≤ r.id ∧ r.id ≤ r.size - 1
 view : 0 ≤ r.view ∧ r.view ≤ 200
 log : r.log.length ≤ 40
 commit : 0 ≤ r.commit ∧ r.commit ≤ r.log.length
 oks : (r.oks.length : Int) = r.size
 okb : ∀ y ∈ r.oks, 0 ≤ y ∧ y ≤ (r.log.length : Int)
structure GrowAt (sz : Nat) (w : World) (base : Nat) (T : TypeId) (v : Value) (n : Nat) (F : Nat → Nat → Value) (K : Nat → Hd) (L : Nat → List En) : Prop where
 own : w.ownsRow base T sz v n (flatF sz n F)
 logs : ∀ i, i < n → RowAt w true base w.heap.size 6 (K i).1 (K i).2.1 (K i).2.2 (sixs (L i))
 sep : ∀ i, i < n → (K i).2.1 ≠ 0 → v.ownBlock ≠ some (sb (K i).1) ∧ ∀ j, j < n → j ≠ i → (K j).2.1 ≠ 0 → sb (K j).1 ≠ sb (K i).1
theorem GrowAt.nil (sz : Nat) (w : World) (base : Nat) (T : TypeId) (F : Nat → Nat → Value) (K : Nat → Hd) (L : Nat → List En) : GrowAt sz w base T (.slice none 0 0) 0 F K L :=
 ⟨by rw [flatF_zero]; exact World.ownsRow_nil _ _ _ _, fun i hi => absurd hi (Nat.not_lt_zero _), fun i hi => absurd hi (Nat.not_lt_zero _)⟩
theorem GrowAt.below {sz : Nat} {w w' : World} {base : Nat} {T : TypeId} {v : Value} {n : Nat} {F : Nat → Nat → Value} {K : Nat → Hd} {L : Nat → List En} (h : GrowAt sz w base T v n F K L) (hb : Below w.heap.size w w') : GrowAt sz w' base T v n F K L :=
 ⟨owns_below h.own hb, fun i hi => ((h.logs i hi).below hb).widen (Nat.le_refl _) hb.size, h.sep⟩
theorem GrowAt.kept {sz : Nat} {w w' : World} {base : Nat} {T : TypeId} {v : Value} {n : Nat} {F : Nat → Nat → Value} {K : Nat → Hd} {L : Nat → List En} (h : GrowAt sz w base T v n F K L) {l u : Nat} (hk : Kept l u w w') (hd : u ≤ base) : GrowAt sz w' base T v n F K L := by
 refine ⟨?_, fun i hi => ((h.logs i hi).kept hk (Or.inr hd)).widen (Nat.le_refl _) hk.size, h.sep⟩
 refine ⟨h.own.1, ?_⟩
 rcases h.own.2 with q | ⟨g, cap, cur, hv, hg, hh, rest⟩
 ·exact .inl q
 ·have hlt : g < w.heap.size := by
   rcases Nat.lt_or_ge g w.heap.size with q | q
   ·exact q
   ·rw [Array.getElem?_eq_none q] at hh; cases hh
  exact .inr ⟨g, cap, cur, hv, hg, by rw [hk.block g hlt (Or.inr (by omega))]; exact hh, rest⟩
theorem owns_slice {w : World} {base : Nat} {T : TypeId} {sz n : Nat} {v : Value} {cs : List Value} (h : w.ownsRow base T sz v n cs) : ∃ ao cap, v = .slice ao n cap ∧ RowAt w true base w.heap.size sz ao n cap cs ∧ (n ≠ 0 → v.ownBlock = some (sb ao)) := by
 rcases h.2 with ⟨q1, q2⟩ | ⟨g, cap, cur, hv, rest⟩
 ·subst q1; subst q2
  exact ⟨none, 0, rfl, ⟨by simpa using h.1, Nat.le_refl _, fun q => absurd rfl q⟩, fun q => absurd rfl q⟩
 ·have h' := h
  rw [hv] at h'
  exact ⟨_, cap, hv, RowAt.of_owns h' rest.2.2.1, fun _ => by rw [hv]; rfl⟩
theorem GrowAt.els {sz : Nat} {w : World} {base : Nat} {T : TypeId} {v : Value} {n : Nat} {F : Nat → Nat → Value} {K : Nat → Hd} {L : Nat → List En} (h : GrowAt sz w base T v n F K L) : ∃ ao cap, v = .slice ao n cap ∧ ElsAt sz w true base w.heap.size ao n cap F K L := by
 obtain ⟨ao, cap, e, R, hb⟩ := owns_slice h.own
 exact ⟨ao, cap, e, R, h.logs, fun _ i hi h0 => ⟨fun q => (h.sep i hi h0).1 (by rw [hb (by omega), q]), (h.sep i hi h0).2⟩⟩
theorem GrowAt.snoc {P : Program} {sz : Nat} {w : World} {base : Nat} {T : TypeId} {v : Value} {n : Nat} {F : Nat → Nat → Value} {K : Nat → Hd} {L : Nat → List En} (h : GrowAt sz w base T v n F K L) (t : TypeId) (i0 : TypeInfo) (z : Value) (bytes : Nat) (ht : P.underlying t = some (.slice T)) (hi0 : P.info? T = some i0) (hz0 : i0.zero = some z) (hz1 : i0.size = sz) (hz2 : i0.bytes = bytes) (hzs : z.cells.size = sz) (hsz : 0 < sz) (hby : bytes ≤ 1000)
  {ow : Bool} {l u : Nat} (ad : Addr) (c : Nat) (ns : List Value) (hrow : RowAt w ow l u sz (some ad) 1 c ns) (h1 : ∀ u ∈ ns, u.oneCell' = true) (F' : Nat → Nat → Value) (K' : Nat → Hd) (L' : Nat → List En) (hF : ∀ i j, i < n → j < sz → F' i j = F i j) (hN : (List.range sz).map (F' n) = ns) (hK : ∀ i, i < n → K' i = K i) (hL : ∀ i, i < n → L' i = L i)
  (hlog : RowAt w true base w.heap.size 6 (K' n).1 (K' n).2.1 (K' n).2.2 (sixs (L' n))) (hsep : (K' n).2.1 ≠ 0 → v.ownBlock ≠ some (sb (K' n).1) ∧ ∀ j, j < n → (K j).2.1 ≠ 0 → sb (K j).1 ≠ sb (K' n).1) (hn : n + 1 ≤ 1000000) (hbase : base ≤ w.heap.size) :
  ∃ v' w', (∀ ty, (Builtin.append_ #[t, t] ty #[v, .slice (some ad) 1 c]).run P w = .ok v' w') ∧ GrowAt sz w' base T v' (n + 1) F' K' L' ∧ KeptS (fun k => v.ownBlock = some k) w w' ∧ Below base w w' := by
 have hsrc : ∀ j u, ns[j]? = some u → w.cell? (ad.add j) = some u := fun j u hj => by
  have hjl : j < ns.length := (List.getElem?_eq_some_iff.1 hj).1
  have hl := hrow.len
  obtain ⟨b, off, e, _, _, _, hc, _⟩ := hrow.cells (by omega)
  have e2 : ad = ⟨b, off, none⟩ := Option.some.inj e
  rw [e2]
  have := hc j (by omega)
  rw [List.getD_eq_getElem?_getD, hj, Option.getD_some] at this
  rw [Addr.add_lit]; exact this
 have hby2 : (n + 1) * bytes ≤ 140737488355328 := Nat.le_trans (Nat.mul_le_mul hn hby) (by decide)
 have A := fun ty => run_append_own_at (P := P) w base t ty T i0 z sz bytes ht hi0 hz0 hz1 hz2 hzs hsz v n _ h.own ad 1 c ns hrow.len hsrc h1 (by unfold maxLen; omega) hby2 hbase
 obtain ⟨v', w', hr, ho, hg, _, hat⟩ := A T
 have hrun : ∀ ty, (Builtin.append_ #[t, t] ty #[v, .slice (some ad) 1 c]).run P w = .ok v' w' := fun ty => by
  have : ∀ ty, Builtin.append_ #[t, t] ty #[v, .slice (some ad) 1 c] = Builtin.append_ #[t, t] T #[v, .slice (some ad) 1 c] := fun _ => rfl
  rw [this]; exact hr
 have KS : KeptS (fun k => v.ownBlock = some k) w w' := ⟨hg.os, hg.tape, hg.output, hg.size, fun k hk hs => hg.block k hk (fun e => hs e.symm)⟩
 have inb : ∀ i, i < n + 1 → (K' i).2.1 ≠ 0 → sb (K' i).1 < w.heap.size ∧ v.ownBlock ≠ some (sb (K' i).1) := fun i hi h0 => by
  by_cases e : i = n
  ·subst e; exact ⟨(hlog.inB ⟨h0, rfl⟩).2.2, (hsep h0).1⟩
  ·have hi' : i < n := by omega
   rw [hK i hi'] at h0 ⊢
   exact ⟨((h.logs i hi').inB ⟨h0, rfl⟩).2.2, (h.sep i hi' h0).1⟩
 refine ⟨v', w', hrun, ⟨?_, fun i hi => ?_, fun i hi h0 => ⟨fun q => ?_, fun j hj hne h2 => ?_⟩⟩, KS, (Below.refl base w).grown hg hbase (fun g hg' => (h.own.lt g hg').1)⟩
 ·rw [flatF_snoc, hN, flatF_congr hF]; exact ho
 ·have R : RowAt w true base w.heap.size 6 (K' i).1 (K' i).2.1 (K' i).2.2 (sixs (L' i)) := by
   by_cases e : i = n
   ·subst e; exact hlog
   ·rw [hK i (by omega), hL i (by omega)]; exact h.logs i (by omega)
  refine (R.keptR KS fun k hk hs => ?_).widen (Nat.le_refl _) hg.size
  have := (inb i hi hk.1).2
  rw [← hk.2] at this
  exact this hs
 ·rcases hat with e | e
  ·exact (inb i hi h0).2 (e ▸ q)
  ·rw [e] at q
   have := (inb i hi h0).1
   have e3 : w.heap.size = sb (K' i).1 := Option.some.inj q
   omega
 ·by_cases e1 : i = n
  ·subst e1
   have hj' : j < i := by omega
   rw [hK j hj'] at h2 ⊢
   exact (hsep h0).2 j hj' h2
  ·by_cases e2 : j = n
   ·subst e2
    have hi' : i < j := by omega
    rw [hK i hi'] at h0 ⊢
    exact fun q => (hsep h2).2 i hi' h0 q.symm
   ·have hi' : i < n := by omega
    have hj' : j < n := by omega
    rw [hK i hi'] at h0 ⊢
    rw [hK j hj'] at h2 ⊢
    exact (h.sep i hi' h0).2 j hj' hne h2
theorem KeptS.low {S : Nat → Prop} {w w' : World} (h : KeptS S w w') (B : Nat) (h1 : ∀ k, S k → B ≤ k) (h2 : B ≤ w.heap.size) : Below B w w' :=
 ⟨h.os, h.tape, h.output, h.size, fun k hk => h.block k (by omega) (fun hs => by have := h1 k hs; omega)⟩
theorem Bx.low {w W : World} {b n : Nat} {vs : List Value} (h : Bx w b vs) (hb : Below n w W) (hn : b < n) : Bx W b vs :=
 ⟨Nat.lt_of_lt_of_le h.lt hb.size, fun k => by rw [World.cell?_of_block (w := w) (a := ⟨b, k, none⟩) (hb.block b hn)]; exact h.cell k, fun k => by rw [World.frozen?_of_block (w := w) (a := ⟨b, k, none⟩) (hb.block b hn)]; exact h.froz k⟩
theorem lit_newX {P : Program} {ops : Array Oper} {rest : List Oper} {dst : Option Tmp} {type : TypeId} {pos : String} {after : Array Edge} {a : Act} {w : World} {Q : Exit → Act → World → Prop} (t : TypeId) (n : Nat) (parts : Array (Nat × Operand)) (cs : List Value) (T : TypeId) (hb : ∀ w : World, (Instr.buildSlice t n (parts.map fun (i, x) => (i, a.eval x))).run P w = .ok (.slice (some ⟨w.heap.size, 0, none⟩) n n) (w.alloc (.cells cs.toArray T)))
  (h : ∀ (b : Nat) (W : World), NewX w W b cs → wpList P ops Q rest (a.put dst (.slice (some ⟨b, 0, none⟩) n n)) W) : wpList P ops Q (⟨dst, .buildSlice t n parts, type, pos, after, none⟩ :: rest) a w := by
 refine wpList_plain rfl fun K hK => ?_
 have hK2 := hK _ _ (h _ _ (by simpa using newX_mk w cs.toArray T))
 have hb' : (Instr.buildSlice t n (Array.map (fun x => (x.fst, a.eval x.snd)) parts)).run P w = _ := hb w
 unfold Oper.wp execOp
 simp only [Sem.run_bind, Sem.run_pure, Result.andThen_ok, hb']
 exact hK2
theorem lit_newO {P : Program} {ops : Array Oper} {rest : List Oper} {dst : Option Tmp} {type : TypeId} {pos : String} {after : Array Edge} {a : Act} {w : World} {Q : Exit → Act → World → Prop} (t : TypeId) (n : Nat) (parts : Array (Nat × Operand)) (cs : List Value) (T : TypeId) (hb : ∀ w : World, (Instr.buildSlice t n (parts.map fun (i, x) => (i, a.eval x))).run P w = .ok (.slice (some ⟨w.heap.size, 0, none⟩) n n) (w.alloc (.cells cs.toArray T)))
  (h : ∀ (b : Nat) (W : World), NewX w W b cs → W.heap[b]? = some (.cells cs.toArray T) → wpList P ops Q rest (a.put dst (.slice (some ⟨b, 0, none⟩) n n)) W) : wpList P ops Q (⟨dst, .buildSlice t n parts, type, pos, after, none⟩ :: rest) a w := by
 refine wpList_plain rfl fun K hK => ?_
 have hK2 := hK _ _ (h _ _ (by simpa using newX_mk w cs.toArray T) (heap_alloc_new w _))
 have hb' : (Instr.buildSlice t n (Array.map (fun x => (x.fst, a.eval x.snd)) parts)).run P w = _ := hb w
 unfold Oper.wp execOp
 simp only [Sem.run_bind, Sem.run_pure, Result.andThen_ok, hb']
 exact hK2
theorem Kept.ofB {n : Nat} {w w' : World} (h : Below n w w') : Kept n w.heap.size w w' := ⟨h.os, h.tape, h.output, h.size, fun k hk hd => h.block k (by omega)⟩
theorem owns_litO {w : World} {base b : Nat} {T : TypeId} {sz : Nat} (hb : base ≤ b) (h : w.heap[b]? = some (.cells ([] : List Value).toArray T)) : w.ownsRow base T sz (.slice (some ⟨b, 0, none⟩) 0 0) 0 [] :=
 ⟨by simp, .inr ⟨b, 0, #[], rfl, hb, h, Nat.le_refl _, Nat.zero_le _, by simp, by simp⟩⟩
theorem l8Copy_z {o : Bool} {l u : Nat} (ab : Option Addr) (nb cb : Nat) (xs : List En) (w : World) (h : RowAt w o l u 6 ab nb cb (sixs xs)) (hn : nb ≤ 1048576) :
  Calls Try.prog 48 #[.slice ab nb cb] w fun e w' => CloR w w' e 6 nb (sixs xs) := by
 obtain ⟨j0, hj0, hy0, hy1, hy2⟩ := info_parts Try.infoEntry
 have B3 : Below w.heap.size w (w.alloc (.cells #[] 70)) := (Below.refl _ _).alloc (Nat.le_refl _) _
 obtain ⟨ad', cp, w4, hr4, R4, B4, -⟩ := run_append_fresh (P := Try.prog) (w.alloc (.cells #[] 70)) 24 24 70 j0 (.agg #[.int .i64 0, .int .i64 0, .int .i64 0, .int .i64 0, .int .i64 0, .int .i64 0]) 6 48 Try.underlying24 hj0 hy0 hy1 hy2 (by rw [hy1]; rfl) w.heap.size ab nb cb (sixs xs) (h.below B3) (sixs_oneX xs) hn (by omega)
 go_enter Try.func48, Try.ntmps48
 go_wp2_with (at_builtin; refine Lib.wpList_append_run _ rfl _ _ _ _ rfl _ _ rfl rfl _ _ hr4 ?_)
 have B5 := below_next B3 B4
 have R5 : RowAt w4 true w.heap.size w4.heap.size 6 (some ad') nb cp (sixs xs) := R4.widen (by simp) (Nat.le_refl _)
 clear B3 B4 R4 hr4
 go_wp2
 go_ret
 exact ⟨some ad', cp, _, _, rfl, Nat.le_refl _, B5.size, Nat.le_refl _, R5, B5⟩
end Go.Proofs.Ytlmefgpgfdgimaa
