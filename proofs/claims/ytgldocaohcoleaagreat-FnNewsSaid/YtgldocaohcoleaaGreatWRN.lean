/- Chapter 9: lists whose elements each have a log, that grow by append. No program is named here. -/
import Derived.Test.YtgldocaohcoleaaGreatQAFN
import Derived.Test.YtgldocaohcoleaaGreatQABN
import Derived.Test.YtgldocaohcoleaaGreatQACN
import Derived.Maps.AppendAt
import Derived.Lib.AppendZeros
import Derived.Test.YtgldocaohcoleaaGreatWLN
import Derived.Test.YtgldocaohcoleaaGreatQAJN
import Derived.Test.YtgldocaohcoleaaGreatQALN
import Derived.Test.YtgldocaohcoleaaGreatWFN
import Derived.Deep.DeepCutAuto
set_option maxRecDepth 20000
set_option maxHeartbeats 16000000
namespace Go.Proofs.YtgldocaohcoleaaGreat
open Go.RowKit
structure GrowAt (sz : Nat) (w : World) (base : Nat) (T : TypeId) (v : Value) (n : Nat) (F : Nat → Nat → Value) (K : Nat → Hd) (L : Nat → List En) : Prop where
 own : w.ownsRow base T sz v n (flatF sz n F)
 logs : ∀ i, i < n → RowAt w true base w.heap.size 6 (K i).1 (K i).2.1 (K i).2.2 (sixs (L i))
 sep : ∀ i, i < n → (K i).2.1 ≠ 0 → v.ownBlock ≠ some (sb (K i).1) ∧ ∀ j, j < n → j ≠ i → (K j).2.1 ≠ 0 → sb (K j).1 ≠ sb (K i).1
theorem GrowAt.nil (sz : Nat) (w : World) (base : Nat) (T : TypeId) (F : Nat → Nat → Value) (K : Nat → Hd) (L : Nat → List En) : GrowAt sz w base T (.slice none 0 0) 0 F K L :=
 ⟨by rw [flatF_zero]; exact World.ownsRow_nil _ _ _ _, fun i hi => absurd hi (Nat.not_lt_zero _), fun i hi => absurd hi (Nat.not_lt_zero _)⟩
theorem GrowAt.below {sz : Nat} {w w' : World} {base : Nat} {T : TypeId} {v : Value} {n : Nat} {F : Nat → Nat → Value} {K : Nat → Hd} {L : Nat → List En} (h : GrowAt sz w base T v n F K L) (hb : Below w.heap.size w w') : GrowAt sz w' base T v n F K L :=
 ⟨owns_below h.own hb, fun i hi => ((h.logs i hi).below hb).widen (Nat.le_refl _) hb.size, h.sep⟩
theorem GrowAt.kept {sz : Nat} {w w' : World} {base : Nat} {T : TypeId} {v : Value} {n : Nat} {F : Nat → Nat → Value} {K : Nat → Hd} {L : Nat → List En} (h : GrowAt sz w base T v n F K L) {l u : Nat} (hk : Kept l u w w') (hd : u ≤ base) : GrowAt sz w' base T v n F K L := by
 refine ⟨?_, fun i hi => ((h.logs i hi).kept hk (Or.inr hd)).widen (Nat.le_refl _) hk.size, h.sep⟩
 refine ⟨h.own.1, ?_⟩
 rcases h.own.2 with q | ⟨g, cap, cur, hv, hg, hh, rest⟩
 ·exact .inl q
 ·have hlt : g < w.heap.size := by
   rcases Nat.lt_or_ge g w.heap.size with q | q
   ·exact q
   ·rw [Array.getElem?_eq_none q] at hh; cases hh
  exact .inr ⟨g, cap, cur, hv, hg, by rw [hk.block g hlt (Or.inr (by omega))]; exact hh, rest⟩
theorem owns_slice {w : World} {base : Nat} {T : TypeId} {sz n : Nat} {v : Value} {cs : List Value} (h : w.ownsRow base T sz v n cs) : ∃ ao cap, v = .slice ao n cap ∧ RowAt w true base w.heap.size sz ao n cap cs ∧ (n ≠ 0 → v.ownBlock = some (sb ao)) := by
 rcases h.2 with ⟨q1, q2⟩ | ⟨g, cap, cur, hv, rest⟩
 ·subst q1; subst q2
  exact ⟨none, 0, rfl, ⟨by simpa using h.1, Nat.le_refl _, fun q => absurd rfl q⟩, fun q => absurd rfl q⟩
 ·have h' := h
  rw [hv] at h'
  exact ⟨_, cap, hv, RowAt.of_owns h' rest.2.2.1, fun _ => by rw [hv]; rfl⟩
theorem GrowAt.els {sz : Nat} {w : World} {base : Nat} {T : TypeId} {v : Value} {n : Nat} {F : Nat → Nat → Value} {K : Nat → Hd} {L : Nat → List En} (h : GrowAt sz w base T v n F K L) : ∃ ao cap, v = .slice ao n cap ∧ ElsAt sz w true base w.heap.size ao n cap F K L := by
 obtain ⟨ao, cap, e, R, hb⟩ := owns_slice h.own
 exact ⟨ao, cap, e, R, h.logs, fun _ i hi h0 => ⟨fun q => (h.sep i hi h0).1 (by rw [hb (by omega), q]), (h.sep i hi h0).2⟩⟩
theorem GrowAt.snoc {P : Program} {sz : Nat} {w : World} {base : Nat} {T : TypeId} {v : Value} {n : Nat} {F : Nat → Nat → Value} {K : Nat → Hd} {L : Nat → List En} (h : GrowAt sz w base T v n F K L) (t : TypeId) (i0 : TypeInfo) (z : Value) (bytes : Nat) (ht : P.underlying t = some (.slice T)) (hi0 : P.info? T = some i0) (hz0 : i0.zero = some z) (hz1 : i0.size = sz) (hz2 : i0.bytes = bytes) (hzs : z.cells.size = sz) (hsz : 0 < sz) (hby : bytes ≤ 1000)
  {ow : Bool} {l u : Nat} (ad : Addr) (c : Nat) (ns : List Value) (hrow : RowAt w ow l u sz (some ad) 1 c ns) (h1 : ∀ u ∈ ns, u.oneCell' = true) (F' : Nat → Nat → Value) (K' : Nat → Hd) (L' : Nat → List En) (hF : ∀ i j, i < n → j < sz → F' i j = F i j) (hN : (List.range sz).map (F' n) = ns) (hK : ∀ i, i < n → K' i = K i) (hL : ∀ i, i < n → L' i = L i)
  (hlog : RowAt w true base w.heap.size 6 (K' n).1 (K' n).2.1 (K' n).2.2 (sixs (L' n))) (hsep : (K' n).2.1 ≠ 0 → v.ownBlock ≠ some (sb (K' n).1) ∧ ∀ j, j < n → (K j).2.1 ≠ 0 → sb (K j).1 ≠ sb (K' n).1) (hn : n + 1 ≤ 1000000) (hbase : base ≤ w.heap.size) :
  ∃ v' w', (∀ ty, (Builtin.append_ #[t, t] ty #[v, .slice (some ad) 1 c]).run P w = .ok v' w') ∧ GrowAt sz w' base T v' (n + 1) F' K' L' ∧ KeptS (fun k => v.ownBlock = some k) w w' ∧ Below base w w' := by
 have hsrc : ∀ j u, ns[j]? = some u → w.cell? (ad.add j) = some u := fun j u hj => by
  have hjl : j < ns.length := (List.getElem?_eq_some_iff.1 hj).1
  have hl := hrow.len
  obtain ⟨b, off, e, _, _, _, hc, _⟩ := hrow.cells (by omega)
  have e2 : ad = ⟨b, off, none⟩ := Option.some.inj e
  rw [e2]
  have := hc j (by omega)
  rw [List.getD_eq_getElem?_getD, hj, Option.getD_some] at this
  rw [Addr.add_lit]; exact this
 have hby2 : (n + 1) * bytes ≤ 140737488355328 := Nat.le_trans (Nat.mul_le_mul hn hby) (by decide)
 have A := fun ty => run_append_own_at (P := P) w base t ty T i0 z sz bytes ht hi0 hz0 hz1 hz2 hzs hsz v n _ h.own ad 1 c ns hrow.len hsrc h1 (by unfold maxLen; omega) hby2 hbase
 obtain ⟨v', w', hr, ho, hg, _, hat⟩ := A T
 have hrun : ∀ ty, (Builtin.append_ #[t, t] ty #[v, .slice (some ad) 1 c]).run P w = .ok v' w' := fun ty => by
  have : ∀ ty, Builtin.append_ #[t, t] ty #[v, .slice (some ad) 1 c] = Builtin.append_ #[t, t] T #[v, .slice (some ad) 1 c] := fun _ => rfl
  rw [this]; exact hr
 have KS : KeptS (fun k => v.ownBlock = some k) w w' := ⟨hg.os, hg.tape, hg.output, hg.size, fun k hk hs => hg.block k hk (fun e => hs e.symm)⟩
 have inb : ∀ i, i < n + 1 → (K' i).2.1 ≠ 0 → sb (K' i).1 < w.heap.size ∧ v.ownBlock ≠ some (sb (K' i).1) := fun i hi h0 => by
  by_cases e : i = n
  ·subst e; exact ⟨(hlog.inB ⟨h0, rfl⟩).2.2, (hsep h0).1⟩
  ·have hi' : i < n := by omega
   rw [hK i hi'] at h0 ⊢
   exact ⟨((h.logs i hi').inB ⟨h0, rfl⟩).2.2, (h.sep i hi' h0).1⟩
 refine ⟨v', w', hrun, ⟨?_, fun i hi => ?_, fun i hi h0 => ⟨fun q => ?_, fun j hj hne h2 => ?_⟩⟩, KS, (Below.refl base w).grown hg hbase (fun g hg' => (h.own.lt g hg').1)⟩
 ·rw [flatF_snoc, hN, flatF_congr hF]; exact ho
 ·have R : RowAt w true base w.heap.size 6 (K' i).1 (K' i).2.1 (K' i).2.2 (sixs (L' i)) := by
   by_cases e : i = n
   ·subst e; exact hlog
   ·rw [hK i (by omega), hL i (by omega)]; exact h.logs i (by omega)
  refine (R.keptR KS fun k hk hs => ?_).widen (Nat.le_refl _) hg.size
  have := (inb i hi hk.1).2
  rw [← hk.2] at this
  exact this hs
 ·rcases hat with e | e
  ·exact (inb i hi h0).2 (e ▸ q)
  ·rw [e] at q
   have := (inb i hi h0).1
   have e3 : w.heap.size = sb (K' i).1 := Option.some.inj q
   omega
 ·by_cases e1 : i = n
  ·subst e1
   have hj' : j < i := by omega
   rw [hK j hj'] at h2 ⊢
   exact (hsep h0).2 j hj' h2
  ·by_cases e2 : j = n
   ·subst e2
    have hi' : i < j := by omega
    rw [hK i hi'] at h0 ⊢
    exact fun q => (hsep h2).2 i hi' h0 q.symm
   ·have hi' : i < n := by omega
    have hj' : j < n := by omega
    rw [hK i hi'] at h0 ⊢
    rw [hK j hj'] at h2 ⊢
    exact (h.sep i hi' h0).2 j hj' hne h2
def NodeAns (w w' : World) (e : Ending) (c : Int) (q : Rep) (ms : List Ml) : Prop := ∃ (z u : Nat) (h : RH) (s : Hd) (Km : Nat → Hd), e = .returned (.agg #[.int .i64 c, .int .i64 q.id, .int .i64 q.size, .int .i64 q.view, .bool q.normal, .int .i64 q.last, .slice h.L.1 h.L.2.1 h.L.2.2, .int .i64 q.commit, .slice h.O.1 h.O.2.1 h.O.2.2, .slice h.A.1 h.A.2.1 h.A.2.2, .slice h.D.1 h.D.2.1 h.D.2.2, .slice s.1 s.2.1 s.2.2]) ∧ w.heap.size ≤ z ∧ u ≤ w'.heap.size ∧ AnsAt w' true z u h s Km q ms ∧ ASz h s Km 1048576 ∧ Below w.heap.size w w'
def crashR (r : Rep) : Rep := ⟨r.id, r.size, r.view, r.normal, r.last, r.log, 0, List.replicate r.oks.length 0, (List.replicate r.asks.length false).set r.id.toNat true, List.replicate r.doers.length dr0⟩
theorem KeptS.low {S : Nat → Prop} {w w' : World} (h : KeptS S w w') (B : Nat) (h1 : ∀ k, S k → B ≤ k) (h2 : B ≤ w.heap.size) : Below B w w' :=
 ⟨h.os, h.tape, h.output, h.size, fun k hk => h.block k (by omega) (fun hs => by have := h1 k hs; omega)⟩
theorem run_clear_row {P : Program} (w : World) (t e : TypeId) (z : Value) (ht : P.underlying t = some (.slice e)) (hv : ∀ w, (zeroValue e).run P w = .ok z w) {lo hi size : Nat} (ao : Option Addr) (n c : Nat) (zs cs : List Value) (hz : (Builtin.zeroCells z.cells n).toList = zs) (hl : zs.length = n * size) (h1 : ∀ v ∈ zs, v.oneCell' = true) (R : RowAt w true lo hi size ao n c cs) :
  ∃ w', (∀ ty, (Builtin.clear_ #[t] ty #[.slice ao n c]).run P w = .ok (.tuple #[]) w') ∧ RowAt w' true lo hi size ao n c zs ∧ KeptS (inR ao n) w w' := by
 by_cases hn : n = 0
 ·subst hn
  have : zs = [] := List.eq_nil_of_length_eq_zero (by omega)
  subst this
  refine ⟨w, fun ty => ?_, RowAt.nilR _ _ _ _ _ _ _, KeptS.refl _ _⟩
  cases ao <;> simp [Builtin.clear_, run_underlying ht]
 ·obtain ⟨b, off, rfl, q1, q2, q3, q4, q5⟩ := R.cells hn
  have hst := run_storeCells_cells (P := P) b off zs 0 w (fun j hj => by rw [Nat.add_zero, q4 j (by omega)]; rfl) (fun j hj => by rw [Nat.add_zero]; exact q5 rfl j (by omega)) h1
  simp only [Nat.add_zero] at hst
  refine ⟨w.setCells b off zs, fun ty => ?_, ⟨hl, R.le, fun _ => ⟨b, off, rfl, q1, q2, by rw [size_setCells']; exact q3, fun i hi => ?_, fun _ i hi => by rw [World.frozen?_setCells]; exact q5 rfl i hi⟩⟩, ?_⟩
  ·obtain ⟨m, rfl⟩ : ∃ m, n = m + 1 := ⟨n - 1, by omega⟩
   simp [Builtin.clear_, run_underlying ht, hv, hz, hst]
  ·rw [World.cell?_setCells_in b zs off w (fun j hj => by rw [q4 j (by omega)]; rfl) i (by omega)]
   simp [List.getD, show i < zs.length by omega]
  ·exact ((Kept.refl b (b + 1) w).setCells (Nat.le_refl _) (Nat.lt_succ_self _) _ _).toS fun k k1 k2 => ⟨hn, by show k = b; omega⟩
theorem zero_ints (n : Nat) : (Builtin.zeroCells (Value.int .i64 0).cells n).toList = ints (List.replicate n 0) := by
 apply List.ext_getElem (by simp [Builtin.zeroCells, ints, Value.cells])
 intro j h1 h2
 simp [Builtin.zeroCells, ints, Value.cells, Nat.mod_one]
theorem zero_bools (n : Nat) : (Builtin.zeroCells (Value.bool false).cells n).toList = bls (List.replicate n false) := by
 apply List.ext_getElem (by simp [Builtin.zeroCells, bls, Value.cells])
 intro j h1 h2
 simp [Builtin.zeroCells, bls, Value.cells, Nat.mod_one]
theorem zero_doers (n : Nat) (m : Nat) : (Builtin.zeroCells (Value.agg #[.bool false, .int .i64 0, .slice none 0 0, .int .i64 0]).cells n).toList = flatF 4 n (drF kd0 (List.replicate m dr0)) := by
 have hd : drF kd0 (List.replicate m dr0) = drF kd0 [] := by
  funext i j
  have : (List.replicate m dr0).getD i dr0 = ([] : List Dr).getD i dr0 := by simp only [List.getD_eq_getElem?_getD, List.getElem?_replicate]; split <;> rfl
  unfold drF; rw [this]
 rw [hd]
 apply List.ext_getElem (by simp [Builtin.zeroCells, flatF, Value.cells])
 intro j h1 h2
 have : j % 4 = 0 ∨ j % 4 = 1 ∨ j % 4 = 2 ∨ j % 4 = 3 := by omega
 rcases this with e | e | e | e <;> simp [Builtin.zeroCells, flatF, drF, hv, kd0, e, Value.cells, dr0]
theorem doers_zero {w : World} {own : Bool} {lo hi : Nat} {ao : Option Addr} {n cap : Nat} (R : RowAt w own lo hi 4 ao n cap (flatF 4 n (drF kd0 (List.replicate n dr0)))) : DoersAt w own lo hi ao n cap kd0 (List.replicate n dr0) :=
 ⟨by simp, R, fun i hi => by
  have : drL (List.replicate n dr0) i = [] := by unfold drL; rw [List.getD_eq_getElem?_getD, List.getElem?_replicate]; split <;> rfl
  rw [this]; exact RowAt.nilR _ _ _ _ _ _ _, fun _ i hi h0 => absurd rfl h0⟩
theorem forget_is {lo hi : Nat} (r : Rep) (h : RH) (s : Hd) (b0 : Nat) (w : World) (X0 : Bx w b0 [.int .i64 r.id, .int .i64 r.size, .int .i64 r.view, .bool r.normal, .int .i64 r.last, .slice h.L.1 h.L.2.1 h.L.2.2, .int .i64 r.commit, .slice h.O.1 h.O.2.1 h.O.2.2, .slice h.A.1 h.A.2.1 h.A.2.2, .slice h.D.1 h.D.2.1 h.D.2.2, .slice s.1 s.2.1 s.2.2]) (x : RepAt w true lo hi h r) (hq : hi ≤ b0) (hlq : lo ≤ b0) (hlw : lo ≤ w.heap.size) (hs : 1 ≤ r.size ∧ r.size ≤ 5) (hid : 0 ≤ r.id ∧ r.id ≤ r.size - 1) (hA : (r.asks.length : Int) = if r.normal = true then 0 else r.size) :
  Calls Tryz.prog 110 #[.pointer (some ⟨b0, 0, none⟩)] w fun e w' => e = .returned (.tuple #[]) ∧ Bx w' b0 [.int .i64 (crashR r).id, .int .i64 (crashR r).size, .int .i64 (crashR r).view, .bool (crashR r).normal, .int .i64 (crashR r).last, .slice h.L.1 h.L.2.1 h.L.2.2, .int .i64 (crashR r).commit, .slice h.O.1 h.O.2.1 h.O.2.2, .slice h.A.1 h.A.2.1 h.A.2.2, .slice h.D.1 h.D.2.1 h.D.2.2, .slice s.1 s.2.1 s.2.2] ∧ RepAt w' true lo hi ⟨h.L, h.O, h.A, h.D, kd0⟩ (crashR r) ∧ Below lo w w' := by
 have hol := x.oks.nInts
 have hal := x.asks.nBls
 have hdl := x.doers.len
 have ⟨s1, s2, s3, s4, s5, s6⟩ := x.sep rfl
 have H1 : Hid _ := s1
 have H2 : Hid _ := s2
 have H3 : Hid _ := s3
 have H4 : Hid _ := s4
 have H5 : Hid _ := s5
 have H6 : Hid _ := s6
 clear s1 s2 s3 s4 s5 s6
 have HD : Hid (∀ k, hR h.D k → inE h.D.1 h.D.2.1 h.K k) := fun k hk => Or.inl hk
 have c0 := X0.cell
 have f0 := X0.froz
 have ob0 := X0.lt
 have L5 := x.log
 have O7 := x.oks
 have A8 := x.asks
 have D9 := x.doers.els.row
 clear x
 obtain ⟨i, hi0⟩ : ∃ i : Nat, r.id = i := ⟨r.id.toNat, by omega⟩
 have B0 : Below lo w w := Below.refl _ _
 go_enter Tryz.func110, Tryz.ntmps110
 go_upto_region 1 with (first | ((with_reducible refine store_oneX 2 X0 6 (.int .i64 0) (by simp) (by kernel_rfl) rfl rfl rfl ?_); intro V1 S; replace L5 := L5.kept S.kept (by omega); replace O7 := O7.kept S.kept (by omega); replace A8 := A8.kept S.kept (by omega); replace D9 := D9.kept S.kept (by omega); replace X0 : Bx V1 b0 [.int .i64 r.id, .int .i64 r.size, .int .i64 r.view, .bool r.normal, .int .i64 r.last, .slice h.L.1 h.L.2.1 h.L.2.2, .int .i64 0, .slice h.O.1 h.O.2.1 h.O.2.2, .slice h.A.1 h.A.2.1 h.A.2.2, .slice h.D.1 h.D.2.1 h.D.2.2, .slice s.1 s.2.1 s.2.2] := S.bx; replace c0 := X0.cell; replace f0 := X0.froz; replace B0 := B0.trans (S.kept.below _ hlq hlw); clear S))
 obtain ⟨w1, hr, R, KS⟩ := run_clear_row V1 61 2 (.int .i64 0) Tryz.underlying61 (fun _ => by kernel_rfl) _ _ _ _ _ (zero_ints _) (by rw [ints_length]; simp) (ints_oneX _) O7
 have HK : Hid _ := KS
 have nb : ¬ inR h.O.1 h.O.2.1 b0 := fun z => by have := O7.inB z; omega
 have BL : Below lo V1 w1 := KS.low _ (fun k hk => (O7.inB hk).1) (Nat.le_trans hlw B0.size)
 replace O7 := R
 clear R
 replace L5 := L5.keptR KS (H1.out)
 replace A8 := A8.keptR KS (Sep.symm H4.out)
 replace D9 := D9.keptR KS (fun k hk hd => H5.out k hd (HD.out k hk))
 go_upto_region 2 with fail
 replace X0 := X0.keptS HK.out nb
 replace c0 := X0.cell
 replace f0 := X0.froz
 replace B0 := B0.trans BL
 clear hr KS HK nb BL
 obtain ⟨w2, hr, R, KS⟩ := run_clear_row w1 62 4 (.bool false) Tryz.underlying62 (fun _ => by kernel_rfl) _ _ _ _ _ (zero_bools _) (by rw [bls_length]; simp) (bls_one _) A8
 have HK : Hid _ := KS
 have nb : ¬ inR h.A.1 h.A.2.1 b0 := fun z => by have := A8.inB z; omega
 have BL : Below lo w1 w2 := KS.low _ (fun k hk => (A8.inB hk).1) (Nat.le_trans hlw B0.size)
 replace A8 := R
 clear R
 replace L5 := L5.keptR KS (H2.out)
 replace O7 := O7.keptR KS (H4.out)
 replace D9 := D9.keptR KS (fun k hk hd => H6.out k hd (HD.out k hk))
 go_upto_region 3 with fail
 replace X0 := X0.keptS HK.out nb
 replace c0 := X0.cell
 replace f0 := X0.froz
 replace B0 := B0.trans BL
 clear hr KS HK nb BL
 obtain ⟨w3, hr, R, KS⟩ := run_clear_row w2 63 194 (.agg #[.bool false, .int .i64 0, .slice none 0 0, .int .i64 0]) Tryz.underlying63 (fun _ => by kernel_rfl) _ _ _ _ _ (zero_doers _ h.D.2.1) (by rw [flatF_len]) (flat_one _ _ _) D9
 have HK : Hid _ := KS
 have nb : ¬ inR h.D.1 h.D.2.1 b0 := fun z => by have := D9.inB z; omega
 have BL : Below lo w2 w3 := KS.low _ (fun k hk => (D9.inB hk).1) (Nat.le_trans hlw B0.size)
 replace D9 := R
 clear R
 replace L5 := L5.keptR KS (fun k hk hd => H3.out k hk (HD.out k hd))
 replace O7 := O7.keptR KS (fun k hk hd => H5.out k hk (HD.out k hd))
 replace A8 := A8.keptR KS (fun k hk hd => H6.out k hk (HD.out k hd))
 go_upto_region 4 with fail
 replace X0 := X0.keptS HK.out nb
 replace c0 := X0.cell
 replace f0 := X0.froz
 replace B0 := B0.trans BL
 clear hr KS HK nb BL
 have HE : Hid (∀ k, inE h.D.1 h.D.2.1 kd0 k → inE h.D.1 h.D.2.1 h.K k) := fun k hk => by
  rcases hk with hk | ⟨j, _, h0, _⟩
  ·exact Or.inl hk
  ·exact absurd rfl h0
 by_cases hn : r.normal = true
 ·rw [if_pos hn] at hA
  have hz : r.asks = [] := List.eq_nil_of_length_eq_zero (by omega)
  have hz0 : h.A.2.1 = 0 := by rw [← hal, hz]; rfl
  have HC : Hid _ := c0
  rw [hn] at c0
  go_wp2
  refine bodyPost_end (v := .tuple #[]) (by simp [results, Tryz.results110, go_sem]) rfl ⟨rfl, ?_, ⟨L5, ?_, ?_, ?_, fun _ => ⟨H1.out, H2.out, fun k hk hd => H3.out k hk (HE.out k hd), H4.out, fun k hk hd => H5.out k hk (HE.out k hd), fun k hk hd => H6.out k hk (HE.out k hd)⟩⟩, B0⟩
  ·exact X0
  ·show RowAt _ _ _ _ _ _ _ _ (ints (List.replicate r.oks.length 0)); rw [hol]; exact O7
  ·show RowAt _ _ _ _ _ _ _ _ (bls ((List.replicate r.asks.length false).set r.id.toNat true)); rw [hz, hz0]; exact RowAt.nilR _ _ _ _ _ _ _
  ·show DoersAt _ _ _ _ _ _ _ _ (List.replicate r.doers.length dr0); rw [hdl]; exact doers_zero D9
 ·rw [if_neg hn] at hA
  have hn' : r.normal = false := by simpa using hn
  have hiA : i < h.A.2.1 := by omega
  have hiq : (i : Int) < (h.A.2.1 : Int) := by omega
  obtain ⟨bb, off, ea, y1, y2, y3, e0, f1⟩ := A8.bool hiA
  replace f1 := f1 rfl
  have HX : Hid _ := X0
  rw [hn', hi0, ea] at c0
  rw [ea] at A8
  go_wp2_with fail
  replace c0 : ∀ k : Nat, w3.drew.cell? ⟨b0, k, none⟩ = _ := c0
  replace e0 : w3.drew.cell? _ = _ := e0
  replace f1 : w3.drew.frozen? _ = _ := f1
  refine wp_region_held_drew (S := (fun w' => ∀ k : Nat, w'.cell? ⟨b0, k, none⟩ = [.int .i64 i, .int .i64 r.size, .int .i64 r.view, .bool false, .int .i64 r.last, .slice h.L.1 h.L.2.1 h.L.2.2, .int .i64 0, .slice h.O.1 h.O.2.1 h.O.2.2, .slice (some ⟨bb, off, none⟩) h.A.2.1 h.A.2.2, .slice h.D.1 h.D.2.1 h.D.2.2, .slice s.1 s.2.1 s.2.2][k]?)) (by kernel_rfl) c0 (fun hZq => ?_)
  refine tk 0 hZq ?_
  refine tk 1 hZq ?_
  refine tk 2 hZq ?_
  refine tk 3 hZq ?_
  refine tk 4 hZq ?_
  refine tk 5 hZq ?_
  refine tk 6 hZq ?_
  refine tk 7 hZq ?_
  refine tk 8 hZq ?_
  refine tk 9 hZq ?_
  refine tk 10 hZq ?_
  refine rd1 11 (fun KK hKK => ?_)
  refine step_oneC 4 e0 f1 (.bool true) (by kernel_rfl) rfl rfl rfl ?_
  have KK : Kept bb (bb + 1) w3.drew (w3.drew.setCell ⟨bb, off + i, none⟩ (.bool true)) := Kept.setCell (p := ⟨bb, off + i, none⟩) (Kept.refl _ _ _) (Nat.le_refl _) (Nat.lt_succ_self _) _
  have DB : Below w3.heap.size w3 w3.drew := (Below.refl _ _).drew
  have KS : KeptS (inR h.A.1 h.A.2.1) w3 (w3.drew.setCell ⟨bb, off + i, none⟩ (.bool true)) := (KeptS.below DB).trans (KK.toS fun k k1 k2 => by rw [ea]; exact ⟨by omega, by show k = bb; omega⟩)
  have A9 := (RowAt.boolSet (A8.below DB) hiA true)
  rw [← ea] at A9
  have nb : ¬ inR h.A.1 h.A.2.1 b0 := fun z => by have := A9.inB z; omega
  replace L5 := L5.keptR KS H2.out
  replace O7 := O7.keptR KS H4.out
  replace D9 := D9.keptR KS (fun k hk hd => H6.out k hd (HD.out k hk))
  have XX := HX.out.keptS KS nb
  have BL : Below lo w3 _ := KS.low lo (fun k hk => (A9.inB hk).1) (Nat.le_trans hlw B0.size)
  replace B0 := B0.trans BL
  have CX := XX.cell
  rw [hn', hi0, ea] at CX
  replace c0 := CX
  clear KK DB KS nb BL e0 f1 CX A8 HX X0
  generalize w3.drew.setCell ⟨bb, off + i, none⟩ (.bool true) = V9 at *
  clear hZq
  refine hKK _ _ c0 (fun hZq => ?_)
  clear hKK KK
  refine wpAnyH_done (by kernel_rfl) ?_ _
  go_wp2
  refine bodyPost_end (v := .tuple #[]) (by simp [results, Tryz.results110, go_sem]) rfl ⟨rfl, ?_, ⟨L5, ?_, ?_, ?_, fun _ => ⟨H1.out, H2.out, fun k hk hd => H3.out k hk (HE.out k hd), H4.out, fun k hk hd => H5.out k hk (HE.out k hd), fun k hk hd => H6.out k hk (HE.out k hd)⟩⟩, B0⟩
  ·exact XX
  ·show RowAt _ _ _ _ _ _ _ _ (ints (List.replicate r.oks.length 0)); rw [hol]; exact O7
  ·show RowAt _ _ _ _ _ _ _ _ (bls ((List.replicate r.asks.length false).set r.id.toNat true)); rw [hal, hi0]; exact A9
  ·show DoersAt _ _ _ _ _ _ _ _ (List.replicate r.doers.length dr0); rw [hdl]; exact doers_zero D9
theorem Bx.low {w W : World} {b n : Nat} {vs : List Value} (h : Bx w b vs) (hb : Below n w W) (hn : b < n) : Bx W b vs :=
 ⟨Nat.lt_of_lt_of_le h.lt hb.size, fun k => by rw [World.cell?_of_block (w := w) (a := ⟨b, k, none⟩) (hb.block b hn)]; exact h.cell k, fun k => by rw [World.frozen?_of_block (w := w) (a := ⟨b, k, none⟩) (hb.block b hn)]; exact h.froz k⟩
def okOr (c : Int) (q : Rep) : Rep := if c = 0 then q else rep0
theorem implCrash_is {own : Bool} {lo hi : Nat} (r : Rep) (h : RH) (w : World) (x : RepAt w own lo hi h r) (hz : RSz h 1048576) (c : Int) (q : Rep) (hc : repF r = c) (hq : okOr c (crashR r) = q) : Calls Tryz.prog 41 #[.agg #[.int .i64 r.id, .int .i64 r.size, .int .i64 r.view, .bool r.normal, .int .i64 r.last, .slice h.L.1 h.L.2.1 h.L.2.2, .int .i64 r.commit, .slice h.O.1 h.O.2.1 h.O.2.2, .slice h.A.1 h.A.2.1 h.A.2.2, .slice h.D.1 h.D.2.1 h.D.2.2]] w fun e w' => NodeAns w w' e c q [] := by
 unfold okOr at hq
 have HC : Hid _ := hc
 clear hc
 go_enter Tryz.func41, Tryz.ntmps41
 go_wp2_with (first | ((have g := ob0); clear g; (with_reducible refine alloc_newX 68 [.int .i64 0, .int .i64 0, .int .i64 0, .int .i64 0, .bool false, .int .i64 0, .slice none 0 0, .int .i64 0, .slice none 0 0, .slice none 0 0, .slice none 0 0, .slice none 0 0] (fun _ => by kernel_rfl) ?_); intro b1 W1 N1; have ob1 := Nat.le_trans B.size N1.ge; have o0_b1 := ltl X0.lt N1.ge; replace X0 := X0.below N1.below; replace c0 := X0.cell; replace B := below_next B N1.below; have X1 := N1.bx; have c1 := X1.cell; have f1 := X1.froz; clear N1) | ((with_reducible refine box_newX 65 [.int .i64 r.id, .int .i64 r.size, .int .i64 r.view, .bool r.normal, .int .i64 r.last, .slice h.L.1 h.L.2.1 h.L.2.2, .int .i64 r.commit, .slice h.O.1 h.O.2.1 h.O.2.2, .slice h.A.1 h.A.2.1 h.A.2.2, .slice h.D.1 h.D.2.1 h.D.2.2] rfl ?_); intro b0 W0 N0; have ob0 := N0.ge; have B := N0.below; have X0 := N0.bx; have c0 := X0.cell; clear N0) | fail)
 refine (implRF_is r h _ (x.below B) (hz.mono (by omega)) c HC.out).mono ?_
 rintro e w1 ⟨rfl, BB⟩
 replace X0 := X0.below BB
 replace c0 := X0.cell
 replace X1 := X1.below BB
 replace c1 := X1.cell
 replace f1 := X1.froz
 replace B := below_next B BB
 clear BB
 by_cases h0 : c = 0
 ·subst h0
  rw [if_pos rfl] at hq
  subst hq
  obtain ⟨N, -, -, SP, -⟩ := rep_ok HC.out
  go_wp2_with fail
  have lb := X1.lt
  have B9 := B.size
  refine (nodeOf_z r h _ (x.below B) hz).mono ?_
  rintro e w2 ⟨bq, z, u, h', rfl, Gz, uq, Gq, XQ, R, HZ, BB⟩
  have hw2 := BB.size
  have R1 := R.widen Gz (Nat.le_refl u)
  have oq := Nat.lt_of_lt_of_le lb Gq
  have ob := Nat.le_trans B9 Gq
  clear R
  replace X0 := X0.below BB
  replace c0 := X0.cell
  replace X1 := X1.below BB
  replace c1 := X1.cell
  replace f1 := X1.froz
  replace B := below_next B BB
  clear BB
  go_wp2_with fail
  refine (forget_is r h' (none, 0, 0) bq _ XQ R1 uq Gq hw2 N.1 N.2.1 SP.2.1).mono ?_
  rintro e w3 ⟨rfl, XQ, R1, BL⟩
  replace X0 := X0.low BL (by omega)
  replace c0 := X0.cell
  replace X1 := X1.low BL lb
  replace c1 := X1.cell
  replace f1 := X1.froz
  replace B := B.trans (BL.mono B9)
  clear BL
  go_wp2_with fail
  refine (answer_is (crashR r).id (crashR r).size (crashR r).view (crashR r).normal (crashR r).last h'.L (crashR r).commit h'.O h'.A h'.D (none, 0, 0) bq _ XQ).mono ?_
  rintro e w4 ⟨rfl, BB⟩
  replace R1 := R1.below BB
  replace XQ := XQ.below BB
  replace X0 := X0.below BB
  replace c0 := X0.cell
  replace X1 := X1.below BB
  replace c1 := X1.cell
  replace f1 := X1.froz
  replace B := below_next B BB
  clear BB
  go_wp2_with (first | ((with_reducible refine store_midX 68 X1 0 [.int .i64 0, .int .i64 (crashR r).id, .int .i64 (crashR r).size, .int .i64 (crashR r).view, .bool (crashR r).normal, .int .i64 (crashR r).last, .slice h'.L.1 h'.L.2.1 h'.L.2.2, .int .i64 (crashR r).commit, .slice h'.O.1 h'.O.2.1 h'.O.2.2, .slice h'.A.1 h'.A.2.1 h'.A.2.2, .slice h'.D.1 h'.D.2.1 h'.D.2.2, .slice none 0 0] (by simp) (by kernel_rfl) (by simp [Value.oneCell']) rfl rfl ?_); intro V1 S; replace X0 := X0.kp S.kept; replace c0 := X0.cell; replace X1 : Bx V1 b1 [.int .i64 0, .int .i64 (crashR r).id, .int .i64 (crashR r).size, .int .i64 (crashR r).view, .bool (crashR r).normal, .int .i64 (crashR r).last, .slice h'.L.1 h'.L.2.1 h'.L.2.2, .int .i64 (crashR r).commit, .slice h'.O.1 h'.O.2.1 h'.O.2.2, .slice h'.A.1 h'.A.2.1 h'.A.2.2, .slice h'.D.1 h'.D.2.1 h'.D.2.2, .slice none 0 0] := S.bx; replace c1 := X1.cell; replace f1 := X1.froz; replace R1 := R1.kept S.kept (by omega); replace XQ := XQ.kept S.kept (by omega); replace B := bkp B S.kept; clear S))
  refine bodyPost_ret (v := .agg #[.int .i64 0, .int .i64 (crashR r).id, .int .i64 (crashR r).size, .int .i64 (crashR r).view, .bool (crashR r).normal, .int .i64 (crashR r).last, .slice h'.L.1 h'.L.2.1 h'.L.2.2, .int .i64 (crashR r).commit, .slice h'.O.1 h'.O.2.1 h'.O.2.2, .slice h'.A.1 h'.A.2.1 h'.A.2.2, .slice h'.D.1 h'.D.2.1 h'.D.2.2, .slice none 0 0]) (by simp [results, Tryz.results41, go_sem, *]) rfl ⟨_, u, ⟨h'.L, h'.O, h'.A, h'.D, kd0⟩, (none, 0, 0), kd0, rfl, B9, ?_, AnsAt.bare R1 _ _, ASz.bare (h := ⟨h'.L, h'.O, h'.A, h'.D, kd0⟩) ⟨HZ.L, HZ.O, HZ.A, HZ.D, fun _ _ => Nat.zero_le _⟩ _ _, B⟩
  have := XQ.lt
  omega
 ·rw [if_neg h0] at hq
  subst hq
  have h0' : (c != 0) = true := by simp [h0]
  go_wp2_with (first | ((with_reducible refine store_midX 68 X1 0 [.int .i64 c, .int .i64 0, .int .i64 0, .int .i64 0, .bool false, .int .i64 0, .slice none 0 0, .int .i64 0, .slice none 0 0, .slice none 0 0, .slice none 0 0, .slice none 0 0] (by simp) (by kernel_rfl) (by simp [Value.oneCell']) rfl rfl ?_); intro V1 S; replace X0 := X0.kp S.kept; replace c0 := X0.cell; replace X1 : Bx V1 b1 [.int .i64 c, .int .i64 0, .int .i64 0, .int .i64 0, .bool false, .int .i64 0, .slice none 0 0, .int .i64 0, .slice none 0 0, .slice none 0 0, .slice none 0 0, .slice none 0 0] := S.bx; replace c1 := X1.cell; replace f1 := X1.froz; replace B := bkp B S.kept; clear S))
  refine bodyPost_ret (v := .agg #[.int .i64 c, .int .i64 0, .int .i64 0, .int .i64 0, .bool false, .int .i64 0, .slice none 0 0, .int .i64 0, .slice none 0 0, .slice none 0 0, .slice none 0 0, .slice none 0 0]) (by simp [results, Tryz.results41, go_sem, *]) rfl ⟨w.heap.size, _, ⟨(none, 0, 0), (none, 0, 0), (none, 0, 0), (none, 0, 0), fun _ => (none, 0, 0)⟩, (none, 0, 0), fun _ => (none, 0, 0), rfl, Nat.le_refl _, Nat.le_refl _, AnsAt.none _ _ _ _, ASz.none _, B⟩
theorem lit_newX {P : Program} {ops : Array Oper} {rest : List Oper} {dst : Option Tmp} {type : TypeId} {pos : String} {after : Array Edge} {a : Act} {w : World} {Q : Exit → Act → World → Prop} (t : TypeId) (n : Nat) (parts : Array (Nat × Operand)) (cs : List Value) (T : TypeId) (hb : ∀ w : World, (Instr.buildSlice t n (parts.map fun (i, x) => (i, a.eval x))).run P w = .ok (.slice (some ⟨w.heap.size, 0, none⟩) n n) (w.alloc (.cells cs.toArray T)))
  (h : ∀ (b : Nat) (W : World), NewX w W b cs → wpList P ops Q rest (a.put dst (.slice (some ⟨b, 0, none⟩) n n)) W) : wpList P ops Q (⟨dst, .buildSlice t n parts, type, pos, after, none⟩ :: rest) a w := by
 refine wpList_plain rfl fun K hK => ?_
 have hK2 := hK _ _ (h _ _ (by simpa using newX_mk w cs.toArray T))
 have hb' : (Instr.buildSlice t n (Array.map (fun x => (x.fst, a.eval x.snd)) parts)).run P w = _ := hb w
 unfold Oper.wp execOp
 simp only [Sem.run_bind, Sem.run_pure, Result.andThen_ok, hb']
 exact hK2
theorem make_newX {P : Program} {ops : Array Oper} {rest : List Oper} {dst : Option Tmp} {type : TypeId} {pos : String} {after : Array Edge} {a : Act} {w : World} {Q : Exit → Act → World → Prop} (t T : TypeId) (i0 : TypeInfo) (z : Value) (size bytes : Nat) (ht : P.underlying t = some (.slice T)) (hi0 : P.info? T = some i0) (hz0 : i0.zero = some z) (hz1 : i0.size = size) (hz2 : i0.bytes = bytes) (hzs : z.cells.size = size) (hby : bytes ≤ 1000) (x y : Operand) (kx ky : IntKind) (n : Nat) (hx : a.eval x = .int kx (n : Int)) (hy : a.eval y = .int ky (n : Int)) (hn : n ≤ 1048576) (zs : List Value) (hzl : (Builtin.zeroCells z.cells n).toList = zs)
  (h : ∀ (b : Nat) (W : World), w.heap.size ≤ b → b < W.heap.size → RowAt W true b (b + 1) size (some ⟨b, 0, none⟩) n n zs → Below w.heap.size w W → wpList P ops Q rest (a.put dst (.slice (some ⟨b, 0, none⟩) n n)) W) : wpList P ops Q (⟨dst, .makeSlice t x y, type, pos, after, none⟩ :: rest) a w := by
 refine wpList_make_full w rfl x y t rfl w.heap.size T i0 z size ht hi0 hz0 hz1 kx ky n n n hx hy rfl rfl (by rw [hz2]; exact Nat.le_trans (Nat.mul_le_mul hby hn) (by decide)) (by unfold maxLen; omega) (Nat.le_refl _) ?_
 intro w' hown hg
 have hb : Below w.heap.size w w' := (Below.refl _ _).grown hg (Nat.le_refl _) (fun k hk => by cases hk)
 have e : (madeCells z.cells (n * size)).toList = zs := by rw [← hzl, ← hzs]; rfl
 rw [e] at hown
 exact h _ w' (Nat.le_refl _) (owns_lt hown).2 ((RowAt.of_owns hown (Nat.le_refl _)).tightG) hb
end Go.Proofs.YtgldocaohcoleaaGreat
