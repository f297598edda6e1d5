/- Chapter 9: lists whose elements each have a log, that grow by append. No program is named here. -/
import Derived.Test.YtjefmhjlaibbkaaQAF
import Derived.Test.YtjefmhjlaibbkaaQAC
import Derived.Maps.AppendAt
import Derived.Lib.AppendZeros
import Derived.Test.YtjefmhjlaibbkaaQAG
import Derived.Test.YtjefmhjlaibbkaaQAK
import Derived.Test.YtjefmhjlaibbkaaQAB
import Derived.Test.YtjefmhjlaibbkaaI5a
import Derived.Test.YtjefmhjlaibbkaaWC
import Derived.Deep.DeepCutAuto
import Derived.Deep.RegionLaw
set_option maxRecDepth 20000
set_option maxHeartbeats 16000000
namespace Go.Proofs.Ytjefmhjlaibbkaa
open Go.RowKit
structure GrowAt (sz : Nat) (w : World) (base : Nat) (T : TypeId) (v : Value) (n : Nat) (F : Nat → Nat → Value) (K : Nat → Hd) (L : Nat → List En) : Prop where
 own : w.ownsRow base T sz v n (flatF sz n F)
 logs : ∀ i, i < n → RowAt w true base w.heap.size 6 (K i).1 (K i).2.1 (K i).2.2 (sixs (L i))
 sep : ∀ i, i < n → (K i).2.1 ≠ 0 → v.ownBlock ≠ some (sb (K i).1) ∧ ∀ j, j < n → j ≠ i → (K j).2.1 ≠ 0 → sb (K j).1 ≠ sb (K i).1
theorem GrowAt.nil (sz : Nat) (w : World) (base : Nat) (T : TypeId) (F : Nat → Nat → Value) (K : Nat → Hd) (L : Nat → List En) : GrowAt sz w base T (.slice none 0 0) 0 F K L :=
 ⟨by rw [flatF_zero]; exact World.ownsRow_nil _ _ _ _, fun i hi => absurd hi (Nat.not_lt_zero _), fun i hi => absurd hi (Nat.not_lt_zero _)⟩
theorem GrowAt.below {sz : Nat} {w w' : World} {base : Nat} {T : TypeId} {v : Value} {n : Nat} {F : Nat → Nat → Value} {K : Nat → Hd} {L : Nat → List En} (h : GrowAt sz w base T v n F K L) (hb : Below w.heap.size w w') : GrowAt sz w' base T v n F K L :=
 ⟨owns_below h.own hb, fun i hi => ((h.logs i hi).below hb).widen (Nat.le_refl _) hb.size, h.sep⟩
theorem GrowAt.kept {sz : Nat} {w w' : World} {base : Nat} {T : TypeId} {v : Value} {n : Nat} {F : Nat → Nat → Value} {K : Nat → Hd} {L : Nat → List En} (h : GrowAt sz w base T v n F K L) {l u : Nat} (hk : Kept l u w w') (hd : u ≤ base) : GrowAt sz w' base T v n F K L := by
 refine ⟨?_, fun i hi => ((h.logs i hi).kept hk (Or.inr hd)).widen (Nat.le_refl _) hk.size, h.sep⟩
 refine ⟨h.own.1, ?_⟩
 rcases h.own.2 with q | ⟨g, cap, cur, hv, hg, hh, rest⟩
 ·exact .inl q
 ·have hlt : g < w.heap.size := by
   rcases Nat.lt_or_ge g w.heap.size with q | q
   ·exact q
   ·rw [Array.getElem?_eq_none q] at hh; cases hh
  exact .inr ⟨g, cap, cur, hv, hg, by rw [hk.block g hlt (Or.inr (by omega))]; exact hh, rest⟩
theorem owns_slice {w : World} {base : Nat} {T : TypeId} {sz n : Nat} {v : Value} {cs : List Value} (h : w.ownsRow base T sz v n cs) : ∃ ao cap, v = .slice ao n cap ∧ RowAt w true base w.heap.size sz ao n cap cs ∧ (n ≠ 0 → v.ownBlock = some (sb ao)) := by
 rcases h.2 with ⟨q1, q2⟩ | ⟨g, cap, cur, hv, rest⟩
 ·subst q1; subst q2
  exact ⟨none, 0, rfl, ⟨by simpa using h.1, Nat.le_refl _, fun q => absurd rfl q⟩, fun q => absurd rfl q⟩
 ·have h' := h
  rw [hv] at h'
  exact ⟨_, cap, hv, RowAt.of_owns h' rest.2.2.1, fun _ => by rw [hv]; rfl⟩
theorem GrowAt.els {sz : Nat} {w : World} {base : Nat} {T : TypeId} {v : Value} {n : Nat} {F : Nat → Nat → Value} {K : Nat → Hd} {L : Nat → List En} (h : GrowAt sz w base T v n F K L) : ∃ ao cap, v = .slice ao n cap ∧ ElsAt sz w true base w.heap.size ao n cap F K L := by
 obtain ⟨ao, cap, e, R, hb⟩ := owns_slice h.own
 exact ⟨ao, cap, e, R, h.logs, fun _ i hi h0 => ⟨fun q => (h.sep i hi h0).1 (by rw [hb (by omega), q]), (h.sep i hi h0).2⟩⟩
theorem GrowAt.snoc {P : Program} {sz : Nat} {w : World} {base : Nat} {T : TypeId} {v : Value} {n : Nat} {F : Nat → Nat → Value} {K : Nat → Hd} {L : Nat → List En} (h : GrowAt sz w base T v n F K L) (t : TypeId) (i0 : TypeInfo) (z : Value) (bytes : Nat) (ht : P.underlying t = some (.slice T)) (hi0 : P.info? T = some i0) (hz0 : i0.zero = some z) (hz1 : i0.size = sz) (hz2 : i0.bytes = bytes) (hzs : z.cells.size = sz) (hsz : 0 < sz) (hby : bytes ≤ 1000)
  {ow : Bool} {l u : Nat} (ad : Addr) (c : Nat) (ns : List Value) (hrow : RowAt w ow l u sz (some ad) 1 c ns) (h1 : ∀ u ∈ ns, u.oneCell' = true) (F' : Nat → Nat → Value) (K' : Nat → Hd) (L' : Nat → List En) (hF : ∀ i j, i < n → j < sz → F' i j = F i j) (hN : (List.range sz).map (F' n) = ns) (hK : ∀ i, i < n → K' i = K i) (hL : ∀ i, i < n → L' i = L i)
  (hlog : RowAt w true base w.heap.size 6 (K' n).1 (K' n).2.1 (K' n).2.2 (sixs (L' n))) (hsep : (K' n).2.1 ≠ 0 → v.ownBlock ≠ some (sb (K' n).1) ∧ ∀ j, j < n → (K j).2.1 ≠ 0 → sb (K j).1 ≠ sb (K' n).1) (hn : n + 1 ≤ 1000000) (hbase : base ≤ w.heap.size) :
  ∃ v' w', (∀ ty, (Builtin.append_ #[t, t] ty #[v, .slice (some ad) 1 c]).run P w = .ok v' w') ∧ GrowAt sz w' base T v' (n + 1) F' K' L' ∧ KeptS (fun k => v.ownBlock = some k) w w' ∧ Below base w w' := by
 have hsrc : ∀ j u, ns[j]? = some u → w.cell? (ad.add j) = some u := fun j u hj => by
  have hjl : j < ns.length := (List.getElem?_eq_some_iff.1 hj).1
  have hl := hrow.len
  obtain ⟨b, off, e, _, _, _, hc, _⟩ := hrow.cells (by omega)
  have e2 : ad = ⟨b, off, none⟩ := Option.some.inj e
  rw [e2]
  have := hc j (by omega)
  rw [List.getD_eq_getElem?_getD, hj, Option.getD_some] at this
  rw [Addr.add_lit]; exact this
 have hby2 : (n + 1) * bytes ≤ 140737488355328 := Nat.le_trans (Nat.mul_le_mul hn hby) (by decide)
 have A := fun ty => run_append_own_at (P := P) w base t ty T i0 z sz bytes ht hi0 hz0 hz1 hz2 hzs hsz v n _ h.own ad 1 c ns hrow.len hsrc h1 (by unfold maxLen; omega) hby2 hbase
 obtain ⟨v', w', hr, ho, hg, _, hat⟩ := A T
 have hrun : ∀ ty, (Builtin.append_ #[t, t] ty #[v, .slice (some ad) 1 c]).run P w = .ok v' w' := fun ty => by
  have : ∀ ty, Builtin.append_ #[t, t] ty #[v, .slice (some ad) 1 c] = Builtin.append_ #[t, t] T #[v, .slice (some ad) 1 c] := fun _ => rfl
  rw [this]; exact hr
 have KS : KeptS (fun k => v.ownBlock = some k) w w' := ⟨hg.os, hg.tape, hg.output, hg.size, fun k hk hs => hg.block k hk (fun e => hs e.symm)⟩
 have inb : ∀ i, i < n + 1 → (K' i).2.1 ≠ 0 → sb (K' i).1 < w.heap.size ∧ v.ownBlock ≠ some (sb (K' i).1) := fun i hi h0 => by
  by_cases e : i = n
  ·subst e; exact ⟨(hlog.inB ⟨h0, rfl⟩).2.2, (hsep h0).1⟩
  ·have hi' : i < n := by omega
   rw [hK i hi'] at h0 ⊢
   exact ⟨((h.logs i hi').inB ⟨h0, rfl⟩).2.2, (h.sep i hi' h0).1⟩
 refine ⟨v', w', hrun, ⟨?_, fun i hi => ?_, fun i hi h0 => ⟨fun q => ?_, fun j hj hne h2 => ?_⟩⟩, KS, (Below.refl base w).grown hg hbase (fun g hg' => (h.own.lt g hg').1)⟩
 ·rw [flatF_snoc, hN, flatF_congr hF]; exact ho
 ·have R : RowAt w true base w.heap.size 6 (K' i).1 (K' i).2.1 (K' i).2.2 (sixs (L' i)) := by
   by_cases e : i = n
   ·subst e; exact hlog
   ·rw [hK i (by omega), hL i (by omega)]; exact h.logs i (by omega)
  refine (R.keptR KS fun k hk hs => ?_).widen (Nat.le_refl _) hg.size
  have := (inb i hi hk.1).2
  rw [← hk.2] at this
  exact this hs
 ·rcases hat with e | e
  ·exact (inb i hi h0).2 (e ▸ q)
  ·rw [e] at q
   have := (inb i hi h0).1
   have e3 : w.heap.size = sb (K' i).1 := Option.some.inj q
   omega
 ·by_cases e1 : i = n
  ·subst e1
   have hj' : j < i := by omega
   rw [hK j hj'] at h2 ⊢
   exact (hsep h0).2 j hj' h2
  ·by_cases e2 : j = n
   ·subst e2
    have hi' : i < j := by omega
    rw [hK i hi'] at h0 ⊢
    exact fun q => (hsep h2).2 i hi' h0 q.symm
   ·have hi' : i < n := by omega
    have hj' : j < n := by omega
    rw [hK i hi'] at h0 ⊢
    rw [hK j hj'] at h2 ⊢
    exact (h.sep i hi' h0).2 j hj' hne h2
theorem KeptS.low {S : Nat → Prop} {w w' : World} (h : KeptS S w w') (B : Nat) (h1 : ∀ k, S k → B ≤ k) (h2 : B ≤ w.heap.size) : Below B w w' :=
 ⟨h.os, h.tape, h.output, h.size, fun k hk => h.block k (by omega) (fun hs => by have := h1 k hs; omega)⟩
theorem Bx.low {w W : World} {b n : Nat} {vs : List Value} (h : Bx w b vs) (hb : Below n w W) (hn : b < n) : Bx W b vs :=
 ⟨Nat.lt_of_lt_of_le h.lt hb.size, fun k => by rw [World.cell?_of_block (w := w) (a := ⟨b, k, none⟩) (hb.block b hn)]; exact h.cell k, fun k => by rw [World.frozen?_of_block (w := w) (a := ⟨b, k, none⟩) (hb.block b hn)]; exact h.froz k⟩
theorem lit_newX {P : Program} {ops : Array Oper} {rest : List Oper} {dst : Option Tmp} {type : TypeId} {pos : String} {after : Array Edge} {a : Act} {w : World} {Q : Exit → Act → World → Prop} (t : TypeId) (n : Nat) (parts : Array (Nat × Operand)) (cs : List Value) (T : TypeId) (hb : ∀ w : World, (Instr.buildSlice t n (parts.map fun (i, x) => (i, a.eval x))).run P w = .ok (.slice (some ⟨w.heap.size, 0, none⟩) n n) (w.alloc (.cells cs.toArray T)))
  (h : ∀ (b : Nat) (W : World), NewX w W b cs → wpList P ops Q rest (a.put dst (.slice (some ⟨b, 0, none⟩) n n)) W) : wpList P ops Q (⟨dst, .buildSlice t n parts, type, pos, after, none⟩ :: rest) a w := by
 refine wpList_plain rfl fun K hK => ?_
 have hK2 := hK _ _ (h _ _ (by simpa using newX_mk w cs.toArray T))
 have hb' : (Instr.buildSlice t n (Array.map (fun x => (x.fst, a.eval x.snd)) parts)).run P w = _ := hb w
 unfold Oper.wp execOp
 simp only [Sem.run_bind, Sem.run_pure, Result.andThen_ok, hb']
 exact hK2
theorem lit_newO {P : Program} {ops : Array Oper} {rest : List Oper} {dst : Option Tmp} {type : TypeId} {pos : String} {after : Array Edge} {a : Act} {w : World} {Q : Exit → Act → World → Prop} (t : TypeId) (n : Nat) (parts : Array (Nat × Operand)) (cs : List Value) (T : TypeId) (hb : ∀ w : World, (Instr.buildSlice t n (parts.map fun (i, x) => (i, a.eval x))).run P w = .ok (.slice (some ⟨w.heap.size, 0, none⟩) n n) (w.alloc (.cells cs.toArray T)))
  (h : ∀ (b : Nat) (W : World), NewX w W b cs → W.heap[b]? = some (.cells cs.toArray T) → wpList P ops Q rest (a.put dst (.slice (some ⟨b, 0, none⟩) n n)) W) : wpList P ops Q (⟨dst, .buildSlice t n parts, type, pos, after, none⟩ :: rest) a w := by
 refine wpList_plain rfl fun K hK => ?_
 have hK2 := hK _ _ (h _ _ (by simpa using newX_mk w cs.toArray T) (heap_alloc_new w _))
 have hb' : (Instr.buildSlice t n (Array.map (fun x => (x.fst, a.eval x.snd)) parts)).run P w = _ := hb w
 unfold Oper.wp execOp
 simp only [Sem.run_bind, Sem.run_pure, Result.andThen_ok, hb']
 exact hK2
theorem Kept.ofB {n : Nat} {w w' : World} (h : Below n w w') : Kept n w.heap.size w w' := ⟨h.os, h.tape, h.output, h.size, fun k hk hd => h.block k (by omega)⟩
theorem owns_litO {w : World} {base b : Nat} {T : TypeId} {sz : Nat} (hb : base ≤ b) (h : w.heap[b]? = some (.cells ([] : List Value).toArray T)) : w.ownsRow base T sz (.slice (some ⟨b, 0, none⟩) 0 0) 0 [] :=
 ⟨by simp, .inr ⟨b, 0, #[], rfl, hb, h, Nat.le_refl _, Nat.zero_le _, by simp, by simp⟩⟩
theorem l8Copy_z {o : Bool} {l u : Nat} (ab : Option Addr) (nb cb : Nat) (xs : List En) (w : World) (h : RowAt w o l u 6 ab nb cb (sixs xs)) (hn : nb ≤ 1048576) :
  Calls Try.prog 68 #[.slice ab nb cb] w fun e w' => CloR w w' e 6 nb (sixs xs) := by
 obtain ⟨j0, hj0, hy0, hy1, hy2⟩ := info_parts Try.infoEntry
 have B3 : Below w.heap.size w (w.alloc (.cells #[] 97)) := (Below.refl _ _).alloc (Nat.le_refl _) _
 obtain ⟨ad', cp, w4, hr4, R4, B4, -⟩ := run_append_fresh (P := Try.prog) (w.alloc (.cells #[] 97)) 24 24 97 j0 (.agg #[.int .i64 0, .int .i64 0, .int .i64 0, .int .i64 0, .int .i64 0, .int .i64 0]) 6 48 Try.underlying24 hj0 hy0 hy1 hy2 (by rw [hy1]; rfl) w.heap.size ab nb cb (sixs xs) (h.below B3) (sixs_oneX xs) hn (by omega)
 go_enter Try.func68, Try.ntmps68
 go_wp2_with (at_builtin; refine Lib.wpList_append_run _ rfl _ _ _ _ rfl _ _ rfl rfl _ _ hr4 ?_)
 have B5 := below_next B3 B4
 have R5 : RowAt w4 true w.heap.size w4.heap.size 6 (some ad') nb cp (sixs xs) := R4.widen (by simp) (Nat.le_refl _)
 clear B3 B4 R4 hr4
 go_wp2
 go_ret
 exact ⟨some ad', cp, _, _, rfl, Nat.le_refl _, B5.size, Nat.le_refl _, R5, B5⟩
def intF (xs : List Int) (a _b : Nat) : Value := .int .i64 (xs.getD a 0)
theorem flat_ints (xs : List Int) : flatF 1 xs.length (intF xs) = ints xs := by
 apply List.ext_getElem (by simp [flatF, ints])
 intro j h1 h2
 simp only [flatF, ints, List.length_map, List.length_range, Nat.mul_one] at h1 h2
 simp [flatF, ints, intF, List.getD, Nat.div_one, h1]
theorem int_snoc {wr W : World} {base b1 : Nat} {v : Value} {xs : List Int} {y : Int} (G : GrowAt 1 wr base 2 v xs.length (intF xs) kd0 (fun _ => [])) (B : Below wr.heap.size wr W) (X1 : Bx W b1 [.int .i64 y]) (hbase : base ≤ wr.heap.size) (hn : xs.length ≤ 1000) :
  ∃ v' w', (∀ ty, (Builtin.append_ #[25, 25] ty #[v, .slice (some ⟨b1, 0, none⟩) 1 1]).run Try.prog W = .ok v' w') ∧ GrowAt 1 w' base 2 v' (xs ++ [y]).length (intF (xs ++ [y])) kd0 (fun _ => []) ∧ Below base W w' := by
 obtain ⟨i2, hi2, ha2, hb2, hc2⟩ := info_parts Try.info2'
 have LR : RowAt W false b1 (b1 + 1) 1 (some ⟨b1, 0, none⟩) 1 1 [.int .i64 y] := ⟨by simp, Nat.le_refl _, fun _ => ⟨b1, 0, rfl, Nat.le_refl _, Nat.lt_succ_self _, X1.lt, fun i hi => by rw [Nat.zero_add, X1.cell i, List.getD_eq_getElem?_getD, List.getElem?_eq_getElem (by simpa using hi)]; rfl, fun z => by cases z⟩⟩
 obtain ⟨v', w', hr, G2, _, BB⟩ := GrowAt.snoc (P := Try.prog) (G.below B) 25 i2 (.int .i64 0) 8 Try.underlying25 hi2 ha2 hb2 hc2 rfl (by omega) (by omega) ⟨b1, 0, none⟩ 1 [.int .i64 y] LR (by simp [Value.oneCell']) (intF (xs ++ [y])) kd0 (fun _ => []) (fun i j hi _ => by simp [intF, List.getD, List.getElem?_append_left hi]) (by simp [intF, List.range_succ]) (fun _ _ => rfl) (fun _ _ => rfl) (RowAt.nilR _ _ _ _ _ _ _) (fun h0 => absurd rfl h0) (by omega) (Nat.le_trans hbase B.size)
 exact ⟨v', w', hr, by rw [List.length_append]; exact G2, BB⟩
theorem Try.infoMail : (Try.prog.info? 99).map (fun i => (i.zero, i.size, i.bytes)) = some (some (.agg #[.int .i64 0, .int .i64 0, .int .i64 0, .int .i64 0, .int .i64 0, .bool false, .int .i64 0, .int .i64 0, .int .i64 0, .int .i64 0, .int .i64 0, .int .i64 0, .int .i64 0, .slice none 0 0, .int .i64 0]), 15, 136) := by kernel_rfl
def putM (m : Ml) (fr tgt view : Int) : Ml := ⟨m.kind, fr, tgt, view, m.at_, m.has, m.en, m.last, m.log, m.commit⟩
theorem mlF_last (K : Nat → Hd) (ms : List Ml) (m : Ml) : (List.range 15).map (mlF K (ms ++ [m]) ms.length) = mlV (K ms.length) m := by
 have e : (ms ++ [m]).getD ms.length ml0 = m := by simp [List.getD]
 unfold mlF
 rw [e]
 simp [List.range_succ, mlV]
theorem mlF_old (K : Nat → Hd) (ms : List Ml) (m : Ml) {i j : Nat} (hi : i < ms.length) : mlF K (ms ++ [m]) i j = mlF K ms i j := by
 unfold mlF; rw [show (ms ++ [m]).getD i ml0 = ms.getD i ml0 by simp [List.getD, List.getElem?_append_left hi]]
theorem mlL_old (ms : List Ml) (m : Ml) {i : Nat} (hi : i < ms.length) : mlL (ms ++ [m]) i = mlL ms i := by
 unfold mlL; rw [show (ms ++ [m]).getD i ml0 = ms.getD i ml0 by simp [List.getD, List.getElem?_append_left hi]]
theorem mlL_last (ms : List Ml) (m : Ml) : mlL (ms ++ [m]) ms.length = m.log := by simp [mlL, List.getD]
def SentAt (w : World) (base : Nat) (v : Value) (Km : Nat → Hd) (ms : List Ml) : Prop := GrowAt 15 w base 99 v ms.length (mlF Km ms) Km (mlL ms)
theorem sent_snoc {W : World} {base b1 : Nat} {v : Value} {Km : Nat → Hd} {ms : List Ml} {m : Ml} {hd : Hd} (G : SentAt W base v Km ms) (X1 : Bx W b1 (mlV hd m)) (R : RowAt W true base W.heap.size 6 hd.1 hd.2.1 hd.2.2 (sixs m.log)) (hsep : hd.2.1 ≠ 0 → v.ownBlock ≠ some (sb hd.1) ∧ ∀ j, j < ms.length → (Km j).2.1 ≠ 0 → sb (Km j).1 ≠ sb hd.1) (hbase : base ≤ W.heap.size) (hn : ms.length ≤ 1000) :
  ∃ v' w', (∀ ty, (Builtin.append_ #[34, 34] ty #[v, .slice (some ⟨b1, 0, none⟩) 1 1]).run Try.prog W = .ok v' w') ∧ SentAt w' base v' (fun j => if j = ms.length then hd else Km j) (ms ++ [m]) ∧ KeptS (fun k => v.ownBlock = some k) W w' ∧ Below base W w' := by
 obtain ⟨i2, hi2, ha2, hb2, hc2⟩ := info_parts Try.infoMail
 have LR : RowAt W false b1 (b1 + 1) 15 (some ⟨b1, 0, none⟩) 1 1 (mlV hd m) := ⟨by simp [mlV], Nat.le_refl _, fun _ => ⟨b1, 0, rfl, Nat.le_refl _, Nat.lt_succ_self _, X1.lt, fun i hi => by rw [Nat.zero_add, X1.cell i, List.getD_eq_getElem?_getD, List.getElem?_eq_getElem (by simpa [mlV] using hi)]; rfl, fun z => by cases z⟩⟩
 obtain ⟨K2, hK2⟩ : ∃ K2 : Nat → Hd, K2 = fun j => if j = ms.length then hd else Km j := ⟨_, rfl⟩
 have e1K : K2 ms.length = hd := by rw [hK2]; simp
 have e2K : ∀ j, j < ms.length → K2 j = Km j := fun j hj => by rw [hK2]; simp [Nat.ne_of_lt hj]
 obtain ⟨v', w', hr, G2, KS, BB⟩ := GrowAt.snoc (P := Try.prog) G 34 i2 (.agg #[.int .i64 0, .int .i64 0, .int .i64 0, .int .i64 0, .int .i64 0, .bool false, .int .i64 0, .int .i64 0, .int .i64 0, .int .i64 0, .int .i64 0, .int .i64 0, .int .i64 0, .slice none 0 0, .int .i64 0]) 136 Try.underlying34 hi2 ha2 hb2 hc2 rfl (by omega) (by omega) ⟨b1, 0, none⟩ 1 (mlV hd m) LR (by simp [mlV, hv, Value.oneCell']) (mlF K2 (ms ++ [m])) K2 (mlL (ms ++ [m])) (fun i j hi _ => by rw [mlF_old _ _ _ hi]; unfold mlF; rw [e2K i hi]) (by rw [mlF_last, e1K]) e2K (fun i hi => mlL_old _ _ hi) (by rw [e1K, mlL_last]; exact R) (fun h0 => by rw [e1K] at h0 ⊢; exact hsep h0) (by omega) hbase
 refine ⟨v', w', hr, ?_, KS, BB⟩
 rw [← hK2]
 unfold SentAt
 rw [List.length_append]; exact G2
theorem sendOf_is (r : Rep) (h : RH) (s : Hd) (view tgt : Int) (m : Ml) (hd : Hd) (base b0 : Nat) (w : World) (Km : Nat → Hd) (ms : List Ml) (X0 : Bx w b0 [.int .i64 r.id, .int .i64 r.size, .int .i64 r.view, .bool r.normal, .int .i64 r.last, .slice h.L.1 h.L.2.1 h.L.2.2, .int .i64 r.commit, .slice h.O.1 h.O.2.1 h.O.2.2, .slice h.A.1 h.A.2.1 h.A.2.2, .slice h.D.1 h.D.2.1 h.D.2.2, .slice s.1 s.2.1 s.2.2]) (G : SentAt w base (.slice s.1 s.2.1 s.2.2) Km ms) (R : RowAt w true base w.heap.size 6 hd.1 hd.2.1 hd.2.2 (sixs m.log)) (hsep : hd.2.1 ≠ 0 → (Value.slice s.1 s.2.1 s.2.2).ownBlock ≠ some (sb hd.1) ∧ ∀ j, j < ms.length → (Km j).2.1 ≠ 0 → sb (Km j).1 ≠ sb hd.1) (hb : b0 < base) (hbase : base ≤ w.heap.size) (hn : ms.length ≤ 1000) :
  Calls Try.prog 91 #[.pointer (some ⟨b0, 0, none⟩), .int .i64 view, .int .i64 tgt, .agg #[.int .i64 m.kind, .int .i64 m.fr, .int .i64 m.to, .int .i64 m.view, .int .i64 m.at_, .bool m.has, .int .i64 m.en.1, .int .i64 m.en.2.1, .int .i64 m.en.2.2.1, .int .i64 m.en.2.2.2.1, .int .i64 m.en.2.2.2.2.1, .int .i64 m.en.2.2.2.2.2, .int .i64 m.last, .slice hd.1 hd.2.1 hd.2.2, .int .i64 m.commit]] w fun e w' => ∃ s' : Hd, e = .returned (.tuple #[]) ∧ Bx w' b0 [.int .i64 r.id, .int .i64 r.size, .int .i64 r.view, .bool r.normal, .int .i64 r.last, .slice h.L.1 h.L.2.1 h.L.2.2, .int .i64 r.commit, .slice h.O.1 h.O.2.1 h.O.2.2, .slice h.A.1 h.A.2.1 h.A.2.2, .slice h.D.1 h.D.2.1 h.D.2.2, .slice s'.1 s'.2.1 s'.2.2] ∧ SentAt w' base (.slice s'.1 s'.2.1 s'.2.2) (fun j => if j = ms.length then hd else Km j) (ms ++ [putM m r.id tgt view]) ∧ s'.2.1 = ms.length + 1 ∧ KeptS (fun k => k = b0 ∨ (Value.slice s.1 s.2.1 s.2.2).ownBlock = some k) w w' := by
 have c0 := X0.cell
 have f0 := X0.froz
 have ob0 := X0.lt
 have lG : w.heap.size ≤ w.heap.size := Nat.le_refl _
 have HG : Hid _ := G
 have HR : Hid _ := R
 have HSEP : Hid _ := hsep
 clear G R hsep
 go_enter Try.func91, Try.ntmps91
 go_upto_region 4 with (first | ((with_reducible refine so 2 X1 3 (.int .i64 view) ?_); intro V3 S; replace X0 := X0.kp S.kept; replace c0 := X0.cell; replace f0 := X0.froz; replace X1 : Bx V3 b1 [.int .i64 m.kind, .int .i64 r.id, .int .i64 tgt, .int .i64 view, .int .i64 m.at_, .bool m.has, .int .i64 m.en.1, .int .i64 m.en.2.1, .int .i64 m.en.2.2.1, .int .i64 m.en.2.2.2.1, .int .i64 m.en.2.2.2.2.1, .int .i64 m.en.2.2.2.2.2, .int .i64 m.last, .slice hd.1 hd.2.1 hd.2.2, .int .i64 m.commit] := S.bx; replace c1 := X1.cell; replace f1 := X1.froz; replace B := bkp B S.kept; clear S) | ((with_reducible refine so 2 X1 2 (.int .i64 tgt) ?_); intro V2 S; replace X0 := X0.kp S.kept; replace c0 := X0.cell; replace f0 := X0.froz; replace X1 : Bx V2 b1 [.int .i64 m.kind, .int .i64 r.id, .int .i64 tgt, .int .i64 m.view, .int .i64 m.at_, .bool m.has, .int .i64 m.en.1, .int .i64 m.en.2.1, .int .i64 m.en.2.2.1, .int .i64 m.en.2.2.2.1, .int .i64 m.en.2.2.2.2.1, .int .i64 m.en.2.2.2.2.2, .int .i64 m.last, .slice hd.1 hd.2.1 hd.2.2, .int .i64 m.commit] := S.bx; replace c1 := X1.cell; replace f1 := X1.froz; replace B := bkp B S.kept; clear S) | ((with_reducible refine so 2 X1 1 (.int .i64 r.id) ?_); intro V1 S; replace X0 := X0.kp S.kept; replace c0 := X0.cell; replace f0 := X0.froz; replace X1 : Bx V1 b1 [.int .i64 m.kind, .int .i64 r.id, .int .i64 m.to, .int .i64 m.view, .int .i64 m.at_, .bool m.has, .int .i64 m.en.1, .int .i64 m.en.2.1, .int .i64 m.en.2.2.1, .int .i64 m.en.2.2.2.1, .int .i64 m.en.2.2.2.2.1, .int .i64 m.en.2.2.2.2.2, .int .i64 m.last, .slice hd.1 hd.2.1 hd.2.2, .int .i64 m.commit] := S.bx; replace c1 := X1.cell; replace f1 := X1.froz; replace B := bkp B S.kept; clear S) | ((have g := ob0); clear g; (with_reducible refine box_newX 99 [.int .i64 m.kind, .int .i64 m.fr, .int .i64 m.to, .int .i64 m.view, .int .i64 m.at_, .bool m.has, .int .i64 m.en.1, .int .i64 m.en.2.1, .int .i64 m.en.2.2.1, .int .i64 m.en.2.2.2.1, .int .i64 m.en.2.2.2.2.1, .int .i64 m.en.2.2.2.2.2, .int .i64 m.last, .slice hd.1 hd.2.1 hd.2.2, .int .i64 m.commit] rfl ?_); intro b1 W1 N1; have ob1 := N1.ge; have o0_b1 := N1.u X0; replace X0 := N1.r X0; replace c0 := X0.cell; replace f0 := X0.froz; have B := N1.below; obtain ⟨X1, c1, f1⟩ := N1.a; clear N1) | fail)
 have DA : Below V3.heap.size V3 (V3.alloc (.cells #[.int .i64 m.kind, .int .i64 r.id, .int .i64 tgt, .int .i64 view, .int .i64 m.at_, .bool m.has, .int .i64 m.en.1, .int .i64 m.en.2.1, .int .i64 m.en.2.2.1, .int .i64 m.en.2.2.2.1, .int .i64 m.en.2.2.2.2.1, .int .i64 m.en.2.2.2.2.2, .int .i64 m.last, .slice hd.1 hd.2.1 hd.2.2, .int .i64 m.commit] 99)).drew := ((Below.refl _ _).alloc (Nat.le_refl _) _).drew
 have DB : Below V3.heap.size V3 (V3.alloc (.cells #[.int .i64 m.kind, .int .i64 r.id, .int .i64 tgt, .int .i64 view, .int .i64 m.at_, .bool m.has, .int .i64 m.en.1, .int .i64 m.en.2.1, .int .i64 m.en.2.2.1, .int .i64 m.en.2.2.2.1, .int .i64 m.en.2.2.2.2.1, .int .i64 m.en.2.2.2.2.2, .int .i64 m.last, .slice hd.1 hd.2.1 hd.2.2, .int .i64 m.commit] 99)) := (Below.refl _ _).alloc (Nat.le_refl _) _
 have LX : Bx (V3.alloc (.cells #[.int .i64 m.kind, .int .i64 r.id, .int .i64 tgt, .int .i64 view, .int .i64 m.at_, .bool m.has, .int .i64 m.en.1, .int .i64 m.en.2.1, .int .i64 m.en.2.2.1, .int .i64 m.en.2.2.2.1, .int .i64 m.en.2.2.2.2.1, .int .i64 m.en.2.2.2.2.2, .int .i64 m.last, .slice hd.1 hd.2.1 hd.2.2, .int .i64 m.commit] 99)).drew V3.heap.size (mlV hd (putM m r.id tgt view)) := bx_alloc V3.drew (mlV hd (putM m r.id tgt view)) 99
 have SB := Nat.le_trans hbase B.size
 obtain ⟨v', w', hr, G2, KS, BB⟩ := sent_snoc (hd := hd) (m := putM m r.id tgt view) ((HG.out : GrowAt _ _ _ _ _ _ _ _ _).below (below_next B DA)) LX ((HR.out.below (below_next B DA)).widen (Nat.le_refl _) (below_next B DA).size) HSEP.out (Nat.le_trans SB DA.size) hn
 have nb : ¬ ((Value.slice s.1 s.2.1 s.2.2).ownBlock = some b0) := fun z => by have := (GrowAt.own (HG.out : GrowAt _ _ _ _ _ _ _ _ _)).lt b0 z; omega
 have XA := X0.below DB
 have XD := X0.below DA
 have XN := XD.keptS KS nb
 have cA := XA.cell
 have cN := XN.cell
 have fN := XN.froz
 have YA := X1.below DB
 have dA := YA.cell
 obtain ⟨sa, sc, e9, _, _⟩ := owns_slice (GrowAt.own (G2 : GrowAt _ _ _ _ _ _ _ _ _))
 rw [show (ms ++ [putM m r.id tgt view]).length = ms.length + 1 by simp] at e9
 subst e9
 have HG2 : Hid _ := G2
 have KF : Hid (KeptS (fun k => k = b0 ∨ (Value.slice s.1 s.2.1 s.2.2).ownBlock = some k) w w') := (KeptS.below (below_next B DA)).trans (KS.mono fun k hk => Or.inr hk)
 clear G2 KS BB LX
 go_wp2_with fail
 go_region_law (first | (refine step_append_run rfl _ _ _ _ rfl _ _ rfl rfl _ _ (hr _) ?_))
 all_goals
  clear cA cN fN dA hr
  have KC : Kept b0 (b0 + 1) w' (w'.setCell ⟨b0, 10, none⟩ (.slice sa (ms.length + 1) sc)) := Kept.setCell (p := ⟨b0, 10, none⟩) (Kept.refl _ _ _) (Nat.le_refl _) (Nat.lt_succ_self _) _
  have X9 := XN.set 10 (by simp) (.slice sa (ms.length + 1) sc)
  have G9 := GrowAt.kept HG2.out KC (by omega)
  have K9 := KF.out.setCell (p := ⟨b0, 10, none⟩) (Or.inl rfl) (.slice sa (ms.length + 1) sc)
  have HX9 : Hid _ := X9
  have HG9 : Hid _ := G9
  have HK9 : Hid _ := K9
  clear KC X9 G9 K9 XN XA XD YA
  go_wp2
  exact bodyPost_end (v := .tuple #[]) (by simp [results, Try.results91, go_sem]) rfl ⟨(sa, (ms.length + 1), sc), rfl, HX9.out, HG9.out, by simp, HK9.out⟩
theorem send_is (r : Rep) (h : RH) (s : Hd) (tgt : Int) (m : Ml) (hd : Hd) (base b0 : Nat) (w : World) (Km : Nat → Hd) (ms : List Ml) (X0 : Bx w b0 [.int .i64 r.id, .int .i64 r.size, .int .i64 r.view, .bool r.normal, .int .i64 r.last, .slice h.L.1 h.L.2.1 h.L.2.2, .int .i64 r.commit, .slice h.O.1 h.O.2.1 h.O.2.2, .slice h.A.1 h.A.2.1 h.A.2.2, .slice h.D.1 h.D.2.1 h.D.2.2, .slice s.1 s.2.1 s.2.2]) (G : SentAt w base (.slice s.1 s.2.1 s.2.2) Km ms) (R : RowAt w true base w.heap.size 6 hd.1 hd.2.1 hd.2.2 (sixs m.log)) (hsep : hd.2.1 ≠ 0 → (Value.slice s.1 s.2.1 s.2.2).ownBlock ≠ some (sb hd.1) ∧ ∀ j, j < ms.length → (Km j).2.1 ≠ 0 → sb (Km j).1 ≠ sb hd.1) (hb : b0 < base) (hbase : base ≤ w.heap.size) (hn : ms.length ≤ 1000) :
  Calls Try.prog 60 #[.pointer (some ⟨b0, 0, none⟩), .int .i64 tgt, .agg #[.int .i64 m.kind, .int .i64 m.fr, .int .i64 m.to, .int .i64 m.view, .int .i64 m.at_, .bool m.has, .int .i64 m.en.1, .int .i64 m.en.2.1, .int .i64 m.en.2.2.1, .int .i64 m.en.2.2.2.1, .int .i64 m.en.2.2.2.2.1, .int .i64 m.en.2.2.2.2.2, .int .i64 m.last, .slice hd.1 hd.2.1 hd.2.2, .int .i64 m.commit]] w fun e w' => ∃ s' : Hd, e = .returned (.tuple #[]) ∧ Bx w' b0 [.int .i64 r.id, .int .i64 r.size, .int .i64 r.view, .bool r.normal, .int .i64 r.last, .slice h.L.1 h.L.2.1 h.L.2.2, .int .i64 r.commit, .slice h.O.1 h.O.2.1 h.O.2.2, .slice h.A.1 h.A.2.1 h.A.2.2, .slice h.D.1 h.D.2.1 h.D.2.2, .slice s'.1 s'.2.1 s'.2.2] ∧ SentAt w' base (.slice s'.1 s'.2.1 s'.2.2) (fun j => if j = ms.length then hd else Km j) (ms ++ [putM m r.id tgt r.view]) ∧ s'.2.1 = ms.length + 1 ∧ KeptS (fun k => k = b0 ∨ base ≤ k) w w' := by
 have c0 := X0.cell
 have ob0 := X0.lt
 have HG : Hid (GrowAt _ _ _ _ _ _ _ _ _) := G
 have HR : Hid _ := R
 have HSEP : Hid _ := hsep
 clear G R hsep
 go_enter Try.func60, Try.ntmps60
 go_wp2_with (first | ((have g := ob0); clear g; (with_reducible refine box_newX 99 [.int .i64 m.kind, .int .i64 m.fr, .int .i64 m.to, .int .i64 m.view, .int .i64 m.at_, .bool m.has, .int .i64 m.en.1, .int .i64 m.en.2.1, .int .i64 m.en.2.2.1, .int .i64 m.en.2.2.2.1, .int .i64 m.en.2.2.2.2.1, .int .i64 m.en.2.2.2.2.2, .int .i64 m.last, .slice hd.1 hd.2.1 hd.2.2, .int .i64 m.commit] rfl ?_); intro b1 W1 N1; have ob1 := N1.ge; have o0_b1 := N1.u X0; replace X0 := N1.r X0; replace c0 := X0.cell; have B := N1.below; obtain ⟨X1, c1⟩ := N1.c; clear N1) | fail)
 have DQ : Below W1.heap.size W1 W1.drew := (Below.refl _ _).drew
 replace X0 := X0.below DQ
 replace c0 := X0.cell
 replace X1 := X1.below DQ
 replace c1 := X1.cell
 replace B := below_next B DQ
 clear DQ
 have cv := X0.cell 2
 simp only [List.getElem?_cons_succ, List.getElem?_cons_zero] at cv
 have nb1 : Hid (¬ (Value.slice s.1 s.2.1 s.2.2).ownBlock = some b1) := fun z => by have := (HG.out.own.lt b1 z).2; omega
 refine wp_region_held_drew (S := (fun w' => w'.cell? ⟨b0, 2, none⟩ = some (.int .i64 r.view) ∧ ∀ k : Nat, w'.cell? ⟨b1, k, none⟩ = [.int .i64 m.kind, .int .i64 m.fr, .int .i64 m.to, .int .i64 m.view, .int .i64 m.at_, .bool m.has, .int .i64 m.en.1, .int .i64 m.en.2.1, .int .i64 m.en.2.2.1, .int .i64 m.en.2.2.2.1, .int .i64 m.en.2.2.2.2.1, .int .i64 m.en.2.2.2.2.2, .int .i64 m.last, .slice hd.1 hd.2.1 hd.2.2, .int .i64 m.commit][k]?)) (by kernel_rfl) ⟨cv, c1⟩ (fun hZq => ?_)
 refine tk 0 hZq ?_
 refine tk 1 hZq ?_
 refine tk 2 hZq ?_
 refine tk 3 hZq ?_
 refine tk 4 hZq ?_
 refine tk 5 hZq ?_
 refine tk 6 hZq ?_
 refine tk 7 hZq ?_
 refine rd1 8 (fun KK hKK => ?_)
 go_simp
 go_at_call 91
 refine (sendOf_is r h s r.view tgt m hd base b0 _ Km ms X0 (HG.out.below B) ((HR.out.below B).widen (Nat.le_refl _) B.size) HSEP.out hb (Nat.le_trans hbase B.size) hn).mono ?_
 rintro e w2 ⟨s', rfl, X2, G2, hs2, KS2⟩
 have cv := X2.cell 2
 simp only [List.getElem?_cons_succ, List.getElem?_cons_zero] at cv
 have c1 := (X1.keptS KS2 (fun z => z.elim (fun q => by omega) nb1.out)).cell
 have K9 : Hid (KeptS (fun q => q = b0 ∨ base ≤ q) w w2) := (KeptS.below B).trans (KS2.mono fun k hk => hk.imp id fun z => (HG.out.own.lt k z).1)
 have H1 : Hid _ := X2
 have H2 : Hid _ := G2
 clear X2 G2 KS2 X0 X1
 clear hZq
 refine hKK _ _ ⟨cv, c1⟩ (fun hZq => ?_)
 clear hKK KK
 refine wpAnyH_done (by kernel_rfl) ?_ _
 go_wp2
 exact bodyPost_end (v := .tuple #[]) (by simp [results, Try.results60, go_sem]) rfl ⟨s', rfl, H1.out, H2.out, hs2, K9.out⟩
theorem step_litX {P : Program} {ops : Array Oper} {dst : Option Tmp} {type : TypeId} {pos : String} {after : Array Edge} {a : Act} {w : World} {K : Act → World → Prop} {Q : Exit → Act → World → Prop} {E : Prop} (t : TypeId) (n : Nat) (parts : Array (Nat × Operand)) (cs : List Value) (T : TypeId) (hb : ∀ w : World, (Instr.buildSlice t n (parts.map fun (i, x) => (i, a.eval x))).run P w = .ok (.slice (some ⟨w.heap.size, 0, none⟩) n n) (w.alloc (.cells cs.toArray T)))
  (h : ∀ (b : Nat) (W : World), NewX w W b cs → K (a.put dst (.slice (some ⟨b, 0, none⟩) n n)) W) : if Region.wanted ⟨dst, .buildSlice t n parts, type, pos, after, none⟩ (yielded ops a.tmps) = true then Oper.wp P ⟨dst, .buildSlice t n parts, type, pos, after, none⟩ a w K Q else E := by
 have hw : Region.wanted ⟨dst, .buildSlice t n parts, type, pos, after, none⟩ (yielded ops a.tmps) = true := by simp [Region.wanted]
 rw [if_pos hw]
 have hK2 := h _ _ (by simpa using newX_mk w cs.toArray T)
 have hb' : (Instr.buildSlice t n (Array.map (fun x => (x.fst, a.eval x.snd)) parts)).run P w = _ := hb w
 unfold Oper.wp execOp
 simp only [Sem.run_bind, Sem.run_pure, Result.andThen_ok, hb']
 exact hK2
end Go.Proofs.Ytjefmhjlaibbkaa
