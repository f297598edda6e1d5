/- Chapter 9: lists whose elements each have a log, that grow by append. No program is named here. -/
import Derived.Test.YtannjgdginfgeaaWA
import Derived.Test.YtannjgdginfgeaaYE
import Derived.Maps.AppendAt
import Derived.Lib.AppendZeros
import Derived.Test.YtannjgdginfgeaaWL
import Derived.Test.YtannjgdginfgeaaWQ
import Derived.Test.YtannjgdginfgeaaWN
import Derived.Test.YtannjgdginfgeaaWF
import Derived.Deep.DeepCutAuto
namespace Go.Proofs.Ytannjgdginfgeaa
open Go.RowKit

/-- a list that grows: its row is the call's own, each log lies in a block of its own -/
structure GrowAt (sz : Nat) (w : World) (base : Nat) (T : TypeId) (v : Value) (n : Nat) (F : Nat → Nat → Value) (K : Nat → Hd) (L : Nat → List En) : Prop where
  own : w.ownsRow base T sz v n (flatF sz n F)
  logs : ∀ i, i < n → RowAt w true base w.heap.size 6 (K i).1 (K i).2.1 (K i).2.2 (sixs (L i))
  sep : ∀ i, i < n → (K i).2.1 ≠ 0 → v.ownBlock ≠ some (sb (K i).1) ∧ ∀ j, j < n → j ≠ i → (K j).2.1 ≠ 0 → sb (K j).1 ≠ sb (K i).1
theorem GrowAt.nil (sz : Nat) (w : World) (base : Nat) (T : TypeId) (F : Nat → Nat → Value) (K : Nat → Hd) (L : Nat → List En) : GrowAt sz w base T (.slice none 0 0) 0 F K L :=
  ⟨by rw [flatF_zero]; exact World.ownsRow_nil _ _ _ _, fun i hi => absurd hi (Nat.not_lt_zero _), fun i hi => absurd hi (Nat.not_lt_zero _)⟩
theorem GrowAt.below {sz : Nat} {w w' : World} {base : Nat} {T : TypeId} {v : Value} {n : Nat} {F : Nat → Nat → Value} {K : Nat → Hd} {L : Nat → List En} (h : GrowAt sz w base T v n F K L) (hb : Below w.heap.size w w') : GrowAt sz w' base T v n F K L :=
  ⟨owns_below h.own hb, fun i hi => ((h.logs i hi).below hb).widen (Nat.le_refl _) hb.size, h.sep⟩
theorem GrowAt.kept {sz : Nat} {w w' : World} {base : Nat} {T : TypeId} {v : Value} {n : Nat} {F : Nat → Nat → Value} {K : Nat → Hd} {L : Nat → List En} (h : GrowAt sz w base T v n F K L) {l u : Nat} (hk : Kept l u w w') (hd : u ≤ base) : GrowAt sz w' base T v n F K L := by
  refine ⟨?_, fun i hi => ((h.logs i hi).kept hk (Or.inr hd)).widen (Nat.le_refl _) hk.size, h.sep⟩
  refine ⟨h.own.1, ?_⟩
  rcases h.own.2 with q | ⟨g, cap, cur, hv, hg, hh, rest⟩
  · exact .inl q
  · have hlt : g < w.heap.size := by
      rcases Nat.lt_or_ge g w.heap.size with q | q
      · exact q
      · rw [Array.getElem?_eq_none q] at hh; cases hh
    exact .inr ⟨g, cap, cur, hv, hg, by rw [hk.block g hlt (Or.inr (by omega))]; exact hh, rest⟩
/-- such a list is a slice -/
theorem owns_slice {w : World} {base : Nat} {T : TypeId} {sz n : Nat} {v : Value} {cs : List Value} (h : w.ownsRow base T sz v n cs) : ∃ ao cap, v = .slice ao n cap ∧ RowAt w true base w.heap.size sz ao n cap cs ∧ (n ≠ 0 → v.ownBlock = some (sb ao)) := by
  rcases h.2 with ⟨q1, q2⟩ | ⟨g, cap, cur, hv, rest⟩
  · subst q1; subst q2
    exact ⟨none, 0, rfl, ⟨by simpa using h.1, Nat.le_refl _, fun q => absurd rfl q⟩, fun q => absurd rfl q⟩
  · have h' := h
    rw [hv] at h'
    exact ⟨_, cap, hv, RowAt.of_owns h' rest.2.2.1, fun _ => by rw [hv]; rfl⟩
theorem GrowAt.els {sz : Nat} {w : World} {base : Nat} {T : TypeId} {v : Value} {n : Nat} {F : Nat → Nat → Value} {K : Nat → Hd} {L : Nat → List En} (h : GrowAt sz w base T v n F K L) : ∃ ao cap, v = .slice ao n cap ∧ ElsAt sz w true base w.heap.size ao n cap F K L := by
  obtain ⟨ao, cap, e, R, hb⟩ := owns_slice h.own
  exact ⟨ao, cap, e, R, h.logs, fun _ i hi h0 => ⟨fun q => (h.sep i hi h0).1 (by rw [hb (by omega), q]), (h.sep i hi h0).2⟩⟩
/-- one more element -/
theorem GrowAt.snoc {P : Program} {sz : Nat} {w : World} {base : Nat} {T : TypeId} {v : Value} {n : Nat} {F : Nat → Nat → Value} {K : Nat → Hd} {L : Nat → List En} (h : GrowAt sz w base T v n F K L) (t : TypeId) (i0 : TypeInfo) (z : Value) (bytes : Nat) (ht : P.underlying t = some (.slice T)) (hi0 : P.info? T = some i0) (hz0 : i0.zero = some z) (hz1 : i0.size = sz) (hz2 : i0.bytes = bytes) (hzs : z.cells.size = sz) (hsz : 0 < sz) (hby : bytes ≤ 1000)
    {ow : Bool} {l u : Nat} (ad : Addr) (c : Nat) (ns : List Value) (hrow : RowAt w ow l u sz (some ad) 1 c ns) (h1 : ∀ u ∈ ns, u.oneCell' = true) (F' : Nat → Nat → Value) (K' : Nat → Hd) (L' : Nat → List En) (hF : ∀ i j, i < n → j < sz → F' i j = F i j) (hN : (List.range sz).map (F' n) = ns) (hK : ∀ i, i < n → K' i = K i) (hL : ∀ i, i < n → L' i = L i)
    (hlog : RowAt w true base w.heap.size 6 (K' n).1 (K' n).2.1 (K' n).2.2 (sixs (L' n))) (hsep : (K' n).2.1 ≠ 0 → v.ownBlock ≠ some (sb (K' n).1) ∧ ∀ j, j < n → (K j).2.1 ≠ 0 → sb (K j).1 ≠ sb (K' n).1) (hn : n + 1 ≤ 1000000) (hbase : base ≤ w.heap.size) :
    ∃ v' w', (∀ ty, (Builtin.append_ #[t, t] ty #[v, .slice (some ad) 1 c]).run P w = .ok v' w') ∧ GrowAt sz w' base T v' (n + 1) F' K' L' ∧ KeptS (fun k => v.ownBlock = some k) w w' ∧ Below base w w' := by
  have hsrc : ∀ j u, ns[j]? = some u → w.cell? (ad.add j) = some u := fun j u hj => by
    have hjl : j < ns.length := (List.getElem?_eq_some_iff.1 hj).1
    have hl := hrow.len
    obtain ⟨b, off, e, _, _, _, hc, _⟩ := hrow.cells (by omega)
    have e2 : ad = ⟨b, off, none⟩ := Option.some.inj e
    rw [e2]
    have := hc j (by omega)
    rw [List.getD_eq_getElem?_getD, hj, Option.getD_some] at this
    rw [Addr.add_lit]; exact this
  have hby2 : (n + 1) * bytes ≤ 140737488355328 := Nat.le_trans (Nat.mul_le_mul hn hby) (by decide)
  have A := fun ty => run_append_own_at (P := P) w base t ty T i0 z sz bytes ht hi0 hz0 hz1 hz2 hzs hsz v n _ h.own ad 1 c ns hrow.len hsrc h1 (by unfold maxLen; omega) hby2 hbase
  obtain ⟨v', w', hr, ho, hg, _, hat⟩ := A T
  have hrun : ∀ ty, (Builtin.append_ #[t, t] ty #[v, .slice (some ad) 1 c]).run P w = .ok v' w' := fun ty => by
    have : ∀ ty, Builtin.append_ #[t, t] ty #[v, .slice (some ad) 1 c] = Builtin.append_ #[t, t] T #[v, .slice (some ad) 1 c] := fun _ => rfl
    rw [this]; exact hr
  have KS : KeptS (fun k => v.ownBlock = some k) w w' := ⟨hg.os, hg.tape, hg.output, hg.size, fun k hk hs => hg.block k hk (fun e => hs e.symm)⟩
  have inb : ∀ i, i < n + 1 → (K' i).2.1 ≠ 0 → sb (K' i).1 < w.heap.size ∧ v.ownBlock ≠ some (sb (K' i).1) := fun i hi h0 => by
    by_cases e : i = n
    · subst e; exact ⟨(hlog.inB ⟨h0, rfl⟩).2.2, (hsep h0).1⟩
    · have hi' : i < n := by omega
      rw [hK i hi'] at h0 ⊢
      exact ⟨((h.logs i hi').inB ⟨h0, rfl⟩).2.2, (h.sep i hi' h0).1⟩
  refine ⟨v', w', hrun, ⟨?_, fun i hi => ?_, fun i hi h0 => ⟨fun q => ?_, fun j hj hne h2 => ?_⟩⟩, KS, (Below.refl base w).grown hg hbase (fun g hg' => (h.own.lt g hg').1)⟩
  · rw [flatF_snoc, hN, flatF_congr hF]; exact ho
  · have R : RowAt w true base w.heap.size 6 (K' i).1 (K' i).2.1 (K' i).2.2 (sixs (L' i)) := by
      by_cases e : i = n
      · subst e; exact hlog
      · rw [hK i (by omega), hL i (by omega)]; exact h.logs i (by omega)
    refine (R.keptR KS fun k hk hs => ?_).widen (Nat.le_refl _) hg.size
    have := (inb i hi hk.1).2
    rw [← hk.2] at this
    exact this hs
  · rcases hat with e | e
    · exact (inb i hi h0).2 (e ▸ q)
    · rw [e] at q
      have := (inb i hi h0).1
      have e3 : w.heap.size = sb (K' i).1 := Option.some.inj q
      omega
  · by_cases e1 : i = n
    · subst e1
      have hj' : j < i := by omega
      rw [hK j hj'] at h2 ⊢
      exact (hsep h0).2 j hj' h2
    · by_cases e2 : j = n
      · subst e2
        have hi' : i < j := by omega
        rw [hK i hi'] at h0 ⊢
        exact fun q => (hsep h2).2 i hi' h0 q.symm
      · have hi' : i < n := by omega
        have hj' : j < n := by omega
        rw [hK i hi'] at h0 ⊢
        rw [hK j hj'] at h2 ⊢
        exact (h.sep i hi' h0).2 j hj' hne h2

end Go.Proofs.Ytannjgdginfgeaa

/- Chapter 9: what a crash leaves: CrashReplica of the program. -/
namespace Go.Proofs.Ytannjgdginfgeaa
open Go.RowKit

theorem KeptS.low {S : Nat → Prop} {w w' : World} (h : KeptS S w w') (B : Nat) (h1 : ∀ k, S k → B ≤ k) (h2 : B ≤ w.heap.size) : Below B w w' :=
  ⟨h.os, h.tape, h.output, h.size, fun k hk => h.block k (by omega) (fun hs => by have := h1 k hs; omega)⟩
end Go.Proofs.Ytannjgdginfgeaa

/- Chapter 9: CrashReplica of the program. -/
namespace Go.Proofs.Ytannjgdginfgeaa
open Go.RowKit

theorem Bx.low {w W : World} {b n : Nat} {vs : List Value} (h : Bx w b vs) (hb : Below n w W) (hn : b < n) : Bx W b vs :=
  ⟨Nat.lt_of_lt_of_le h.lt hb.size, fun k => by rw [World.cell?_of_block (w := w) (a := ⟨b, k, none⟩) (hb.block b hn)]; exact h.cell k, fun k => by rw [World.frozen?_of_block (w := w) (a := ⟨b, k, none⟩) (hb.block b hn)]; exact h.froz k⟩
end Go.Proofs.Ytannjgdginfgeaa

/- Chapter 9: a replica copied by the model. -/
namespace Go.Proofs.Ytannjgdginfgeaa
open Go.RowKit

set_option maxRecDepth 20000 in
set_option maxHeartbeats 2000000 in
theorem l8Copy_z {o : Bool} {l u : Nat} (ab : Option Addr) (nb cb : Nat) (xs : List En) (w : World) (h : RowAt w o l u 6 ab nb cb (sixs xs)) (hn : nb ≤ 1048576) :
    Calls Try.prog 51 #[.slice ab nb cb] w fun e w' => CloR w w' e 6 nb (sixs xs) := by
  obtain ⟨j0, hj0, hy0, hy1, hy2⟩ := info_parts Try.infoEntry
  have B3 : Below w.heap.size w (w.alloc (.cells #[] 73)) := (Below.refl _ _).alloc (Nat.le_refl _) _
  obtain ⟨ad', cp, w4, hr4, R4, B4, -⟩ := run_append_fresh (P := Try.prog) (w.alloc (.cells #[] 73)) 31 31 73 j0 (.agg #[.int .i64 0, .int .i64 0, .int .i64 0, .int .i64 0, .int .i64 0, .int .i64 0]) 6 48 Try.underlying31 hj0 hy0 hy1 hy2 (by rw [hy1]; rfl) w.heap.size ab nb cb (sixs xs) (h.below B3) (sixs_oneX xs) hn (by omega)
  go_enter Try.func51, Try.ntmps51
  go_wp2_with (at_builtin; refine Lib.wpList_append_run _ rfl _ _ _ _ rfl _ _ rfl rfl _ _ hr4 ?_)
  have B5 := below_next B3 B4
  have R5 : RowAt w4 true w.heap.size w4.heap.size 6 (some ad') nb cp (sixs xs) := R4.widen (by simp) (Nat.le_refl _)
  clear B3 B4 R4 hr4
  go_wp2
  go_ret
  exact ⟨some ad', cp, _, _, rfl, Nat.le_refl _, B5.size, Nat.le_refl _, R5, B5⟩
end Go.Proofs.Ytannjgdginfgeaa

/- Chapter 9: CrashReplica of the model. -/
namespace Go.Proofs.Ytannjgdginfgeaa
open Go.RowKit

end Go.Proofs.Ytannjgdginfgeaa
