/- Chapter 10: whose log is taken, by the program. -/
import Derived.Test.YtjefmhjlaibbkaaWT
import Derived.Test.YtjefmhjlaibbkaaQAH
import Derived.Test.YtjefmhjlaibbkaaQAL
import Derived.Deep.DeepCutAuto
set_option maxRecDepth 20000
set_option maxHeartbeats 16000000
namespace Go.Proofs.Ytjefmhjlaibbkaa
open Go.RowKit
def toldD (r : Rep) (k : Nat) : Dr := if (k : Int) = r.id then (true, r.last, r.log, r.commit) else r.doers.getD k dr0
def toldH (r : Rep) (h : RH) (k : Nat) : Hd := if (k : Int) = r.id then h.L else h.K k
def lstL (r : Rep) (k : Nat) : List Int := (telL r k).map fun q => (toldD r q.toNat).2.1
def logL (r : Rep) (k : Nat) : List (List En) := (telL r k).map fun q => (toldD r q.toNat).2.2.1
def choV (r : Rep) : Int := (telL r r.size.toNat).getD (bestR (lstL r r.size.toNat) (logL r r.size.toNat)).2 0
theorem telL_mem {r : Rep} : ∀ {k : Nat} {q : Int}, q ∈ telL r k → ∃ j : Nat, q = (j : Int) ∧ j < k ∧ telB r j
 | 0, q, h => by simp [telL] at h
 | k + 1, q, h => by
  rw [telL] at h
  by_cases t : telB r k
  ·rw [if_pos t] at h
   rcases List.mem_append.1 h with h | h
   ·obtain ⟨j, a, b, c⟩ := telL_mem h; exact ⟨j, a, by omega, c⟩
   ·exact ⟨k, by simpa using h, Nat.lt_succ_self _, t⟩
  ·rw [if_neg t] at h
   obtain ⟨j, a, b, c⟩ := telL_mem h; exact ⟨j, a, by omega, c⟩
theorem telL_has {r : Rep} {j : Nat} (t : telB r j) : ∀ {k : Nat}, j < k → (j : Int) ∈ telL r k
 | 0, h => absurd h (Nat.not_lt_zero _)
 | k + 1, h => by
  rw [telL]
  by_cases e : j = k
  ·subst e; rw [if_pos t]; simp
  ·have := telL_has t (k := k) (by omega)
   by_cases q : telB r k
   ·rw [if_pos q]; exact List.mem_append.2 (Or.inl this)
   ·rw [if_neg q]; exact this
theorem telL_pos {r : Rep} (hid : 0 ≤ r.id ∧ r.id ≤ r.size - 1) : 0 < (telL r r.size.toNat).length := by
 have : ((r.id.toNat : Nat) : Int) ∈ telL r r.size.toNat := telL_has (Or.inl (by omega)) (by omega)
 exact List.length_pos_of_mem this
theorem bestR_of {ls : List Int} {xss : List (List En)} (h : ls.length = xss.length) (h0 : 0 < xss.length) : bestR ls xss = (0, bestTo ls xss xss.length) ∧ bestTo ls xss xss.length < xss.length := by
 unfold bestR
 rw [if_neg (fun q => q h), if_neg (by omega)]
 exact ⟨rfl, bestTo_lt _ _ _ h0⟩
structure Rows3 (w : World) (base : Nat) (v1 v2 v3 : Value) (n1 n2 n3 : Nat) (c1 c2 c3 : List Value) : Prop where
 a : w.ownsRow base 2 1 v1 n1 c1
 b : w.ownsRow base 2 1 v2 n2 c2
 c : w.ownsRow base 24 1 v3 n3 c3
 ab : ∀ g, v1.ownBlock = some g → v2.ownBlock ≠ some g
 ac : ∀ g, v1.ownBlock = some g → v3.ownBlock ≠ some g
 bc : ∀ g, v2.ownBlock = some g → v3.ownBlock ≠ some g
theorem owns_keptS {w w' : World} {base : Nat} {T : TypeId} {sz n : Nat} {v : Value} {cs : List Value} {S : Nat → Prop} (h : w.ownsRow base T sz v n cs) (hk : KeptS S w w') (hd : ∀ g, v.ownBlock = some g → ¬ S g) : w'.ownsRow base T sz v n cs := by
 refine ⟨h.1, ?_⟩
 rcases h.2 with q | ⟨g, cap, cur, hv, hg, hh, rest⟩
 ·exact .inl q
 ·have hlt := (h.lt g (by rw [hv]; rfl)).2
  exact .inr ⟨g, cap, cur, hv, hg, by rw [hk.block g hlt (hd g (by rw [hv]; rfl))]; exact hh, rest⟩
theorem own_snoc {w : World} {base b1 : Nat} {T : TypeId} {v : Value} {n : Nat} {cs : List Value} (h : w.ownsRow base T 1 v n cs) (t : TypeId) (i0 : TypeInfo) (z : Value) (bytes : Nat) (ht : Try.prog.underlying t = some (.slice T)) (hi0 : Try.prog.info? T = some i0) (hz0 : i0.zero = some z) (hz1 : i0.size = 1) (hz2 : i0.bytes = bytes) (hzs : z.cells.size = 1) (hby : bytes ≤ 1000) (y : Value) (h1 : y.oneCell' = true) (X1 : Bx w b1 [y]) (hn : n ≤ 1000) (hbase : base ≤ w.heap.size) :
  ∃ v' w', (∀ ty, (Builtin.append_ #[t, t] ty #[v, .slice (some ⟨b1, 0, none⟩) 1 1]).run Try.prog w = .ok v' w') ∧ w'.ownsRow base T 1 v' (n + 1) (cs ++ [y]) ∧ KeptS (fun k => v.ownBlock = some k) w w' ∧ (v'.ownBlock = v.ownBlock ∨ v'.ownBlock = some w.heap.size) := by
 have hsrc : ∀ j u, [y][j]? = some u → w.cell? ((⟨b1, 0, none⟩ : Addr).add j) = some u := fun j u hj => by
  rw [Addr.add_lit, Nat.zero_add, X1.cell j]; exact hj
 have hby2 : (n + 1) * bytes ≤ 140737488355328 := Nat.le_trans (Nat.mul_le_mul (Nat.succ_le_succ hn) hby) (by decide)
 obtain ⟨v', w', hr, ho, hg, _, hat⟩ := run_append_own_at (P := Try.prog) w base t T T i0 z 1 bytes ht hi0 hz0 hz1 hz2 hzs (by decide) v n _ h ⟨b1, 0, none⟩ 1 1 [y] (by simp) hsrc (by simpa using h1) (by unfold maxLen; omega) hby2 hbase
 refine ⟨v', w', fun ty => ?_, ho, ⟨hg.os, hg.tape, hg.output, hg.size, fun k hk hs => hg.block k hk (fun e => hs e.symm)⟩, hat⟩
 have : ∀ ty, Builtin.append_ #[t, t] ty #[v, .slice (some ⟨b1, 0, none⟩) 1 1] = Builtin.append_ #[t, t] T #[v, .slice (some ⟨b1, 0, none⟩) 1 1] := fun _ => rfl
 rw [this]; exact hr
section
variable {w w' : World} {base b1 : Nat} {v1 v2 v3 : Value} {n1 n2 n3 : Nat} {c1 c2 c3 : List Value}
theorem Rows3.below (h : Rows3 w base v1 v2 v3 n1 n2 n3 c1 c2 c3) (B : Below w.heap.size w w') : Rows3 w' base v1 v2 v3 n1 n2 n3 c1 c2 c3 := ⟨owns_below h.a B, owns_below h.b B, owns_below h.c B, h.ab, h.ac, h.bc⟩
theorem Rows3.one (h : Rows3 w base v1 v2 v3 n1 n2 n3 c1 c2 c3) (y : Int) (X1 : Bx w b1 [.int .i64 y]) (hn : n1 ≤ 1000) (hbase : base ≤ w.heap.size) : ∃ v' w', (∀ ty, (Builtin.append_ #[25, 25] ty #[v1, .slice (some ⟨b1, 0, none⟩) 1 1]).run Try.prog w = .ok v' w') ∧ Rows3 w' base v' v2 v3 (n1 + 1) n2 n3 (c1 ++ [.int .i64 y]) c2 c3 ∧ KeptS (fun k => v1.ownBlock = some k) w w' := by
 obtain ⟨i2, hi2, ha2, hb2, hc2⟩ := info_parts Try.info2'
 obtain ⟨v', w', hr, ho, KS, hat⟩ := own_snoc h.a 25 i2 (.int .i64 0) 8 Try.underlying25 hi2 ha2 hb2 hc2 rfl (by omega) (.int .i64 y) rfl X1 hn hbase
 refine ⟨v', w', hr, ⟨ho, owns_keptS h.b KS fun g e q => h.ab g q e, owns_keptS h.c KS fun g e q => h.ac g q e, fun g e q => ?_, fun g e q => ?_, h.bc⟩, KS⟩
 ·rcases hat with z | z
  ·exact h.ab g (z ▸ e) q
  ·have := (h.b.lt g q).2; rw [z] at e; injection e with e; omega
 ·rcases hat with z | z
  ·exact h.ac g (z ▸ e) q
  ·have := (h.c.lt g q).2; rw [z] at e; injection e with e; omega
theorem Rows3.two (h : Rows3 w base v1 v2 v3 n1 n2 n3 c1 c2 c3) (y : Int) (X1 : Bx w b1 [.int .i64 y]) (hn : n2 ≤ 1000) (hbase : base ≤ w.heap.size) : ∃ v' w', (∀ ty, (Builtin.append_ #[25, 25] ty #[v2, .slice (some ⟨b1, 0, none⟩) 1 1]).run Try.prog w = .ok v' w') ∧ Rows3 w' base v1 v' v3 n1 (n2 + 1) n3 c1 (c2 ++ [.int .i64 y]) c3 ∧ KeptS (fun k => v2.ownBlock = some k) w w' := by
 obtain ⟨i2, hi2, ha2, hb2, hc2⟩ := info_parts Try.info2'
 obtain ⟨v', w', hr, ho, KS, hat⟩ := own_snoc h.b 25 i2 (.int .i64 0) 8 Try.underlying25 hi2 ha2 hb2 hc2 rfl (by omega) (.int .i64 y) rfl X1 hn hbase
 refine ⟨v', w', hr, ⟨owns_keptS h.a KS fun g e q => h.ab g e q, ho, owns_keptS h.c KS fun g e q => h.bc g q e, fun g e q => ?_, h.ac, fun g e q => ?_⟩, KS⟩
 ·rcases hat with z | z
  ·exact h.ab g e (z ▸ q)
  ·have := (h.a.lt g e).2; rw [z] at q; injection q with q; omega
 ·rcases hat with z | z
  ·exact h.bc g (z ▸ e) q
  ·have := (h.c.lt g q).2; rw [z] at e; injection e with e; omega
theorem Rows3.three (h : Rows3 w base v1 v2 v3 n1 n2 n3 c1 c2 c3) (d : Hd) (X1 : Bx w b1 [hv d]) (hn : n3 ≤ 1000) (hbase : base ≤ w.heap.size) : ∃ v' w', (∀ ty, (Builtin.append_ #[89, 89] ty #[v3, .slice (some ⟨b1, 0, none⟩) 1 1]).run Try.prog w = .ok v' w') ∧ Rows3 w' base v1 v2 v' n1 n2 (n3 + 1) c1 c2 (c3 ++ [hv d]) ∧ KeptS (fun k => v3.ownBlock = some k) w w' := by
 obtain ⟨i2, hi2, ha2, hb2, hc2⟩ := info_parts Try.infoLog
 obtain ⟨v', w', hr, ho, KS, hat⟩ := own_snoc h.c 89 i2 (.slice none 0 0) 24 Try.underlying89 hi2 ha2 hb2 hc2 rfl (by omega) (hv d) rfl X1 hn hbase
 refine ⟨v', w', hr, ⟨owns_keptS h.a KS fun g e q => h.ac g e q, owns_keptS h.b KS fun g e q => h.bc g e q, ho, h.ab, fun g e q => ?_, fun g e q => ?_⟩, KS⟩
 ·rcases hat with z | z
  ·exact h.ac g e (z ▸ q)
  ·have := (h.a.lt g e).2; rw [z] at q; injection q with q; omega
 ·rcases hat with z | z
  ·exact h.bc g e (z ▸ q)
  ·have := (h.b.lt g e).2; rw [z] at q; injection q with q; omega
end
theorem ints_snoc (xs : List Int) (y : Int) : ints (xs ++ [y]) = ints xs ++ [.int .i64 y] := by simp [ints]
def hcL (r : Rep) (h : RH) (k : Nat) : List Value := (telL r k).map fun q => hv (toldH r h q.toNat)
theorem logs_of {w : World} {own : Bool} {lo hi : Nat} {r : Rep} {h : RH} {z u : Nat} {ao : Option Addr} {cap k : Nat} (x : RepAt w own lo hi h r) (hk : ∀ j, j < k → (j : Int) = r.id ∨ r.normal = false → (j : Int) = r.id ∨ j < h.D.2.1) (R : RowAt w true z u 1 ao (telL r k).length cap (hcL r h k)) : LogsAt w true z u ao (telL r k).length cap (fun i => toldH r h ((telL r k).getD i 0).toNat) (logL r k) := by
 have e : hcs (telL r k).length (fun i => toldH r h ((telL r k).getD i 0).toNat) (telL r k).length = hcL r h k := by
  unfold hcs hcL
  apply List.ext_getElem (by simp)
  intro j h1 h2
  have h3 : j < (telL r k).length := by simpa using h1
  simp [List.getD, h3]
 refine ⟨by simp [logL], by rw [e]; exact R, fun i hi' => ?_⟩
 have hm : (telL r k).getD i 0 ∈ telL r k := by simp [List.getD, hi']
 obtain ⟨j, e1, e2, e3⟩ := telL_mem hm
 have e4 : (logL r k).getD i [] = (toldD r j).2.2.1 := by
  have : (telL r k)[i] = (j : Int) := by simpa [List.getD, hi'] using e1
  simp [logL, List.getD, hi', this]
 rw [e4, e1, Int.toNat_natCast]
 unfold toldH toldD
 by_cases q : (j : Int) = r.id
 ·rw [if_pos q, if_pos q]; exact ⟨_, x.log.ro.widen (Nat.zero_le _) (Nat.le_refl _)⟩
 ·rw [if_neg q, if_neg q]
  rcases hk j e2 (e3.imp id fun z => z.1) with z | z
  ·exact absurd z q
  ·exact ⟨_, (x.doers.els.logs j z).ro.widen (Nat.zero_le _) (Nat.le_refl _)⟩
theorem toldBy_is {own : Bool} {lo hi : Nat} (r : Rep) (h : RH) (s : Hd) (b0 : Nat) (w : World) (X0 : Bx w b0 [.int .i64 r.id, .int .i64 r.size, .int .i64 r.view, .bool r.normal, .int .i64 r.last, .slice h.L.1 h.L.2.1 h.L.2.2, .int .i64 r.commit, .slice h.O.1 h.O.2.1 h.O.2.2, .slice h.A.1 h.A.2.1 h.A.2.2, .slice h.D.1 h.D.2.1 h.D.2.2, .slice s.1 s.2.1 s.2.2]) (D : DoersAt w own lo hi h.D.1 h.D.2.1 h.D.2.2 h.K r.doers) (k : Nat) (hk : (k : Int) = r.id ∨ k < h.D.2.1) (kn : Bool) (la cm : Int) (hd : Hd) (e1 : (toldD r k).1 = kn) (e2 : (toldD r k).2.1 = la) (e3 : (toldD r k).2.2.2 = cm) (e4 : toldH r h k = hd) :
  Calls Try.prog 58 #[.pointer (some ⟨b0, 0, none⟩), .int .i64 k] w fun e w' => e = .returned (.agg #[.bool kn, .int .i64 la, .slice hd.1 hd.2.1 hd.2.2, .int .i64 cm]) ∧ Below w.heap.size w w' := by
 have c0 := X0.cell
 have ob0 := X0.lt
 unfold toldD at e1 e2 e3
 unfold toldH at e4
 go_enter Try.func58, Try.ntmps58
 by_cases q : (k : Int) = r.id
 ·rw [if_pos q] at e1 e2 e3 e4
  simp only at e1 e2 e3
  subst e1
  subst e2
  subst e3
  subst e4
  have q1 : ((k : Int) == r.id) = true := by simp [q]
  clear q hk
  go_wp2_with (first | ((have g := ob0); clear g; (with_reducible refine alloc_newX 39 [.bool false, .int .i64 0, .slice none 0 0, .int .i64 0] (fun _ => by kernel_rfl) ?_); intro b1 W1 N1; have ob1 := N1.ge; have o0_b1 : b0 < b1 := Nat.lt_of_lt_of_le X0.lt N1.ge; replace X0 := X0.below N1.below; replace c0 := X0.cell; have B := N1.below; have X1 := N1.bx; have c1 := X1.cell; have f1 := X1.froz; clear N1) | fail)
  have DQ : Below W1.heap.size W1 W1.drew := (Below.refl _ _).drew
  replace X0 := X0.below DQ
  replace c0 := X0.cell
  replace X1 := X1.below DQ
  replace c1 := X1.cell
  replace f1 := X1.froz
  replace B := below_next B DQ
  clear DQ
  refine wp_region_held_drew (S := (fun w' => ∀ k : Nat, w'.cell? ⟨b0, k, none⟩ = [.int .i64 r.id, .int .i64 r.size, .int .i64 r.view, .bool r.normal, .int .i64 r.last, .slice h.L.1 h.L.2.1 h.L.2.2, .int .i64 r.commit, .slice h.O.1 h.O.2.1 h.O.2.2, .slice h.A.1 h.A.2.1 h.A.2.2, .slice h.D.1 h.D.2.1 h.D.2.2, .slice s.1 s.2.1 s.2.2][k]?)) (by kernel_rfl) c0 (fun hZq => ?_)
  refine wpAnyH_take (i := 0) (v := ?_) rfl (by kernel_rfl) (by kernel_rfl) (by kernel_rfl) (fun _ _ _ h => h) (Or.inl ⟨by rfl, ?_⟩) hZq ?_
  rotate_left 1
  ·intro w hSw
   try dsimp only at hSw
   first | (go_simp; done) | (go_simp; with_reducible rfl)
  simp only [Act.put, List.setIfInBounds_toArray, List.set_cons_zero, List.set_cons_succ, List.getElem_toArray, List.getElem_cons_zero]
  refine wpAnyH_take (i := 1) (v := ?_) rfl (by kernel_rfl) (by kernel_rfl) (by kernel_rfl) (fun _ _ _ h => h) (Or.inl ⟨by rfl, ?_⟩) hZq ?_
  rotate_left 1
  ·intro w hSw
   try dsimp only at hSw
   first | (go_simp; done) | (go_simp; with_reducible rfl)
  simp only [Act.put, List.setIfInBounds_toArray, List.set_cons_zero, List.set_cons_succ, List.getElem_toArray, List.getElem_cons_zero, List.getElem_cons_succ]
  refine wpAnyH_take (i := 2) (v := ?_) rfl (by kernel_rfl) (by kernel_rfl) (by kernel_rfl) (fun _ _ _ h => h) (Or.inl ⟨by rfl, ?_⟩) hZq ?_
  rotate_left 1
  ·intro w hSw
   try dsimp only at hSw
   first | (go_simp; done) | (go_simp; with_reducible rfl)
  simp only [Act.put, List.setIfInBounds_toArray, List.set_cons_zero, List.set_cons_succ, List.getElem_toArray, List.getElem_cons_zero, List.getElem_cons_succ]
  refine wpAnyH_take (i := 3) (v := ?_) rfl (by kernel_rfl) (by kernel_rfl) (by kernel_rfl) (fun _ _ _ h => h) (Or.inl ⟨by rfl, ?_⟩) hZq ?_
  rotate_left 1
  ·intro w hSw
   try dsimp only at hSw
   first | (go_simp; done) | (go_simp; with_reducible rfl)
  simp only [Act.put, List.setIfInBounds_toArray, List.set_cons_zero, List.set_cons_succ, List.getElem_toArray, List.getElem_cons_zero, List.getElem_cons_succ]
  refine wpAnyH_take (i := 4) (v := ?_) rfl (by kernel_rfl) (by kernel_rfl) (by kernel_rfl) (fun _ _ _ h => h) (Or.inl ⟨by rfl, ?_⟩) hZq ?_
  rotate_left 1
  ·intro w hSw
   try dsimp only at hSw
   first | (go_simp; done) | (go_simp; with_reducible rfl)
  simp only [Act.put, List.setIfInBounds_toArray, List.set_cons_zero, List.set_cons_succ, List.getElem_toArray, List.getElem_cons_zero, List.getElem_cons_succ]
  refine wpAnyH_take (i := 5) (v := ?_) rfl (by kernel_rfl) (by kernel_rfl) (by kernel_rfl) (fun _ _ _ h => h) (Or.inl ⟨by rfl, ?_⟩) hZq ?_
  rotate_left 1
  ·intro w hSw
   try dsimp only at hSw
   first | (go_simp; done) | (go_simp; with_reducible rfl)
  simp only [Act.put, List.setIfInBounds_toArray, List.set_cons_zero, List.set_cons_succ, List.getElem_toArray, List.getElem_cons_zero, List.getElem_cons_succ]
  refine wpAnyH_take (i := 6) (v := ?_) rfl (by kernel_rfl) (by kernel_rfl) (by kernel_rfl) (fun _ _ _ h => h) (Or.inl ⟨by rfl, ?_⟩) hZq ?_
  rotate_left 1
  ·intro w hSw
   try dsimp only at hSw
   first | (go_simp; done) | (go_simp; with_reducible rfl)
  simp only [Act.put, List.setIfInBounds_toArray, List.set_cons_zero, List.set_cons_succ, List.getElem_toArray, List.getElem_cons_zero, List.getElem_cons_succ]
  refine wpAnyH_take (i := 7) (v := ?_) rfl (by kernel_rfl) (by kernel_rfl) (by kernel_rfl) (fun _ _ _ h => h) (Or.inl ⟨by rfl, ?_⟩) hZq ?_
  rotate_left 1
  ·intro w hSw
   try dsimp only at hSw
   first | (go_simp; done) | (go_simp; with_reducible rfl)
  simp only [Act.put, List.setIfInBounds_toArray, List.set_cons_zero, List.set_cons_succ, List.getElem_toArray, List.getElem_cons_zero, List.getElem_cons_succ]
  refine wpAnyH_take (i := 8) (v := ?_) rfl (by kernel_rfl) (by kernel_rfl) (by kernel_rfl) (fun _ _ _ h => h) (Or.inl ⟨by rfl, ?_⟩) hZq ?_
  rotate_left 1
  ·intro w hSw
   try dsimp only at hSw
   first | (go_simp; done) | (go_simp; with_reducible rfl)
  simp only [Act.put, List.setIfInBounds_toArray, List.set_cons_zero, List.set_cons_succ, List.getElem_toArray, List.getElem_cons_zero, List.getElem_cons_succ]
  refine wpAnyH_take (i := 9) (v := ?_) rfl (by kernel_rfl) (by kernel_rfl) (by kernel_rfl) (fun _ _ _ h => h) (Or.inl ⟨by rfl, ?_⟩) hZq ?_
  rotate_left 1
  ·intro w hSw
   try dsimp only at hSw
   first | (go_simp; done) | (go_simp; with_reducible rfl)
  simp only [Act.put, List.setIfInBounds_toArray, List.set_cons_zero, List.set_cons_succ, List.getElem_toArray, List.getElem_cons_zero, List.getElem_cons_succ]
  refine wpAnyH_take (i := 10) (v := ?_) rfl (by kernel_rfl) (by kernel_rfl) (by kernel_rfl) (fun _ _ _ h => h) (Or.inl ⟨by rfl, ?_⟩) hZq ?_
  rotate_left 1
  ·intro w hSw
   try dsimp only at hSw
   first | (go_simp; done) | (go_simp; with_reducible rfl)
  simp only [Act.put, List.setIfInBounds_toArray, List.set_cons_zero, List.set_cons_succ, List.getElem_toArray, List.getElem_cons_zero, List.getElem_cons_succ]
  refine wpAnyH_take (i := 11) (v := ?_) rfl (by kernel_rfl) (by kernel_rfl) (by kernel_rfl) (fun _ _ _ h => h) (Or.inl ⟨by rfl, ?_⟩) hZq ?_
  rotate_left 1
  ·intro w hSw
   try dsimp only at hSw
   first | (go_simp; done) | (go_simp; with_reducible rfl)
  simp only [Act.put, List.setIfInBounds_toArray, List.set_cons_zero, List.set_cons_succ, List.getElem_toArray, List.getElem_cons_zero, List.getElem_cons_succ]
  refine wpAnyH_take (i := 12) (v := ?_) rfl (by kernel_rfl) (by kernel_rfl) (by kernel_rfl) (fun _ _ _ h => h) (Or.inl ⟨by rfl, ?_⟩) hZq ?_
  rotate_left 1
  ·intro w hSw
   try dsimp only at hSw
   first | (go_simp; done) | (go_simp; with_reducible rfl)
  simp only [Act.put, List.setIfInBounds_toArray, List.set_cons_zero, List.set_cons_succ, List.getElem_toArray, List.getElem_cons_zero, List.getElem_cons_succ]
  refine wpAnyH_take (i := 13) (v := ?_) rfl (by kernel_rfl) (by kernel_rfl) (by kernel_rfl) (fun _ _ _ h => h) (Or.inl ⟨by rfl, ?_⟩) hZq ?_
  rotate_left 1
  ·intro w hSw
   try dsimp only at hSw
   first | (go_simp; done) | (go_simp; with_reducible rfl)
  simp only [Act.put, List.setIfInBounds_toArray, List.set_cons_zero, List.set_cons_succ, List.getElem_toArray, List.getElem_cons_zero, List.getElem_cons_succ]
  refine wpAnyH_take (i := 14) (v := ?_) rfl (by kernel_rfl) (by kernel_rfl) (by kernel_rfl) (fun _ _ _ h => h) (Or.inl ⟨by rfl, ?_⟩) hZq ?_
  rotate_left 1
  ·intro w hSw
   try dsimp only at hSw
   first | (go_simp; done) | (go_simp; with_reducible rfl)
  simp only [Act.put, List.setIfInBounds_toArray, List.set_cons_zero, List.set_cons_succ, List.getElem_toArray, List.getElem_cons_zero, List.getElem_cons_succ]
  refine wpAnyH_take (i := 15) (v := ?_) rfl (by kernel_rfl) (by kernel_rfl) (by kernel_rfl) (fun _ _ _ h => h) (Or.inl ⟨by rfl, ?_⟩) hZq ?_
  rotate_left 1
  ·intro w hSw
   try dsimp only at hSw
   first | (go_simp; done) | (go_simp; with_reducible rfl)
  simp only [Act.put, List.setIfInBounds_toArray, List.set_cons_zero, List.set_cons_succ, List.getElem_toArray, List.getElem_cons_zero, List.getElem_cons_succ]
  refine wpAnyH_ready (rs := [16]) (by kernel_rfl) (by simp) ?_
  refine AllReadyH.cons rfl (fun KK hKK => ?_) AllReadyH.nil
  refine step_midX 39 X1 0 [.bool true, .int .i64 r.last, .slice h.L.1 h.L.2.1 h.L.2.2, .int .i64 r.commit] (by simp) (by kernel_rfl) (by simp [Value.oneCell']) rfl rfl ?_
  intro V1 S
  replace X0 := X0.kept S.kept (by omega)
  replace c0 := X0.cell
  replace X1 : Bx V1 b1 [.bool true, .int .i64 r.last, .slice h.L.1 h.L.2.1 h.L.2.2, .int .i64 r.commit] := S.bx
  replace c1 := X1.cell
  replace f1 := X1.froz
  replace B := B.trans (S.kept.below _ (by omega) B.size)
  clear S
  clear hZq
  refine hKK _ _ c0 (fun hZq => ?_)
  clear hKK KK
  refine wpAnyH_done (by kernel_rfl) ?_ _
  go_wp2
  refine bodyPost_ret (v := .agg #[.bool true, .int .i64 r.last, .slice h.L.1 h.L.2.1 h.L.2.2, .int .i64 r.commit]) (by simp [results, Try.results58, go_sem, *]) rfl ⟨rfl, B⟩
 ·rw [if_neg q] at e1 e2 e3 e4
  subst e4
  have q1 : ((k : Int) == r.id) = false := by simp [q]
  have hkD : k < h.D.2.1 := hk.resolve_left q
  have hlq : (k : Int) < (h.D.2.1 : Int) := by omega
  clear q hk
  obtain ⟨b, off, ed, _, _, hbs, d0, d1, d2, d3, _⟩ := D.doer hkD
  rw [e1] at d0
  rw [e2] at d1
  rw [e3] at d3
  have HX0 : Hid _ := X0
  rw [ed] at X0 c0
  clear ed e1 e2 e3
  go_wp2_with (first | ((with_reducible refine store_midX 39 X1 0 [.bool kn, .int .i64 la, .slice (h.K k).1 (h.K k).2.1 (h.K k).2.2, .int .i64 cm] (by simp) (by kernel_rfl) (by simp [Value.oneCell']) rfl rfl ?_); intro V1 S; replace X0 := X0.kept S.kept (by omega); replace c0 := X0.cell; replace X1 : Bx V1 b1 [.bool kn, .int .i64 la, .slice (h.K k).1 (h.K k).2.1 (h.K k).2.2, .int .i64 cm] := S.bx; replace c1 := X1.cell; replace f1 := X1.froz; replace B := B.trans (S.kept.below _ (by omega) B.size); clear S) | ((have g := ob0); clear g; (with_reducible refine alloc_newX 39 [.bool false, .int .i64 0, .slice none 0 0, .int .i64 0] (fun _ => by kernel_rfl) ?_); intro b1 W1 N1; have ob1 := N1.ge; have o0_b1 : b0 < b1 := Nat.lt_of_lt_of_le X0.lt N1.ge; replace X0 := X0.below N1.below; replace c0 := X0.cell; have B := N1.below; have X1 := N1.bx; have c1 := X1.cell; have f1 := X1.froz; replace d0 := cell_later N1.below d0; replace d1 := cell_later N1.below d1; replace d2 := cell_later N1.below d2; replace d3 := cell_later N1.below d3; clear N1))
  refine bodyPost_ret (v := .agg #[.bool kn, .int .i64 la, .slice (h.K k).1 (h.K k).2.1 (h.K k).2.2, .int .i64 cm]) (by simp [results, Try.results58, go_sem, *]) rfl ⟨rfl, B⟩
theorem chosen_is {own : Bool} {lo hi : Nat} (r : Rep) (h : RH) (s : Hd) (b0 : Nat) (w : World) (X0 : Bx w b0 [.int .i64 r.id, .int .i64 r.size, .int .i64 r.view, .bool r.normal, .int .i64 r.last, .slice h.L.1 h.L.2.1 h.L.2.2, .int .i64 r.commit, .slice h.O.1 h.O.2.1 h.O.2.2, .slice h.A.1 h.A.2.1 h.A.2.2, .slice h.D.1 h.D.2.1 h.D.2.2, .slice s.1 s.2.1 s.2.2]) (x : RepAt w own lo hi h r) (hs : 1 ≤ r.size ∧ r.size ≤ 5) (hid : 0 ≤ r.id ∧ r.id ≤ r.size - 1) (hl : r.normal = false → (h.D.2.1 : Int) = r.size) :
  Calls Try.prog 23 #[.pointer (some ⟨b0, 0, none⟩)] w fun e w' => e = .returned (.int .i64 (choV r)) ∧ Below w.heap.size w w' := by
 obtain ⟨m, hm⟩ : ∃ m : Nat, r.size = m := ⟨r.size.toNat, by omega⟩
 obtain ⟨i, hi0⟩ : ∃ i : Nat, r.id = i := ⟨r.id.toNat, by omega⟩
 have hmt : r.size.toNat = m := by omega
 have HTP := telL_pos hid
 have HMEM : Hid (∀ k, k < (telL r m).length → ∃ j : Nat, (telL r m).getD k 0 = (j : Int) ∧ ((j : Int) = r.id ∨ j < h.D.2.1)) := fun k hk => by
  have hmm : (telL r m).getD k 0 ∈ telL r m := by simp [List.getD, hk]
  obtain ⟨j, e1, e2, e3⟩ := telL_mem hmm
  exact ⟨j, e1, e3.imp id fun z => by have := hl z.1; omega⟩
 have HLK : Hid (∀ j, j < m → (j : Int) = r.id ∨ r.normal = false → (j : Int) = r.id ∨ j < h.D.2.1) := fun j hj q => q.imp id fun z => by have := hl z; omega
 have HCV : Hid (∀ q, bestR (lstL r m) (logL r m) = (0, q) → (telL r m).getD q 0 = choV r) := fun q hq => by unfold choV; rw [hmt, hq]
 rw [hmt] at HTP
 have hBR := bestR_of (ls := lstL r m) (xss := logL r m) (by simp [lstL, logL]) (by simpa [logL] using HTP)
 have hlen := telL_len r m
 have hm5 : m ≤ 5 := by omega
 have HL2 : Hid (r.normal = false → h.D.2.1 = m) := fun q => by have := hl q; omega
 have ob0 := X0.lt
 have c0 := X0.cell
 clear hl hs hid hmt
 go_enter Try.func23, Try.ntmps23
 go_wp2_with fail
 refine (tellers_is r h s b0 _ X0 x.doers m i hm hi0 hm5 HL2.out).mono ?_
 rintro e w1 ⟨ra, rc, z, ue, rfl, Gz, zu, hR, R, BB⟩
 have HX : Hid _ := X0.below BB
 have Hx : Hid _ := x.below BB
 have HW : Hid _ := BB
 have lb : b0 < w1.heap.size := Nat.lt_of_lt_of_le ob0 BB.size
 have HR : Hid _ := R
 have hRn := R.le
 clear X0 c0 BB Gz zu hm hi0 R
 obtain ⟨tl, htl⟩ : ∃ tl, telL r m = tl := ⟨_, rfl⟩
 rw [htl] at HMEM HTP HCV HR hlen hRn
 have HTL : Hid _ := htl
 rw [htl]
 clear htl
 go_wp2
 go_loopw [4, 5, 7, 8, 13] (fun u2 u3 _ _ iv wr => ∃ (k : Nat) (n : Nat), k ≤ tl.length ∧ iv = .int .i64 k ∧ Rows3 wr w1.heap.size (.slice none 0 0) u2 u3 0 k k [] (ints ((tl.take k).map fun q => (toldD r q.toNat).2.1)) ((tl.take k).map fun q => hv (toldH r h q.toNat)) ∧ w1.heap.size ≤ wr.heap.size ∧ Below w1.heap.size w1 wr ∧ n = 0) (fun _ _ _ _ iv _ => tl.length - (intOf iv).toNat)
 case atStart => exact ⟨0, 0, Nat.zero_le _, rfl, ⟨World.ownsRow_nil _ _ _ _, by simpa [ints] using World.ownsRow_nil _ _ _ _, by simpa using World.ownsRow_nil _ _ _ _, (fun _ q => by cases q), (fun _ q => by cases q), (fun _ q => by cases q)⟩, Nat.le_refl _, Below.refl _ _, rfl⟩
 case round =>
  obtain ⟨k, nz, hk, rfl, Q3, LZ, BL, hnz⟩ := hrel
  clear hnz nz
  have R2 : RowAt wr true z ue 1 ra tl.length rc (ints tl) := HR.out.kept (Kept.ofB BL) (Or.inl hR)
  have HQ3 : Hid _ := Q3
  clear Q3
  by_cases hlt : k < tl.length
  ·have hlk : (k : Int) < (tl.length : Int) := by omega
   obtain ⟨b, off, rfl, _, _, _, e0, _⟩ := R2.int hlt
   clear R2
   obtain ⟨j, hj, hj2⟩ := HMEM.out k hlt
   have HS1 : Hid ((tl.take (k + 1)) = tl.take k ++ [(j : Int)]) := by
    show _ = _
    have : tl[k] = (j : Int) := by simpa [List.getD, hlt] using hj
    rw [List.take_add_one, List.getElem?_eq_getElem hlt, this]; rfl
   rw [hj] at e0
   clear hj
   have X0 := HX.out.low BL lb
   have c0 := X0.cell
   have xD : DoersAt wr own lo hi h.D.1 h.D.2.1 h.D.2.2 h.K r.doers := Hx.out.doers.below BL
   obtain ⟨kn, h1⟩ : ∃ kn, (toldD r j).1 = kn := ⟨_, rfl⟩
   obtain ⟨la, h2⟩ : ∃ la, (toldD r j).2.1 = la := ⟨_, rfl⟩
   obtain ⟨cm, h3⟩ : ∃ cm, (toldD r j).2.2.2 = cm := ⟨_, rfl⟩
   obtain ⟨hd, h4⟩ : ∃ hd, toldH r h j = hd := ⟨_, rfl⟩
   have H2 : Hid _ := h2
   have H4 : Hid _ := h4
   have HLZ : Hid _ := LZ
   have HBL : Hid _ := BL
   go_wp2_with fail
   refine (toldBy_is r h s b0 _ X0 xD j hj2 kn la cm hd h1 h2 h3 h4).mono ?_
   rintro e w2 ⟨rfl, BB⟩
   have B : Below wr.heap.size wr w2 := BB
   have hs2 := BB.size
   clear BB X0 c0 xD h1 h2 h3 h4 e0 hj2
   go_upto_region 8 with (first | ((with_reducible refine store_midX 39 X1q 0 [.bool kn, .int .i64 la, .slice hd.1 hd.2.1 hd.2.2, .int .i64 cm] (by simp) (by kernel_rfl) (by simp [Value.oneCell']) rfl rfl ?_); intro V1 S; replace X1q : Bx V1 b1q [.bool kn, .int .i64 la, .slice hd.1 hd.2.1 hd.2.2, .int .i64 cm] := S.bx; replace c1q := X1q.cell; replace f1q := X1q.froz; replace B := B.trans (S.kept.below _ (by omega) B.size); clear S) | ((with_reducible refine alloc_newX 39 [.bool false, .int .i64 0, .slice none 0 0, .int .i64 0] (fun _ => by kernel_rfl) ?_); intro b1q W1q N1q; have ob1q := Nat.le_trans B.size N1q.ge; replace B := below_next B N1q.below; have X1q := N1q.bx; have c1q := X1q.cell; have f1q := X1q.froz; clear N1q) | fail)
   go_upto_region 9 with (first | (at_builtin; refine Lib.wpList_append_run _ rfl _ _ _ _ rfl _ _ rfl rfl _ _ (hr2 _) ?_; clear hr2; replace c1q := cq; have hs3 := KS2.size) | ((with_reducible refine lit_newX 25 1 _ [.int .i64 la] 2 (fun _ => by kernel_rfl) ?_); intro bl2 W2 N2; replace X1q := X1q.below N2.below; replace c1q := X1q.cell; replace f1q := X1q.froz; replace B := below_next B N2.below; have Xl := N2.bx; clear N2; obtain ⟨v2', w3, hr2, Q4, KS2⟩ := (HQ3.out.below B).two la Xl (by omega) (Nat.le_trans HLZ.out B.size); have HQ4 : Hid _ := Q4; have HB2 : Hid _ := B; clear Q4 Xl; replace X1q := X1q.keptS KS2 (fun q => by have := (HQ3.out.b.lt b1q q).2; omega); have cq := X1q.cell) | fail)
   go_upto_region 10 with (first | (at_builtin; refine Lib.wpList_append_run _ rfl _ _ _ _ rfl _ _ rfl rfl _ _ (hr3 _) ?_; clear hr3) | ((have gg := cq); clear gg; (with_reducible refine lit_newX 89 1 _ [.slice hd.1 hd.2.1 hd.2.2] 24 (fun _ => by kernel_rfl) ?_); intro bl3 W3 N3; have hs4 := N3.below.size; have Xl := N3.bx; obtain ⟨v3', w4, hr3, Q5, KS3⟩ := (HQ4.out.below N3.below).three hd Xl (by omega) (Nat.le_trans HLZ.out (Nat.le_trans HB2.out.size (Nat.le_trans hs3 hs4))); have HQ5 : Hid _ := Q5; have HB3 : Hid _ := N3.below; clear Q5 Xl N3 c1q f1q X1q) | fail)
   have BLN : Hid (Below w1.heap.size w1 w4) := by
    have a1 := HBL.out.trans (HB2.out.mono HLZ.out)
    have a2 := a1.trans (KS2.low w1.heap.size (fun g q => (HQ3.out.b.lt g q).1) a1.size)
    have a3 := a2.trans (HB3.out.mono a2.size)
    exact a3.trans (KS3.low w1.heap.size (fun g q => (HQ4.out.c.lt g q).1) a3.size)
   have Q6 : Hid (Rows3 w4 w1.heap.size (.slice none 0 0) v2' v3' 0 (k + 1) (k + 1) [] (ints ((tl.take (k + 1)).map fun q => (toldD r q.toNat).2.1)) ((tl.take (k + 1)).map fun q => hv (toldH r h q.toNat))) := by
    show Rows3 _ _ _ _ _ _ _ _ _ _ _
    rw [HS1.out, List.map_append, List.map_append]
    have e1 : (toldD r ((j : Int)).toNat).2.1 = la := by rw [Int.toNat_natCast]; exact H2.out
    have e2 : toldH r h ((j : Int)).toNat = hd := by rw [Int.toNat_natCast]; exact H4.out
    simp only [List.map_cons, List.map_nil, e1, e2]
    rw [ints_snoc]
    exact HQ5.out
   clear KS2 KS3 B HBL HLZ HB2 HB3 HQ3 HQ4 HQ5 HS1 H2 H4
   have LZN : Hid (w1.heap.size ≤ w4.heap.size) := BLN.out.size
   go_wp2
   go_roundw
   case rel => exact ⟨k + 1, 0, by omega, by go_num, Q6.out, LZN.out, BLN.out, rfl⟩
   case measure => simp [intOf]; omega
  ·obtain rfl : k = tl.length := by omega
   have Q3 := HQ3.out
   rw [List.take_length] at Q3
   obtain ⟨la, lc, e2, RA, -⟩ := owns_slice Q3.b
   obtain ⟨ga, gc, e3, RB, -⟩ := owns_slice Q3.c
   subst e2
   subst e3
   have RA2 : RowAt wr true w1.heap.size wr.heap.size 1 la (lstL r m).length lc (ints (lstL r m)) := by
    unfold lstL; rw [HTL.out, List.length_map]; exact RA
   have LG : LogsAt wr true w1.heap.size wr.heap.size ga (telL r m).length gc _ (logL r m) := logs_of (Hx.out.below BL) HLK.out (by unfold hcL; rw [HTL.out]; exact RB)
   have e5 : (lstL r m).length = tl.length := by unfold lstL; rw [HTL.out, List.length_map]
   rw [e5] at RA2
   rw [HTL.out] at LG
   obtain ⟨q0, hq0⟩ : ∃ q0, bestTo (lstL r m) (logL r m) (logL r m).length = q0 := ⟨_, rfl⟩
   rw [hq0] at hBR
   have hq1 : q0 < tl.length := by have := hBR.2; unfold logL at this; rw [HTL.out] at this; simpa using this
   have hcv := HCV.out q0 hBR.1
   have hlq : (q0 : Int) < (tl.length : Int) := by omega
   obtain ⟨b, off, rfl, _, _, _, e0, _⟩ := R2.int hq1
   have HR2 : Hid _ := R2
   go_wp2_with fail
   refine (implBest_is la ga tl.length lc tl.length gc _ (lstL r m) (logL r m) _ RA2 LG (by omega) 0 q0 hBR.1).mono ?_
   rintro e w5 ⟨rfl, BB⟩
   replace e0 := cell_later BB e0
   rw [hcv] at e0
   have hfi : ∀ W, (Instr.field 32 (.agg #[.int .i64 0, .int .i64 (q0 : Int)]) 1).run Try.prog W = .ok (.int .i64 (q0 : Int)) W := fun W => by kernel_rfl
   have B9 : Below w.heap.size w w5 := (HW.out.trans (BL.mono HW.out.size)).trans (BB.mono (Nat.le_trans HW.out.size LZ))
   clear RA RB RA2 LG Q3 BB BL HR2
   go_wp2
   go_ret
   exact ⟨rfl, B9⟩
theorem l10Chosen0_is {own : Bool} {lo hi : Nat} (r : Rep) (h : RH) (b0 : Nat) (w : World) (X0 : Bx w b0 [.int .i64 r.id, .int .i64 r.size, .int .i64 r.view, .bool r.normal, .int .i64 r.last, .slice h.L.1 h.L.2.1 h.L.2.2, .int .i64 r.commit, .slice h.O.1 h.O.2.1 h.O.2.2, .slice h.A.1 h.A.2.1 h.A.2.2, .slice h.D.1 h.D.2.1 h.D.2.2]) (x : RepAt w own lo hi h r) (hs : 1 ≤ r.size ∧ r.size ≤ 5) (hid : 0 ≤ r.id ∧ r.id ≤ r.size - 1) (hn : r.normal = false) (hl : (h.D.2.1 : Int) = r.size) :
  Calls Try.prog 28 #[.pointer (some ⟨b0, 0, none⟩)] w fun e w' => e = .returned (.int .i64 (choV r)) ∧ Below w.heap.size w w' := by
 obtain ⟨m, hm⟩ : ∃ m : Nat, h.D.2.1 = m := ⟨_, rfl⟩
 have hmt : r.size.toNat = m := by omega
 have HTP := telL_pos hid
 have HLK : Hid (∀ j, j < m → (j : Int) = r.id ∨ r.normal = false → (j : Int) = r.id ∨ j < h.D.2.1) := fun j hj q => Or.inr (by omega)
 have HCV : Hid (∀ q, bestR (lstL r m) (logL r m) = (0, q) → (telL r m).getD q 0 = choV r) := fun q hq => by unfold choV; rw [hmt, hq]
 rw [hmt] at HTP
 have hBR := bestR_of (ls := lstL r m) (xss := logL r m) (by simp [lstL, logL]) (by simpa [logL] using HTP)
 have hlen := telL_len r m
 have hm5 : m ≤ 5 := by omega
 have HTB : Hid (∀ k, telB r k ↔ ((k : Int) = r.id ∨ (r.doers.getD k dr0).1 = true)) := fun k => by unfold telB; rw [hn]; simp
 have HN : Hid _ := hn
 have ob0 := X0.lt
 have c0 := X0.cell
 have HX0 : Hid _ := X0
 have hxd := x.doers
 clear hl hs hid hmt hn
 rw [hm] at hxd X0 c0
 have HM : Hid _ := hm
 clear hm
 go_enter Try.func28, Try.ntmps28
 have BL : Below w.heap.size w w := Below.refl _ _
 go_wp2_with (first | ((have gg := G2); clear gg; (with_reducible refine lit_newO 89 0 #[] [] 24 (fun _ => by kernel_rfl) ?_); intro b3l W3 N3 G3; have ge3 := Nat.le_trans BL.size N3.ge; have lt3 := N3.bx.lt; replace O1 := owns_below O1 N3.below; have ne13 : b1l < b3l := Nat.lt_of_lt_of_le lt1 N3.ge; replace lt1 := Nat.lt_of_lt_of_le lt1 N3.below.size; replace O2 := owns_below O2 N3.below; have ne23 : b2l < b3l := Nat.lt_of_lt_of_le lt2 N3.ge; replace lt2 := Nat.lt_of_lt_of_le lt2 N3.below.size; have O3 := owns_litO (sz := 1) ge3 G3; replace BL := BL.trans (N3.below.mono BL.size); clear N3) | ((have gg := G1); clear gg; (with_reducible refine lit_newO 25 0 #[] [] 2 (fun _ => by kernel_rfl) ?_); intro b2l W2 N2 G2; have ge2 := Nat.le_trans BL.size N2.ge; have lt2 := N2.bx.lt; replace O1 := owns_below O1 N2.below; have ne12 : b1l < b2l := Nat.lt_of_lt_of_le lt1 N2.ge; replace lt1 := Nat.lt_of_lt_of_le lt1 N2.below.size; have O2 := owns_litO (sz := 1) ge2 G2; replace BL := BL.trans (N2.below.mono BL.size); clear N2) | ((with_reducible refine lit_newO 25 0 #[] [] 2 (fun _ => by kernel_rfl) ?_); intro b1l W1 N1 G1; have ge1 := Nat.le_trans BL.size N1.ge; have lt1 := N1.bx.lt; have O1 := owns_litO (sz := 1) ge1 G1; replace BL := BL.trans (N1.below.mono BL.size); clear N1) | fail)
 have Q0 : Rows3 W3 w.heap.size (.slice (some ⟨b1l, 0, none⟩) 0 0) (.slice (some ⟨b2l, 0, none⟩) 0 0) (.slice (some ⟨b3l, 0, none⟩) 0 0) 0 0 0 [] [] [] := ⟨O1, O2, O3, fun g e q => by simp only [Value.ownBlock, Option.some.injEq] at e q; omega, fun g e q => by simp only [Value.ownBlock, Option.some.injEq] at e q; omega, fun g e q => by simp only [Value.ownBlock, Option.some.injEq] at e q; omega⟩
 clear O1 O2 O3 G1 G2 G3 ge1 ge2 ge3 lt1 lt2 lt3 ne12 ne13 ne23 X0 c0
 have HQ0 : Hid _ := Q0
 have HBL0 : Hid _ := BL
 clear Q0 BL
 go_loopw [3, 4, 5, 6, 7] (fun v1 v2 v3 iv _ wr => ∃ k : Nat, k ≤ m ∧ iv = .int .i64 k ∧ Rows3 wr w.heap.size v1 v2 v3 (telL r k).length (telL r k).length (telL r k).length (ints (telL r k)) (ints (lstL r k)) (hcL r h k) ∧ Below w.heap.size w wr) (fun _ _ _ iv _ _ => m - (intOf iv).toNat)
 case atStart => exact ⟨0, Nat.zero_le _, rfl, HQ0.out, HBL0.out⟩
 case round =>
  skip
  obtain ⟨k, hk, rfl, Q3, BL⟩ := hrel
  have HQ3 : Hid _ := Q3
  clear Q3 HQ0 HBL0
  have X0 : Bx wr b0 [.int .i64 r.id, .int .i64 r.size, .int .i64 r.view, .bool r.normal, .int .i64 r.last, .slice h.L.1 h.L.2.1 h.L.2.2, .int .i64 r.commit, .slice h.O.1 h.O.2.1 h.O.2.2, .slice h.A.1 h.A.2.1 h.A.2.2, .slice h.D.1 m h.D.2.2] := by
   have := HX0.out.low BL ob0
   rwa [HM.out] at this
  have c0 := X0.cell
  by_cases hlt : k < m
  ·have hlk : (k : Int) < (m : Int) := by omega
   have hll := telL_len r k
   obtain ⟨b, off, ed, _, _, hbs, d0, d1, d2, d3, _⟩ := (hxd.below BL).doer hlt
   rw [ed] at X0 c0
   clear ed
   have HO : Hid (telL r (k + 1) = if telB r k then telL r k ++ [(k : Int)] else telL r k) := rfl
   obtain ⟨kn, hkn⟩ : ∃ kn, (r.doers.getD k dr0).1 = kn := ⟨_, rfl⟩
   obtain ⟨la, hla⟩ : ∃ la, (r.doers.getD k dr0).2.1 = la := ⟨_, rfl⟩
   obtain ⟨cm, hcm⟩ : ∃ cm, (r.doers.getD k dr0).2.2.2 = cm := ⟨_, rfl⟩
   obtain ⟨hd, hhd⟩ : ∃ hd, h.K k = hd := ⟨_, rfl⟩
   rw [hkn] at d0
   rw [hla] at d1
   rw [hcm] at d3
   rw [hhd] at d2
   have H1 : Hid _ := hkn
   have H2 : Hid _ := hla
   have H4 : Hid _ := hhd
   clear hkn hla hcm hhd
   have HBL : Hid _ := BL
   clear BL
   have HQW : Hid _ := HQ3.out
   by_cases q : (k : Int) = r.id
   ·have q1 : ((k : Int) == r.id) = true := by simp [q]
    have HQ : Hid _ := q
    clear q
    go_wp2_with (first | ((with_reducible refine store_midX 39 X1 0 [.bool kn, .int .i64 la, .slice hd.1 hd.2.1 hd.2.2, .int .i64 cm] (by simp) (by kernel_rfl) (by simp [Value.oneCell']) rfl rfl ?_); intro V1 S; replace X0 := X0.kept S.kept (by omega); replace c0 := X0.cell; replace X1 : Bx V1 b1 [.bool kn, .int .i64 la, .slice hd.1 hd.2.1 hd.2.2, .int .i64 cm] := S.bx; replace c1 := X1.cell; replace f1 := X1.froz; replace B := B.trans (S.kept.below _ (by omega) B.size); clear S) | ((with_reducible refine alloc_newX 39 [.bool false, .int .i64 0, .slice none 0 0, .int .i64 0] (fun _ => by kernel_rfl) ?_); intro b1 W1 N1; have ob1 := N1.ge; have o0_b1 : b0 < b1 := Nat.lt_of_lt_of_le X0.lt N1.ge; replace X0 := X0.below N1.below; replace c0 := X0.cell; have B := N1.below; have X1 := N1.bx; have c1 := X1.cell; have f1 := X1.froz; replace d0 := cell_later N1.below d0; replace d1 := cell_later N1.below d1; replace d2 := cell_later N1.below d2; replace d3 := cell_later N1.below d3; clear N1) | fail)
    have DQ : Below V1.heap.size V1 V1.drew := (Below.refl _ _).drew
    replace X0 := X0.below DQ
    replace c0 := X0.cell
    replace X1 := X1.below DQ
    replace c1 := X1.cell
    replace f1 := X1.froz
    replace B := below_next B DQ
    clear DQ
    refine wp_region_held_drew (S := (fun w' => ∀ k : Nat, w'.cell? ⟨b0, k, none⟩ = [.int .i64 r.id, .int .i64 r.size, .int .i64 r.view, .bool r.normal, .int .i64 r.last, .slice h.L.1 h.L.2.1 h.L.2.2, .int .i64 r.commit, .slice h.O.1 h.O.2.1 h.O.2.2, .slice h.A.1 h.A.2.1 h.A.2.2, .slice (some ⟨b, off, none⟩) m h.D.2.2][k]?)) (by kernel_rfl) c0 (fun hZq => ?_)
    refine wpAnyH_take (i := 0) (v := ?_) rfl (by kernel_rfl) (by kernel_rfl) (by kernel_rfl) (fun _ _ _ h => h) (Or.inl ⟨by rfl, ?_⟩) hZq ?_
    rotate_left 1
    ·intro w hSw
     try dsimp only at hSw
     first | (go_simp; done) | (go_simp; with_reducible rfl)
    simp only [Act.put, List.setIfInBounds_toArray, List.set_cons_zero, List.set_cons_succ, List.getElem_toArray, List.getElem_cons_zero]
    refine wpAnyH_take (i := 1) (v := ?_) rfl (by kernel_rfl) (by kernel_rfl) (by kernel_rfl) (fun _ _ _ h => h) (Or.inl ⟨by rfl, ?_⟩) hZq ?_
    rotate_left 1
    ·intro w hSw
     try dsimp only at hSw
     first | (go_simp; done) | (go_simp; with_reducible rfl)
    simp only [Act.put, List.setIfInBounds_toArray, List.set_cons_zero, List.set_cons_succ, List.getElem_toArray, List.getElem_cons_zero, List.getElem_cons_succ]
    refine wpAnyH_take (i := 2) (v := ?_) rfl (by kernel_rfl) (by kernel_rfl) (by kernel_rfl) (fun _ _ _ h => h) (Or.inl ⟨by rfl, ?_⟩) hZq ?_
    rotate_left 1
    ·intro w hSw
     try dsimp only at hSw
     first | (go_simp; done) | (go_simp; with_reducible rfl)
    simp only [Act.put, List.setIfInBounds_toArray, List.set_cons_zero, List.set_cons_succ, List.getElem_toArray, List.getElem_cons_zero, List.getElem_cons_succ]
    refine wpAnyH_take (i := 3) (v := ?_) rfl (by kernel_rfl) (by kernel_rfl) (by kernel_rfl) (fun _ _ _ h => h) (Or.inl ⟨by rfl, ?_⟩) hZq ?_
    rotate_left 1
    ·intro w hSw
     try dsimp only at hSw
     first | (go_simp; done) | (go_simp; with_reducible rfl)
    simp only [Act.put, List.setIfInBounds_toArray, List.set_cons_zero, List.set_cons_succ, List.getElem_toArray, List.getElem_cons_zero, List.getElem_cons_succ]
    refine wpAnyH_take (i := 4) (v := ?_) rfl (by kernel_rfl) (by kernel_rfl) (by kernel_rfl) (fun _ _ _ h => h) (Or.inl ⟨by rfl, ?_⟩) hZq ?_
    rotate_left 1
    ·intro w hSw
     try dsimp only at hSw
     first | (go_simp; done) | (go_simp; with_reducible rfl)
    simp only [Act.put, List.setIfInBounds_toArray, List.set_cons_zero, List.set_cons_succ, List.getElem_toArray, List.getElem_cons_zero, List.getElem_cons_succ]
    refine wpAnyH_take (i := 5) (v := ?_) rfl (by kernel_rfl) (by kernel_rfl) (by kernel_rfl) (fun _ _ _ h => h) (Or.inl ⟨by rfl, ?_⟩) hZq ?_
    rotate_left 1
    ·intro w hSw
     try dsimp only at hSw
     first | (go_simp; done) | (go_simp; with_reducible rfl)
    simp only [Act.put, List.setIfInBounds_toArray, List.set_cons_zero, List.set_cons_succ, List.getElem_toArray, List.getElem_cons_zero, List.getElem_cons_succ]
    refine wpAnyH_take (i := 6) (v := ?_) rfl (by kernel_rfl) (by kernel_rfl) (by kernel_rfl) (fun _ _ _ h => h) (Or.inl ⟨by rfl, ?_⟩) hZq ?_
    rotate_left 1
    ·intro w hSw
     try dsimp only at hSw
     first | (go_simp; done) | (go_simp; with_reducible rfl)
    simp only [Act.put, List.setIfInBounds_toArray, List.set_cons_zero, List.set_cons_succ, List.getElem_toArray, List.getElem_cons_zero, List.getElem_cons_succ]
    refine wpAnyH_take (i := 7) (v := ?_) rfl (by kernel_rfl) (by kernel_rfl) (by kernel_rfl) (fun _ _ _ h => h) (Or.inl ⟨by rfl, ?_⟩) hZq ?_
    rotate_left 1
    ·intro w hSw
     try dsimp only at hSw
     first | (go_simp; done) | (go_simp; with_reducible rfl)
    simp only [Act.put, List.setIfInBounds_toArray, List.set_cons_zero, List.set_cons_succ, List.getElem_toArray, List.getElem_cons_zero, List.getElem_cons_succ]
    refine wpAnyH_take (i := 8) (v := ?_) rfl (by kernel_rfl) (by kernel_rfl) (by kernel_rfl) (fun _ _ _ h => h) (Or.inl ⟨by rfl, ?_⟩) hZq ?_
    rotate_left 1
    ·intro w hSw
     try dsimp only at hSw
     first | (go_simp; done) | (go_simp; with_reducible rfl)
    simp only [Act.put, List.setIfInBounds_toArray, List.set_cons_zero, List.set_cons_succ, List.getElem_toArray, List.getElem_cons_zero, List.getElem_cons_succ]
    refine wpAnyH_ready (rs := [9]) (by kernel_rfl) (by simp) ?_
    refine AllReadyH.cons rfl (fun KK hKK => ?_) AllReadyH.nil
    refine step_midX 39 X1 0 [.bool true, .int .i64 r.last, .slice h.L.1 h.L.2.1 h.L.2.2, .int .i64 0] (by simp) (by kernel_rfl) (by simp [Value.oneCell']) rfl rfl ?_
    intro V9 S
    replace X0 := X0.kept S.kept (by omega)
    replace c0 := X0.cell
    replace X1 : Bx V9 b1 [.bool true, .int .i64 r.last, .slice h.L.1 h.L.2.1 h.L.2.2, .int .i64 0] := S.bx
    replace c1 := X1.cell
    replace f1 := X1.froz
    replace B := B.trans (S.kept.below _ (by omega) B.size)
    clear S
    clear hZq
    refine hKK _ _ c0 (fun hZq => ?_)
    clear hKK KK
    refine wpAnyH_done (by kernel_rfl) ?_ _
    go_upto_region 11 with fail
    clear X0 c0
    have BL : Below w.heap.size w V9 := HBL.out.trans (B.mono HBL.out.size)
    have LZ := BL.size
    replace HQ3 : Hid _ := HQ3.out.below B
    have o1q : wr.heap.size ≤ b1 := ob1
    clear B
    have HOB0 : Hid (¬ (u3 : Value).ownBlock = some b1) := fun q => by have := (HQW.out.a.lt b1 q).2; omega
    have HOB1 : Hid (¬ (u4 : Value).ownBlock = some b1) := fun q => by have := (HQW.out.b.lt b1 q).2; omega
    have HOB2 : Hid (¬ (u5 : Value).ownBlock = some b1) := fun q => by have := (HQW.out.c.lt b1 q).2; omega
    go_upto_region 12 with (first | (at_builtin; refine Lib.wpList_append_run _ rfl _ _ _ _ rfl _ _ rfl rfl _ _ (hr0 _) ?_; clear hr0 BL LZ BL0 N0; replace X1 := X1'; clear X1'; replace c1 := X1.cell; have BL := BL0'; clear BL0'; have LZ := BL.size) | ((with_reducible refine lit_newX 25 1 _ [.int .i64 k] 2 (fun _ => by kernel_rfl) ?_); intro bl0 L0 N0; replace X1 := X1.below N0.below; replace c1 := X1.cell; have Xl := N0.bx; have BL0 := BL.trans (N0.below.mono BL.size); replace HQ3 : Hid _ := HQ3.out.below N0.below; obtain ⟨v0', w0', hr0, QQ, KS⟩ := HQ3.out.one ((k : Int)) Xl (by omega) BL0.size; have HQ4 : Hid _ := QQ; have BL0' := BL0.trans (KS.low w.heap.size (fun g q => (HQ3.out.a.lt g q).1) BL0.size); have X1' := X1.keptS KS (fun q => HOB0.out q); clear QQ Xl KS) | fail)
    go_upto_region 13 with (first | (at_builtin; refine Lib.wpList_append_run _ rfl _ _ _ _ rfl _ _ rfl rfl _ _ (hr1 _) ?_; clear hr1 BL LZ BL1 N1; replace X1 := X1'; clear X1'; replace c1 := X1.cell; have BL := BL1'; clear BL1'; have LZ := BL.size) | ((with_reducible refine lit_newX 25 1 _ [.int .i64 r.last] 2 (fun _ => by kernel_rfl) ?_); intro bl1 L1 N1; replace X1 := X1.below N1.below; replace c1 := X1.cell; have Xl := N1.bx; have BL1 := BL.trans (N1.below.mono BL.size); replace HQ4 : Hid _ := HQ4.out.below N1.below; obtain ⟨v1', w1', hr1, QQ, KS⟩ := HQ4.out.two (r.last) Xl (by omega) BL1.size; have HQ5 : Hid _ := QQ; have BL1' := BL1.trans (KS.low w.heap.size (fun g q => (HQ4.out.b.lt g q).1) BL1.size); have X1' := X1.keptS KS (fun q => HOB1.out q); clear QQ Xl KS) | fail)
    go_upto_region 6 with (first | (at_builtin; refine Lib.wpList_append_run _ rfl _ _ _ _ rfl _ _ rfl rfl _ _ (hr2 _) ?_; clear hr2 BL LZ BL2 N2; replace X1 := X1'; clear X1'; replace c1 := X1.cell; have BL := BL2'; clear BL2'; have LZ := BL.size) | ((with_reducible refine lit_newX 89 1 _ [.slice h.L.1 h.L.2.1 h.L.2.2] 24 (fun _ => by kernel_rfl) ?_); intro bl2 L2 N2; replace X1 := X1.below N2.below; replace c1 := X1.cell; have Xl := N2.bx; have BL2 := BL.trans (N2.below.mono BL.size); replace HQ5 : Hid _ := HQ5.out.below N2.below; obtain ⟨v2', w2', hr2, QQ, KS⟩ := HQ5.out.three (h.L) Xl (by omega) BL2.size; have HQ6 : Hid _ := QQ; have BL2' := BL2.trans (KS.low w.heap.size (fun g q => (HQ5.out.c.lt g q).1) BL2.size); have X1' := X1.keptS KS (fun q => HOB2.out q); clear QQ Xl KS) | fail)
    have e3 : telL r (k + 1) = telL r k ++ [(k : Int)] := by rw [HO.out, if_pos ((HTB.out k).2 (Or.inl HQ.out))]
    have e4 : lstL r (k + 1) = lstL r k ++ [r.last] := by unfold lstL; rw [e3, List.map_append]; simp only [List.map_cons, List.map_nil, Int.toNat_natCast]; rw [show toldD r k = _ from if_pos HQ.out]
    have e5 : hcL r h (k + 1) = hcL r h k ++ [hv h.L] := by unfold hcL; rw [e3, List.map_append]; simp only [List.map_cons, List.map_nil, Int.toNat_natCast]; rw [show toldH r h k = _ from if_pos HQ.out]
    have HQF : Hid (Rows3 w2' w.heap.size v0' v1' v2' (telL r (k + 1)).length (telL r (k + 1)).length (telL r (k + 1)).length (ints (telL r (k + 1))) (ints (lstL r (k + 1))) (hcL r h (k + 1))) := by
     show Rows3 _ _ _ _ _ _ _ _ _ _ _
     rw [e4, e5, e3, ints_snoc, ints_snoc, List.length_append]; exact HQ6.out
    have HBF : Hid _ := BL
    clear e3 e4 e5 HQ3 HQ4 HQ5 HQ6 HOB0 HOB1 HOB2 HQW X1 c1 f1 BL LZ
    go_wp2
    go_roundw
    case rel => exact ⟨k + 1, by omega, by go_num, HQF.out, HBF.out⟩
    case measure => simp [intOf]; omega
   have q1 : ((k : Int) == r.id) = false := by simp [q]
   have HQ : Hid _ := q
   clear q
   cases kn
   ·have HQF : Hid (telL r (k + 1) = telL r k) := by show _ = _; rw [HO.out, if_neg (fun z => ((HTB.out k).1 z).elim HQ.out fun z => by rw [H1.out] at z; cases z)]
    go_upto_region 6 with (first | ((with_reducible refine store_midX 39 X1 0 [.bool false, .int .i64 la, .slice hd.1 hd.2.1 hd.2.2, .int .i64 cm] (by simp) (by kernel_rfl) (by simp [Value.oneCell']) rfl rfl ?_); intro V1 S; replace X0 := X0.kept S.kept (by omega); replace c0 := X0.cell; replace X1 : Bx V1 b1 [.bool false, .int .i64 la, .slice hd.1 hd.2.1 hd.2.2, .int .i64 cm] := S.bx; replace c1 := X1.cell; replace f1 := X1.froz; replace B := B.trans (S.kept.below _ (by omega) B.size); clear S) | ((with_reducible refine alloc_newX 39 [.bool false, .int .i64 0, .slice none 0 0, .int .i64 0] (fun _ => by kernel_rfl) ?_); intro b1 W1 N1; have ob1 := N1.ge; have o0_b1 : b0 < b1 := Nat.lt_of_lt_of_le X0.lt N1.ge; replace X0 := X0.below N1.below; replace c0 := X0.cell; have B := N1.below; have X1 := N1.bx; have c1 := X1.cell; have f1 := X1.froz; replace d0 := cell_later N1.below d0; replace d1 := cell_later N1.below d1; replace d2 := cell_later N1.below d2; replace d3 := cell_later N1.below d3; clear N1) | fail)
    have e4 : lstL r (k + 1) = lstL r k := by unfold lstL; rw [HQF.out]
    have e5 : hcL r h (k + 1) = hcL r h k := by unfold hcL; rw [HQF.out]
    have HQG : Hid (Rows3 V1 w.heap.size u3 u4 u5 (telL r (k + 1)).length (telL r (k + 1)).length (telL r (k + 1)).length (ints (telL r (k + 1))) (ints (lstL r (k + 1))) (hcL r h (k + 1))) := by
     show Rows3 _ _ _ _ _ _ _ _ _ _ _
     rw [e4, e5, HQF.out]; exact HQ3.out.below B
    have HBF : Hid (Below w.heap.size w V1) := HBL.out.trans (B.mono HBL.out.size)
    clear e4 e5 HQ3 HQW X0 X1 c0 c1 f1 B
    go_wp2
    go_roundw
    case rel => exact ⟨k + 1, by omega, by go_num, HQG.out, HBF.out⟩
    case measure => simp [intOf]; omega
   ·go_upto_region 11 with (first | ((with_reducible refine store_midX 39 X1 0 [.bool true, .int .i64 la, .slice hd.1 hd.2.1 hd.2.2, .int .i64 cm] (by simp) (by kernel_rfl) (by simp [Value.oneCell']) rfl rfl ?_); intro V1 S; replace X0 := X0.kept S.kept (by omega); replace c0 := X0.cell; replace X1 : Bx V1 b1 [.bool true, .int .i64 la, .slice hd.1 hd.2.1 hd.2.2, .int .i64 cm] := S.bx; replace c1 := X1.cell; replace f1 := X1.froz; replace B := B.trans (S.kept.below _ (by omega) B.size); clear S) | ((with_reducible refine alloc_newX 39 [.bool false, .int .i64 0, .slice none 0 0, .int .i64 0] (fun _ => by kernel_rfl) ?_); intro b1 W1 N1; have ob1 := N1.ge; have o0_b1 : b0 < b1 := Nat.lt_of_lt_of_le X0.lt N1.ge; replace X0 := X0.below N1.below; replace c0 := X0.cell; have B := N1.below; have X1 := N1.bx; have c1 := X1.cell; have f1 := X1.froz; replace d0 := cell_later N1.below d0; replace d1 := cell_later N1.below d1; replace d2 := cell_later N1.below d2; replace d3 := cell_later N1.below d3; clear N1) | fail)
    clear X0 c0
    have BL : Below w.heap.size w V1 := HBL.out.trans (B.mono HBL.out.size)
    have LZ := BL.size
    replace HQ3 : Hid _ := HQ3.out.below B
    have o1q : wr.heap.size ≤ b1 := ob1
    clear B
    have HOB0 : Hid (¬ (u3 : Value).ownBlock = some b1) := fun q => by have := (HQW.out.a.lt b1 q).2; omega
    have HOB1 : Hid (¬ (u4 : Value).ownBlock = some b1) := fun q => by have := (HQW.out.b.lt b1 q).2; omega
    have HOB2 : Hid (¬ (u5 : Value).ownBlock = some b1) := fun q => by have := (HQW.out.c.lt b1 q).2; omega
    go_upto_region 12 with (first | (at_builtin; refine Lib.wpList_append_run _ rfl _ _ _ _ rfl _ _ rfl rfl _ _ (hr0 _) ?_; clear hr0 BL LZ BL0 N0; replace X1 := X1'; clear X1'; replace c1 := X1.cell; have BL := BL0'; clear BL0'; have LZ := BL.size) | ((with_reducible refine lit_newX 25 1 _ [.int .i64 k] 2 (fun _ => by kernel_rfl) ?_); intro bl0 L0 N0; replace X1 := X1.below N0.below; replace c1 := X1.cell; have Xl := N0.bx; have BL0 := BL.trans (N0.below.mono BL.size); replace HQ3 : Hid _ := HQ3.out.below N0.below; obtain ⟨v0', w0', hr0, QQ, KS⟩ := HQ3.out.one ((k : Int)) Xl (by omega) BL0.size; have HQ4 : Hid _ := QQ; have BL0' := BL0.trans (KS.low w.heap.size (fun g q => (HQ3.out.a.lt g q).1) BL0.size); have X1' := X1.keptS KS (fun q => HOB0.out q); clear QQ Xl KS) | fail)
    go_upto_region 13 with (first | (at_builtin; refine Lib.wpList_append_run _ rfl _ _ _ _ rfl _ _ rfl rfl _ _ (hr1 _) ?_; clear hr1 BL LZ BL1 N1; replace X1 := X1'; clear X1'; replace c1 := X1.cell; have BL := BL1'; clear BL1'; have LZ := BL.size) | ((with_reducible refine lit_newX 25 1 _ [.int .i64 la] 2 (fun _ => by kernel_rfl) ?_); intro bl1 L1 N1; replace X1 := X1.below N1.below; replace c1 := X1.cell; have Xl := N1.bx; have BL1 := BL.trans (N1.below.mono BL.size); replace HQ4 : Hid _ := HQ4.out.below N1.below; obtain ⟨v1', w1', hr1, QQ, KS⟩ := HQ4.out.two (la) Xl (by omega) BL1.size; have HQ5 : Hid _ := QQ; have BL1' := BL1.trans (KS.low w.heap.size (fun g q => (HQ4.out.b.lt g q).1) BL1.size); have X1' := X1.keptS KS (fun q => HOB1.out q); clear QQ Xl KS) | fail)
    go_upto_region 6 with (first | (at_builtin; refine Lib.wpList_append_run _ rfl _ _ _ _ rfl _ _ rfl rfl _ _ (hr2 _) ?_; clear hr2 BL LZ BL2 N2; replace X1 := X1'; clear X1'; replace c1 := X1.cell; have BL := BL2'; clear BL2'; have LZ := BL.size) | ((with_reducible refine lit_newX 89 1 _ [.slice hd.1 hd.2.1 hd.2.2] 24 (fun _ => by kernel_rfl) ?_); intro bl2 L2 N2; replace X1 := X1.below N2.below; replace c1 := X1.cell; have Xl := N2.bx; have BL2 := BL.trans (N2.below.mono BL.size); replace HQ5 : Hid _ := HQ5.out.below N2.below; obtain ⟨v2', w2', hr2, QQ, KS⟩ := HQ5.out.three (hd) Xl (by omega) BL2.size; have HQ6 : Hid _ := QQ; have BL2' := BL2.trans (KS.low w.heap.size (fun g q => (HQ5.out.c.lt g q).1) BL2.size); have X1' := X1.keptS KS (fun q => HOB2.out q); clear QQ Xl KS) | fail)
    have e3 : telL r (k + 1) = telL r k ++ [(k : Int)] := by rw [HO.out, if_pos ((HTB.out k).2 (Or.inr H1.out))]
    have e4 : lstL r (k + 1) = lstL r k ++ [la] := by unfold lstL; rw [e3, List.map_append]; simp only [List.map_cons, List.map_nil, Int.toNat_natCast]; rw [show toldD r k = _ from if_neg HQ.out, H2.out]
    have e5 : hcL r h (k + 1) = hcL r h k ++ [hv hd] := by unfold hcL; rw [e3, List.map_append]; simp only [List.map_cons, List.map_nil, Int.toNat_natCast]; rw [show toldH r h k = _ from if_neg HQ.out, H4.out]
    have HQF : Hid (Rows3 w2' w.heap.size v0' v1' v2' (telL r (k + 1)).length (telL r (k + 1)).length (telL r (k + 1)).length (ints (telL r (k + 1))) (ints (lstL r (k + 1))) (hcL r h (k + 1))) := by
     show Rows3 _ _ _ _ _ _ _ _ _ _ _
     rw [e4, e5, e3, ints_snoc, ints_snoc, List.length_append]; exact HQ6.out
    have HBF : Hid _ := BL
    clear e3 e4 e5 HQ3 HQ4 HQ5 HQ6 HOB0 HOB1 HOB2 HQW X1 c1 f1 BL LZ
    go_wp2
    go_roundw
    case rel => exact ⟨k + 1, by omega, by go_num, HQF.out, HBF.out⟩
    case measure => simp [intOf]; omega
  ·obtain rfl : k = m := by omega
   have Q3 := HQ3.out
   obtain ⟨ia, ic, e1, RI, -⟩ := owns_slice Q3.a
   obtain ⟨la, lc, e2, RA, -⟩ := owns_slice Q3.b
   obtain ⟨ga, gc, e3, RB, -⟩ := owns_slice Q3.c
   subst e1
   subst e2
   subst e3
   have LG : LogsAt wr true w.heap.size wr.heap.size ga (telL r k).length gc _ (logL r k) := logs_of (x.below BL) HLK.out RB
   obtain ⟨tn, htn⟩ : ∃ tn, (telL r k).length = tn := ⟨_, rfl⟩
   obtain ⟨q0, hq0⟩ : ∃ q0, bestTo (lstL r k) (logL r k) (logL r k).length = q0 := ⟨_, rfl⟩
   rw [hq0] at hBR
   have hq1 : q0 < tn := by have := hBR.2; unfold logL at this; rw [List.length_map] at this; omega
   have hcv := HCV.out q0 hBR.1
   rw [htn] at RI RA LG hlen
   simp only [htn]
   have hlq : (q0 : Int) < (tn : Int) := by omega
   obtain ⟨b, off, rfl, _, _, _, e0, _⟩ := RI.int (k := q0) (by omega)
   have HRI : Hid _ := RI
   clear RI
   go_wp2_with fail
   refine (specBest_is la ga tn lc tn gc _ (lstL r k) (logL r k) _ RA LG (by omega) 0 q0 hBR.1).mono ?_
   rintro e w5 ⟨rfl, BB⟩
   replace e0 := cell_later BB e0
   rw [hcv] at e0
   have hfi : ∀ W, (Instr.field 32 (.agg #[.int .i64 0, .int .i64 (q0 : Int)]) 1).run Try.prog W = .ok (.int .i64 (q0 : Int)) W := fun W => by kernel_rfl
   have B9 : Below w.heap.size w w5 := BL.trans (BB.mono BL.size)
   clear RA RB LG Q3 BB BL
   go_wp2
   go_ret
   exact ⟨rfl, B9⟩
theorem isFirstOf_is (r : Rep) (h : RH) (s : Hd) (view : Int) (b0 : Nat) (w : World) (X0 : Bx w b0 [.int .i64 r.id, .int .i64 r.size, .int .i64 r.view, .bool r.normal, .int .i64 r.last, .slice h.L.1 h.L.2.1 h.L.2.2, .int .i64 r.commit, .slice h.O.1 h.O.2.1 h.O.2.2, .slice h.A.1 h.A.2.1 h.A.2.2, .slice h.D.1 h.D.2.1 h.D.2.2, .slice s.1 s.2.1 s.2.2]) (hs : 1 ≤ r.size ∧ r.size ≤ 5) (hv : 0 ≤ view ∧ view ≤ 300) :
  Calls Try.prog 22 #[.pointer (some ⟨b0, 0, none⟩), .int .i64 view] w fun e w' => e = .returned (.bool (view % r.size == r.id)) ∧ Below w.heap.size w w' := by
 have c0 := X0.cell
 have ob0 := X0.lt
 go_enter Try.func22, Try.ntmps22
 go_wp2_with fail
 have DQ : Below w.heap.size w w.drew := (Below.refl _ _).drew
 replace X0 := X0.below DQ
 replace c0 := X0.cell
 have B := DQ
 clear DQ
 refine wp_region_held_drew (S := (fun w' => ∀ k : Nat, w'.cell? ⟨b0, k, none⟩ = [.int .i64 r.id, .int .i64 r.size, .int .i64 r.view, .bool r.normal, .int .i64 r.last, .slice h.L.1 h.L.2.1 h.L.2.2, .int .i64 r.commit, .slice h.O.1 h.O.2.1 h.O.2.2, .slice h.A.1 h.A.2.1 h.A.2.2, .slice h.D.1 h.D.2.1 h.D.2.2, .slice s.1 s.2.1 s.2.2][k]?)) (by kernel_rfl) c0 (fun hZq => ?_)
 refine wpAnyH_take (i := 0) (v := ?_) rfl (by kernel_rfl) (by kernel_rfl) (by kernel_rfl) (fun _ _ _ h => h) (Or.inl ⟨by rfl, ?_⟩) hZq ?_
 rotate_left 1
 ·intro w hSw
  try dsimp only at hSw
  first | (go_simp; done) | (go_simp; with_reducible rfl)
 simp only [Act.put, List.setIfInBounds_toArray, List.set_cons_zero, List.set_cons_succ, List.getElem_toArray, List.getElem_cons_zero]
 refine wpAnyH_take (i := 1) (v := ?_) rfl (by kernel_rfl) (by kernel_rfl) (by kernel_rfl) (fun _ _ _ h => h) (Or.inl ⟨by rfl, ?_⟩) hZq ?_
 rotate_left 1
 ·intro w hSw
  try dsimp only at hSw
  first | (go_simp; done) | (go_simp; with_reducible rfl)
 simp only [Act.put, List.setIfInBounds_toArray, List.set_cons_zero, List.set_cons_succ, List.getElem_toArray, List.getElem_cons_zero, List.getElem_cons_succ]
 refine wpAnyH_take (i := 2) (v := ?_) rfl (by kernel_rfl) (by kernel_rfl) (by kernel_rfl) (fun _ _ _ h => h) (Or.inl ⟨by rfl, ?_⟩) hZq ?_
 rotate_left 1
 ·intro w hSw
  try dsimp only at hSw
  first | (go_simp; done) | (go_simp; with_reducible rfl)
 simp only [Act.put, List.setIfInBounds_toArray, List.set_cons_zero, List.set_cons_succ, List.getElem_toArray, List.getElem_cons_zero, List.getElem_cons_succ]
 refine wpAnyH_take (i := 3) (v := ?_) rfl (by kernel_rfl) (by kernel_rfl) (by kernel_rfl) (fun _ _ _ h => h) (Or.inl ⟨by rfl, ?_⟩) hZq ?_
 rotate_left 1
 ·intro w hSw
  try dsimp only at hSw
  first | (go_simp; done) | (go_simp; with_reducible rfl)
 simp only [Act.put, List.setIfInBounds_toArray, List.set_cons_zero, List.set_cons_succ, List.getElem_toArray, List.getElem_cons_zero, List.getElem_cons_succ]
 refine wpAnyH_take (i := 4) (v := ?_) rfl (by kernel_rfl) (by kernel_rfl) (by kernel_rfl) (fun _ _ _ h => h) (Or.inl ⟨by rfl, ?_⟩) hZq ?_
 rotate_left 1
 ·intro w hSw
  try dsimp only at hSw
  first | (go_simp; done) | (go_simp; with_reducible rfl)
 simp only [Act.put, List.setIfInBounds_toArray, List.set_cons_zero, List.set_cons_succ, List.getElem_toArray, List.getElem_cons_zero, List.getElem_cons_succ]
 refine wpAnyH_take (i := 5) (v := ?_) rfl (by kernel_rfl) (by kernel_rfl) (by kernel_rfl) (fun _ _ _ h => h) (Or.inl ⟨by rfl, ?_⟩) hZq ?_
 rotate_left 1
 ·intro w hSw
  try dsimp only at hSw
  first | (go_simp; done) | (go_simp; with_reducible rfl)
 simp only [Act.put, List.setIfInBounds_toArray, List.set_cons_zero, List.set_cons_succ, List.getElem_toArray, List.getElem_cons_zero, List.getElem_cons_succ]
 refine wpAnyH_take (i := 7) (v := ?_) rfl (by kernel_rfl) (by kernel_rfl) (by kernel_rfl) (fun _ _ _ h => h) (Or.inl ⟨by rfl, ?_⟩) hZq ?_
 rotate_left 1
 ·intro w hSw
  try dsimp only at hSw
  first | (go_simp; done) | (go_simp; with_reducible rfl)
 simp only [Act.put, List.setIfInBounds_toArray, List.set_cons_zero, List.set_cons_succ, List.getElem_toArray, List.getElem_cons_zero, List.getElem_cons_succ]
 refine wpAnyH_take (i := 8) (v := ?_) rfl (by kernel_rfl) (by kernel_rfl) (by kernel_rfl) (fun _ _ _ h => h) (Or.inl ⟨by rfl, ?_⟩) hZq ?_
 rotate_left 1
 ·intro w hSw
  try dsimp only at hSw
  first | (go_simp; done) | (go_simp; with_reducible rfl)
 simp only [Act.put, List.setIfInBounds_toArray, List.set_cons_zero, List.set_cons_succ, List.getElem_toArray, List.getElem_cons_zero, List.getElem_cons_succ]
 refine wpAnyH_take (i := 9) (v := ?_) rfl (by kernel_rfl) (by kernel_rfl) (by kernel_rfl) (fun _ _ _ h => h) (Or.inl ⟨by rfl, ?_⟩) hZq ?_
 rotate_left 1
 ·intro w hSw
  try dsimp only at hSw
  first | (go_simp; done) | (go_simp; with_reducible rfl)
 simp only [Act.put, List.setIfInBounds_toArray, List.set_cons_zero, List.set_cons_succ, List.getElem_toArray, List.getElem_cons_zero, List.getElem_cons_succ]
 refine wpAnyH_take (i := 10) (v := ?_) rfl (by kernel_rfl) (by kernel_rfl) (by kernel_rfl) (fun _ _ _ h => h) (Or.inl ⟨by rfl, ?_⟩) hZq ?_
 rotate_left 1
 ·intro w hSw
  try dsimp only at hSw
  first | (go_simp; done) | (go_simp; with_reducible rfl)
 simp only [Act.put, List.setIfInBounds_toArray, List.set_cons_zero, List.set_cons_succ, List.getElem_toArray, List.getElem_cons_zero, List.getElem_cons_succ]
 refine wpAnyH_take (i := 11) (v := ?_) rfl (by kernel_rfl) (by kernel_rfl) (by kernel_rfl) (fun _ _ _ h => h) (Or.inl ⟨by rfl, ?_⟩) hZq ?_
 rotate_left 1
 ·intro w hSw
  try dsimp only at hSw
  first | (go_simp; done) | (go_simp; with_reducible rfl)
 simp only [Act.put, List.setIfInBounds_toArray, List.set_cons_zero, List.set_cons_succ, List.getElem_toArray, List.getElem_cons_zero, List.getElem_cons_succ]
 refine wpAnyH_ready (rs := [6]) (by kernel_rfl) (by simp) ?_
 refine AllReadyH.cons rfl (fun KK hKK => ?_) AllReadyH.nil
 go_simp
 go_at_call 57
 refine (firstOf_is view r.size hs hv _).mono ?_
 rintro e W9 ⟨rfl, rfl⟩
 clear hZq
 refine hKK _ _ c0 (fun hZq => ?_)
 clear hKK KK
 refine wpAnyH_take (i := 12) (v := ?_) rfl (by kernel_rfl) (by kernel_rfl) (by kernel_rfl) (fun _ _ _ h => h) (Or.inl ⟨by rfl, ?_⟩) hZq ?_
 rotate_left 1
 ·intro w hSw
  try dsimp only at hSw
  first | (go_simp; done) | (go_simp; with_reducible rfl)
 simp only [Act.put, List.setIfInBounds_toArray, List.set_cons_zero, List.set_cons_succ, List.getElem_toArray, List.getElem_cons_zero, List.getElem_cons_succ]
 refine wpAnyH_take (i := 13) (v := ?_) rfl (by kernel_rfl) (by kernel_rfl) (by kernel_rfl) (fun _ _ _ h => h) (Or.inl ⟨by rfl, ?_⟩) hZq ?_
 rotate_left 1
 ·intro w hSw
  try dsimp only at hSw
  first | (go_simp; done) | (go_simp; with_reducible rfl)
 simp only [Act.put, List.setIfInBounds_toArray, List.set_cons_zero, List.set_cons_succ, List.getElem_toArray, List.getElem_cons_zero, List.getElem_cons_succ]
 refine wpAnyH_done (by kernel_rfl) ?_ _
 go_wp2
 go_ret
 exact ⟨rfl, B⟩
def chC (r : Rep) : Int := if repF r = 0 then (if r.normal = true then 10 else if (r.view % r.size == r.id) = true then 0 else 10) else repF r
def chV (r : Rep) : Int := if chC r = 0 then choV r else 0
theorem implCh_is {own : Bool} {lo hi : Nat} (r : Rep) (h : RH) (w : World) (x : RepAt w own lo hi h r) (hz : RSz h 1048576) (c v : Int) (hc : chC r = c) (hv : chV r = v) : Calls Try.prog 7 #[.agg #[.int .i64 r.id, .int .i64 r.size, .int .i64 r.view, .bool r.normal, .int .i64 r.last, .slice h.L.1 h.L.2.1 h.L.2.2, .int .i64 r.commit, .slice h.O.1 h.O.2.1 h.O.2.2, .slice h.A.1 h.A.2.1 h.A.2.2, .slice h.D.1 h.D.2.1 h.D.2.2]] w fun e w' => e = .returned (.agg #[.int .i64 c, .int .i64 v]) ∧ Below w.heap.size w w' := by
 unfold chV at hv
 rw [hc] at hv
 unfold chC at hc
 obtain ⟨cr, hcr⟩ : ∃ cr, repF r = cr := ⟨_, rfl⟩
 rw [hcr] at hc
 have HC : Hid _ := hcr
 clear hcr
 go_enter Try.func7, Try.ntmps7
 go_wp2_with (first | ((have g := ob0); clear g; (with_reducible refine alloc_newX 32 [.int .i64 0, .int .i64 0] (fun _ => by kernel_rfl) ?_); intro b1 W1 N1; have ob1 := Nat.le_trans B.size N1.ge; have o0_b1 : b0 < b1 := Nat.lt_of_lt_of_le X0.lt N1.ge; replace X0 := X0.below N1.below; replace c0 := X0.cell; replace B := below_next B N1.below; have X1 := N1.bx; have c1 := X1.cell; have f1 := X1.froz; clear N1) | ((with_reducible refine box_newX 29 [.int .i64 r.id, .int .i64 r.size, .int .i64 r.view, .bool r.normal, .int .i64 r.last, .slice h.L.1 h.L.2.1 h.L.2.2, .int .i64 r.commit, .slice h.O.1 h.O.2.1 h.O.2.2, .slice h.A.1 h.A.2.1 h.A.2.2, .slice h.D.1 h.D.2.1 h.D.2.2] rfl ?_); intro b0 W0 N0; have ob0 := N0.ge; have B := N0.below; have X0 := N0.bx; have c0 := X0.cell; clear N0) | fail)
 refine (implRF_is r h _ (x.below B) (hz.mono (by omega)) cr HC.out).mono ?_
 rintro e w1 ⟨rfl, BB⟩
 replace X0 := X0.below BB
 replace c0 := X0.cell
 replace X1 := X1.below BB
 replace c1 := X1.cell
 replace f1 := X1.froz
 replace B := below_next B BB
 clear BB
 by_cases h0 : cr = 0
 rotate_left 1
 ·rw [if_neg h0] at hc
  subst hc
  rw [if_neg h0] at hv
  subst hv
  have h0' : (cr != 0) = true := by simp [h0]
  go_wp2_with (first | ((with_reducible refine store_midX 32 X1 0 [.int .i64 cr, .int .i64 0] (by simp) (by kernel_rfl) (by simp [Value.oneCell']) rfl rfl ?_); intro V1 S; replace X0 := X0.kept S.kept (by omega); replace c0 := X0.cell; replace X1 : Bx V1 b1 [.int .i64 cr, .int .i64 0] := S.bx; replace c1 := X1.cell; replace f1 := X1.froz; replace B := B.trans (S.kept.below _ (by omega) B.size); clear S))
  refine bodyPost_ret (v := .agg #[.int .i64 cr, .int .i64 0]) (by simp [results, Try.results7, go_sem, *]) rfl ⟨rfl, B⟩
 subst h0
 rw [if_pos rfl] at hc
 obtain ⟨N, -, -, SP, -⟩ := rep_ok HC.out
 have N1 := N.1
 have N2 := N.2.1
 have N3 : 0 ≤ r.view ∧ r.view ≤ 300 := by have := N.2.2.1; omega
 have hdl := x.doers.len
 have SD := SP.2.2
 have HL : Hid (r.normal = false → (r.doers.length : Int) = r.size) := fun q => by rw [q, if_neg (by decide)] at SD; exact SD
 clear N SP SD
 go_wp2_with fail
 have lb := X1.lt
 refine (nodeOf_z r h _ (x.below B) hz).mono ?_
 rintro e w2 ⟨bq, z, u, h', rfl, Gz, uq, Gq, XQ, R, HZ, BB⟩
 have o1_q : b1 < bq := Nat.lt_of_lt_of_le lb Gq
 clear Gz Gq
 replace X0 := X0.below BB
 replace c0 := X0.cell
 replace X1 := X1.below BB
 replace c1 := X1.cell
 replace f1 := X1.froz
 replace B := below_next B BB
 clear BB
 have HNR : Hid _ := R
 have HXQ : Hid _ := XQ
 have HHZ : Hid _ := HZ
 obtain ⟨nm, hnm⟩ : ∃ nm, r.normal = nm := ⟨_, rfl⟩
 have HN : Hid _ := hnm
 rw [hnm] at hc
 have HX0 : Hid _ := X0
 rw [hnm] at X0 c0
 clear hnm
 cases nm
 rotate_left 1
 ·clear XQ R HZ
  rw [if_pos rfl] at hc
  subst hc
  rw [if_neg (by decide)] at hv
  subst hv
  go_wp2_with (first | ((with_reducible refine store_midX 32 X1 0 [.int .i64 10, .int .i64 0] (by simp) (by kernel_rfl) (by simp [Value.oneCell']) rfl rfl ?_); intro V1 S; replace X0 := X0.kept S.kept (by omega); replace c0 := X0.cell; replace X1 : Bx V1 b1 [.int .i64 10, .int .i64 0] := S.bx; replace c1 := X1.cell; replace f1 := X1.froz; replace B := B.trans (S.kept.below _ (by omega) B.size); clear S))
  refine bodyPost_ret (v := .agg #[.int .i64 10, .int .i64 0]) (by simp [results, Try.results7, go_sem, *]) rfl ⟨rfl, B⟩
 rw [if_neg (by decide)] at hc
 obtain ⟨l, hl⟩ : ∃ l, (r.view % r.size == r.id) = l := ⟨_, rfl⟩
 have HLl : Hid _ := hl
 rw [hl] at hc
 clear hl
 go_wp2_with fail
 refine (isFirstOf_is r h' (none, 0, 0) r.view bq _ XQ N1 N3).mono ?_
 rintro e w3 ⟨rfl, BB⟩
 rw [HLl.out]
 replace XQ := XQ.below BB
 replace R := R.below BB
 replace X0 := X0.below BB
 replace c0 := X0.cell
 replace X1 := X1.below BB
 replace c1 := X1.cell
 replace f1 := X1.froz
 replace B := below_next B BB
 clear BB
 cases l
 ·clear XQ R HZ
  rw [if_neg (by decide)] at hc
  subst hc
  rw [if_neg (by decide)] at hv
  subst hv
  go_wp2_with (first | ((with_reducible refine store_midX 32 X1 0 [.int .i64 10, .int .i64 0] (by simp) (by kernel_rfl) (by simp [Value.oneCell']) rfl rfl ?_); intro V1 S; replace X0 := X0.kept S.kept (by omega); replace c0 := X0.cell; replace X1 : Bx V1 b1 [.int .i64 10, .int .i64 0] := S.bx; replace c1 := X1.cell; replace f1 := X1.froz; replace B := B.trans (S.kept.below _ (by omega) B.size); clear S))
  refine bodyPost_ret (v := .agg #[.int .i64 10, .int .i64 0]) (by simp [results, Try.results7, go_sem, *]) rfl ⟨rfl, B⟩
 ·rw [if_pos rfl] at hc
  subst hc
  rw [if_pos rfl] at hv
  subst hv
  go_wp2_with fail
  refine (chosen_is r h' (none, 0, 0) bq _ XQ R N1 N2 (fun q => by rw [← R.doers.len]; exact HL.out q)).mono ?_
  rintro e w4 ⟨rfl, BB⟩
  replace X0 := X0.below BB
  replace c0 := X0.cell
  replace X1 := X1.below BB
  replace c1 := X1.cell
  replace f1 := X1.froz
  replace B := below_next B BB
  clear BB
  go_wp2_with (first | ((with_reducible refine store_midX 32 X1 0 [.int .i64 0, .int .i64 (choV r)] (by simp) (by kernel_rfl) (by simp [Value.oneCell']) rfl rfl ?_); intro V1 S; replace X0 := X0.kept S.kept (by omega); replace c0 := X0.cell; replace X1 : Bx V1 b1 [.int .i64 0, .int .i64 (choV r)] := S.bx; replace c1 := X1.cell; replace f1 := X1.froz; replace B := B.trans (S.kept.below _ (by omega) B.size); clear S))
  refine bodyPost_ret (v := .agg #[.int .i64 0, .int .i64 (choV r)]) (by simp [results, Try.results7, go_sem, *]) rfl ⟨rfl, B⟩
theorem specCh_is {own : Bool} {lo hi : Nat} (r : Rep) (h : RH) (w : World) (x : RepAt w own lo hi h r) (hz : RSz h 1048576) (c v : Int) (hc : chC r = c) (hv : chV r = v) : Calls Try.prog 10 #[.agg #[.int .i64 r.id, .int .i64 r.size, .int .i64 r.view, .bool r.normal, .int .i64 r.last, .slice h.L.1 h.L.2.1 h.L.2.2, .int .i64 r.commit, .slice h.O.1 h.O.2.1 h.O.2.2, .slice h.A.1 h.A.2.1 h.A.2.2, .slice h.D.1 h.D.2.1 h.D.2.2]] w fun e w' => e = .returned (.agg #[.int .i64 c, .int .i64 v]) ∧ Below w.heap.size w w' := by
 unfold chV at hv
 rw [hc] at hv
 unfold chC at hc
 obtain ⟨cr, hcr⟩ : ∃ cr, repF r = cr := ⟨_, rfl⟩
 rw [hcr] at hc
 have HC : Hid _ := hcr
 clear hcr
 go_enter Try.func10, Try.ntmps10
 go_wp2_with (first | ((have g := ob0); clear g; (with_reducible refine alloc_newX 32 [.int .i64 0, .int .i64 0] (fun _ => by kernel_rfl) ?_); intro b1 W1 N1; have ob1 := Nat.le_trans B.size N1.ge; have o0_b1 : b0 < b1 := Nat.lt_of_lt_of_le X0.lt N1.ge; replace X0 := X0.below N1.below; replace c0 := X0.cell; replace B := below_next B N1.below; have X1 := N1.bx; have c1 := X1.cell; have f1 := X1.froz; clear N1) | ((with_reducible refine box_newX 29 [.int .i64 r.id, .int .i64 r.size, .int .i64 r.view, .bool r.normal, .int .i64 r.last, .slice h.L.1 h.L.2.1 h.L.2.2, .int .i64 r.commit, .slice h.O.1 h.O.2.1 h.O.2.2, .slice h.A.1 h.A.2.1 h.A.2.2, .slice h.D.1 h.D.2.1 h.D.2.2] rfl ?_); intro b0 W0 N0; have ob0 := N0.ge; have B := N0.below; have X0 := N0.bx; have c0 := X0.cell; clear N0) | fail)
 refine (l9Fault_is b0 r h _ X0 (x.below B) (hz.mono (by omega)) cr HC.out).mono ?_
 rintro e w1 ⟨rfl, BB⟩
 replace X0 := X0.below BB
 replace c0 := X0.cell
 replace X1 := X1.below BB
 replace c1 := X1.cell
 replace f1 := X1.froz
 replace B := below_next B BB
 clear BB
 by_cases h0 : cr = 0
 rotate_left 1
 ·rw [if_neg h0] at hc
  subst hc
  rw [if_neg h0] at hv
  subst hv
  have h0' : (cr != 0) = true := by simp [h0]
  go_wp2_with (first | ((with_reducible refine store_midX 32 X1 0 [.int .i64 cr, .int .i64 0] (by simp) (by kernel_rfl) (by simp [Value.oneCell']) rfl rfl ?_); intro V1 S; replace X0 := X0.kept S.kept (by omega); replace c0 := X0.cell; replace X1 : Bx V1 b1 [.int .i64 cr, .int .i64 0] := S.bx; replace c1 := X1.cell; replace f1 := X1.froz; replace B := B.trans (S.kept.below _ (by omega) B.size); clear S))
  refine bodyPost_ret (v := .agg #[.int .i64 cr, .int .i64 0]) (by simp [results, Try.results10, go_sem, *]) rfl ⟨rfl, B⟩
 subst h0
 rw [if_pos rfl] at hc
 obtain ⟨N, -, -, SP, -⟩ := rep_ok HC.out
 have N1 := N.1
 have N2 := N.2.1
 have N3 : 0 ≤ r.view ∧ r.view ≤ 300 := by have := N.2.2.1; omega
 have hdl := x.doers.len
 have SD := SP.2.2
 have HL : Hid (r.normal = false → (r.doers.length : Int) = r.size) := fun q => by rw [q, if_neg (by decide)] at SD; exact SD
 clear N SP SD
 obtain ⟨nm, hnm⟩ : ∃ nm, r.normal = nm := ⟨_, rfl⟩
 have HN : Hid _ := hnm
 rw [hnm] at hc
 have HX0 : Hid _ := X0
 rw [hnm] at X0 c0
 clear hnm
 cases nm
 rotate_left 1
 ·rw [if_pos rfl] at hc
  subst hc
  rw [if_neg (by decide)] at hv
  subst hv
  go_wp2_with (first | ((with_reducible refine store_midX 32 X1 0 [.int .i64 10, .int .i64 0] (by simp) (by kernel_rfl) (by simp [Value.oneCell']) rfl rfl ?_); intro V1 S; replace X0 := X0.kept S.kept (by omega); replace c0 := X0.cell; replace X1 : Bx V1 b1 [.int .i64 10, .int .i64 0] := S.bx; replace c1 := X1.cell; replace f1 := X1.froz; replace B := B.trans (S.kept.below _ (by omega) B.size); clear S))
  refine bodyPost_ret (v := .agg #[.int .i64 10, .int .i64 0]) (by simp [results, Try.results10, go_sem, *]) rfl ⟨rfl, B⟩
 rw [if_neg (by decide)] at hc
 obtain ⟨l, hl⟩ : ∃ l, (r.view % r.size == r.id) = l := ⟨_, rfl⟩
 have HLl : Hid _ := hl
 rw [hl] at hc
 clear hl
 go_wp2_with fail
 refine (l9Primary_is b0 r.id r.size r.view false r.last h.L r.commit h.O h.A h.D N1 N3 _ X0).mono ?_
 rintro e w2 ⟨rfl, BB⟩
 rw [HLl.out]
 replace X0 := X0.below BB
 replace c0 := X0.cell
 replace X1 := X1.below BB
 replace c1 := X1.cell
 replace f1 := X1.froz
 replace B := below_next B BB
 clear BB
 cases l
 ·rw [if_neg (by decide)] at hc
  subst hc
  rw [if_neg (by decide)] at hv
  subst hv
  go_wp2_with (first | ((with_reducible refine store_midX 32 X1 0 [.int .i64 10, .int .i64 0] (by simp) (by kernel_rfl) (by simp [Value.oneCell']) rfl rfl ?_); intro V1 S; replace X0 := X0.kept S.kept (by omega); replace c0 := X0.cell; replace X1 : Bx V1 b1 [.int .i64 10, .int .i64 0] := S.bx; replace c1 := X1.cell; replace f1 := X1.froz; replace B := B.trans (S.kept.below _ (by omega) B.size); clear S))
  refine bodyPost_ret (v := .agg #[.int .i64 10, .int .i64 0]) (by simp [results, Try.results10, go_sem, *]) rfl ⟨rfl, B⟩
 ·rw [if_pos rfl] at hc
  subst hc
  rw [if_pos rfl] at hv
  subst hv
  go_wp2_with fail
  refine (l10Chosen0_is r h b0 _ (by rw [HN.out]; exact X0) (x.below B) N1 N2 HN.out (by rw [← hdl]; exact HL.out HN.out)).mono ?_
  rintro e w4 ⟨rfl, BB⟩
  replace X0 := X0.below BB
  replace c0 := X0.cell
  replace X1 := X1.below BB
  replace c1 := X1.cell
  replace f1 := X1.froz
  replace B := below_next B BB
  clear BB
  go_wp2_with (first | ((with_reducible refine store_midX 32 X1 0 [.int .i64 0, .int .i64 (choV r)] (by simp) (by kernel_rfl) (by simp [Value.oneCell']) rfl rfl ?_); intro V1 S; replace X0 := X0.kept S.kept (by omega); replace c0 := X0.cell; replace X1 : Bx V1 b1 [.int .i64 0, .int .i64 (choV r)] := S.bx; replace c1 := X1.cell; replace f1 := X1.froz; replace B := B.trans (S.kept.below _ (by omega) B.size); clear S))
  refine bodyPost_ret (v := .agg #[.int .i64 0, .int .i64 (choV r)]) (by simp [results, Try.results10, go_sem, *]) rfl ⟨rfl, B⟩
end Go.Proofs.Ytjefmhjlaibbkaa
