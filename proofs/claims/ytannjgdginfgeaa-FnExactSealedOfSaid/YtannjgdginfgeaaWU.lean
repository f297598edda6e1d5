/- Chapter 10: whose log is taken, by the program. -/
import Derived.Test.YtannjgdginfgeaaWT
import Derived.Test.YtannjgdginfgeaaXH
import Derived.Test.YtannjgdginfgeaaWR
import Derived.Deep.DeepCutAuto
namespace Go.Proofs.Ytannjgdginfgeaa
open Go.RowKit

/-- rows that grow side by side, each in a block of its own -/
structure Rows3 (w : World) (base : Nat) (v1 v2 v3 : Value) (n1 n2 n3 : Nat) (c1 c2 c3 : List Value) : Prop where
  a : w.ownsRow base 2 1 v1 n1 c1
  b : w.ownsRow base 2 1 v2 n2 c2
  c : w.ownsRow base 31 1 v3 n3 c3
  ab : ∀ g, v1.ownBlock = some g → v2.ownBlock ≠ some g
  ac : ∀ g, v1.ownBlock = some g → v3.ownBlock ≠ some g
  bc : ∀ g, v2.ownBlock = some g → v3.ownBlock ≠ some g
theorem owns_keptS {w w' : World} {base : Nat} {T : TypeId} {sz n : Nat} {v : Value} {cs : List Value} {S : Nat → Prop} (h : w.ownsRow base T sz v n cs) (hk : KeptS S w w') (hd : ∀ g, v.ownBlock = some g → ¬ S g) : w'.ownsRow base T sz v n cs := by
  refine ⟨h.1, ?_⟩
  rcases h.2 with q | ⟨g, cap, cur, hv, hg, hh, rest⟩
  · exact .inl q
  · have hlt := (h.lt g (by rw [hv]; rfl)).2
    exact .inr ⟨g, cap, cur, hv, hg, by rw [hk.block g hlt (hd g (by rw [hv]; rfl))]; exact hh, rest⟩
theorem own_snoc {w : World} {base b1 : Nat} {T : TypeId} {v : Value} {n : Nat} {cs : List Value} (h : w.ownsRow base T 1 v n cs) (t : TypeId) (i0 : TypeInfo) (z : Value) (bytes : Nat) (ht : Try.prog.underlying t = some (.slice T)) (hi0 : Try.prog.info? T = some i0) (hz0 : i0.zero = some z) (hz1 : i0.size = 1) (hz2 : i0.bytes = bytes) (hzs : z.cells.size = 1) (hby : bytes ≤ 1000) (y : Value) (h1 : y.oneCell' = true) (X1 : Bx w b1 [y]) (hn : n ≤ 1000) (hbase : base ≤ w.heap.size) :
    ∃ v' w', (∀ ty, (Builtin.append_ #[t, t] ty #[v, .slice (some ⟨b1, 0, none⟩) 1 1]).run Try.prog w = .ok v' w') ∧ w'.ownsRow base T 1 v' (n + 1) (cs ++ [y]) ∧ KeptS (fun k => v.ownBlock = some k) w w' ∧ (v'.ownBlock = v.ownBlock ∨ v'.ownBlock = some w.heap.size) := by
  have hsrc : ∀ j u, [y][j]? = some u → w.cell? ((⟨b1, 0, none⟩ : Addr).add j) = some u := fun j u hj => by
    rw [Addr.add_lit, Nat.zero_add, X1.cell j]; exact hj
  have hby2 : (n + 1) * bytes ≤ 140737488355328 := Nat.le_trans (Nat.mul_le_mul (Nat.succ_le_succ hn) hby) (by decide)
  obtain ⟨v', w', hr, ho, hg, _, hat⟩ := run_append_own_at (P := Try.prog) w base t T T i0 z 1 bytes ht hi0 hz0 hz1 hz2 hzs (by decide) v n _ h ⟨b1, 0, none⟩ 1 1 [y] (by simp) hsrc (by simpa using h1) (by unfold maxLen; omega) hby2 hbase
  refine ⟨v', w', fun ty => ?_, ho, ⟨hg.os, hg.tape, hg.output, hg.size, fun k hk hs => hg.block k hk (fun e => hs e.symm)⟩, hat⟩
  have : ∀ ty, Builtin.append_ #[t, t] ty #[v, .slice (some ⟨b1, 0, none⟩) 1 1] = Builtin.append_ #[t, t] T #[v, .slice (some ⟨b1, 0, none⟩) 1 1] := fun _ => rfl
  rw [this]; exact hr
section
variable {w w' : World} {base b1 : Nat} {v1 v2 v3 : Value} {n1 n2 n3 : Nat} {c1 c2 c3 : List Value}
theorem Rows3.below (h : Rows3 w base v1 v2 v3 n1 n2 n3 c1 c2 c3) (B : Below w.heap.size w w') : Rows3 w' base v1 v2 v3 n1 n2 n3 c1 c2 c3 := ⟨owns_below h.a B, owns_below h.b B, owns_below h.c B, h.ab, h.ac, h.bc⟩
theorem Rows3.one (h : Rows3 w base v1 v2 v3 n1 n2 n3 c1 c2 c3) (y : Int) (X1 : Bx w b1 [.int .i64 y]) (hn : n1 ≤ 1000) (hbase : base ≤ w.heap.size) : ∃ v' w', (∀ ty, (Builtin.append_ #[60, 60] ty #[v1, .slice (some ⟨b1, 0, none⟩) 1 1]).run Try.prog w = .ok v' w') ∧ Rows3 w' base v' v2 v3 (n1 + 1) n2 n3 (c1 ++ [.int .i64 y]) c2 c3 ∧ KeptS (fun k => v1.ownBlock = some k) w w' := by
  obtain ⟨i2, hi2, ha2, hb2, hc2⟩ := info_parts Try.info2'
  obtain ⟨v', w', hr, ho, KS, hat⟩ := own_snoc h.a 60 i2 (.int .i64 0) 8 Try.underlying60 hi2 ha2 hb2 hc2 rfl (by omega) (.int .i64 y) rfl X1 hn hbase
  refine ⟨v', w', hr, ⟨ho, owns_keptS h.b KS fun g e q => h.ab g q e, owns_keptS h.c KS fun g e q => h.ac g q e, fun g e q => ?_, fun g e q => ?_, h.bc⟩, KS⟩
  · rcases hat with z | z
    · exact h.ab g (z ▸ e) q
    · have := (h.b.lt g q).2; rw [z] at e; injection e with e; omega
  · rcases hat with z | z
    · exact h.ac g (z ▸ e) q
    · have := (h.c.lt g q).2; rw [z] at e; injection e with e; omega
end
end Go.Proofs.Ytannjgdginfgeaa

