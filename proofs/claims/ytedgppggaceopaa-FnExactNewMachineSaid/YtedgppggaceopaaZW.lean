/- Chapter 4: a forest that the model's call makes and changes: where it lies. -/
import Derived.Test.YtedgppggaceopaaZU
import Derived.Test.YtedgppggaceopaaZM
import Derived.Deep.AppendLies
import Derived.Lib.AppendZeros
import Derived.Test.YtedgppggaceopaaZT
import Derived.BigQuiet
import Derived.Deep.RegionLaw
namespace Go.Proofs.Ytedgppggaceopaa
open Go.RowKit

structure OutAt (w : World) (lo P : Nat) (vn : Value) (ab : Option Addr) (nb cb : Nat) (K : Nat → KS) (f : Fo) : Prop where
  c0 : w.cell? ⟨P, 0, none⟩ = some vn
  c1 : w.cell? ⟨P, 1, none⟩ = some (.slice ab nb cb)
  z0 : w.frozen? ⟨P, 0, none⟩ = false
  z1 : w.frozen? ⟨P, 1, none⟩ = false
  hP : lo ≤ P ∧ P < w.heap.size
  own : w.ownsRow lo 109 3 vn f.1.length (ncells K f.1)
  blk : RowAt w true lo w.heap.size 2 ab nb cb (pairs f.2)
  kid : ∀ i, i < f.1.length → RowAt w true lo w.heap.size 1 (K i).1 (K i).2.1 (K i).2.2 (ints (f.1.getD i nd0).2.2)
  bf : nb ≠ 0 → ∃ g, ab = some ⟨g, 0, none⟩
  sV : vn.ownBlock ≠ some P
  sB : nb ≠ 0 → sb ab ≠ P ∧ vn.ownBlock ≠ some (sb ab)
  sK : ∀ i, i < f.1.length → (K i).2.1 ≠ 0 → sb (K i).1 ≠ P ∧ vn.ownBlock ≠ some (sb (K i).1) ∧ (nb ≠ 0 → sb (K i).1 ≠ sb ab)
section
variable {w w' : World} {lo P : Nat} {vn : Value} {ab : Option Addr} {nb cb : Nat} {K : Nat → KS} {f : Fo}
theorem OutAt.below (h : OutAt w lo P vn ab nb cb K f) (hb : Below w.heap.size w w') : OutAt w' lo P vn ab nb cb K f :=
  ⟨cell_later hb h.c0, cell_later hb h.c1, frozen_later hb h.hP.2 h.z0, frozen_later hb h.hP.2 h.z1, ⟨h.hP.1, Nat.lt_of_lt_of_le h.hP.2 hb.size⟩, owns_below h.own hb, (h.blk.below hb).widen (Nat.le_refl _) hb.size, fun i hi => ((h.kid i hi).below hb).widen (Nat.le_refl _) hb.size, h.bf, h.sV, h.sB, h.sK⟩
theorem flat3_one1 {n : Nat} {g0 g1 g2 : Nat → Value} {i : Nat} (a : Value) : (flat3 n g0 g1 g2).set (i * 3 + 1) a = flat3 n g0 (fun j => if j = i then a else g1 j) g2 := by
  apply List.ext_getElem (by simp [flat3])
  intro j h1 h2
  simp only [List.getElem_set, flat3, List.getElem_map, List.getElem_range]
  by_cases e : i * 3 + 1 = j
  · subst e; rw [if_pos rfl, if_neg (by omega), if_pos (by omega), if_pos (by omega)]
  · rw [if_neg e]
    by_cases m0 : j % 3 = 0
    · rw [if_pos m0, if_pos m0]
    · rw [if_neg m0, if_neg m0]
      by_cases m1 : j % 3 = 1
      · rw [if_pos m1, if_pos m1, if_neg (by omega)]
      · rw [if_neg m1, if_neg m1]
theorem flat3_one2 {n : Nat} {g0 g1 g2 : Nat → Value} {i : Nat} (a : Value) : (flat3 n g0 g1 g2).set (i * 3 + 2) a = flat3 n g0 g1 (fun j => if j = i then a else g2 j) := by
  apply List.ext_getElem (by simp [flat3])
  intro j h1 h2
  simp only [List.getElem_set, flat3, List.getElem_map, List.getElem_range]
  by_cases e : i * 3 + 2 = j
  · subst e; rw [if_pos rfl, if_neg (by omega), if_neg (by omega), if_pos (by omega)]
  · rw [if_neg e]
    by_cases m0 : j % 3 = 0
    · rw [if_pos m0, if_pos m0]
    · rw [if_neg m0, if_neg m0]
      by_cases m1 : j % 3 = 1
      · rw [if_pos m1, if_pos m1]
      · rw [if_neg m1, if_neg m1, if_neg (by omega)]
/-- one cell of the nodes is written -/
theorem OutAt.setN {g n cap : Nat} (h : OutAt w lo P (.slice (some ⟨g, 0, none⟩) n cap) ab nb cb K f) (hnn : n = f.1.length) {j : Nat} {v : Value} {K' : Nat → KS} {ns : List Nd} (hln : ns.length = f.1.length) (hset : (ncells K f.1).set j v = ncells K' ns)
    (hk : ∀ i, i < f.1.length → RowAt w true lo w.heap.size 1 (K' i).1 (K' i).2.1 (K' i).2.2 (ints (ns.getD i nd0).2.2)) (hs : ∀ i, i < f.1.length → (K' i).2.1 ≠ 0 → sb (K' i).1 ≠ P ∧ g ≠ sb (K' i).1 ∧ (nb ≠ 0 → sb (K' i).1 ≠ sb ab)) :
    OutAt (w.setCell ⟨g, j, none⟩ v) lo P (.slice (some ⟨g, 0, none⟩) n cap) ab nb cb K' (ns, f.2) := by
  have hgP : g ≠ P := fun e => h.sV (by simp [Value.ownBlock, e])
  have hgB : nb ≠ 0 → g ≠ sb ab := fun hne e => (h.sB hne).2 (by simp [Value.ownBlock, e])
  have SP : KeptS (fun x => x = g) w (w.setCell ⟨g, j, none⟩ v) := by
    refine KeptS.setCell (KeptS.refl _ _) ?_ _; rfl
  have hsz : (w.setCell ⟨g, j, none⟩ v).heap.size = w.heap.size := by simp
  refine ⟨SP.cell h.c0 h.hP.2 (Ne.symm hgP), SP.cell h.c1 h.hP.2 (Ne.symm hgP), SP.frozen h.z0 h.hP.2 (Ne.symm hgP), SP.frozen h.z1 h.hP.2 (Ne.symm hgP), ⟨h.hP.1, by rw [hsz]; exact h.hP.2⟩, ?_, ?_, fun i hi => ?_, h.bf, h.sV, h.sB, fun i hi hne => ?_⟩
  · subst hnn
    have := (h.own.stored j v).1
    rw [hset] at this
    show World.ownsRow _ lo 109 3 _ ns.length (ncells K' ns)
    rw [hln]; exact this
  · rw [hsz]; exact h.blk.keptS SP fun a hn e e2 => hgB hn (by rw [e]; exact e2.symm)
  · rw [hsz]
    have hi' : i < f.1.length := by rw [← hln]; exact hi
    exact (hk i hi').keptS SP fun a hn e e2 => (hs i hi' hn).2.1 (by rw [e]; exact e2.symm)
  · have hi' : i < f.1.length := by rw [← hln]; exact hi
    have := hs i hi' hne
    exact ⟨this.1, fun e => this.2.1 (by simpa [Value.ownBlock] using e), this.2.2⟩
theorem OutAt.sepK {g n cap : Nat} (h : OutAt w lo P (.slice (some ⟨g, 0, none⟩) n cap) ab nb cb K f) : ∀ i, i < f.1.length → (K i).2.1 ≠ 0 → sb (K i).1 ≠ P ∧ g ≠ sb (K i).1 ∧ (nb ≠ 0 → sb (K i).1 ≠ sb ab) := fun i hi hne => by
  obtain ⟨a, b, c⟩ := h.sK i hi hne
  exact ⟨a, fun e => b (by simp [Value.ownBlock, e]), c⟩
/-- whether a node is a leaf is written -/
theorem OutAt.leaf {g n cap : Nat} (h : OutAt w lo P (.slice (some ⟨g, 0, none⟩) n cap) ab nb cb K f) (hnn : n = f.1.length) {i : Nat} (hi : i < f.1.length) (b : Bool) :
    OutAt (w.setCell ⟨g, i * 3 + 1, none⟩ (.bool b)) lo P (.slice (some ⟨g, 0, none⟩) n cap) ab nb cb K (f.1.set i ((f.1.getD i nd0).1, b, (f.1.getD i nd0).2.2), f.2) := by
  refine h.setN hnn (by simp) ?_ (fun m hm => ?_) h.sepK
  · unfold ncells
    rw [flat3_one1, List.length_set]
    refine flat3_congr fun m _ => ?_
    rw [set_getN _ _ _ _ hi]
    by_cases e : m = i <;> simp [e]
  · rw [set_getN _ _ _ _ hi]
    have := h.kid m hm
    by_cases e : m = i
    · subst e; rw [if_pos rfl]; exact this
    · rw [if_neg e]; exact this
/-- a node's kids are written -/
theorem OutAt.kids {g n cap : Nat} (h : OutAt w lo P (.slice (some ⟨g, 0, none⟩) n cap) ab nb cb K f) (hnn : n = f.1.length) {i : Nat} (hi : i < f.1.length) (k : KS) (ks : List Int) (hr : RowAt w true lo w.heap.size 1 k.1 k.2.1 k.2.2 (ints ks)) (hs : k.2.1 ≠ 0 → sb k.1 ≠ P ∧ g ≠ sb k.1 ∧ (nb ≠ 0 → sb k.1 ≠ sb ab)) :
    OutAt (w.setCell ⟨g, i * 3 + 2, none⟩ (ksv k)) lo P (.slice (some ⟨g, 0, none⟩) n cap) ab nb cb (updK K i k) (f.1.set i ((f.1.getD i nd0).1, (f.1.getD i nd0).2.1, ks), f.2) := by
  refine h.setN hnn (by simp) ?_ (fun m hm => ?_) (fun m hm hne => ?_)
  · unfold ncells
    rw [flat3_one2, List.length_set]
    refine flat3_congr fun m _ => ?_
    rw [set_getN _ _ _ _ hi]
    by_cases e : m = i <;> simp [e, updK]
  · rw [set_getN _ _ _ _ hi]
    by_cases e : m = i
    · subst e; rw [if_pos rfl]; simp only [updK, if_pos]; exact hr
    · rw [if_neg e]; simp only [updK, if_neg e]; exact h.kid m hm
  · by_cases e : m = i
    · subst e; simp only [updK, if_pos] at hne ⊢; exact hs hne
    · simp only [updK, if_neg e] at hne ⊢; exact h.sepK m hm hne
/-- the blocks are written -/
theorem OutAt.blocks {g : Nat} {bs : List (Int × Int)} (h : OutAt w lo P vn (some ⟨g, 0, none⟩) nb cb K f) (hne : nb ≠ 0) (hk : Kept g (g + 1) w w') (hr : RowAt w' true g (g + 1) 2 (some ⟨g, 0, none⟩) nb cb (pairs bs)) : OutAt w' lo P vn (some ⟨g, 0, none⟩) nb cb K (f.1, bs) := by
  have hB := h.sB hne
  have hlt := h.blk.block_lt hne
  have S : KeptS (fun x => x = g) w w' := hk.toS fun x h1 h2 => by omega
  have hPg : ¬ P = g := fun e => hB.1 (by simp [sb, e])
  refine ⟨S.cell h.c0 h.hP.2 hPg, S.cell h.c1 h.hP.2 hPg, S.frozen h.z0 h.hP.2 hPg, S.frozen h.z1 h.hP.2 hPg, ⟨h.hP.1, Nat.lt_of_lt_of_le h.hP.2 hk.size⟩, owns_kept h.own hk fun x e => ?_, hr.unpin fun _ => ⟨hlt.1, Nat.lt_of_lt_of_le hlt.2.2 hk.size⟩, fun i hi => ((h.kid i hi).keptS S fun a hn e e2 => ?_).widen (Nat.le_refl _) hk.size, h.bf, h.sV, h.sB, h.sK⟩
  · have : x ≠ g := fun e2 => hB.2 (by rw [e, e2]; rfl)
    omega
  · have := (h.sK i hi hn).2.2 hne
    rw [e] at this
    exact this e2
/-- the cells of a node -/
theorem OutAt.node (h : OutAt w lo P vn ab nb cb K f) {i : Nat} (hi : i < f.1.length) : ∃ g cap, vn = .slice (some ⟨g, 0, none⟩) f.1.length cap ∧ g < w.heap.size ∧ w.cell? ⟨g, i * 3, none⟩ = some (.int .i64 (f.1.getD i nd0).1) ∧ w.cell? ⟨g, i * 3 + 1, none⟩ = some (.bool (f.1.getD i nd0).2.1) ∧ w.cell? ⟨g, i * 3 + 2, none⟩ = some (.slice (K i).1 (K i).2.1 (K i).2.2) ∧ w.frozen? ⟨g, i * 3, none⟩ = false ∧ w.frozen? ⟨g, i * 3 + 1, none⟩ = false ∧ w.frozen? ⟨g, i * 3 + 2, none⟩ = false := by
  obtain ⟨g, cap, rfl, _, hg, R⟩ := own_block h.own (by omega)
  obtain ⟨b, off, e, _, _, _, h4, h5⟩ := R.cells (by omega)
  cases e
  refine ⟨_, cap, rfl, hg, ?_, ?_, ?_, by simpa using h5 rfl (i * 3) (by omega), by simpa using h5 rfl (i * 3 + 1) (by omega), by simpa using h5 rfl (i * 3 + 2) (by omega)⟩
  · have := h4 (i * 3) (by omega)
    rw [Nat.zero_add, ncells, flat3_get0 _ _ _ _ _ hi] at this; exact this
  · have := h4 (i * 3 + 1) (by omega)
    rw [Nat.zero_add, ncells, flat3_get1 _ _ _ _ _ hi] at this; exact this
  · have := h4 (i * 3 + 2) (by omega)
    rw [Nat.zero_add, ncells, flat3_get2 _ _ _ _ _ hi] at this; exact this
end

end Go.Proofs.Ytedgppggaceopaa

/- Chapter 4: the model's copy of a forest. -/
namespace Go.Proofs.Ytedgppggaceopaa
open Go.RowKit

end Go.Proofs.Ytedgppggaceopaa

/- Chapter 4: the model's ShareTree. -/
namespace Go.Proofs.Ytedgppggaceopaa
open Go.RowKit

end Go.Proofs.Ytedgppggaceopaa

/- Chapter 4: one less refers to a node: what the model does. -/
namespace Go.Proofs.Ytedgppggaceopaa
open Go.RowKit

/-- the blocks that a change of nodes and blocks writes into -/
def inO (vn : Value) (ab : Option Addr) (nb : Nat) (x : Nat) : Prop := vn.ownBlock = some x ∨ (nb ≠ 0 ∧ x = sb ab)
theorem OutAt.bel {w w' : World} {lo P : Nat} {vn : Value} {ab : Option Addr} {nb cb : Nat} {K : Nat → KS} {f : Fo} (h : OutAt w lo P vn ab nb cb K f) (S : KeptS (inO vn ab nb) w w') : Below lo w w' :=
  ⟨S.os, S.tape, S.output, S.size, fun k hk => S.block k (by have := h.hP; omega) fun hx => by
    rcases hx with e | ⟨hne, e⟩
    · have := (h.own.lt k e).1; omega
    · have := (h.blk.block_lt hne).1; omega⟩
end Go.Proofs.Ytedgppggaceopaa

/- Chapter 4: one less refers to a root: what the model does. -/
namespace Go.Proofs.Ytedgppggaceopaa
open Go.RowKit

end Go.Proofs.Ytedgppggaceopaa

/- Chapter 4: the model's DropTree. -/
namespace Go.Proofs.Ytedgppggaceopaa
open Go.RowKit

end Go.Proofs.Ytedgppggaceopaa

/- Chapter 4: kids that are none, kids with another one: what the model answers. -/
namespace Go.Proofs.Ytedgppggaceopaa
open Go.RowKit

end Go.Proofs.Ytedgppggaceopaa

/- Chapter 4: a new node: what the model does. -/
namespace Go.Proofs.Ytedgppggaceopaa
open Go.RowKit

end Go.Proofs.Ytedgppggaceopaa
