/- Chapter 4: a forest that the model's call makes and changes: where it lies. -/
import Derived.Test.YtkdaphfmhdkhfaaZU
import Derived.Test.YtkdaphfmhdkhfaaZM
import Derived.Deep.AppendLies
import Derived.Lib.AppendZeros
import Derived.Test.YtkdaphfmhdkhfaaT8
import Derived.Test.YtkdaphfmhdkhfaaZT
import Derived.BigQuiet
import Derived.Deep.RegionLaw
namespace Go.Proofs.Ytkdaphfmhdkhfaa
open Go.RowKit

structure OutAt (w : World) (lo P : Nat) (vn : Value) (ab : Option Addr) (nb cb : Nat) (K : Nat → KS) (f : Fo) : Prop where
  c0 : w.cell? ⟨P, 0, none⟩ = some vn
  c1 : w.cell? ⟨P, 1, none⟩ = some (.slice ab nb cb)
  z0 : w.frozen? ⟨P, 0, none⟩ = false
  z1 : w.frozen? ⟨P, 1, none⟩ = false
  hP : lo ≤ P ∧ P < w.heap.size
  own : w.ownsRow lo 181 3 vn f.1.length (ncells K f.1)
  blk : RowAt w true lo w.heap.size 2 ab nb cb (pairs f.2)
  kid : ∀ i, i < f.1.length → RowAt w true lo w.heap.size 1 (K i).1 (K i).2.1 (K i).2.2 (ints (f.1.getD i nd0).2.2)
  bf : nb ≠ 0 → ∃ g, ab = some ⟨g, 0, none⟩
  sV : vn.ownBlock ≠ some P
  sB : nb ≠ 0 → sb ab ≠ P ∧ vn.ownBlock ≠ some (sb ab)
  sK : ∀ i, i < f.1.length → (K i).2.1 ≠ 0 → sb (K i).1 ≠ P ∧ vn.ownBlock ≠ some (sb (K i).1) ∧ (nb ≠ 0 → sb (K i).1 ≠ sb ab)
section
variable {w w' : World} {lo P : Nat} {vn : Value} {ab : Option Addr} {nb cb : Nat} {K : Nat → KS} {f : Fo}
theorem OutAt.below (h : OutAt w lo P vn ab nb cb K f) (hb : Below w.heap.size w w') : OutAt w' lo P vn ab nb cb K f :=
  ⟨cell_later hb h.c0, cell_later hb h.c1, frozen_later hb h.hP.2 h.z0, frozen_later hb h.hP.2 h.z1, ⟨h.hP.1, Nat.lt_of_lt_of_le h.hP.2 hb.size⟩, owns_below h.own hb, (h.blk.below hb).widen (Nat.le_refl _) hb.size, fun i hi => ((h.kid i hi).below hb).widen (Nat.le_refl _) hb.size, h.bf, h.sV, h.sB, h.sK⟩
theorem grown_S {v : Value} (h : w.grownBy w' v.ownBlock) : KeptS (fun x => v.ownBlock = some x) w w' := ⟨h.os, h.tape, h.output, h.size, fun k hk hs => h.block k hk fun e => hs e.symm⟩
/-- a node is put behind all others -/
theorem OutAt.grow (h : OutAt w lo P vn ab nb cb K f) (hk : w.grownBy w' vn.ownBlock) {g cap : Nat} {nd : Nd} {k : KS} (ho : w'.ownsRow lo 181 3 (.slice (some ⟨g, 0, none⟩) (f.1.length + 1) cap) (f.1.length + 1) (ncells K f.1 ++ [.int .i64 nd.1, .bool nd.2.1, ksv k])) (hg : vn.ownBlock = some g ∨ g = w.heap.size)
    (hr : RowAt w true lo w.heap.size 1 k.1 k.2.1 k.2.2 (ints nd.2.2)) (hs : k.2.1 ≠ 0 → sb k.1 ≠ P ∧ vn.ownBlock ≠ some (sb k.1) ∧ (nb ≠ 0 → sb k.1 ≠ sb ab)) :
    OutAt (w'.setCell ⟨P, 0, none⟩ (.slice (some ⟨g, 0, none⟩) (f.1.length + 1) cap)) lo P (.slice (some ⟨g, 0, none⟩) (f.1.length + 1) cap) ab nb cb (updK K f.1.length k) (f.1 ++ [nd], f.2) := by
  have S := grown_S hk
  have hP := h.hP
  have hgP : g ≠ P := by
    rcases hg with e | e
    · intro e2; exact h.sV (by rw [e, e2])
    · omega
  have hgB : nb ≠ 0 → g ≠ sb ab := fun hne => by
    rcases hg with e | e
    · intro e2; exact (h.sB hne).2 (by rw [e, e2])
    · have := (h.blk.block_lt hne).2.2; omega
  have hgK : ∀ q : KS, ∀ xs, RowAt w true lo w.heap.size 1 q.1 q.2.1 q.2.2 xs → (q.2.1 ≠ 0 → vn.ownBlock ≠ some (sb q.1)) → q.2.1 ≠ 0 → g ≠ sb q.1 := fun q xs hq hq2 hne => by
    rcases hg with e | e
    · intro e2; exact hq2 hne (by rw [e, e2])
    · have := (hq.block_lt hne).2.2; omega
  have c0 := S.cell h.c0 hP.2 h.sV
  have c1 := S.cell h.c1 hP.2 h.sV
  have z0 := S.frozen h.z0 hP.2 h.sV
  have z1 := S.frozen h.z1 hP.2 h.sV
  have hPs : P < w'.heap.size := Nat.lt_of_lt_of_le hP.2 hk.size
  have SP : KeptS (fun x => x = P) w' (w'.setCell ⟨P, 0, none⟩ (.slice (some ⟨g, 0, none⟩) (f.1.length + 1) cap)) := by
    refine KeptS.setCell (KeptS.refl _ _) ?_ _; rfl
  have hsz : (w'.setCell ⟨P, 0, none⟩ (.slice (some ⟨g, 0, none⟩) (f.1.length + 1) cap)).heap.size = w'.heap.size := by simp
  have rowk : ∀ (q : KS) (xs : List Int), RowAt w true lo w.heap.size 1 q.1 q.2.1 q.2.2 (ints xs) → (q.2.1 ≠ 0 → sb q.1 ≠ P ∧ vn.ownBlock ≠ some (sb q.1)) → RowAt (w'.setCell ⟨P, 0, none⟩ (.slice (some ⟨g, 0, none⟩) (f.1.length + 1) cap)) true lo (w'.setCell ⟨P, 0, none⟩ (.slice (some ⟨g, 0, none⟩) (f.1.length + 1) cap)).heap.size 1 q.1 q.2.1 q.2.2 (ints xs) := fun q xs hq hx => by
    refine RowAt.widen ((hq.keptS S fun a hn e => ?_).keptS SP fun a hn e => ?_) (Nat.le_refl _) (by rw [hsz]; exact hk.size)
    · have := (hx hn).2; rw [e] at this; exact this
    · have := (hx hn).1; rw [e] at this; exact this
  refine ⟨World.cell?_setCell_same _ _ _ c0, ?_, ?_, ?_, ⟨hP.1, by rw [hsz]; exact hPs⟩, ?_, ?_, fun i hi => ?_, h.bf, ?_, fun hne => ⟨(h.sB hne).1, ?_⟩, fun i hi hne => ?_⟩
  · rw [World.cell?_setCell_other _ _ _ _ (by intro e; simp at e)]; exact c1
  · simpa using z0
  · simpa using z1
  · have hn1 : (f.1 ++ [nd]).length = f.1.length + 1 := by simp
    show World.ownsRow _ lo 181 3 _ (f.1 ++ [nd]).length (ncells (updK K f.1.length k) (f.1 ++ [nd]))
    rw [hn1, ncells_snoc]
    refine owns_kept ho (l := P) (u := P + 1) ?_ fun q e => ?_
    · exact Kept.setCell (Kept.refl _ _ _) (p := ⟨P, 0, none⟩) (Nat.le_refl _) (Nat.lt_succ_self _) _
    · simp [Value.ownBlock] at e; omega
  · refine RowAt.widen ((h.blk.keptS S fun a hn e => ?_).keptS SP fun a hn e => ?_) (Nat.le_refl _) (by rw [hsz]; exact hk.size)
    · have := (h.sB hn).2; rw [e] at this; exact this
    · have := (h.sB hn).1; rw [e] at this; exact this
  · have hi' : i < f.1.length + 1 := by simpa using hi
    by_cases e : i = f.1.length
    · subst e
      have e1 : (f.1 ++ [nd]).getD f.1.length nd0 = nd := by simp [List.getD]
      rw [e1]
      simp only [updK, if_pos]
      exact rowk k nd.2.2 hr fun hne => ⟨(hs hne).1, (hs hne).2.1⟩
    · have hlt : i < f.1.length := by omega
      have e1 : (f.1 ++ [nd]).getD i nd0 = f.1.getD i nd0 := by rw [List.getD_eq_getElem?_getD, List.getElem?_append_left hlt, ← List.getD_eq_getElem?_getD]
      rw [e1]
      simp only [updK, if_neg e]
      exact rowk (K i) _ (h.kid i hlt) fun hne => ⟨(h.sK i hlt hne).1, (h.sK i hlt hne).2.1⟩
  · simp [Value.ownBlock]; exact hgP
  · simp [Value.ownBlock]; exact hgB hne
  · have hi' : i < f.1.length + 1 := by simpa using hi
    by_cases e : i = f.1.length
    · subst e
      simp only [updK, if_pos] at hne ⊢
      refine ⟨(hs hne).1, ?_, (hs hne).2.2⟩
      simp [Value.ownBlock]; exact hgK k _ hr (fun hx => (hs hx).2.1) hne
    · have hlt : i < f.1.length := by omega
      simp only [updK, if_neg e] at hne ⊢
      refine ⟨(h.sK i hlt hne).1, ?_, (h.sK i hlt hne).2.2⟩
      simp [Value.ownBlock]; exact hgK (K i) _ (h.kid i hlt) (fun hx => (h.sK i hlt hx).2.1) hne
theorem flat3_one0 {n : Nat} {g0 g1 g2 : Nat → Value} {i : Nat} (a : Value) : (flat3 n g0 g1 g2).set (i * 3) a = flat3 n (fun j => if j = i then a else g0 j) g1 g2 := by
  apply List.ext_getElem (by simp [flat3])
  intro j h1 h2
  simp only [List.getElem_set, flat3, List.getElem_map, List.getElem_range]
  by_cases e : i * 3 = j
  · subst e; rw [if_pos rfl, if_pos (by omega), if_pos (by omega)]
  · rw [if_neg e]
    by_cases m0 : j % 3 = 0
    · rw [if_pos m0, if_pos m0, if_neg (by omega)]
    · rw [if_neg m0, if_neg m0]
theorem flat3_one1 {n : Nat} {g0 g1 g2 : Nat → Value} {i : Nat} (a : Value) : (flat3 n g0 g1 g2).set (i * 3 + 1) a = flat3 n g0 (fun j => if j = i then a else g1 j) g2 := by
  apply List.ext_getElem (by simp [flat3])
  intro j h1 h2
  simp only [List.getElem_set, flat3, List.getElem_map, List.getElem_range]
  by_cases e : i * 3 + 1 = j
  · subst e; rw [if_pos rfl, if_neg (by omega), if_pos (by omega), if_pos (by omega)]
  · rw [if_neg e]
    by_cases m0 : j % 3 = 0
    · rw [if_pos m0, if_pos m0]
    · rw [if_neg m0, if_neg m0]
      by_cases m1 : j % 3 = 1
      · rw [if_pos m1, if_pos m1, if_neg (by omega)]
      · rw [if_neg m1, if_neg m1]
theorem flat3_one2 {n : Nat} {g0 g1 g2 : Nat → Value} {i : Nat} (a : Value) : (flat3 n g0 g1 g2).set (i * 3 + 2) a = flat3 n g0 g1 (fun j => if j = i then a else g2 j) := by
  apply List.ext_getElem (by simp [flat3])
  intro j h1 h2
  simp only [List.getElem_set, flat3, List.getElem_map, List.getElem_range]
  by_cases e : i * 3 + 2 = j
  · subst e; rw [if_pos rfl, if_neg (by omega), if_neg (by omega), if_pos (by omega)]
  · rw [if_neg e]
    by_cases m0 : j % 3 = 0
    · rw [if_pos m0, if_pos m0]
    · rw [if_neg m0, if_neg m0]
      by_cases m1 : j % 3 = 1
      · rw [if_pos m1, if_pos m1]
      · rw [if_neg m1, if_neg m1, if_neg (by omega)]
/-- one cell of the nodes is written -/
theorem OutAt.setN {g n cap : Nat} (h : OutAt w lo P (.slice (some ⟨g, 0, none⟩) n cap) ab nb cb K f) (hnn : n = f.1.length) {j : Nat} {v : Value} {K' : Nat → KS} {ns : List Nd} (hln : ns.length = f.1.length) (hset : (ncells K f.1).set j v = ncells K' ns)
    (hk : ∀ i, i < f.1.length → RowAt w true lo w.heap.size 1 (K' i).1 (K' i).2.1 (K' i).2.2 (ints (ns.getD i nd0).2.2)) (hs : ∀ i, i < f.1.length → (K' i).2.1 ≠ 0 → sb (K' i).1 ≠ P ∧ g ≠ sb (K' i).1 ∧ (nb ≠ 0 → sb (K' i).1 ≠ sb ab)) :
    OutAt (w.setCell ⟨g, j, none⟩ v) lo P (.slice (some ⟨g, 0, none⟩) n cap) ab nb cb K' (ns, f.2) := by
  have hgP : g ≠ P := fun e => h.sV (by simp [Value.ownBlock, e])
  have hgB : nb ≠ 0 → g ≠ sb ab := fun hne e => (h.sB hne).2 (by simp [Value.ownBlock, e])
  have SP : KeptS (fun x => x = g) w (w.setCell ⟨g, j, none⟩ v) := by
    refine KeptS.setCell (KeptS.refl _ _) ?_ _; rfl
  have hsz : (w.setCell ⟨g, j, none⟩ v).heap.size = w.heap.size := by simp
  refine ⟨SP.cell h.c0 h.hP.2 (Ne.symm hgP), SP.cell h.c1 h.hP.2 (Ne.symm hgP), SP.frozen h.z0 h.hP.2 (Ne.symm hgP), SP.frozen h.z1 h.hP.2 (Ne.symm hgP), ⟨h.hP.1, by rw [hsz]; exact h.hP.2⟩, ?_, ?_, fun i hi => ?_, h.bf, h.sV, h.sB, fun i hi hne => ?_⟩
  · subst hnn
    have := (h.own.stored j v).1
    rw [hset] at this
    show World.ownsRow _ lo 181 3 _ ns.length (ncells K' ns)
    rw [hln]; exact this
  · rw [hsz]; exact h.blk.keptS SP fun a hn e e2 => hgB hn (by rw [e]; exact e2.symm)
  · rw [hsz]
    have hi' : i < f.1.length := by rw [← hln]; exact hi
    exact (hk i hi').keptS SP fun a hn e e2 => (hs i hi' hn).2.1 (by rw [e]; exact e2.symm)
  · have hi' : i < f.1.length := by rw [← hln]; exact hi
    have := hs i hi' hne
    exact ⟨this.1, fun e => this.2.1 (by simpa [Value.ownBlock] using e), this.2.2⟩
theorem OutAt.sepK {g n cap : Nat} (h : OutAt w lo P (.slice (some ⟨g, 0, none⟩) n cap) ab nb cb K f) : ∀ i, i < f.1.length → (K i).2.1 ≠ 0 → sb (K i).1 ≠ P ∧ g ≠ sb (K i).1 ∧ (nb ≠ 0 → sb (K i).1 ≠ sb ab) := fun i hi hne => by
  obtain ⟨a, b, c⟩ := h.sK i hi hne
  exact ⟨a, fun e => b (by simp [Value.ownBlock, e]), c⟩
/-- a node's count is written -/
theorem OutAt.refs {g n cap : Nat} (h : OutAt w lo P (.slice (some ⟨g, 0, none⟩) n cap) ab nb cb K f) (hnn : n = f.1.length) {i : Nat} (hi : i < f.1.length) (r : Int) :
    OutAt (w.setCell ⟨g, i * 3, none⟩ (.int .i64 r)) lo P (.slice (some ⟨g, 0, none⟩) n cap) ab nb cb K (f.1.set i (r, (f.1.getD i nd0).2), f.2) := by
  refine h.setN hnn (by simp) ?_ (fun m hm => ?_) h.sepK
  · unfold ncells
    rw [flat3_one0, List.length_set]
    refine flat3_congr fun m _ => ?_
    rw [set_getN _ _ _ _ hi]
    by_cases e : m = i <;> simp [e]
  · rw [set_getN _ _ _ _ hi]
    have := h.kid m hm
    by_cases e : m = i
    · subst e; rw [if_pos rfl]; exact this
    · rw [if_neg e]; exact this
/-- whether a node is a leaf is written -/
theorem OutAt.leaf {g n cap : Nat} (h : OutAt w lo P (.slice (some ⟨g, 0, none⟩) n cap) ab nb cb K f) (hnn : n = f.1.length) {i : Nat} (hi : i < f.1.length) (b : Bool) :
    OutAt (w.setCell ⟨g, i * 3 + 1, none⟩ (.bool b)) lo P (.slice (some ⟨g, 0, none⟩) n cap) ab nb cb K (f.1.set i ((f.1.getD i nd0).1, b, (f.1.getD i nd0).2.2), f.2) := by
  refine h.setN hnn (by simp) ?_ (fun m hm => ?_) h.sepK
  · unfold ncells
    rw [flat3_one1, List.length_set]
    refine flat3_congr fun m _ => ?_
    rw [set_getN _ _ _ _ hi]
    by_cases e : m = i <;> simp [e]
  · rw [set_getN _ _ _ _ hi]
    have := h.kid m hm
    by_cases e : m = i
    · subst e; rw [if_pos rfl]; exact this
    · rw [if_neg e]; exact this
/-- a node's kids are written -/
theorem OutAt.kids {g n cap : Nat} (h : OutAt w lo P (.slice (some ⟨g, 0, none⟩) n cap) ab nb cb K f) (hnn : n = f.1.length) {i : Nat} (hi : i < f.1.length) (k : KS) (ks : List Int) (hr : RowAt w true lo w.heap.size 1 k.1 k.2.1 k.2.2 (ints ks)) (hs : k.2.1 ≠ 0 → sb k.1 ≠ P ∧ g ≠ sb k.1 ∧ (nb ≠ 0 → sb k.1 ≠ sb ab)) :
    OutAt (w.setCell ⟨g, i * 3 + 2, none⟩ (ksv k)) lo P (.slice (some ⟨g, 0, none⟩) n cap) ab nb cb (updK K i k) (f.1.set i ((f.1.getD i nd0).1, (f.1.getD i nd0).2.1, ks), f.2) := by
  refine h.setN hnn (by simp) ?_ (fun m hm => ?_) (fun m hm hne => ?_)
  · unfold ncells
    rw [flat3_one2, List.length_set]
    refine flat3_congr fun m _ => ?_
    rw [set_getN _ _ _ _ hi]
    by_cases e : m = i <;> simp [e, updK]
  · rw [set_getN _ _ _ _ hi]
    by_cases e : m = i
    · subst e; rw [if_pos rfl]; simp only [updK, if_pos]; exact hr
    · rw [if_neg e]; simp only [updK, if_neg e]; exact h.kid m hm
  · by_cases e : m = i
    · subst e; simp only [updK, if_pos] at hne ⊢; exact hs hne
    · simp only [updK, if_neg e] at hne ⊢; exact h.sepK m hm hne
/-- the blocks are written -/
theorem OutAt.blocks {g : Nat} {bs : List (Int × Int)} (h : OutAt w lo P vn (some ⟨g, 0, none⟩) nb cb K f) (hne : nb ≠ 0) (hk : Kept g (g + 1) w w') (hr : RowAt w' true g (g + 1) 2 (some ⟨g, 0, none⟩) nb cb (pairs bs)) : OutAt w' lo P vn (some ⟨g, 0, none⟩) nb cb K (f.1, bs) := by
  have hB := h.sB hne
  have hlt := h.blk.block_lt hne
  have S : KeptS (fun x => x = g) w w' := hk.toS fun x h1 h2 => by omega
  have hPg : ¬ P = g := fun e => hB.1 (by simp [sb, e])
  refine ⟨S.cell h.c0 h.hP.2 hPg, S.cell h.c1 h.hP.2 hPg, S.frozen h.z0 h.hP.2 hPg, S.frozen h.z1 h.hP.2 hPg, ⟨h.hP.1, Nat.lt_of_lt_of_le h.hP.2 hk.size⟩, owns_kept h.own hk fun x e => ?_, hr.unpin fun _ => ⟨hlt.1, Nat.lt_of_lt_of_le hlt.2.2 hk.size⟩, fun i hi => ((h.kid i hi).keptS S fun a hn e e2 => ?_).widen (Nat.le_refl _) hk.size, h.bf, h.sV, h.sB, h.sK⟩
  · have : x ≠ g := fun e2 => hB.2 (by rw [e, e2]; rfl)
    omega
  · have := (h.sK i hi hn).2.2 hne
    rw [e] at this
    exact this e2
/-- the cells of a node -/
theorem OutAt.node (h : OutAt w lo P vn ab nb cb K f) {i : Nat} (hi : i < f.1.length) : ∃ g cap, vn = .slice (some ⟨g, 0, none⟩) f.1.length cap ∧ g < w.heap.size ∧ w.cell? ⟨g, i * 3, none⟩ = some (.int .i64 (f.1.getD i nd0).1) ∧ w.cell? ⟨g, i * 3 + 1, none⟩ = some (.bool (f.1.getD i nd0).2.1) ∧ w.cell? ⟨g, i * 3 + 2, none⟩ = some (.slice (K i).1 (K i).2.1 (K i).2.2) ∧ w.frozen? ⟨g, i * 3, none⟩ = false ∧ w.frozen? ⟨g, i * 3 + 1, none⟩ = false ∧ w.frozen? ⟨g, i * 3 + 2, none⟩ = false := by
  obtain ⟨g, cap, rfl, _, hg, R⟩ := own_block h.own (by omega)
  obtain ⟨b, off, e, _, _, _, h4, h5⟩ := R.cells (by omega)
  cases e
  refine ⟨_, cap, rfl, hg, ?_, ?_, ?_, by simpa using h5 rfl (i * 3) (by omega), by simpa using h5 rfl (i * 3 + 1) (by omega), by simpa using h5 rfl (i * 3 + 2) (by omega)⟩
  · have := h4 (i * 3) (by omega)
    rw [Nat.zero_add, ncells, flat3_get0 _ _ _ _ _ hi] at this; exact this
  · have := h4 (i * 3 + 1) (by omega)
    rw [Nat.zero_add, ncells, flat3_get1 _ _ _ _ _ hi] at this; exact this
  · have := h4 (i * 3 + 2) (by omega)
    rw [Nat.zero_add, ncells, flat3_get2 _ _ _ _ _ hi] at this; exact this
/-- to be read -/
theorem OutAt.read (h : OutAt w lo P vn ab nb cb K f) : ∃ an cn, vn = .slice an f.1.length cn ∧ FoAt w false lo w.heap.size an f.1.length cn ab nb cb K f := by
  obtain ⟨an, cn, rfl, R⟩ := RowAt.of_owned h.own
  exact ⟨an, cn, rfl, ⟨rfl, R.weak, fun i hi => (h.kid i hi).weak, fun hx => by cases hx⟩, h.blk.weak, fun hx => by cases hx⟩
end

end Go.Proofs.Ytkdaphfmhdkhfaa

/- Chapter 4: the model's copy of a forest. -/
namespace Go.Proofs.Ytkdaphfmhdkhfaa
open Go.RowKit

theorem OutAt.rebox {w w' : World} {lo P : Nat} {vn : Value} {ab : Option Addr} {nb cb : Nat} {K : Nat → KS} {f : Fo} (h : OutAt w lo P vn ab nb cb K f) {l u : Nat} (hk : Kept l u w w') (hu : u ≤ lo) : OutAt (w'.alloc (.cells #[vn, .slice ab nb cb] 60)) lo w'.heap.size vn ab nb cb K f := by
  have A : Below w'.heap.size w' (w'.alloc (.cells #[vn, .slice ab nb cb] 60)) := (Below.refl _ _).alloc (Nat.le_refl _) _
  have hs := hk.size
  have hsz : (w'.alloc (.cells #[vn, .slice ab nb cb] 60)).heap.size = w'.heap.size + 1 := by simp
  refine ⟨by simp, by simp, by simp, by simp, ⟨by have := h.hP; omega, by rw [hsz]; omega⟩, owns_below (owns_kept h.own hk fun k e => Or.inr (by have := (h.own.lt k e).1; omega)) A, ((h.blk.kept hk (Or.inr hu)).below A).widen (Nat.le_refl _) (by rw [hsz]; omega), fun i hi => (((h.kid i hi).kept hk (Or.inr hu)).below A).widen (Nat.le_refl _) (by rw [hsz]; omega), h.bf, fun e => ?_, fun hne => ⟨?_, (h.sB hne).2⟩, fun i hi hne => ⟨?_, (h.sK i hi hne).2⟩⟩
  · have := (h.own.lt _ e).2; omega
  · have := (h.blk.block_lt hne).2.2; omega
  · have := ((h.kid i hi).block_lt hne).2.2; omega

/-- what a copy is: it lies in new memory, and may be changed -/
def CopyRes (w w' : World) (e : Ending) (n nb : Nat) (f : Fo) : Prop :=
  ∃ va vc bb bc K', e = .returned (.agg #[.slice va n vc, .slice bb nb bc]) ∧ OutAt (w'.alloc (.cells #[.slice va n vc, .slice bb nb bc] 60)) (w.heap.size + 2) w'.heap.size (.slice va n vc) bb nb bc K' f ∧ Below w.heap.size w w'
set_option maxRecDepth 20000 in
set_option maxHeartbeats 8000000 in
theorem l4Copy_any {o : Bool} {l u : Nat} (an : Option Addr) (nn cn : Nat) (ab : Option Addr) (nb cb : Nat) (K : Nat → KS) (f : Fo) (w : World) (h : FoAt w o l u an nn cn ab nb cb K f) (hn : nn ≤ 60) (hb : nb ≤ 24) (hK : ∀ i, i < nn → (K i).2.1 ≤ 4) :
    Calls Try.prog 169 #[.agg #[.slice an nn cn, .slice ab nb cb]] w fun e w' => CopyRes w w' e nn nb f := by
  have hl := h.nodes.len
  obtain ⟨i0, hi0, hz0, hz1, hz2⟩ := info_parts Try.info2'
  obtain ⟨j0, hj0, hy0, hy1, hy2⟩ := info_parts Try.infoBlk
  obtain ⟨m0, hm0, hx0, hx1, hx2⟩ := info_parts Try.infoNode
  have B2 : Below w.heap.size w ((w.alloc (.cells #[.slice an nn cn, .slice ab nb cb] 60)).alloc (.cells #[.slice none 0 0, .slice none 0 0] 60)) := ((Below.refl _ _).alloc (Nat.le_refl _) _).alloc (by simp) _
  have B3 : Below w.heap.size w (((w.alloc (.cells #[.slice an nn cn, .slice ab nb cb] 60)).alloc (.cells #[.slice none 0 0, .slice none 0 0] 60)).alloc (.cells #[] 55)) := B2.alloc (by simp; omega) _
  obtain ⟨ad, cp, w4, hr4, R4, B4, F4⟩ := run_append_fresh (P := Try.prog) (((w.alloc (.cells #[.slice an nn cn, .slice ab nb cb] 60)).alloc (.cells #[.slice none 0 0, .slice none 0 0] 60)).alloc (.cells #[] 55)) 47 47 55 j0 (.agg #[.int .i64 0, .int .i64 0]) 2 16 Try.underlying47 hj0 hy0 hy1 hy2 (by rw [hy1]; rfl) (w.heap.size + 1 + 1) ab nb cb (pairs f.2) (h.blocks.below B3) (pairs_one f.2) (by omega) (by omega)
  go_enter Try.func169, Try.ntmps169
  go_wp2_with (at_builtin; refine Lib.wpList_append_run _ rfl _ _ _ _ rfl _ _ rfl rfl _ _ hr4 ?_)
  have hs4 : w.heap.size + 3 ≤ w4.heap.size := by have := B4.size; simp at this; omega
  have s0 : ((w.alloc (.cells #[.slice an nn cn, .slice ab nb cb] 60)).alloc (.cells #[.slice none 0 0, .slice none 0 0] 60)).cell? ⟨w.heap.size, 0, none⟩ = some (.slice an nn cn) := by simp
  have r0 : ((w.alloc (.cells #[.slice an nn cn, .slice ab nb cb] 60)).alloc (.cells #[.slice none 0 0, .slice none 0 0] 60)).cell? ⟨w.heap.size + 1, 0, none⟩ = some (.slice none 0 0) := by simp
  have r1 : ((w.alloc (.cells #[.slice an nn cn, .slice ab nb cb] 60)).alloc (.cells #[.slice none 0 0, .slice none 0 0] 60)).cell? ⟨w.heap.size + 1, 1, none⟩ = some (.slice none 0 0) := by simp
  have q0 : ((w.alloc (.cells #[.slice an nn cn, .slice ab nb cb] 60)).alloc (.cells #[.slice none 0 0, .slice none 0 0] 60)).frozen? ⟨w.heap.size + 1, 0, none⟩ = false := by simp
  have q1 : ((w.alloc (.cells #[.slice an nn cn, .slice ab nb cb] 60)).alloc (.cells #[.slice none 0 0, .slice none 0 0] 60)).frozen? ⟨w.heap.size + 1, 1, none⟩ = false := by simp
  have A3 : Below ((w.alloc (.cells #[.slice an nn cn, .slice ab nb cb] 60)).alloc (.cells #[.slice none 0 0, .slice none 0 0] 60)).heap.size ((w.alloc (.cells #[.slice an nn cn, .slice ab nb cb] 60)).alloc (.cells #[.slice none 0 0, .slice none 0 0] 60)) (((w.alloc (.cells #[.slice an nn cn, .slice ab nb cb] 60)).alloc (.cells #[.slice none 0 0, .slice none 0 0] 60)).alloc (.cells #[] 55)) := (Below.refl _ _).alloc (Nat.le_refl _) _
  have hz2' : w.heap.size + 1 < ((w.alloc (.cells #[.slice an nn cn, .slice ab nb cb] 60)).alloc (.cells #[.slice none 0 0, .slice none 0 0] 60)).heap.size := by simp
  have hz3 := Nat.lt_of_lt_of_le hz2' A3.size
  replace s0 := cell_later A3 s0
  replace r0 := cell_later A3 r0
  replace r1 := cell_later A3 r1
  replace q0 := frozen_later A3 hz2' q0
  replace q1 := frozen_later A3 hz2' q1
  replace s0 := cell_later B4 s0
  replace r0 := cell_later B4 r0
  replace r1 := cell_later B4 r1
  replace q0 := frozen_later B4 hz3 q0
  replace q1 := frozen_later B4 hz3 q1
  have R4' : RowAt w4 true (w.heap.size + 2) w4.heap.size 2 (some ad) nb cp (pairs f.2) := R4.widen (by simp) (Nat.le_refl _)
  have B5 := below_next B3 B4
  have HF : nb ≠ 0 → ∃ g, (some ad : Option Addr) = some ⟨g, 0, none⟩ := fun hne => by
    rcases F4 with ⟨e, _⟩ | ⟨e, _⟩
    · exact absurd e hne
    · obtain ⟨g, _, e1, _⟩ := own_block e hne
      injection e1 with e1
      exact ⟨g, e1⟩
  clear R4 F4 B4 hr4 hz3 hz2' A3 B2 B3
  have A5 : Below w4.heap.size w4 (w4.alloc (.cells #[.slice none 0 0, .slice (some ad) nb cp] 60)) := (Below.refl _ _).alloc (Nat.le_refl _) _
  have I0 : OutAt (w4.alloc (.cells #[.slice none 0 0, .slice (some ad) nb cp] 60)) (w.heap.size + 2) w4.heap.size (.slice none 0 0) (some ad) nb cp (fun _ => (none, 0, 0)) (f.1.take 0, f.2) := by
    refine ⟨by simp, by simp, by simp, by simp, ⟨by omega, by simp⟩, ?_, (R4'.below A5).widen (Nat.le_refl _) (by simp), fun i hi => absurd hi (by simp), HF, by simp [Value.ownBlock], fun hne => ⟨?_, by simp [Value.ownBlock]⟩, fun i hi => absurd hi (by simp)⟩
    · exact ⟨by simp [ncells_len], Or.inl ⟨rfl, by simp⟩⟩
    · have := (R4'.block_lt hne).2.1; omega
  replace s0 := cell_later A5 s0
  replace r0 := cell_later A5 r0
  replace r1 := cell_later A5 r1
  replace q0 := frozen_later A5 (by omega) q0
  replace q1 := frozen_later A5 (by omega) q1
  replace B5 := below_next B5 A5
  clear A5 R4'
  go_wp2
  go_loopw [4] (fun i wr => ∃ k : Nat, k ≤ nn ∧ i = .int .i64 k ∧ (∃ vn K', OutAt wr (w.heap.size + 2) w4.heap.size vn (some ad) nb cp K' (f.1.take k, f.2)) ∧ Below w.heap.size w wr ∧ wr.cell? ⟨w.heap.size, 0, none⟩ = some (.slice an nn cn) ∧ wr.cell? ⟨w.heap.size + 1, 0, none⟩ = some (.slice none 0 0) ∧ wr.cell? ⟨w.heap.size + 1, 1, none⟩ = some (.slice none 0 0) ∧ wr.frozen? ⟨w.heap.size + 1, 0, none⟩ = false ∧ wr.frozen? ⟨w.heap.size + 1, 1, none⟩ = false) (fun i _ => nn - (intOf i).toNat)
  case atStart => exact ⟨0, Nat.zero_le _, rfl, ⟨_, _, I0⟩, B5, s0, r0, r1, q0, q1⟩
  case round =>
    clear I0 B5 s0 r0 r1 q0 q1
    obtain ⟨k, hk, rfl, ⟨vn, K', I⟩, B, s0, r0, r1, q0, q1⟩ := hrel
    by_cases hlt : k < nn
    · have hkr := (h.nodes.kids k hlt).kept (Kept.of_below B : Kept u u w wr) (Or.inl (Nat.le_refl _))
      have hkn := hK k hlt
      obtain ⟨b, off, rfl, _, _, hbs, e1, e2, e3, _⟩ := h.nodes.node hlt
      replace e1 := (B.cell (p := ⟨b, off + k * 3, none⟩) hbs).trans e1
      replace e2 := (B.cell (p := ⟨b, off + k * 3 + 1, none⟩) hbs).trans e2
      replace e3 := (B.cell (p := ⟨b, off + k * 3 + 2, none⟩) hbs).trans e3
      have hlk : (k : Int) < (nn : Int) := by omega
      have htk : f.1.take (k + 1) = f.1.take k ++ [f.1.getD k nd0] := by
        rw [List.take_add_one, List.getElem?_eq_getElem (by omega)]; simp [List.getD, show k < f.1.length by omega]
      have hlen : (f.1.take k).length = k := by simp; omega
      obtain ⟨⟨r, lf, ks⟩, hnd⟩ : ∃ nd, f.1.getD k nd0 = nd := ⟨_, rfl⟩
      obtain ⟨⟨ka, kn, kc⟩, hks⟩ : ∃ q, K k = q := ⟨_, rfl⟩
      rw [hnd] at e1 e2 hkr htk
      rw [hks] at e3 hkr hkn
      simp only at e1 e2 e3 hkr hkn
      clear hnd hks
      have C1 : Below wr.heap.size wr (wr.alloc (.cells #[.int .i64 r, .bool lf, .slice ka kn kc] 181)) := (Below.refl _ _).alloc (Nat.le_refl _) _
      have C2 : Below wr.heap.size wr ((wr.alloc (.cells #[.int .i64 r, .bool lf, .slice ka kn kc] 181)).alloc (.cells #[] 2)) := C1.alloc (by simp) _
      obtain ⟨kd, kp, w3, hr3, R3, B3, _⟩ := run_append_fresh (P := Try.prog) ((wr.alloc (.cells #[.int .i64 r, .bool lf, .slice ka kn kc] 181)).alloc (.cells #[] 2)) 24 24 2 i0 (.int .i64 0) 1 8 Try.underlying24 hi0 hz0 hz1 hz2 (by rw [hz1]; rfl) (wr.heap.size + 1) ka kn kc (ints ks) (hkr.below C2) (ints_cell ks) (by omega) (by omega)
      have hs3 : wr.heap.size + 2 ≤ w3.heap.size := by have := B3.size; simp at this; omega
      have R3' : RowAt w3 true (wr.heap.size + 2) w3.heap.size 1 (some kd) kn kp (ints ks) := R3.widen (by simp) (Nat.le_refl _)
      have n0 : ((wr.alloc (.cells #[.int .i64 r, .bool lf, .slice ka kn kc] 181)).alloc (.cells #[] 2)).cell? ⟨wr.heap.size, 0, none⟩ = some (.int .i64 r) := by simp
      have n1 : ((wr.alloc (.cells #[.int .i64 r, .bool lf, .slice ka kn kc] 181)).alloc (.cells #[] 2)).cell? ⟨wr.heap.size, 1, none⟩ = some (.bool lf) := by simp
      have n2 : ((wr.alloc (.cells #[.int .i64 r, .bool lf, .slice ka kn kc] 181)).alloc (.cells #[] 2)).cell? ⟨wr.heap.size, 2, none⟩ = some (.slice ka kn kc) := by simp
      have nf : ((wr.alloc (.cells #[.int .i64 r, .bool lf, .slice ka kn kc] 181)).alloc (.cells #[] 2)).frozen? ⟨wr.heap.size, 2, none⟩ = false := by simp
      replace n0 := cell_later B3 n0
      replace n1 := cell_later B3 n1
      replace n2 := cell_later B3 n2
      replace nf := frozen_later B3 (by simp; omega) nf
      have C3 := C2.trans (B3.mono (by simp; omega))
      have C4 : Below wr.heap.size wr (w3.setCell ⟨wr.heap.size, 2, none⟩ (.slice (some kd) kn kp)) := C3.setCell (p := ⟨wr.heap.size, 2, none⟩) (Nat.le_refl _) _
      have C5 : Below wr.heap.size wr ((w3.setCell ⟨wr.heap.size, 2, none⟩ (.slice (some kd) kn kp)).alloc (.cells #[.int .i64 r, .bool lf, .slice (some kd) kn kp] 181)) := C4.alloc (by simp; omega) _
      have I5 := I.below C5
      have hown5 := I5.own
      have p0 := (I.below C4).c0
      have R5 : RowAt ((w3.setCell ⟨wr.heap.size, 2, none⟩ (.slice (some kd) kn kp)).alloc (.cells #[.int .i64 r, .bool lf, .slice (some kd) kn kp] 181)) true (w.heap.size + 2) ((w3.setCell ⟨wr.heap.size, 2, none⟩ (.slice (some kd) kn kp)).alloc (.cells #[.int .i64 r, .bool lf, .slice (some kd) kn kp] 181)).heap.size 1 (some kd) kn kp (ints ks) := by
        have x1 := R3'.kept (l := wr.heap.size) (u := wr.heap.size + 1) (w' := w3.setCell ⟨wr.heap.size, 2, none⟩ (.slice (some kd) kn kp)) (Kept.setCell (Kept.refl _ _ _) (p := ⟨wr.heap.size, 2, none⟩) (Nat.le_refl _) (Nat.lt_succ_self _) _) (by omega)
        exact (x1.below ((Below.refl _ _).alloc (Nat.le_refl _) _)).widen (by have := I.hP; omega) (by simp)
      have hsep : kn ≠ 0 → sb (some kd) ≠ w4.heap.size ∧ vn.ownBlock ≠ some (sb (some kd)) ∧ (nb ≠ 0 → sb (some kd) ≠ sb (some ad)) := fun hne => by
        have x1 := (R3'.block_lt hne).1
        refine ⟨by have := I.hP; omega, fun e => ?_, fun hne2 => ?_⟩
        · have := (I.own.lt _ e).2; omega
        · have := (I.blk.block_lt hne2).2.2; omega
      have HI : Hid _ := I5
      have HR : Hid _ := R5
      have HS : Hid _ := hsep
      have HC5 : Hid _ := C5
      clear R3 R3' B3 C1 C2 C3 C4 I5 hsep R5 C5 hkr
      go_wp2_with (first | (at_builtin; refine Lib.wpList_append_run _ rfl _ _ _ _ rfl _ _ rfl rfl _ _ hr3 ?_) | (at_builtin; refine wpList_append_lies _ rfl _ _ 58 rfl (w.heap.size + 2) 181 m0 (.agg #[.int .i64 0, .bool false, .slice none 0 0]) 3 40 Try.underlying58 hm0 hx0 hx1 hx2 rfl (by decide) vn (f.1.take k).length _ rfl hown5 ⟨w3.heap.size, 0, none⟩ 1 1 [.int .i64 r, .bool lf, .slice (some kd) kn kp] rfl rfl ?c1 ?c2 (by decide) ?c3 ?c4 ?c5 _ rfl ?_))
      case c2 => simp [Value.oneCell']
      case c3 => unfold maxLen; omega
      case c4 => omega
      case c5 => have := I.hP; simp; omega
      intro g cap w6 hown6 hgrow hg _
      have hg' : vn.ownBlock = some g ∨ g = ((w3.setCell ⟨wr.heap.size, 2, none⟩ (.slice (some kd) kn kp)).alloc (.cells #[.int .i64 r, .bool lf, .slice (some kd) kn kp] 181)).heap.size := by simpa using hg
      have hown7 : w6.ownsRow (w.heap.size + 2) 181 3 (.slice (some ⟨g, 0, none⟩) ((f.1.take k).length + 1) cap) ((f.1.take k).length + 1) (ncells K' (f.1.take k) ++ [.int .i64 r, .bool lf, .slice (some kd) kn kp]) := by rw [hlen]; exact hown6
      have I7 := HI.out.grow (nd := (r, lf, ks)) (k := (some kd, kn, kp)) hgrow hown7 hg' HR.out HS.out
      have S6 := grown_S hgrow
      have hnv : ∀ x, x < w.heap.size + 2 → ¬ vn.ownBlock = some x := fun x hx e => by have := (I.own.lt x e).1; omega
      have hP := I.hP
      have hsw := B.size
      have t0 := S6.cell (cell_later HC5.out s0) (by have := HC5.out.size; omega) (hnv _ (by omega))
      have t1 := S6.cell (cell_later HC5.out r0) (by have := HC5.out.size; omega) (hnv _ (by omega))
      have t2 := S6.cell (cell_later HC5.out r1) (by have := HC5.out.size; omega) (hnv _ (by omega))
      have t3 := S6.frozen (frozen_later HC5.out (by omega) q0) (by have := HC5.out.size; omega) (hnv _ (by omega))
      have t4 := S6.frozen (frozen_later HC5.out (by omega) q1) (by have := HC5.out.size; omega) (hnv _ (by omega))
      have p6 := S6.cell HI.out.c0 HI.out.hP.2 HI.out.sV
      have pf6 := S6.frozen HI.out.z0 HI.out.hP.2 HI.out.sV
      have B6 : Below w.heap.size w w6 := (below_next B HC5.out).grown hgrow (by have := HC5.out.size; omega) (fun x e => by have := (I.own.lt x e).1; omega)
      have B7 : Below w.heap.size w (w6.setCell ⟨w4.heap.size, 0, none⟩ (.slice (some ⟨g, 0, none⟩) (k + 1) cap)) := B6.setCell (p := ⟨w4.heap.size, 0, none⟩) (by show w.heap.size ≤ w4.heap.size; omega) _
      have KP : KeptS (fun x => x = w4.heap.size) w6 (w6.setCell ⟨w4.heap.size, 0, none⟩ (.slice (some ⟨g, 0, none⟩) (k + 1) cap)) := by
        refine KeptS.setCell (KeptS.refl _ _) ?_ _; rfl
      have hs6 : w.heap.size + 2 ≤ w6.heap.size := by have := hgrow.size; have := HC5.out.size; omega
      replace t0 := KP.cell t0 (by omega) (by omega)
      replace t1 := KP.cell t1 (by omega) (by omega)
      replace t2 := KP.cell t2 (by omega) (by omega)
      replace t3 := KP.frozen t3 (by omega) (by omega)
      replace t4 := KP.frozen t4 (by omega) (by omega)
      rw [← htk] at I7
      simp only at I7
      rw [hlen] at I7
      have HI7 : Hid _ := I7
      clear I7 HI HR HS HC5 hown6 hown7 hgrow hg hg' S6 hown5 p0 KP B6 hr3 n0 n1 n2 nf e1 e2 e3 s0 r0 r1 q0 q1 B I
      go_wp2
      go_roundw
      case rel => exact ⟨k + 1, by omega, by go_num, ⟨_, _, HI7.out⟩, B7, t0, t1, t2, t3, t4⟩
      case measure => simp [intOf]; omega
    · obtain rfl : k = nn := by omega
      have htk : f.1.take k = f.1 := List.take_of_length_le (by omega)
      rw [htk] at I
      obtain ⟨va, vc, rfl, _⟩ := RowAt.of_owned I.own
      rw [hl] at I
      have c0 := I.c0
      have c1 := I.c1
      have hP := I.hP
      have HI : Hid _ := I
      clear I
      go_wp2
      refine bodyPost_ret (v := .agg #[.slice va k vc, .slice (some ad) nb cp]) (by simp [results, Try.results169, go_sem, r0, r1]) rfl ⟨va, vc, some ad, cp, K', rfl, ?_, ?_⟩
      · refine HI.out.rebox (l := w.heap.size + 1) (u := w.heap.size + 2) ?_ (Nat.le_refl _)
        refine Kept.setCell (Kept.setCell (Kept.refl _ _ _) ?_ ?_ _) ?_ ?_ _ <;> simp
      · refine Below.setCell (Below.setCell B ?_ _) ?_ _ <;> simp

end Go.Proofs.Ytkdaphfmhdkhfaa

/- Chapter 4: the model's ShareTree. -/
namespace Go.Proofs.Ytkdaphfmhdkhfaa
open Go.RowKit

theorem fo_small {w : World} {o : Bool} {l u : Nat} {an : Option Addr} {nn cn : Nat} {ab : Option Addr} {nb cb : Nat} {K : Nat → KS} {f : Fo} (h : FoAt w o l u an nn cn ab nb cb K f) (hI : Inv f) : nn ≤ 60 ∧ nb ≤ 24 ∧ ∀ i, i < nn → (K i).2.1 ≤ 4 := by
  refine ⟨by rw [← h.nodes.len]; exact hI.nn, by rw [← h.blocks.nPairs]; exact hI.nb, fun i hi => ?_⟩
  rw [← h.nodes.nKids hi]
  have hN := hI.nd i
  by_cases h0 : (nodeOf f i).1 = 0
  · have := hN.z h0
    unfold nodeOf at this
    rw [this]; simp [nd0]
  · have := hN.kl h0
    unfold nodeOf at this
    omega

set_option maxRecDepth 20000 in
set_option maxHeartbeats 4000000 in
theorem specShareT_is {o : Bool} {l u : Nat} (an : Option Addr) (nn cn : Nat) (ab : Option Addr) (nb cb : Nat) (K : Nat → KS) (f : Fo) (w : World) (h : FoAt w o l u an nn cn ab nb cb K f) (hn : nn ≤ 2097152) (hb : nb ≤ 2097152) (hK : ∀ i, i < nn → (K i).2.1 ≤ 2097152) (root : Int) (cd rt : Int) (g : Fo) (hc : shareTCode f root = cd) (hr : atIf (shareTCode f root) root = rt) (hf : shareFo f root = g) : Calls Try.prog 57 #[.agg #[.slice an nn cn, .slice ab nb cb], .int .i64 root] w fun e w' => FoRes false w w' e cd rt g := by
  have B : Below w.heap.size w ((w.alloc (.cells #[.slice an nn cn, .slice ab nb cb] 60)).alloc (.cells #[.int .i64 0, .int .i64 0, .slice none 0 0, .slice none 0 0] 64)) := ((Below.refl _ _).alloc (Nat.le_refl _) _).alloc (by simp) _
  have g0 : ((w.alloc (.cells #[.slice an nn cn, .slice ab nb cb] 60)).alloc (.cells #[.int .i64 0, .int .i64 0, .slice none 0 0, .slice none 0 0] 64)).cell? ⟨w.heap.size, 0, none⟩ = some (.slice an nn cn) := by simp
  have g1 : ((w.alloc (.cells #[.slice an nn cn, .slice ab nb cb] 60)).alloc (.cells #[.int .i64 0, .int .i64 0, .slice none 0 0, .slice none 0 0] 64)).cell? ⟨w.heap.size, 1, none⟩ = some (.slice ab nb cb) := by simp
  have z0 : ((w.alloc (.cells #[.slice an nn cn, .slice ab nb cb] 60)).alloc (.cells #[.int .i64 0, .int .i64 0, .slice none 0 0, .slice none 0 0] 64)).cell? ⟨w.heap.size + 1, 0, none⟩ = some (.int .i64 0) := by simp
  have z1 : ((w.alloc (.cells #[.slice an nn cn, .slice ab nb cb] 60)).alloc (.cells #[.int .i64 0, .int .i64 0, .slice none 0 0, .slice none 0 0] 64)).cell? ⟨w.heap.size + 1, 1, none⟩ = some (.int .i64 0) := by simp
  have z2 : ((w.alloc (.cells #[.slice an nn cn, .slice ab nb cb] 60)).alloc (.cells #[.int .i64 0, .int .i64 0, .slice none 0 0, .slice none 0 0] 64)).cell? ⟨w.heap.size + 1, 2, none⟩ = some (.slice none 0 0) := by simp
  have z3 : ((w.alloc (.cells #[.slice an nn cn, .slice ab nb cb] 60)).alloc (.cells #[.int .i64 0, .int .i64 0, .slice none 0 0, .slice none 0 0] 64)).cell? ⟨w.heap.size + 1, 3, none⟩ = some (.slice none 0 0) := by simp
  have y0 : ((w.alloc (.cells #[.slice an nn cn, .slice ab nb cb] 60)).alloc (.cells #[.int .i64 0, .int .i64 0, .slice none 0 0, .slice none 0 0] 64)).frozen? ⟨w.heap.size + 1, 0, none⟩ = false := by simp
  have y1 : ((w.alloc (.cells #[.slice an nn cn, .slice ab nb cb] 60)).alloc (.cells #[.int .i64 0, .int .i64 0, .slice none 0 0, .slice none 0 0] 64)).frozen? ⟨w.heap.size + 1, 1, none⟩ = false := by simp
  have y2 : ((w.alloc (.cells #[.slice an nn cn, .slice ab nb cb] 60)).alloc (.cells #[.int .i64 0, .int .i64 0, .slice none 0 0, .slice none 0 0] 64)).frozen? ⟨w.heap.size + 1, 2, none⟩ = false := by simp
  have y3 : ((w.alloc (.cells #[.slice an nn cn, .slice ab nb cb] 60)).alloc (.cells #[.int .i64 0, .int .i64 0, .slice none 0 0, .slice none 0 0] 64)).frozen? ⟨w.heap.size + 1, 3, none⟩ = false := by simp
  have hz : w.heap.size + 1 < ((w.alloc (.cells #[.slice an nn cn, .slice ab nb cb] 60)).alloc (.cells #[.int .i64 0, .int .i64 0, .slice none 0 0, .slice none 0 0] 64)).heap.size := by simp
  have r := h.below B
  have hl := h.nodes.len
  by_cases h0 : treeCode f root 0 = 0
  · have H0 : Hid _ := h0
    have T := tree_of h0
    have HN : Hid _ := fo_small h T.right.inv
    by_cases hr0 : 0 ≤ root
    · obtain ⟨_, r1, r2⟩ := T.ro.resolve_left (by omega)
      have hri := live_lt r1
      obtain ⟨k, rfl⟩ : ∃ k : Nat, root = k := ⟨root.toNat, by omega⟩
      rw [Int.toNat_natCast] at r1 r2 hri
      have hlt : k < nn := by omega
      have hlk : (k : Int) < nn := by omega
      have hrr := (T.right.inv.nd k).r1
      have hrr0 := (T.right.inv.nd k).r0
      unfold nodeOf at r1 r2 hrr hrr0
      obtain ⟨b, off, rfl, _, _, _, e1, _, _, _⟩ := r.nodes.node hlt
      obtain ⟨⟨rr, lf, ks⟩, hnd⟩ : ∃ nd, f.1.getD k nd0 = nd := ⟨_, rfl⟩
      rw [hnd] at e1 hrr hrr0
      simp only at e1 hrr hrr0
      by_cases h200 : 200 ≤ rr
      · have t0 : shareTCode f (k : Int) = 2 := by rw [shareTCode, if_pos h0, Int.toNat_natCast, if_pos ⟨hr0, by unfold nodeOf; rw [hnd]; exact h200⟩]
        have t1 : shareFo f (k : Int) = ([], []) := by rw [shareFo, t0]; rfl
        rw [t0] at hc hr
        rw [t1] at hf
        obtain rfl : rt = 0 := hr.symm
        subst hc
        subst hf
        clear h0 T t0 t1 hr hnd r1 r2
        go_enter Try.func57, Try.ntmps57
        go_wp2_with fail
        refine (l4Asked_is w.heap.size _ nn cn ab nb cb K f _ (by exact r) g0 g1 hn hb hK (k : Int) 0 0 H0.out).mono ?_
        rintro e w1 ⟨rfl, hb1⟩
        replace z0 := cell_later hb1 z0
        replace z1 := cell_later hb1 z1
        replace z2 := cell_later hb1 z2
        replace z3 := cell_later hb1 z3
        replace y0 := frozen_later hb1 hz y0
        replace y1 := frozen_later hb1 hz y1
        replace y2 := frozen_later hb1 hz y2
        replace y3 := frozen_later hb1 hz y3
        replace g0 := cell_later hb1 g0
        replace g1 := cell_later hb1 g1
        replace e1 := cell_later hb1 e1
        replace r := r.below hb1
        replace hz := Nat.lt_of_lt_of_le hz hb1.size
        replace B := below_next B hb1
        clear hb1
        have hz0 := hz
        go_wp2_with fail
        refine (l4Copy_any _ nn cn ab nb cb K f _ (by exact r) HN.out.1 HN.out.2.1 HN.out.2.2).mono ?_
        rintro e w2 ⟨va, vc, bb, bc, K', rfl, I, hb1⟩
        replace z0 := cell_later hb1 z0
        replace z1 := cell_later hb1 z1
        replace z2 := cell_later hb1 z2
        replace z3 := cell_later hb1 z3
        replace y0 := frozen_later hb1 hz y0
        replace y1 := frozen_later hb1 hz y1
        replace y2 := frozen_later hb1 hz y2
        replace y3 := frozen_later hb1 hz y3
        replace g0 := cell_later hb1 g0
        replace g1 := cell_later hb1 g1
        replace e1 := cell_later hb1 e1
        replace r := r.below hb1
        replace hz := Nat.lt_of_lt_of_le hz hb1.size
        replace B := below_next B hb1
        clear hb1
        have A : Below w2.heap.size w2 (w2.alloc (.cells #[.slice va nn vc, .slice bb nb bc] 60)) := (Below.refl _ _).alloc (Nat.le_refl _) _
        replace z0 := cell_later A z0
        replace z1 := cell_later A z1
        replace z2 := cell_later A z2
        replace z3 := cell_later A z3
        replace y0 := frozen_later A hz y0
        replace y1 := frozen_later A hz y1
        replace y2 := frozen_later A hz y2
        replace y3 := frozen_later A hz y3
        replace g0 := cell_later A g0
        replace g1 := cell_later A g1
        replace e1 := cell_later A e1
        replace r := r.below A
        replace hz := Nat.lt_of_lt_of_le hz A.size
        replace B := below_next B A
        clear A
        go_wp2_with fail
        refine (l4Bad_any 2 _).mono ?_
        rintro e wb ⟨rfl, hb1⟩
        replace z0 := cell_later hb1 z0
        replace z1 := cell_later hb1 z1
        replace z2 := cell_later hb1 z2
        replace z3 := cell_later hb1 z3
        replace y0 := frozen_later hb1 hz y0
        replace y1 := frozen_later hb1 hz y1
        replace y2 := frozen_later hb1 hz y2
        replace y3 := frozen_later hb1 hz y3
        replace g0 := cell_later hb1 g0
        replace g1 := cell_later hb1 g1
        replace e1 := cell_later hb1 e1
        replace r := r.below hb1
        replace hz := Nat.lt_of_lt_of_le hz hb1.size
        replace B := below_next B hb1
        clear hb1
        go_wp2
        refine bodyPost_ret (v := .agg #[.int .i64 2, .int .i64 0, .slice none 0 0, .slice none 0 0]) (by simp [results, Try.results57, go_sem, z0, z1, z2, z3]) rfl ⟨_, _, _, _, _, _, _, rfl, FoAt.nil _ _ _ _, ?_⟩
        refine Below.setCell (Below.setCell (Below.setCell (Below.setCell B ?_ _) ?_ _) ?_ _) ?_ _ <;> simp
      · have t0 : shareTCode f (k : Int) = 0 := by rw [shareTCode, if_pos h0, Int.toNat_natCast, if_neg (fun hx => h200 (by have := hx.2; unfold nodeOf at this; rw [hnd] at this; exact this))]
        have t1 : shareFo f (k : Int) = (f.1.set k (rr + 1, (f.1.getD k nd0).2), f.2) := by rw [shareFo, t0, foIf, if_pos rfl, shareF, if_pos hr0, Int.toNat_natCast, moreAt, moreNd]; unfold nodeOf; rw [hnd]
        rw [t0] at hc hr
        rw [t1] at hf
        obtain rfl : rt = (k : Int) := hr.symm
        subst hc
        subst hf
        have HD : Hid _ := hnd
        clear h0 T t0 t1 hr hnd r1 r2
        go_enter Try.func57, Try.ntmps57
        go_wp2_with fail
        refine (l4Asked_is w.heap.size _ nn cn ab nb cb K f _ (by exact r) g0 g1 hn hb hK (k : Int) 0 0 H0.out).mono ?_
        rintro e w1 ⟨rfl, hb1⟩
        replace z0 := cell_later hb1 z0
        replace z1 := cell_later hb1 z1
        replace z2 := cell_later hb1 z2
        replace z3 := cell_later hb1 z3
        replace y0 := frozen_later hb1 hz y0
        replace y1 := frozen_later hb1 hz y1
        replace y2 := frozen_later hb1 hz y2
        replace y3 := frozen_later hb1 hz y3
        replace g0 := cell_later hb1 g0
        replace g1 := cell_later hb1 g1
        replace e1 := cell_later hb1 e1
        replace r := r.below hb1
        replace hz := Nat.lt_of_lt_of_le hz hb1.size
        replace B := below_next B hb1
        clear hb1
        have hz0 := hz
        go_wp2_with fail
        refine (l4Copy_any _ nn cn ab nb cb K f _ (by exact r) HN.out.1 HN.out.2.1 HN.out.2.2).mono ?_
        rintro e w2 ⟨va, vc, bb, bc, K', rfl, I, hb1⟩
        replace z0 := cell_later hb1 z0
        replace z1 := cell_later hb1 z1
        replace z2 := cell_later hb1 z2
        replace z3 := cell_later hb1 z3
        replace y0 := frozen_later hb1 hz y0
        replace y1 := frozen_later hb1 hz y1
        replace y2 := frozen_later hb1 hz y2
        replace y3 := frozen_later hb1 hz y3
        replace g0 := cell_later hb1 g0
        replace g1 := cell_later hb1 g1
        replace e1 := cell_later hb1 e1
        replace r := r.below hb1
        replace hz := Nat.lt_of_lt_of_le hz hb1.size
        replace B := below_next B hb1
        clear hb1
        have A : Below w2.heap.size w2 (w2.alloc (.cells #[.slice va nn vc, .slice bb nb bc] 60)) := (Below.refl _ _).alloc (Nat.le_refl _) _
        replace z0 := cell_later A z0
        replace z1 := cell_later A z1
        replace z2 := cell_later A z2
        replace z3 := cell_later A z3
        replace y0 := frozen_later A hz y0
        replace y1 := frozen_later A hz y1
        replace y2 := frozen_later A hz y2
        replace y3 := frozen_later A hz y3
        replace g0 := cell_later A g0
        replace g1 := cell_later A g1
        replace e1 := cell_later A e1
        replace r := r.below A
        replace hz := Nat.lt_of_lt_of_le hz A.size
        replace B := below_next B A
        clear A
        obtain ⟨gN, gc, ev, hgl, d1, _, _, x1, _, _⟩ := I.node (i := k) (by omega)
        rw [HD.out] at d1
        simp only at d1
        injection ev with ea en1 en3
        clear en1 en3
        subst ea
        have c0 := I.c0
        have c1 := I.c1
        have IR := I.refs hl.symm (i := k) (by omega) (rr + 1)
        have S : KeptS (fun x => x = gN) (w2.alloc (.cells #[.slice (some ⟨gN, 0, none⟩) nn vc, .slice bb nb bc] 60)) ((w2.alloc (.cells #[.slice (some ⟨gN, 0, none⟩) nn vc, .slice bb nb bc] 60)).setCell ⟨gN, k * 3, none⟩ (.int .i64 (rr + 1))) := by
          refine KeptS.setCell (KeptS.refl _ _) ?_ _; rfl
        have hgn : w.heap.size + 1 < gN := by have := (I.own.lt gN rfl).1; omega
        replace z0 := S.cell z0 hz (by omega)
        replace z1 := S.cell z1 hz (by omega)
        replace z2 := S.cell z2 hz (by omega)
        replace z3 := S.cell z3 hz (by omega)
        replace y0 := S.frozen y0 hz (by omega)
        replace y1 := S.frozen y1 hz (by omega)
        replace y2 := S.frozen y2 hz (by omega)
        replace y3 := S.frozen y3 hz (by omega)
        have c0' := IR.c0
        have c1' := IR.c1
        replace B := B.setCell (p := ⟨gN, k * 3, none⟩) (by show w.heap.size ≤ gN; omega) (.int .i64 (rr + 1))
        obtain ⟨_, _, ev2, RF⟩ := IR.read
        injection ev2 with ea2 en2 ec2
        clear en2
        subst ea2
        subst ec2
        have hlst : (f.1.set k (rr + 1, (f.1.getD k nd0).2)).length = nn := by simp; omega
        rw [hlst] at RF
        have HF : Hid _ := RF
        have hs2 : w.heap.size + 2 ≤ w2.heap.size := by have := I.hP; omega
        clear RF IR S I r hlst
        go_wp2
        refine bodyPost_ret (v := .agg #[.int .i64 0, .int .i64 (k : Int), .slice (some ⟨gN, 0, none⟩) nn vc, .slice bb nb bc]) (by simp [results, Try.results57, go_sem, z0, z1, z2, z3]) rfl ⟨_, _, _, _, _, _, K', rfl, ?_, ?_⟩
        · refine FoAt.widen (FoAt.kept HF.out (l := w.heap.size + 1) (u := w.heap.size + 2) ?_ (by omega)) (by omega) (by simp)
          refine Kept.setCell (Kept.setCell (Kept.setCell (Kept.setCell (Kept.refl _ _ _) ?_ ?_ _) ?_ ?_ _) ?_ ?_ _) ?_ ?_ _ <;> simp
        · refine Below.setCell (Below.setCell (Below.setCell (Below.setCell B ?_ _) ?_ _) ?_ _) ?_ _ <;> simp
    · have t0 : shareTCode f root = 0 := by rw [shareTCode, if_pos h0, if_neg (fun hx => hr0 hx.1)]
      have t1 : shareFo f root = f := by rw [shareFo, t0, foIf, if_pos rfl, shareF, if_neg hr0]
      rw [t0] at hc hr
      rw [t1] at hf
      obtain rfl : rt = root := hr.symm
      subst hc
      subst hf
      have hr0' : ¬ (0 : Int) ≤ rt := hr0
      clear h0 T t0 t1 hr hr0
      go_enter Try.func57, Try.ntmps57
      go_wp2_with fail
      refine (l4Asked_is w.heap.size an nn cn ab nb cb K f _ (by exact r) g0 g1 hn hb hK rt 0 0 H0.out).mono ?_
      rintro e w1 ⟨rfl, hb1⟩
      replace z0 := cell_later hb1 z0
      replace z1 := cell_later hb1 z1
      replace z2 := cell_later hb1 z2
      replace z3 := cell_later hb1 z3
      replace y0 := frozen_later hb1 hz y0
      replace y1 := frozen_later hb1 hz y1
      replace y2 := frozen_later hb1 hz y2
      replace y3 := frozen_later hb1 hz y3
      replace g0 := cell_later hb1 g0
      replace g1 := cell_later hb1 g1
      replace r := r.below hb1
      replace hz := Nat.lt_of_lt_of_le hz hb1.size
      replace B := below_next B hb1
      clear hb1
      have hz0 := hz
      go_wp2_with fail
      refine (l4Copy_any an nn cn ab nb cb K f _ (by exact r) HN.out.1 HN.out.2.1 HN.out.2.2).mono ?_
      rintro e w2 ⟨va, vc, bb, bc, K', rfl, I, hb1⟩
      replace z0 := cell_later hb1 z0
      replace z1 := cell_later hb1 z1
      replace z2 := cell_later hb1 z2
      replace z3 := cell_later hb1 z3
      replace y0 := frozen_later hb1 hz y0
      replace y1 := frozen_later hb1 hz y1
      replace y2 := frozen_later hb1 hz y2
      replace y3 := frozen_later hb1 hz y3
      replace g0 := cell_later hb1 g0
      replace g1 := cell_later hb1 g1
      replace r := r.below hb1
      replace hz := Nat.lt_of_lt_of_le hz hb1.size
      replace B := below_next B hb1
      clear hb1
      have A : Below w2.heap.size w2 (w2.alloc (.cells #[.slice va nn vc, .slice bb nb bc] 60)) := (Below.refl _ _).alloc (Nat.le_refl _) _
      replace z0 := cell_later A z0
      replace z1 := cell_later A z1
      replace z2 := cell_later A z2
      replace z3 := cell_later A z3
      replace y0 := frozen_later A hz y0
      replace y1 := frozen_later A hz y1
      replace y2 := frozen_later A hz y2
      replace y3 := frozen_later A hz y3
      replace g0 := cell_later A g0
      replace g1 := cell_later A g1
      replace r := r.below A
      replace hz := Nat.lt_of_lt_of_le hz A.size
      replace B := below_next B A
      clear A
      have hlo := hz0
      have c0 := I.c0
      have c1 := I.c1
      obtain ⟨_, _, ev2, RF⟩ := I.read
      injection ev2 with ea2 en2 ec2
      clear en2
      subst ea2
      subst ec2
      rw [hl] at RF
      have HF : Hid _ := RF
      have hs2 : w.heap.size + 2 ≤ w2.heap.size := by have := I.hP; omega
      clear RF I r
      go_wp2
      refine bodyPost_ret (v := .agg #[.int .i64 0, .int .i64 rt, .slice va nn vc, .slice bb nb bc]) (by simp [results, Try.results57, go_sem, z0, z1, z2, z3]) rfl ⟨_, _, _, _, _, _, K', rfl, ?_, ?_⟩
      · refine FoAt.widen (FoAt.kept HF.out (l := w.heap.size + 1) (u := w.heap.size + 2) ?_ (by omega)) (by omega) (by simp)
        refine Kept.setCell (Kept.setCell (Kept.setCell (Kept.setCell (Kept.refl _ _ _) ?_ ?_ _) ?_ ?_ _) ?_ ?_ _) ?_ ?_ _ <;> simp
      · refine Below.setCell (Below.setCell (Below.setCell (Below.setCell B ?_ _) ?_ _) ?_ _) ?_ _ <;> simp
  · obtain ⟨c, hcc⟩ : ∃ c, treeCode f root 0 = c := ⟨_, rfl⟩
    have t0 : shareTCode f root = c := by rw [shareTCode, if_neg h0, hcc]
    rw [hcc] at h0
    have t1 : shareFo f root = ([], []) := by rw [shareFo, t0, foIf, if_neg h0]
    rw [t0] at hc hr
    rw [t1] at hf
    subst hc
    subst hf
    obtain rfl : rt = 0 := by rw [← hr, atIf, if_neg h0]
    have HC : Hid _ := hcc
    have hne : (c != 0) = true := by simp [h0]
    clear h0 hcc t0 t1 hr
    go_enter Try.func57, Try.ntmps57
    go_wp2_with fail
    refine (l4Asked_is w.heap.size an nn cn ab nb cb K f _ (by exact r) g0 g1 hn hb hK root 0 c HC.out).mono ?_
    rintro e w1 ⟨rfl, hb1⟩
    replace z0 := cell_later hb1 z0
    replace z1 := cell_later hb1 z1
    replace z2 := cell_later hb1 z2
    replace z3 := cell_later hb1 z3
    replace y0 := frozen_later hb1 hz y0
    replace y1 := frozen_later hb1 hz y1
    replace y2 := frozen_later hb1 hz y2
    replace y3 := frozen_later hb1 hz y3
    replace g0 := cell_later hb1 g0
    replace g1 := cell_later hb1 g1
    replace r := r.below hb1
    replace hz := Nat.lt_of_lt_of_le hz hb1.size
    replace B := below_next B hb1
    clear hb1
    go_wp2_with fail
    refine (l4Bad_any c _).mono ?_
    rintro e wb ⟨rfl, hb1⟩
    replace z0 := cell_later hb1 z0
    replace z1 := cell_later hb1 z1
    replace z2 := cell_later hb1 z2
    replace z3 := cell_later hb1 z3
    replace y0 := frozen_later hb1 hz y0
    replace y1 := frozen_later hb1 hz y1
    replace y2 := frozen_later hb1 hz y2
    replace y3 := frozen_later hb1 hz y3
    replace g0 := cell_later hb1 g0
    replace g1 := cell_later hb1 g1
    replace r := r.below hb1
    replace hz := Nat.lt_of_lt_of_le hz hb1.size
    replace B := below_next B hb1
    clear hb1
    go_wp2
    refine bodyPost_ret (v := .agg #[.int .i64 c, .int .i64 0, .slice none 0 0, .slice none 0 0]) (by simp [results, Try.results57, go_sem, z0, z1, z2, z3]) rfl ⟨_, _, _, _, _, _, _, rfl, FoAt.nil _ _ _ _, ?_⟩
    refine Below.setCell (Below.setCell (Below.setCell (Below.setCell B ?_ _) ?_ _) ?_ _) ?_ _ <;> simp

end Go.Proofs.Ytkdaphfmhdkhfaa

/- Chapter 4: one less refers to a node: what the model does. -/
namespace Go.Proofs.Ytkdaphfmhdkhfaa
open Go.RowKit

theorem clear_eq (ns : List Nd) (i : Nat) (hi : i < ns.length) (r : Int) (rest : Bool × List Int) : ((((ns.set i (r, rest)).set i (((ns.set i (r, rest)).getD i nd0).1, ((ns.set i (r, rest)).getD i nd0).2.1, [])).set i ((((ns.set i (r, rest)).set i (((ns.set i (r, rest)).getD i nd0).1, ((ns.set i (r, rest)).getD i nd0).2.1, [])).getD i nd0).1, false, (((ns.set i (r, rest)).set i (((ns.set i (r, rest)).getD i nd0).1, ((ns.set i (r, rest)).getD i nd0).2.1, [])).getD i nd0).2.2))) = ns.set i (r, false, []) := by
  rw [List.set_set, List.set_set]
  congr 1
  have h1 : (ns.set i (r, rest)).getD i nd0 = (r, rest) := by rw [set_getN _ _ _ _ hi, if_pos rfl]
  rw [h1, List.set_set, set_getN _ _ _ _ hi, if_pos rfl]

/-- the blocks that a change of nodes and blocks writes into -/
def inO (vn : Value) (ab : Option Addr) (nb : Nat) (x : Nat) : Prop := vn.ownBlock = some x ∨ (nb ≠ 0 ∧ x = sb ab)
theorem OutAt.bel {w w' : World} {lo P : Nat} {vn : Value} {ab : Option Addr} {nb cb : Nat} {K : Nat → KS} {f : Fo} (h : OutAt w lo P vn ab nb cb K f) (S : KeptS (inO vn ab nb) w w') : Below lo w w' :=
  ⟨S.os, S.tape, S.output, S.size, fun k hk => S.block k (by have := h.hP; omega) fun hx => by
    rcases hx with e | ⟨hne, e⟩
    · have := (h.own.lt k e).1; omega
    · have := (h.blk.block_lt hne).1; omega⟩
set_option maxRecDepth 20000 in
set_option maxHeartbeats 8000000 in
theorem l4Less_leaf {w : World} {lo P : Nat} {vn : Value} {ab : Option Addr} {nb cb : Nat} {K : Nat → KS} {f : Fo} (I : OutAt w lo P vn ab nb cb K f) (hnb : nb ≤ 24) {i : Nat} (hp : LeafPre f i) (L : Fo) (hL : lessLeaf f i = L) :
    Calls Try.prog 209 #[.pointer (some ⟨P, 0, none⟩), .int .i64 (i : Int)] w fun e w' => (∃ v, e = .returned v) ∧ (∃ K', OutAt w' lo P vn ab nb cb K' L) ∧ KeptS (inO vn ab nb) w w' := by
  have hi := hp.lt
  obtain ⟨g, cap, rfl, hg, d0, d1, d2, x0, x1, x2⟩ := I.node hi
  have c0 := I.c0
  have hil : (i : Int) < (f.1.length : Nat) := by omega
  obtain ⟨m, hm⟩ : ∃ m, f.1.length = m := ⟨_, rfl⟩
  rw [hm] at c0 hil
  have hgl : lo ≤ g := (I.own.lt g rfl).1
  have hgP : g ≠ P := fun e => I.sV (by simp [Value.ownBlock, e])
  obtain ⟨⟨r, lf, ks⟩, hnd⟩ : ∃ nd, f.1.getD i nd0 = nd := ⟨_, rfl⟩
  have hno : nodeOf f i = (r, lf, ks) := hnd
  have p1 := hp.lf; have p2 := hp.r1; have p3 := hp.r2; have p4 := hp.kl
  rw [hno] at p1 p2 p3 p4
  simp only at p1 p2 p3 p4
  subst p1
  rw [hnd] at d0 d1
  simp only at d0 d1
  have I1 := I.refs rfl hi (r - 1)
  rw [hnd] at I1
  simp only at I1
  by_cases hr : 0 < r - 1
  · have hLe : L = (f.1.set i (r - 1, true, ks), f.2) := by rw [← hL, lessLeaf, hno]; simp only; rw [if_pos hr]
    subst hLe
    rw [hm] at I1
    have HI : Hid _ := I1
    have B1 : KeptS (inO (.slice (some ⟨g, 0, none⟩) m cap) ab nb) w (w.setCell ⟨g, i * 3, none⟩ (.int .i64 (r - 1))) := by
      refine KeptS.setCell (KeptS.refl _ _) ?_ _; exact Or.inl rfl
    clear I1 hL hnd hno I hp
    rw [hm]
    go_enter Try.func209, Try.ntmps209
    go_wp2
    exact bodyPost_ret (v := .tuple #[]) (by simp [results, Try.results209, go_sem]) rfl ⟨⟨_, rfl⟩, ⟨_, HI.out⟩, B1⟩
  · obtain rfl : r = 1 := by omega
    have hLe : L = (f.1.set i (0, false, []), lessKids f.2 ks) := by rw [← hL, lessLeaf, hno]; rfl
    subst hLe
    have I2 := I1.kids (by simp) (i := i) (by simpa using hi) (none, 0, 0) [] (RowAt.nil _ _ _ _ _) (fun hx => absurd rfl hx)
    have I3 := I2.leaf (by simp) (i := i) (by simpa using hi) false
    simp only at I3
    rw [clear_eq f.1 i hi] at I3
    have hkr := (I.kid i hi).keptS (w' := ((w.setCell ⟨g, i * 3, none⟩ (.int .i64 0)).setCell ⟨g, i * 3 + 2, none⟩ (.slice none 0 0)).setCell ⟨g, i * 3 + 1, none⟩ (.bool false)) (S := fun x => x = g) (by refine KeptS.setCell (KeptS.setCell (KeptS.setCell (KeptS.refl _ _) ?_ _) ?_ _) ?_ _ <;> rfl) fun a hne e e2 => (I.sepK i hi hne).2.1 (by rw [e]; exact e2.symm)
    have B3 : KeptS (inO (.slice (some ⟨g, 0, none⟩) m cap) ab nb) w (((w.setCell ⟨g, i * 3, none⟩ (.int .i64 0)).setCell ⟨g, i * 3 + 2, none⟩ (.slice none 0 0)).setCell ⟨g, i * 3 + 1, none⟩ (.bool false)) := by
      refine KeptS.setCell (KeptS.setCell (KeptS.setCell (KeptS.refl _ _) ?_ _) ?_ _) ?_ _ <;> exact Or.inl rfl
    have hsB := fun hne => (I.sepK i hi hne).2.2
    have hsP := fun hne => (I.sepK i hi hne).1
    have hkn := hkr.nInts
    rw [hnd] at hkr hkn
    simp only at hkr hkn
    have hkd := hp.kd
    have hbl := hp.bl
    rw [hno] at hkd hbl
    simp only at hkd hbl
    replace hbl := hbl trivial
    have hnbl := I.blk.nPairs
    obtain ⟨⟨ka, kn, kc⟩, hks⟩ : ∃ q, K i = q := ⟨_, rfl⟩
    rw [hks] at hkr hkn d2 hsB hsP
    simp only at hkr hkn d2 hsB hsP
    obtain rfl : kn = 4 := by omega
    replace hsB := hsB (by decide)
    replace hsP := hsP (by decide)
    obtain ⟨bk, ok, rfl, _, _, hbk, _⟩ := hkr.cells (by decide)
    rw [hm] at I3
    have HI : Hid _ := I3
    have HK : Hid _ := hkr
    have HKD : Hid _ := hkd
    have HBL : Hid _ := hbl
    have HB3 : Hid _ := B3
    have hP := I.hP
    clear I1 I2 I3 hL hnd hno I hp hr hks hkr hkd hbl B3
    rw [hm]
    go_enter Try.func209, Try.ntmps209
    go_wp2
    go_loopw [7] (fun q wr => ∃ j : Nat, j ≤ 4 ∧ q = .int .i64 j ∧ (∃ K3, OutAt wr lo P (.slice (some ⟨g, 0, none⟩) m cap) ab nb cb K3 (f.1.set i (0, false, []), lessKids f.2 (ks.take j))) ∧ RowAt wr true lo w.heap.size 1 (some ⟨bk, ok, none⟩) 4 kc (ints ks) ∧ KeptS (inO (.slice (some ⟨g, 0, none⟩) m cap) ab nb) w wr) (fun q _ => 4 - (intOf q).toNat)
    case atStart => exact ⟨0, by omega, rfl, ⟨_, HI.out⟩, HK.out, HB3.out⟩
    case round =>
      clear HI HK HB3
      obtain ⟨j, hj, rfl, ⟨K3, I⟩, KR, B⟩ := hrel
      by_cases hlt : j < 4
      · obtain ⟨_, _, e', _, _, hbw, e1, _⟩ := KR.int hlt
        cases e'
        have hlj : (j : Int) < 4 := by omega
        have HT : Hid _ := lessKids_take f.2 ks j (by omega)
        have hkdj := HKD.out (ks.getD j 0) (getD_four p4 hlt)
        have hblj := HBL.out j
        obtain ⟨k, hk⟩ : ∃ k, ks.getD j 0 = k := ⟨_, rfl⟩
        rw [hk] at e1 HT hkdj
        have c1 := I.c1
        by_cases hk0 : k < 0
        · rw [if_pos hk0] at HT
          have HI : Hid _ := I
          clear I
          go_wp2
          go_roundw
          case rel => exact ⟨j + 1, by omega, by go_num, ⟨K3, by rw [HT.out]; exact HI.out⟩, KR, B⟩
          case measure => simp [intOf]; omega
        · rw [if_neg hk0] at HT
          obtain ⟨q, rfl⟩ : ∃ q : Nat, k = q := ⟨k.toNat, by omega⟩
          rw [Int.toNat_natCast] at HT hkdj
          have hqn : q < nb := by omega
          have hqi : (q : Int) < nb := by omega
          obtain ⟨gB, rfl⟩ := I.bf (by omega)
          have hone := blkOne_zero (hblj q)
          have hsep : bk ≠ gB := by simpa [sb] using hsB (by omega)
          have hPB : P ≠ gB := fun e => (I.sB (by omega)).1 (by simp [sb, e])
          have hgB : lo ≤ gB := (I.blk.block_lt (by omega)).1
          have HRB : Hid _ := I.blk.pin
          have HI : Hid _ := I
          have HKR : Hid _ := KR
          obtain ⟨X, hX⟩ : ∃ X, lessKids f.2 (ks.take j) = X := ⟨_, rfl⟩
          simp only at HRB
          rw [hX] at HRB hone HT HI
          clear I KR hblj hkdj hk hX
          have hne : nb ≠ 0 := by omega
          go_wp2_with fail
          go_region_held3 (fun w' => w'.cell? ⟨P, 1, none⟩ = some (.slice (some ⟨gB, 0, none⟩) nb cb) ∧ w'.cell? ⟨bk, ok + j, none⟩ = some (.int .i64 q)) (go_keep) (first | (go_at_call 201; refine (l3Drop_any gB nb cb X q _ (HRB.out.below (below_drewN (Below.refl _ _) _)) hqn hone.1 hone.2.1 _ rfl).mono ?_; rintro e w2 ⟨⟨v, rfl⟩, R2, K2⟩; have q1 := K2.cell c1 (by omega); have q2 := K2.cell e1 (by omega)))
          have I2 := (HI.out.below (below_drewN (Below.refl _ _) 1)).blocks hne K2 R2
          have KR2 := (HKR.out.below (below_drewN (Below.refl _ _) 1)).keptS (K2.toS (S := fun x => x = gB) fun x h1 h2 => by omega) fun a _ e => by cases e; exact hsep
          have B2 : KeptS (inO (.slice (some ⟨g, 0, none⟩) m cap) (some ⟨gB, 0, none⟩) nb) w w2 := (B.trans (KeptS.below (below_drewN (Below.refl _ _) 1))).trans (K2.toS fun x h1 h2 => Or.inr ⟨hne, by simp [sb]; omega⟩)
          have HI2 : Hid _ := I2
          have HB2 : Hid _ := B2
          have HKR2 : Hid _ := KR2
          clear R2 K2 q1 q2 c1 e1 I2 KR2 B2 B HI HKR HRB
          go_wp2
          go_roundw
          case rel => exact ⟨j + 1, by omega, by go_num, ⟨K3, by rw [HT.out]; exact HI2.out⟩, HKR2.out, HB2.out⟩
          case measure => simp [intOf]; omega
      · obtain rfl : j = 4 := by omega
        rw [List.take_of_length_le (by omega)] at I
        have HI : Hid _ := I
        clear I
        go_wp2
        exact bodyPost_end (v := .tuple #[]) (by simp [results, Try.results209, go_sem]) rfl ⟨⟨_, rfl⟩, ⟨K3, HI.out⟩, B⟩

end Go.Proofs.Ytkdaphfmhdkhfaa

/- Chapter 4: one less refers to a root: what the model does. -/
namespace Go.Proofs.Ytkdaphfmhdkhfaa
open Go.RowKit

set_option maxRecDepth 20000 in
set_option maxHeartbeats 8000000 in
theorem l4Less_root {w : World} {lo P : Nat} {vn : Value} {ab : Option Addr} {nb cb : Nat} {K : Nat → KS} {f : Fo} (I : OutAt w lo P vn ab nb cb K f) (hnb : nb ≤ 24) {i : Nat} (hp : RootPre f i) (L : Fo) (hL : lessRoot f i = L) :
    Calls Try.prog 209 #[.pointer (some ⟨P, 0, none⟩), .int .i64 (i : Int)] w fun e w' => (∃ v, e = .returned v) ∧ (∃ K', OutAt w' lo P vn ab nb cb K' L) ∧ KeptS (inO vn ab nb) w w' := by
  have hi := hp.lt
  obtain ⟨g, cap, rfl, hg, d0, d1, d2, x0, x1, x2⟩ := I.node hi
  have c0 := I.c0
  have hil : (i : Int) < (f.1.length : Nat) := by omega
  obtain ⟨m, hm⟩ : ∃ m, f.1.length = m := ⟨_, rfl⟩
  rw [hm] at c0 hil
  have hgl : lo ≤ g := (I.own.lt g rfl).1
  have hgP : g ≠ P := fun e => I.sV (by simp [Value.ownBlock, e])
  obtain ⟨⟨r, lf, ks⟩, hnd⟩ : ∃ nd, f.1.getD i nd0 = nd := ⟨_, rfl⟩
  have hno : nodeOf f i = (r, lf, ks) := hnd
  have p1 := hp.lf; have p2 := hp.r1; have p3 := hp.r2; have p4 := hp.kl
  rw [hno] at p1 p2 p3 p4
  simp only at p1 p2 p3 p4
  subst p1
  rw [hnd] at d0 d1
  simp only at d0 d1
  have I1 := I.refs rfl hi (r - 1)
  rw [hnd] at I1
  simp only at I1
  by_cases hr : 0 < r - 1
  · have hLe : L = (f.1.set i (r - 1, false, ks), f.2) := by rw [← hL, lessRoot, hno]; simp only; rw [if_pos hr]
    subst hLe
    rw [hm] at I1
    have HI : Hid _ := I1
    have B1 : KeptS (inO (.slice (some ⟨g, 0, none⟩) m cap) ab nb) w (w.setCell ⟨g, i * 3, none⟩ (.int .i64 (r - 1))) := by
      refine KeptS.setCell (KeptS.refl _ _) ?_ _; exact Or.inl rfl
    clear I1 hL hnd hno I hp
    rw [hm]
    go_enter Try.func209, Try.ntmps209
    go_wp2
    exact bodyPost_ret (v := .tuple #[]) (by simp [results, Try.results209, go_sem]) rfl ⟨⟨_, rfl⟩, ⟨_, HI.out⟩, B1⟩
  · obtain rfl : r = 1 := by omega
    have hLe : L = lessLeaves (f.1.set i (0, false, []), f.2) ks := by rw [← hL, lessRoot, hno]; rfl
    subst hLe
    have I2 := I1.kids (by simp) (i := i) (by simpa using hi) (none, 0, 0) [] (RowAt.nil _ _ _ _ _) (fun hx => absurd rfl hx)
    have I3 := I2.leaf (by simp) (i := i) (by simpa using hi) false
    simp only at I3
    rw [clear_eq f.1 i hi] at I3
    have hkr := (I.kid i hi).keptS (w' := ((w.setCell ⟨g, i * 3, none⟩ (.int .i64 0)).setCell ⟨g, i * 3 + 2, none⟩ (.slice none 0 0)).setCell ⟨g, i * 3 + 1, none⟩ (.bool false)) (S := fun x => x = g) (by refine KeptS.setCell (KeptS.setCell (KeptS.setCell (KeptS.refl _ _) ?_ _) ?_ _) ?_ _ <;> rfl) fun a hne e e2 => (I.sepK i hi hne).2.1 (by rw [e]; exact e2.symm)
    have B3 : KeptS (inO (.slice (some ⟨g, 0, none⟩) m cap) ab nb) w (((w.setCell ⟨g, i * 3, none⟩ (.int .i64 0)).setCell ⟨g, i * 3 + 2, none⟩ (.slice none 0 0)).setCell ⟨g, i * 3 + 1, none⟩ (.bool false)) := by
      refine KeptS.setCell (KeptS.setCell (KeptS.setCell (KeptS.refl _ _) ?_ _) ?_ _) ?_ _ <;> exact Or.inl rfl
    have hsB := fun hne => (I.sepK i hi hne).2.2
    have hsP := fun hne => (I.sepK i hi hne).1
    have hkn := hkr.nInts
    rw [hnd] at hkr hkn
    simp only at hkr hkn
    have hln := hp.ln
    rw [hno] at hln
    simp only at hln
    replace hln := hln trivial
    have hsG := fun hne => (I.sepK i hi hne).2.1
    obtain ⟨⟨ka, kn, kc⟩, hks⟩ : ∃ q, K i = q := ⟨_, rfl⟩
    rw [hks] at hkr hkn d2 hsB hsP hsG
    simp only at hkr hkn d2 hsB hsP hsG
    obtain rfl : kn = 4 := by omega
    replace hsB := hsB (by decide)
    replace hsP := hsP (by decide)
    replace hsG := hsG (by decide)
    obtain ⟨bk, ok, rfl, _, _, hbk, _⟩ := hkr.cells (by decide)
    rw [hm] at I3
    have HI : Hid _ := I3
    have HK : Hid _ := hkr
    have HLN : Hid _ := hln
    have HB3 : Hid _ := B3
    have hP := I.hP
    clear I1 I2 I3 hL hnd hno I hp hr hks hkr hln B3
    rw [hm]
    go_enter Try.func209, Try.ntmps209
    go_wp2
    go_loopw [7] (fun q wr => ∃ j : Nat, j ≤ 4 ∧ q = .int .i64 j ∧ (∃ K3, OutAt wr lo P (.slice (some ⟨g, 0, none⟩) m cap) ab nb cb K3 (lessLeaves (f.1.set i (0, false, []), f.2) (ks.take j))) ∧ RowAt wr true lo w.heap.size 1 (some ⟨bk, ok, none⟩) 4 kc (ints ks) ∧ KeptS (inO (.slice (some ⟨g, 0, none⟩) m cap) ab nb) w wr) (fun q _ => 4 - (intOf q).toNat)
    case atStart => exact ⟨0, by omega, rfl, ⟨_, HI.out⟩, HK.out, HB3.out⟩
    case round =>
      clear HI HK HB3
      obtain ⟨j, hj, rfl, ⟨K3, I⟩, KR, B⟩ := hrel
      by_cases hlt : j < 4
      · obtain ⟨_, _, e', _, _, hbw, e1, _⟩ := KR.int hlt
        cases e'
        have hlj : (j : Int) < 4 := by omega
        have HT : Hid _ := lessLeaves_take (f.1.set i (0, false, []), f.2) ks j (by omega)
        have hlnj := (HLN.out j hlt).1
        obtain ⟨k, hk⟩ : ∃ k, ks.getD j 0 = k := ⟨_, rfl⟩
        rw [hk] at e1 HT hlnj
        clear hk
        obtain ⟨X, hX⟩ : ∃ X, lessLeaves (f.1.set i (0, false, []), f.2) (ks.take j) = X := ⟨_, rfl⟩
        rw [hX] at HT hlnj I
        clear hX
        by_cases hk0 : k < 0
        · rw [if_pos hk0] at HT
          have HI : Hid _ := I
          clear I hlnj
          go_wp2
          go_roundw
          case rel => exact ⟨j + 1, by omega, by go_num, ⟨K3, by rw [HT.out]; exact HI.out⟩, KR, B⟩
          case measure => simp [intOf]; omega
        · rw [if_neg hk0] at HT
          obtain ⟨q, rfl⟩ : ∃ q : Nat, k = q := ⟨k.toNat, by omega⟩
          rw [Int.toNat_natCast] at HT hlnj
          have HP : Hid _ := hlnj.resolve_left (by omega)
          have HI : Hid _ := I
          have HKR : Hid _ := KR
          clear I KR hlnj
          go_wp2_with fail
          refine (l4Less_leaf HI.out hnb HP.out _ rfl).mono ?_
          rintro e w2 ⟨⟨v, rfl⟩, ⟨K4, I2⟩, S2⟩
          have KR2 := HKR.out.keptS S2 fun a _ e hx => by
            cases e
            rcases hx with e2 | ⟨hne, e2⟩
            · simp [Value.ownBlock] at e2; exact hsG (by simp [sb]; exact e2)
            · exact hsB hne (by simpa [sb] using e2)
          have B2 := B.trans S2
          have HI2 : Hid _ := I2
          have HB2 : Hid _ := B2
          have HKR2 : Hid _ := KR2
          clear e1 I2 KR2 B2 B HI HKR S2
          go_wp2
          go_roundw
          case rel => exact ⟨j + 1, by omega, by go_num, ⟨K4, by rw [HT.out]; exact HI2.out⟩, HKR2.out, HB2.out⟩
          case measure => simp [intOf]; omega
      · obtain rfl : j = 4 := by omega
        rw [List.take_of_length_le (by omega)] at I
        have HI : Hid _ := I
        clear I
        go_wp2
        exact bodyPost_end (v := .tuple #[]) (by simp [results, Try.results209, go_sem]) rfl ⟨⟨_, rfl⟩, ⟨K3, HI.out⟩, B⟩

end Go.Proofs.Ytkdaphfmhdkhfaa

/- Chapter 4: the model's DropTree. -/
namespace Go.Proofs.Ytkdaphfmhdkhfaa
open Go.RowKit

set_option maxRecDepth 20000 in
set_option maxHeartbeats 4000000 in
theorem specDropT_is {o : Bool} {l u : Nat} (an : Option Addr) (nn cn : Nat) (ab : Option Addr) (nb cb : Nat) (K : Nat → KS) (f : Fo) (w : World) (h : FoAt w o l u an nn cn ab nb cb K f) (hn : nn ≤ 2097152) (hb : nb ≤ 2097152) (hK : ∀ i, i < nn → (K i).2.1 ≤ 2097152) (root : Int) (cd rt : Int) (g : Fo) (hc : treeCode f root 0 = cd) (hr : dropRoot f root = rt) (hf : dropFo f root = g) : Calls Try.prog 119 #[.agg #[.slice an nn cn, .slice ab nb cb], .int .i64 root] w fun e w' => FoRes false w w' e cd rt g := by
  have B : Below w.heap.size w ((w.alloc (.cells #[.slice an nn cn, .slice ab nb cb] 60)).alloc (.cells #[.int .i64 0, .int .i64 0, .slice none 0 0, .slice none 0 0] 64)) := ((Below.refl _ _).alloc (Nat.le_refl _) _).alloc (by simp) _
  have g0 : ((w.alloc (.cells #[.slice an nn cn, .slice ab nb cb] 60)).alloc (.cells #[.int .i64 0, .int .i64 0, .slice none 0 0, .slice none 0 0] 64)).cell? ⟨w.heap.size, 0, none⟩ = some (.slice an nn cn) := by simp
  have g1 : ((w.alloc (.cells #[.slice an nn cn, .slice ab nb cb] 60)).alloc (.cells #[.int .i64 0, .int .i64 0, .slice none 0 0, .slice none 0 0] 64)).cell? ⟨w.heap.size, 1, none⟩ = some (.slice ab nb cb) := by simp
  have z0 : ((w.alloc (.cells #[.slice an nn cn, .slice ab nb cb] 60)).alloc (.cells #[.int .i64 0, .int .i64 0, .slice none 0 0, .slice none 0 0] 64)).cell? ⟨w.heap.size + 1, 0, none⟩ = some (.int .i64 0) := by simp
  have z1 : ((w.alloc (.cells #[.slice an nn cn, .slice ab nb cb] 60)).alloc (.cells #[.int .i64 0, .int .i64 0, .slice none 0 0, .slice none 0 0] 64)).cell? ⟨w.heap.size + 1, 1, none⟩ = some (.int .i64 0) := by simp
  have z2 : ((w.alloc (.cells #[.slice an nn cn, .slice ab nb cb] 60)).alloc (.cells #[.int .i64 0, .int .i64 0, .slice none 0 0, .slice none 0 0] 64)).cell? ⟨w.heap.size + 1, 2, none⟩ = some (.slice none 0 0) := by simp
  have z3 : ((w.alloc (.cells #[.slice an nn cn, .slice ab nb cb] 60)).alloc (.cells #[.int .i64 0, .int .i64 0, .slice none 0 0, .slice none 0 0] 64)).cell? ⟨w.heap.size + 1, 3, none⟩ = some (.slice none 0 0) := by simp
  have y0 : ((w.alloc (.cells #[.slice an nn cn, .slice ab nb cb] 60)).alloc (.cells #[.int .i64 0, .int .i64 0, .slice none 0 0, .slice none 0 0] 64)).frozen? ⟨w.heap.size + 1, 0, none⟩ = false := by simp
  have y1 : ((w.alloc (.cells #[.slice an nn cn, .slice ab nb cb] 60)).alloc (.cells #[.int .i64 0, .int .i64 0, .slice none 0 0, .slice none 0 0] 64)).frozen? ⟨w.heap.size + 1, 1, none⟩ = false := by simp
  have y2 : ((w.alloc (.cells #[.slice an nn cn, .slice ab nb cb] 60)).alloc (.cells #[.int .i64 0, .int .i64 0, .slice none 0 0, .slice none 0 0] 64)).frozen? ⟨w.heap.size + 1, 2, none⟩ = false := by simp
  have y3 : ((w.alloc (.cells #[.slice an nn cn, .slice ab nb cb] 60)).alloc (.cells #[.int .i64 0, .int .i64 0, .slice none 0 0, .slice none 0 0] 64)).frozen? ⟨w.heap.size + 1, 3, none⟩ = false := by simp
  have hz : w.heap.size + 1 < ((w.alloc (.cells #[.slice an nn cn, .slice ab nb cb] 60)).alloc (.cells #[.int .i64 0, .int .i64 0, .slice none 0 0, .slice none 0 0] 64)).heap.size := by simp
  have r := h.below B
  have hl := h.nodes.len
  by_cases h0 : treeCode f root 0 = 0
  · have H0 : Hid _ := h0
    have T := tree_of h0
    have HN : Hid _ := fo_small h T.right.inv
    have t1 : dropFo f root = dropF f root := by rw [dropFo, h0]; rfl
    have t2 : dropRoot f root = -1 := by rw [dropRoot, h0]; rfl
    rw [h0] at hc
    rw [t1] at hf
    rw [t2] at hr
    subst hc
    subst hr
    by_cases hr0 : 0 ≤ root
    · obtain ⟨_, r1, r2⟩ := T.ro.resolve_left (by omega)
      obtain ⟨k, rfl⟩ : ∃ k : Nat, root = k := ⟨root.toNat, by omega⟩
      rw [Int.toNat_natCast] at r1 r2
      have HP : Hid _ := rootPre_of T.right.inv (fun j => by rw [extB_zero T.right]; decide) (ext_pos T.right) r1 r2
      have HG : Hid (lessRoot f k = g) := by show _ = _; rw [← hf, dropF, if_pos hr0, Int.toNat_natCast]
      have HL : Hid _ := (lessRoot_ok T.right.inv (fun j => by rw [extB_zero T.right]; decide) (ext_pos T.right) r1 r2).1.ln
      rw [HG.out] at HL
      clear h0 T t1 t2 hf r1 r2
      go_enter Try.func119, Try.ntmps119
      go_wp2_with fail
      refine (l4Asked_is w.heap.size an nn cn ab nb cb K f _ (by exact r) g0 g1 hn hb hK (k : Int) 0 0 H0.out).mono ?_
      rintro e w1 ⟨rfl, hb1⟩
      replace z0 := cell_later hb1 z0
      replace z1 := cell_later hb1 z1
      replace z2 := cell_later hb1 z2
      replace z3 := cell_later hb1 z3
      replace y0 := frozen_later hb1 hz y0
      replace y1 := frozen_later hb1 hz y1
      replace y2 := frozen_later hb1 hz y2
      replace y3 := frozen_later hb1 hz y3
      replace g0 := cell_later hb1 g0
      replace g1 := cell_later hb1 g1
      replace r := r.below hb1
      replace hz := Nat.lt_of_lt_of_le hz hb1.size
      replace B := below_next B hb1
      clear hb1
      have hz0 := hz
      go_wp2_with fail
      refine (l4Copy_any an nn cn ab nb cb K f _ (by exact r) HN.out.1 HN.out.2.1 HN.out.2.2).mono ?_
      rintro e w2 ⟨va, vc, bb, bc, K', rfl, I, hb1⟩
      replace z0 := cell_later hb1 z0
      replace z1 := cell_later hb1 z1
      replace z2 := cell_later hb1 z2
      replace z3 := cell_later hb1 z3
      replace y0 := frozen_later hb1 hz y0
      replace y1 := frozen_later hb1 hz y1
      replace y2 := frozen_later hb1 hz y2
      replace y3 := frozen_later hb1 hz y3
      replace g0 := cell_later hb1 g0
      replace g1 := cell_later hb1 g1
      replace r := r.below hb1
      replace hz := Nat.lt_of_lt_of_le hz hb1.size
      replace B := below_next B hb1
      clear hb1
      have A : Below w2.heap.size w2 (w2.alloc (.cells #[.slice va nn vc, .slice bb nb bc] 60)) := (Below.refl _ _).alloc (Nat.le_refl _) _
      replace z0 := cell_later A z0
      replace z1 := cell_later A z1
      replace z2 := cell_later A z2
      replace z3 := cell_later A z3
      replace y0 := frozen_later A hz y0
      replace y1 := frozen_later A hz y1
      replace y2 := frozen_later A hz y2
      replace y3 := frozen_later A hz y3
      replace g0 := cell_later A g0
      replace g1 := cell_later A g1
      replace r := r.below A
      replace hz := Nat.lt_of_lt_of_le hz A.size
      replace B := below_next B A
      clear A
      have hlo := hz0
      have hnb : nb ≤ 24 := HN.out.2.1
      have c0 := I.c0
      have c1 := I.c1
      have hP := I.hP
      go_wp2_with fail
      refine (l4Less_root I hnb HP.out g HG.out).mono ?_
      rintro e w3 ⟨⟨v, rfl⟩, ⟨K3, I3⟩, S3⟩
      have hbl := I.bel S3
      replace z0 := (hbl.cell (p := ⟨w.heap.size + 1, 0, none⟩) (by show w.heap.size + 1 < _; omega)).trans z0
      replace z1 := (hbl.cell (p := ⟨w.heap.size + 1, 1, none⟩) (by show w.heap.size + 1 < _; omega)).trans z1
      replace z2 := (hbl.cell (p := ⟨w.heap.size + 1, 2, none⟩) (by show w.heap.size + 1 < _; omega)).trans z2
      replace z3 := (hbl.cell (p := ⟨w.heap.size + 1, 3, none⟩) (by show w.heap.size + 1 < _; omega)).trans z3
      replace y0 := (hbl.frozen (p := ⟨w.heap.size + 1, 0, none⟩) (by show w.heap.size + 1 < _; omega)).trans y0
      replace y1 := (hbl.frozen (p := ⟨w.heap.size + 1, 1, none⟩) (by show w.heap.size + 1 < _; omega)).trans y1
      replace y2 := (hbl.frozen (p := ⟨w.heap.size + 1, 2, none⟩) (by show w.heap.size + 1 < _; omega)).trans y2
      replace y3 := (hbl.frozen (p := ⟨w.heap.size + 1, 3, none⟩) (by show w.heap.size + 1 < _; omega)).trans y3
      replace B := B.trans (hbl.mono (by omega))
      replace c0 := I3.c0
      replace c1 := I3.c1
      obtain ⟨_, _, ev2, RF⟩ := I3.read
      injection ev2 with ea2 en2 ec2
      clear en2
      subst ea2
      subst ec2
      rw [HL.out, hl] at RF
      have HF : Hid _ := RF
      clear RF I I3 r S3 hbl
      go_wp2
      refine bodyPost_ret (v := .agg #[.int .i64 0, .int .i64 (-1), .slice va nn vc, .slice bb nb bc]) (by simp [results, Try.results119, go_sem, z0, z1, z2, z3]) rfl ⟨_, _, _, _, _, _, K3, rfl, ?_, ?_⟩
      · refine FoAt.widen (FoAt.kept HF.out (l := w.heap.size + 1) (u := w.heap.size + 2) ?_ (by omega)) (by omega) (by simp)
        refine Kept.setCell (Kept.setCell (Kept.setCell (Kept.setCell (Kept.refl _ _ _) ?_ ?_ _) ?_ ?_ _) ?_ ?_ _) ?_ ?_ _ <;> simp
      · refine Below.setCell (Below.setCell (Below.setCell (Below.setCell B ?_ _) ?_ _) ?_ _) ?_ _ <;> simp
    · have t3 : f = g := by rw [← hf, dropF, if_neg hr0]
      subst t3
      clear h0 T t1 t2 hf
      go_enter Try.func119, Try.ntmps119
      go_wp2_with fail
      refine (l4Asked_is w.heap.size an nn cn ab nb cb K f _ (by exact r) g0 g1 hn hb hK root 0 0 H0.out).mono ?_
      rintro e w1 ⟨rfl, hb1⟩
      replace z0 := cell_later hb1 z0
      replace z1 := cell_later hb1 z1
      replace z2 := cell_later hb1 z2
      replace z3 := cell_later hb1 z3
      replace y0 := frozen_later hb1 hz y0
      replace y1 := frozen_later hb1 hz y1
      replace y2 := frozen_later hb1 hz y2
      replace y3 := frozen_later hb1 hz y3
      replace g0 := cell_later hb1 g0
      replace g1 := cell_later hb1 g1
      replace r := r.below hb1
      replace hz := Nat.lt_of_lt_of_le hz hb1.size
      replace B := below_next B hb1
      clear hb1
      have hz0 := hz
      go_wp2_with fail
      refine (l4Copy_any an nn cn ab nb cb K f _ (by exact r) HN.out.1 HN.out.2.1 HN.out.2.2).mono ?_
      rintro e w2 ⟨va, vc, bb, bc, K', rfl, I, hb1⟩
      replace z0 := cell_later hb1 z0
      replace z1 := cell_later hb1 z1
      replace z2 := cell_later hb1 z2
      replace z3 := cell_later hb1 z3
      replace y0 := frozen_later hb1 hz y0
      replace y1 := frozen_later hb1 hz y1
      replace y2 := frozen_later hb1 hz y2
      replace y3 := frozen_later hb1 hz y3
      replace g0 := cell_later hb1 g0
      replace g1 := cell_later hb1 g1
      replace r := r.below hb1
      replace hz := Nat.lt_of_lt_of_le hz hb1.size
      replace B := below_next B hb1
      clear hb1
      have A : Below w2.heap.size w2 (w2.alloc (.cells #[.slice va nn vc, .slice bb nb bc] 60)) := (Below.refl _ _).alloc (Nat.le_refl _) _
      replace z0 := cell_later A z0
      replace z1 := cell_later A z1
      replace z2 := cell_later A z2
      replace z3 := cell_later A z3
      replace y0 := frozen_later A hz y0
      replace y1 := frozen_later A hz y1
      replace y2 := frozen_later A hz y2
      replace y3 := frozen_later A hz y3
      replace g0 := cell_later A g0
      replace g1 := cell_later A g1
      replace r := r.below A
      replace hz := Nat.lt_of_lt_of_le hz A.size
      replace B := below_next B A
      clear A
      have hlo := hz0
      have c0 := I.c0
      have c1 := I.c1
      have hP := I.hP
      obtain ⟨_, _, ev2, RF⟩ := I.read
      injection ev2 with ea2 en2 ec2
      clear en2
      subst ea2
      subst ec2
      rw [hl] at RF
      have HF : Hid _ := RF
      clear RF I r
      go_wp2
      refine bodyPost_ret (v := .agg #[.int .i64 0, .int .i64 (-1), .slice va nn vc, .slice bb nb bc]) (by simp [results, Try.results119, go_sem, z0, z1, z2, z3]) rfl ⟨_, _, _, _, _, _, K', rfl, ?_, ?_⟩
      · refine FoAt.widen (FoAt.kept HF.out (l := w.heap.size + 1) (u := w.heap.size + 2) ?_ (by omega)) (by omega) (by simp)
        refine Kept.setCell (Kept.setCell (Kept.setCell (Kept.setCell (Kept.refl _ _ _) ?_ ?_ _) ?_ ?_ _) ?_ ?_ _) ?_ ?_ _ <;> simp
      · refine Below.setCell (Below.setCell (Below.setCell (Below.setCell B ?_ _) ?_ _) ?_ _) ?_ _ <;> simp
  · obtain ⟨c, hcc⟩ : ∃ c, treeCode f root 0 = c := ⟨_, rfl⟩
    rw [hcc] at h0 hc
    have t1 : dropFo f root = ([], []) := by rw [dropFo, hcc, foIf, if_neg h0]
    have t2 : dropRoot f root = 0 := by rw [dropRoot, hcc, atIf, if_neg h0]
    rw [t1] at hf
    rw [t2] at hr
    subst hc
    subst hr
    subst hf
    have HC : Hid _ := hcc
    have hne : (c != 0) = true := by simp [h0]
    clear h0 hcc t1 t2
    go_enter Try.func119, Try.ntmps119
    go_wp2_with fail
    refine (l4Asked_is w.heap.size an nn cn ab nb cb K f _ (by exact r) g0 g1 hn hb hK root 0 c HC.out).mono ?_
    rintro e w1 ⟨rfl, hb1⟩
    replace z0 := cell_later hb1 z0
    replace z1 := cell_later hb1 z1
    replace z2 := cell_later hb1 z2
    replace z3 := cell_later hb1 z3
    replace y0 := frozen_later hb1 hz y0
    replace y1 := frozen_later hb1 hz y1
    replace y2 := frozen_later hb1 hz y2
    replace y3 := frozen_later hb1 hz y3
    replace g0 := cell_later hb1 g0
    replace g1 := cell_later hb1 g1
    replace r := r.below hb1
    replace hz := Nat.lt_of_lt_of_le hz hb1.size
    replace B := below_next B hb1
    clear hb1
    go_wp2_with fail
    refine (l4Bad_any c _).mono ?_
    rintro e wb ⟨rfl, hb1⟩
    replace z0 := cell_later hb1 z0
    replace z1 := cell_later hb1 z1
    replace z2 := cell_later hb1 z2
    replace z3 := cell_later hb1 z3
    replace y0 := frozen_later hb1 hz y0
    replace y1 := frozen_later hb1 hz y1
    replace y2 := frozen_later hb1 hz y2
    replace y3 := frozen_later hb1 hz y3
    replace g0 := cell_later hb1 g0
    replace g1 := cell_later hb1 g1
    replace r := r.below hb1
    replace hz := Nat.lt_of_lt_of_le hz hb1.size
    replace B := below_next B hb1
    clear hb1
    go_wp2
    refine bodyPost_ret (v := .agg #[.int .i64 c, .int .i64 0, .slice none 0 0, .slice none 0 0]) (by simp [results, Try.results119, go_sem, z0, z1, z2, z3]) rfl ⟨_, _, _, _, _, _, _, rfl, FoAt.nil _ _ _ _, ?_⟩
    refine Below.setCell (Below.setCell (Below.setCell (Below.setCell B ?_ _) ?_ _) ?_ _) ?_ _ <;> simp

end Go.Proofs.Ytkdaphfmhdkhfaa

/- Chapter 4: kids that are none, kids with another one: what the model answers. -/
namespace Go.Proofs.Ytkdaphfmhdkhfaa
open Go.RowKit

theorem none_bad {ks : List Int} {j : Nat} (hj : j < ks.length) (h : 0 ≤ ks.getD j 0) : noneOf ks = false := by
  rw [Bool.eq_false_iff]
  intro hc
  unfold noneOf at hc
  rw [List.all_eq_true] at hc
  have := of_decide_eq_true (hc (ks.getD j 0) (by rw [List.getD_eq_getElem?_getD, List.getElem?_eq_getElem hj]; exact List.getElem_mem hj))
  omega
theorem none_all {ks : List Int} (h : ∀ j, j < ks.length → ks.getD j 0 < 0) : noneOf ks = true := by
  unfold noneOf
  rw [List.all_eq_true]
  intro x hx
  obtain ⟨j, hj, rfl⟩ := List.mem_iff_getElem.1 hx
  have := h j hj
  exact decide_eq_true (by simpa [List.getD, hj] using this)
theorem l4None_is {o : Bool} {l u : Nat} (ka : Option Addr) (kn kc : Nat) (ks : List Int) (w : World) (h : RowAt w o l u 1 ka kn kc (ints ks)) (hn : kn ≤ 2097152) (d : Bool) (hd : noneOf ks = d) :
    Calls Try.prog 277 #[.slice ka kn kc] w fun e w' => e = .returned (.bool d) ∧ w' = w := by
  have hl := h.nInts
  have HD : Hid _ := hd
  clear hd
  go_enter Try.func277, Try.ntmps277
  go_wp2
  go_loop [3] (fun i => ∃ k : Nat, k ≤ kn ∧ i = .int .i64 k ∧ ∀ j, j < k → ks.getD j 0 < 0) (fun i => kn - (intOf i).toNat)
  case atStart => exact ⟨0, by omega, rfl, fun j hj => absurd hj (by omega)⟩
  case round =>
    obtain ⟨k, hk, rfl, ha⟩ := hrel
    have HA : Hid _ := ha
    clear ha
    by_cases hlt : k < kn
    · obtain ⟨b, off, rfl, _, _, _, e1, _⟩ := h.int hlt
      have hlk : (k : Int) < (kn : Int) := by omega
      have HB : Hid (0 ≤ ks.getD k 0 → noneOf ks = false) := fun hx => none_bad (by omega) hx
      have HN : Hid (ks.getD k 0 < 0 → ∀ j, j < k + 1 → ks.getD j 0 < 0) := fun h0 j hj => by
        by_cases e : j = k
        · subst e; exact h0
        · exact HA.out j (by omega)
      obtain ⟨x, hx⟩ : ∃ x, ks.getD k 0 = x := ⟨_, rfl⟩
      rw [hx] at e1 HB HN
      clear hx
      by_cases h0 : 0 ≤ x
      · have HF : Hid _ := HB.out h0
        go_wp2
        go_ret
        exact ⟨ret_bool (by rw [← HD.out, HF.out]), rfl⟩
      · have HF : Hid _ := HN.out (by omega)
        go_wp2
        go_round
        case rel => exact ⟨k + 1, by omega, by go_num, HF.out⟩
        case measure => simp [intOf]; omega
    · obtain rfl : k = kn := by omega
      have HF : Hid (noneOf ks = true) := none_all fun j hj => HA.out j (by omega)
      go_wp2
      go_ret
      exact ⟨ret_bool (by rw [← HD.out, HF.out]), rfl⟩

def mix (ks : List Int) (j : Nat) : List Int := (List.range 4).map fun q => if q < j then ks.getD q 0 else -1
theorem mix_len (ks : List Int) (j : Nat) : (mix ks j).length = 4 := by simp [mix]
theorem mix_set (ks : List Int) (j : Nat) : (ints (mix ks j)).set j (.int .i64 (ks.getD j 0)) = ints (mix ks (j + 1)) := by
  unfold ints
  rw [← List.map_set]
  congr 1
  refine List.ext_getElem (by simp [mix]) fun q h1 h2 => ?_
  rw [List.getElem_set]
  simp only [mix, List.getElem_map, List.getElem_range]
  by_cases e : j = q
  · subst e; rw [if_pos rfl, if_pos (by omega)]
  · rw [if_neg e]
    by_cases e2 : q < j
    · rw [if_pos e2, if_pos (by omega)]
    · rw [if_neg e2, if_neg (by omega)]
theorem mix_with {ks : List Int} (h : ks.length = 4 ∨ ks = []) (i : Nat) (k : Int) : (mix ks ks.length).set i k = withKid ks i k := by
  unfold withKid
  congr 1
  rcases h with h | rfl
  · match ks, h with
    | [a, b, c, d], _ => rfl
  · rfl
set_option maxRecDepth 20000 in
set_option maxHeartbeats 2000000 in
theorem l4With_any {o : Bool} {l u : Nat} (ka : Option Addr) (kn kc : Nat) (ks : List Int) (w : World) (h : RowAt w o l u 1 ka kn kc (ints ks)) (h4 : ks.length = 4 ∨ ks = []) (i : Nat) (hi : i < 4) (x : Int) :
    Calls Try.prog 276 #[.slice ka kn kc, .int .i64 (i : Int), .int .i64 x] w fun e w' => e = .returned (.slice (some ⟨w.heap.size, 0, none⟩) 4 4) ∧ RowAt w' true w.heap.size (w.heap.size + 1) 1 (some ⟨w.heap.size, 0, none⟩) 4 4 (ints (withKid ks i x)) ∧ Below w.heap.size w w' := by
  have hl := h.nInts
  have hk4 : kn ≤ 4 := by
    rcases h4 with e | e
    · omega
    · rw [e] at hl; simp at hl; omega
  have HW : Hid _ := mix_with h4 i x
  have B0 : Below w.heap.size w (w.alloc (.cells #[.int .i64 (-1), .int .i64 (-1), .int .i64 (-1), .int .i64 (-1)] 2)) := (Below.refl _ _).alloc (Nat.le_refl _) _
  have R0 : RowAt (w.alloc (.cells #[.int .i64 (-1), .int .i64 (-1), .int .i64 (-1), .int .i64 (-1)] 2)) true w.heap.size (w.heap.size + 1) 1 (some ⟨w.heap.size, 0, none⟩) 4 4 (ints (mix ks 0)) := row_lit w (ints (mix ks 0)) 2 4 1 (by rw [ints_length, mix_len])
  have hii : (i : Int) < 4 := by omega
  go_enter Try.func276, Try.ntmps276
  go_wp2
  go_loopw [8] (fun q wr => ∃ j : Nat, j ≤ kn ∧ q = .int .i64 j ∧ RowAt wr true w.heap.size (w.heap.size + 1) 1 (some ⟨w.heap.size, 0, none⟩) 4 4 (ints (mix ks j)) ∧ Below w.heap.size w wr) (fun q _ => kn - (intOf q).toNat)
  case atStart => exact ⟨0, Nat.zero_le _, rfl, R0, B0⟩
  case round =>
    clear R0 B0
    obtain ⟨j, hj, rfl, R, B⟩ := hrel
    by_cases hlt : j < kn
    · obtain ⟨b, off, rfl, _, _, hbs, e1, _⟩ := h.int hlt
      replace e1 := (B.cell (p := ⟨b, off + j, none⟩) hbs).trans e1
      have hlj : (j : Int) < (kn : Int) := by omega
      have hlj4 : (j : Int) < 4 := by omega
      obtain ⟨_, _, e', _, _, _, c0, f0⟩ := R.int (show j < 4 by omega)
      cases e'
      replace f0 := f0 rfl
      have R2 := R.stored (i := j) (by omega) (.int .i64 (ks.getD j 0))
      rw [mix_set ks j, Nat.zero_add] at R2
      rw [Nat.zero_add] at c0 f0
      have B2 := B.setCell (p := ⟨w.heap.size, j, none⟩) (Nat.le_refl _) (.int .i64 (ks.getD j 0))
      generalize ks.getD j 0 = y at *
      clear R B
      go_wp2
      go_roundw
      case rel => exact ⟨j + 1, by omega, by go_num, R2, B2⟩
      case measure => simp [intOf]; omega
    · obtain rfl : j = kn := by omega
      obtain ⟨_, _, e', _, _, _, c0, f0⟩ := R.int hi
      cases e'
      replace f0 := f0 rfl
      have R2 := R.stored (i := i) (by omega) (.int .i64 x)
      rw [Nat.zero_add] at R2 c0 f0
      have e2 : (ints (mix ks j)).set i (.int .i64 x) = ints (withKid ks i x) := by rw [← HW.out, hl]; unfold ints; rw [List.map_set]
      rw [e2] at R2
      have B2 := B.setCell (p := ⟨w.heap.size, i, none⟩) (Nat.le_refl _) (.int .i64 x)
      clear R B e2
      go_wp2
      go_ret
      exact ⟨rfl, R2, B2⟩

end Go.Proofs.Ytkdaphfmhdkhfaa

/- Chapter 4: a new node: what the model does. -/
namespace Go.Proofs.Ytkdaphfmhdkhfaa
open Go.RowKit

/-- 'append(s, src...)' onto a row of the call's own, as one step of a region that draws its order: where the new row lies. -/
theorem step_append_lie {P : Program} {ops : Array Oper} {dst : Option Tmp} {type : TypeId} {pos : String} {after : Array Edge} {a : Act} {w : World} {K : Act → World → Prop} {Q : Exit → Act → World → Prop} {E : Prop} {s x : Operand} (t e : TypeId) (i : TypeInfo) (z : Value) (size bytes : Nat) (ht : P.underlying t = some (.slice e)) (hi : P.info? e = some i) (hz : i.zero = some z) (hsize : i.size = size) (hby : i.bytes = bytes) (hzs0 : z.cells.size = size) (hsz : 0 < size)
    (base : Nat) (v : Value) (n : Nat) (cs : List Value) (hown : w.ownsRow base e size v n cs) (hlo : base ≤ w.heap.size)
    {o : Bool} {l u : Nat} (ad : Addr) (m c : Nat) (news : List Value) (hsrc : RowAt w o l u size (some ad) m c news) (hm : m ≠ 0) (h1 : ∀ x ∈ news, x.oneCell' = true) (h63 : n + m ≤ 1048576) (hb : bytes ≤ 1048576)
    (hs : a.eval s = v) (hx : a.eval x = .slice (some ad) m c)
    (h : ∀ g cap w', w'.ownsRow base e size (.slice (some ⟨g, 0, none⟩) (n + m) cap) (n + m) (cs ++ news) → w.grownBy w' v.ownBlock → (v.ownBlock = some g ∨ g = w.heap.size) → K (a.put dst (.slice (some ⟨g, 0, none⟩) (n + m) cap)) w') :
    if Region.wanted ⟨dst, .call { callee := .builtin .append, args := #[s, x], argTypes := #[t, t] }, type, pos, after, none⟩ (yielded ops a.tmps) = true then Oper.wp P ⟨dst, .call { callee := .builtin .append, args := #[s, x], argTypes := #[t, t] }, type, pos, after, none⟩ a w K Q else E := by
  have hw : Region.wanted ⟨dst, .call { callee := .builtin .append, args := #[s, x], argTypes := #[t, t] }, type, pos, after, none⟩ (yielded ops a.tmps) = true := by simp [Region.wanted]
  rw [if_pos hw]
  have hmb : (n + m) * bytes ≤ 140737488355328 := Nat.le_trans (Nat.mul_le_mul h63 hb) (by decide)
  obtain ⟨g, cap, w', hr, h2, h3, h4, _⟩ := run_append_lies (P := P) w t type base e i z size bytes ht hi hz hsize hby hzs0 hsz v n cs hown ad m c news hsrc.len (hsrc.news hm) h1 (by omega) (by unfold maxLen; omega) hmb hlo w.heap.size rfl
  unfold Oper.wp execOp
  simp only [resolve, invoke, builtin, Sem.run_bind, Sem.run_pure, Result.andThen_ok, List.map_toArray, List.map_cons, List.map_nil, hs, hx, hr]
  exact h g cap w' h2 h3 h4

theorem freeNd_none (ns : List Nd) (h : ∀ j, j < ns.length → (ns.getD j nd0).1 ≠ 0) : freeNd ns = none := by
  induction ns with
  | nil => rfl
  | cons p r ih =>
    have h0 : p.1 ≠ 0 := h 0 (by simp)
    rw [freeNd, if_neg h0, ih fun j hj => by simpa using h (j + 1) (by simpa using hj)]; rfl
theorem freeNd_some (ns : List Nd) : ∀ (k : Nat), k < ns.length → (∀ j, j < k → (ns.getD j nd0).1 ≠ 0) → (ns.getD k nd0).1 = 0 → freeNd ns = some k := by
  induction ns with
  | nil => intro k hk; simp at hk
  | cons p r ih =>
    intro k hk h hn
    cases k with
    | zero => rw [freeNd, if_pos (by simpa using hn)]
    | succ k =>
      have h0 : p.1 ≠ 0 := h 0 (by omega)
      rw [freeNd, if_neg h0, ih k (by simpa using hk) (fun j hj => by simpa using h (j + 1) (by omega)) (by simpa using hn)]; rfl
theorem put_eq (ns : List Nd) (i : Nat) (hi : i < ns.length) (r : Int) (lf : Bool) (ks : List Int) : (((ns.set i (r, (ns.getD i nd0).2)).set i (((ns.set i (r, (ns.getD i nd0).2)).getD i nd0).1, lf, ((ns.set i (r, (ns.getD i nd0).2)).getD i nd0).2.2)).set i ((((ns.set i (r, (ns.getD i nd0).2)).set i (((ns.set i (r, (ns.getD i nd0).2)).getD i nd0).1, lf, ((ns.set i (r, (ns.getD i nd0).2)).getD i nd0).2.2)).getD i nd0).1, (((ns.set i (r, (ns.getD i nd0).2)).set i (((ns.set i (r, (ns.getD i nd0).2)).getD i nd0).1, lf, ((ns.set i (r, (ns.getD i nd0).2)).getD i nd0).2.2)).getD i nd0).2.1, ks)) = ns.set i (r, lf, ks) := by
  rw [List.set_set, List.set_set]
  congr 1
  have h1 : (ns.set i (r, (ns.getD i nd0).2)).getD i nd0 = (r, (ns.getD i nd0).2) := by rw [set_getN _ _ _ _ hi, if_pos rfl]
  rw [h1, List.set_set, set_getN _ _ _ _ hi, if_pos rfl]

theorem Try.sizeNode : (Try.prog.info? 181).map (·.size) = some 3 := by kernel_rfl
/-- what a new node leaves -/
def NewRes (w w' : World) (e : Ending) (lo P : Nat) (ab : Option Addr) (nb cb : Nat) (f : Fo) (nd : Nd) (k : KS) : Prop :=
  (newNd f.1 nd = none ∧ e = .returned (.int .i64 (-1)) ∧ Below lo w w') ∨
  ∃ (i : Nat) (ns : List Nd) (va : Addr) (vc : Nat) (K' : Nat → KS), newNd f.1 nd = some (i, ns) ∧ e = .returned (.int .i64 (i : Int)) ∧ OutAt w' lo P (.slice (some va) ns.length vc) ab nb cb K' (ns, f.2) ∧ K' i = k ∧ i < ns.length ∧ ns.getD i nd0 = nd ∧ Below lo w w'

set_option maxRecDepth 20000 in
set_option maxHeartbeats 8000000 in
theorem l4New_any {w : World} {lo P : Nat} {vn : Value} {ab : Option Addr} {nb cb : Nat} {K : Nat → KS} {f : Fo} (I : OutAt w lo P vn ab nb cb K f) (hn : f.1.length ≤ 60) (r : Int) (lf : Bool) (ks : List Int) (ka : Option Addr) (kn kc : Nat) (hr : RowAt w true lo w.heap.size 1 ka kn kc (ints ks)) (hs : kn ≠ 0 → sb ka ≠ P ∧ vn.ownBlock ≠ some (sb ka) ∧ (nb ≠ 0 → sb ka ≠ sb ab)) :
    Calls Try.prog 278 #[.pointer (some ⟨P, 0, none⟩), .agg #[.int .i64 r, .bool lf, .slice ka kn kc]] w fun e w' => NewRes w w' e lo P ab nb cb f (r, lf, ks) (ka, kn, kc) := by
  have A : Below w.heap.size w (w.alloc (.cells #[.int .i64 r, .bool lf, .slice ka kn kc] 181)) := (Below.refl _ _).alloc (Nat.le_refl _) _
  have n0 : (w.alloc (.cells #[.int .i64 r, .bool lf, .slice ka kn kc] 181)).cell? ⟨w.heap.size, 0, none⟩ = some (.int .i64 r) := by simp
  have n1 : (w.alloc (.cells #[.int .i64 r, .bool lf, .slice ka kn kc] 181)).cell? ⟨w.heap.size, 1, none⟩ = some (.bool lf) := by simp
  have n2 : (w.alloc (.cells #[.int .i64 r, .bool lf, .slice ka kn kc] 181)).cell? ⟨w.heap.size, 2, none⟩ = some (.slice ka kn kc) := by simp
  have I1 := I.below A
  have R1 := (hr.below A).widen (Nat.le_refl _) A.size
  have hP := I.hP
  have BL : Below lo w (w.alloc (.cells #[.int .i64 r, .bool lf, .slice ka kn kc] 181)) := A.mono (by omega)
  obtain ⟨va, vc, rfl, _⟩ := RowAt.of_owned I.own
  obtain ⟨m, hm⟩ : ∃ m, f.1.length = m := ⟨_, rfl⟩
  have c0 := I1.c0
  rw [hm] at c0 hn
  have HI : Hid _ := I1
  have HR : Hid _ := R1
  have HBL : Hid _ := BL
  have I0 := I
  clear I1 R1 BL I
  have hNW : w.heap.size < (w.alloc (.cells #[.int .i64 r, .bool lf, .slice ka kn kc] 181)).heap.size := by simp
  go_enter Try.func278, Try.ntmps278
  go_wp2
  generalize hW : w.alloc (.cells #[.int .i64 r, .bool lf, .slice ka kn kc] 181) = W at *
  clear hW A
  go_loop [5] (fun i => ∃ k : Nat, k ≤ m ∧ i = .int .i64 k ∧ ∀ j, j < k → (f.1.getD j nd0).1 ≠ 0) (fun i => m - (intOf i).toNat)
  case atStart => exact ⟨0, by omega, rfl, fun j hj => absurd hj (by omega)⟩
  case round =>
    obtain ⟨k, hk, rfl, ha⟩ := hrel
    have HA : Hid _ := ha
    clear ha
    by_cases hlt : k < m
    · have hlk : (k : Int) < (m : Int) := by omega
      obtain ⟨g, cap, ev, hgl, d0, d1, d2, x0, x1, x2⟩ := HI.out.node (i := k) (by omega)
      injection ev with ea en ec
      clear en ec
      subst ea
      have HF : Hid _ := freeNd_some f.1 k (by omega) HA.out
      have HN : Hid ((f.1.getD k nd0).1 ≠ 0 → ∀ j, j < k + 1 → (f.1.getD j nd0).1 ≠ 0) := fun h0 j hj => by
        by_cases e : j = k
        · subst e; exact h0
        · exact HA.out j (by omega)
      obtain ⟨r0, hr0⟩ : ∃ r0, (f.1.getD k nd0).1 = r0 := ⟨_, rfl⟩
      rw [hr0] at d0 HF HN
      clear hr0
      by_cases hz : r0 = 0
      · subst hz
        have HF2 : Hid _ := HF.out rfl
        clear HF HN
        have hgo : lo ≤ g := (HI.out.own.lt g rfl).1
        have hgs : g < w.heap.size := by have := HI.out.own.lt g rfl; have := (I0.own.lt g rfl).2; omega
        have hgP : g ≠ P := fun e => HI.out.sV (by simp [Value.ownBlock, e])
        have SK : KeptS (fun x => x = g) W (((W.setCell ⟨g, k * 3, none⟩ (.int .i64 r)).setCell ⟨g, k * 3 + 1, none⟩ (.bool lf)).setCell ⟨g, k * 3 + 2, none⟩ (.slice ka kn kc)) := by
          refine KeptS.setCell (KeptS.setCell (KeptS.setCell (KeptS.refl _ _) ?_ _) ?_ _) ?_ _ <;> rfl
        have q0 := SK.cell c0 HI.out.hP.2 (Ne.symm hgP)
        have q1 := SK.cell n0 hNW (by omega)
        have q2 := SK.cell n1 hNW (by omega)
        have q3 := SK.cell n2 hNW (by omega)
        clear SK
        go_wp2_with fail
        go_region_held3 (fun w' => w'.cell? ⟨P, 0, none⟩ = some (.slice (some ⟨g, 0, none⟩) m vc) ∧ w'.cell? ⟨w.heap.size, 0, none⟩ = some (.int .i64 r) ∧ w'.cell? ⟨w.heap.size, 1, none⟩ = some (.bool lf) ∧ w'.cell? ⟨w.heap.size, 2, none⟩ = some (.slice ka kn kc)) (first | go_keep | exact ⟨q0, q1, q2, q3⟩) (fail)
        have I2 := HI.out.refs rfl (i := k) (by omega) r
        have I3 := I2.leaf (by simp) (i := k) (by simp; omega) lf
        have RK : RowAt ((W.setCell ⟨g, k * 3, none⟩ (.int .i64 r)).setCell ⟨g, k * 3 + 1, none⟩ (.bool lf)) true lo ((W.setCell ⟨g, k * 3, none⟩ (.int .i64 r)).setCell ⟨g, k * 3 + 1, none⟩ (.bool lf)).heap.size 1 ka kn kc (ints ks) := by
          refine RowAt.widen (HR.out.keptS (S := fun x => x = g) ?_ fun a hne e e2 => (hs hne).2.1 (by rw [e, ← e2]; rfl)) (Nat.le_refl _) (by simp)
          refine KeptS.setCell (KeptS.setCell (KeptS.refl _ _) ?_ _) ?_ _ <;> rfl
        have I4 := I3.kids (by simp) (i := k) (by simp; omega) (ka, kn, kc) ks RK (fun hne => ⟨(hs hne).1, fun e => (hs hne).2.1 (by simp [Value.ownBlock, e]), (hs hne).2.2⟩)
        simp only at I4
        rw [put_eq f.1 k (by omega)] at I4
        rw [hm] at I4
        have I5 := I4.below ((Below.refl _ _).drew : Below _ _ (World.drew _))
        have B5 : Below lo w (((W.setCell ⟨g, k * 3, none⟩ (.int .i64 r)).setCell ⟨g, k * 3 + 1, none⟩ (.bool lf)).setCell ⟨g, k * 3 + 2, none⟩ (.slice ka kn kc)).drew := ((((HBL.out).setCell (p := ⟨g, k * 3, none⟩) hgo _).setCell (p := ⟨g, k * 3 + 1, none⟩) hgo _).setCell (p := ⟨g, k * 3 + 2, none⟩) hgo _).drew
        have HI5 : Hid _ := I5
        have HB5 : Hid _ := B5
        have HE : Hid (newNd f.1 (r, lf, ks) = some (k, f.1.set k (r, lf, ks))) := by show _ = _; unfold newNd; rw [HF2.out]
        clear I2 I3 I4 I5 B5 RK
        go_wp2
        go_ret
        refine Or.inr ⟨k, f.1.set k (r, lf, ks), ⟨g, 0, none⟩, vc, updK K k (ka, kn, kc), HE.out, rfl, ?_, by simp [updK], by simp; omega, by rw [set_getN _ _ _ _ (by omega), if_pos rfl], HB5.out⟩
        have e1 : (f.1.set k (r, lf, ks)).length = m := by simp; omega
        rw [e1]; exact HI5.out
      · have hzz : (r0 == 0) = false := by simp [hz]
        have HF2 : Hid _ := HN.out hz
        clear HF HN hz
        go_wp2
        go_round
        case rel => exact ⟨k + 1, by omega, by go_num, HF2.out⟩
        case measure => simp [intOf]; omega
    · obtain rfl : k = m := by omega
      have HF : Hid (freeNd f.1 = none) := freeNd_none f.1 fun j hj => HA.out j (by omega)
      by_cases h60 : 60 ≤ k
      · have HE : Hid (newNd f.1 (r, lf, ks) = none) := by show _ = _; unfold newNd; rw [HF.out]; simp only; rw [if_pos (by omega)]
        have h60' : (60 : Int) ≤ (k : Int) := by omega
        go_wp2
        go_ret
        exact Or.inl ⟨HE.out, rfl, HBL.out⟩
      · have HE : Hid (newNd f.1 (r, lf, ks) = some (k, f.1 ++ [(r, lf, ks)])) := by show _ = _; unfold newNd; rw [HF.out]; simp only; rw [if_neg (by omega), hm]
        have h60' : ¬ (60 : Int) ≤ (k : Int) := by omega
        obtain ⟨m0, hm0, hx0, hx1, hx2⟩ := info_parts Try.infoNode
        have A1 : Below W.heap.size W (W.alloc (.cells #[.int .i64 r, .bool lf, .slice ka kn kc] 181)) := (Below.refl _ _).alloc (Nat.le_refl _) _
        have A2 : Below (W.alloc (.cells #[.int .i64 r, .bool lf, .slice ka kn kc] 181)).heap.size (W.alloc (.cells #[.int .i64 r, .bool lf, .slice ka kn kc] 181)) (W.alloc (.cells #[.int .i64 r, .bool lf, .slice ka kn kc] 181)).drew := (Below.refl _ _).drew
        have I6 := (HI.out.below A1).below A2
        rw [hm] at I6
        have O1 := I6.own
        rw [hm] at O1
        have hPW := HI.out.hP.2
        have hPa := cell_later A1 c0
        have hna := cell_later A1 n0
        have hnb := cell_later A1 n1
        have hnc := cell_later A1 n2
        have rw4 : RowAt (W.alloc (.cells #[.int .i64 r, .bool lf, .slice ka kn kc] 181)).drew true W.heap.size (W.heap.size + 1) 3 (some ⟨W.heap.size, 0, none⟩) 1 1 [.int .i64 r, .bool lf, .slice ka kn kc] := (row_lit W [.int .i64 r, .bool lf, .slice ka kn kc] 181 1 3 rfl).below A2
        have R6 := ((HR.out.below A1).below A2).widen (Nat.le_refl _) (by simp : W.heap.size ≤ (W.alloc (.cells #[.int .i64 r, .bool lf, .slice ka kn kc] 181)).drew.heap.size)
        have hone : ∀ v ∈ [Value.int .i64 r, .bool lf, .slice ka kn kc], v.oneCell' = true := by
          intro v hv; simp at hv; rcases hv with rfl | rfl | rfl <;> rfl
        have hlo1 : lo ≤ (W.alloc (.cells #[.int .i64 r, .bool lf, .slice ka kn kc] 181)).drew.heap.size := by have := I6.hP; omega
        have B6 : Below lo w (W.alloc (.cells #[.int .i64 r, .bool lf, .slice ka kn kc] 181)).drew := (HBL.out.trans (A1.mono (by have := HI.out.hP; omega))).trans (A2.mono (by simp; have := HI.out.hP; omega))
        have hn63 : k + 1 ≤ 1048576 := by omega
        have T := fun ops dst type pos after a K' Q E s x => step_append_lie (P := Try.prog) (ops := ops) (dst := dst) (type := type) (pos := pos) (after := after) (a := a) (K := K') (Q := Q) (E := E) (s := s) (x := x) 58 181 m0 (.agg #[.int .i64 0, .bool false, .slice none 0 0]) 3 40 Try.underlying58 hm0 hx0 hx1 hx2 rfl (by decide) lo _ k (ncells K f.1) O1 hlo1 ⟨W.heap.size, 0, none⟩ 1 1 [.int .i64 r, .bool lf, .slice ka kn kc] rw4 (by decide) hone hn63 (by decide)
        have HT : Hid _ := T
        have HI6 : Hid _ := I6
        have HR6 : Hid _ := R6
        have HB6 : Hid _ := B6
        clear T A1 A2 O1 rw4 R6 B6
        go_wp2_with fail
        go_region_law (first | ((with_reducible refine HT.out _ _ _ _ _ _ _ _ _ _ _ ?_ ?_ ?_); rfl; rfl; intro gz cz wz O5 G5 hg; have c5 := (grown_S G5).cell I6.c0 I6.hP.2 I6.sV; have f5 := (grown_S G5).frozen I6.z0 I6.hP.2 I6.sV))
        all_goals
          have O7 : wz.ownsRow lo 181 3 (.slice (some ⟨gz, 0, none⟩) (f.1.length + 1) cz) (f.1.length + 1) (ncells K f.1 ++ [.int .i64 r, .bool lf, ksv (ka, kn, kc)]) := by rw [hm]; exact O5
          have I7 := HI6.out.grow (nd := (r, lf, ks)) (k := (ka, kn, kc)) G5 O7 hg HR6.out (fun hne => ⟨(hs hne).1, by have := (hs hne).2.1; rwa [hm] at this, (hs hne).2.2⟩)
          have B7 : Below lo w (wz.setCell ⟨P, 0, none⟩ (.slice (some ⟨gz, 0, none⟩) (k + 1) cz)) := (HB6.out.grown G5 hlo1 (fun x e => (HI6.out.own.lt x e).1)).setCell (p := ⟨P, 0, none⟩) hP.1 _
          rw [hm] at I7
          have HI7 : Hid _ := I7
          have HB7 : Hid _ := B7
          have c7 := I7.c0
          clear O5 O7 G5 hg c5 f5 I7 B7 I6
          go_wp2
          go_ret
          refine Or.inr ⟨k, f.1 ++ [(r, lf, ks)], ⟨gz, 0, none⟩, cz, updK K k (ka, kn, kc), HE.out, ?_, ?_, by simp [updK], by simp; omega, by rw [← hm]; simp [List.getD], HB7.out⟩
          · first | rfl | (congr 2; omega)
          · have e1 : (f.1 ++ [(r, lf, ks)]).length = k + 1 := by simp; omega
            rw [e1]; exact HI7.out

end Go.Proofs.Ytkdaphfmhdkhfaa
