/- Chapter 4: nodes in memory: a row of three cells a node, and a row of kids each. -/
import Derived.Test.YtannjgdginfgeaaZT
import Derived.Test.YtannjgdginfgeaaZA
import Derived.Test.YtannjgdginfgeaaFacts
namespace Go.Proofs.Ytannjgdginfgeaa
open Go.RowKit

/-- as Kept, but for a set of blocks -/
structure KeptS (S : Nat → Prop) (w w' : World) : Prop where
  os : w'.os = w.os
  tape : w'.tape = w.tape
  output : w'.output = w.output
  size : w.heap.size ≤ w'.heap.size
  block : ∀ k, k < w.heap.size → ¬ S k → w'.heap[k]? = w.heap[k]?
theorem KeptS.refl (S : Nat → Prop) (w : World) : KeptS S w w := ⟨rfl, rfl, rfl, Nat.le_refl _, fun _ _ _ => rfl⟩
theorem KeptS.trans {S : Nat → Prop} {a b c : World} (h : KeptS S a b) (k : KeptS S b c) : KeptS S a c :=
  ⟨k.os.trans h.os, k.tape.trans h.tape, k.output.trans h.output, Nat.le_trans h.size k.size, fun i hi ho => (k.block i (Nat.lt_of_lt_of_le hi h.size) ho).trans (h.block i hi ho)⟩
theorem KeptS.mono {S T : Nat → Prop} {w w' : World} (h : KeptS S w w') (hst : ∀ k, S k → T k) : KeptS T w w' := ⟨h.os, h.tape, h.output, h.size, fun k hk ho => h.block k hk fun hs => ho (hst k hs)⟩
theorem Kept.toS {lo hi : Nat} {S : Nat → Prop} {w w' : World} (h : Kept lo hi w w') (hs : ∀ k, lo ≤ k → k < hi → S k) : KeptS S w w' := ⟨h.os, h.tape, h.output, h.size, fun k hk ho => h.block k hk (by
  by_cases h1 : k < lo
  · exact Or.inl h1
  · by_cases h2 : hi ≤ k
    · exact Or.inr h2
    · exact absurd (hs k (by omega) (by omega)) ho)⟩
theorem KeptS.kept {S : Nat → Prop} {lo hi : Nat} {w w' : World} (h : KeptS S w w') (hs : ∀ k, S k → lo ≤ k ∧ k < hi) : Kept lo hi w w' := ⟨h.os, h.tape, h.output, h.size, fun k hk ho => h.block k hk fun hS => by have := hs k hS; omega⟩
theorem KeptS.below {S : Nat → Prop} {w w' : World} (h : Below w.heap.size w w') : KeptS S w w' := ⟨h.os, h.tape, h.output, h.size, fun k hk _ => h.block k hk⟩
theorem KeptS.cell {S : Nat → Prop} {w w' : World} (h : KeptS S w w') {b o : Nat} {v : Value} (hc : w.cell? ⟨b, o, none⟩ = some v) (hb : b < w.heap.size) (hs : ¬ S b) : w'.cell? ⟨b, o, none⟩ = some v := by
  rw [World.cell?_of_block (w := w) (a := ⟨b, o, none⟩) (h.block b hb hs)]; exact hc
theorem KeptS.frozen {S : Nat → Prop} {w w' : World} (h : KeptS S w w') {b o : Nat} {v : Bool} (hc : w.frozen? ⟨b, o, none⟩ = v) (hb : b < w.heap.size) (hs : ¬ S b) : w'.frozen? ⟨b, o, none⟩ = v := by
  rw [World.frozen?_of_block (w := w) (a := ⟨b, o, none⟩) (h.block b hb hs)]; exact hc
theorem RowAt.keptS {w w' : World} {own : Bool} {lo hi size : Nat} {ao : Option Addr} {n cap : Nat} {cs : List Value} (h : RowAt w own lo hi size ao n cap cs) {S : Nat → Prop} (hk : KeptS S w w') (hd : ∀ a, n ≠ 0 → ao = some a → ¬ S a.block) : RowAt w' own lo hi size ao n cap cs := by
  refine ⟨h.len, h.le, fun hn => ?_⟩
  obtain ⟨b, off, rfl, h1, h2, h3, h4, h5⟩ := h.cells hn
  have hs := hd _ hn rfl
  exact ⟨b, off, rfl, h1, h2, Nat.lt_of_lt_of_le h3 hk.size, fun i hi => hk.cell (h4 i hi) h3 hs, fun ho i hi => hk.frozen (h5 ho i hi) h3 hs⟩
theorem KeptS.setCell {S : Nat → Prop} {a w : World} (h : KeptS S a w) {p : Addr} (h1 : S p.block) (u : Value) : KeptS S a (w.setCell p u) :=
  h.trans ⟨rfl, rfl, rfl, by simp [World.setCell], fun k _ ho => Below.heap_setCell _ _ _ _ (fun e => ho (e ▸ h1))⟩

/-- a kids slice -/
abbrev KS := Option Addr × Nat × Nat
def ksv (k : KS) : Value := .slice k.1 k.2.1 k.2.2
def flat3 (n : Nat) (g0 g1 g2 : Nat → Value) : List Value := (List.range (n * 3)).map fun j => if j % 3 = 0 then g0 (j / 3) else if j % 3 = 1 then g1 (j / 3) else g2 (j / 3)
theorem flat3_get (n : Nat) (g0 g1 g2 : Nat → Value) (j : Nat) (h : j < n * 3) : (flat3 n g0 g1 g2).getD j default = if j % 3 = 0 then g0 (j / 3) else if j % 3 = 1 then g1 (j / 3) else g2 (j / 3) := by
  simp [flat3, List.getD, h]
theorem flat3_get0 (n : Nat) (g0 g1 g2 : Nat → Value) (i : Nat) (h : i < n) : (flat3 n g0 g1 g2).getD (i * 3) default = g0 i := by
  rw [flat3_get _ _ _ _ _ (by omega), if_pos (by omega), show i * 3 / 3 = i by omega]
theorem flat3_get1 (n : Nat) (g0 g1 g2 : Nat → Value) (i : Nat) (h : i < n) : (flat3 n g0 g1 g2).getD (i * 3 + 1) default = g1 i := by
  rw [flat3_get _ _ _ _ _ (by omega), if_neg (by omega), if_pos (by omega), show (i * 3 + 1) / 3 = i by omega]
theorem flat3_get2 (n : Nat) (g0 g1 g2 : Nat → Value) (i : Nat) (h : i < n) : (flat3 n g0 g1 g2).getD (i * 3 + 2) default = g2 i := by
  rw [flat3_get _ _ _ _ _ (by omega), if_neg (by omega), if_neg (by omega), show (i * 3 + 2) / 3 = i by omega]
theorem flat3_set {n : Nat} {g0 g1 g2 : Nat → Value} {i : Nat} (_ : i < n) (a b c : Value) : (((flat3 n g0 g1 g2).set (i * 3) a).set (i * 3 + 1) b).set (i * 3 + 2) c = flat3 n (fun j => if j = i then a else g0 j) (fun j => if j = i then b else g1 j) (fun j => if j = i then c else g2 j) := by
  apply List.ext_getElem (by simp [flat3])
  intro j h1 h2
  simp only [List.getElem_set, flat3, List.getElem_map, List.getElem_range]
  simp [flat3] at h2
  by_cases e2 : i * 3 + 2 = j
  · subst e2; rw [if_pos rfl, if_neg (by omega), if_neg (by omega), if_pos (by omega)]
  · rw [if_neg e2]
    by_cases e1 : i * 3 + 1 = j
    · subst e1; rw [if_pos rfl, if_neg (by omega), if_pos (by omega), if_pos (by omega)]
    · rw [if_neg e1]
      by_cases e0 : i * 3 = j
      · subst e0; rw [if_pos rfl, if_pos (by omega), if_pos (by omega)]
      · rw [if_neg e0]
        by_cases m0 : j % 3 = 0
        · rw [if_pos m0, if_pos m0, if_neg (by omega)]
        · rw [if_neg m0, if_neg m0]
          by_cases m1 : j % 3 = 1
          · rw [if_pos m1, if_pos m1, if_neg (by omega)]
          · rw [if_neg m1, if_neg m1, if_neg (by omega)]
theorem flat3_congr {n : Nat} {g0 g1 g2 k0 k1 k2 : Nat → Value} (h : ∀ i, i < n → g0 i = k0 i ∧ g1 i = k1 i ∧ g2 i = k2 i) : flat3 n g0 g1 g2 = flat3 n k0 k1 k2 := by
  refine List.map_congr_left fun j hj => ?_
  have hj' := List.mem_range.1 hj
  obtain ⟨h0, h1, h2⟩ := h (j / 3) (by omega)
  rw [h0, h1, h2]

def ncells (K : Nat → KS) (ns : List Nd) : List Value := flat3 ns.length (fun i => .int .i64 (ns.getD i nd0).1) (fun i => .bool (ns.getD i nd0).2.1) (fun i => ksv (K i))
def updK (K : Nat → KS) (i : Nat) (k : KS) : Nat → KS := fun j => if j = i then k else K j
theorem set_getN (ns : List Nd) (i j : Nat) (nd : Nd) (h : i < ns.length) : (ns.set i nd).getD j nd0 = if j = i then nd else ns.getD j nd0 := by
  by_cases e : j = i
  · subst e; rw [if_pos rfl]; simp [List.getD, h]
  · rw [if_neg e]; simp [List.getD, Ne.symm e]
theorem ncells_set {K : Nat → KS} {ns : List Nd} {i : Nat} (h : i < ns.length) (nd : Nd) (k : KS) : (((ncells K ns).set (i * 3) (.int .i64 nd.1)).set (i * 3 + 1) (.bool nd.2.1)).set (i * 3 + 2) (ksv k) = ncells (updK K i k) (ns.set i nd) := by
  unfold ncells
  rw [flat3_set h, List.length_set]
  refine flat3_congr fun j _ => ?_
  rw [set_getN _ _ _ _ h]
  by_cases e : j = i
  · simp [e, updK]
  · simp [e, updK]
/-- the block of a slice -/
def sb (ao : Option Addr) : Nat := match ao with | some a => a.block | none => 0
/-- n nodes: their row, the rows of their kids; where they are the call's own, each in a block of its own -/
structure NodesAt (w : World) (own : Bool) (lo hi : Nat) (ao : Option Addr) (n cap : Nat) (K : Nat → KS) (ns : List Nd) : Prop where
  len : ns.length = n
  row : RowAt w own lo hi 3 ao n cap (ncells K ns)
  kids : ∀ i, i < n → RowAt w own lo hi 1 (K i).1 (K i).2.1 (K i).2.2 (ints (ns.getD i nd0).2.2)
  sep : own = true → ∀ i, i < n → (K i).2.1 ≠ 0 → sb (K i).1 ≠ sb ao ∧ ∀ j, j < n → j ≠ i → (K j).2.1 ≠ 0 → sb (K j).1 ≠ sb (K i).1
theorem NodesAt.below {w w' : World} {own : Bool} {lo hi : Nat} {ao : Option Addr} {n cap : Nat} {K : Nat → KS} {ns : List Nd} (h : NodesAt w own lo hi ao n cap K ns) (hb : Below w.heap.size w w') : NodesAt w' own lo hi ao n cap K ns :=
  ⟨h.len, h.row.below hb, fun i hi => (h.kids i hi).below hb, h.sep⟩
theorem NodesAt.kept {w w' : World} {own : Bool} {lo hi : Nat} {ao : Option Addr} {n cap : Nat} {K : Nat → KS} {ns : List Nd} (h : NodesAt w own lo hi ao n cap K ns) {l u : Nat} (hk : Kept l u w w') (hd : hi ≤ l ∨ u ≤ lo) : NodesAt w' own lo hi ao n cap K ns :=
  ⟨h.len, h.row.kept hk hd, fun i hi => (h.kids i hi).kept hk hd, h.sep⟩
theorem NodesAt.widen {w : World} {own : Bool} {lo hi : Nat} {ao : Option Addr} {n cap : Nat} {K : Nat → KS} {ns : List Nd} (h : NodesAt w own lo hi ao n cap K ns) {lo' hi' : Nat} (h1 : lo' ≤ lo) (h2 : hi ≤ hi') : NodesAt w own lo' hi' ao n cap K ns :=
  ⟨h.len, h.row.widen h1 h2, fun i hi => (h.kids i hi).widen h1 h2, h.sep⟩
/-- the blocks that nodes lie in -/
def inN (ao : Option Addr) (n : Nat) (K : Nat → KS) (k : Nat) : Prop := (n ≠ 0 ∧ k = sb ao) ∨ ∃ i, i < n ∧ (K i).2.1 ≠ 0 ∧ k = sb (K i).1
theorem NodesAt.keptS {w w' : World} {own : Bool} {lo hi : Nat} {ao : Option Addr} {n cap : Nat} {K : Nat → KS} {ns : List Nd} (h : NodesAt w own lo hi ao n cap K ns) {S : Nat → Prop} (hk : KeptS S w w') (hd : ∀ k, inN ao n K k → ¬ S k) : NodesAt w' own lo hi ao n cap K ns :=
  ⟨h.len, h.row.keptS hk fun a hn e => by have := hd (sb ao) (Or.inl ⟨hn, rfl⟩); rwa [e] at this, fun i hi => (h.kids i hi).keptS hk fun a hn e => by have := hd (sb (K i).1) (Or.inr ⟨i, hi, hn, rfl⟩); rwa [e] at this, h.sep⟩

/-- one node -/
theorem NodesAt.node {w : World} {own : Bool} {lo hi : Nat} {ao : Option Addr} {n cap : Nat} {K : Nat → KS} {ns : List Nd} (h : NodesAt w own lo hi ao n cap K ns) {i : Nat} (hi' : i < n) :
    ∃ b off, ao = some ⟨b, off, none⟩ ∧ lo ≤ b ∧ b < hi ∧ b < w.heap.size ∧ w.cell? ⟨b, off + i * 3, none⟩ = some (.int .i64 (ns.getD i nd0).1) ∧ w.cell? ⟨b, off + i * 3 + 1, none⟩ = some (.bool (ns.getD i nd0).2.1) ∧ w.cell? ⟨b, off + i * 3 + 2, none⟩ = some (.slice (K i).1 (K i).2.1 (K i).2.2) ∧
      (own = true → w.frozen? ⟨b, off + i * 3, none⟩ = false ∧ w.frozen? ⟨b, off + i * 3 + 1, none⟩ = false ∧ w.frozen? ⟨b, off + i * 3 + 2, none⟩ = false) := by
  obtain ⟨b, off, rfl, h1, h2, h3, h4, h5⟩ := h.row.cells (by omega)
  have hl := h.len
  refine ⟨b, off, rfl, h1, h2, h3, ?_, ?_, ?_, fun ho => ⟨h5 ho _ (by omega), by rw [Nat.add_assoc]; exact h5 ho _ (by omega), by rw [Nat.add_assoc]; exact h5 ho _ (by omega)⟩⟩
  · rw [h4 _ (by omega), ncells, flat3_get0 _ _ _ _ _ (by omega)]
  · rw [Nat.add_assoc, h4 _ (by omega), ncells, flat3_get1 _ _ _ _ _ (by omega)]
  · rw [Nat.add_assoc, h4 _ (by omega), ncells, flat3_get2 _ _ _ _ _ (by omega)]; rfl
/-- the call's own nodes, one written anew -/
theorem NodesAt.put {w : World} {lo hi : Nat} {b off n cap : Nat} {K : Nat → KS} {ns : List Nd} (h : NodesAt w true lo hi (some ⟨b, off, none⟩) n cap K ns) {i : Nat} (hi' : i < n) (nd : Nd) (k : KS)
    (hk : RowAt w true lo hi 1 k.1 k.2.1 k.2.2 (ints nd.2.2)) (hs : k.2.1 ≠ 0 → sb k.1 ≠ b ∧ ∀ j, j < n → j ≠ i → (K j).2.1 ≠ 0 → sb (K j).1 ≠ sb k.1) :
    NodesAt (((w.setCell ⟨b, off + i * 3, none⟩ (.int .i64 nd.1)).setCell ⟨b, off + i * 3 + 1, none⟩ (.bool nd.2.1)).setCell ⟨b, off + i * 3 + 2, none⟩ (ksv k)) true lo hi (some ⟨b, off, none⟩) n cap (updK K i k) (ns.set i nd) := by
  have hl := h.len
  have R := ((h.row.stored (i := i * 3) (by omega) (.int .i64 nd.1)).stored (i := i * 3 + 1) (by omega) (.bool nd.2.1)).stored (i := i * 3 + 2) (by omega) (ksv k)
  rw [ncells_set (by omega), ← Nat.add_assoc, ← Nat.add_assoc] at R
  have KS1 : KeptS (fun x => x = b) w (((w.setCell ⟨b, off + i * 3, none⟩ (.int .i64 nd.1)).setCell ⟨b, off + i * 3 + 1, none⟩ (.bool nd.2.1)).setCell ⟨b, off + i * 3 + 2, none⟩ (ksv k)) := by
    refine KeptS.setCell (KeptS.setCell (KeptS.setCell (KeptS.refl _ _) ?_ _) ?_ _) ?_ _ <;> rfl
  refine ⟨by rw [List.length_set]; exact hl, R, fun j hj => ?_, fun _ j hj hne => ?_⟩
  · rw [set_getN _ _ _ _ (by omega)]
    by_cases e : j = i
    · subst e
      rw [if_pos rfl]
      simp only [updK, if_pos]
      exact hk.keptS KS1 fun a hn ea => by have := (hs hn).1; rw [ea] at this; exact this
    · rw [if_neg e]
      simp only [updK, if_neg e]
      exact (h.kids j hj).keptS KS1 fun a hn ea => by have := (h.sep rfl j hj hn).1; rw [ea] at this; exact this
  · by_cases e : j = i
    · subst e
      simp only [updK, if_pos] at hne ⊢
      refine ⟨(hs hne).1, fun m hm hmj hmn => ?_⟩
      rw [if_neg hmj] at hmn ⊢
      exact (hs hne).2 m hm hmj hmn
    · simp only [updK, if_neg e] at hne ⊢
      obtain ⟨s1, s2⟩ := h.sep rfl j hj hne
      refine ⟨s1, fun m hm hmj hmn => ?_⟩
      by_cases e2 : m = i
      · subst e2
        rw [if_pos rfl] at hmn ⊢
        exact ((hs hmn).2 j hj e hne).symm
      · rw [if_neg e2] at hmn ⊢
        exact s2 m hm hmj hmn

end Go.Proofs.Ytannjgdginfgeaa

/- Chapter 4: forests copied and measured by the laws. -/
namespace Go.Proofs.Ytannjgdginfgeaa
open Go.RowKit

/-- a forest in memory -/
structure FoAt (w : World) (own : Bool) (lo hi : Nat) (an : Option Addr) (nn cn : Nat) (ab : Option Addr) (nb cb : Nat) (K : Nat → KS) (f : Fo) : Prop where
  nodes : NodesAt w own lo hi an nn cn K f.1
  blocks : RowAt w own lo hi 2 ab nb cb (pairs f.2)
  sep : own = true → nb ≠ 0 → ¬ inN an nn K (sb ab)
theorem FoAt.below {w w' : World} {own : Bool} {lo hi : Nat} {an : Option Addr} {nn cn : Nat} {ab : Option Addr} {nb cb : Nat} {K : Nat → KS} {f : Fo} (h : FoAt w own lo hi an nn cn ab nb cb K f) (hb : Below w.heap.size w w') : FoAt w' own lo hi an nn cn ab nb cb K f :=
  ⟨h.nodes.below hb, h.blocks.below hb, h.sep⟩
theorem FoAt.kept {w w' : World} {own : Bool} {lo hi : Nat} {an : Option Addr} {nn cn : Nat} {ab : Option Addr} {nb cb : Nat} {K : Nat → KS} {f : Fo} (h : FoAt w own lo hi an nn cn ab nb cb K f) {l u : Nat} (hk : Kept l u w w') (hd : hi ≤ l ∨ u ≤ lo) : FoAt w' own lo hi an nn cn ab nb cb K f :=
  ⟨h.nodes.kept hk hd, h.blocks.kept hk hd, h.sep⟩
theorem FoAt.widen {w : World} {own : Bool} {lo hi : Nat} {an : Option Addr} {nn cn : Nat} {ab : Option Addr} {nb cb : Nat} {K : Nat → KS} {f : Fo} (h : FoAt w own lo hi an nn cn ab nb cb K f) {lo' hi' : Nat} (h1 : lo' ≤ lo) (h2 : hi ≤ hi') : FoAt w own lo' hi' an nn cn ab nb cb K f :=
  ⟨h.nodes.widen h1 h2, h.blocks.widen h1 h2, h.sep⟩

end Go.Proofs.Ytannjgdginfgeaa

/- Chapter 4: forests copied, measured and compared by the laws. -/
namespace Go.Proofs.Ytannjgdginfgeaa
open Go.RowKit

def kl (ns : List Nd) (i : Nat) : Nat := ((ns.take i).map fun nd => nd.2.2.length).sum
end Go.Proofs.Ytannjgdginfgeaa

/- Chapter 4: forests compared, marked and held by the laws. -/
namespace Go.Proofs.Ytannjgdginfgeaa
open Go.RowKit

end Go.Proofs.Ytannjgdginfgeaa

/- Chapter 4: forests marked and held by the laws. -/
namespace Go.Proofs.Ytannjgdginfgeaa
open Go.RowKit

end Go.Proofs.Ytannjgdginfgeaa
