/- Chapter 4: nodes in memory: a row of three cells a node, and a row of kids each. -/
import Derived.Test.YtedgppggaceopaaZT
import Derived.Test.YtedgppggaceopaaBC
import Derived.Test.YtedgppggaceopaaFacts
import Derived.Test.YtedgppggaceopaaSm
import Derived.Test.YtedgppggaceopaaEq
import Derived.Test.YtedgppggaceopaaMark
namespace Go.Proofs.Ytedgppggaceopaa
open Go.RowKit

/-- as Kept, but for a set of blocks -/
structure KeptS (S : Nat → Prop) (w w' : World) : Prop where
  os : w'.os = w.os
  tape : w'.tape = w.tape
  output : w'.output = w.output
  size : w.heap.size ≤ w'.heap.size
  block : ∀ k, k < w.heap.size → ¬ S k → w'.heap[k]? = w.heap[k]?
theorem KeptS.refl (S : Nat → Prop) (w : World) : KeptS S w w := ⟨rfl, rfl, rfl, Nat.le_refl _, fun _ _ _ => rfl⟩
theorem KeptS.trans {S : Nat → Prop} {a b c : World} (h : KeptS S a b) (k : KeptS S b c) : KeptS S a c :=
  ⟨k.os.trans h.os, k.tape.trans h.tape, k.output.trans h.output, Nat.le_trans h.size k.size, fun i hi ho => (k.block i (Nat.lt_of_lt_of_le hi h.size) ho).trans (h.block i hi ho)⟩
theorem KeptS.mono {S T : Nat → Prop} {w w' : World} (h : KeptS S w w') (hst : ∀ k, S k → T k) : KeptS T w w' := ⟨h.os, h.tape, h.output, h.size, fun k hk ho => h.block k hk fun hs => ho (hst k hs)⟩
theorem Kept.toS {lo hi : Nat} {S : Nat → Prop} {w w' : World} (h : Kept lo hi w w') (hs : ∀ k, lo ≤ k → k < hi → S k) : KeptS S w w' := ⟨h.os, h.tape, h.output, h.size, fun k hk ho => h.block k hk (by
  by_cases h1 : k < lo
  · exact Or.inl h1
  · by_cases h2 : hi ≤ k
    · exact Or.inr h2
    · exact absurd (hs k (by omega) (by omega)) ho)⟩
theorem KeptS.kept {S : Nat → Prop} {lo hi : Nat} {w w' : World} (h : KeptS S w w') (hs : ∀ k, S k → lo ≤ k ∧ k < hi) : Kept lo hi w w' := ⟨h.os, h.tape, h.output, h.size, fun k hk ho => h.block k hk fun hS => by have := hs k hS; omega⟩
theorem KeptS.below {S : Nat → Prop} {w w' : World} (h : Below w.heap.size w w') : KeptS S w w' := ⟨h.os, h.tape, h.output, h.size, fun k hk _ => h.block k hk⟩
theorem KeptS.cell {S : Nat → Prop} {w w' : World} (h : KeptS S w w') {b o : Nat} {v : Value} (hc : w.cell? ⟨b, o, none⟩ = some v) (hb : b < w.heap.size) (hs : ¬ S b) : w'.cell? ⟨b, o, none⟩ = some v := by
  rw [World.cell?_of_block (w := w) (a := ⟨b, o, none⟩) (h.block b hb hs)]; exact hc
theorem KeptS.frozen {S : Nat → Prop} {w w' : World} (h : KeptS S w w') {b o : Nat} {v : Bool} (hc : w.frozen? ⟨b, o, none⟩ = v) (hb : b < w.heap.size) (hs : ¬ S b) : w'.frozen? ⟨b, o, none⟩ = v := by
  rw [World.frozen?_of_block (w := w) (a := ⟨b, o, none⟩) (h.block b hb hs)]; exact hc
theorem RowAt.keptS {w w' : World} {own : Bool} {lo hi size : Nat} {ao : Option Addr} {n cap : Nat} {cs : List Value} (h : RowAt w own lo hi size ao n cap cs) {S : Nat → Prop} (hk : KeptS S w w') (hd : ∀ a, n ≠ 0 → ao = some a → ¬ S a.block) : RowAt w' own lo hi size ao n cap cs := by
  refine ⟨h.len, h.le, fun hn => ?_⟩
  obtain ⟨b, off, rfl, h1, h2, h3, h4, h5⟩ := h.cells hn
  have hs := hd _ hn rfl
  exact ⟨b, off, rfl, h1, h2, Nat.lt_of_lt_of_le h3 hk.size, fun i hi => hk.cell (h4 i hi) h3 hs, fun ho i hi => hk.frozen (h5 ho i hi) h3 hs⟩
theorem KeptS.setCell {S : Nat → Prop} {a w : World} (h : KeptS S a w) {p : Addr} (h1 : S p.block) (u : Value) : KeptS S a (w.setCell p u) :=
  h.trans ⟨rfl, rfl, rfl, by simp [World.setCell], fun k _ ho => Below.heap_setCell _ _ _ _ (fun e => ho (e ▸ h1))⟩

/-- a kids slice -/
abbrev KS := Option Addr × Nat × Nat
def ksv (k : KS) : Value := .slice k.1 k.2.1 k.2.2
def flat3 (n : Nat) (g0 g1 g2 : Nat → Value) : List Value := (List.range (n * 3)).map fun j => if j % 3 = 0 then g0 (j / 3) else if j % 3 = 1 then g1 (j / 3) else g2 (j / 3)
theorem flat3_len (n : Nat) (g0 g1 g2 : Nat → Value) : (flat3 n g0 g1 g2).length = n * 3 := by simp [flat3]
theorem flat3_get (n : Nat) (g0 g1 g2 : Nat → Value) (j : Nat) (h : j < n * 3) : (flat3 n g0 g1 g2).getD j default = if j % 3 = 0 then g0 (j / 3) else if j % 3 = 1 then g1 (j / 3) else g2 (j / 3) := by
  simp [flat3, List.getD, h]
theorem flat3_get0 (n : Nat) (g0 g1 g2 : Nat → Value) (i : Nat) (h : i < n) : (flat3 n g0 g1 g2).getD (i * 3) default = g0 i := by
  rw [flat3_get _ _ _ _ _ (by omega), if_pos (by omega), show i * 3 / 3 = i by omega]
theorem flat3_get1 (n : Nat) (g0 g1 g2 : Nat → Value) (i : Nat) (h : i < n) : (flat3 n g0 g1 g2).getD (i * 3 + 1) default = g1 i := by
  rw [flat3_get _ _ _ _ _ (by omega), if_neg (by omega), if_pos (by omega), show (i * 3 + 1) / 3 = i by omega]
theorem flat3_get2 (n : Nat) (g0 g1 g2 : Nat → Value) (i : Nat) (h : i < n) : (flat3 n g0 g1 g2).getD (i * 3 + 2) default = g2 i := by
  rw [flat3_get _ _ _ _ _ (by omega), if_neg (by omega), if_neg (by omega), show (i * 3 + 2) / 3 = i by omega]
theorem flat3_set {n : Nat} {g0 g1 g2 : Nat → Value} {i : Nat} (_ : i < n) (a b c : Value) : (((flat3 n g0 g1 g2).set (i * 3) a).set (i * 3 + 1) b).set (i * 3 + 2) c = flat3 n (fun j => if j = i then a else g0 j) (fun j => if j = i then b else g1 j) (fun j => if j = i then c else g2 j) := by
  apply List.ext_getElem (by simp [flat3])
  intro j h1 h2
  simp only [List.getElem_set, flat3, List.getElem_map, List.getElem_range]
  simp [flat3] at h2
  by_cases e2 : i * 3 + 2 = j
  · subst e2; rw [if_pos rfl, if_neg (by omega), if_neg (by omega), if_pos (by omega)]
  · rw [if_neg e2]
    by_cases e1 : i * 3 + 1 = j
    · subst e1; rw [if_pos rfl, if_neg (by omega), if_pos (by omega), if_pos (by omega)]
    · rw [if_neg e1]
      by_cases e0 : i * 3 = j
      · subst e0; rw [if_pos rfl, if_pos (by omega), if_pos (by omega)]
      · rw [if_neg e0]
        by_cases m0 : j % 3 = 0
        · rw [if_pos m0, if_pos m0, if_neg (by omega)]
        · rw [if_neg m0, if_neg m0]
          by_cases m1 : j % 3 = 1
          · rw [if_pos m1, if_pos m1, if_neg (by omega)]
          · rw [if_neg m1, if_neg m1, if_neg (by omega)]
theorem flat3_congr {n : Nat} {g0 g1 g2 k0 k1 k2 : Nat → Value} (h : ∀ i, i < n → g0 i = k0 i ∧ g1 i = k1 i ∧ g2 i = k2 i) : flat3 n g0 g1 g2 = flat3 n k0 k1 k2 := by
  refine List.map_congr_left fun j hj => ?_
  have hj' := List.mem_range.1 hj
  obtain ⟨h0, h1, h2⟩ := h (j / 3) (by omega)
  rw [h0, h1, h2]

def ncells (K : Nat → KS) (ns : List Nd) : List Value := flat3 ns.length (fun i => .int .i64 (ns.getD i nd0).1) (fun i => .bool (ns.getD i nd0).2.1) (fun i => ksv (K i))
theorem ncells_len (K : Nat → KS) (ns : List Nd) : (ncells K ns).length = ns.length * 3 := flat3_len _ _ _ _
def updK (K : Nat → KS) (i : Nat) (k : KS) : Nat → KS := fun j => if j = i then k else K j
theorem set_getN (ns : List Nd) (i j : Nat) (nd : Nd) (h : i < ns.length) : (ns.set i nd).getD j nd0 = if j = i then nd else ns.getD j nd0 := by
  by_cases e : j = i
  · subst e; rw [if_pos rfl]; simp [List.getD, h]
  · rw [if_neg e]; simp [List.getD, Ne.symm e]
theorem ncells_set {K : Nat → KS} {ns : List Nd} {i : Nat} (h : i < ns.length) (nd : Nd) (k : KS) : (((ncells K ns).set (i * 3) (.int .i64 nd.1)).set (i * 3 + 1) (.bool nd.2.1)).set (i * 3 + 2) (ksv k) = ncells (updK K i k) (ns.set i nd) := by
  unfold ncells
  rw [flat3_set h, List.length_set]
  refine flat3_congr fun j _ => ?_
  rw [set_getN _ _ _ _ h]
  by_cases e : j = i
  · simp [e, updK]
  · simp [e, updK]
/-- the block of a slice -/
def sb (ao : Option Addr) : Nat := match ao with | some a => a.block | none => 0
/-- n nodes: their row, the rows of their kids; where they are the call's own, each in a block of its own -/
structure NodesAt (w : World) (own : Bool) (lo hi : Nat) (ao : Option Addr) (n cap : Nat) (K : Nat → KS) (ns : List Nd) : Prop where
  len : ns.length = n
  row : RowAt w own lo hi 3 ao n cap (ncells K ns)
  kids : ∀ i, i < n → RowAt w own lo hi 1 (K i).1 (K i).2.1 (K i).2.2 (ints (ns.getD i nd0).2.2)
  sep : own = true → ∀ i, i < n → (K i).2.1 ≠ 0 → sb (K i).1 ≠ sb ao ∧ ∀ j, j < n → j ≠ i → (K j).2.1 ≠ 0 → sb (K j).1 ≠ sb (K i).1
theorem NodesAt.below {w w' : World} {own : Bool} {lo hi : Nat} {ao : Option Addr} {n cap : Nat} {K : Nat → KS} {ns : List Nd} (h : NodesAt w own lo hi ao n cap K ns) (hb : Below w.heap.size w w') : NodesAt w' own lo hi ao n cap K ns :=
  ⟨h.len, h.row.below hb, fun i hi => (h.kids i hi).below hb, h.sep⟩
theorem NodesAt.kept {w w' : World} {own : Bool} {lo hi : Nat} {ao : Option Addr} {n cap : Nat} {K : Nat → KS} {ns : List Nd} (h : NodesAt w own lo hi ao n cap K ns) {l u : Nat} (hk : Kept l u w w') (hd : hi ≤ l ∨ u ≤ lo) : NodesAt w' own lo hi ao n cap K ns :=
  ⟨h.len, h.row.kept hk hd, fun i hi => (h.kids i hi).kept hk hd, h.sep⟩
theorem NodesAt.widen {w : World} {own : Bool} {lo hi : Nat} {ao : Option Addr} {n cap : Nat} {K : Nat → KS} {ns : List Nd} (h : NodesAt w own lo hi ao n cap K ns) {lo' hi' : Nat} (h1 : lo' ≤ lo) (h2 : hi ≤ hi') : NodesAt w own lo' hi' ao n cap K ns :=
  ⟨h.len, h.row.widen h1 h2, fun i hi => (h.kids i hi).widen h1 h2, h.sep⟩
/-- the blocks that nodes lie in -/
def inN (ao : Option Addr) (n : Nat) (K : Nat → KS) (k : Nat) : Prop := (n ≠ 0 ∧ k = sb ao) ∨ ∃ i, i < n ∧ (K i).2.1 ≠ 0 ∧ k = sb (K i).1
theorem NodesAt.within {w : World} {own : Bool} {lo hi : Nat} {ao : Option Addr} {n cap : Nat} {K : Nat → KS} {ns : List Nd} (h : NodesAt w own lo hi ao n cap K ns) {k : Nat} (hk : inN ao n K k) : lo ≤ k ∧ k < hi ∧ k < w.heap.size := by
  rcases hk with ⟨h0, rfl⟩ | ⟨i, hi, h0, rfl⟩
  · obtain ⟨b, off, e, h1, h2, h3, _⟩ := h.row.cells h0
    rw [e]; exact ⟨h1, h2, h3⟩
  · obtain ⟨b, off, e, h1, h2, h3, _⟩ := (h.kids i hi).cells h0
    rw [e]; exact ⟨h1, h2, h3⟩
theorem NodesAt.keptS {w w' : World} {own : Bool} {lo hi : Nat} {ao : Option Addr} {n cap : Nat} {K : Nat → KS} {ns : List Nd} (h : NodesAt w own lo hi ao n cap K ns) {S : Nat → Prop} (hk : KeptS S w w') (hd : ∀ k, inN ao n K k → ¬ S k) : NodesAt w' own lo hi ao n cap K ns :=
  ⟨h.len, h.row.keptS hk fun a hn e => by have := hd (sb ao) (Or.inl ⟨hn, rfl⟩); rwa [e] at this, fun i hi => (h.kids i hi).keptS hk fun a hn e => by have := hd (sb (K i).1) (Or.inr ⟨i, hi, hn, rfl⟩); rwa [e] at this, h.sep⟩

/-- one node -/
theorem NodesAt.node {w : World} {own : Bool} {lo hi : Nat} {ao : Option Addr} {n cap : Nat} {K : Nat → KS} {ns : List Nd} (h : NodesAt w own lo hi ao n cap K ns) {i : Nat} (hi' : i < n) :
    ∃ b off, ao = some ⟨b, off, none⟩ ∧ lo ≤ b ∧ b < hi ∧ b < w.heap.size ∧ w.cell? ⟨b, off + i * 3, none⟩ = some (.int .i64 (ns.getD i nd0).1) ∧ w.cell? ⟨b, off + i * 3 + 1, none⟩ = some (.bool (ns.getD i nd0).2.1) ∧ w.cell? ⟨b, off + i * 3 + 2, none⟩ = some (.slice (K i).1 (K i).2.1 (K i).2.2) ∧
      (own = true → w.frozen? ⟨b, off + i * 3, none⟩ = false ∧ w.frozen? ⟨b, off + i * 3 + 1, none⟩ = false ∧ w.frozen? ⟨b, off + i * 3 + 2, none⟩ = false) := by
  obtain ⟨b, off, rfl, h1, h2, h3, h4, h5⟩ := h.row.cells (by omega)
  have hl := h.len
  refine ⟨b, off, rfl, h1, h2, h3, ?_, ?_, ?_, fun ho => ⟨h5 ho _ (by omega), by rw [Nat.add_assoc]; exact h5 ho _ (by omega), by rw [Nat.add_assoc]; exact h5 ho _ (by omega)⟩⟩
  · rw [h4 _ (by omega), ncells, flat3_get0 _ _ _ _ _ (by omega)]
  · rw [Nat.add_assoc, h4 _ (by omega), ncells, flat3_get1 _ _ _ _ _ (by omega)]
  · rw [Nat.add_assoc, h4 _ (by omega), ncells, flat3_get2 _ _ _ _ _ (by omega)]; rfl
theorem NodesAt.nKids {w : World} {own : Bool} {lo hi : Nat} {ao : Option Addr} {n cap : Nat} {K : Nat → KS} {ns : List Nd} (h : NodesAt w own lo hi ao n cap K ns) {i : Nat} (hi' : i < n) : (ns.getD i nd0).2.2.length = (K i).2.1 := (h.kids i hi').nInts

/-- the call's own nodes, one written anew -/
theorem NodesAt.put {w : World} {lo hi : Nat} {b off n cap : Nat} {K : Nat → KS} {ns : List Nd} (h : NodesAt w true lo hi (some ⟨b, off, none⟩) n cap K ns) {i : Nat} (hi' : i < n) (nd : Nd) (k : KS)
    (hk : RowAt w true lo hi 1 k.1 k.2.1 k.2.2 (ints nd.2.2)) (hs : k.2.1 ≠ 0 → sb k.1 ≠ b ∧ ∀ j, j < n → j ≠ i → (K j).2.1 ≠ 0 → sb (K j).1 ≠ sb k.1) :
    NodesAt (((w.setCell ⟨b, off + i * 3, none⟩ (.int .i64 nd.1)).setCell ⟨b, off + i * 3 + 1, none⟩ (.bool nd.2.1)).setCell ⟨b, off + i * 3 + 2, none⟩ (ksv k)) true lo hi (some ⟨b, off, none⟩) n cap (updK K i k) (ns.set i nd) := by
  have hl := h.len
  have R := ((h.row.stored (i := i * 3) (by omega) (.int .i64 nd.1)).stored (i := i * 3 + 1) (by omega) (.bool nd.2.1)).stored (i := i * 3 + 2) (by omega) (ksv k)
  rw [ncells_set (by omega), ← Nat.add_assoc, ← Nat.add_assoc] at R
  have KS1 : KeptS (fun x => x = b) w (((w.setCell ⟨b, off + i * 3, none⟩ (.int .i64 nd.1)).setCell ⟨b, off + i * 3 + 1, none⟩ (.bool nd.2.1)).setCell ⟨b, off + i * 3 + 2, none⟩ (ksv k)) := by
    refine KeptS.setCell (KeptS.setCell (KeptS.setCell (KeptS.refl _ _) ?_ _) ?_ _) ?_ _ <;> rfl
  refine ⟨by rw [List.length_set]; exact hl, R, fun j hj => ?_, fun _ j hj hne => ?_⟩
  · rw [set_getN _ _ _ _ (by omega)]
    by_cases e : j = i
    · subst e
      rw [if_pos rfl]
      simp only [updK, if_pos]
      exact hk.keptS KS1 fun a hn ea => by have := (hs hn).1; rw [ea] at this; exact this
    · rw [if_neg e]
      simp only [updK, if_neg e]
      exact (h.kids j hj).keptS KS1 fun a hn ea => by have := (h.sep rfl j hj hn).1; rw [ea] at this; exact this
  · by_cases e : j = i
    · subst e
      simp only [updK, if_pos] at hne ⊢
      refine ⟨(hs hne).1, fun m hm hmj hmn => ?_⟩
      rw [if_neg hmj] at hmn ⊢
      exact (hs hne).2 m hm hmj hmn
    · simp only [updK, if_neg e] at hne ⊢
      obtain ⟨s1, s2⟩ := h.sep rfl j hj hne
      refine ⟨s1, fun m hm hmj hmn => ?_⟩
      by_cases e2 : m = i
      · subst e2
        rw [if_pos rfl] at hmn ⊢
        exact ((hs hmn).2 j hj e hne).symm
      · rw [if_neg e2] at hmn ⊢
        exact s2 m hm hmj hmn

end Go.Proofs.Ytedgppggaceopaa

/- Chapter 4: forests copied and measured by the laws. -/
namespace Go.Proofs.Ytedgppggaceopaa
open Go.RowKit

def copN (ns : List Nd) (k : Nat) : List Nd := ns.take k ++ List.replicate (ns.length - k) nd0
theorem copN_zero (ns : List Nd) : copN ns 0 = List.replicate ns.length nd0 := by simp [copN]
theorem copN_all (ns : List Nd) : copN ns ns.length = ns := by simp [copN]
theorem copN_len (ns : List Nd) (k : Nat) (h : k ≤ ns.length) : (copN ns k).length = ns.length := by simp [copN]; omega
theorem copN_set (ns : List Nd) (k : Nat) (h : k < ns.length) : (copN ns k).set k (ns.getD k nd0) = copN ns (k + 1) := by
  have e : ns.length - k = (ns.length - (k + 1)) + 1 := by omega
  have hl : (ns.take k).length = k := by simp; omega
  have hv : ns.getD k nd0 = ns[k] := by simp [List.getD, h]
  unfold copN
  rw [e, List.replicate_succ, List.set_append, if_neg (by omega), hl, Nat.sub_self, List.set_cons_zero, List.take_succ_eq_append_getElem h, List.append_assoc, hv]
  rfl
theorem copN_get (ns : List Nd) (k j : Nat) (h : k ≤ j) : (copN ns k).getD j nd0 = nd0 := by
  by_cases hj : j < ns.length
  · unfold copN
    rw [List.getD_eq_getElem?_getD, List.getElem?_append_right (by simp; omega), List.getElem?_replicate, if_pos (by simp; omega)]; rfl
  · by_cases hk : k ≤ ns.length
    · rw [List.getD_eq_getElem?_getD, List.getElem?_eq_none (by rw [copN_len _ _ hk]; omega)]; rfl
    · rw [List.getD_eq_getElem?_getD, List.getElem?_eq_none (by simp [copN]; omega)]; rfl
theorem made_nodes (n : Nat) : (madeCells #[.int .i64 0, .bool false, .slice none 0 0] (n * 3)).toList = ncells (fun _ => (none, 0, 0)) (List.replicate n nd0) := by
  unfold ncells
  rw [List.length_replicate]
  apply List.ext_getElem (by simp [madeCells, flat3])
  intro j h1 h2
  simp [flat3] at h2
  have hg : ∀ i, i < n → (List.replicate n nd0).getD i nd0 = nd0 := fun i hi => by simp [List.getD, hi]
  have hj3 : j / 3 < n := by omega
  simp only [flat3, List.getElem_map, List.getElem_range, hg _ hj3]
  rcases (show j % 3 = 0 ∨ j % 3 = 1 ∨ j % 3 = 2 by omega) with e | e | e <;> simp [madeCells, e, nd0, ksv]

/-- a forest in memory -/
structure FoAt (w : World) (own : Bool) (lo hi : Nat) (an : Option Addr) (nn cn : Nat) (ab : Option Addr) (nb cb : Nat) (K : Nat → KS) (f : Fo) : Prop where
  nodes : NodesAt w own lo hi an nn cn K f.1
  blocks : RowAt w own lo hi 2 ab nb cb (pairs f.2)
  sep : own = true → nb ≠ 0 → ¬ inN an nn K (sb ab)
theorem FoAt.below {w w' : World} {own : Bool} {lo hi : Nat} {an : Option Addr} {nn cn : Nat} {ab : Option Addr} {nb cb : Nat} {K : Nat → KS} {f : Fo} (h : FoAt w own lo hi an nn cn ab nb cb K f) (hb : Below w.heap.size w w') : FoAt w' own lo hi an nn cn ab nb cb K f :=
  ⟨h.nodes.below hb, h.blocks.below hb, h.sep⟩
theorem FoAt.kept {w w' : World} {own : Bool} {lo hi : Nat} {an : Option Addr} {nn cn : Nat} {ab : Option Addr} {nb cb : Nat} {K : Nat → KS} {f : Fo} (h : FoAt w own lo hi an nn cn ab nb cb K f) {l u : Nat} (hk : Kept l u w w') (hd : hi ≤ l ∨ u ≤ lo) : FoAt w' own lo hi an nn cn ab nb cb K f :=
  ⟨h.nodes.kept hk hd, h.blocks.kept hk hd, h.sep⟩
theorem FoAt.widen {w : World} {own : Bool} {lo hi : Nat} {an : Option Addr} {nn cn : Nat} {ab : Option Addr} {nb cb : Nat} {K : Nat → KS} {f : Fo} (h : FoAt w own lo hi an nn cn ab nb cb K f) {lo' hi' : Nat} (h1 : lo' ≤ lo) (h2 : hi ≤ hi') : FoAt w own lo' hi' an nn cn ab nb cb K f :=
  ⟨h.nodes.widen h1 h2, h.blocks.widen h1 h2, h.sep⟩

set_option maxHeartbeats 1000000 in
theorem toNode_any {o : Bool} {l u : Nat} (r : Int) (lf : Bool) (ka : Option Addr) (kn kc : Nat) (ks : List Int) (w : World) (h : RowAt w o l u 1 ka kn kc (ints ks)) (hn : kn ≤ 1048576) :
    Calls Try.prog 107 #[.agg #[.int .i64 r, .bool lf, .slice ka kn kc]] w fun e w' => ∃ g, w.heap.size ≤ g ∧ e = .returned (.agg #[.int .i64 r, .bool lf, .slice (some ⟨g, 0, none⟩) kn kn]) ∧ RowAt w' true w.heap.size w'.heap.size 1 (some ⟨g, 0, none⟩) kn kn (ints ks) ∧ Below w.heap.size w w' := by
  have B1 : Below w.heap.size w (w.alloc (.cells #[.int .i64 r, .bool lf, .slice ka kn kc] 140)) := (Below.refl _ _).alloc (Nat.le_refl _) _
  have B2 : Below w.heap.size w ((w.alloc (.cells #[.int .i64 r, .bool lf, .slice ka kn kc] 140)).alloc (.cells #[.int .i64 0, .bool false, .slice none 0 0] 109)) := B1.alloc (by simp) _
  have B3 : Below w.heap.size w (((w.alloc (.cells #[.int .i64 r, .bool lf, .slice ka kn kc] 140)).alloc (.cells #[.int .i64 0, .bool false, .slice none 0 0] 109)).alloc (.cells #[.int .i64 r, .bool lf, .slice none 0 0] 109)) := B2.alloc (by simp; omega) _
  go_enter Try.func107, Try.ntmps107
  go_wp2_with fail
  refine (toInts_any _ _ _ ks _ (by exact h.below B3) (by omega)).mono ?_
  rintro e w1 ⟨rfl, r1, hb1⟩
  have B4 := below_next B3 hb1
  obtain ⟨hc, hf⟩ := bcell hb1
  have hz : w.heap.size + 1 + 1 < w1.heap.size := by have := hb1.size; simp at this; omega
  have hz' : w.heap.size + 1 < w1.heap.size := by omega
  have hz'' : w.heap.size < w1.heap.size := by omega
  go_wp2
  refine bodyPost_ret (v := .agg #[.int .i64 r, .bool lf, .slice (some ⟨w.heap.size + 1 + 1 + 1, 0, none⟩) kn kn]) (by simp [results, Try.results107, go_sem, hc]) rfl ?_
  have r1' : RowAt w1 true (w.heap.size + 3) w1.heap.size 1 (some ⟨w.heap.size + 1 + 1 + 1, 0, none⟩) kn kn (ints ks) := by simpa using r1
  refine ⟨_, by omega, rfl, ?_, ?_⟩
  · refine RowAt.widen (RowAt.kept (l := w.heap.size) (u := w.heap.size + 3) r1' ?_ (by omega)) (by omega) (by simp)
    refine Kept.setCell (Kept.setCell (Kept.setCell (Kept.setCell (Kept.refl _ _ _) ?_ ?_ _) ?_ ?_ _) ?_ ?_ _) ?_ ?_ _ <;> simp <;> omega
  · refine Below.setCell (Below.setCell (Below.setCell (Below.setCell B4 ?_ _) ?_ _) ?_ _) ?_ _ <;> simp <;> omega

theorem Try.infoNode : (Try.prog.info? 109).map (fun i => (i.zero, i.size, i.bytes)) = some (some (.agg #[.int .i64 0, .bool false, .slice none 0 0]), 3, 40) := by kernel_rfl

theorem RowAt.block_lt {w : World} {own : Bool} {lo hi size : Nat} {ao : Option Addr} {n cap : Nat} {cs : List Value} (h : RowAt w own lo hi size ao n cap cs) (hn : n ≠ 0) : lo ≤ sb ao ∧ sb ao < hi ∧ sb ao < w.heap.size := by
  obtain ⟨b, off, rfl, h1, h2, h3, _⟩ := h.cells hn
  exact ⟨h1, h2, h3⟩

set_option maxRecDepth 20000 in
set_option maxHeartbeats 2000000 in
theorem toNodes_any {o : Bool} {l u : Nat} (ao : Option Addr) (n cap : Nat) (K : Nat → KS) (ns : List Nd) (w : World) (h : NodesAt w o l u ao n cap K ns) (hn : n ≤ 1048576) (hK : ∀ i, i < n → (K i).2.1 ≤ 1048576) :
    Calls Try.prog 78 #[.slice ao n cap] w fun e w' => ∃ K', e = .returned (.slice (some ⟨w.heap.size, 0, none⟩) n n) ∧ NodesAt w' true w.heap.size w'.heap.size (some ⟨w.heap.size, 0, none⟩) n n K' ns ∧ Below w.heap.size w w' := by
  have hl := h.len
  obtain ⟨i0, hi0, hz0, hz1, hz2⟩ := info_parts Try.infoNode
  go_enter Try.func78, Try.ntmps78
  go_wp2_with (first | (at_make; refine wpList_make_full _ rfl _ _ 34 rfl w.heap.size 109 i0 (.agg #[.int .i64 0, .bool false, .slice none 0 0]) 3 Try.underlying34 hi0 hz0 hz1 _ _ _ _ n rfl rfl rfl rfl ?b1 ?b2 ?b3 ?_))
  case b1 => rw [hz2]; omega
  case b2 => unfold maxLen; omega
  case b3 => exact Nat.le_refl _
  intro w1 hown hgrow
  have hb1 : Below w.heap.size w w1 := (Below.refl _ _).grown hgrow (Nat.le_refl _) (fun k hk => by cases hk)
  have R0 : NodesAt w1 true w.heap.size w1.heap.size (some ⟨w.heap.size, 0, none⟩) n n (fun _ => (none, 0, 0)) (copN ns 0) := by
    refine ⟨by rw [copN_len _ _ (Nat.zero_le _), hl], ?_, fun i hi => ?_, fun _ i hi hne => absurd rfl hne⟩
    · rw [copN_zero, hl, ← made_nodes]; exact RowAt.of_owns hown (Nat.le_refl _)
    · rw [copN_get _ _ _ (Nat.zero_le _)]; exact RowAt.nil _ _ _ _ _
  clear hown hgrow
  go_wp2
  go_loopw [4] (fun i wr => ∃ k : Nat, k ≤ n ∧ i = .int .i64 k ∧ (∃ K', NodesAt wr true w.heap.size wr.heap.size (some ⟨w.heap.size, 0, none⟩) n n K' (copN ns k) ∧ ∀ j, k ≤ j → K' j = (none, 0, 0)) ∧ Below w.heap.size w wr) (fun i _ => n - (intOf i).toNat)
  case atStart => exact ⟨0, Nat.zero_le _, rfl, ⟨_, R0, fun _ _ => rfl⟩, hb1⟩
  case round =>
    obtain ⟨k, hk, rfl, ⟨K', R, hK'⟩, B⟩ := hrel
    clear R0 hb1
    by_cases hlt : k < n
    · obtain ⟨b, f, rfl, _, _, hbs, e1, e2, e3, _⟩ := h.node hlt
      replace e1 := (B.cell (p := ⟨b, f + k * 3, none⟩) hbs).trans e1
      replace e2 := (B.cell (p := ⟨b, f + k * 3 + 1, none⟩) hbs).trans e2
      replace e3 := (B.cell (p := ⟨b, f + k * 3 + 2, none⟩) hbs).trans e3
      have hlk : (k : Int) < (n : Int) := by omega
      have hkr := (h.kids k hlt).kept (Kept.of_below B : Kept u u w wr) (Or.inl (Nat.le_refl _))
      have hkn := hK k hlt
      have hset := copN_set ns k (by omega)
      have hwl : w.heap.size < wr.heap.size := (R.row.block_lt (by omega)).2.2
      obtain ⟨_, _, e', _, _, _, c0, c1, c2, ff⟩ := R.node hlt
      cases e'
      obtain ⟨f0, f1, f2⟩ := ff rfl
      rw [copN_get _ _ _ (Nat.le_refl _)] at c0 c1
      rw [hK' k (Nat.le_refl _)] at c2
      obtain ⟨⟨r, lf, ks⟩, hnd⟩ : ∃ nd, ns.getD k nd0 = nd := ⟨_, rfl⟩
      obtain ⟨⟨ka, kn, kc⟩, hks⟩ : ∃ q, K k = q := ⟨_, rfl⟩
      rw [hnd] at e1 e2 hkr hset
      rw [hks] at e3 hkr hkn
      simp only at e1 e2 e3 hkr hkn c0 c1 c2
      simp only [nd0] at c0 c1
      have HR : Hid _ := R
      have HS : Hid _ := hset
      clear R hset hnd hks
      go_wp2_with fail
      refine (toNode_any r lf ka kn kc ks _ hkr hkn).mono ?_
      rintro e w1 ⟨g, hg, rfl, RK, hb⟩
      replace c0 := cell_later hb c0
      replace c1 := cell_later hb c1
      replace c2 := cell_later hb c2
      replace f0 := frozen_later hb hwl f0
      replace f1 := frozen_later hb hwl f1
      replace f2 := frozen_later hb hwl f2
      have RP := ((HR.out.below hb).widen (Nat.le_refl _) hb.size).put hlt (r, lf, ks) (some ⟨g, 0, none⟩, kn, kn) (RK.widen (by omega) (Nat.le_refl _)) (fun hne => ⟨by simp [sb]; omega, fun j hj hjk hjn => by
        have := ((HR.out.kids j hj).block_lt hjn).2.2
        simp [sb] at this ⊢
        omega⟩)
      rw [HS.out] at RP
      rw [Nat.zero_add] at c0 c1 c2 f0 f1 f2 RP
      have B2 := below_next B hb
      have B3 : Below w.heap.size w (((w1.setCell ⟨w.heap.size, k * 3, none⟩ (.int .i64 r)).setCell ⟨w.heap.size, k * 3 + 1, none⟩ (.bool lf)).setCell ⟨w.heap.size, k * 3 + 2, none⟩ (ksv (some ⟨g, 0, none⟩, kn, kn))) := by
        refine Below.setCell (Below.setCell (Below.setCell B2 ?_ _) ?_ _) ?_ _ <;> simp
      clear e1 e2 e3 RK HR HS hkr B B2 hb
      simp only [ksv] at RP B3
      go_wp2
      go_roundw
      case rel => exact ⟨k + 1, by omega, by go_num, ⟨_, by simpa using RP, fun j hj => by simp only [updK]; rw [if_neg (by omega)]; exact hK' j (by omega)⟩, B3⟩
      case measure => simp [intOf]; omega
    · obtain rfl : k = n := by omega
      rw [← hl, copN_all, hl] at R
      go_wp2
      go_ret
      exact ⟨K', rfl, R, B⟩

end Go.Proofs.Ytedgppggaceopaa

/- Chapter 4: forests copied, measured and compared by the laws. -/
namespace Go.Proofs.Ytedgppggaceopaa
open Go.RowKit

set_option maxRecDepth 20000 in
set_option maxHeartbeats 1000000 in
theorem toForest_any {o : Bool} {l u : Nat} (an : Option Addr) (nn cn : Nat) (ab : Option Addr) (nb cb : Nat) (K : Nat → KS) (f : Fo) (w : World) (h : FoAt w o l u an nn cn ab nb cb K f) (hn : nn ≤ 1048576) (hb : nb ≤ 1048576) (hK : ∀ i, i < nn → (K i).2.1 ≤ 1048576) :
    Calls Try.prog 47 #[.agg #[.slice an nn cn, .slice ab nb cb]] w fun e w' => ∃ bn bb K', e = .returned (.agg #[.slice bn nn nn, .slice bb nb nb]) ∧ FoAt w' true w.heap.size w'.heap.size bn nn nn bb nb nb K' f ∧ Below w.heap.size w w' := by
  have B1 : Below w.heap.size w (w.alloc (.cells #[.slice an nn cn, .slice ab nb cb] 25)) := (Below.refl _ _).alloc (Nat.le_refl _) _
  have B2 : Below w.heap.size w ((w.alloc (.cells #[.slice an nn cn, .slice ab nb cb] 25)).alloc (.cells #[.slice none 0 0, .slice none 0 0] 37)) := B1.alloc (by simp) _
  have B3 : Below w.heap.size w (((w.alloc (.cells #[.slice an nn cn, .slice ab nb cb] 25)).alloc (.cells #[.slice none 0 0, .slice none 0 0] 37)).alloc (.cells #[.slice none 0 0, .slice none 0 0] 37)) := B2.alloc (by simp; omega) _
  go_enter Try.func47, Try.ntmps47
  go_wp2_with fail
  refine (toNodes_any _ _ _ K f.1 _ (by exact h.nodes.below B3) hn hK).mono ?_
  rintro e w1 ⟨K', rfl, r1, hb1⟩
  have B4 := below_next B3 hb1
  obtain ⟨hc, hf⟩ := bcell hb1
  have hz : w.heap.size + 1 + 1 < w1.heap.size := by have := hb1.size; simp at this; omega
  have hz' : w.heap.size + 1 < w1.heap.size := by omega
  have hz'' : w.heap.size < w1.heap.size := by omega
  go_wp2_with fail
  have B5 : Below w.heap.size w (w1.setCell ⟨w.heap.size + 1 + 1, 0, none⟩ (.slice (some ⟨w.heap.size + 1 + 1 + 1, 0, none⟩) nn nn)) := B4.setCell (by simp; omega) _
  refine (toBlocks_any _ _ _ f.2 _ (by exact h.blocks.below B5) hb).mono ?_
  rintro e w2 ⟨rfl, r2, hb2⟩
  have B6 := below_next B5 hb2
  obtain ⟨hc2, hf2⟩ := bcell hb2
  have hz2 : w1.heap.size ≤ w2.heap.size := by have := hb2.size; simpa using this
  go_wp2
  refine bodyPost_ret (v := .agg #[.slice (some ⟨w.heap.size + 1 + 1 + 1, 0, none⟩) nn nn, .slice (some ⟨w1.heap.size, 0, none⟩) nb nb]) (by simp [results, Try.results47, go_sem, hc, hc2, hz']) rfl ?_
  have K1 : Kept w.heap.size (w.heap.size + 3) w1 w2 := by
    refine Kept.next (Kept.setCell (Kept.refl _ _ _) ?_ ?_ _) hb2 <;> simp <;> omega
  have r1' : NodesAt w1 true (w.heap.size + 3) w1.heap.size (some ⟨w.heap.size + 1 + 1 + 1, 0, none⟩) nn nn K' f.1 := by simpa using r1
  have r2' : RowAt w2 true w1.heap.size w2.heap.size 2 (some ⟨w1.heap.size, 0, none⟩) nb nb (pairs f.2) := by simpa using r2
  refine ⟨_, _, K', rfl, ⟨?_, ?_, fun _ _ hin => ?_⟩, ?_⟩
  · refine NodesAt.widen (NodesAt.kept (l := w.heap.size) (u := w.heap.size + 3) r1' ?_ (by omega)) (by omega) (by simpa using hz2)
    refine Kept.setCell (Kept.setCell (Kept.setCell K1 ?_ ?_ _) ?_ ?_ _) ?_ ?_ _ <;> simp <;> omega
  · refine RowAt.widen (RowAt.kept (l := w.heap.size) (u := w.heap.size + 3) r2' ?_ (by omega)) (by omega) (by simp)
    refine Kept.setCell (Kept.setCell (Kept.setCell (Kept.refl _ _ _) ?_ ?_ _) ?_ ?_ _) ?_ ?_ _ <;> simp <;> omega
  · have := (r1'.within hin).2.1
    simp [sb] at this
  · refine Below.setCell (Below.setCell (Below.setCell B6 ?_ _) ?_ _) ?_ _ <;> simp <;> omega

def kl (ns : List Nd) (i : Nat) : Nat := ((ns.take i).map fun nd => nd.2.2.length).sum
theorem kl_succ {ns : List Nd} {i : Nat} (h : i < ns.length) : kl ns (i + 1) = kl ns i + (ns.getD i nd0).2.2.length := by
  unfold kl; rw [List.take_add_one, List.map_append, List.sum_append]; simp [List.getD, h]
theorem kl_mono {ns : List Nd} {i j : Nat} (h : i ≤ j) : kl ns i ≤ kl ns j := by
  induction j with
  | zero => rw [show i = 0 by omega]; exact Nat.le_refl _
  | succ j ih =>
    by_cases e : i = j + 1
    · rw [e]; exact Nat.le_refl _
    · by_cases hj : j < ns.length
      · rw [kl_succ hj]; have := ih (by omega); omega
      · have : kl ns (j + 1) = kl ns j := by unfold kl; rw [List.take_of_length_le (by omega), List.take_of_length_le (by omega)]
        rw [this]; exact ih (by omega)
theorem kl_at {ns : List Nd} {i : Nat} (h : i < ns.length) : (ns.getD i nd0).2.2.length ≤ kl ns ns.length := by
  have h1 := kl_succ h
  have h2 := kl_mono (ns := ns) (show i + 1 ≤ ns.length by omega)
  omega

theorem szNode_any (r : Int) (lf : Bool) (ka : Option Addr) (kn kc : Nat) (lt : Int) (w : World) (hn : kn ≤ maxLen) (h0 : 0 ≤ lt) (h1 : lt ≤ 1048576) :
    Calls Try.prog 102 #[.agg #[.int .i64 r, .bool lf, .slice ka kn kc], .int .i64 lt] w fun e w' => e = .returned (.int .i64 (if lt < kn then -1 else lt - kn)) ∧ Below w.heap.size w w' := by
  by_cases h : lt < kn
  · rw [if_pos h]
    go_enter Try.func102, Try.ntmps102
    go_wp2_with fail
    refine (szInts_any _ _ _ _ _ hn h0 h1).mono ?_
    rintro e w' ⟨rfl, rfl⟩
    rw [if_pos h]
    go_wp2
    go_ret
    exact ⟨rfl, (Below.refl _ _).alloc (Nat.le_refl _) _⟩
  · rw [if_neg h]
    go_enter Try.func102, Try.ntmps102
    go_wp2_with fail
    refine (szInts_any _ _ _ _ _ hn h0 h1).mono ?_
    rintro e w' ⟨rfl, rfl⟩
    rw [if_neg (by omega)]
    have hp : ¬ (lt - (kn : Int) < 0) := by omega
    go_wp2
    go_ret
    exact ⟨rfl, (Below.refl _ _).alloc (Nat.le_refl _) _⟩
theorem szBlocks_left (ao : Option Addr) (n c : Nat) (lt : Int) (w : World) (hn : n ≤ maxLen) (h0 : 0 ≤ lt) (h1 : lt ≤ 1048576) :
    Calls Try.prog 72 #[.slice ao n c, .int .i64 lt] w fun e w' => e = .returned (.int .i64 (if lt < n then -1 else lt - n)) ∧ w' = w := by
  unfold maxLen at hn
  by_cases h : lt < n
  all_goals
    go_enter Try.func72, Try.ntmps72
    go_wp2
    go_ret
    exact ⟨by simp, rfl⟩
set_option maxHeartbeats 1000000 in
theorem eqNode_yes {o1 o2 : Bool} {l1 u1 l2 u2 : Nat} (r : Int) (lf : Bool) (ka : Option Addr) (kn kc : Nat) (qa : Option Addr) (qn qc : Nat) (ks : List Int) (w : World) (h1 : RowAt w o1 l1 u1 1 ka kn kc (ints ks)) (h2 : RowAt w o2 l2 u2 1 qa qn qc (ints ks)) (hn : kn ≤ 2097152) :
    Calls Try.prog 114 #[.agg #[.int .i64 r, .bool lf, .slice ka kn kc], .agg #[.int .i64 r, .bool lf, .slice qa qn qc]] w fun e w' => e = .returned (.bool true) ∧ Below w.heap.size w w' := by
  obtain rfl : kn = qn := by rw [← h1.nInts, ← h2.nInts]
  have A : Below w.heap.size w ((w.alloc (.cells #[.int .i64 r, .bool lf, .slice ka kn kc] 109)).alloc (.cells #[.int .i64 r, .bool lf, .slice qa kn qc] 109)) := ((Below.refl _ _).alloc (Nat.le_refl _) _).alloc (by simp) _
  have e1 : (r != r) = false := by simp
  have e2 : (lf != lf) = false := by simp
  go_enter Try.func114, Try.ntmps114
  go_wp2_with fail
  refine (eqInts_is _ _ kn kc kn qc ks ks _ (by exact h1.below A) (by exact h2.below A) hn hn true (by simp)).mono ?_
  rintro e w1 ⟨rfl, hb⟩
  have A2 := below_next A hb
  clear hb A
  go_wp2
  go_ret
  exact ⟨rfl, A2⟩

end Go.Proofs.Ytedgppggaceopaa

/- Chapter 4: forests compared, marked and held by the laws. -/
namespace Go.Proofs.Ytedgppggaceopaa
open Go.RowKit

set_option maxRecDepth 20000 in
set_option maxHeartbeats 2000000 in
theorem eqNodes_yes {o1 o2 : Bool} {l1 u1 l2 u2 : Nat} (a1 a2 : Option Addr) (n c1 m c2 : Nat) (K1 K2 : Nat → KS) (ns : List Nd) (w : World) (h1 : NodesAt w o1 l1 u1 a1 n c1 K1 ns) (h2 : NodesAt w o2 l2 u2 a2 m c2 K2 ns) (hn : n ≤ 2097152) (hK : ∀ i, i < n → (K1 i).2.1 ≤ 2097152) :
    Calls Try.prog 88 #[.slice a1 n c1, .slice a2 m c2] w fun e w' => e = .returned (.bool true) ∧ Below w.heap.size w w' := by
  obtain rfl : n = m := by rw [← h1.len, ← h2.len]
  have hb0 : ((n : Int) != (n : Int)) = false := by simp
  go_enter Try.func88, Try.ntmps88
  go_wp2
  go_loopw [5] (fun i wr => ∃ k : Nat, k ≤ n ∧ i = .int .i64 k ∧ Below w.heap.size w wr) (fun i _ => n - (intOf i).toNat)
  case atStart => exact ⟨0, Nat.zero_le _, rfl, Below.refl _ _⟩
  case round =>
    obtain ⟨k, hk, rfl, hb⟩ := hrel
    by_cases hlt : k < n
    · have r1 := (h1.kids k hlt).kept (Kept.of_below hb : Kept u1 u1 w wr) (Or.inl (Nat.le_refl _))
      have r2 := (h2.kids k hlt).kept (Kept.of_below hb : Kept u2 u2 w wr) (Or.inl (Nat.le_refl _))
      have hkn := hK k hlt
      obtain ⟨b1, f1, rfl, _, _, hs1, d1, d2, d3, _⟩ := h1.node hlt
      obtain ⟨b2, f2, rfl, _, _, hs2, e1, e2, e3, _⟩ := h2.node hlt
      replace d1 := (hb.cell (p := ⟨b1, f1 + k * 3, none⟩) hs1).trans d1
      replace d2 := (hb.cell (p := ⟨b1, f1 + k * 3 + 1, none⟩) hs1).trans d2
      replace d3 := (hb.cell (p := ⟨b1, f1 + k * 3 + 2, none⟩) hs1).trans d3
      replace e1 := (hb.cell (p := ⟨b2, f2 + k * 3, none⟩) hs2).trans e1
      replace e2 := (hb.cell (p := ⟨b2, f2 + k * 3 + 1, none⟩) hs2).trans e2
      replace e3 := (hb.cell (p := ⟨b2, f2 + k * 3 + 2, none⟩) hs2).trans e3
      have hl : (k : Int) < (n : Int) := by omega
      obtain ⟨⟨r, lf, ks⟩, hnd⟩ : ∃ nd, ns.getD k nd0 = nd := ⟨_, rfl⟩
      obtain ⟨⟨ka, kn, kc⟩, hks⟩ : ∃ q, K1 k = q := ⟨_, rfl⟩
      obtain ⟨⟨qa, qn, qc⟩, hqs⟩ : ∃ q, K2 k = q := ⟨_, rfl⟩
      rw [hnd] at d1 d2 e1 e2 r1 r2
      rw [hks] at d3 r1 hkn
      rw [hqs] at e3 r2
      simp only at d1 d2 d3 e1 e2 e3 r1 r2 hkn
      have H1 : Hid _ := r1
      have H2 : Hid _ := r2
      clear hnd hks hqs r1 r2
      go_wp2_with fail
      go_region_held3 (fun w' => w'.cell? ⟨b1, f1 + k * 3, none⟩ = some (.int .i64 r) ∧ w'.cell? ⟨b1, f1 + k * 3 + 1, none⟩ = some (.bool lf) ∧ w'.cell? ⟨b1, f1 + k * 3 + 2, none⟩ = some (.slice ka kn kc) ∧ w'.cell? ⟨b2, f2 + k * 3, none⟩ = some (.int .i64 r) ∧ w'.cell? ⟨b2, f2 + k * 3 + 1, none⟩ = some (.bool lf) ∧ w'.cell? ⟨b2, f2 + k * 3 + 2, none⟩ = some (.slice qa qn qc)) (go_keep) (first | (go_at_call 114; refine (eqNode_yes r lf ka kn kc qa qn qc ks _ (H1.out.below (below_drewN (Below.refl _ _) _)) (H2.out.below (below_drewN (Below.refl _ _) _)) hkn).mono ?_; rintro e w1 ⟨rfl, hb1⟩; have q1 := cell_later hb1 d1; have q2 := cell_later hb1 d2; have q3 := cell_later hb1 d3; have q4 := cell_later hb1 e1; have q5 := cell_later hb1 e2; have q6 := cell_later hb1 e3))
      have hb2 := below_step hb.drew hb.size hb1
      clear q1 q2 q3 q4 q5 q6 hb1 d1 d2 d3 e1 e2 e3 hb
      go_wp2
      go_roundw
      case rel => exact ⟨k + 1, by omega, by go_num, hb2⟩
      case measure => simp [intOf]; omega
    · go_wp2
      go_ret
      exact ⟨rfl, hb⟩

set_option maxRecDepth 20000 in
set_option maxHeartbeats 1000000 in
theorem eqForest_yes {o1 o2 : Bool} {l1 u1 l2 u2 : Nat} (an1 : Option Addr) (n1 cn1 : Nat) (ab1 : Option Addr) (m1 cb1 : Nat) (an2 : Option Addr) (n2 cn2 : Nat) (ab2 : Option Addr) (m2 cb2 : Nat) (K1 K2 : Nat → KS) (f : Fo) (w : World) (h1 : FoAt w o1 l1 u1 an1 n1 cn1 ab1 m1 cb1 K1 f) (h2 : FoAt w o2 l2 u2 an2 n2 cn2 ab2 m2 cb2 K2 f) (hn : n1 ≤ 2097152) (hm : m1 ≤ 2097152) (hK : ∀ i, i < n1 → (K1 i).2.1 ≤ 2097152) :
    Calls Try.prog 58 #[.agg #[.slice an1 n1 cn1, .slice ab1 m1 cb1], .agg #[.slice an2 n2 cn2, .slice ab2 m2 cb2]] w fun e w' => e = .returned (.bool true) ∧ Below w.heap.size w w' := by
  obtain rfl : m1 = m2 := by rw [← h1.blocks.nPairs, ← h2.blocks.nPairs]
  have A : Below w.heap.size w ((w.alloc (.cells #[.slice an1 n1 cn1, .slice ab1 m1 cb1] 37)).alloc (.cells #[.slice an2 n2 cn2, .slice ab2 m1 cb2] 37)) := ((Below.refl _ _).alloc (Nat.le_refl _) _).alloc (by simp) _
  have z1 : ((w.alloc (.cells #[.slice an1 n1 cn1, .slice ab1 m1 cb1] 37)).alloc (.cells #[.slice an2 n2 cn2, .slice ab2 m1 cb2] 37)).cell? ⟨w.heap.size, 1, none⟩ = some (.slice ab1 m1 cb1) := by simp
  have z2 : ((w.alloc (.cells #[.slice an1 n1 cn1, .slice ab1 m1 cb1] 37)).alloc (.cells #[.slice an2 n2 cn2, .slice ab2 m1 cb2] 37)).cell? ⟨w.heap.size + 1, 1, none⟩ = some (.slice ab2 m1 cb2) := by simp
  go_enter Try.func58, Try.ntmps58
  go_wp2_with fail
  refine (eqNodes_yes _ _ _ _ _ _ K1 K2 f.1 _ (by exact h1.nodes.below A) (by exact h2.nodes.below A) hn hK).mono ?_
  rintro e w1 ⟨rfl, hb⟩
  replace z1 := cell_later hb z1
  replace z2 := cell_later hb z2
  replace A := below_next A hb
  clear hb
  go_wp2_with fail
  refine (eqBlocks_is _ _ _ _ _ _ f.2 f.2 _ (by exact h1.blocks.below A) (by exact h2.blocks.below A) hm hm true (by simp)).mono ?_
  rintro e w2 ⟨rfl, hb⟩
  replace A := below_next A hb
  clear hb z1 z2
  go_wp2
  go_ret
  exact ⟨rfl, A⟩
end Go.Proofs.Ytedgppggaceopaa

/- Chapter 4: forests marked and held by the laws. -/
namespace Go.Proofs.Ytedgppggaceopaa
open Go.RowKit

theorem ncells_kid {K : Nat → KS} {ns : List Nd} {i : Nat} (h : i < ns.length) (ks : List Int) : ncells K (ns.set i ((ns.getD i nd0).1, (ns.getD i nd0).2.1, ks)) = ncells K ns := by
  unfold ncells
  rw [List.length_set]
  refine flat3_congr fun j _ => ?_
  rw [set_getN _ _ _ _ h]
  by_cases e : j = i
  · simp [e]
  · simp [e]
/-- the blocks of one node's kids -/
def inK (k : KS) (x : Nat) : Prop := k.2.1 ≠ 0 ∧ x = sb k.1
/-- the call's own nodes: one's kids are written anew -/
theorem NodesAt.kid {w w' : World} {lo hi : Nat} {ao : Option Addr} {n cap : Nat} {K : Nat → KS} {ns : List Nd} (h : NodesAt w true lo hi ao n cap K ns) {i : Nat} (hi' : i < n) (ks : List Int) (hk : KeptS (inK (K i)) w w') (hr : RowAt w' true lo hi 1 (K i).1 (K i).2.1 (K i).2.2 (ints ks)) :
    NodesAt w' true lo hi ao n cap K (ns.set i ((ns.getD i nd0).1, (ns.getD i nd0).2.1, ks)) := by
  have hl := h.len
  refine ⟨by rw [List.length_set]; exact hl, ?_, fun j hj => ?_, h.sep⟩
  · rw [ncells_kid (by omega)]
    exact h.row.keptS hk fun a hn ea hS => by
      have := (h.sep rfl i hi' hS.1).1
      rw [ea] at this
      exact this hS.2.symm
  · rw [set_getN _ _ _ _ (by omega)]
    by_cases e : j = i
    · rw [if_pos e, e]; exact hr
    · rw [if_neg e]
      exact (h.kids j hj).keptS hk fun a hn ea hS => by
        have := (h.sep rfl i hi' hS.1).2 j hj e hn
        rw [ea] at this
        exact this hS.2
theorem RowAt.unpin {w : World} {o : Bool} {lo hi size lo' hi' : Nat} {ao : Option Addr} {n cap : Nat} {cs : List Value} (h : RowAt w o lo' hi' size ao n cap cs) (hx : n ≠ 0 → lo ≤ sb ao ∧ sb ao < hi) : RowAt w o lo hi size ao n cap cs := by
  refine ⟨h.len, h.le, fun hn => ?_⟩
  obtain ⟨b, off, rfl, _, _, r⟩ := h.cells hn
  exact ⟨b, off, rfl, (hx hn).1, (hx hn).2, r⟩

end Go.Proofs.Ytedgppggaceopaa
