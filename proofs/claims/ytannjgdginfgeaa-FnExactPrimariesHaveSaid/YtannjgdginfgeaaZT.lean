/- Chapter 3: blocks: plain facts of what their functions answer. -/
import Derived.Test.YtannjgdginfgeaaZA
namespace Go.Proofs.Ytannjgdginfgeaa
open Go.RowKit

def refsB (x : Int) : Bool := decide (0 ≤ x ∧ x ≤ 200)
def dataB (x : Int) : Bool := decide (0 ≤ x ∧ x ≤ 255)
def blkOne (p : Int × Int) : Int := if refsB p.1 && dataB p.2 then (if p.1 = 0 ∧ p.2 ≠ 0 then 1 else 0) else 3
def blkGo : List (Int × Int) → Int
  | [] => 0
  | p :: r => if blkOne p = 0 then blkGo r else blkOne p
def blkFault (bs : List (Int × Int)) : Int := if 24 < bs.length then 2 else blkGo bs
/-- the first block that nobody refers to -/
def freeAt : List (Int × Int) → Option Nat
  | [] => none
  | p :: r => if p.1 = 0 then some 0 else (freeAt r).map (· + 1)
def freeN (bs : List (Int × Int)) : Nat := (bs.filter fun p => decide (p.1 = 0)).length
def takeCode (bs : List (Int × Int)) (x : Int) : Int := if blkFault bs = 0 then (if dataB x then (if freeAt bs = none then 8 else 0) else 3) else blkFault bs
def takeAt (bs : List (Int × Int)) (x : Int) : Nat := if takeCode bs x = 0 then (freeAt bs).getD 0 else 0
def takeList (bs : List (Int × Int)) (x : Int) : List (Int × Int) := if takeCode bs x = 0 then bs.set ((freeAt bs).getD 0) (1, x) else []
def askCode (bs : List (Int × Int)) (at' : Int) : Int := if blkFault bs = 0 then (if 0 ≤ at' ∧ at' ≤ (bs.length : Int) - 1 then (if (bs.getD at'.toNat (0, 0)).1 = 0 then 4 else 0) else 3) else blkFault bs
def shareCode (bs : List (Int × Int)) (at' : Int) : Int := if askCode bs at' = 0 then (if 200 ≤ (bs.getD at'.toNat (0, 0)).1 then 2 else 0) else askCode bs at'
def more1 (p : Int × Int) : Int × Int := (p.1 + 1, p.2)
def less1 (p : Int × Int) : Int × Int := (p.1 - 1, if p.1 - 1 = 0 then 0 else p.2)
def shareList (bs : List (Int × Int)) (at' : Int) : List (Int × Int) := if shareCode bs at' = 0 then bs.set at'.toNat (more1 (bs.getD at'.toNat (0, 0))) else []
def dropList (bs : List (Int × Int)) (at' : Int) : List (Int × Int) := if askCode bs at' = 0 then bs.set at'.toNat (less1 (bs.getD at'.toNat (0, 0))) else []
def newBCode (n : Int) : Int := if 0 ≤ n ∧ n ≤ 24 then 0 else 3
def newBList (n : Int) : List (Int × Int) := if newBCode n = 0 then List.replicate n.toNat (0, 0) else []
end Go.Proofs.Ytannjgdginfgeaa

/- Chapter 3: what holds of a block that was taken, shared and dropped. -/
namespace Go.Proofs.Ytannjgdginfgeaa
open Go.RowKit

structure Taken (bs : List (Int × Int)) (x : Int) (k : Nat) : Prop where
  fr : freeAt bs = some k
  lt : k < bs.length
  was : bs.getD k (0, 0) = (0, 0)
  f0 : blkFault bs = 0
  at' : takeAt bs x = k
  li : takeList bs x = bs.set k (1, x)
  f1 : blkFault (bs.set k (1, x)) = 0
  sc : shareCode (bs.set k (1, x)) (k : Int) = 0
  sl : shareList (bs.set k (1, x)) (k : Int) = bs.set k (2, x)
  ac : askCode (bs.set k (2, x)) (k : Int) = 0
  dl : dropList (bs.set k (2, x)) (k : Int) = bs.set k (1, x)
  ad : askCode (bs.set k (1, x)) (k : Int) = 0
  el : dropList (bs.set k (1, x)) (k : Int) = bs
  fn : (freeN (bs.set k (1, x)) : Int) = (freeN bs : Int) - 1
  n0 : newBCode (bs.length : Int) = 0
  n1 : (newBList (bs.length : Int)).length = bs.length
end Go.Proofs.Ytannjgdginfgeaa

/- Chapter 4: trees that are shared: plain words for what their functions answer. -/
namespace Go.Proofs.Ytannjgdginfgeaa
open Go.RowKit

/-- a node: how many refer to it, whether it is a leaf, its kids -/
abbrev Nd := Int × Bool × List Int
abbrev Fo := List Nd × List (Int × Int)
def nd0 : Nd := (0, false, [])
def nodeOf (f : Fo) (i : Nat) : Nd := f.1.getD i nd0
def blockOf (f : Fo) (i : Nat) : Int × Int := f.2.getD i (0, 0)

/-- how often one node names a place, as a leaf or as none -/
def namesOf (nd : Nd) (leaf : Bool) (at' : Int) : Nat := if nd.1 = 0 ∨ nd.2.1 ≠ leaf then 0 else nd.2.2.count at'
def namedIn (ns : List Nd) (leaf : Bool) (at' : Int) : Nat := (ns.map fun nd => namesOf nd leaf at').sum
def named (f : Fo) (leaf : Bool) (at' : Int) : Nat := namedIn f.1 leaf at'
def spotB (x : Int) : Bool := decide (0 ≤ x ∧ x ≤ 15)
def leafAt (f : Fo) (root at' : Int) : Int := if root < 0 then -1 else (nodeOf f root.toNat).2.2.getD (at'.toNat / 4) 0
def blockAt (f : Fo) (root at' : Int) : Int := if leafAt f root at' < 0 then -1 else (nodeOf f (leafAt f root at').toNat).2.2.getD (at'.toNat % 4) 0
/-- one less refers to a block -/
def lessB (bs : List (Int × Int)) (i : Nat) : List (Int × Int) := bs.set i (less1 (bs.getD i (0, 0)))
def lessKids (bs : List (Int × Int)) (ks : List Int) : List (Int × Int) := ks.foldl (fun bs k => if k < 0 then bs else lessB bs k.toNat) bs
/-- one less refers to a leaf -/
def lessLeaf (f : Fo) (i : Nat) : Fo :=
  if 0 < (nodeOf f i).1 - 1 then (f.1.set i ((nodeOf f i).1 - 1, (nodeOf f i).2), f.2)
  else (f.1.set i ((nodeOf f i).1 - 1, false, []), lessKids f.2 (nodeOf f i).2.2)
def lessLeaves (f : Fo) (ks : List Int) : Fo := ks.foldl (fun f k => if k < 0 then f else lessLeaf f k.toNat) f
def noneOf (ks : List Int) : Bool := ks.all fun k => decide (k < 0)
def withKid (ks : List Int) (i : Nat) (k : Int) : List Int := (ks ++ [-1, -1, -1, -1].drop ks.length).set i k

end Go.Proofs.Ytannjgdginfgeaa

/- Chapter 4: what a right forest is, and the steps that keep it right. -/
namespace Go.Proofs.Ytannjgdginfgeaa
open Go.RowKit

theorem namedIn_mem {ns : List Nd} {nd : Nd} {l : Bool} {k : Int} (h : nd ∈ ns) : namesOf nd l k ≤ namedIn ns l k := by
  induction ns with
  | nil => cases h
  | cons p r ih =>
    simp [namedIn] at ih ⊢
    rcases List.mem_cons.1 h with rfl | h
    · omega
    · have := ih h; omega
theorem nodeOf_mem {f : Fo} {i : Nat} (h : i < f.1.length) : nodeOf f i ∈ f.1 := by
  unfold nodeOf; rw [List.getD_eq_getElem?_getD, List.getElem?_eq_getElem h]; exact List.getElem_mem h
theorem mem_nodeOf {f : Fo} {nd : Nd} (h : nd ∈ f.1) : ∃ i, i < f.1.length ∧ nodeOf f i = nd := by
  obtain ⟨i, hi, rfl⟩ := List.mem_iff_getElem.1 h
  exact ⟨i, hi, by simp [nodeOf, List.getD, hi]⟩
theorem nodeOf_out {f : Fo} {i : Nat} (h : f.1.length ≤ i) : nodeOf f i = nd0 := by
  unfold nodeOf; rw [List.getD_eq_getElem?_getD, List.getElem?_eq_none h]; rfl
theorem nodeOf_set (ns : List Nd) (bs : List (Int × Int)) (i j : Nat) (nd : Nd) (h : i < ns.length) : nodeOf (ns.set i nd, bs) j = if j = i then nd else ns.getD j nd0 := by
  unfold nodeOf
  by_cases e : j = i
  · subst e; rw [if_pos rfl]; simp [List.getD, h]
  · rw [if_neg e]; simp [List.getD, Ne.symm e]
/-- a kid that is none, or a block, or a leaf, that somebody refers to -/
def OkKid (f : Fo) (leaf : Bool) (k : Int) : Prop := k = -1 ∨ (0 ≤ k ∧ if leaf = true then k.toNat < f.2.length ∧ 0 < (blockOf f k.toNat).1 else k.toNat < f.1.length ∧ 0 < (nodeOf f k.toNat).1 ∧ (nodeOf f k.toNat).2.1 = true)
structure NdOk (f : Fo) (nd : Nd) : Prop where
  r0 : 0 ≤ nd.1
  r1 : nd.1 ≤ 200
  z : nd.1 = 0 → nd = nd0
  kl : nd.1 ≠ 0 → nd.2.2.length = 4
  ks : nd.1 ≠ 0 → ∀ k ∈ nd.2.2, OkKid f nd.2.1 k
  so : nd.1 ≠ 0 → ∃ k ∈ nd.2.2, 0 ≤ k
/-- a forest whose nodes and blocks are right one by one -/
structure Inv (f : Fo) : Prop where
  nb : f.2.length ≤ 24
  nn : f.1.length ≤ 60
  nd : ∀ i, NdOk f (nodeOf f i)
  bk : ∀ j, blkOne (blockOf f j) = 0
/-- how many more refer to a node, to a block, than nodes name it -/
def ext (f : Fo) (i : Nat) : Int := (nodeOf f i).1 - (named f false i : Int)
def extB (f : Fo) (j : Nat) : Int := (blockOf f j).1 - (named f true j : Int)
structure Right (f : Fo) : Prop where
  inv : Inv f
  bl : ∀ j, j < f.2.length → extB f j = 0
  le : ∀ i, i < f.1.length → (nodeOf f i).2.1 = true → 0 ≤ ext f i
theorem sum_zero {l : List Nat} (h : ∀ x ∈ l, x = 0) : l.sum = 0 := by
  induction l with
  | nil => rfl
  | cons a r ih => rw [List.sum_cons, h a (by simp), ih fun x hx => h x (by simp [hx])]
/-- who names a place is right, so it is there -/
theorem named_pos {f : Fo} {l : Bool} {k : Int} (h : named f l k ≠ 0) : ∃ i, i < f.1.length ∧ (nodeOf f i).1 ≠ 0 ∧ (nodeOf f i).2.1 = l ∧ k ∈ (nodeOf f i).2.2 := by
  unfold named namedIn at h
  have : ∃ nd ∈ f.1, namesOf nd l k ≠ 0 := by
    by_cases hh : ∃ nd ∈ f.1, namesOf nd l k ≠ 0
    · exact hh
    · refine absurd ?_ h
      refine sum_zero fun x hx => ?_
      obtain ⟨nd, hnd, rfl⟩ := List.mem_map.1 hx
      exact Decidable.byContradiction fun hne => hh ⟨nd, hnd, hne⟩
  obtain ⟨nd, hnd, hn⟩ := this
  obtain ⟨i, hi, rfl⟩ := mem_nodeOf hnd
  unfold namesOf at hn
  by_cases hc : (nodeOf f i).1 = 0 ∨ (nodeOf f i).2.1 ≠ l
  · rw [if_pos hc] at hn; exact absurd rfl hn
  · rw [if_neg hc] at hn
    exact ⟨i, hi, fun e => hc (Or.inl e), Decidable.byContradiction fun e => hc (Or.inr e), List.count_pos_iff.1 (by omega)⟩
theorem names_le {f : Fo} {i : Nat} {l : Bool} {k : Int} (h : i < f.1.length) (h0 : (nodeOf f i).1 ≠ 0) (hl : (nodeOf f i).2.1 = l) : (nodeOf f i).2.2.count k ≤ named f l k := by
  have := namedIn_mem (l := l) (k := k) (nodeOf_mem h)
  unfold namesOf at this
  rw [if_neg (fun hc => hc.elim h0 (fun e => e hl))] at this
  exact this
theorem Inv.block {f : Fo} (h : Inv f) {j : Nat} (hn : named f true j ≠ 0) : j < f.2.length ∧ 0 < (blockOf f j).1 := by
  obtain ⟨i, hi, h0, hl, hm⟩ := named_pos hn
  rcases (h.nd i).ks h0 _ hm with e | ⟨_, e⟩
  · omega
  · rw [hl, if_pos rfl, Int.toNat_natCast] at e; exact e
theorem Inv.leaf {f : Fo} (h : Inv f) {j : Nat} (hn : named f false j ≠ 0) : j < f.1.length ∧ 0 < (nodeOf f j).1 ∧ (nodeOf f j).2.1 = true := by
  obtain ⟨i, hi, h0, hl, hm⟩ := named_pos hn
  rcases (h.nd i).ks h0 _ hm with e | ⟨_, e⟩
  · omega
  · rw [hl, if_neg (by decide), Int.toNat_natCast] at e; exact e

/-- a node is written anew -/
theorem Inv.put {f : Fo} (h : Inv f) {i : Nat} (hi : i < f.1.length) {nd : Nd} (hn : NdOk (f.1.set i nd, f.2) nd) (hk : named f false i = 0 ∨ (0 < nd.1 ∧ nd.2.1 = true)) : Inv (f.1.set i nd, f.2) := by
  refine ⟨h.nb, by simp only [List.length_set]; exact h.nn, fun m => ?_, h.bk⟩
  rw [nodeOf_set _ _ _ _ _ hi]
  by_cases e : m = i
  · rw [if_pos e]; exact hn
  · rw [if_neg e]
    have hm := h.nd m
    refine ⟨hm.r0, hm.r1, hm.z, hm.kl, fun h0 k hk' => ?_, hm.so⟩
    rcases hm.ks h0 k hk' with e1 | ⟨h1, h2⟩
    · exact Or.inl e1
    · refine Or.inr ⟨h1, ?_⟩
      cases hl : (nodeOf f m).2.1 with
      | true => rw [show (f.1.getD m nd0).2.1 = true from hl, if_pos rfl]; rw [hl, if_pos rfl] at h2; exact h2
      | false =>
        rw [show (f.1.getD m nd0).2.1 = false from hl]
        rw [hl, if_neg (by decide)] at h2
        rw [if_neg (by decide), nodeOf_set _ _ _ _ _ hi]
        simp only [List.length_set]
        by_cases e2 : k.toNat = i
        · rw [if_pos e2]
          rcases hk with hk | hk
          · have hml : m < f.1.length := by
              by_cases hml : m < f.1.length
              · exact hml
              · exact absurd (by show (nodeOf f m).1 = 0; rw [nodeOf_out (by omega)]; rfl) h0
            have := names_le (f := f) (k := k) hml h0 hl
            have hc : 0 < (nodeOf f m).2.2.count k := List.count_pos_iff.2 hk'
            rw [show k = ((i : Nat) : Int) by omega] at this hc
            omega
          · exact ⟨h2.1, hk.1, hk.2⟩
        · rw [if_neg e2]; exact h2
end Go.Proofs.Ytannjgdginfgeaa

/- Chapter 4: one less refers to a block, to a leaf, to a root: what is right stays so. -/
namespace Go.Proofs.Ytannjgdginfgeaa
open Go.RowKit

theorem OkKid.put {f : Fo} {i : Nat} {nd : Nd} (hi : i < f.1.length) {l : Bool} {k : Int} (h : OkKid f l k) (hk : k.toNat = i → l = false → (nodeOf f i).2.1 = true → 0 < nd.1 ∧ nd.2.1 = true) : OkKid (f.1.set i nd, f.2) l k := by
  rcases h with h | ⟨h1, h2⟩
  · exact Or.inl h
  · refine Or.inr ⟨h1, ?_⟩
    cases l with
    | true => rw [if_pos rfl] at h2 ⊢; exact h2
    | false =>
      rw [if_neg (by decide)] at h2 ⊢
      rw [nodeOf_set _ _ _ _ _ hi]
      simp only [List.length_set]
      by_cases e : k.toNat = i
      · rw [if_pos e]
        exact ⟨h2.1, hk e rfl (e ▸ h2.2.2)⟩
      · rw [if_neg e]; exact h2
/-- what a step leaves: whoever is still there is as he was -/
structure Less (f f' : Fo) : Prop where
  inv : Inv f'
  ln : f'.1.length = f.1.length
  lb : f'.2.length = f.2.length
  nd : ∀ m, (nodeOf f' m).1 ≠ 0 → (nodeOf f m).1 ≠ 0 ∧ (nodeOf f' m).2 = (nodeOf f m).2
  bk : ∀ j, (blockOf f' j).1 ≠ 0 → (blockOf f j).1 ≠ 0 ∧ (blockOf f' j).2 = (blockOf f j).2
theorem Less.refl {f : Fo} (h : Inv f) : Less f f := ⟨h, rfl, rfl, fun _ h => ⟨h, rfl⟩, fun _ h => ⟨h, rfl⟩⟩
theorem Less.trans {f g h : Fo} (a : Less f g) (b : Less g h) : Less f h :=
  ⟨b.inv, b.ln.trans a.ln, b.lb.trans a.lb, fun m hm => ⟨(a.nd m (b.nd m hm).1).1, (b.nd m hm).2.trans (a.nd m (b.nd m hm).1).2⟩, fun j hj => ⟨(a.bk j (b.bk j hj).1).1, (b.bk j hj).2.trans (a.bk j (b.bk j hj).1).2⟩⟩
theorem Inv.own {f : Fo} (h : Inv f) {i : Nat} (hl : (nodeOf f i).2.1 = false) : named f false i = 0 := by
  by_cases e : named f false i = 0
  · exact e
  · have := (h.leaf e).2.2; rw [hl] at this; cases this

end Go.Proofs.Ytannjgdginfgeaa

/- Chapter 4: a new node, and one more refers to each of some kids: what is right stays so. -/
namespace Go.Proofs.Ytannjgdginfgeaa
open Go.RowKit

/-- a node that is new at i -/
structure NewAt (f : Fo) (nd : Nd) (i : Nat) (ns : List Nd) : Prop where
  was : nodeOf f i = nd0
  node : ∀ bs m, nodeOf (ns, bs) m = if m = i then nd else nodeOf f m
  nm : ∀ bs l k, named (ns, bs) l k = named f l k + namesOf nd l k
  lt : i < ns.length
  inv : NdOk (ns, f.2) nd → Inv (ns, f.2)
  no : named f false i = 0
end Go.Proofs.Ytannjgdginfgeaa

/- Chapter 4: a place of a tree is set anew: what becomes of its leaf. -/
namespace Go.Proofs.Ytannjgdginfgeaa
open Go.RowKit

/-- what is asked of a forest ahead: block b (or none) is taken, and no leaf names it yet -/
structure Ask (f : Fo) (root at' b : Int) : Prop where
  inv : Inv f
  ex : ∀ m, 0 ≤ ext f m
  eb : ∀ j : Nat, extB f j = if (j : Int) = b then 1 else 0
  bb : b = -1 ∨ 0 ≤ b
  ro : root = -1 ∨ (0 ≤ root ∧ (nodeOf f root.toNat).1 ≠ 0 ∧ (nodeOf f root.toNat).2.1 = false)
  at0 : 0 ≤ at'
  at1 : at' ≤ 15
def oldKids (f : Fo) (root at' : Int) : List Int := if 0 ≤ leafAt f root at' then (nodeOf f (leafAt f root at').toNat).2.2 else []
def nextKids (f : Fo) (root at' b : Int) : List Int := withKid (oldKids f root at') (at'.toNat % 4) b
/-- what setLeaf leaves -/
structure LeafSet (f : Fo) (root at' b L : Int) (g : Fo) : Prop where
  inv : Inv g
  eb : ∀ j, extB g j = 0
  bk : ∀ j, (blockOf g j).1 ≠ 0 → (blockOf f j).1 ≠ 0 ∧ (blockOf g j).2 = (blockOf f j).2
  how : (L = -1 ∧ b = -1 ∧ g = f ∧ ∀ p, p < 4 → (nextKids f root at' b).getD p 0 < 0) ∨
    (0 ≤ L ∧ nodeOf g L.toNat = (1, true, nextKids f root at' b) ∧ (∀ m, m ≠ L.toNat → nodeOf g m = nodeOf f m) ∧
      ((L = leafAt f root at' ∧ (nodeOf f L.toNat).1 = 1 ∧ (nodeOf f L.toNat).2.1 = true ∧ 0 ≤ root ∧ (nodeOf f root.toNat).1 = 1 ∧ ∀ m, ext g m = ext f m) ∨
       (nodeOf f L.toNat = nd0 ∧ ∀ m : Nat, ext g m = ext f m + if (m : Int) = L then 1 else 0)))
end Go.Proofs.Ytannjgdginfgeaa

/- Chapter 4: a place of a tree is set anew: what becomes of its root. -/
namespace Go.Proofs.Ytannjgdginfgeaa
open Go.RowKit

def rootKids (f : Fo) (root : Int) : List Int := if 0 ≤ root then (nodeOf f root.toNat).2.2 else []
def nextLeaves (f : Fo) (root at' L : Int) : List Int := withKid (rootKids f root) (at'.toNat / 4) L
/-- what is asked of a forest ahead of setRoot -/
structure AskR (g : Fo) (root at' L : Int) : Prop where
  inv : Inv g
  ex : ∀ m, 0 ≤ ext g m
  eb : ∀ j, extB g j = 0
  ll : L = -1 ∨ (0 ≤ L ∧ (nodeOf g L.toNat).1 ≠ 0 ∧ (nodeOf g L.toNat).2.1 = true)
  le : 0 ≤ L → 1 ≤ ext g L.toNat ∨ (0 ≤ root ∧ (nodeOf g root.toNat).1 = 1 ∧ L = (rootKids g root).getD (at'.toNat / 4) 0)
  ro : root = -1 ∨ (0 ≤ root ∧ (nodeOf g root.toNat).1 ≠ 0 ∧ (nodeOf g root.toNat).2.1 = false)
  at0 : 0 ≤ at'
  at1 : at' ≤ 15
abbrev stays (g : Fo) (root at' L : Int) : Prop := 0 ≤ root ∧ (nodeOf g root.toNat).1 = 1 ∧ L = (rootKids g root).getD (at'.toNat / 4) 0
/-- what setRoot leaves -/
structure RootSet (g : Fo) (root at' L R : Int) (h : Fo) : Prop where
  inv : Inv h
  eb : ∀ j, extB h j = 0
  ex : ∀ m : Nat, ext h m = ext g m - (if (m : Int) = root then 1 else 0) + (if (m : Int) = R then 1 else 0) - (if (m : Int) = L ∧ ¬ stays g root at' L then 1 else 0)
  bk : ∀ j, (blockOf h j).1 ≠ 0 → (blockOf g j).1 ≠ 0 ∧ (blockOf h j).2 = (blockOf g j).2
  nd : ∀ m : Nat, (nodeOf h m).1 ≠ 0 → (m : Int) ≠ R → (nodeOf g m).1 ≠ 0 ∧ (nodeOf h m).2 = (nodeOf g m).2
  rt : (R = -1 ∧ noneOf (nextLeaves g root at' L) = true) ∨ (0 ≤ R ∧ (nodeOf h R.toNat).1 ≠ 0 ∧ (nodeOf h R.toNat).2 = (false, nextLeaves g root at' L) ∧ ((R = root ∧ (nodeOf g root.toNat).1 = 1) ∨ (nodeOf g R.toNat = nd0 ∧ ¬ (0 ≤ root ∧ (nodeOf g root.toNat).1 = 1))))
end Go.Proofs.Ytannjgdginfgeaa

/- Chapter 4: a place of a tree is set anew: the tree has what it had and the new one, and all other trees are as they were. -/
namespace Go.Proofs.Ytannjgdginfgeaa
open Go.RowKit

/-- what setPlace leaves -/
structure PlaceSet (f : Fo) (root at' b R : Int) (h : Fo) : Prop where
  inv : Inv h
  eb : ∀ j, extB h j = 0
  ex : ∀ m : Nat, ext h m = ext f m - (if (m : Int) = root then 1 else 0) + (if (m : Int) = R then 1 else 0)
  bk : ∀ j, (blockOf h j).1 ≠ 0 → (blockOf f j).1 ≠ 0 ∧ (blockOf h j).2 = (blockOf f j).2
  rt : R = -1 ∨ (0 ≤ R ∧ (nodeOf h R.toNat).1 ≠ 0 ∧ (nodeOf h R.toNat).2.1 = false)
  look : ∀ k : Int, 0 ≤ k → k ≤ 15 → blockAt h R k = if k = at' then b else blockAt f root k
  keep : ∀ r : Nat, (nodeOf h r).1 ≠ 0 → (nodeOf h r).2.1 = false → (r : Int) ≠ R → (nodeOf f r).1 ≠ 0 ∧ (nodeOf f r).2.1 = false ∧ ∀ k : Int, 0 ≤ k → k ≤ 15 → blockAt h r k = blockAt f r k
end Go.Proofs.Ytannjgdginfgeaa

/- Chapter 4: what is asked ahead of a tree, and what it has. -/
namespace Go.Proofs.Ytannjgdginfgeaa
open Go.RowKit

/-- a root that is none, or a node that is no leaf -/
def RootIs (f : Fo) (root : Int) : Prop := root = -1 ∨ (0 ≤ root ∧ (nodeOf f root.toNat).1 ≠ 0 ∧ (nodeOf f root.toNat).2.1 = false)
structure TreeOk (f : Fo) (root x : Int) : Prop where
  right : Right f
  ro : RootIs f root
  at0 : 0 ≤ x
  at1 : x ≤ 15
end Go.Proofs.Ytannjgdginfgeaa

/- Chapter 4: what holds on the way while one less refers to a leaf, to a root. -/
namespace Go.Proofs.Ytannjgdginfgeaa
open Go.RowKit

structure LeafPre (f : Fo) (i : Nat) : Prop where
  lt : i < f.1.length
  lf : (nodeOf f i).2.1 = true
  r1 : 1 ≤ (nodeOf f i).1
  r2 : (nodeOf f i).1 ≤ 200
  kl : (nodeOf f i).2.2.length = 4
  kd : ∀ k ∈ (nodeOf f i).2.2, k < 0 ∨ k.toNat < f.2.length
  bl : (nodeOf f i).1 = 1 → ∀ j m, blkOne ((lessKids f.2 ((nodeOf f i).2.2.take j)).getD m (0, 0)) = 0
structure RootPre (f : Fo) (i : Nat) : Prop where
  lt : i < f.1.length
  lf : (nodeOf f i).2.1 = false
  r1 : 1 ≤ (nodeOf f i).1
  r2 : (nodeOf f i).1 ≤ 200
  kl : (nodeOf f i).2.2.length = 4
  ln : (nodeOf f i).1 = 1 → ∀ j, j < 4 → ((nodeOf f i).2.2.getD j 0 < 0 ∨ LeafPre (lessLeaves (f.1.set i (0, false, []), f.2) ((nodeOf f i).2.2.take j)) ((nodeOf f i).2.2.getD j 0).toNat) ∧ (lessLeaves (f.1.set i (0, false, []), f.2) ((nodeOf f i).2.2.take j)).1.length = f.1.length ∧ (lessLeaves (f.1.set i (0, false, []), f.2) ((nodeOf f i).2.2.take j)).2.length = f.2.length
end Go.Proofs.Ytannjgdginfgeaa
