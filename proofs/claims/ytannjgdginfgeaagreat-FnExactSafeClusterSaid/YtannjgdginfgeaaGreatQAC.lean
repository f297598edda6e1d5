/- Chapter 3: blocks: plain facts of what their functions answer. -/
import Derived.Test.YtannjgdginfgeaaGreatQAB
import Derived.Deep.MidRow
import Derived.Deep.RegionHeld3
import Derived.Deep.WholeRow
import Derived.Deep.AppendSrc
import Derived.Maps.AppendAt
set_option maxRecDepth 20000
set_option maxHeartbeats 16000000
namespace Go.Proofs.YtannjgdginfgeaaGreat
open Go.RowKit
def refsB (x : Int) : Bool := decide (0 ≤ x ∧ x ≤ 200)
def dataB (x : Int) : Bool := decide (0 ≤ x ∧ x ≤ 255)
def blkOne (p : Int × Int) : Int := if refsB p.1 && dataB p.2 then (if p.1 = 0 ∧ p.2 ≠ 0 then 1 else 0) else 3
def blkGo : List (Int × Int) → Int
 | [] => 0
 | p :: r => if blkOne p = 0 then blkGo r else blkOne p
def blkFault (bs : List (Int × Int)) : Int := if 24 < bs.length then 2 else blkGo bs
def freeAt : List (Int × Int) → Option Nat
 | [] => none
 | p :: r => if p.1 = 0 then some 0 else (freeAt r).map (· + 1)
def freeN (bs : List (Int × Int)) : Nat := (bs.filter fun p => decide (p.1 = 0)).length
def takeCode (bs : List (Int × Int)) (x : Int) : Int := if blkFault bs = 0 then (if dataB x then (if freeAt bs = none then 8 else 0) else 3) else blkFault bs
def takeAt (bs : List (Int × Int)) (x : Int) : Nat := if takeCode bs x = 0 then (freeAt bs).getD 0 else 0
def takeList (bs : List (Int × Int)) (x : Int) : List (Int × Int) := if takeCode bs x = 0 then bs.set ((freeAt bs).getD 0) (1, x) else []
def askCode (bs : List (Int × Int)) (at' : Int) : Int := if blkFault bs = 0 then (if 0 ≤ at' ∧ at' ≤ (bs.length : Int) - 1 then (if (bs.getD at'.toNat (0, 0)).1 = 0 then 4 else 0) else 3) else blkFault bs
def shareCode (bs : List (Int × Int)) (at' : Int) : Int := if askCode bs at' = 0 then (if 200 ≤ (bs.getD at'.toNat (0, 0)).1 then 2 else 0) else askCode bs at'
def more1 (p : Int × Int) : Int × Int := (p.1 + 1, p.2)
def less1 (p : Int × Int) : Int × Int := (p.1 - 1, if p.1 - 1 = 0 then 0 else p.2)
def shareList (bs : List (Int × Int)) (at' : Int) : List (Int × Int) := if shareCode bs at' = 0 then bs.set at'.toNat (more1 (bs.getD at'.toNat (0, 0))) else []
def dropList (bs : List (Int × Int)) (at' : Int) : List (Int × Int) := if askCode bs at' = 0 then bs.set at'.toNat (less1 (bs.getD at'.toNat (0, 0))) else []
def newBCode (n : Int) : Int := if 0 ≤ n ∧ n ≤ 24 then 0 else 3
def newBList (n : Int) : List (Int × Int) := if newBCode n = 0 then List.replicate n.toNat (0, 0) else []
structure Taken (bs : List (Int × Int)) (x : Int) (k : Nat) : Prop where
 fr : freeAt bs = some k
 lt : k < bs.length
 was : bs.getD k (0, 0) = (0, 0)
 f0 : blkFault bs = 0
 at' : takeAt bs x = k
 li : takeList bs x = bs.set k (1, x)
 f1 : blkFault (bs.set k (1, x)) = 0
 sc : shareCode (bs.set k (1, x)) (k : Int) = 0
 sl : shareList (bs.set k (1, x)) (k : Int) = bs.set k (2, x)
 ac : askCode (bs.set k (2, x)) (k : Int) = 0
 dl : dropList (bs.set k (2, x)) (k : Int) = bs.set k (1, x)
 ad : askCode (bs.set k (1, x)) (k : Int) = 0
 el : dropList (bs.set k (1, x)) (k : Int) = bs
 fn : (freeN (bs.set k (1, x)) : Int) = (freeN bs : Int) - 1
 n0 : newBCode (bs.length : Int) = 0
 n1 : (newBList (bs.length : Int)).length = bs.length
abbrev Nd := Int × Bool × List Int
abbrev Fo := List Nd × List (Int × Int)
def nd0 : Nd := (0, false, [])
def nodeOf (f : Fo) (i : Nat) : Nd := f.1.getD i nd0
def blockOf (f : Fo) (i : Nat) : Int × Int := f.2.getD i (0, 0)
def namesOf (nd : Nd) (leaf : Bool) (at' : Int) : Nat := if nd.1 = 0 ∨ nd.2.1 ≠ leaf then 0 else nd.2.2.count at'
def namedIn (ns : List Nd) (leaf : Bool) (at' : Int) : Nat := (ns.map fun nd => namesOf nd leaf at').sum
def named (f : Fo) (leaf : Bool) (at' : Int) : Nat := namedIn f.1 leaf at'
def spotB (x : Int) : Bool := decide (0 ≤ x ∧ x ≤ 15)
def leafAt (f : Fo) (root at' : Int) : Int := if root < 0 then -1 else (nodeOf f root.toNat).2.2.getD (at'.toNat / 4) 0
def blockAt (f : Fo) (root at' : Int) : Int := if leafAt f root at' < 0 then -1 else (nodeOf f (leafAt f root at').toNat).2.2.getD (at'.toNat % 4) 0
def lessB (bs : List (Int × Int)) (i : Nat) : List (Int × Int) := bs.set i (less1 (bs.getD i (0, 0)))
def lessKids (bs : List (Int × Int)) (ks : List Int) : List (Int × Int) := ks.foldl (fun bs k => if k < 0 then bs else lessB bs k.toNat) bs
def lessLeaf (f : Fo) (i : Nat) : Fo :=
 if 0 < (nodeOf f i).1 - 1 then (f.1.set i ((nodeOf f i).1 - 1, (nodeOf f i).2), f.2)
 else (f.1.set i ((nodeOf f i).1 - 1, false, []), lessKids f.2 (nodeOf f i).2.2)
def lessLeaves (f : Fo) (ks : List Int) : Fo := ks.foldl (fun f k => if k < 0 then f else lessLeaf f k.toNat) f
def noneOf (ks : List Int) : Bool := ks.all fun k => decide (k < 0)
def withKid (ks : List Int) (i : Nat) (k : Int) : List Int := (ks ++ [-1, -1, -1, -1].drop ks.length).set i k
theorem namedIn_mem {ns : List Nd} {nd : Nd} {l : Bool} {k : Int} (h : nd ∈ ns) : namesOf nd l k ≤ namedIn ns l k := by
 induction ns with
 | nil => cases h
 | cons p r ih =>
  simp [namedIn] at ih ⊢
  rcases List.mem_cons.1 h with rfl | h
  ·omega
  ·have := ih h; omega
theorem nodeOf_mem {f : Fo} {i : Nat} (h : i < f.1.length) : nodeOf f i ∈ f.1 := by
 unfold nodeOf; rw [List.getD_eq_getElem?_getD, List.getElem?_eq_getElem h]; exact List.getElem_mem h
theorem mem_nodeOf {f : Fo} {nd : Nd} (h : nd ∈ f.1) : ∃ i, i < f.1.length ∧ nodeOf f i = nd := by
 obtain ⟨i, hi, rfl⟩ := List.mem_iff_getElem.1 h
 exact ⟨i, hi, by simp [nodeOf, List.getD, hi]⟩
theorem nodeOf_out {f : Fo} {i : Nat} (h : f.1.length ≤ i) : nodeOf f i = nd0 := by
 unfold nodeOf; rw [List.getD_eq_getElem?_getD, List.getElem?_eq_none h]; rfl
theorem nodeOf_set (ns : List Nd) (bs : List (Int × Int)) (i j : Nat) (nd : Nd) (h : i < ns.length) : nodeOf (ns.set i nd, bs) j = if j = i then nd else ns.getD j nd0 := by
 unfold nodeOf
 by_cases e : j = i
 ·subst e; rw [if_pos rfl]; simp [List.getD, h]
 ·rw [if_neg e]; simp [List.getD, Ne.symm e]
def OkKid (f : Fo) (leaf : Bool) (k : Int) : Prop := k = -1 ∨ (0 ≤ k ∧ if leaf = true then k.toNat < f.2.length ∧ 0 < (blockOf f k.toNat).1 else k.toNat < f.1.length ∧ 0 < (nodeOf f k.toNat).1 ∧ (nodeOf f k.toNat).2.1 = true)
structure NdOk (f : Fo) (nd : Nd) : Prop where
 r0 : 0 ≤ nd.1
 r1 : nd.1 ≤ 200
 z : nd.1 = 0 → nd = nd0
 kl : nd.1 ≠ 0 → nd.2.2.length = 4
 ks : nd.1 ≠ 0 → ∀ k ∈ nd.2.2, OkKid f nd.2.1 k
 so : nd.1 ≠ 0 → ∃ k ∈ nd.2.2, 0 ≤ k
structure Inv (f : Fo) : Prop where
 nb : f.2.length ≤ 24
 nn : f.1.length ≤ 60
 nd : ∀ i, NdOk f (nodeOf f i)
 bk : ∀ j, blkOne (blockOf f j) = 0
def ext (f : Fo) (i : Nat) : Int := (nodeOf f i).1 - (named f false i : Int)
def extB (f : Fo) (j : Nat) : Int := (blockOf f j).1 - (named f true j : Int)
structure Right (f : Fo) : Prop where
 inv : Inv f
 bl : ∀ j, j < f.2.length → extB f j = 0
 le : ∀ i, i < f.1.length → (nodeOf f i).2.1 = true → 0 ≤ ext f i
theorem sum_zero {l : List Nat} (h : ∀ x ∈ l, x = 0) : l.sum = 0 := by
 induction l with
 | nil => rfl
 | cons a r ih => rw [List.sum_cons, h a (by simp), ih fun x hx => h x (by simp [hx])]
theorem named_pos {f : Fo} {l : Bool} {k : Int} (h : named f l k ≠ 0) : ∃ i, i < f.1.length ∧ (nodeOf f i).1 ≠ 0 ∧ (nodeOf f i).2.1 = l ∧ k ∈ (nodeOf f i).2.2 := by
 unfold named namedIn at h
 have : ∃ nd ∈ f.1, namesOf nd l k ≠ 0 := by
  by_cases hh : ∃ nd ∈ f.1, namesOf nd l k ≠ 0
  ·exact hh
  ·refine absurd ?_ h
   refine sum_zero fun x hx => ?_
   obtain ⟨nd, hnd, rfl⟩ := List.mem_map.1 hx
   exact Decidable.byContradiction fun hne => hh ⟨nd, hnd, hne⟩
 obtain ⟨nd, hnd, hn⟩ := this
 obtain ⟨i, hi, rfl⟩ := mem_nodeOf hnd
 unfold namesOf at hn
 by_cases hc : (nodeOf f i).1 = 0 ∨ (nodeOf f i).2.1 ≠ l
 ·rw [if_pos hc] at hn; exact absurd rfl hn
 ·rw [if_neg hc] at hn
  exact ⟨i, hi, fun e => hc (Or.inl e), Decidable.byContradiction fun e => hc (Or.inr e), List.count_pos_iff.1 (by omega)⟩
theorem names_le {f : Fo} {i : Nat} {l : Bool} {k : Int} (h : i < f.1.length) (h0 : (nodeOf f i).1 ≠ 0) (hl : (nodeOf f i).2.1 = l) : (nodeOf f i).2.2.count k ≤ named f l k := by
 have := namedIn_mem (l := l) (k := k) (nodeOf_mem h)
 unfold namesOf at this
 rw [if_neg (fun hc => hc.elim h0 (fun e => e hl))] at this
 exact this
theorem Inv.block {f : Fo} (h : Inv f) {j : Nat} (hn : named f true j ≠ 0) : j < f.2.length ∧ 0 < (blockOf f j).1 := by
 obtain ⟨i, hi, h0, hl, hm⟩ := named_pos hn
 rcases (h.nd i).ks h0 _ hm with e | ⟨_, e⟩
 ·omega
 ·rw [hl, if_pos rfl, Int.toNat_natCast] at e; exact e
theorem Inv.leaf {f : Fo} (h : Inv f) {j : Nat} (hn : named f false j ≠ 0) : j < f.1.length ∧ 0 < (nodeOf f j).1 ∧ (nodeOf f j).2.1 = true := by
 obtain ⟨i, hi, h0, hl, hm⟩ := named_pos hn
 rcases (h.nd i).ks h0 _ hm with e | ⟨_, e⟩
 ·omega
 ·rw [hl, if_neg (by decide), Int.toNat_natCast] at e; exact e
theorem Inv.put {f : Fo} (h : Inv f) {i : Nat} (hi : i < f.1.length) {nd : Nd} (hn : NdOk (f.1.set i nd, f.2) nd) (hk : named f false i = 0 ∨ (0 < nd.1 ∧ nd.2.1 = true)) : Inv (f.1.set i nd, f.2) := by
 refine ⟨h.nb, by simp only [List.length_set]; exact h.nn, fun m => ?_, h.bk⟩
 rw [nodeOf_set _ _ _ _ _ hi]
 by_cases e : m = i
 ·rw [if_pos e]; exact hn
 ·rw [if_neg e]
  have hm := h.nd m
  refine ⟨hm.r0, hm.r1, hm.z, hm.kl, fun h0 k hk' => ?_, hm.so⟩
  rcases hm.ks h0 k hk' with e1 | ⟨h1, h2⟩
  ·exact Or.inl e1
  ·refine Or.inr ⟨h1, ?_⟩
   cases hl : (nodeOf f m).2.1 with
   | true => rw [show (f.1.getD m nd0).2.1 = true from hl, if_pos rfl]; rw [hl, if_pos rfl] at h2; exact h2
   | false =>
    rw [show (f.1.getD m nd0).2.1 = false from hl]
    rw [hl, if_neg (by decide)] at h2
    rw [if_neg (by decide), nodeOf_set _ _ _ _ _ hi]
    simp only [List.length_set]
    by_cases e2 : k.toNat = i
    ·rw [if_pos e2]
     rcases hk with hk | hk
     ·have hml : m < f.1.length := by
       by_cases hml : m < f.1.length
       ·exact hml
       ·exact absurd (by show (nodeOf f m).1 = 0; rw [nodeOf_out (by omega)]; rfl) h0
      have := names_le (f := f) (k := k) hml h0 hl
      have hc : 0 < (nodeOf f m).2.2.count k := List.count_pos_iff.2 hk'
      rw [show k = ((i : Nat) : Int) by omega] at this hc
      omega
     ·exact ⟨h2.1, hk.1, hk.2⟩
    ·rw [if_neg e2]; exact h2
theorem OkKid.put {f : Fo} {i : Nat} {nd : Nd} (hi : i < f.1.length) {l : Bool} {k : Int} (h : OkKid f l k) (hk : k.toNat = i → l = false → (nodeOf f i).2.1 = true → 0 < nd.1 ∧ nd.2.1 = true) : OkKid (f.1.set i nd, f.2) l k := by
 rcases h with h | ⟨h1, h2⟩
 ·exact Or.inl h
 ·refine Or.inr ⟨h1, ?_⟩
  cases l with
  | true => rw [if_pos rfl] at h2 ⊢; exact h2
  | false =>
   rw [if_neg (by decide)] at h2 ⊢
   rw [nodeOf_set _ _ _ _ _ hi]
   simp only [List.length_set]
   by_cases e : k.toNat = i
   ·rw [if_pos e]
    exact ⟨h2.1, hk e rfl (e ▸ h2.2.2)⟩
   ·rw [if_neg e]; exact h2
structure Less (f f' : Fo) : Prop where
 inv : Inv f'
 ln : f'.1.length = f.1.length
 lb : f'.2.length = f.2.length
 nd : ∀ m, (nodeOf f' m).1 ≠ 0 → (nodeOf f m).1 ≠ 0 ∧ (nodeOf f' m).2 = (nodeOf f m).2
 bk : ∀ j, (blockOf f' j).1 ≠ 0 → (blockOf f j).1 ≠ 0 ∧ (blockOf f' j).2 = (blockOf f j).2
theorem Less.refl {f : Fo} (h : Inv f) : Less f f := ⟨h, rfl, rfl, fun _ h => ⟨h, rfl⟩, fun _ h => ⟨h, rfl⟩⟩
theorem Less.trans {f g h : Fo} (a : Less f g) (b : Less g h) : Less f h :=
 ⟨b.inv, b.ln.trans a.ln, b.lb.trans a.lb, fun m hm => ⟨(a.nd m (b.nd m hm).1).1, (b.nd m hm).2.trans (a.nd m (b.nd m hm).1).2⟩, fun j hj => ⟨(a.bk j (b.bk j hj).1).1, (b.bk j hj).2.trans (a.bk j (b.bk j hj).1).2⟩⟩
theorem Inv.own {f : Fo} (h : Inv f) {i : Nat} (hl : (nodeOf f i).2.1 = false) : named f false i = 0 := by
 by_cases e : named f false i = 0
 ·exact e
 ·have := (h.leaf e).2.2; rw [hl] at this; cases this
structure NewAt (f : Fo) (nd : Nd) (i : Nat) (ns : List Nd) : Prop where
 was : nodeOf f i = nd0
 node : ∀ bs m, nodeOf (ns, bs) m = if m = i then nd else nodeOf f m
 nm : ∀ bs l k, named (ns, bs) l k = named f l k + namesOf nd l k
 lt : i < ns.length
 inv : NdOk (ns, f.2) nd → Inv (ns, f.2)
 no : named f false i = 0
structure Ask (f : Fo) (root at' b : Int) : Prop where
 inv : Inv f
 ex : ∀ m, 0 ≤ ext f m
 eb : ∀ j : Nat, extB f j = if (j : Int) = b then 1 else 0
 bb : b = -1 ∨ 0 ≤ b
 ro : root = -1 ∨ (0 ≤ root ∧ (nodeOf f root.toNat).1 ≠ 0 ∧ (nodeOf f root.toNat).2.1 = false)
 at0 : 0 ≤ at'
 at1 : at' ≤ 15
def oldKids (f : Fo) (root at' : Int) : List Int := if 0 ≤ leafAt f root at' then (nodeOf f (leafAt f root at').toNat).2.2 else []
def nextKids (f : Fo) (root at' b : Int) : List Int := withKid (oldKids f root at') (at'.toNat % 4) b
structure LeafSet (f : Fo) (root at' b L : Int) (g : Fo) : Prop where
 inv : Inv g
 eb : ∀ j, extB g j = 0
 bk : ∀ j, (blockOf g j).1 ≠ 0 → (blockOf f j).1 ≠ 0 ∧ (blockOf g j).2 = (blockOf f j).2
 how : (L = -1 ∧ b = -1 ∧ g = f ∧ ∀ p, p < 4 → (nextKids f root at' b).getD p 0 < 0) ∨
  (0 ≤ L ∧ nodeOf g L.toNat = (1, true, nextKids f root at' b) ∧ (∀ m, m ≠ L.toNat → nodeOf g m = nodeOf f m) ∧
   ((L = leafAt f root at' ∧ (nodeOf f L.toNat).1 = 1 ∧ (nodeOf f L.toNat).2.1 = true ∧ 0 ≤ root ∧ (nodeOf f root.toNat).1 = 1 ∧ ∀ m, ext g m = ext f m) ∨
   (nodeOf f L.toNat = nd0 ∧ ∀ m : Nat, ext g m = ext f m + if (m : Int) = L then 1 else 0)))
def rootKids (f : Fo) (root : Int) : List Int := if 0 ≤ root then (nodeOf f root.toNat).2.2 else []
def nextLeaves (f : Fo) (root at' L : Int) : List Int := withKid (rootKids f root) (at'.toNat / 4) L
structure AskR (g : Fo) (root at' L : Int) : Prop where
 inv : Inv g
 ex : ∀ m, 0 ≤ ext g m
 eb : ∀ j, extB g j = 0
 ll : L = -1 ∨ (0 ≤ L ∧ (nodeOf g L.toNat).1 ≠ 0 ∧ (nodeOf g L.toNat).2.1 = true)
 le : 0 ≤ L → 1 ≤ ext g L.toNat ∨ (0 ≤ root ∧ (nodeOf g root.toNat).1 = 1 ∧ L = (rootKids g root).getD (at'.toNat / 4) 0)
 ro : root = -1 ∨ (0 ≤ root ∧ (nodeOf g root.toNat).1 ≠ 0 ∧ (nodeOf g root.toNat).2.1 = false)
 at0 : 0 ≤ at'
 at1 : at' ≤ 15
abbrev stays (g : Fo) (root at' L : Int) : Prop := 0 ≤ root ∧ (nodeOf g root.toNat).1 = 1 ∧ L = (rootKids g root).getD (at'.toNat / 4) 0
structure RootSet (g : Fo) (root at' L R : Int) (h : Fo) : Prop where
 inv : Inv h
 eb : ∀ j, extB h j = 0
 ex : ∀ m : Nat, ext h m = ext g m - (if (m : Int) = root then 1 else 0) + (if (m : Int) = R then 1 else 0) - (if (m : Int) = L ∧ ¬ stays g root at' L then 1 else 0)
 bk : ∀ j, (blockOf h j).1 ≠ 0 → (blockOf g j).1 ≠ 0 ∧ (blockOf h j).2 = (blockOf g j).2
 nd : ∀ m : Nat, (nodeOf h m).1 ≠ 0 → (m : Int) ≠ R → (nodeOf g m).1 ≠ 0 ∧ (nodeOf h m).2 = (nodeOf g m).2
 rt : (R = -1 ∧ noneOf (nextLeaves g root at' L) = true) ∨ (0 ≤ R ∧ (nodeOf h R.toNat).1 ≠ 0 ∧ (nodeOf h R.toNat).2 = (false, nextLeaves g root at' L) ∧ ((R = root ∧ (nodeOf g root.toNat).1 = 1) ∨ (nodeOf g R.toNat = nd0 ∧ ¬ (0 ≤ root ∧ (nodeOf g root.toNat).1 = 1))))
structure PlaceSet (f : Fo) (root at' b R : Int) (h : Fo) : Prop where
 inv : Inv h
 eb : ∀ j, extB h j = 0
 ex : ∀ m : Nat, ext h m = ext f m - (if (m : Int) = root then 1 else 0) + (if (m : Int) = R then 1 else 0)
 bk : ∀ j, (blockOf h j).1 ≠ 0 → (blockOf f j).1 ≠ 0 ∧ (blockOf h j).2 = (blockOf f j).2
 rt : R = -1 ∨ (0 ≤ R ∧ (nodeOf h R.toNat).1 ≠ 0 ∧ (nodeOf h R.toNat).2.1 = false)
 look : ∀ k : Int, 0 ≤ k → k ≤ 15 → blockAt h R k = if k = at' then b else blockAt f root k
 keep : ∀ r : Nat, (nodeOf h r).1 ≠ 0 → (nodeOf h r).2.1 = false → (r : Int) ≠ R → (nodeOf f r).1 ≠ 0 ∧ (nodeOf f r).2.1 = false ∧ ∀ k : Int, 0 ≤ k → k ≤ 15 → blockAt h r k = blockAt f r k
def RootIs (f : Fo) (root : Int) : Prop := root = -1 ∨ (0 ≤ root ∧ (nodeOf f root.toNat).1 ≠ 0 ∧ (nodeOf f root.toNat).2.1 = false)
structure TreeOk (f : Fo) (root x : Int) : Prop where
 right : Right f
 ro : RootIs f root
 at0 : 0 ≤ x
 at1 : x ≤ 15
structure LeafPre (f : Fo) (i : Nat) : Prop where
 lt : i < f.1.length
 lf : (nodeOf f i).2.1 = true
 r1 : 1 ≤ (nodeOf f i).1
 r2 : (nodeOf f i).1 ≤ 200
 kl : (nodeOf f i).2.2.length = 4
 kd : ∀ k ∈ (nodeOf f i).2.2, k < 0 ∨ k.toNat < f.2.length
 bl : (nodeOf f i).1 = 1 → ∀ j m, blkOne ((lessKids f.2 ((nodeOf f i).2.2.take j)).getD m (0, 0)) = 0
structure RootPre (f : Fo) (i : Nat) : Prop where
 lt : i < f.1.length
 lf : (nodeOf f i).2.1 = false
 r1 : 1 ≤ (nodeOf f i).1
 r2 : (nodeOf f i).1 ≤ 200
 kl : (nodeOf f i).2.2.length = 4
 ln : (nodeOf f i).1 = 1 → ∀ j, j < 4 → ((nodeOf f i).2.2.getD j 0 < 0 ∨ LeafPre (lessLeaves (f.1.set i (0, false, []), f.2) ((nodeOf f i).2.2.take j)) ((nodeOf f i).2.2.getD j 0).toNat) ∧ (lessLeaves (f.1.set i (0, false, []), f.2) ((nodeOf f i).2.2.take j)).1.length = f.1.length ∧ (lessLeaves (f.1.set i (0, false, []), f.2) ((nodeOf f i).2.2.take j)).2.length = f.2.length
theorem Kept.frozen {lo hi : Nat} {w w' : World} (h : Kept lo hi w w') {b o : Nat} (hl : b < w.heap.size) (hb : b < lo ∨ hi ≤ b) (hf : w.frozen? ⟨b, o, none⟩ = false) : w'.frozen? ⟨b, o, none⟩ = false := by
 simp only [World.frozen?, h.block b hl hb] at hf ⊢
 exact hf
def Fresh (w : World) (lo hi : Nat) (e : TypeId) (size : Nat) (v : Value) (n : Nat) (cs : List Value) : Prop :=
 (n = 0 ∧ cs = [] ∧ ∃ g, v = .slice (some ⟨g, 0, none⟩) 0 0) ∨ (w.ownsRow lo e size v n cs ∧ ∀ k, v.ownBlock = some k → k < hi)
theorem owns_kept {w w' : World} {base : Nat} {e : TypeId} {size : Nat} {v : Value} {n : Nat} {xs : List Value} (h : w.ownsRow base e size v n xs) {l u : Nat} (hk : Kept l u w w') (hd : ∀ k, v.ownBlock = some k → k < l ∨ u ≤ k) : w'.ownsRow base e size v n xs := by
 refine ⟨h.1, ?_⟩
 rcases h.2 with h2 | ⟨g, cap, cur, rfl, hg, hh, r⟩
 ·exact Or.inl h2
 ·exact Or.inr ⟨g, cap, cur, rfl, hg, by rw [hk.block g (Array.getElem?_eq_some_iff.1 hh).1 (hd g rfl)]; exact hh, r⟩
theorem Fresh.kept {w w' : World} {lo hi : Nat} {e : TypeId} {size : Nat} {v : Value} {n : Nat} {cs : List Value} (h : Fresh w lo hi e size v n cs) {l u : Nat} (hk : Kept l u w w') (hd : hi ≤ l ∨ u ≤ lo) : Fresh w' lo hi e size v n cs := by
 rcases h with h | ⟨h, h2⟩
 ·exact Or.inl h
 ·refine Or.inr ⟨owns_kept h hk fun k hv => ?_, h2⟩
  have := h2 k hv
  have := (h.lt k hv).1
  omega
theorem Fresh.widen {w : World} {lo lo' hi hi' : Nat} {e : TypeId} {size : Nat} {v : Value} {n : Nat} {cs : List Value} (h : Fresh w lo hi e size v n cs) (hl : lo' ≤ lo) (hh : hi ≤ hi') : Fresh w lo' hi' e size v n cs := by
 rcases h with h | ⟨⟨h1, h2⟩, h3⟩
 ·exact Or.inl h
 ·refine Or.inr ⟨⟨h1, ?_⟩, fun k hk => Nat.lt_of_lt_of_le (h3 k hk) hh⟩
  rcases h2 with h2 | ⟨g, cap, cur, a, b, c⟩
  ·exact Or.inl h2
  ·exact Or.inr ⟨g, cap, cur, a, Nat.le_trans hl b, c⟩
theorem Fresh.below {w w' : World} {lo hi : Nat} {e : TypeId} {size : Nat} {v : Value} {n : Nat} {cs : List Value} (h : Fresh w lo hi e size v n cs) (hb : Below w.heap.size w w') : Fresh w' lo hi e size v n cs :=
 h.kept (l := hi) (u := hi) (Kept.of_below hb) (Or.inl (Nat.le_refl _))
theorem DiskAt.widen {w : World} {lo hi lo' hi' : Nat} {a0 : Option Addr} {n0 c0 : Nat} {a1 : Option Addr} {n1 c1 : Nat} {xs : List Int} {ys : List (Int × Int)} (h : DiskAt w lo hi a0 n0 c0 a1 n1 c1 xs ys) (h1 : lo' ≤ lo) (h2 : hi ≤ hi') : DiskAt w lo' hi' a0 n0 c0 a1 n1 c1 xs ys := by
 obtain ⟨mid, m1, m2, r0, r1⟩ := h.parts
 exact ⟨mid, by omega, by omega, r0.widen h1 (Nat.le_refl _), r1.widen (Nat.le_refl _) h2⟩
theorem wrapI_same (n : Int) (h : -9223372036854775808 ≤ n ∧ n ≤ 9223372036854775807) : IntKind.i64.wrap n = n := by rw [IntKind.wrap_i64]; omega
structure KeptS (S : Nat → Prop) (w w' : World) : Prop where
 os : w'.os = w.os
 tape : w'.tape = w.tape
 output : w'.output = w.output
 size : w.heap.size ≤ w'.heap.size
 block : ∀ k, k < w.heap.size → ¬ S k → w'.heap[k]? = w.heap[k]?
theorem KeptS.refl (S : Nat → Prop) (w : World) : KeptS S w w := ⟨rfl, rfl, rfl, Nat.le_refl _, fun _ _ _ => rfl⟩
theorem KeptS.trans {S : Nat → Prop} {a b c : World} (h : KeptS S a b) (k : KeptS S b c) : KeptS S a c :=
 ⟨k.os.trans h.os, k.tape.trans h.tape, k.output.trans h.output, Nat.le_trans h.size k.size, fun i hi ho => (k.block i (Nat.lt_of_lt_of_le hi h.size) ho).trans (h.block i hi ho)⟩
theorem KeptS.mono {S T : Nat → Prop} {w w' : World} (h : KeptS S w w') (hst : ∀ k, S k → T k) : KeptS T w w' := ⟨h.os, h.tape, h.output, h.size, fun k hk ho => h.block k hk fun hs => ho (hst k hs)⟩
theorem Kept.toS {lo hi : Nat} {S : Nat → Prop} {w w' : World} (h : Kept lo hi w w') (hs : ∀ k, lo ≤ k → k < hi → S k) : KeptS S w w' := ⟨h.os, h.tape, h.output, h.size, fun k hk ho => h.block k hk (by
 by_cases h1 : k < lo
 ·exact Or.inl h1
 ·by_cases h2 : hi ≤ k
  ·exact Or.inr h2
  ·exact absurd (hs k (by omega) (by omega)) ho)⟩
theorem KeptS.kept {S : Nat → Prop} {lo hi : Nat} {w w' : World} (h : KeptS S w w') (hs : ∀ k, S k → lo ≤ k ∧ k < hi) : Kept lo hi w w' := ⟨h.os, h.tape, h.output, h.size, fun k hk ho => h.block k hk fun hS => by have := hs k hS; omega⟩
theorem KeptS.below {S : Nat → Prop} {w w' : World} (h : Below w.heap.size w w') : KeptS S w w' := ⟨h.os, h.tape, h.output, h.size, fun k hk _ => h.block k hk⟩
theorem KeptS.cell {S : Nat → Prop} {w w' : World} (h : KeptS S w w') {b o : Nat} {v : Value} (hc : w.cell? ⟨b, o, none⟩ = some v) (hb : b < w.heap.size) (hs : ¬ S b) : w'.cell? ⟨b, o, none⟩ = some v := by
 rw [World.cell?_of_block (w := w) (a := ⟨b, o, none⟩) (h.block b hb hs)]; exact hc
theorem KeptS.frozen {S : Nat → Prop} {w w' : World} (h : KeptS S w w') {b o : Nat} {v : Bool} (hc : w.frozen? ⟨b, o, none⟩ = v) (hb : b < w.heap.size) (hs : ¬ S b) : w'.frozen? ⟨b, o, none⟩ = v := by
 rw [World.frozen?_of_block (w := w) (a := ⟨b, o, none⟩) (h.block b hb hs)]; exact hc
theorem RowAt.keptS {w w' : World} {own : Bool} {lo hi size : Nat} {ao : Option Addr} {n cap : Nat} {cs : List Value} (h : RowAt w own lo hi size ao n cap cs) {S : Nat → Prop} (hk : KeptS S w w') (hd : ∀ a, n ≠ 0 → ao = some a → ¬ S a.block) : RowAt w' own lo hi size ao n cap cs := by
 refine ⟨h.len, h.le, fun hn => ?_⟩
 obtain ⟨b, off, rfl, h1, h2, h3, h4, h5⟩ := h.cells hn
 have hs := hd _ hn rfl
 exact ⟨b, off, rfl, h1, h2, Nat.lt_of_lt_of_le h3 hk.size, fun i hi => hk.cell (h4 i hi) h3 hs, fun ho i hi => hk.frozen (h5 ho i hi) h3 hs⟩
theorem KeptS.setCell {S : Nat → Prop} {a w : World} (h : KeptS S a w) {p : Addr} (h1 : S p.block) (u : Value) : KeptS S a (w.setCell p u) :=
 h.trans ⟨rfl, rfl, rfl, by simp [World.setCell], fun k _ ho => Below.heap_setCell _ _ _ _ (fun e => ho (e ▸ h1))⟩
abbrev KS := Option Addr × Nat × Nat
def ksv (k : KS) : Value := .slice k.1 k.2.1 k.2.2
def flat3 (n : Nat) (g0 g1 g2 : Nat → Value) : List Value := (List.range (n * 3)).map fun j => if j % 3 = 0 then g0 (j / 3) else if j % 3 = 1 then g1 (j / 3) else g2 (j / 3)
theorem flat3_get (n : Nat) (g0 g1 g2 : Nat → Value) (j : Nat) (h : j < n * 3) : (flat3 n g0 g1 g2).getD j default = if j % 3 = 0 then g0 (j / 3) else if j % 3 = 1 then g1 (j / 3) else g2 (j / 3) := by
 simp [flat3, List.getD, h]
theorem flat3_get0 (n : Nat) (g0 g1 g2 : Nat → Value) (i : Nat) (h : i < n) : (flat3 n g0 g1 g2).getD (i * 3) default = g0 i := by
 rw [flat3_get _ _ _ _ _ (by omega), if_pos (by omega), show i * 3 / 3 = i by omega]
theorem flat3_get1 (n : Nat) (g0 g1 g2 : Nat → Value) (i : Nat) (h : i < n) : (flat3 n g0 g1 g2).getD (i * 3 + 1) default = g1 i := by
 rw [flat3_get _ _ _ _ _ (by omega), if_neg (by omega), if_pos (by omega), show (i * 3 + 1) / 3 = i by omega]
theorem flat3_get2 (n : Nat) (g0 g1 g2 : Nat → Value) (i : Nat) (h : i < n) : (flat3 n g0 g1 g2).getD (i * 3 + 2) default = g2 i := by
 rw [flat3_get _ _ _ _ _ (by omega), if_neg (by omega), if_neg (by omega), show (i * 3 + 2) / 3 = i by omega]
theorem flat3_set {n : Nat} {g0 g1 g2 : Nat → Value} {i : Nat} (_ : i < n) (a b c : Value) : (((flat3 n g0 g1 g2).set (i * 3) a).set (i * 3 + 1) b).set (i * 3 + 2) c = flat3 n (fun j => if j = i then a else g0 j) (fun j => if j = i then b else g1 j) (fun j => if j = i then c else g2 j) := by
 apply List.ext_getElem (by simp [flat3])
 intro j h1 h2
 simp only [List.getElem_set, flat3, List.getElem_map, List.getElem_range]
 simp [flat3] at h2
 by_cases e2 : i * 3 + 2 = j
 ·subst e2; rw [if_pos rfl, if_neg (by omega), if_neg (by omega), if_pos (by omega)]
 ·rw [if_neg e2]
  by_cases e1 : i * 3 + 1 = j
  ·subst e1; rw [if_pos rfl, if_neg (by omega), if_pos (by omega), if_pos (by omega)]
  ·rw [if_neg e1]
   by_cases e0 : i * 3 = j
   ·subst e0; rw [if_pos rfl, if_pos (by omega), if_pos (by omega)]
   ·rw [if_neg e0]
    by_cases m0 : j % 3 = 0
    ·rw [if_pos m0, if_pos m0, if_neg (by omega)]
    ·rw [if_neg m0, if_neg m0]
     by_cases m1 : j % 3 = 1
     ·rw [if_pos m1, if_pos m1, if_neg (by omega)]
     ·rw [if_neg m1, if_neg m1, if_neg (by omega)]
theorem flat3_congr {n : Nat} {g0 g1 g2 k0 k1 k2 : Nat → Value} (h : ∀ i, i < n → g0 i = k0 i ∧ g1 i = k1 i ∧ g2 i = k2 i) : flat3 n g0 g1 g2 = flat3 n k0 k1 k2 := by
 refine List.map_congr_left fun j hj => ?_
 have hj' := List.mem_range.1 hj
 obtain ⟨h0, h1, h2⟩ := h (j / 3) (by omega)
 rw [h0, h1, h2]
def ncells (K : Nat → KS) (ns : List Nd) : List Value := flat3 ns.length (fun i => .int .i64 (ns.getD i nd0).1) (fun i => .bool (ns.getD i nd0).2.1) (fun i => ksv (K i))
def updK (K : Nat → KS) (i : Nat) (k : KS) : Nat → KS := fun j => if j = i then k else K j
theorem set_getN (ns : List Nd) (i j : Nat) (nd : Nd) (h : i < ns.length) : (ns.set i nd).getD j nd0 = if j = i then nd else ns.getD j nd0 := by
 by_cases e : j = i
 ·subst e; rw [if_pos rfl]; simp [List.getD, h]
 ·rw [if_neg e]; simp [List.getD, Ne.symm e]
theorem ncells_set {K : Nat → KS} {ns : List Nd} {i : Nat} (h : i < ns.length) (nd : Nd) (k : KS) : (((ncells K ns).set (i * 3) (.int .i64 nd.1)).set (i * 3 + 1) (.bool nd.2.1)).set (i * 3 + 2) (ksv k) = ncells (updK K i k) (ns.set i nd) := by
 unfold ncells
 rw [flat3_set h, List.length_set]
 refine flat3_congr fun j _ => ?_
 rw [set_getN _ _ _ _ h]
 by_cases e : j = i
 ·simp [e, updK]
 ·simp [e, updK]
def sb (ao : Option Addr) : Nat := match ao with | some a => a.block | none => 0
structure NodesAt (w : World) (own : Bool) (lo hi : Nat) (ao : Option Addr) (n cap : Nat) (K : Nat → KS) (ns : List Nd) : Prop where
 len : ns.length = n
 row : RowAt w own lo hi 3 ao n cap (ncells K ns)
 kids : ∀ i, i < n → RowAt w own lo hi 1 (K i).1 (K i).2.1 (K i).2.2 (ints (ns.getD i nd0).2.2)
 sep : own = true → ∀ i, i < n → (K i).2.1 ≠ 0 → sb (K i).1 ≠ sb ao ∧ ∀ j, j < n → j ≠ i → (K j).2.1 ≠ 0 → sb (K j).1 ≠ sb (K i).1
theorem NodesAt.below {w w' : World} {own : Bool} {lo hi : Nat} {ao : Option Addr} {n cap : Nat} {K : Nat → KS} {ns : List Nd} (h : NodesAt w own lo hi ao n cap K ns) (hb : Below w.heap.size w w') : NodesAt w' own lo hi ao n cap K ns :=
 ⟨h.len, h.row.below hb, fun i hi => (h.kids i hi).below hb, h.sep⟩
theorem NodesAt.kept {w w' : World} {own : Bool} {lo hi : Nat} {ao : Option Addr} {n cap : Nat} {K : Nat → KS} {ns : List Nd} (h : NodesAt w own lo hi ao n cap K ns) {l u : Nat} (hk : Kept l u w w') (hd : hi ≤ l ∨ u ≤ lo) : NodesAt w' own lo hi ao n cap K ns :=
 ⟨h.len, h.row.kept hk hd, fun i hi => (h.kids i hi).kept hk hd, h.sep⟩
theorem NodesAt.widen {w : World} {own : Bool} {lo hi : Nat} {ao : Option Addr} {n cap : Nat} {K : Nat → KS} {ns : List Nd} (h : NodesAt w own lo hi ao n cap K ns) {lo' hi' : Nat} (h1 : lo' ≤ lo) (h2 : hi ≤ hi') : NodesAt w own lo' hi' ao n cap K ns :=
 ⟨h.len, h.row.widen h1 h2, fun i hi => (h.kids i hi).widen h1 h2, h.sep⟩
def inN (ao : Option Addr) (n : Nat) (K : Nat → KS) (k : Nat) : Prop := (n ≠ 0 ∧ k = sb ao) ∨ ∃ i, i < n ∧ (K i).2.1 ≠ 0 ∧ k = sb (K i).1
theorem NodesAt.keptS {w w' : World} {own : Bool} {lo hi : Nat} {ao : Option Addr} {n cap : Nat} {K : Nat → KS} {ns : List Nd} (h : NodesAt w own lo hi ao n cap K ns) {S : Nat → Prop} (hk : KeptS S w w') (hd : ∀ k, inN ao n K k → ¬ S k) : NodesAt w' own lo hi ao n cap K ns :=
 ⟨h.len, h.row.keptS hk fun a hn e => by have := hd (sb ao) (Or.inl ⟨hn, rfl⟩); rwa [e] at this, fun i hi => (h.kids i hi).keptS hk fun a hn e => by have := hd (sb (K i).1) (Or.inr ⟨i, hi, hn, rfl⟩); rwa [e] at this, h.sep⟩
theorem NodesAt.node {w : World} {own : Bool} {lo hi : Nat} {ao : Option Addr} {n cap : Nat} {K : Nat → KS} {ns : List Nd} (h : NodesAt w own lo hi ao n cap K ns) {i : Nat} (hi' : i < n) :
  ∃ b off, ao = some ⟨b, off, none⟩ ∧ lo ≤ b ∧ b < hi ∧ b < w.heap.size ∧ w.cell? ⟨b, off + i * 3, none⟩ = some (.int .i64 (ns.getD i nd0).1) ∧ w.cell? ⟨b, off + i * 3 + 1, none⟩ = some (.bool (ns.getD i nd0).2.1) ∧ w.cell? ⟨b, off + i * 3 + 2, none⟩ = some (.slice (K i).1 (K i).2.1 (K i).2.2) ∧
   (own = true → w.frozen? ⟨b, off + i * 3, none⟩ = false ∧ w.frozen? ⟨b, off + i * 3 + 1, none⟩ = false ∧ w.frozen? ⟨b, off + i * 3 + 2, none⟩ = false) := by
 obtain ⟨b, off, rfl, h1, h2, h3, h4, h5⟩ := h.row.cells (by omega)
 have hl := h.len
 refine ⟨b, off, rfl, h1, h2, h3, ?_, ?_, ?_, fun ho => ⟨h5 ho _ (by omega), by rw [Nat.add_assoc]; exact h5 ho _ (by omega), by rw [Nat.add_assoc]; exact h5 ho _ (by omega)⟩⟩
 ·rw [h4 _ (by omega), ncells, flat3_get0 _ _ _ _ _ (by omega)]
 ·rw [Nat.add_assoc, h4 _ (by omega), ncells, flat3_get1 _ _ _ _ _ (by omega)]
 ·rw [Nat.add_assoc, h4 _ (by omega), ncells, flat3_get2 _ _ _ _ _ (by omega)]; rfl
theorem NodesAt.put {w : World} {lo hi : Nat} {b off n cap : Nat} {K : Nat → KS} {ns : List Nd} (h : NodesAt w true lo hi (some ⟨b, off, none⟩) n cap K ns) {i : Nat} (hi' : i < n) (nd : Nd) (k : KS)
  (hk : RowAt w true lo hi 1 k.1 k.2.1 k.2.2 (ints nd.2.2)) (hs : k.2.1 ≠ 0 → sb k.1 ≠ b ∧ ∀ j, j < n → j ≠ i → (K j).2.1 ≠ 0 → sb (K j).1 ≠ sb k.1) :
  NodesAt (((w.setCell ⟨b, off + i * 3, none⟩ (.int .i64 nd.1)).setCell ⟨b, off + i * 3 + 1, none⟩ (.bool nd.2.1)).setCell ⟨b, off + i * 3 + 2, none⟩ (ksv k)) true lo hi (some ⟨b, off, none⟩) n cap (updK K i k) (ns.set i nd) := by
 have hl := h.len
 have R := ((h.row.stored (i := i * 3) (by omega) (.int .i64 nd.1)).stored (i := i * 3 + 1) (by omega) (.bool nd.2.1)).stored (i := i * 3 + 2) (by omega) (ksv k)
 rw [ncells_set (by omega), ← Nat.add_assoc, ← Nat.add_assoc] at R
 have KS1 : KeptS (fun x => x = b) w (((w.setCell ⟨b, off + i * 3, none⟩ (.int .i64 nd.1)).setCell ⟨b, off + i * 3 + 1, none⟩ (.bool nd.2.1)).setCell ⟨b, off + i * 3 + 2, none⟩ (ksv k)) := by
  refine KeptS.setCell (KeptS.setCell (KeptS.setCell (KeptS.refl _ _) ?_ _) ?_ _) ?_ _ <;> rfl
 refine ⟨by rw [List.length_set]; exact hl, R, fun j hj => ?_, fun _ j hj hne => ?_⟩
 ·rw [set_getN _ _ _ _ (by omega)]
  by_cases e : j = i
  ·subst e
   rw [if_pos rfl]
   simp only [updK, if_pos]
   exact hk.keptS KS1 fun a hn ea => by have := (hs hn).1; rw [ea] at this; exact this
  ·rw [if_neg e]
   simp only [updK, if_neg e]
   exact (h.kids j hj).keptS KS1 fun a hn ea => by have := (h.sep rfl j hj hn).1; rw [ea] at this; exact this
 ·by_cases e : j = i
  ·subst e
   simp only [updK, if_pos] at hne ⊢
   refine ⟨(hs hne).1, fun m hm hmj hmn => ?_⟩
   rw [if_neg hmj] at hmn ⊢
   exact (hs hne).2 m hm hmj hmn
  ·simp only [updK, if_neg e] at hne ⊢
   obtain ⟨s1, s2⟩ := h.sep rfl j hj hne
   refine ⟨s1, fun m hm hmj hmn => ?_⟩
   by_cases e2 : m = i
   ·subst e2
    rw [if_pos rfl] at hmn ⊢
    exact ((hs hmn).2 j hj e hne).symm
   ·rw [if_neg e2] at hmn ⊢
    exact s2 m hm hmj hmn
structure FoAt (w : World) (own : Bool) (lo hi : Nat) (an : Option Addr) (nn cn : Nat) (ab : Option Addr) (nb cb : Nat) (K : Nat → KS) (f : Fo) : Prop where
 nodes : NodesAt w own lo hi an nn cn K f.1
 blocks : RowAt w own lo hi 2 ab nb cb (pairs f.2)
 sep : own = true → nb ≠ 0 → ¬ inN an nn K (sb ab)
theorem FoAt.below {w w' : World} {own : Bool} {lo hi : Nat} {an : Option Addr} {nn cn : Nat} {ab : Option Addr} {nb cb : Nat} {K : Nat → KS} {f : Fo} (h : FoAt w own lo hi an nn cn ab nb cb K f) (hb : Below w.heap.size w w') : FoAt w' own lo hi an nn cn ab nb cb K f :=
 ⟨h.nodes.below hb, h.blocks.below hb, h.sep⟩
theorem FoAt.kept {w w' : World} {own : Bool} {lo hi : Nat} {an : Option Addr} {nn cn : Nat} {ab : Option Addr} {nb cb : Nat} {K : Nat → KS} {f : Fo} (h : FoAt w own lo hi an nn cn ab nb cb K f) {l u : Nat} (hk : Kept l u w w') (hd : hi ≤ l ∨ u ≤ lo) : FoAt w' own lo hi an nn cn ab nb cb K f :=
 ⟨h.nodes.kept hk hd, h.blocks.kept hk hd, h.sep⟩
theorem FoAt.widen {w : World} {own : Bool} {lo hi : Nat} {an : Option Addr} {nn cn : Nat} {ab : Option Addr} {nb cb : Nat} {K : Nat → KS} {f : Fo} (h : FoAt w own lo hi an nn cn ab nb cb K f) {lo' hi' : Nat} (h1 : lo' ≤ lo) (h2 : hi ≤ hi') : FoAt w own lo' hi' an nn cn ab nb cb K f :=
 ⟨h.nodes.widen h1 h2, h.blocks.widen h1 h2, h.sep⟩
def kl (ns : List Nd) (i : Nat) : Nat := ((ns.take i).map fun nd => nd.2.2.length).sum
end Go.Proofs.YtannjgdginfgeaaGreat
