/- Chapter 3: blocks: plain facts of what their functions answer. -/
import Derived.Test.YtikjndmgljkhhaaBase
namespace Go.Proofs.Ytikjndmgljkhhaa
open Go.RowKit

def refsB (x : Int) : Bool := decide (0 ≤ x ∧ x ≤ 200)
def dataB (x : Int) : Bool := decide (0 ≤ x ∧ x ≤ 255)
def blkOne (p : Int × Int) : Int := if refsB p.1 && dataB p.2 then (if p.1 = 0 ∧ p.2 ≠ 0 then 1 else 0) else 3
def blkGo : List (Int × Int) → Int
  | [] => 0
  | p :: r => if blkOne p = 0 then blkGo r else blkOne p
def blkFault (bs : List (Int × Int)) : Int := if 24 < bs.length then 2 else blkGo bs
theorem blkGo_zero (bs : List (Int × Int)) (h : ∀ j, j < bs.length → blkOne (bs.getD j (0, 0)) = 0) : blkGo bs = 0 := by
  induction bs with
  | nil => rfl
  | cons p r ih =>
    have h0 : blkOne p = 0 := h 0 (by simp)
    rw [blkGo, if_pos h0]
    exact ih fun j hj => by simpa using h (j + 1) (by simpa using hj)
theorem blkGo_first (bs : List (Int × Int)) : ∀ (k : Nat), k < bs.length → (∀ j, j < k → blkOne (bs.getD j (0, 0)) = 0) → blkOne (bs.getD k (0, 0)) ≠ 0 → blkGo bs = blkOne (bs.getD k (0, 0)) := by
  induction bs with
  | nil => intro k hk; simp at hk
  | cons p r ih =>
    intro k hk h hn
    cases k with
    | zero => rw [blkGo, if_neg (by simpa using hn)]; rfl
    | succ k =>
      have h0 : blkOne p = 0 := h 0 (by omega)
      rw [blkGo, if_pos h0]
      exact ih k (by simpa using hk) (fun j hj => by simpa using h (j + 1) (by omega)) (by simpa using hn)
theorem blkGo_all {bs : List (Int × Int)} (h : blkGo bs = 0) : ∀ p ∈ bs, blkOne p = 0 := by
  induction bs with
  | nil => intro p hp; cases hp
  | cons q r ih =>
    intro p hp
    rw [blkGo] at h
    by_cases h0 : blkOne q = 0
    · rw [if_pos h0] at h
      rcases List.mem_cons.1 hp with rfl | hp
      · exact h0
      · exact ih h p hp
    · rw [if_neg h0] at h; exact absurd h h0
theorem blkGo_of {bs : List (Int × Int)} (h : ∀ p ∈ bs, blkOne p = 0) : blkGo bs = 0 :=
  blkGo_zero bs fun j hj => h _ (by rw [List.getD_eq_getElem?_getD, List.getElem?_eq_getElem hj]; exact List.getElem_mem hj)
theorem blkOne_zero {p : Int × Int} (h : blkOne p = 0) : 0 ≤ p.1 ∧ p.1 ≤ 200 ∧ 0 ≤ p.2 ∧ p.2 ≤ 255 ∧ (p.1 = 0 → p.2 = 0) := by
  unfold blkOne refsB dataB at h
  split at h
  · rename_i h1
    simp at h1
    split at h
    · exact absurd h (by decide)
    · rename_i h2
      exact ⟨h1.1.1, h1.1.2, h1.2.1, h1.2.2, fun e => Decidable.byContradiction fun e' => h2 ⟨e, e'⟩⟩
  · exact absurd h (by decide)
theorem blkOne_of {p : Int × Int} (h1 : 0 ≤ p.1) (h2 : p.1 ≤ 200) (h3 : 0 ≤ p.2) (h4 : p.2 ≤ 255) (h5 : p.1 = 0 → p.2 = 0) : blkOne p = 0 := by
  unfold blkOne refsB dataB
  rw [if_pos (by simp; exact ⟨⟨h1, h2⟩, h3, h4⟩), if_neg (fun h => h.2 (h5 h.1))]
theorem blkFault_zero {bs : List (Int × Int)} (h : blkFault bs = 0) : bs.length ≤ 24 ∧ blkGo bs = 0 := by
  unfold blkFault at h
  split at h
  · exact absurd h (by decide)
  · exact ⟨by omega, h⟩

/-- the first block that nobody refers to -/
def freeAt : List (Int × Int) → Option Nat
  | [] => none
  | p :: r => if p.1 = 0 then some 0 else (freeAt r).map (· + 1)
theorem freeAt_none (bs : List (Int × Int)) (h : ∀ j, j < bs.length → (bs.getD j (0, 0)).1 ≠ 0) : freeAt bs = none := by
  induction bs with
  | nil => rfl
  | cons p r ih =>
    have h0 : p.1 ≠ 0 := h 0 (by simp)
    rw [freeAt, if_neg h0, ih fun j hj => by simpa using h (j + 1) (by simpa using hj)]; rfl
theorem freeAt_some (bs : List (Int × Int)) : ∀ (k : Nat), k < bs.length → (∀ j, j < k → (bs.getD j (0, 0)).1 ≠ 0) → (bs.getD k (0, 0)).1 = 0 → freeAt bs = some k := by
  induction bs with
  | nil => intro k hk; simp at hk
  | cons p r ih =>
    intro k hk h hn
    cases k with
    | zero => rw [freeAt, if_pos (by simpa using hn)]
    | succ k =>
      have h0 : p.1 ≠ 0 := h 0 (by omega)
      rw [freeAt, if_neg h0, ih k (by simpa using hk) (fun j hj => by simpa using h (j + 1) (by omega)) (by simpa using hn)]; rfl
theorem freeAt_is {bs : List (Int × Int)} : ∀ {k : Nat}, freeAt bs = some k → k < bs.length ∧ (bs.getD k (0, 0)).1 = 0 := by
  induction bs with
  | nil => intro k h; cases h
  | cons p r ih =>
    intro k h
    rw [freeAt] at h
    by_cases h0 : p.1 = 0
    · rw [if_pos h0] at h; cases h; exact ⟨by simp, by simpa using h0⟩
    · rw [if_neg h0] at h
      cases hf : freeAt r with
      | none => rw [hf] at h; cases h
      | some j =>
        rw [hf] at h
        cases h
        obtain ⟨h1, h2⟩ := ih hf
        exact ⟨by simpa using h1, by simpa using h2⟩
def freeN (bs : List (Int × Int)) : Nat := (bs.filter fun p => decide (p.1 = 0)).length
theorem freeN_snoc (bs : List (Int × Int)) (k : Nat) (h : k < bs.length) : freeN (bs.take (k + 1)) = freeN (bs.take k) + (if (bs.getD k (0, 0)).1 = 0 then 1 else 0) := by
  unfold freeN
  rw [List.take_add_one, List.getElem?_eq_getElem h, List.filter_append, List.length_append]
  simp only [Option.toList, List.getD_eq_getElem?_getD, List.getElem?_eq_getElem h, Option.getD_some]
  by_cases h0 : (bs[k]).1 = 0 <;> simp [h0]
def takeCode (bs : List (Int × Int)) (x : Int) : Int := if blkFault bs = 0 then (if dataB x then (if freeAt bs = none then 8 else 0) else 3) else blkFault bs
def takeAt (bs : List (Int × Int)) (x : Int) : Nat := if takeCode bs x = 0 then (freeAt bs).getD 0 else 0
def takeList (bs : List (Int × Int)) (x : Int) : List (Int × Int) := if takeCode bs x = 0 then bs.set ((freeAt bs).getD 0) (1, x) else []
def askCode (bs : List (Int × Int)) (at' : Int) : Int := if blkFault bs = 0 then (if 0 ≤ at' ∧ at' ≤ (bs.length : Int) - 1 then (if (bs.getD at'.toNat (0, 0)).1 = 0 then 4 else 0) else 3) else blkFault bs
def shareCode (bs : List (Int × Int)) (at' : Int) : Int := if askCode bs at' = 0 then (if 200 ≤ (bs.getD at'.toNat (0, 0)).1 then 2 else 0) else askCode bs at'
def more1 (p : Int × Int) : Int × Int := (p.1 + 1, p.2)
def less1 (p : Int × Int) : Int × Int := (p.1 - 1, if p.1 - 1 = 0 then 0 else p.2)
def atIf (c : Int) (at' : Int) : Int := if c = 0 then at' else 0
def shareList (bs : List (Int × Int)) (at' : Int) : List (Int × Int) := if shareCode bs at' = 0 then bs.set at'.toNat (more1 (bs.getD at'.toNat (0, 0))) else []
def dropList (bs : List (Int × Int)) (at' : Int) : List (Int × Int) := if askCode bs at' = 0 then bs.set at'.toNat (less1 (bs.getD at'.toNat (0, 0))) else []
def newBCode (n : Int) : Int := if 0 ≤ n ∧ n ≤ 24 then 0 else 3
def newBList (n : Int) : List (Int × Int) := if newBCode n = 0 then List.replicate n.toNat (0, 0) else []
/-- an answer with blocks -/
def BlkRes (w w' : World) (e : Ending) (code : Int) (at' : Int) (bs : List (Int × Int)) : Prop :=
  ∃ a n c, e = .returned (.agg #[.int .i64 code, .int .i64 at', .slice a n c]) ∧ RowAt w' true w.heap.size w'.heap.size 2 a n c (pairs bs) ∧ Below w.heap.size w w'

end Go.Proofs.Ytikjndmgljkhhaa

/- Chapter 3: what holds of a block that was taken, shared and dropped. -/
namespace Go.Proofs.Ytikjndmgljkhhaa
open Go.RowKit

structure Taken (bs : List (Int × Int)) (x : Int) (k : Nat) : Prop where
  fr : freeAt bs = some k
  lt : k < bs.length
  was : bs.getD k (0, 0) = (0, 0)
  f0 : blkFault bs = 0
  at' : takeAt bs x = k
  li : takeList bs x = bs.set k (1, x)
  f1 : blkFault (bs.set k (1, x)) = 0
  sc : shareCode (bs.set k (1, x)) (k : Int) = 0
  sl : shareList (bs.set k (1, x)) (k : Int) = bs.set k (2, x)
  ac : askCode (bs.set k (2, x)) (k : Int) = 0
  dl : dropList (bs.set k (2, x)) (k : Int) = bs.set k (1, x)
  ad : askCode (bs.set k (1, x)) (k : Int) = 0
  el : dropList (bs.set k (1, x)) (k : Int) = bs
  fn : (freeN (bs.set k (1, x)) : Int) = (freeN bs : Int) - 1
  n0 : newBCode (bs.length : Int) = 0
  n1 : (newBList (bs.length : Int)).length = bs.length
end Go.Proofs.Ytikjndmgljkhhaa

/- Chapter 4: trees that are shared: plain words for what their functions answer. -/
namespace Go.Proofs.Ytikjndmgljkhhaa
open Go.RowKit

/-- a node: how many refer to it, whether it is a leaf, its kids -/
abbrev Nd := Int × Bool × List Int
abbrev Fo := List Nd × List (Int × Int)
def nd0 : Nd := (0, false, [])
def nodeOf (f : Fo) (i : Nat) : Nd := f.1.getD i nd0
def blockOf (f : Fo) (i : Nat) : Int × Int := f.2.getD i (0, 0)

def kidOk (f : Fo) (leaf : Bool) (k : Int) : Bool :=
  if k = -1 then true else
  if leaf then decide (0 ≤ k ∧ k ≤ (f.2.length : Int) - 1) && decide (0 < (blockOf f k.toNat).1)
  else decide (0 ≤ k ∧ k ≤ (f.1.length : Int) - 1) && decide (0 < (nodeOf f k.toNat).1) && (nodeOf f k.toNat).2.1
def kidsOk (f : Fo) (leaf : Bool) (ks : List Int) : Bool := ks.all (kidOk f leaf) && ks.any fun k => decide (0 ≤ k)
def ndOne (f : Fo) (nd : Nd) : Int :=
  if refsB nd.1 then
    (if nd.1 = 0 then (if nd.2.1 || decide (0 < nd.2.2.length) then 1 else 0)
     else if nd.2.2.length = 4 then (if kidsOk f nd.2.1 nd.2.2 then 0 else 1) else 1)
  else 3
def ndGo (f : Fo) : List Nd → Int
  | [] => 0
  | p :: r => if ndOne f p = 0 then ndGo f r else ndOne f p
theorem ndGo_zero (f : Fo) (ns : List Nd) (h : ∀ j, j < ns.length → ndOne f (ns.getD j nd0) = 0) : ndGo f ns = 0 := by
  induction ns with
  | nil => rfl
  | cons p r ih =>
    have h0 : ndOne f p = 0 := h 0 (by simp)
    rw [ndGo, if_pos h0]
    exact ih fun j hj => by simpa using h (j + 1) (by simpa using hj)
theorem ndGo_first (f : Fo) (ns : List Nd) : ∀ (k : Nat), k < ns.length → (∀ j, j < k → ndOne f (ns.getD j nd0) = 0) → ndOne f (ns.getD k nd0) ≠ 0 → ndGo f ns = ndOne f (ns.getD k nd0) := by
  induction ns with
  | nil => intro k hk; simp at hk
  | cons p r ih =>
    intro k hk h hn
    cases k with
    | zero => rw [ndGo, if_neg (by simpa using hn)]; rfl
    | succ k =>
      have h0 : ndOne f p = 0 := h 0 (by omega)
      rw [ndGo, if_pos h0]
      exact ih k (by simpa using hk) (fun j hj => by simpa using h (j + 1) (by omega)) (by simpa using hn)
theorem ndGo_all {f : Fo} {ns : List Nd} (h : ndGo f ns = 0) : ∀ p ∈ ns, ndOne f p = 0 := by
  induction ns with
  | nil => intro p hp; cases hp
  | cons q r ih =>
    intro p hp
    rw [ndGo] at h
    by_cases h0 : ndOne f q = 0
    · rw [if_pos h0] at h
      rcases List.mem_cons.1 hp with rfl | hp
      · exact h0
      · exact ih h p hp
    · rw [if_neg h0] at h; exact absurd h h0

/-- how often one node names a place, as a leaf or as none -/
def namesOf (nd : Nd) (leaf : Bool) (at' : Int) : Nat := if nd.1 = 0 ∨ nd.2.1 ≠ leaf then 0 else nd.2.2.count at'
def namedIn (ns : List Nd) (leaf : Bool) (at' : Int) : Nat := (ns.map fun nd => namesOf nd leaf at').sum
def named (f : Fo) (leaf : Bool) (at' : Int) : Nat := namedIn f.1 leaf at'
def blockFair (f : Fo) (i : Nat) : Bool := decide ((blockOf f i).1 = (named f true i : Int))
def leafFair (f : Fo) (i : Nat) : Bool := !((nodeOf f i).2.1 && decide ((nodeOf f i).1 < (named f false i : Int)))
def fair (f : Fo) : Bool := (List.range f.2.length).all (blockFair f) && (List.range f.1.length).all (leafFair f)
def foFault (f : Fo) : Int := if blkFault f.2 = 0 then (if 60 < f.1.length then 2 else if ndGo f f.1 = 0 then (if fair f then 0 else 1) else ndGo f f.1) else blkFault f.2

def rootOk (f : Fo) (root : Int) : Bool := if root = -1 then true else decide (0 ≤ root ∧ root ≤ (f.1.length : Int) - 1) && decide (0 < (nodeOf f root.toNat).1) && !(nodeOf f root.toNat).2.1
def spotB (x : Int) : Bool := decide (0 ≤ x ∧ x ≤ 15)
def treeCode (f : Fo) (root at' : Int) : Int := if foFault f = 0 then (if rootOk f root && spotB at' then 0 else 3) else foFault f
def leafAt (f : Fo) (root at' : Int) : Int := if root < 0 then -1 else (nodeOf f root.toNat).2.2.getD (at'.toNat / 4) 0
def blockAt (f : Fo) (root at' : Int) : Int := if leafAt f root at' < 0 then -1 else (nodeOf f (leafAt f root at').toNat).2.2.getD (at'.toNat % 4) 0
def lookCode (f : Fo) (root at' : Int) : Int := if treeCode f root at' = 0 then (if blockAt f root at' < 0 then 4 else 0) else treeCode f root at'
def lookVal (f : Fo) (root at' : Int) : Int := if lookCode f root at' = 0 then (blockOf f (blockAt f root at').toNat).2 else 0
def newFoList (n : Int) : Fo := ([], newBList n)
/-- the answer with a code has nothing else -/
def foIf (c : Int) (f : Fo) : Fo := if c = 0 then f else ([], [])

def shareTCode (f : Fo) (root : Int) : Int := if treeCode f root 0 = 0 then (if 0 ≤ root ∧ 200 ≤ (nodeOf f root.toNat).1 then 2 else 0) else treeCode f root 0
def moreNd (nd : Nd) : Nd := (nd.1 + 1, nd.2)
def moreAt (f : Fo) (i : Nat) : Fo := (f.1.set i (moreNd (nodeOf f i)), f.2)
def shareF (f : Fo) (root : Int) : Fo := if 0 ≤ root then moreAt f root.toNat else f

/-- one less refers to a block -/
def lessB (bs : List (Int × Int)) (i : Nat) : List (Int × Int) := bs.set i (less1 (bs.getD i (0, 0)))
def lessKids (bs : List (Int × Int)) (ks : List Int) : List (Int × Int) := ks.foldl (fun bs k => if k < 0 then bs else lessB bs k.toNat) bs
/-- one less refers to a leaf -/
def lessLeaf (f : Fo) (i : Nat) : Fo :=
  if 0 < (nodeOf f i).1 - 1 then (f.1.set i ((nodeOf f i).1 - 1, (nodeOf f i).2), f.2)
  else (f.1.set i ((nodeOf f i).1 - 1, false, []), lessKids f.2 (nodeOf f i).2.2)
def lessLeaves (f : Fo) (ks : List Int) : Fo := ks.foldl (fun f k => if k < 0 then f else lessLeaf f k.toNat) f
/-- one less refers to a root -/
def lessRoot (f : Fo) (i : Nat) : Fo :=
  if 0 < (nodeOf f i).1 - 1 then (f.1.set i ((nodeOf f i).1 - 1, (nodeOf f i).2), f.2)
  else lessLeaves (f.1.set i ((nodeOf f i).1 - 1, false, []), f.2) (nodeOf f i).2.2
def dropF (f : Fo) (root : Int) : Fo := if 0 ≤ root then lessRoot f root.toNat else f

/-- one more refers to each of some kids but one: none: one has too many -/
def moreB (bs : List (Int × Int)) (i : Nat) : List (Int × Int) := bs.set i (more1 (bs.getD i (0, 0)))
def moreStep (leaf : Bool) (but : Nat) (f : Fo) (j : Nat) (k : Int) : Option Fo :=
  if j = but ∨ k < 0 then some f else
  if leaf then (if 200 ≤ (blockOf f k.toNat).1 then none else some (f.1, moreB f.2 k.toNat))
  else (if 200 ≤ (nodeOf f k.toNat).1 then none else some (moreAt f k.toNat))
def moreTo (leaf : Bool) (but : Nat) (ks : List Int) : Nat → Fo → Option Fo
  | 0, f => some f
  | j + 1, f => (moreTo leaf but ks j f).bind fun f' => moreStep leaf but f' j (ks.getD j 0)
def moreKids (f : Fo) (leaf : Bool) (ks : List Int) (but : Nat) : Option Fo := moreTo leaf but ks 4 f

def freeNd : List Nd → Option Nat
  | [] => none
  | p :: r => if p.1 = 0 then some 0 else (freeNd r).map (· + 1)
/-- a new node: where it is, and the nodes then -/
def newNd (ns : List Nd) (nd : Nd) : Option (Nat × List Nd) :=
  match freeNd ns with
  | some i => some (i, ns.set i nd)
  | none => if 60 ≤ ns.length then none else some (ns.length, ns ++ [nd])
def noneOf (ks : List Int) : Bool := ks.all fun k => decide (k < 0)
def withKid (ks : List Int) (i : Nat) (k : Int) : List Int := (ks ++ [-1, -1, -1, -1].drop ks.length).set i k

/-- the leaf of a place with another block there: its place (or -1), a code, the forest then -/
def setLeaf (f : Fo) (root at' : Int) (block : Int) : Int × Int × Fo :=
  let leaf := leafAt f root at'
  let ks := if 0 ≤ leaf then (nodeOf f leaf.toNat).2.2 else []
  let next := withKid ks (at'.toNat % 4) block
  if noneOf next then (-1, 0, f) else
  if 0 ≤ leaf ∧ (nodeOf f leaf.toNat).1 = 1 ∧ (nodeOf f root.toNat).1 = 1 then
    let f1 : Fo := (f.1, if 0 ≤ ks.getD (at'.toNat % 4) 0 then lessB f.2 (ks.getD (at'.toNat % 4) 0).toNat else f.2)
    (leaf, 0, (f1.1.set leaf.toNat ((nodeOf f leaf.toNat).1, (nodeOf f leaf.toNat).2.1, next), f1.2))
  else match newNd f.1 (1, true, next) with
    | none => (-1, 2, f)
    | some (i, ns) => match moreKids (ns, f.2) true next (at'.toNat % 4) with
      | none => (-1, 2, f)
      | some f2 => (i, 0, f2)
def setRoot (f : Fo) (root at' : Int) (leaf : Int) : Int × Int × Fo :=
  let ks := if 0 ≤ root then (nodeOf f root.toNat).2.2 else []
  let next := withKid ks (at'.toNat / 4) leaf
  if noneOf next then (-1, 0, if 0 ≤ root then lessRoot f root.toNat else f) else
  if 0 ≤ root ∧ (nodeOf f root.toNat).1 = 1 then
    let old := ks.getD (at'.toNat / 4) 0
    let f1 : Fo := (f.1.set root.toNat ((nodeOf f root.toNat).1, (nodeOf f root.toNat).2.1, next), f.2)
    (root, 0, if 0 ≤ old ∧ old ≠ leaf then lessLeaf f1 old.toNat else f1)
  else match newNd f.1 (1, false, next) with
    | none => (-1, 2, f)
    | some (i, ns) => match moreKids (ns, f.2) false next (at'.toNat / 4) with
      | none => (-1, 2, f)
      | some f2 => (i, 0, if 0 ≤ root then lessRoot f2 root.toNat else f2)
def setPlace (f : Fo) (root at' : Int) (block : Int) : Int × Int × Fo :=
  if (setLeaf f root at' block).2.1 = 0 then setRoot (setLeaf f root at' block).2.2 root at' (setLeaf f root at' block).1
  else (-1, (setLeaf f root at' block).2.1, f)

/-- what SetTree answers: its code, its root, its forest -/
def setTCode (f : Fo) (root at' x : Int) : Int :=
  if treeCode f root at' = 0 then
    (if dataB x then
      (match freeAt f.2 with
       | none => 8
       | some b => (setPlace (f.1, f.2.set b (1, x)) root at' b).2.1) else 3)
  else treeCode f root at'
def setTF (f : Fo) (root at' x : Int) : Int × Int × Fo :=
  match freeAt f.2 with
  | none => (-1, 8, f)
  | some b => setPlace (f.1, f.2.set b (1, x)) root at' b
def clearTCode (f : Fo) (root at' : Int) : Int :=
  if treeCode f root at' = 0 then (if blockAt f root at' < 0 then 4 else (setPlace f root at' (-1)).2.1) else treeCode f root at'

end Go.Proofs.Ytikjndmgljkhhaa

/- Chapter 4: what a right forest is, and the steps that keep it right. -/
namespace Go.Proofs.Ytikjndmgljkhhaa
open Go.RowKit

theorem namesOf_nd0 (l : Bool) (k : Int) : namesOf nd0 l k = 0 := by simp [namesOf, nd0]
theorem namedIn_set (ns : List Nd) : ∀ (i : Nat) (nd : Nd) (l : Bool) (k : Int), i < ns.length → namedIn (ns.set i nd) l k + namesOf (ns.getD i nd0) l k = namedIn ns l k + namesOf nd l k := by
  induction ns with
  | nil => intro i nd l k h; simp at h
  | cons p r ih =>
    intro i nd l k h
    cases i with
    | zero => simp [namedIn]; omega
    | succ i =>
      have := ih i nd l k (by simpa using h)
      simp [namedIn] at this ⊢; omega
theorem namedIn_append (ns : List Nd) (nd : Nd) (l : Bool) (k : Int) : namedIn (ns ++ [nd]) l k = namedIn ns l k + namesOf nd l k := by simp [namedIn]
theorem namedIn_mem {ns : List Nd} {nd : Nd} {l : Bool} {k : Int} (h : nd ∈ ns) : namesOf nd l k ≤ namedIn ns l k := by
  induction ns with
  | nil => cases h
  | cons p r ih =>
    simp [namedIn] at ih ⊢
    rcases List.mem_cons.1 h with rfl | h
    · omega
    · have := ih h; omega
theorem nodeOf_mem {f : Fo} {i : Nat} (h : i < f.1.length) : nodeOf f i ∈ f.1 := by
  unfold nodeOf; rw [List.getD_eq_getElem?_getD, List.getElem?_eq_getElem h]; exact List.getElem_mem h
theorem blockOf_mem {f : Fo} {i : Nat} (h : i < f.2.length) : blockOf f i ∈ f.2 := by
  unfold blockOf; rw [List.getD_eq_getElem?_getD, List.getElem?_eq_getElem h]; exact List.getElem_mem h
theorem mem_nodeOf {f : Fo} {nd : Nd} (h : nd ∈ f.1) : ∃ i, i < f.1.length ∧ nodeOf f i = nd := by
  obtain ⟨i, hi, rfl⟩ := List.mem_iff_getElem.1 h
  exact ⟨i, hi, by simp [nodeOf, List.getD, hi]⟩
theorem nodeOf_out {f : Fo} {i : Nat} (h : f.1.length ≤ i) : nodeOf f i = nd0 := by
  unfold nodeOf; rw [List.getD_eq_getElem?_getD, List.getElem?_eq_none h]; rfl
theorem blockOf_out {f : Fo} {i : Nat} (h : f.2.length ≤ i) : blockOf f i = (0, 0) := by
  unfold blockOf; rw [List.getD_eq_getElem?_getD, List.getElem?_eq_none h]; rfl
theorem nodeOf_set (ns : List Nd) (bs : List (Int × Int)) (i j : Nat) (nd : Nd) (h : i < ns.length) : nodeOf (ns.set i nd, bs) j = if j = i then nd else ns.getD j nd0 := by
  unfold nodeOf
  by_cases e : j = i
  · subst e; rw [if_pos rfl]; simp [List.getD, h]
  · rw [if_neg e]; simp [List.getD, Ne.symm e]
theorem nodeOf_append (ns : List Nd) (bs : List (Int × Int)) (j : Nat) (nd : Nd) : nodeOf (ns ++ [nd], bs) j = if j = ns.length then nd else ns.getD j nd0 := by
  unfold nodeOf
  by_cases e : j = ns.length
  · subst e; simp [List.getD]
  · rw [if_neg e]
    by_cases h : j < ns.length
    · rw [List.getD_eq_getElem?_getD, List.getElem?_append_left h, ← List.getD_eq_getElem?_getD]
    · rw [List.getD_eq_getElem?_getD, List.getElem?_eq_none (by simp; omega), List.getD_eq_getElem?_getD, List.getElem?_eq_none (by omega)]
theorem blockOf_set (ns : List Nd) (bs : List (Int × Int)) (i j : Nat) (b : Int × Int) (h : i < bs.length) : blockOf (ns, bs.set i b) j = if j = i then b else bs.getD j (0, 0) := by
  unfold blockOf
  by_cases e : j = i
  · subst e; rw [if_pos rfl]; simp [List.getD, h]
  · rw [if_neg e]; simp [List.getD, Ne.symm e]

/-- a kid that is none, or a block, or a leaf, that somebody refers to -/
def OkKid (f : Fo) (leaf : Bool) (k : Int) : Prop := k = -1 ∨ (0 ≤ k ∧ if leaf = true then k.toNat < f.2.length ∧ 0 < (blockOf f k.toNat).1 else k.toNat < f.1.length ∧ 0 < (nodeOf f k.toNat).1 ∧ (nodeOf f k.toNat).2.1 = true)
theorem kidOk_iff (f : Fo) (leaf : Bool) (k : Int) : kidOk f leaf k = true ↔ OkKid f leaf k := by
  unfold kidOk OkKid
  by_cases h : k = -1
  · simp [h]
  · rw [if_neg h]
    cases leaf with
    | true =>
      rw [if_pos rfl, if_pos rfl]
      simp only [Bool.and_eq_true, decide_eq_true_eq]
      constructor
      · rintro ⟨h1, h2⟩; exact Or.inr ⟨h1.1, by omega, h2⟩
      · rintro (h1 | ⟨h1, h2, h3⟩)
        · exact absurd h1 h
        · exact ⟨⟨h1, by omega⟩, h3⟩
    | false =>
      rw [if_neg (by decide), if_neg (by decide)]
      simp only [Bool.and_eq_true, decide_eq_true_eq]
      constructor
      · rintro ⟨⟨h1, h2⟩, h3⟩; exact Or.inr ⟨h1.1, by omega, h2, h3⟩
      · rintro (h1 | ⟨h1, h2, h3, h4⟩)
        · exact absurd h1 h
        · exact ⟨⟨⟨h1, by omega⟩, h3⟩, h4⟩
structure NdOk (f : Fo) (nd : Nd) : Prop where
  r0 : 0 ≤ nd.1
  r1 : nd.1 ≤ 200
  z : nd.1 = 0 → nd = nd0
  kl : nd.1 ≠ 0 → nd.2.2.length = 4
  ks : nd.1 ≠ 0 → ∀ k ∈ nd.2.2, OkKid f nd.2.1 k
  so : nd.1 ≠ 0 → ∃ k ∈ nd.2.2, 0 ≤ k
theorem kidsOk_iff (f : Fo) (leaf : Bool) (ks : List Int) : kidsOk f leaf ks = true ↔ (∀ k ∈ ks, OkKid f leaf k) ∧ ∃ k ∈ ks, 0 ≤ k := by
  unfold kidsOk
  rw [Bool.and_eq_true, List.all_eq_true, List.any_eq_true]
  constructor
  · rintro ⟨h1, k, hk, h2⟩
    exact ⟨fun k hk => (kidOk_iff _ _ _).1 (h1 k hk), k, hk, of_decide_eq_true h2⟩
  · rintro ⟨h1, k, hk, h2⟩
    exact ⟨fun k hk => (kidOk_iff _ _ _).2 (h1 k hk), k, hk, decide_eq_true h2⟩
theorem ndOne_iff (f : Fo) (nd : Nd) : ndOne f nd = 0 ↔ NdOk f nd := by
  obtain ⟨r, l, ks⟩ := nd
  unfold ndOne refsB
  simp only
  constructor
  · intro h
    by_cases h1 : 0 ≤ r ∧ r ≤ 200
    · rw [if_pos (decide_eq_true h1)] at h
      by_cases h2 : r = 0
      · rw [if_pos h2] at h
        by_cases h3 : (l || decide (0 < ks.length)) = true
        · rw [if_pos h3] at h; exact absurd h (by decide)
        · simp at h3
          exact ⟨h1.1, h1.2, fun _ => by rw [h2, h3.1, h3.2]; rfl, fun e => absurd h2 e, fun e => absurd h2 e, fun e => absurd h2 e⟩
      · rw [if_neg h2] at h
        by_cases h3 : ks.length = 4
        · rw [if_pos h3] at h
          by_cases h4 : kidsOk f l ks = true
          · obtain ⟨h5, h6⟩ := (kidsOk_iff f l ks).1 h4
            exact ⟨h1.1, h1.2, fun e => absurd e h2, fun _ => h3, fun _ => h5, fun _ => h6⟩
          · rw [if_neg h4] at h; exact absurd h (by decide)
        · rw [if_neg h3] at h; exact absurd h (by decide)
    · rw [if_neg (by simpa using h1)] at h; exact absurd h (by decide)
  · rintro ⟨h1, h2, h3, h4, h5, h6⟩
    simp only at h1 h2 h3 h4 h5 h6
    rw [if_pos (decide_eq_true ⟨h1, h2⟩)]
    by_cases h7 : r = 0
    · have := h3 h7
      simp [nd0] at this
      rw [if_pos h7, this.2.1, this.2.2]; rfl
    · rw [if_neg h7, if_pos (h4 h7), if_pos ((kidsOk_iff f l ks).2 ⟨h5 h7, h6 h7⟩)]

/-- a forest whose nodes and blocks are right one by one -/
structure Inv (f : Fo) : Prop where
  nb : f.2.length ≤ 24
  nn : f.1.length ≤ 60
  nd : ∀ i, NdOk f (nodeOf f i)
  bk : ∀ j, blkOne (blockOf f j) = 0
/-- how many more refer to a node, to a block, than nodes name it -/
def ext (f : Fo) (i : Nat) : Int := (nodeOf f i).1 - (named f false i : Int)
def extB (f : Fo) (j : Nat) : Int := (blockOf f j).1 - (named f true j : Int)
theorem nd0_ok (f : Fo) : NdOk f nd0 := ⟨by decide, by decide, fun _ => rfl, fun h => absurd rfl h, fun h => absurd rfl h, fun h => absurd rfl h⟩
theorem inv_of {f : Fo} (h1 : f.2.length ≤ 24) (h2 : f.1.length ≤ 60) (h3 : ∀ p ∈ f.1, ndOne f p = 0) (h4 : ∀ p ∈ f.2, blkOne p = 0) : Inv f := by
  refine ⟨h1, h2, fun i => ?_, fun j => ?_⟩
  · by_cases h : i < f.1.length
    · exact (ndOne_iff _ _).1 (h3 _ (nodeOf_mem h))
    · rw [nodeOf_out (by omega)]; exact nd0_ok f
  · by_cases h : j < f.2.length
    · exact h4 _ (blockOf_mem h)
    · rw [blockOf_out (by omega)]; rfl
structure Right (f : Fo) : Prop where
  inv : Inv f
  bl : ∀ j, j < f.2.length → extB f j = 0
  le : ∀ i, i < f.1.length → (nodeOf f i).2.1 = true → 0 ≤ ext f i
theorem right_of {f : Fo} (h : foFault f = 0) : Right f := by
  unfold foFault at h
  by_cases h0 : blkFault f.2 = 0
  · rw [if_pos h0] at h
    by_cases h1 : 60 < f.1.length
    · rw [if_pos h1] at h; exact absurd h (by decide)
    · rw [if_neg h1] at h
      by_cases h2 : ndGo f f.1 = 0
      · rw [if_pos h2] at h
        by_cases h3 : fair f = true
        · unfold fair at h3
          rw [Bool.and_eq_true, List.all_eq_true, List.all_eq_true] at h3
          refine ⟨inv_of (blkFault_zero h0).1 (by omega) (ndGo_all h2) (blkGo_all (blkFault_zero h0).2), fun j hj => ?_, fun i hi hl => ?_⟩
          · have := of_decide_eq_true (h3.1 j (List.mem_range.2 hj))
            unfold extB; omega
          · have := h3.2 i (List.mem_range.2 hi)
            unfold leafFair at this
            rw [hl] at this
            simp at this
            unfold ext; omega
        · rw [if_neg h3] at h; exact absurd h (by decide)
      · rw [if_neg h2] at h; exact absurd h h2
  · rw [if_neg h0] at h; exact absurd h h0
theorem fault_of_right {f : Fo} (h : Right f) : foFault f = 0 := by
  have h0 : blkFault f.2 = 0 := by
    unfold blkFault
    rw [if_neg (by have := h.inv.nb; omega)]
    refine blkGo_of fun p hp => ?_
    obtain ⟨j, hj, rfl⟩ := List.mem_iff_getElem.1 hp
    have := h.inv.bk j
    simpa [blockOf, List.getD, hj] using this
  have h2 : ndGo f f.1 = 0 := ndGo_zero f f.1 fun j _ => (ndOne_iff _ _).2 (h.inv.nd j)
  unfold foFault
  rw [if_pos h0, if_neg (by have := h.inv.nn; omega), if_pos h2, if_pos]
  unfold fair
  rw [Bool.and_eq_true, List.all_eq_true, List.all_eq_true]
  refine ⟨fun j hj => decide_eq_true ?_, fun i hi => ?_⟩
  · have := h.bl j (List.mem_range.1 hj)
    unfold extB at this; omega
  · unfold leafFair
    cases hl : (nodeOf f i).2.1 with
    | false => rfl
    | true =>
      have := h.le i (List.mem_range.1 hi) hl
      unfold ext at this
      simp; omega
theorem sum_zero {l : List Nat} (h : ∀ x ∈ l, x = 0) : l.sum = 0 := by
  induction l with
  | nil => rfl
  | cons a r ih => rw [List.sum_cons, h a (by simp), ih fun x hx => h x (by simp [hx])]
/-- who names a place is right, so it is there -/
theorem named_pos {f : Fo} {l : Bool} {k : Int} (h : named f l k ≠ 0) : ∃ i, i < f.1.length ∧ (nodeOf f i).1 ≠ 0 ∧ (nodeOf f i).2.1 = l ∧ k ∈ (nodeOf f i).2.2 := by
  unfold named namedIn at h
  have : ∃ nd ∈ f.1, namesOf nd l k ≠ 0 := by
    by_cases hh : ∃ nd ∈ f.1, namesOf nd l k ≠ 0
    · exact hh
    · refine absurd ?_ h
      refine sum_zero fun x hx => ?_
      obtain ⟨nd, hnd, rfl⟩ := List.mem_map.1 hx
      exact Decidable.byContradiction fun hne => hh ⟨nd, hnd, hne⟩
  obtain ⟨nd, hnd, hn⟩ := this
  obtain ⟨i, hi, rfl⟩ := mem_nodeOf hnd
  unfold namesOf at hn
  by_cases hc : (nodeOf f i).1 = 0 ∨ (nodeOf f i).2.1 ≠ l
  · rw [if_pos hc] at hn; exact absurd rfl hn
  · rw [if_neg hc] at hn
    exact ⟨i, hi, fun e => hc (Or.inl e), Decidable.byContradiction fun e => hc (Or.inr e), List.count_pos_iff.1 (by omega)⟩
theorem names_le {f : Fo} {i : Nat} {l : Bool} {k : Int} (h : i < f.1.length) (h0 : (nodeOf f i).1 ≠ 0) (hl : (nodeOf f i).2.1 = l) : (nodeOf f i).2.2.count k ≤ named f l k := by
  have := namedIn_mem (l := l) (k := k) (nodeOf_mem h)
  unfold namesOf at this
  rw [if_neg (fun hc => hc.elim h0 (fun e => e hl))] at this
  exact this
theorem Inv.block {f : Fo} (h : Inv f) {j : Nat} (hn : named f true j ≠ 0) : j < f.2.length ∧ 0 < (blockOf f j).1 := by
  obtain ⟨i, hi, h0, hl, hm⟩ := named_pos hn
  rcases (h.nd i).ks h0 _ hm with e | ⟨_, e⟩
  · omega
  · rw [hl, if_pos rfl, Int.toNat_natCast] at e; exact e
theorem Inv.leaf {f : Fo} (h : Inv f) {j : Nat} (hn : named f false j ≠ 0) : j < f.1.length ∧ 0 < (nodeOf f j).1 ∧ (nodeOf f j).2.1 = true := by
  obtain ⟨i, hi, h0, hl, hm⟩ := named_pos hn
  rcases (h.nd i).ks h0 _ hm with e | ⟨_, e⟩
  · omega
  · rw [hl, if_neg (by decide), Int.toNat_natCast] at e; exact e

/-- a node is written anew -/
theorem Inv.put {f : Fo} (h : Inv f) {i : Nat} (hi : i < f.1.length) {nd : Nd} (hn : NdOk (f.1.set i nd, f.2) nd) (hk : named f false i = 0 ∨ (0 < nd.1 ∧ nd.2.1 = true)) : Inv (f.1.set i nd, f.2) := by
  refine ⟨h.nb, by simp only [List.length_set]; exact h.nn, fun m => ?_, h.bk⟩
  rw [nodeOf_set _ _ _ _ _ hi]
  by_cases e : m = i
  · rw [if_pos e]; exact hn
  · rw [if_neg e]
    have hm := h.nd m
    refine ⟨hm.r0, hm.r1, hm.z, hm.kl, fun h0 k hk' => ?_, hm.so⟩
    rcases hm.ks h0 k hk' with e1 | ⟨h1, h2⟩
    · exact Or.inl e1
    · refine Or.inr ⟨h1, ?_⟩
      cases hl : (nodeOf f m).2.1 with
      | true => rw [show (f.1.getD m nd0).2.1 = true from hl, if_pos rfl]; rw [hl, if_pos rfl] at h2; exact h2
      | false =>
        rw [show (f.1.getD m nd0).2.1 = false from hl]
        rw [hl, if_neg (by decide)] at h2
        rw [if_neg (by decide), nodeOf_set _ _ _ _ _ hi]
        simp only [List.length_set]
        by_cases e2 : k.toNat = i
        · rw [if_pos e2]
          rcases hk with hk | hk
          · have hml : m < f.1.length := by
              by_cases hml : m < f.1.length
              · exact hml
              · exact absurd (by show (nodeOf f m).1 = 0; rw [nodeOf_out (by omega)]; rfl) h0
            have := names_le (f := f) (k := k) hml h0 hl
            have hc : 0 < (nodeOf f m).2.2.count k := List.count_pos_iff.2 hk'
            rw [show k = ((i : Nat) : Int) by omega] at this hc
            omega
          · exact ⟨h2.1, hk.1, hk.2⟩
        · rw [if_neg e2]; exact h2
theorem Inv.append {f : Fo} (h : Inv f) (hl : f.1.length < 60) {nd : Nd} (hn : NdOk (f.1 ++ [nd], f.2) nd) : Inv (f.1 ++ [nd], f.2) := by
  refine ⟨h.nb, by simp; omega, fun m => ?_, h.bk⟩
  rw [nodeOf_append]
  by_cases e : m = f.1.length
  · rw [if_pos e]; exact hn
  · rw [if_neg e]
    have hm := h.nd m
    refine ⟨hm.r0, hm.r1, hm.z, hm.kl, fun h0 k hk' => ?_, hm.so⟩
    rcases hm.ks h0 k hk' with e1 | ⟨h1, h2⟩
    · exact Or.inl e1
    · refine Or.inr ⟨h1, ?_⟩
      cases hl : (nodeOf f m).2.1 with
      | true => rw [show (f.1.getD m nd0).2.1 = true from hl, if_pos rfl]; rw [hl, if_pos rfl] at h2; exact h2
      | false =>
        rw [show (f.1.getD m nd0).2.1 = false from hl]
        rw [hl, if_neg (by decide)] at h2
        rw [if_neg (by decide), nodeOf_append, if_neg (by omega)]
        exact ⟨by simp; omega, h2.2⟩
theorem Inv.putB {f : Fo} (h : Inv f) {j : Nat} (hj : j < f.2.length) {b : Int × Int} (hb : blkOne b = 0) (hk : named f true j = 0 ∨ 0 < b.1) : Inv (f.1, f.2.set j b) := by
  refine ⟨by simp only [List.length_set]; exact h.nb, h.nn, fun m => ?_, fun m => ?_⟩
  · have hm := h.nd m
    refine ⟨hm.r0, hm.r1, hm.z, hm.kl, fun h0 k hk' => ?_, hm.so⟩
    rcases hm.ks h0 k hk' with e1 | ⟨h1, h2⟩
    · exact Or.inl e1
    · refine Or.inr ⟨h1, ?_⟩
      cases hl : (nodeOf f m).2.1 with
      | false => rw [show (nodeOf (f.1, f.2.set j b) m).2.1 = false from hl, if_neg (by decide)]; rw [hl, if_neg (by decide)] at h2; exact h2
      | true =>
        rw [show (nodeOf (f.1, f.2.set j b) m).2.1 = true from hl]
        rw [hl, if_pos rfl] at h2
        rw [if_pos rfl, blockOf_set _ _ _ _ _ hj]
        simp only [List.length_set]
        by_cases e2 : k.toNat = j
        · rw [if_pos e2]
          rcases hk with hk | hk
          · have hml : m < f.1.length := by
              by_cases hml : m < f.1.length
              · exact hml
              · exact absurd (by show (nodeOf f m).1 = 0; rw [nodeOf_out (by omega)]; rfl) h0
            have := names_le (f := f) (k := k) hml h0 hl
            have hc : 0 < (nodeOf f m).2.2.count k := List.count_pos_iff.2 hk'
            rw [show k = ((j : Nat) : Int) by omega] at this hc
            omega
          · exact ⟨h2.1, hk⟩
        · rw [if_neg e2]; exact h2
  · rw [blockOf_set _ _ _ _ _ hj]
    by_cases e : m = j
    · rw [if_pos e]; exact hb
    · rw [if_neg e]; exact h.bk m

end Go.Proofs.Ytikjndmgljkhhaa

/- Chapter 4: one less refers to a block, to a leaf, to a root: what is right stays so. -/
namespace Go.Proofs.Ytikjndmgljkhhaa
open Go.RowKit

theorem OkKid.put {f : Fo} {i : Nat} {nd : Nd} (hi : i < f.1.length) {l : Bool} {k : Int} (h : OkKid f l k) (hk : k.toNat = i → l = false → (nodeOf f i).2.1 = true → 0 < nd.1 ∧ nd.2.1 = true) : OkKid (f.1.set i nd, f.2) l k := by
  rcases h with h | ⟨h1, h2⟩
  · exact Or.inl h
  · refine Or.inr ⟨h1, ?_⟩
    cases l with
    | true => rw [if_pos rfl] at h2 ⊢; exact h2
    | false =>
      rw [if_neg (by decide)] at h2 ⊢
      rw [nodeOf_set _ _ _ _ _ hi]
      simp only [List.length_set]
      by_cases e : k.toNat = i
      · rw [if_pos e]
        exact ⟨h2.1, hk e rfl (e ▸ h2.2.2)⟩
      · rw [if_neg e]; exact h2
theorem named_set (f : Fo) {i : Nat} (hi : i < f.1.length) (nd : Nd) (l : Bool) (k : Int) : (named (f.1.set i nd, f.2) l k : Int) = (named f l k : Int) - (namesOf (nodeOf f i) l k : Int) + (namesOf nd l k : Int) := by
  have := namedIn_set f.1 i nd l k hi
  unfold named nodeOf
  simp only
  omega
theorem names_live {r r' : Int} {p : Bool × List Int} (h : r ≠ 0) (h' : r' ≠ 0) (l : Bool) (k : Int) : namesOf (r, p) l k = namesOf (r', p) l k := by
  simp [namesOf, h, h']
/-- what a step leaves: whoever is still there is as he was -/
structure Less (f f' : Fo) : Prop where
  inv : Inv f'
  ln : f'.1.length = f.1.length
  lb : f'.2.length = f.2.length
  nd : ∀ m, (nodeOf f' m).1 ≠ 0 → (nodeOf f m).1 ≠ 0 ∧ (nodeOf f' m).2 = (nodeOf f m).2
  bk : ∀ j, (blockOf f' j).1 ≠ 0 → (blockOf f j).1 ≠ 0 ∧ (blockOf f' j).2 = (blockOf f j).2
theorem Less.refl {f : Fo} (h : Inv f) : Less f f := ⟨h, rfl, rfl, fun _ h => ⟨h, rfl⟩, fun _ h => ⟨h, rfl⟩⟩
theorem Less.trans {f g h : Fo} (a : Less f g) (b : Less g h) : Less f h :=
  ⟨b.inv, b.ln.trans a.ln, b.lb.trans a.lb, fun m hm => ⟨(a.nd m (b.nd m hm).1).1, (b.nd m hm).2.trans (a.nd m (b.nd m hm).1).2⟩, fun j hj => ⟨(a.bk j (b.bk j hj).1).1, (b.bk j hj).2.trans (a.bk j (b.bk j hj).1).2⟩⟩
theorem live_lt {f : Fo} {i : Nat} (h : (nodeOf f i).1 ≠ 0) : i < f.1.length := by
  by_cases hi : i < f.1.length
  · exact hi
  · rw [nodeOf_out (by omega)] at h; exact absurd rfl h
theorem liveB_lt {f : Fo} {i : Nat} (h : (blockOf f i).1 ≠ 0) : i < f.2.length := by
  by_cases hi : i < f.2.length
  · exact hi
  · rw [blockOf_out (by omega)] at h; exact absurd rfl h
theorem Inv.own {f : Fo} (h : Inv f) {i : Nat} (hl : (nodeOf f i).2.1 = false) : named f false i = 0 := by
  by_cases e : named f false i = 0
  · exact e
  · have := (h.leaf e).2.2; rw [hl] at this; cases this

/-- the count of who refers to a node goes to another one above 0 -/
theorem reref {f : Fo} (h : Inv f) {i : Nat} (h0 : (nodeOf f i).1 ≠ 0) {r : Int} (hr0 : 0 < r) (hr1 : r ≤ 200) : Less f (f.1.set i (r, (nodeOf f i).2), f.2) ∧ (∀ m, ext (f.1.set i (r, (nodeOf f i).2), f.2) m = if m = i then ext f m + r - (nodeOf f i).1 else ext f m) ∧ ∀ j, extB (f.1.set i (r, (nodeOf f i).2), f.2) j = extB f j := by
  have hi := live_lt h0
  have hn : ∀ l k, (named (f.1.set i (r, (nodeOf f i).2), f.2) l k : Int) = named f l k := fun l k => by
    have e1 : namesOf (nodeOf f i) l k = namesOf (r, (nodeOf f i).2) l k := names_live h0 (by omega) l k
    rw [named_set f hi, e1]; omega
  refine ⟨⟨h.put hi ?_ ?_, by simp, rfl, fun m hm => ?_, fun j hj => ⟨hj, rfl⟩⟩, fun m => ?_, fun j => ?_⟩
  · have hN := h.nd i
    refine ⟨by simp only; omega, hr1, fun e => by simp only at e; omega, fun _ => hN.kl h0, fun _ k hk => OkKid.put hi (hN.ks h0 k hk) fun _ _ hl => ⟨hr0, hl⟩, fun _ => hN.so h0⟩
  · cases hl : (nodeOf f i).2.1 with
    | true => exact Or.inr ⟨hr0, by first | exact hl | rfl⟩
    | false => exact Or.inl (h.own hl)
  · rw [nodeOf_set _ _ _ _ _ hi] at hm ⊢
    by_cases e : m = i
    · rw [if_pos e]; rw [e]; exact ⟨h0, rfl⟩
    · rw [if_neg e] at hm ⊢; exact ⟨hm, rfl⟩
  · unfold ext
    rw [hn, nodeOf_set _ _ _ _ _ hi]
    by_cases e : m = i
    · rw [if_pos e, if_pos e, e]; simp only; omega
    · rw [if_neg e, if_neg e]; rfl
  · unfold extB
    rw [hn]; rfl
/-- a node that nobody has is no more -/
theorem cleared {f : Fo} (h : Inv f) {i : Nat} (h0 : (nodeOf f i).1 ≠ 0) (hn : named f false i = 0) : Less f (f.1.set i (0, false, []), f.2) ∧ (∀ m, ext (f.1.set i (0, false, []), f.2) m = (if m = i then 0 else ext f m + (namesOf (nodeOf f i) false m : Int))) ∧ ∀ j, extB (f.1.set i (0, false, []), f.2) j = extB f j + (namesOf (nodeOf f i) true j : Int) := by
  have hi := live_lt h0
  have hnm : ∀ l k, (named (f.1.set i (0, false, []), f.2) l k : Int) = named f l k - (namesOf (nodeOf f i) l k : Int) := fun l k => by
    rw [named_set f hi, show namesOf (0, false, []) l k = 0 from namesOf_nd0 l k]; omega
  refine ⟨⟨h.put hi (nd0_ok _) (Or.inl hn), by simp, rfl, fun m hm => ?_, fun j hj => ⟨hj, rfl⟩⟩, fun m => ?_, fun j => ?_⟩
  · rw [nodeOf_set _ _ _ _ _ hi] at hm ⊢
    by_cases e : m = i
    · rw [if_pos e] at hm; exact absurd rfl hm
    · rw [if_neg e] at hm ⊢; exact ⟨hm, rfl⟩
  · unfold ext
    rw [hnm, nodeOf_set _ _ _ _ _ hi]
    by_cases e : m = i
    · rw [if_pos e, if_pos e]
      have h1 := namedIn_mem (l := false) (k := (m : Int)) (nodeOf_mem hi)
      rw [e] at h1 ⊢
      have h2 : named f false i = namedIn f.1 false i := rfl
      simp only; omega
    · rw [if_neg e, if_neg e]
      have : (List.getD f.1 m nd0).1 = (nodeOf f m).1 := rfl
      rw [this]; omega
  · unfold extB
    rw [hnm]
    have : (blockOf (f.1.set i (0, false, []), f.2) j).1 = (blockOf f j).1 := rfl
    rw [this]; omega

/-- one less refers to a block -/
theorem lessB_ok {f : Fo} (h : Inv f) {j : Nat} (he : 1 ≤ extB f j) : Less f (f.1, lessB f.2 j) ∧ (∀ m, ext (f.1, lessB f.2 j) m = ext f m) ∧ ∀ m, extB (f.1, lessB f.2 j) m = if m = j then extB f m - 1 else extB f m := by
  have h1 : 1 ≤ (blockOf f j).1 := by unfold extB at he; omega
  have hj := liveB_lt (f := f) (i := j) (by omega)
  have hb := blkOne_zero (h.bk j)
  have hbo : f.2.getD j (0, 0) = blockOf f j := rfl
  have hn : ∀ l k, named (f.1, lessB f.2 j) l k = named f l k := fun _ _ => rfl
  refine ⟨⟨?_, rfl, by simp [lessB], fun m hm => ⟨hm, rfl⟩, fun m hm => ?_⟩, fun m => rfl, fun m => ?_⟩
  · unfold lessB
    rw [hbo]
    refine h.putB hj ?_ ?_
    · unfold less1
      refine blkOne_of (by simp only; omega) (by simp only; omega) ?_ ?_ ?_ <;> simp only
      · split <;> omega
      · split <;> omega
      · intro e; rw [if_pos e]
    · by_cases hz : named f true j = 0
      · exact Or.inl hz
      · right; unfold extB at he; simp only [less1]; omega
  · unfold lessB at hm ⊢
    rw [blockOf_set _ _ _ _ _ hj] at hm ⊢
    by_cases e : m = j
    · rw [if_pos e] at hm ⊢
      rw [hbo] at hm ⊢
      rw [e]
      refine ⟨by omega, ?_⟩
      unfold less1 at hm ⊢
      simp only at hm ⊢
      rw [if_neg hm]
    · rw [if_neg e] at hm ⊢; exact ⟨hm, rfl⟩
  · unfold extB
    rw [hn]
    unfold lessB
    rw [blockOf_set _ _ _ _ _ hj]
    by_cases e : m = j
    · rw [if_pos e, if_pos e, hbo, e]; simp only [less1]; omega
    · rw [if_neg e, if_neg e]; rfl
theorem lessKids_cons (bs : List (Int × Int)) (k : Int) (r : List Int) : lessKids bs (k :: r) = lessKids (if k < 0 then bs else lessB bs k.toNat) r := rfl
theorem lessKids_ok : ∀ (ks : List Int) {f : Fo}, Inv f → (∀ j : Nat, (ks.count (j : Int) : Int) ≤ extB f j ∨ ks.count (j : Int) = 0) → Less f (f.1, lessKids f.2 ks) ∧ (∀ m, ext (f.1, lessKids f.2 ks) m = ext f m) ∧ ∀ j : Nat, extB (f.1, lessKids f.2 ks) j = extB f j - (ks.count (j : Int) : Int) := by
  intro ks
  induction ks with
  | nil => intro f h _; exact ⟨Less.refl h, fun _ => rfl, fun j => by simp [lessKids]⟩
  | cons k r ih =>
    intro f h hc
    rw [lessKids_cons]
    by_cases hk : k < 0
    · rw [if_pos hk]
      have hcc : ∀ j : Nat, (k :: r).count (j : Int) = r.count (j : Int) := fun j => List.count_cons_of_ne (by omega)
      obtain ⟨a, b, c⟩ := ih h fun j => by have := hc j; rwa [hcc] at this
      exact ⟨a, b, fun j => by rw [c, hcc]⟩
    · rw [if_neg hk]
      obtain ⟨i, rfl⟩ : ∃ i : Nat, k = i := ⟨k.toNat, by omega⟩
      rw [Int.toNat_natCast]
      have he : 1 ≤ extB f i := by
        rcases hc i with h1 | h1
        · rw [List.count_cons_self] at h1; omega
        · rw [List.count_cons_self] at h1; omega
      obtain ⟨a, b, c⟩ := lessB_ok h he
      have hcc : ∀ j : Nat, ((i : Int) :: r).count (j : Int) = r.count (j : Int) + if j = i then 1 else 0 := fun j => by
        rw [List.count_cons]; simp only [beq_iff_eq]
        by_cases e : j = i
        · rw [if_pos e, if_pos (by omega)]
        · rw [if_neg e, if_neg (by omega)]
      obtain ⟨a', b', c'⟩ := ih a.inv fun j => by
        have := hc j
        rw [hcc] at this
        rw [c]
        by_cases e : j = i
        · rw [if_pos e] at this ⊢; omega
        · rw [if_neg e] at this ⊢; omega
      exact ⟨a.trans a', fun m => (b' m).trans (b m), fun j => by
        rw [c', c, hcc]
        by_cases e : j = i
        · rw [if_pos e, if_pos e]; omega
        · rw [if_neg e, if_neg e]; omega⟩

/-- one less refers to a leaf -/
theorem lessLeaf_ok {f : Fo} (h : Inv f) (hB : ∀ j, 0 ≤ extB f j) {i : Nat} (hl : (nodeOf f i).2.1 = true) (he : 1 ≤ ext f i) : Less f (lessLeaf f i) ∧ (∀ m, ext (lessLeaf f i) m = if m = i then ext f m - 1 else ext f m) ∧ ∀ j, extB (lessLeaf f i) j = extB f j := by
  have h1 : 1 ≤ (nodeOf f i).1 := by unfold ext at he; omega
  have h2 := (h.nd i).r1
  unfold lessLeaf
  by_cases hr : 0 < (nodeOf f i).1 - 1
  · rw [if_pos hr]
    obtain ⟨a, b, c⟩ := reref h (i := i) (by omega) hr (by omega)
    refine ⟨a, fun m => ?_, c⟩
    rw [b]
    by_cases e : m = i
    · rw [if_pos e, if_pos e]; omega
    · rw [if_neg e, if_neg e]
  · rw [if_neg hr, show (nodeOf f i).1 - 1 = 0 by omega]
    have hn : named f false i = 0 := by unfold ext at he; omega
    obtain ⟨a, b, c⟩ := cleared h (i := i) (by omega) hn
    have hcn : ∀ k, namesOf (nodeOf f i) true k = (nodeOf f i).2.2.count k := fun k => by
      unfold namesOf; rw [if_neg (fun hc => hc.elim (by omega) (fun e => e hl))]
    have hcf : ∀ k, namesOf (nodeOf f i) false k = 0 := fun k => by
      unfold namesOf; rw [if_pos (Or.inr (by rw [hl]; decide))]
    obtain ⟨a', b', c'⟩ := lessKids_ok (nodeOf f i).2.2 a.inv fun j => Or.inl (by rw [c, hcn]; have := hB j; omega)
    refine ⟨a.trans a', fun m => ?_, fun j => ?_⟩
    · rw [b', b, hcf]
      by_cases e : m = i
      · rw [if_pos e, if_pos e, e]; unfold ext; omega
      · rw [if_neg e, if_neg e]; omega
    · rw [c', c, hcn]; omega
theorem lessLeaves_cons (f : Fo) (k : Int) (r : List Int) : lessLeaves f (k :: r) = lessLeaves (if k < 0 then f else lessLeaf f k.toNat) r := rfl
theorem lessLeaves_ok : ∀ (ks : List Int) {f : Fo}, Inv f → (∀ j, 0 ≤ extB f j) → (∀ k ∈ ks, k < 0 ∨ (nodeOf f k.toNat).2.1 = true) → (∀ j : Nat, (ks.count (j : Int) : Int) ≤ ext f j ∨ ks.count (j : Int) = 0) →
    Less f (lessLeaves f ks) ∧ (∀ m : Nat, ext (lessLeaves f ks) m = ext f m - (ks.count (m : Int) : Int)) ∧ ∀ j, extB (lessLeaves f ks) j = extB f j := by
  intro ks
  induction ks with
  | nil => intro f h _ _ _; exact ⟨Less.refl h, fun _ => by simp [lessLeaves], fun j => rfl⟩
  | cons k r ih =>
    intro f h hB hl hc
    rw [lessLeaves_cons]
    by_cases hk : k < 0
    · rw [if_pos hk]
      have hcc : ∀ j : Nat, (k :: r).count (j : Int) = r.count (j : Int) := fun j => List.count_cons_of_ne (by omega)
      obtain ⟨a, b, c⟩ := ih h hB (fun x hx => hl x (by simp [hx])) fun j => by have := hc j; rwa [hcc] at this
      exact ⟨a, fun j => by rw [b, hcc], c⟩
    · rw [if_neg hk]
      obtain ⟨i, rfl⟩ : ∃ i : Nat, k = i := ⟨k.toNat, by omega⟩
      rw [Int.toNat_natCast]
      have he : 1 ≤ ext f i := by
        rcases hc i with h1 | h1
        · rw [List.count_cons_self] at h1; omega
        · rw [List.count_cons_self] at h1; omega
      have hli : (nodeOf f i).2.1 = true := by
        rcases hl i (by simp) with h1 | h1
        · omega
        · rwa [Int.toNat_natCast] at h1
      obtain ⟨a, b, c⟩ := lessLeaf_ok h hB hli he
      have hcc : ∀ j : Nat, ((i : Int) :: r).count (j : Int) = r.count (j : Int) + if j = i then 1 else 0 := fun j => by
        rw [List.count_cons]; simp only [beq_iff_eq]
        by_cases e : j = i
        · rw [if_pos e, if_pos (by omega)]
        · rw [if_neg e, if_neg (by omega)]
      have hc' : ∀ j : Nat, (r.count (j : Int) : Int) ≤ ext (lessLeaf f i) j ∨ r.count (j : Int) = 0 := fun j => by
        have := hc j
        rw [hcc] at this
        rw [b]
        by_cases e : j = i
        · rw [if_pos e] at this ⊢; omega
        · rw [if_neg e] at this ⊢; omega
      obtain ⟨a', b', c'⟩ := ih a.inv (fun j => by rw [c]; exact hB j) (fun x hx => by
        rcases hl x (by simp [hx]) with h1 | h1
        · exact Or.inl h1
        · by_cases hx0 : x < 0
          · exact Or.inl hx0
          · right
            have hcx := hc' x.toNat
            have hcp : 0 < r.count ((x.toNat : Nat) : Int) := List.count_pos_iff.2 (by rw [show ((x.toNat : Nat) : Int) = x by omega]; exact hx)
            have hlive : (nodeOf (lessLeaf f i) x.toNat).1 ≠ 0 := by
              intro e0
              rcases hcx with hcx | hcx
              · unfold ext at hcx; omega
              · omega
            rw [(a.nd _ hlive).2]; exact h1) hc'
      exact ⟨a.trans a', fun j => by
        rw [b', b, hcc]
        by_cases e : j = i
        · rw [if_pos e, if_pos e]; omega
        · rw [if_neg e, if_neg e]; omega, fun j => (c' j).trans (c j)⟩
/-- one less refers to a root -/
theorem lessRoot_ok {f : Fo} (h : Inv f) (hB : ∀ j, 0 ≤ extB f j) (hE : ∀ m, 0 ≤ ext f m) {i : Nat} (h0 : (nodeOf f i).1 ≠ 0) (hl : (nodeOf f i).2.1 = false) : Less f (lessRoot f i) ∧ (∀ m, ext (lessRoot f i) m = if m = i then ext f m - 1 else ext f m) ∧ ∀ j, extB (lessRoot f i) j = extB f j := by
  have h1 := (h.nd i).r0
  have h2 := (h.nd i).r1
  have hn := h.own hl
  unfold lessRoot
  by_cases hr : 0 < (nodeOf f i).1 - 1
  · rw [if_pos hr]
    obtain ⟨a, b, c⟩ := reref h (i := i) h0 hr (by omega)
    refine ⟨a, fun m => ?_, c⟩
    rw [b]
    by_cases e : m = i
    · rw [if_pos e, if_pos e]; omega
    · rw [if_neg e, if_neg e]
  · rw [if_neg hr, show (nodeOf f i).1 - 1 = 0 by omega]
    obtain ⟨a, b, c⟩ := cleared h h0 hn
    have hcn : ∀ k, namesOf (nodeOf f i) false k = (nodeOf f i).2.2.count k := fun k => by
      unfold namesOf; rw [if_neg (fun hc => hc.elim h0 (fun e => e hl))]
    have hct : ∀ k, namesOf (nodeOf f i) true k = 0 := fun k => by
      unfold namesOf; rw [if_pos (Or.inr (by rw [hl]; decide))]
    have hci : (nodeOf f i).2.2.count (i : Int) = 0 := by have := names_le (f := f) (k := (i : Int)) (live_lt h0) h0 hl; omega
    have hE1 : ∀ j : Nat, ((nodeOf f i).2.2.count (j : Int) : Int) ≤ ext (f.1.set i (0, false, []), f.2) j := fun j => by
      rw [b, hcn]
      by_cases e : j = i
      · rw [if_pos e, e, hci]; omega
      · rw [if_neg e]; have := hE j; omega
    obtain ⟨a', b', c'⟩ := lessLeaves_ok (nodeOf f i).2.2 a.inv (fun j => by rw [c, hct]; have := hB j; omega) (fun k hk => by
      rcases (h.nd i).ks h0 k hk with e | ⟨h3, h4⟩
      · left; omega
      · right
        rw [hl, if_neg (by decide)] at h4
        rw [nodeOf_set _ _ _ _ _ (live_lt h0)]
        by_cases e : k.toNat = i
        · rw [e] at h4; rw [hl] at h4; exact absurd h4.2.2 (by decide)
        · rw [if_neg e]; exact h4.2.2) fun j => Or.inl (hE1 j)
    refine ⟨a.trans a', fun m => ?_, fun j => ?_⟩
    · rw [b', b, hcn]
      by_cases e : m = i
      · rw [if_pos e, if_pos e, e, hci]; unfold ext; omega
      · rw [if_neg e, if_neg e]; omega
    · rw [c', c, hct]; omega

end Go.Proofs.Ytikjndmgljkhhaa

/- Chapter 4: a new node, and one more refers to each of some kids: what is right stays so. -/
namespace Go.Proofs.Ytikjndmgljkhhaa
open Go.RowKit

theorem freeNd_is {ns : List Nd} : ∀ {i : Nat}, freeNd ns = some i → i < ns.length ∧ (ns.getD i nd0).1 = 0 := by
  induction ns with
  | nil => intro i h; cases h
  | cons p r ih =>
    intro i h
    rw [freeNd] at h
    by_cases h0 : p.1 = 0
    · rw [if_pos h0] at h; cases h; exact ⟨by simp, by simpa using h0⟩
    · rw [if_neg h0] at h
      cases hf : freeNd r with
      | none => rw [hf] at h; cases h
      | some j =>
        rw [hf] at h
        cases h
        obtain ⟨h1, h2⟩ := ih hf
        exact ⟨by simpa using h1, by simpa using h2⟩
/-- a node that is new at i -/
structure NewAt (f : Fo) (nd : Nd) (i : Nat) (ns : List Nd) : Prop where
  was : nodeOf f i = nd0
  node : ∀ bs m, nodeOf (ns, bs) m = if m = i then nd else nodeOf f m
  nm : ∀ bs l k, named (ns, bs) l k = named f l k + namesOf nd l k
  lt : i < ns.length
  inv : NdOk (ns, f.2) nd → Inv (ns, f.2)
  no : named f false i = 0
theorem new_at {f : Fo} (h : Inv f) {nd : Nd} {i : Nat} {ns : List Nd} (hn : newNd f.1 nd = some (i, ns)) : NewAt f nd i ns := by
  unfold newNd at hn
  cases hf : freeNd f.1 with
  | some j =>
    rw [hf] at hn
    simp only [Option.some.injEq, Prod.mk.injEq] at hn
    obtain ⟨rfl, rfl⟩ := hn
    obtain ⟨h1, h2⟩ := freeNd_is hf
    have hz : nodeOf f j = nd0 := (h.nd j).z h2
    have hno : named f false j = 0 := by
      by_cases e : named f false j = 0
      · exact e
      · have := (h.leaf e).2.1; rw [hz] at this; exact absurd this (by decide)
    refine ⟨hz, fun bs m => nodeOf_set _ _ _ _ _ h1, fun bs l k => ?_, by simpa using h1, fun hk => h.put h1 hk (Or.inl hno), hno⟩
    have := namedIn_set f.1 j nd l k h1
    rw [show f.1.getD j nd0 = nd0 from hz, namesOf_nd0] at this
    exact this
  | none =>
    rw [hf] at hn
    simp only at hn
    by_cases h60 : 60 ≤ f.1.length
    · rw [if_pos h60] at hn; cases hn
    · rw [if_neg h60] at hn
      simp only [Option.some.injEq, Prod.mk.injEq] at hn
      obtain ⟨rfl, rfl⟩ := hn
      have hz : nodeOf f f.1.length = nd0 := nodeOf_out (Nat.le_refl _)
      have hno : named f false f.1.length = 0 := by
        by_cases e : named f false f.1.length = 0
        · exact e
        · have := (h.leaf e).1; omega
      exact ⟨hz, fun bs m => nodeOf_append _ _ _ _, fun bs l k => namedIn_append _ _ _ _, by simp, fun hk => h.append (by omega) hk, hno⟩

/-- the count of who refers to a block goes to another one above 0 -/
theorem rerefB {f : Fo} (h : Inv f) {j : Nat} (h0 : (blockOf f j).1 ≠ 0) {r : Int} (hr0 : 0 < r) (hr1 : r ≤ 200) : Less f (f.1, f.2.set j (r, (blockOf f j).2)) ∧ (∀ m, ext (f.1, f.2.set j (r, (blockOf f j).2)) m = ext f m) ∧ ∀ m, extB (f.1, f.2.set j (r, (blockOf f j).2)) m = if m = j then extB f m + r - (blockOf f j).1 else extB f m := by
  have hj := liveB_lt h0
  have hb := blkOne_zero (h.bk j)
  refine ⟨⟨h.putB hj (blkOne_of (by simp only; omega) hr1 hb.2.2.1 hb.2.2.2.1 (fun e => by simp only at e; omega)) (Or.inr hr0), rfl, by simp, fun m hm => ⟨hm, rfl⟩, fun m hm => ?_⟩, fun m => rfl, fun m => ?_⟩
  · rw [blockOf_set _ _ _ _ _ hj] at hm ⊢
    by_cases e : m = j
    · rw [if_pos e, e]; exact ⟨h0, rfl⟩
    · rw [if_neg e] at hm ⊢; exact ⟨hm, rfl⟩
  · unfold extB
    rw [blockOf_set _ _ _ _ _ hj]
    have : named (f.1, f.2.set j (r, (blockOf f j).2)) true m = named f true m := rfl
    rw [this]
    by_cases e : m = j
    · rw [if_pos e, if_pos e, e]; simp only; omega
    · rw [if_neg e, if_neg e]; rfl

/-- how often x is among the first j of ks, but at one place -/
def cntTo (ks : List Int) (but : Nat) (x : Nat) : Nat → Nat
  | 0 => 0
  | j + 1 => cntTo ks but x j + if j ≠ but ∧ ks.getD j 0 = (x : Int) then 1 else 0
theorem cnt_all {ks : List Int} (h : ks.length = 4) {but : Nat} (hb : but < 4) (x : Nat) : cntTo ks but x 4 + (if ks.getD but 0 = (x : Int) then 1 else 0) = ks.count (x : Int) := by
  match ks, h with
  | [a, b, c, d], _ =>
    rcases (show but = 0 ∨ but = 1 ∨ but = 2 ∨ but = 3 by omega) with rfl | rfl | rfl | rfl <;> simp [cntTo, List.count_cons, List.getD] <;> omega

theorem moreB_step {f : Fo} (h : Inv f) {j : Nat} (h0 : (blockOf f j).1 ≠ 0) (h2 : (blockOf f j).1 < 200) : Less f (f.1, moreB f.2 j) ∧ (∀ m, ext (f.1, moreB f.2 j) m = ext f m) ∧ (∀ m, extB (f.1, moreB f.2 j) m = if m = j then extB f m + 1 else extB f m) ∧ ∀ m, (blockOf f m).1 ≠ 0 → (blockOf (f.1, moreB f.2 j) m).1 ≠ 0 := by
  have hb := blkOne_zero (h.bk j)
  obtain ⟨a, b, c⟩ := rerefB h h0 (r := (blockOf f j).1 + 1) (by omega) (by omega)
  refine ⟨a, b, fun m => ?_, fun m hm => ?_⟩
  · have := c m
    rw [show (f.1, moreB f.2 j) = (f.1, f.2.set j ((blockOf f j).1 + 1, (blockOf f j).2)) from rfl, this]
    by_cases e : m = j
    · rw [if_pos e, if_pos e]; omega
    · rw [if_neg e, if_neg e]
  · rw [show (f.1, moreB f.2 j) = (f.1, f.2.set j ((blockOf f j).1 + 1, (blockOf f j).2)) from rfl, blockOf_set _ _ _ _ _ (liveB_lt h0)]
    by_cases e : m = j
    · rw [if_pos e]; simp only; omega
    · rw [if_neg e]; exact hm
theorem moreAt_step {f : Fo} (h : Inv f) {i : Nat} (h0 : (nodeOf f i).1 ≠ 0) (h2 : (nodeOf f i).1 < 200) : Less f (moreAt f i) ∧ (∀ m, ext (moreAt f i) m = if m = i then ext f m + 1 else ext f m) ∧ (∀ j, extB (moreAt f i) j = extB f j) ∧ ∀ m, (nodeOf f m).1 ≠ 0 → (nodeOf (moreAt f i) m).1 ≠ 0 := by
  have hr := (h.nd i).r0
  obtain ⟨a, b, c⟩ := reref h h0 (r := (nodeOf f i).1 + 1) (by omega) (by omega)
  refine ⟨a, fun m => ?_, c, fun m hm => ?_⟩
  · have := b m
    rw [show moreAt f i = (f.1.set i ((nodeOf f i).1 + 1, (nodeOf f i).2), f.2) from rfl, this]
    by_cases e : m = i
    · rw [if_pos e, if_pos e]; omega
    · rw [if_neg e, if_neg e]
  · rw [show moreAt f i = (f.1.set i ((nodeOf f i).1 + 1, (nodeOf f i).2), f.2) from rfl, nodeOf_set _ _ _ _ _ (live_lt h0)]
    by_cases e : m = i
    · rw [if_pos e]; simp only; omega
    · rw [if_neg e]; exact hm

/-- one more refers to each of a leaf's blocks but one -/
theorem moreTo_leaf {ks : List Int} {but : Nat} {f : Fo} (h : Inv f) (hk : ∀ p, p < 4 → p ≠ but → ks.getD p 0 < 0 ∨ (blockOf f (ks.getD p 0).toNat).1 ≠ 0) : ∀ (j : Nat), j ≤ 4 → ∀ {f' : Fo}, moreTo true but ks j f = some f' →
    f'.1 = f.1 ∧ Less f f' ∧ (∀ m, ext f' m = ext f m) ∧ (∀ x : Nat, extB f' x = extB f x + (cntTo ks but x j : Int)) ∧ ∀ m, (blockOf f m).1 ≠ 0 → (blockOf f' m).1 ≠ 0 := by
  intro j
  induction j with
  | zero => intro _ f' he; cases he; exact ⟨rfl, Less.refl h, fun _ => rfl, fun x => by simp [cntTo], fun _ h => h⟩
  | succ j ih =>
    intro hj f' he
    rw [moreTo] at he
    cases hm : moreTo true but ks j f with
    | none => rw [hm] at he; cases he
    | some g =>
      rw [hm] at he
      replace he : moreStep true but g j (ks.getD j 0) = some f' := he
      obtain ⟨a1, a2, a3, a4, a5⟩ := ih (by omega) hm
      unfold moreStep at he
      by_cases hc : j = but ∨ ks.getD j 0 < 0
      · rw [if_pos hc] at he
        cases he
        refine ⟨a1, a2, a3, fun x => ?_, a5⟩
        rw [a4, cntTo, if_neg (fun hx => hc.elim hx.1 (fun e => by omega))]; omega
      · rw [if_neg hc, if_pos rfl] at he
        by_cases h200 : 200 ≤ (blockOf g (ks.getD j 0).toNat).1
        · rw [if_pos h200] at he; cases he
        · rw [if_neg h200] at he
          cases he
          have hne : j ≠ but := fun e => hc (Or.inl e)
          have h0 : (blockOf g (ks.getD j 0).toNat).1 ≠ 0 := by
            rcases hk j (by omega) hne with e | e
            · exact absurd (Or.inr e) hc
            · exact a5 _ e
          obtain ⟨b1, b2, b3, b4⟩ := moreB_step a2.inv h0 (by omega)
          refine ⟨a1, a2.trans b1, fun m => (b2 m).trans (a3 m), fun x => ?_, fun m hm => b4 m (a5 m hm)⟩
          rw [b3, a4, cntTo]
          by_cases e : x = (ks.getD j 0).toNat
          · rw [if_pos e, if_pos ⟨hne, by omega⟩]; omega
          · rw [if_neg e, if_neg (fun hx => e (by omega))]; omega
/-- one more refers to each of a root's leaves but one -/
theorem moreTo_root {ks : List Int} {but : Nat} {f : Fo} (h : Inv f) (hk : ∀ p, p < 4 → p ≠ but → ks.getD p 0 < 0 ∨ (nodeOf f (ks.getD p 0).toNat).1 ≠ 0) : ∀ (j : Nat), j ≤ 4 → ∀ {f' : Fo}, moreTo false but ks j f = some f' →
    Less f f' ∧ (∀ x : Nat, ext f' x = ext f x + (cntTo ks but x j : Int)) ∧ (∀ x : Nat, extB f' x = extB f x) ∧ ∀ m, (nodeOf f m).1 ≠ 0 → (nodeOf f' m).1 ≠ 0 := by
  intro j
  induction j with
  | zero => intro _ f' he; cases he; exact ⟨Less.refl h, fun x => by simp [cntTo], fun _ => rfl, fun _ h => h⟩
  | succ j ih =>
    intro hj f' he
    rw [moreTo] at he
    cases hm : moreTo false but ks j f with
    | none => rw [hm] at he; cases he
    | some g =>
      rw [hm] at he
      replace he : moreStep false but g j (ks.getD j 0) = some f' := he
      obtain ⟨a2, a3, a4, a5⟩ := ih (by omega) hm
      unfold moreStep at he
      by_cases hc : j = but ∨ ks.getD j 0 < 0
      · rw [if_pos hc] at he
        cases he
        refine ⟨a2, fun x => ?_, a4, a5⟩
        rw [a3, cntTo, if_neg (fun hx => hc.elim hx.1 (fun e => by omega))]; omega
      · rw [if_neg hc, if_neg (by decide)] at he
        by_cases h200 : 200 ≤ (nodeOf g (ks.getD j 0).toNat).1
        · rw [if_pos h200] at he; cases he
        · rw [if_neg h200] at he
          cases he
          have hne : j ≠ but := fun e => hc (Or.inl e)
          have h0 : (nodeOf g (ks.getD j 0).toNat).1 ≠ 0 := by
            rcases hk j (by omega) hne with e | e
            · exact absurd (Or.inr e) hc
            · exact a5 _ e
          obtain ⟨b1, b2, b3, b4⟩ := moreAt_step a2.inv h0 (by omega)
          refine ⟨a2.trans b1, fun x => ?_, fun x => (b3 x).trans (a4 x), fun m hm => b4 m (a5 m hm)⟩
          rw [b2, a3, cntTo]
          by_cases e : x = (ks.getD j 0).toNat
          · rw [if_pos e, if_pos ⟨hne, by omega⟩]; omega
          · rw [if_neg e, if_neg (fun hx => e (by omega))]; omega

/-- kids with another one at a place -/
theorem with_len {ks : List Int} (h : ks.length = 4 ∨ ks = []) (i : Nat) (k : Int) : (withKid ks i k).length = 4 := by
  rcases h with h | rfl
  · simp [withKid, h]
  · simp [withKid]
theorem with_getD {ks : List Int} (h : ks.length = 4 ∨ ks = []) {i : Nat} (hi : i < 4) (k : Int) {p : Nat} (hp : p < 4) : (withKid ks i k).getD p 0 = if p = i then k else if ks = [] then -1 else ks.getD p 0 := by
  rcases h with h | rfl
  · match ks, h with
    | [a, b, c, d], _ =>
      rcases (show i = 0 ∨ i = 1 ∨ i = 2 ∨ i = 3 by omega) with rfl | rfl | rfl | rfl <;> rcases (show p = 0 ∨ p = 1 ∨ p = 2 ∨ p = 3 by omega) with rfl | rfl | rfl | rfl <;> simp [withKid, List.getD]
  · rcases (show i = 0 ∨ i = 1 ∨ i = 2 ∨ i = 3 by omega) with rfl | rfl | rfl | rfl <;> rcases (show p = 0 ∨ p = 1 ∨ p = 2 ∨ p = 3 by omega) with rfl | rfl | rfl | rfl <;> simp [withKid, List.getD]
theorem four_mem {ks : List Int} (h : ks.length = 4) {k : Int} (hk : k ∈ ks) : ∃ p, p < 4 ∧ ks.getD p 0 = k := by
  obtain ⟨p, hp, rfl⟩ := List.mem_iff_getElem.1 hk
  exact ⟨p, by omega, by simp [List.getD, hp]⟩
theorem getD_four {ks : List Int} (h : ks.length = 4) {p : Nat} (hp : p < 4) : ks.getD p 0 ∈ ks := by
  rw [List.getD_eq_getElem?_getD, List.getElem?_eq_getElem (by omega)]; exact List.getElem_mem (by omega)
theorem noneOf_iff {ks : List Int} (h : ks.length = 4) : noneOf ks = true ↔ ∀ p, p < 4 → ks.getD p 0 < 0 := by
  unfold noneOf
  rw [List.all_eq_true]
  constructor
  · intro h1 p hp; exact of_decide_eq_true (h1 _ (getD_four h hp))
  · intro h1 k hk
    obtain ⟨p, hp, rfl⟩ := four_mem h hk
    exact decide_eq_true (h1 p hp)

end Go.Proofs.Ytikjndmgljkhhaa

/- Chapter 4: a place of a tree is set anew: what becomes of its leaf. -/
namespace Go.Proofs.Ytikjndmgljkhhaa
open Go.RowKit

/-- what is asked of a forest ahead: block b (or none) is taken, and no leaf names it yet -/
structure Ask (f : Fo) (root at' b : Int) : Prop where
  inv : Inv f
  ex : ∀ m, 0 ≤ ext f m
  eb : ∀ j : Nat, extB f j = if (j : Int) = b then 1 else 0
  bb : b = -1 ∨ 0 ≤ b
  ro : root = -1 ∨ (0 ≤ root ∧ (nodeOf f root.toNat).1 ≠ 0 ∧ (nodeOf f root.toNat).2.1 = false)
  at0 : 0 ≤ at'
  at1 : at' ≤ 15
theorem leaf_cases {f : Fo} (hI : Inv f) {root at' : Int} (ro : root = -1 ∨ (0 ≤ root ∧ (nodeOf f root.toNat).1 ≠ 0 ∧ (nodeOf f root.toNat).2.1 = false)) (h0 : 0 ≤ at') (h1 : at' ≤ 15) : leafAt f root at' = -1 ∨ (0 ≤ leafAt f root at' ∧ (nodeOf f (leafAt f root at').toNat).1 ≠ 0 ∧ (nodeOf f (leafAt f root at').toNat).2.1 = true ∧ 0 ≤ root ∧ leafAt f root at' = (nodeOf f root.toNat).2.2.getD (at'.toNat / 4) 0 ∧ leafAt f root at' ∈ (nodeOf f root.toNat).2.2) := by
  rcases ro with rfl | ⟨r0, r1, r2⟩
  · left; rfl
  · have e : leafAt f root at' = (nodeOf f root.toNat).2.2.getD (at'.toNat / 4) 0 := if_neg (by omega)
    have hm := getD_four ((hI.nd root.toNat).kl r1) (p := at'.toNat / 4) (by omega)
    rw [← e] at hm
    rcases (hI.nd root.toNat).ks r1 _ hm with h | ⟨h2, h3⟩
    · exact Or.inl h
    · rw [r2, if_neg (by decide)] at h3
      exact Or.inr ⟨h2, by omega, h3.2.2, r0, e, hm⟩
def oldKids (f : Fo) (root at' : Int) : List Int := if 0 ≤ leafAt f root at' then (nodeOf f (leafAt f root at').toNat).2.2 else []
def nextKids (f : Fo) (root at' b : Int) : List Int := withKid (oldKids f root at') (at'.toNat % 4) b
theorem oldKids_len {f : Fo} (hI : Inv f) {root at' : Int} (ro : root = -1 ∨ (0 ≤ root ∧ (nodeOf f root.toNat).1 ≠ 0 ∧ (nodeOf f root.toNat).2.1 = false)) (h0 : 0 ≤ at') (h1 : at' ≤ 15) : (oldKids f root at').length = 4 ∨ oldKids f root at' = [] := by
  unfold oldKids
  rcases leaf_cases hI ro h0 h1 with h | ⟨h2, h3, _⟩
  · rw [if_neg (by omega)]; exact Or.inr rfl
  · rw [if_pos h2]; exact Or.inl ((hI.nd _).kl h3)
theorem oldKids_live {f : Fo} (hI : Inv f) {root at' : Int} (ro : root = -1 ∨ (0 ≤ root ∧ (nodeOf f root.toNat).1 ≠ 0 ∧ (nodeOf f root.toNat).2.1 = false)) (h0 : 0 ≤ at') (h1 : at' ≤ 15) {k : Int} (hk : k ∈ oldKids f root at') : k = -1 ∨ (0 ≤ k ∧ (blockOf f k.toNat).1 ≠ 0) := by
  unfold oldKids at hk
  rcases leaf_cases hI ro h0 h1 with h | ⟨h2, h3, h4, _⟩
  · rw [if_neg (by omega)] at hk; cases hk
  · rw [if_pos h2] at hk
    rcases (hI.nd _).ks h3 k hk with e | ⟨e1, e2⟩
    · exact Or.inl e
    · rw [h4, if_pos rfl] at e2; exact Or.inr ⟨e1, by omega⟩
theorem cnt_congr {ks ks' : List Int} {but : Nat} (h : ∀ p, p < 4 → p ≠ but → ks.getD p 0 = ks'.getD p 0) (x : Nat) : ∀ j, j ≤ 4 → cntTo ks but x j = cntTo ks' but x j := by
  intro j
  induction j with
  | zero => intro _; rfl
  | succ j ih =>
    intro hj
    rw [cntTo, cntTo, ih (by omega)]
    by_cases e : j = but
    · rw [if_neg (fun h => h.1 e), if_neg (fun h => h.1 e)]
    · rw [h j (by omega) e]
/-- what setLeaf leaves -/
structure LeafSet (f : Fo) (root at' b L : Int) (g : Fo) : Prop where
  inv : Inv g
  eb : ∀ j, extB g j = 0
  bk : ∀ j, (blockOf g j).1 ≠ 0 → (blockOf f j).1 ≠ 0 ∧ (blockOf g j).2 = (blockOf f j).2
  how : (L = -1 ∧ b = -1 ∧ g = f ∧ ∀ p, p < 4 → (nextKids f root at' b).getD p 0 < 0) ∨
    (0 ≤ L ∧ nodeOf g L.toNat = (1, true, nextKids f root at' b) ∧ (∀ m, m ≠ L.toNat → nodeOf g m = nodeOf f m) ∧
      ((L = leafAt f root at' ∧ (nodeOf f L.toNat).1 = 1 ∧ (nodeOf f L.toNat).2.1 = true ∧ 0 ≤ root ∧ (nodeOf f root.toNat).1 = 1 ∧ ∀ m, ext g m = ext f m) ∨
       (nodeOf f L.toNat = nd0 ∧ ∀ m : Nat, ext g m = ext f m + if (m : Int) = L then 1 else 0)))
theorem next_ok {f : Fo} {root at' b : Int} (h : Ask f root at' b) {g : Fo} (hg : g.2 = f.2) (hn : noneOf (nextKids f root at' b) = false) : NdOk g (1, true, nextKids f root at' b) := by
  have hl := with_len (oldKids_len h.inv h.ro h.at0 h.at1) (at'.toNat % 4) b
  refine ⟨by simp, by simp, fun e => by simp at e, fun _ => hl, fun _ k hk => ?_, fun _ => ?_⟩
  · have hB : ∀ k : Int, 0 ≤ k → (blockOf f k.toNat).1 ≠ 0 → OkKid g true k := fun k h0 h1 => Or.inr ⟨h0, by
      rw [if_pos rfl, hg, show blockOf g k.toNat = blockOf f k.toNat by unfold blockOf; rw [hg]]
      have := (blkOne_zero (h.inv.bk k.toNat)).1
      exact ⟨liveB_lt h1, by omega⟩⟩
    obtain ⟨p, hp, rfl⟩ := four_mem hl hk
    rw [nextKids, with_getD (oldKids_len h.inv h.ro h.at0 h.at1) (by omega) _ hp]
    by_cases e : p = at'.toNat % 4
    · rw [if_pos e]
      rcases h.bb with e1 | e1
      · exact Or.inl e1
      · refine hB b e1 ?_
        have := h.eb b.toNat
        rw [if_pos (by omega)] at this
        unfold extB at this; omega
    · rw [if_neg e]
      by_cases e2 : oldKids f root at' = []
      · rw [if_pos e2]; exact Or.inl rfl
      · rw [if_neg e2]
        have h4 : (oldKids f root at').length = 4 := (oldKids_len h.inv h.ro h.at0 h.at1).resolve_right e2
        rcases oldKids_live h.inv h.ro h.at0 h.at1 (getD_four h4 hp) with e3 | ⟨e3, e4⟩
        · exact Or.inl e3
        · exact hB _ e3 e4
  · refine Decidable.byContradiction fun hc => ?_
    have : noneOf (nextKids f root at' b) = true := (noneOf_iff hl).2 fun p hp => by
      refine Decidable.byContradiction fun hx => hc ⟨_, getD_four hl hp, by omega⟩
    rw [this] at hn; cases hn
/-- what the new kids name, against the old ones -/
theorem next_count {f : Fo} {root at' b : Int} (h : Ask f root at' b) (x : Nat) : ((nextKids f root at' b).count (x : Int) : Int) = (cntTo (nextKids f root at' b) (at'.toNat % 4) x 4 : Int) + if (x : Int) = b then 1 else 0 := by
  have hl := with_len (oldKids_len h.inv h.ro h.at0 h.at1) (at'.toNat % 4) b
  have := cnt_all (ks := nextKids f root at' b) hl (but := at'.toNat % 4) (by omega) x
  rw [show (nextKids f root at' b).getD (at'.toNat % 4) 0 = b by rw [nextKids, with_getD (oldKids_len h.inv h.ro h.at0 h.at1) (by omega) _ (by omega), if_pos rfl]] at this
  by_cases e : (x : Int) = b
  · rw [if_pos e]; rw [if_pos e.symm] at this; omega
  · rw [if_neg e]; rw [if_neg (Ne.symm e)] at this; omega
theorem setLeaf_ok {f : Fo} {root at' b : Int} (h : Ask f root at' b) (hc : (setLeaf f root at' b).2.1 = 0) : LeafSet f root at' b (setLeaf f root at' b).1 (setLeaf f root at' b).2.2 := by
  have hol := oldKids_len h.inv h.ro h.at0 h.at1
  have hl := with_len hol (at'.toNat % 4) b
  have hlc := leaf_cases h.inv h.ro h.at0 h.at1
  have hb0 : ∀ j, extB f j = 0 ∨ (extB f j = 1 ∧ (j : Int) = b) := fun j => by
    have := h.eb j
    by_cases e : (j : Int) = b
    · rw [if_pos e] at this; exact Or.inr ⟨this, e⟩
    · rw [if_neg e] at this; exact Or.inl this
  have hexp : setLeaf f root at' b = (if noneOf (nextKids f root at' b) then (-1, 0, f) else
      if 0 ≤ leafAt f root at' ∧ (nodeOf f (leafAt f root at').toNat).1 = 1 ∧ (nodeOf f root.toNat).1 = 1 then
        (leafAt f root at', 0, (f.1.set (leafAt f root at').toNat ((nodeOf f (leafAt f root at').toNat).1, (nodeOf f (leafAt f root at').toNat).2.1, nextKids f root at' b), if 0 ≤ (oldKids f root at').getD (at'.toNat % 4) 0 then lessB f.2 ((oldKids f root at').getD (at'.toNat % 4) 0).toNat else f.2))
      else match newNd f.1 (1, true, nextKids f root at' b) with
        | none => (-1, 2, f)
        | some (i, ns) => match moreKids (ns, f.2) true (nextKids f root at' b) (at'.toNat % 4) with
          | none => (-1, 2, f)
          | some f2 => ((i : Int), 0, f2) : Int × Int × Fo) := rfl
  rw [hexp] at hc ⊢
  cases hn : noneOf (nextKids f root at' b) with
  | true =>
    rw [if_pos rfl]
    have hall := (noneOf_iff hl).1 hn
    have hbn : b = -1 := by
      have := hall (at'.toNat % 4) (by omega)
      rw [show (withKid (oldKids f root at') (at'.toNat % 4) b).getD (at'.toNat % 4) 0 = b by rw [with_getD hol (by omega) _ (by omega), if_pos rfl]] at this
      rcases h.bb with e | e <;> omega
    refine ⟨h.inv, fun j => ?_, fun j hj => ⟨hj, rfl⟩, Or.inl ⟨rfl, hbn, rfl, hall⟩⟩
    rcases hb0 j with e | ⟨_, e⟩
    · exact e
    · omega
  | false =>
    rw [hn, if_neg (by decide)] at hc
    rw [if_neg (by decide)]
    by_cases hp : 0 ≤ leafAt f root at' ∧ (nodeOf f (leafAt f root at').toNat).1 = 1 ∧ (nodeOf f root.toNat).1 = 1
    · rw [if_pos hp]
      clear hc
      obtain ⟨_, h3, h4, h5, h6, h7⟩ := hlc.resolve_left (by omega)
      simp only
      have ho4 : (oldKids f root at').length = 4 := hol.resolve_right fun e => by
        have : oldKids f root at' = (nodeOf f (leafAt f root at').toNat).2.2 := if_pos hp.1
        have h8 := (h.inv.nd _).kl h3
        rw [← this, e] at h8; simp at h8
      have hok : oldKids f root at' = (nodeOf f (leafAt f root at').toNat).2.2 := if_pos hp.1
      obtain ⟨l, hle⟩ : ∃ l : Nat, leafAt f root at' = l := ⟨(leafAt f root at').toNat, by omega⟩
      rw [hle] at h3 h4 h7 hp hok ⊢
      rw [Int.toNat_natCast] at h3 h4 hp hok ⊢
      rw [hp.2.1, h4]
      have hli := live_lt h3
      have hI1 : Inv (f.1.set l (1, true, nextKids f root at' b), f.2) := h.inv.put hli (next_ok h rfl hn) (Or.inr ⟨by simp, rfl⟩)
      have hnf : ∀ k, namesOf (nodeOf f l) false k = 0 := fun k => by unfold namesOf; rw [if_pos (Or.inr (by rw [h4]; decide))]
      have hnt : ∀ k, namesOf (nodeOf f l) true k = (oldKids f root at').count k := fun k => by unfold namesOf; rw [if_neg (fun hc => hc.elim h3 (fun e => e h4)), hok]
      have hE1 : ∀ m, ext (f.1.set l (1, true, nextKids f root at' b), f.2) m = ext f m := fun m => by
        unfold ext
        rw [named_set f hli, hnf, show namesOf (1, true, nextKids f root at' b) false m = 0 from by simp [namesOf], nodeOf_set _ _ _ _ _ hli]
        by_cases e : m = l
        · rw [if_pos e, e, hp.2.1]; simp only; omega
        · rw [if_neg e]
          have : (List.getD f.1 m nd0).1 = (nodeOf f m).1 := rfl
          rw [this]; omega
      have hB1 : ∀ x : Nat, extB (f.1.set l (1, true, nextKids f root at' b), f.2) x = if (x : Int) = (oldKids f root at').getD (at'.toNat % 4) 0 then 1 else 0 := fun x => by
        have c1 := next_count h x
        have c2 := cnt_all (ks := oldKids f root at') ho4 (but := at'.toNat % 4) (by omega) x
        have c3 := cnt_congr (ks := nextKids f root at' b) (ks' := oldKids f root at') (but := at'.toNat % 4) (fun p hp hne => by
          rw [nextKids, with_getD hol (by omega) _ hp, if_neg hne, if_neg (fun e => by rw [e] at ho4; simp at ho4)]) x 4 (Nat.le_refl _)
        have c4 := h.eb x
        have e1 : extB (f.1.set l (1, true, nextKids f root at' b), f.2) x = extB f x + ((oldKids f root at').count (x : Int) : Int) - ((nextKids f root at' b).count (x : Int) : Int) := by
          unfold extB
          rw [named_set f hli, hnt, show namesOf (1, true, nextKids f root at' b) true (x : Int) = (nextKids f root at' b).count (x : Int) from by simp [namesOf]]
          have : (blockOf (f.1.set l (1, true, nextKids f root at' b), f.2) x).1 = (blockOf f x).1 := rfl
          rw [this]; omega
        rw [e1, c4, c1, c3]
        by_cases ea : (oldKids f root at').getD (at'.toNat % 4) 0 = (x : Int)
        · rw [if_pos ea] at c2; rw [if_pos ea.symm]; omega
        · rw [if_neg ea] at c2; rw [if_neg (Ne.symm ea)]; omega
      have hnode : ∀ bs m, m ≠ l → nodeOf (f.1.set l (1, true, nextKids f root at' b), bs) m = nodeOf f m := fun bs m hm => by rw [nodeOf_set _ _ _ _ _ hli, if_neg hm]; rfl
      by_cases hold : 0 ≤ (oldKids f root at').getD (at'.toNat % 4) 0
      · rw [if_pos hold]
        obtain ⟨o, hoe⟩ : ∃ o : Nat, (oldKids f root at').getD (at'.toNat % 4) 0 = o := ⟨((oldKids f root at').getD (at'.toNat % 4) 0).toNat, by omega⟩
        rw [hoe, Int.toNat_natCast]
        obtain ⟨a, b', c⟩ := lessB_ok hI1 (j := o) (by rw [hB1, hoe, if_pos rfl]; decide)
        refine ⟨a.inv, fun j => ?_, fun j hj => ?_, Or.inr ⟨by omega, ?_, fun m hm => ?_, Or.inl ⟨hle.symm, ?_, ?_, h5, hp.2.2, fun m => ?_⟩⟩⟩
        · rw [c, hB1, hoe]
          by_cases e : j = o
          · rw [if_pos e, if_pos (by omega)]; rfl
          · rw [if_neg e, if_neg (by omega)]
        · have := a.bk j hj
          exact this
        · rw [Int.toNat_natCast, nodeOf_set _ _ _ _ _ hli, if_pos rfl]
        · rw [Int.toNat_natCast] at hm; exact hnode _ m hm
        · rw [Int.toNat_natCast]; exact hp.2.1
        · rw [Int.toNat_natCast]; exact h4
        · rw [b', hE1]
      · rw [if_neg hold]
        refine ⟨hI1, fun j => ?_, fun j hj => ⟨hj, rfl⟩, Or.inr ⟨by omega, ?_, fun m hm => ?_, Or.inl ⟨hle.symm, ?_, ?_, h5, hp.2.2, hE1⟩⟩⟩
        · rw [hB1, if_neg (by omega)]
        · rw [Int.toNat_natCast, nodeOf_set _ _ _ _ _ hli, if_pos rfl]
        · rw [Int.toNat_natCast] at hm; exact hnode _ m hm
        · rw [Int.toNat_natCast]; exact hp.2.1
        · rw [Int.toNat_natCast]; exact h4
    · rw [if_neg hp] at hc ⊢
      cases hw : newNd f.1 (1, true, nextKids f root at' b) with
      | none => rw [hw] at hc; simp at hc
      | some q =>
        obtain ⟨i, ns⟩ := q
        rw [hw] at hc
        simp only at hc ⊢
        cases hm : moreKids (ns, f.2) true (nextKids f root at' b) (at'.toNat % 4) with
        | none => rw [hm] at hc; simp at hc
        | some f2 =>
          simp only
          clear hc
          have hN := new_at h.inv hw
          have hI1 := hN.inv (next_ok h rfl hn)
          have hE1 : ∀ m : Nat, ext (ns, f.2) m = ext f m + if (m : Int) = (i : Int) then 1 else 0 := fun m => by
            unfold ext
            rw [hN.nm, show namesOf (1, true, nextKids f root at' b) false m = 0 from by simp [namesOf], hN.node]
            by_cases e : m = i
            · rw [if_pos e, if_pos (by omega), e, hN.was]; simp [nd0]; omega
            · rw [if_neg e, if_neg (by omega)]; omega
          have hB1 : ∀ x : Nat, extB (ns, f.2) x = -(cntTo (nextKids f root at' b) (at'.toNat % 4) x 4 : Int) := fun x => by
            have c1 := next_count h x
            have c4 := h.eb x
            unfold extB at c4 ⊢
            rw [hN.nm, show namesOf (1, true, nextKids f root at' b) true (x : Int) = (nextKids f root at' b).count (x : Int) from by simp [namesOf]]
            have : (blockOf (ns, f.2) x).1 = (blockOf f x).1 := rfl
            rw [this]
            by_cases e : (x : Int) = b
            · rw [if_pos e] at c1 c4; omega
            · rw [if_neg e] at c1 c4; omega
          obtain ⟨a1, a2, a3, a4, _⟩ := moreTo_leaf hI1 (ks := nextKids f root at' b) (but := at'.toNat % 4) (fun p hp hne => by
            rw [nextKids, with_getD hol (by omega) _ hp, if_neg hne]
            by_cases e2 : oldKids f root at' = []
            · rw [if_pos e2]; left; decide
            · rw [if_neg e2]
              rcases oldKids_live h.inv h.ro h.at0 h.at1 (getD_four (hol.resolve_right e2) hp) with e3 | ⟨_, e4⟩
              · left; omega
              · exact Or.inr e4) 4 (Nat.le_refl _) hm
          simp only at a1
          have hnode : ∀ m, nodeOf f2 m = if m = i then (1, true, nextKids f root at' b) else nodeOf f m := fun m => by
            rw [← hN.node f2.2 m, ← a1]
          refine ⟨a2.inv, fun j => ?_, fun j hj => a2.bk j hj, Or.inr ⟨by omega, ?_, fun m hm => ?_, Or.inr ⟨?_, fun m => ?_⟩⟩⟩
          · rw [a4, hB1]; omega
          · rw [Int.toNat_natCast, hnode, if_pos rfl]
          · rw [Int.toNat_natCast] at hm; rw [hnode, if_neg hm]
          · rw [Int.toNat_natCast]; exact hN.was
          · rw [a3, hE1]

end Go.Proofs.Ytikjndmgljkhhaa

/- Chapter 4: a place of a tree is set anew: what becomes of its root. -/
namespace Go.Proofs.Ytikjndmgljkhhaa
open Go.RowKit

def rootKids (f : Fo) (root : Int) : List Int := if 0 ≤ root then (nodeOf f root.toNat).2.2 else []
def nextLeaves (f : Fo) (root at' L : Int) : List Int := withKid (rootKids f root) (at'.toNat / 4) L
/-- what is asked of a forest ahead of setRoot -/
structure AskR (g : Fo) (root at' L : Int) : Prop where
  inv : Inv g
  ex : ∀ m, 0 ≤ ext g m
  eb : ∀ j, extB g j = 0
  ll : L = -1 ∨ (0 ≤ L ∧ (nodeOf g L.toNat).1 ≠ 0 ∧ (nodeOf g L.toNat).2.1 = true)
  le : 0 ≤ L → 1 ≤ ext g L.toNat ∨ (0 ≤ root ∧ (nodeOf g root.toNat).1 = 1 ∧ L = (rootKids g root).getD (at'.toNat / 4) 0)
  ro : root = -1 ∨ (0 ≤ root ∧ (nodeOf g root.toNat).1 ≠ 0 ∧ (nodeOf g root.toNat).2.1 = false)
  at0 : 0 ≤ at'
  at1 : at' ≤ 15
theorem rootKids_len {g : Fo} (hI : Inv g) {root : Int} (ro : root = -1 ∨ (0 ≤ root ∧ (nodeOf g root.toNat).1 ≠ 0 ∧ (nodeOf g root.toNat).2.1 = false)) : (rootKids g root).length = 4 ∨ rootKids g root = [] := by
  unfold rootKids
  rcases ro with rfl | ⟨h0, h1, _⟩
  · exact Or.inr rfl
  · rw [if_pos h0]; exact Or.inl ((hI.nd _).kl h1)
theorem rootKids_live {g : Fo} (hI : Inv g) {root : Int} (ro : root = -1 ∨ (0 ≤ root ∧ (nodeOf g root.toNat).1 ≠ 0 ∧ (nodeOf g root.toNat).2.1 = false)) {k : Int} (hk : k ∈ rootKids g root) : k = -1 ∨ (0 ≤ k ∧ (nodeOf g k.toNat).1 ≠ 0 ∧ (nodeOf g k.toNat).2.1 = true) := by
  unfold rootKids at hk
  rcases ro with rfl | ⟨h0, h1, h2⟩
  · cases hk
  · rw [if_pos h0] at hk
    rcases (hI.nd _).ks h1 k hk with e | ⟨e1, e2⟩
    · exact Or.inl e
    · rw [h2, if_neg (by decide)] at e2; exact Or.inr ⟨e1, by omega, e2.2.2⟩
theorem nextLeaves_live {g : Fo} {root at' L : Int} (h : AskR g root at' L) {p : Nat} (hp : p < 4) : (nextLeaves g root at' L).getD p 0 = -1 ∨ (0 ≤ (nextLeaves g root at' L).getD p 0 ∧ (nodeOf g ((nextLeaves g root at' L).getD p 0).toNat).1 ≠ 0 ∧ (nodeOf g ((nextLeaves g root at' L).getD p 0).toNat).2.1 = true) := by
  have h0 := h.at0; have h1 := h.at1
  rw [nextLeaves, with_getD (rootKids_len h.inv h.ro) (by omega) _ hp]
  by_cases e : p = at'.toNat / 4
  · rw [if_pos e]; exact h.ll
  · rw [if_neg e]
    by_cases e2 : rootKids g root = []
    · rw [if_pos e2]; exact Or.inl rfl
    · rw [if_neg e2]; exact rootKids_live h.inv h.ro (getD_four ((rootKids_len h.inv h.ro).resolve_right e2) hp)
theorem leaves_ok {g : Fo} {root at' L : Int} (h : AskR g root at' L) {f : Fo} (hf : ∀ m, (nodeOf g m).1 ≠ 0 → (nodeOf g m).2.1 = true → nodeOf f m = nodeOf g m) (hn : noneOf (nextLeaves g root at' L) = false) : NdOk f (1, false, nextLeaves g root at' L) := by
  have h0 := h.at0; have h1 := h.at1
  have hl := with_len (rootKids_len h.inv h.ro) (at'.toNat / 4) L
  refine ⟨by simp, by simp, fun e => by simp at e, fun _ => hl, fun _ k hk => ?_, fun _ => ?_⟩
  · obtain ⟨p, hp, rfl⟩ := four_mem hl hk
    rcases nextLeaves_live h hp with e | ⟨e1, e2, e3⟩
    · exact Or.inl e
    · have hr := (h.inv.nd ((nextLeaves g root at' L).getD p 0).toNat).r0
      have e4 := hf _ e2 e3
      refine Or.inr ⟨e1, ?_⟩
      rw [if_neg (by simp)]
      rw [show (withKid (rootKids g root) (at'.toNat / 4) L) = nextLeaves g root at' L from rfl, e4]
      exact ⟨live_lt (by rw [e4]; exact e2), by omega, e3⟩
  · refine Decidable.byContradiction fun hc => ?_
    have : noneOf (nextLeaves g root at' L) = true := (noneOf_iff hl).2 fun p hp => by
      refine Decidable.byContradiction fun hx => hc ⟨_, getD_four hl hp, by omega⟩
    rw [this] at hn; cases hn
theorem leaves_count {g : Fo} {root at' L : Int} (h : AskR g root at' L) (x : Nat) : ((nextLeaves g root at' L).count (x : Int) : Int) = (cntTo (nextLeaves g root at' L) (at'.toNat / 4) x 4 : Int) + if (x : Int) = L then 1 else 0 := by
  have h0 := h.at0; have h1 := h.at1
  have hl := with_len (rootKids_len h.inv h.ro) (at'.toNat / 4) L
  have := cnt_all (ks := nextLeaves g root at' L) hl (but := at'.toNat / 4) (by omega) x
  rw [show (nextLeaves g root at' L).getD (at'.toNat / 4) 0 = L by rw [nextLeaves, with_getD (rootKids_len h.inv h.ro) (by omega) _ (by omega), if_pos rfl]] at this
  by_cases e : (x : Int) = L
  · rw [if_pos e]; rw [if_pos e.symm] at this; omega
  · rw [if_neg e]; rw [if_neg (Ne.symm e)] at this; omega
abbrev stays (g : Fo) (root at' L : Int) : Prop := 0 ≤ root ∧ (nodeOf g root.toNat).1 = 1 ∧ L = (rootKids g root).getD (at'.toNat / 4) 0
/-- what setRoot leaves -/
structure RootSet (g : Fo) (root at' L R : Int) (h : Fo) : Prop where
  inv : Inv h
  eb : ∀ j, extB h j = 0
  ex : ∀ m : Nat, ext h m = ext g m - (if (m : Int) = root then 1 else 0) + (if (m : Int) = R then 1 else 0) - (if (m : Int) = L ∧ ¬ stays g root at' L then 1 else 0)
  bk : ∀ j, (blockOf h j).1 ≠ 0 → (blockOf g j).1 ≠ 0 ∧ (blockOf h j).2 = (blockOf g j).2
  nd : ∀ m : Nat, (nodeOf h m).1 ≠ 0 → (m : Int) ≠ R → (nodeOf g m).1 ≠ 0 ∧ (nodeOf h m).2 = (nodeOf g m).2
  rt : (R = -1 ∧ noneOf (nextLeaves g root at' L) = true) ∨ (0 ≤ R ∧ (nodeOf h R.toNat).1 ≠ 0 ∧ (nodeOf h R.toNat).2 = (false, nextLeaves g root at' L) ∧ ((R = root ∧ (nodeOf g root.toNat).1 = 1) ∨ (nodeOf g R.toNat = nd0 ∧ ¬ (0 ≤ root ∧ (nodeOf g root.toNat).1 = 1))))
theorem setRoot_ok {g : Fo} {root at' L : Int} (h : AskR g root at' L) (hc : (setRoot g root at' L).2.1 = 0) : RootSet g root at' L (setRoot g root at' L).1 (setRoot g root at' L).2.2 := by
  have h0 := h.at0; have h1 := h.at1
  have hol := rootKids_len h.inv h.ro
  have hl := with_len hol (at'.toNat / 4) L
  have hE0 : ∀ j, 0 ≤ extB g j := fun j => by rw [h.eb]; decide
  have hexp : setRoot g root at' L = (if noneOf (nextLeaves g root at' L) then (-1, 0, if 0 ≤ root then lessRoot g root.toNat else g) else
      if 0 ≤ root ∧ (nodeOf g root.toNat).1 = 1 then
        (root, 0, if 0 ≤ (rootKids g root).getD (at'.toNat / 4) 0 ∧ (rootKids g root).getD (at'.toNat / 4) 0 ≠ L then lessLeaf (g.1.set root.toNat ((nodeOf g root.toNat).1, (nodeOf g root.toNat).2.1, nextLeaves g root at' L), g.2) ((rootKids g root).getD (at'.toNat / 4) 0).toNat else (g.1.set root.toNat ((nodeOf g root.toNat).1, (nodeOf g root.toNat).2.1, nextLeaves g root at' L), g.2))
      else match newNd g.1 (1, false, nextLeaves g root at' L) with
        | none => (-1, 2, g)
        | some (i, ns) => match moreKids (ns, g.2) false (nextLeaves g root at' L) (at'.toNat / 4) with
          | none => (-1, 2, g)
          | some f2 => ((i : Int), 0, if 0 ≤ root then lessRoot f2 root.toNat else f2) : Int × Int × Fo) := rfl
  rw [hexp] at hc ⊢
  cases hn : noneOf (nextLeaves g root at' L) with
  | true =>
    rw [if_pos rfl]
    simp only
    clear hc
    have hLn : L = -1 := by
      have := (noneOf_iff hl).1 hn (at'.toNat / 4) (by omega)
      rw [show (withKid (rootKids g root) (at'.toNat / 4) L).getD (at'.toNat / 4) 0 = L by rw [with_getD hol (by omega) _ (by omega), if_pos rfl]] at this
      rcases h.ll with e | e <;> omega
    rcases h.ro with hr | ⟨r0, r1, r2⟩
    · rw [if_neg (by omega)]
      refine ⟨h.inv, h.eb, fun m => ?_, fun j hj => ⟨hj, rfl⟩, fun m hm _ => ⟨hm, rfl⟩, Or.inl ⟨rfl, hn⟩⟩
      rw [if_neg (by omega), if_neg (by omega), if_neg (by omega)]; omega
    · rw [if_pos r0]
      obtain ⟨r, rfl⟩ : ∃ r : Nat, root = r := ⟨root.toNat, by omega⟩
      rw [Int.toNat_natCast] at r1 r2 ⊢
      obtain ⟨a, b, c⟩ := lessRoot_ok h.inv hE0 h.ex r1 r2
      refine ⟨a.inv, fun j => by rw [c, h.eb], fun m => ?_, a.bk, fun m hm _ => a.nd m hm, Or.inl ⟨rfl, hn⟩⟩
      rw [b]
      by_cases e : m = r
      · rw [if_pos e, if_pos (by omega), if_neg (by omega), if_neg (by omega)]; omega
      · rw [if_neg e, if_neg (by omega), if_neg (by omega), if_neg (by omega)]; omega
  | false =>
    rw [hn, if_neg (by decide)] at hc
    rw [if_neg (by decide)]
    by_cases hp : 0 ≤ root ∧ (nodeOf g root.toNat).1 = 1
    · rw [if_pos hp]
      simp only
      clear hc
      obtain ⟨_, r1, r2⟩ := h.ro.resolve_left (by omega)
      have ho4 : (rootKids g root).length = 4 := by
        have : rootKids g root = (nodeOf g root.toNat).2.2 := if_pos hp.1
        rw [this]; exact (h.inv.nd _).kl r1
      have hok : rootKids g root = (nodeOf g root.toNat).2.2 := if_pos hp.1
      obtain ⟨r, rfl⟩ : ∃ r : Nat, root = r := ⟨root.toNat, by omega⟩
      rw [Int.toNat_natCast] at r1 r2 hp hok ⊢
      rw [hp.2, r2]
      have hri := live_lt r1
      have hno := h.inv.own r2
      have hnode : ∀ m, m ≠ r → nodeOf (g.1.set r (1, false, nextLeaves g r at' L), g.2) m = nodeOf g m := fun m hm => by rw [nodeOf_set _ _ _ _ _ hri, if_neg hm]; rfl
      have hnr : nodeOf (g.1.set r (1, false, nextLeaves g r at' L), g.2) r = (1, false, nextLeaves g r at' L) := by rw [nodeOf_set _ _ _ _ _ hri, if_pos rfl]
      have hI1 : Inv (g.1.set r (1, false, nextLeaves g r at' L), g.2) := h.inv.put hri (leaves_ok h (fun m _ hm2 => hnode m fun e => by rw [e, r2] at hm2; cases hm2) hn) (Or.inl hno)
      have hnt : ∀ k, namesOf (nodeOf g r) true k = 0 := fun k => by unfold namesOf; rw [if_pos (Or.inr (by rw [r2]; decide))]
      have hnf : ∀ k, namesOf (nodeOf g r) false k = (rootKids g r).count k := fun k => by unfold namesOf; rw [if_neg (fun hc => hc.elim r1 (fun e => e r2)), hok]
      have hB1 : ∀ j, extB (g.1.set r (1, false, nextLeaves g r at' L), g.2) j = 0 := fun j => by
        have := h.eb j
        unfold extB at this ⊢
        rw [named_set g hri, hnt, show namesOf (1, false, nextLeaves g r at' L) true j = 0 from by simp [namesOf]]
        have e : (blockOf (g.1.set r (1, false, nextLeaves g r at' L), g.2) j).1 = (blockOf g j).1 := rfl
        rw [e]; omega
      have hE1 : ∀ x : Nat, ext (g.1.set r (1, false, nextLeaves g r at' L), g.2) x = ext g x + (if (x : Int) = (rootKids g r).getD (at'.toNat / 4) 0 then 1 else 0) - (if (x : Int) = L then 1 else 0) := fun x => by
        have c1 := leaves_count h x
        have c2 := cnt_all (ks := rootKids g r) ho4 (but := at'.toNat / 4) (by omega) x
        have c3 := cnt_congr (ks := nextLeaves g r at' L) (ks' := rootKids g r) (but := at'.toNat / 4) (fun p hp hne => by
          rw [nextLeaves, with_getD hol (by omega) _ hp, if_neg hne, if_neg (fun e => by rw [e] at ho4; simp at ho4)]) x 4 (Nat.le_refl _)
        have e1 : ext (g.1.set r (1, false, nextLeaves g r at' L), g.2) x = ext g x + ((rootKids g r).count (x : Int) : Int) - ((nextLeaves g r at' L).count (x : Int) : Int) := by
          unfold ext
          rw [named_set g hri, hnf, show namesOf (1, false, nextLeaves g r at' L) false (x : Int) = (nextLeaves g r at' L).count (x : Int) from by simp [namesOf]]
          by_cases e : x = r
          · rw [e, hnr, hp.2]; simp only; omega
          · rw [hnode x e]; omega
        rw [e1, c1, c3]
        by_cases ea : (rootKids g r).getD (at'.toNat / 4) 0 = (x : Int)
        · rw [if_pos ea] at c2; rw [if_pos ea.symm]; omega
        · rw [if_neg ea] at c2; rw [if_neg (Ne.symm ea)]; omega
      obtain ⟨o, hoe⟩ : ∃ o, (rootKids g r).getD (at'.toNat / 4) 0 = o := ⟨_, rfl⟩
      have hol' : o = -1 ∨ (0 ≤ o ∧ (nodeOf g o.toNat).1 ≠ 0 ∧ (nodeOf g o.toNat).2.1 = true) := by rw [← hoe]; exact rootKids_live h.inv h.ro (getD_four ho4 (by omega))
      have hst : stays g r at' L ↔ L = o := by unfold stays; rw [Int.toNat_natCast, hoe]; exact ⟨fun hx => hx.2.2, fun hx => ⟨by omega, hp.2, hx⟩⟩
      rw [hoe] at hE1 ⊢
      by_cases hx : 0 ≤ o ∧ o ≠ L
      · rw [if_pos hx]
        obtain ⟨_, o1, o2⟩ := hol'.resolve_left (by omega)
        obtain ⟨q, rfl⟩ : ∃ q : Nat, o = q := ⟨o.toNat, by omega⟩
        rw [Int.toNat_natCast] at o1 o2 ⊢
        have hqr : q ≠ r := fun e => by rw [e, r2] at o2; cases o2
        obtain ⟨a, b, c⟩ := lessLeaf_ok hI1 (fun j => by rw [hB1]; decide) (i := q) (by rw [hnode q hqr]; exact o2) (by rw [hE1, if_pos rfl, if_neg hx.2]; have := h.ex q; omega)
        have hlr : (nodeOf (lessLeaf (g.1.set r (1, false, nextLeaves g r at' L), g.2) q) r).1 ≠ 0 := by
          have e1 : 1 ≤ ext (lessLeaf (g.1.set r (1, false, nextLeaves g r at' L), g.2) q) r := by
            rw [b, if_neg (Ne.symm hqr)]
            unfold ext
            rw [hnr]
            have : named (g.1.set r (1, false, nextLeaves g r at' L), g.2) false r = 0 := hI1.own (by rw [hnr])
            rw [this]; simp
          unfold ext at e1; omega
        refine ⟨a.inv, fun j => by rw [c, hB1], fun m => ?_, fun j hj => a.bk j hj, fun m hm hmr => ?_, Or.inr ⟨by omega, ?_, ?_, Or.inl ⟨rfl, by rw [Int.toNat_natCast]; exact hp.2⟩⟩⟩
        · rw [Int.sub_add_cancel, b]
          by_cases e2 : (m : Int) = L
          · rw [if_pos (show (m : Int) = L ∧ ¬ stays g r at' L from ⟨e2, fun hh => hx.2 (hst.1 hh).symm⟩), if_neg (show ¬ m = q by omega), hE1, if_neg (show ¬ (m : Int) = (q : Int) by omega), if_pos e2]; omega
          · rw [if_neg (show ¬ ((m : Int) = L ∧ ¬ stays g r at' L) from fun hh => e2 hh.1)]
            by_cases e : m = q
            · rw [if_pos e, hE1, if_pos (show (m : Int) = (q : Int) by omega), if_neg e2]; omega
            · rw [if_neg e, hE1, if_neg (show ¬ (m : Int) = (q : Int) by omega), if_neg e2]; omega
        · have := a.nd m hm
          rw [hnode m (by omega)] at this; exact this
        · rw [Int.toNat_natCast]; exact hlr
        · rw [Int.toNat_natCast, (a.nd r hlr).2, hnr]
      · rw [if_neg hx]
        refine ⟨hI1, hB1, fun m => ?_, fun j hj => ⟨hj, rfl⟩, fun m hm hmr => ?_, Or.inr ⟨by omega, by rw [Int.toNat_natCast, hnr]; simp, by rw [Int.toNat_natCast, hnr], Or.inl ⟨rfl, by rw [Int.toNat_natCast]; exact hp.2⟩⟩⟩
        · rw [Int.sub_add_cancel, hE1]
          by_cases e1 : L = o
          · rw [if_neg (show ¬ ((m : Int) = L ∧ ¬ stays g r at' L) from fun hh => hh.2 (hst.2 e1)), e1]; omega
          · rw [if_neg (show ¬ (m : Int) = o by omega)]
            by_cases e2 : (m : Int) = L
            · rw [if_pos e2, if_pos (show (m : Int) = L ∧ ¬ stays g r at' L from ⟨e2, fun hh => e1 (hst.1 hh)⟩)]; omega
            · rw [if_neg e2, if_neg (show ¬ ((m : Int) = L ∧ ¬ stays g r at' L) from fun hh => e2 hh.1)]; omega
        · rw [hnode m (by omega)] at hm ⊢; exact ⟨hm, rfl⟩
    · rw [if_neg hp] at hc ⊢
      have hst : ¬ stays g root at' L := fun hh => hp ⟨hh.1, hh.2.1⟩
      cases hw : newNd g.1 (1, false, nextLeaves g root at' L) with
      | none => rw [hw] at hc; simp at hc
      | some q =>
        obtain ⟨i, ns⟩ := q
        rw [hw] at hc
        simp only at hc ⊢
        cases hm : moreKids (ns, g.2) false (nextLeaves g root at' L) (at'.toNat / 4) with
        | none => rw [hm] at hc; simp at hc
        | some f2 =>
          simp only
          clear hc
          have hN := new_at h.inv hw
          have hI1 := hN.inv (leaves_ok h (fun m hm1 _ => by rw [hN.node, if_neg (fun e => by rw [e, hN.was] at hm1; exact hm1 rfl)]) hn)
          have hE1 : ∀ x : Nat, ext (ns, g.2) x = ext g x + (if x = i then 1 else 0) - ((nextLeaves g root at' L).count (x : Int) : Int) := fun x => by
            unfold ext
            rw [hN.nm, show namesOf (1, false, nextLeaves g root at' L) false (x : Int) = (nextLeaves g root at' L).count (x : Int) from by simp [namesOf], hN.node]
            by_cases e : x = i
            · rw [if_pos e, if_pos e, e, hN.was]; simp [nd0]; omega
            · rw [if_neg e, if_neg e]; omega
          have hB1 : ∀ j, extB (ns, g.2) j = 0 := fun j => by
            have := h.eb j
            unfold extB at this ⊢
            rw [hN.nm, show namesOf (1, false, nextLeaves g root at' L) true j = 0 from by simp [namesOf]]
            have e : (blockOf (ns, g.2) j).1 = (blockOf g j).1 := rfl
            rw [e]; omega
          obtain ⟨a1, a2, a3, a4⟩ := moreTo_root hI1 (ks := nextLeaves g root at' L) (but := at'.toNat / 4) (fun p hp hne => by
            rcases nextLeaves_live h hp with e | ⟨_, e2, _⟩
            · left; omega
            · right; rw [hN.node, if_neg (fun e => by rw [e, hN.was] at e2; exact e2 rfl)]; exact e2) 4 (Nat.le_refl _) hm
          have hE2 : ∀ x : Nat, ext f2 x = ext g x + (if x = i then 1 else 0) - (if (x : Int) = L then 1 else 0) := fun x => by
            rw [a2, hE1, leaves_count h x]; omega
          have hB2 : ∀ j, extB f2 j = 0 := fun j => by rw [a3, hB1]
          have hli : (nodeOf f2 i).1 ≠ 0 := a4 i (by rw [hN.node, if_pos rfl]; simp)
          have hni : (nodeOf f2 i).2 = (false, nextLeaves g root at' L) := by rw [(a1.nd i hli).2, hN.node, if_pos rfl]
          have hother : ∀ m, (nodeOf f2 m).1 ≠ 0 → m ≠ i → (nodeOf g m).1 ≠ 0 ∧ (nodeOf f2 m).2 = (nodeOf g m).2 := fun m hm hmi => by
            have := a1.nd m hm
            rw [hN.node, if_neg hmi] at this; exact this
          have hLi : L ≠ (i : Int) := fun e => by
            rcases h.ll with e1 | ⟨_, e2, _⟩
            · omega
            · rw [e, Int.toNat_natCast, hN.was] at e2; exact e2 rfl
          rcases h.ro with hr | ⟨r0, r1, r2⟩
          · rw [if_neg (by omega)]
            refine ⟨a1.inv, hB2, fun m => ?_, a1.bk, fun m hm hmi => hother m hm (by omega), Or.inr ⟨by omega, by rw [Int.toNat_natCast]; exact hli, by rw [Int.toNat_natCast]; exact hni, Or.inr ⟨by rw [Int.toNat_natCast]; exact hN.was, hp⟩⟩⟩
            rw [hE2, if_neg (show ¬ (m : Int) = root by omega)]
            by_cases e : m = i
            · rw [if_pos e, if_neg (show ¬ (m : Int) = L by omega), if_pos (show (m : Int) = (i : Int) by omega), if_neg (show ¬ ((m : Int) = L ∧ ¬ stays g root at' L) from fun hh => absurd hh.1 (by omega))]; omega
            · rw [if_neg e, if_neg (show ¬ (m : Int) = (i : Int) by omega)]
              by_cases e2 : (m : Int) = L
              · rw [if_pos e2, if_pos ⟨e2, hst⟩]; omega
              · rw [if_neg e2, if_neg (fun hh => e2 hh.1)]; omega
          · rw [if_pos r0]
            obtain ⟨r, rfl⟩ : ∃ r : Nat, root = r := ⟨root.toNat, by omega⟩
            have hp' := hp
            rw [Int.toNat_natCast] at r1 r2 ⊢
            have hri : r ≠ i := fun e => by rw [e, hN.was] at r1; exact r1 rfl
            have hlr : (nodeOf f2 r).1 ≠ 0 := a4 r (by rw [hN.node, if_neg hri]; exact r1)
            have hlf : (nodeOf f2 r).2.1 = false := by rw [(hother r hlr hri).2]; exact r2
            have hLe : 0 ≤ L → 1 ≤ ext g L.toNat := fun hh => (h.le hh).resolve_right fun e => hst e
            have hE3 : ∀ m, 0 ≤ ext f2 m := fun m => by
              rw [hE2]
              have := h.ex m
              by_cases e2 : (m : Int) = L
              · have := hLe (by omega)
                rw [show L.toNat = m by omega] at this
                rw [if_pos e2, if_neg (show ¬ m = i by omega)]; omega
              · rw [if_neg e2]
                by_cases e3 : m = i
                · rw [if_pos e3]; omega
                · rw [if_neg e3]; omega
            obtain ⟨b1, b2, b3⟩ := lessRoot_ok a1.inv (fun j => by rw [hB2]; decide) hE3 hlr hlf
            have hli' : (nodeOf (lessRoot f2 r) i).1 ≠ 0 := by
              have e1 : 1 ≤ ext (lessRoot f2 r) i := by
                rw [b2, if_neg (Ne.symm hri)]
                unfold ext
                have : named f2 false i = 0 := a1.inv.own (by rw [hni])
                rw [this]
                have := (a1.inv.nd i).r0
                omega
              unfold ext at e1; omega
            refine ⟨b1.inv, fun j => by rw [b3, hB2], fun m => ?_, fun j hj => ?_, fun m hm hmi => ?_, Or.inr ⟨by omega, by rw [Int.toNat_natCast]; exact hli', ?_, Or.inr ⟨by rw [Int.toNat_natCast]; exact hN.was, hp⟩⟩⟩
            · rw [b2, hE2]
              by_cases e : m = i
              · rw [if_pos e, if_neg (show ¬ m = r by omega), if_neg (show ¬ (m : Int) = (r : Int) by omega), if_pos (show (m : Int) = (i : Int) by omega), if_neg (show ¬ (m : Int) = L by omega), if_neg (fun hh => absurd hh.1 (by omega))]; omega
              · rw [if_neg e, if_neg (show ¬ (m : Int) = (i : Int) by omega)]
                by_cases e4 : m = r
                · rw [if_pos e4, if_pos (show (m : Int) = (r : Int) by omega)]
                  by_cases e2 : (m : Int) = L
                  · rw [if_pos e2, if_pos ⟨e2, hst⟩]; omega
                  · rw [if_neg e2, if_neg (fun hh => e2 hh.1)]; omega
                · rw [if_neg e4, if_neg (show ¬ (m : Int) = (r : Int) by omega)]
                  by_cases e2 : (m : Int) = L
                  · rw [if_pos e2, if_pos ⟨e2, hst⟩]; omega
                  · rw [if_neg e2, if_neg (fun hh => e2 hh.1)]; omega
            · have x1 := b1.bk j hj
              have x2 := a1.bk j x1.1
              exact ⟨x2.1, x1.2.trans x2.2⟩
            · have x1 := b1.nd m hm
              have x2 := hother m x1.1 (by omega)
              exact ⟨x2.1, x1.2.trans x2.2⟩
            · rw [Int.toNat_natCast, (b1.nd i hli').2]; exact hni

end Go.Proofs.Ytikjndmgljkhhaa

/- Chapter 4: a place of a tree is set anew: the tree has what it had and the new one, and all other trees are as they were. -/
namespace Go.Proofs.Ytikjndmgljkhhaa
open Go.RowKit

theorem namedIn_two : ∀ (ns : List Nd) (i j : Nat) (l : Bool) (k : Int), i < j → j < ns.length → namesOf (ns.getD i nd0) l k + namesOf (ns.getD j nd0) l k ≤ namedIn ns l k := by
  intro ns
  induction ns with
  | nil => intro i j l k _ h; simp at h
  | cons p r ih =>
    intro i j l k hij hj
    cases j with
    | zero => omega
    | succ j =>
      cases i with
      | zero =>
        have hm : r.getD j nd0 ∈ r := by
          rw [List.getD_eq_getElem?_getD, List.getElem?_eq_getElem (by simpa using hj)]; exact List.getElem_mem _
        have := namedIn_mem (l := l) (k := k) hm
        simp only [List.getD_cons_zero, List.getD_cons_succ, namedIn, List.map_cons, List.sum_cons] at this ⊢
        omega
      | succ i =>
        have := ih i j l k (by omega) (by simpa using hj)
        simp only [List.getD_cons_succ, namedIn, List.map_cons, List.sum_cons] at this ⊢
        omega
theorem named_two {f : Fo} {i j : Nat} (h : i ≠ j) (hi : (nodeOf f i).1 ≠ 0) (hj : (nodeOf f j).1 ≠ 0) {l : Bool} (li : (nodeOf f i).2.1 = l) (lj : (nodeOf f j).2.1 = l) {k : Int} (ki : k ∈ (nodeOf f i).2.2) (kj : k ∈ (nodeOf f j).2.2) : 2 ≤ named f l k := by
  have h1 : namesOf (nodeOf f i) l k = (nodeOf f i).2.2.count k := by unfold namesOf; rw [if_neg (fun hc => hc.elim hi (fun e => e li))]
  have h2 : namesOf (nodeOf f j) l k = (nodeOf f j).2.2.count k := by unfold namesOf; rw [if_neg (fun hc => hc.elim hj (fun e => e lj))]
  have c1 : 0 < (nodeOf f i).2.2.count k := List.count_pos_iff.2 ki
  have c2 : 0 < (nodeOf f j).2.2.count k := List.count_pos_iff.2 kj
  rcases Nat.lt_or_gt_of_ne h with e | e
  · have := namedIn_two f.1 i j l k e (live_lt hj)
    unfold nodeOf at h1 h2 c1 c2
    unfold named; omega
  · have := namedIn_two f.1 j i l k e (live_lt hi)
    unfold nodeOf at h1 h2 c1 c2
    unfold named; omega
theorem cnt_pos {ks : List Int} {but : Nat} {x : Nat} {p : Nat} (hne : p ≠ but) (hx : ks.getD p 0 = (x : Int)) : ∀ j, p < j → 1 ≤ cntTo ks but x j := by
  intro j
  induction j with
  | zero => intro h; omega
  | succ j ih =>
    intro h
    rw [cntTo]
    by_cases e : p = j
    · subst e; rw [if_pos ⟨hne, hx⟩]; omega
    · have := ih (by omega); omega
theorem kid_live {f : Fo} (hI : Inv f) {r : Nat} (h0 : (nodeOf f r).1 ≠ 0) (hl : (nodeOf f r).2.1 = false) {p : Nat} (hp : p < 4) : (nodeOf f r).2.2.getD p 0 = -1 ∨ (0 ≤ (nodeOf f r).2.2.getD p 0 ∧ (nodeOf f ((nodeOf f r).2.2.getD p 0).toNat).1 ≠ 0 ∧ (nodeOf f ((nodeOf f r).2.2.getD p 0).toNat).2.1 = true) := by
  rcases (hI.nd r).ks h0 _ (getD_four ((hI.nd r).kl h0) hp) with e | ⟨e1, e2⟩
  · exact Or.inl e
  · rw [hl, if_neg (by decide)] at e2
    exact Or.inr ⟨e1, by omega, e2.2.2⟩
theorem leafAt_nat (f : Fo) (r : Nat) (k : Int) : leafAt f (r : Int) k = (nodeOf f r).2.2.getD (k.toNat / 4) 0 := by
  unfold leafAt; rw [if_neg (by omega), Int.toNat_natCast]

/-- what setPlace leaves -/
structure PlaceSet (f : Fo) (root at' b R : Int) (h : Fo) : Prop where
  inv : Inv h
  eb : ∀ j, extB h j = 0
  ex : ∀ m : Nat, ext h m = ext f m - (if (m : Int) = root then 1 else 0) + (if (m : Int) = R then 1 else 0)
  bk : ∀ j, (blockOf h j).1 ≠ 0 → (blockOf f j).1 ≠ 0 ∧ (blockOf h j).2 = (blockOf f j).2
  rt : R = -1 ∨ (0 ≤ R ∧ (nodeOf h R.toNat).1 ≠ 0 ∧ (nodeOf h R.toNat).2.1 = false)
  look : ∀ k : Int, 0 ≤ k → k ≤ 15 → blockAt h R k = if k = at' then b else blockAt f root k
  keep : ∀ r : Nat, (nodeOf h r).1 ≠ 0 → (nodeOf h r).2.1 = false → (r : Int) ≠ R → (nodeOf f r).1 ≠ 0 ∧ (nodeOf f r).2.1 = false ∧ ∀ k : Int, 0 ≤ k → k ≤ 15 → blockAt h r k = blockAt f r k
theorem place_ok {f : Fo} {root at' b : Int} (A : Ask f root at' b) (hc : (setPlace f root at' b).2.1 = 0) : PlaceSet f root at' b (setPlace f root at' b).1 (setPlace f root at' b).2.2 := by
  have h0 := A.at0; have h1 := A.at1
  unfold setPlace at hc ⊢
  by_cases hc1 : (setLeaf f root at' b).2.1 = 0
  · rw [if_pos hc1] at hc ⊢
    have S := setLeaf_ok A hc1
    obtain ⟨L, hL⟩ : ∃ L, (setLeaf f root at' b).1 = L := ⟨_, rfl⟩
    obtain ⟨g, hg⟩ : ∃ g, (setLeaf f root at' b).2.2 = g := ⟨_, rfl⟩
    rw [hL, hg] at S hc ⊢
    clear hL hg hc1
    have hol := oldKids_len A.inv A.ro A.at0 A.at1
    -- the root is no leaf, so it stays as it was
    have hrg : 0 ≤ root → nodeOf g root.toNat = nodeOf f root.toNat ∧ (root ≠ L) := fun r0 => by
      obtain ⟨_, r1, r2⟩ := A.ro.resolve_left (by omega)
      rcases S.how with ⟨e1, _, e2, _⟩ | ⟨e1, e2, e3, e4⟩
      · rw [e2]; exact ⟨rfl, by omega⟩
      · have hne : root ≠ L := fun e => by
          rcases e4 with ⟨_, _, x, _⟩ | ⟨x, _⟩
          · rw [← e, r2] at x; cases x
          · rw [← e] at x; rw [x] at r1; exact r1 rfl
        exact ⟨e3 _ (by omega), hne⟩
    have hrk : rootKids g root = rootKids f root := by
      unfold rootKids
      by_cases r0 : 0 ≤ root
      · rw [if_pos r0, if_pos r0, (hrg r0).1]
      · rw [if_neg r0, if_neg r0]
    have hrl : ∀ k : Int, 0 ≤ root → leafAt f root k = (rootKids f root).getD (k.toNat / 4) 0 := fun k r0 => by
      unfold leafAt rootKids; rw [if_neg (by omega), if_pos r0]
    have hst : stays g root at' L ↔ (0 ≤ L ∧ L = leafAt f root at' ∧ (nodeOf f L.toNat).1 = 1 ∧ ∀ m, ext g m = ext f m) ∨ (stays g root at' L ∧ L = -1) := by
      constructor
      · intro hs
        rcases S.how with ⟨e1, _, _, _⟩ | ⟨e1, e2, e3, e4⟩
        · exact Or.inr ⟨hs, e1⟩
        · left
          rcases e4 with ⟨x1, x2, _, _, _, x3⟩ | ⟨x, _⟩
          · exact ⟨e1, x1, x2, x3⟩
          · have hs3 := hs.2.2
            rw [hrk, ← hrl at' hs.1] at hs3
            obtain ⟨_, y1, _⟩ := (leaf_cases A.inv A.ro h0 h1).resolve_left (by omega)
            rw [← hs3, x] at y1; exact absurd rfl y1
      · rintro (⟨e1, e2, e3, e4⟩ | ⟨hs, _⟩)
        · rcases S.how with ⟨e5, _⟩ | ⟨_, _, _, e7⟩
          · omega
          · rcases e7 with ⟨x1, _, _, x4, x5, _⟩ | ⟨x, _⟩
            · refine ⟨x4, by rw [(hrg x4).1]; exact x5, ?_⟩
              rw [hrk, ← hrl at' x4]; exact x1
            · rw [x] at e3; exact absurd e3 (by decide)
        · exact hs
    have AR : AskR g root at' L := by
      refine ⟨S.inv, fun m => ?_, S.eb, ?_, fun hL0 => ?_, ?_, h0, h1⟩
      · have := A.ex m
        rcases S.how with ⟨_, _, e2, _⟩ | ⟨_, _, _, ⟨_, _, _, _, _, x⟩ | ⟨_, x⟩⟩
        · rw [e2]; exact this
        · rw [x]; exact this
        · rw [x]; by_cases e : (m : Int) = L
          · rw [if_pos e]; omega
          · rw [if_neg e]; omega
      · rcases S.how with ⟨e1, _⟩ | ⟨e1, e2, _⟩
        · exact Or.inl e1
        · exact Or.inr ⟨e1, by rw [e2]; simp, by rw [e2]⟩
      · rcases S.how with ⟨e1, _⟩ | ⟨e1, _, _, ⟨x1, x2, _, x4, _, x3⟩ | ⟨_, x⟩⟩
        · omega
        · exact Or.inr (hst.2 (Or.inl ⟨e1, x1, x2, x3⟩))
        · left
          rw [x, if_pos (by omega)]
          have := A.ex L.toNat; omega
      · rcases A.ro with e | ⟨r0, r1, r2⟩
        · exact Or.inl e
        · rw [(hrg r0).1]; exact Or.inr ⟨r0, r1, r2⟩
    have T := setRoot_ok AR hc
    obtain ⟨R, hR⟩ : ∃ R, (setRoot g root at' L).1 = R := ⟨_, rfl⟩
    obtain ⟨h, hh⟩ : ∃ h, (setRoot g root at' L).2.2 = h := ⟨_, rfl⟩
    rw [hR, hh] at T ⊢
    clear hR hh hc
    have hrol := rootKids_len A.inv A.ro
    -- what is not the new leaf is as it was
    have hgn : ∀ m : Nat, (nodeOf f m).1 ≠ 0 → ((m : Int) = L → 2 ≤ named f false m) → nodeOf g m = nodeOf f m := fun m hm hx => by
      rcases S.how with ⟨_, _, e2, _⟩ | ⟨e1, e2, e3, e4⟩
      · rw [e2]
      · by_cases e : (m : Int) = L
        · have h2 := hx e
          rcases e4 with ⟨_, x2, _⟩ | ⟨x, _⟩
          · have := A.ex m
            rw [show L.toNat = m by omega] at x2
            unfold ext at this; omega
          · rw [show L.toNat = m by omega] at x; rw [x] at hm; exact absurd rfl hm
        · exact e3 m (by omega)
    have hgl : ∀ m : Nat, (nodeOf g m).1 ≠ 0 → (nodeOf g m).2.1 = false → (m : Int) ≠ L ∧ nodeOf g m = nodeOf f m := fun m hm hl => by
      rcases S.how with ⟨e1, _, e2, _⟩ | ⟨e1, e2, e3, _⟩
      · rw [e2]; exact ⟨by omega, rfl⟩
      · by_cases e : (m : Int) = L
        · rw [show m = L.toNat by omega, e2] at hl; simp at hl
        · exact ⟨e, e3 m (by omega)⟩
    -- where the new leaf is none, the others of its place are none too
    have hnoneL : ∀ k : Int, 0 ≤ k → k ≤ 15 → k.toNat / 4 = at'.toNat / 4 → L = -1 → k ≠ at' → blockAt f root k = -1 := fun k k0 k1 hq hL1 hk => by
      rcases S.how with ⟨_, _, _, e4⟩ | ⟨e1, _⟩
      · have hle : leafAt f root k = leafAt f root at' := by unfold leafAt; rw [hq]
        unfold blockAt
        rw [hle]
        rcases leaf_cases A.inv A.ro h0 h1 with e | ⟨e5, e6, e7, _⟩
        · rw [if_pos (by omega)]
        · rw [if_neg (by omega)]
          have hp : k.toNat % 4 < 4 := by omega
          have := e4 (k.toNat % 4) hp
          rw [nextKids, with_getD hol (by omega) _ hp, if_neg (by omega)] at this
          have hok : oldKids f root at' = (nodeOf f (leafAt f root at').toNat).2.2 := if_pos e5
          have hkl := (A.inv.nd (leafAt f root at').toNat).kl e6
          rw [if_neg (fun e => by rw [← hok, e] at hkl; simp at hkl), hok] at this
          rcases (A.inv.nd (leafAt f root at').toNat).ks e6 _ (getD_four hkl hp) with e | ⟨e8, _⟩
          · exact e
          · omega
      · omega
    refine ⟨T.inv, T.eb, fun m => ?_, fun j hj => ?_, ?_, fun k k0 k1 => ?_, fun r hr0 hrl' hrR => ?_⟩
    · rw [T.ex]
      by_cases e : (m : Int) = L
      · by_cases hs : stays g root at' L
        · rw [if_neg (show ¬ ((m : Int) = L ∧ ¬ stays g root at' L) from fun hx => hx.2 hs)]
          rcases hst.1 hs with ⟨_, _, _, e4⟩ | ⟨_, e4⟩
          · rw [e4]; omega
          · omega
        · rw [if_pos (show (m : Int) = L ∧ ¬ stays g root at' L from ⟨e, hs⟩)]
          rcases S.how with ⟨e1, _⟩ | ⟨e1, _, _, ⟨x1, x2, _, _, _, x3⟩ | ⟨_, x⟩⟩
          · omega
          · exact absurd (hst.2 (Or.inl ⟨e1, x1, x2, x3⟩)) hs
          · rw [x, if_pos e]; omega
      · rw [if_neg (show ¬ ((m : Int) = L ∧ ¬ stays g root at' L) from fun hx => e hx.1)]
        have : ext g m = ext f m := by
          rcases S.how with ⟨_, _, e2, _⟩ | ⟨_, _, _, ⟨_, _, _, _, _, x⟩ | ⟨_, x⟩⟩
          · rw [e2]
          · rw [x]
          · rw [x, if_neg e]; omega
        rw [this]; omega
    · have x1 := T.bk j hj
      have x2 := S.bk j x1.1
      exact ⟨x2.1, x1.2.trans x2.2⟩
    · rcases T.rt with ⟨e, _⟩ | ⟨e1, e2, e3, _⟩
      · exact Or.inl e
      · exact Or.inr ⟨e1, e2, by rw [e3]⟩
    · have hlen := with_len (rootKids_len AR.inv AR.ro) (at'.toNat / 4) L
      have hnl : ∀ p, p < 4 → (nextLeaves g root at' L).getD p 0 = if p = at'.toNat / 4 then L else if rootKids f root = [] then -1 else (rootKids f root).getD p 0 := fun p hp => by
        rw [nextLeaves, hrk, with_getD hrol (by omega) _ hp]
      rcases T.rt with ⟨e1, e2⟩ | ⟨e1, e2, e3, _⟩
      · -- no root any more
        have hall := (noneOf_iff hlen).1 e2
        have hLn : L = -1 := by
          have := hall (at'.toNat / 4) (by omega)
          rw [show withKid (rootKids g root) (at'.toNat / 4) L = nextLeaves g root at' L from rfl, hnl _ (by omega), if_pos rfl] at this
          rcases AR.ll with e | e <;> omega
        have hbn : b = -1 := by
          rcases S.how with ⟨_, x, _⟩ | ⟨x, _⟩
          · exact x
          · omega
        have hlhs : blockAt h R k = -1 := by unfold blockAt leafAt; rw [e1]; rfl
        rw [hlhs]
        by_cases ek : k = at'
        · rw [if_pos ek, hbn]
        · rw [if_neg ek]
          by_cases hq : k.toNat / 4 = at'.toNat / 4
          · exact (hnoneL k k0 k1 hq hLn ek).symm
          · unfold blockAt
            rw [if_pos]
            rcases A.ro with e | ⟨r0, r1, r2⟩
            · unfold leafAt; rw [if_pos (by omega)]; decide
            · have := hall (k.toNat / 4) (by omega)
              rw [show withKid (rootKids g root) (at'.toNat / 4) L = nextLeaves g root at' L from rfl, hnl _ (by omega), if_neg hq] at this
              rw [hrl k r0]
              by_cases e5 : rootKids f root = []
              · have : (rootKids f root).length = 4 := by unfold rootKids; rw [if_pos r0]; exact (A.inv.nd _).kl r1
                rw [e5] at this; simp at this
              · rw [if_neg e5] at this; exact this
      · obtain ⟨q, rfl⟩ : ∃ q : Nat, R = q := ⟨R.toNat, by omega⟩
        rw [Int.toNat_natCast] at e2 e3
        have hlf : leafAt h (q : Int) k = (nextLeaves g root at' L).getD (k.toNat / 4) 0 := by rw [leafAt_nat, e3]
        have hkl := kid_live T.inv e2 (by rw [e3]) (p := k.toNat / 4) (by omega)
        rw [e3] at hkl
        simp only at hkl
        by_cases hq : k.toNat / 4 = at'.toNat / 4
        · rw [hnl _ (by omega), if_pos hq] at hlf hkl
          rcases hkl with hL1 | ⟨hL0, l1, l2⟩
          · have hlhs : blockAt h (q : Int) k = -1 := by unfold blockAt; rw [hlf, if_pos (by omega)]
            rw [hlhs]
            by_cases ek : k = at'
            · rw [if_pos ek]
              rcases S.how with ⟨_, x, _⟩ | ⟨x, _⟩
              · exact x.symm
              · omega
            · rw [if_neg ek]; exact (hnoneL k k0 k1 hq hL1 ek).symm
          · have hLq : ((L.toNat : Nat) : Int) ≠ (q : Int) := fun e => by
              have : L.toNat = q := by omega
              rw [this, e3] at l2; cases l2
            have x1 := (T.nd L.toNat l1 hLq).2
            have hgL : nodeOf g L.toNat = (1, true, nextKids f root at' b) := by
              rcases S.how with ⟨x, _⟩ | ⟨_, x, _⟩
              · omega
              · exact x
            have hlhs : blockAt h (q : Int) k = (nextKids f root at' b).getD (k.toNat % 4) 0 := by
              unfold blockAt; rw [hlf, if_neg (by omega), x1, hgL]
            rw [hlhs, nextKids, with_getD hol (by omega) _ (by omega)]
            by_cases ek : k = at'
            · rw [if_pos ek, if_pos (by rw [ek])]
            · rw [if_neg ek, if_neg (by omega)]
              have hle : leafAt f root k = leafAt f root at' := by unfold leafAt; rw [hq]
              unfold blockAt
              rw [hle]
              rcases leaf_cases A.inv A.ro h0 h1 with e | ⟨e5, e6, _⟩
              · rw [if_pos (show oldKids f root at' = [] from if_neg (by omega)), if_pos (by omega)]
              · have hok : oldKids f root at' = (nodeOf f (leafAt f root at').toNat).2.2 := if_pos e5
                have hkl := (A.inv.nd (leafAt f root at').toNat).kl e6
                rw [if_neg (fun e => by rw [← hok, e] at hkl; simp at hkl), if_neg (by omega), hok]
        · rw [hnl _ (by omega), if_neg hq] at hlf hkl
          rw [if_neg (fun e => hq (by rw [e]))]
          obtain ⟨y, hy⟩ : ∃ y, (if rootKids f root = [] then (-1 : Int) else (rootKids f root).getD (k.toNat / 4) 0) = y := ⟨_, rfl⟩
          rw [hy] at hlf hkl
          have hml : leafAt f root k = leafAt h (q : Int) k := by
            rw [hlf, ← hy]
            rcases A.ro with e | ⟨r0, r1, r2⟩
            · rw [if_pos (show rootKids f root = [] from if_neg (by omega))]; unfold leafAt; rw [if_pos (by omega)]
            · rw [if_neg (fun e => by
                have : (rootKids f root).length = 4 := by unfold rootKids; rw [if_pos r0]; exact (A.inv.nd _).kl r1
                rw [e] at this; simp at this), hrl k r0]
          unfold blockAt
          rw [hml, hlf]
          rcases hkl with hm | ⟨hm0, l1, l2⟩
          · rw [if_pos (by omega), if_pos (by omega)]
          · rw [if_neg (by omega), if_neg (by omega)]
            obtain ⟨m, rfl⟩ : ∃ m : Nat, y = m := ⟨_, (Int.toNat_of_nonneg hm0).symm⟩
            have hme := hy
            rw [Int.toNat_natCast] at l1 l2 ⊢
            have hmq : (m : Int) ≠ (q : Int) := fun e => by
              have : m = q := by omega
              rw [this, e3] at l2; cases l2
            obtain ⟨y1, y2⟩ := T.nd m l1 hmq
            rw [y2]
            have hre : rootKids f root ≠ [] := fun e => by rw [if_pos e] at hme; omega
            rw [if_neg hre] at hme
            have hr4 := hrol.resolve_right hre
            have r0 : 0 ≤ root := by
              by_cases r0 : 0 ≤ root
              · exact r0
              · exact absurd (show rootKids f root = [] from if_neg r0) hre
            obtain ⟨_, r1, r2⟩ := A.ro.resolve_left (by omega)
            have hrfe : rootKids f root = (nodeOf f root.toNat).2.2 := if_pos r0
            have hmlive : (nodeOf f m).1 ≠ 0 := by
              rcases rootKids_live A.inv A.ro (getD_four hr4 (p := k.toNat / 4) (by omega)) with e | ⟨_, e, _⟩
              · omega
              · rw [hme, Int.toNat_natCast] at e; exact e
            rw [hgn m hmlive fun e => by
              -- the old leaf would be named twice by the root
              rcases S.how with ⟨x, _⟩ | ⟨x1, _, _, ⟨x2, _⟩ | ⟨x2, _⟩⟩
              · omega
              · rw [hrl at' r0, ← e] at x2
                have c1 := cnt_all hr4 (but := at'.toNat / 4) (by omega) m
                have c2 := cnt_pos (ks := rootKids f root) (but := at'.toNat / 4) (x := m) hq hme 4 (by omega)
                rw [if_pos x2.symm] at c1
                have c3 := names_le (f := f) (k := (m : Int)) (live_lt r1) r1 r2
                rw [← hrfe] at c3; omega
              · rw [← e, Int.toNat_natCast] at x2; rw [x2] at hmlive; exact absurd rfl hmlive]
    · obtain ⟨y1, y2⟩ := T.nd r hr0 hrR
      have hrg2 : (nodeOf g r).2.1 = false := by rw [← y2]; exact hrl'
      obtain ⟨z1, z2⟩ := hgl r y1 hrg2
      have hf0 : (nodeOf f r).1 ≠ 0 := by rw [← z2]; exact y1
      have hfl : (nodeOf f r).2.1 = false := by rw [← z2]; exact hrg2
      refine ⟨hf0, hfl, fun k k0 k1 => ?_⟩
      have hks : (nodeOf h r).2.2 = (nodeOf f r).2.2 := by rw [y2, z2]
      have hle : leafAt h (r : Int) k = leafAt f (r : Int) k := by rw [leafAt_nat, leafAt_nat, hks]
      unfold blockAt
      rw [hle]
      have hkl := kid_live T.inv hr0 hrl' (p := k.toNat / 4) (by omega)
      have hkf := kid_live A.inv hf0 hfl (p := k.toNat / 4) (by omega)
      rw [hks, ← leafAt_nat f r k] at hkl
      rw [← leafAt_nat f r k] at hkf
      by_cases hm0 : leafAt f (r : Int) k < 0
      · rw [if_pos hm0, if_pos hm0]
      · rw [if_neg hm0, if_neg hm0]
        obtain ⟨_, l1, l2⟩ := hkl.resolve_left (by omega)
        obtain ⟨_, f1, f2⟩ := hkf.resolve_left (by omega)
        obtain ⟨m, hme⟩ : ∃ m : Nat, leafAt f (r : Int) k = m := ⟨(leafAt f (r : Int) k).toNat, by omega⟩
        rw [hme, Int.toNat_natCast] at l1 l2 f1 f2 ⊢
        have hmem : (m : Int) ∈ (nodeOf f r).2.2 := by
          rw [← hme, leafAt_nat]; exact getD_four ((A.inv.nd r).kl hf0) (by omega)
        have hmR : (m : Int) ≠ R := fun e => by
          rcases T.rt with ⟨x, _⟩ | ⟨_, _, x, _⟩
          · omega
          · rw [← e, Int.toNat_natCast] at x; rw [x] at l2; cases l2
        obtain ⟨w1, w2⟩ := T.nd m l1 hmR
        rw [w2, hgn m f1 fun e => by
          rcases S.how with ⟨x, _⟩ | ⟨x1, _, _, ⟨x2, _, _, x4, x5, _⟩ | ⟨x2, _⟩⟩
          · omega
          · obtain ⟨_, r1, r2⟩ := A.ro.resolve_left (by omega)
            have hrr : r ≠ root.toNat := fun er => by
              rcases T.rt with ⟨_, x⟩ | ⟨_, _, _, ⟨x, _⟩ | ⟨_, x⟩⟩
              · have := (noneOf_iff (with_len (rootKids_len AR.inv AR.ro) (at'.toNat / 4) L)).1 x (at'.toNat / 4) (by omega)
                rw [with_getD (rootKids_len AR.inv AR.ro) (by omega) _ (by omega), if_pos rfl] at this
                omega
              · exact hrR (by omega)
              · exact x ⟨x4, by rw [(hrg x4).1]; exact x5⟩
            have hrm : (m : Int) ∈ (nodeOf f root.toNat).2.2 := by
              obtain ⟨_, _, _, _, _, x⟩ := (leaf_cases A.inv A.ro h0 h1).resolve_left (by omega)
              rw [e, x2]; exact x
            exact named_two hrr hf0 r1 hfl r2 hmem hrm
          · rw [← e, Int.toNat_natCast] at x2; rw [x2] at f1; exact absurd rfl f1]
  · rw [if_neg hc1] at hc; exact absurd hc hc1

end Go.Proofs.Ytikjndmgljkhhaa

/- Chapter 4: what is asked ahead of a tree, and what it has. -/
namespace Go.Proofs.Ytikjndmgljkhhaa
open Go.RowKit

/-- a root that is none, or a node that is no leaf -/
def RootIs (f : Fo) (root : Int) : Prop := root = -1 ∨ (0 ≤ root ∧ (nodeOf f root.toNat).1 ≠ 0 ∧ (nodeOf f root.toNat).2.1 = false)
theorem root_of {f : Fo} {root : Int} (h : rootOk f root = true) : RootIs f root := by
  unfold rootOk at h
  by_cases e : root = -1
  · exact Or.inl e
  · rw [if_neg e] at h
    simp at h
    exact Or.inr ⟨h.1.1.1, by omega, h.2⟩
theorem root_ok {f : Fo} (hI : Inv f) {root : Int} (h : RootIs f root) : rootOk f root = true := by
  unfold rootOk
  rcases h with e | ⟨h0, h1, h2⟩
  · rw [if_pos e]
  · rw [if_neg (by omega)]
    have := live_lt h1
    have hr := (hI.nd root.toNat).r0
    rw [decide_eq_true (show 0 ≤ root ∧ root ≤ (f.1.length : Int) - 1 by omega), decide_eq_true (show 0 < (nodeOf f root.toNat).1 by omega), h2]; rfl
structure TreeOk (f : Fo) (root x : Int) : Prop where
  right : Right f
  ro : RootIs f root
  at0 : 0 ≤ x
  at1 : x ≤ 15
theorem tree_of {f : Fo} {root x : Int} (h : treeCode f root x = 0) : TreeOk f root x := by
  unfold treeCode at h
  by_cases h0 : foFault f = 0
  · rw [if_pos h0] at h
    by_cases h1 : (rootOk f root && spotB x) = true
    · rw [Bool.and_eq_true] at h1
      have h2 := of_decide_eq_true h1.2
      exact ⟨right_of h0, root_of h1.1, h2.1, h2.2⟩
    · rw [if_neg h1] at h; exact absurd h (by decide)
  · rw [if_neg h0] at h; exact absurd h h0
theorem tree_is {f : Fo} {root x : Int} (h : TreeOk f root x) : treeCode f root x = 0 := by
  unfold treeCode
  rw [if_pos (fault_of_right h.right), root_ok h.right.inv h.ro, show spotB x = true from decide_eq_true ⟨h.at0, h.at1⟩]; rfl
theorem block_cases {f : Fo} (hI : Inv f) {root x : Int} (hr : RootIs f root) (h0 : 0 ≤ x) (h1 : x ≤ 15) : blockAt f root x = -1 ∨ (0 ≤ blockAt f root x ∧ (blockOf f (blockAt f root x).toNat).1 ≠ 0) := by
  unfold blockAt
  rcases leaf_cases hI hr h0 h1 with e | ⟨e1, e2, e3, _⟩
  · rw [e]; exact Or.inl rfl
  · rw [if_neg (by omega)]
    rcases (hI.nd _).ks e2 _ (getD_four ((hI.nd _).kl e2) (p := x.toNat % 4) (by omega)) with e | ⟨e4, e5⟩
    · exact Or.inl e
    · rw [e3, if_pos rfl] at e5; exact Or.inr ⟨e4, by omega⟩
theorem ext_pos {f : Fo} (h : Right f) : ∀ m, 0 ≤ ext f m := fun m => by
  cases hl : (nodeOf f m).2.1 with
  | true =>
    by_cases h0 : (nodeOf f m).1 = 0
    · have := (h.inv.nd m).z h0
      rw [this] at hl; cases hl
    · exact h.le m (live_lt h0) hl
  | false =>
    unfold ext
    rw [h.inv.own hl]
    have := (h.inv.nd m).r0
    omega
theorem extB_zero {f : Fo} (h : Right f) : ∀ j, extB f j = 0 := fun j => by
  by_cases hj : j < f.2.length
  · exact h.bl j hj
  · unfold extB
    rw [blockOf_out (by omega)]
    have : named f true j = 0 := by
      by_cases e : named f true j = 0
      · exact e
      · exact absurd (h.inv.block e).1 hj
    rw [this]; rfl
/-- a block that is taken -/
theorem ask_take {f : Fo} {root x v : Int} {b : Nat} (h : TreeOk f root x) (hb : freeAt f.2 = some b) (h0 : 0 ≤ v) (h1 : v ≤ 255) : Ask (f.1, f.2.set b (1, v)) root x b := by
  obtain ⟨hl, hz⟩ := freeAt_is hb
  have hB := extB_zero h.right
  have hE := ext_pos h.right
  have hn : named f true b = 0 := by
    have := hB b
    unfold extB blockOf at this
    rw [hz] at this; omega
  refine ⟨h.right.inv.putB hl (blkOne_of (by simp) (by simp) h0 h1 (fun e => by simp at e)) (Or.inl hn), fun m => hE m, fun j => ?_, Or.inr (by omega), h.ro, h.at0, h.at1⟩
  have := hB j
  unfold extB at this ⊢
  rw [blockOf_set _ _ _ _ _ hl]
  have e2 : named (f.1, f.2.set b (1, v)) true j = named f true j := rfl
  rw [e2]
  by_cases e : j = b
  · rw [if_pos e, if_pos (by omega), e, hn]; rfl
  · rw [if_neg e, if_neg (by omega)]; exact this
theorem ask_clear {f : Fo} {root x : Int} (h : TreeOk f root x) : Ask f root x (-1) :=
  ⟨h.right.inv, ext_pos h.right, fun j => by rw [extB_zero h.right, if_neg (by omega)], Or.inl rfl, h.ro, h.at0, h.at1⟩
/-- a place that was set leaves a right forest -/
theorem right_after {f : Fo} {root x b R : Int} {g : Fo} (hE : ∀ m, 0 ≤ ext f m) (hr : 0 ≤ root → 1 ≤ ext f root.toNat) (h : PlaceSet f root x b R g) : Right g := by
  refine ⟨h.inv, fun j _ => h.eb j, fun i _ _ => ?_⟩
  rw [h.ex]
  have := hE i
  by_cases e : (i : Int) = root
  · have := hr (by omega)
    rw [show root.toNat = i by omega] at this
    rw [if_pos e]; by_cases e2 : (i : Int) = R
    · rw [if_pos e2]; omega
    · rw [if_neg e2]; omega
  · rw [if_neg e]; by_cases e2 : (i : Int) = R
    · rw [if_pos e2]; omega
    · rw [if_neg e2]; omega
theorem ext_root {f : Fo} (hI : Inv f) {root : Int} (h : RootIs f root) (h0 : 0 ≤ root) : 1 ≤ ext f root.toNat := by
  obtain ⟨_, h1, h2⟩ := h.resolve_left (by omega)
  unfold ext
  rw [hI.own h2]
  have := (hI.nd root.toNat).r0
  omega

end Go.Proofs.Ytikjndmgljkhhaa

/- Chapter 4: what holds on the way while one less refers to a leaf, to a root. -/
namespace Go.Proofs.Ytikjndmgljkhhaa
open Go.RowKit

theorem lessKids_take (bs : List (Int × Int)) (ks : List Int) (j : Nat) (h : j < ks.length) : lessKids bs (ks.take (j + 1)) = if ks.getD j 0 < 0 then lessKids bs (ks.take j) else lessB (lessKids bs (ks.take j)) (ks.getD j 0).toNat := by
  rw [List.take_add_one, List.getElem?_eq_getElem h]
  unfold lessKids
  rw [List.foldl_append]
  simp [List.getD, h]
theorem lessLeaves_take (f : Fo) (ks : List Int) (j : Nat) (h : j < ks.length) : lessLeaves f (ks.take (j + 1)) = if ks.getD j 0 < 0 then lessLeaves f (ks.take j) else lessLeaf (lessLeaves f (ks.take j)) (ks.getD j 0).toNat := by
  rw [List.take_add_one, List.getElem?_eq_getElem h]
  unfold lessLeaves
  rw [List.foldl_append]
  simp [List.getD, h]
theorem count_take_le (ks : List Int) (j : Nat) (x : Int) : (ks.take j).count x ≤ ks.count x := (List.take_sublist j ks).count_le x
structure LeafPre (f : Fo) (i : Nat) : Prop where
  lt : i < f.1.length
  lf : (nodeOf f i).2.1 = true
  r1 : 1 ≤ (nodeOf f i).1
  r2 : (nodeOf f i).1 ≤ 200
  kl : (nodeOf f i).2.2.length = 4
  kd : ∀ k ∈ (nodeOf f i).2.2, k < 0 ∨ k.toNat < f.2.length
  bl : (nodeOf f i).1 = 1 → ∀ j m, blkOne ((lessKids f.2 ((nodeOf f i).2.2.take j)).getD m (0, 0)) = 0
theorem leafPre_of {f : Fo} (h : Inv f) (hB : ∀ j, 0 ≤ extB f j) {i : Nat} (hl : (nodeOf f i).2.1 = true) (he : 1 ≤ ext f i) : LeafPre f i := by
  have h1 : 1 ≤ (nodeOf f i).1 := by unfold ext at he; omega
  have h0 : (nodeOf f i).1 ≠ 0 := by omega
  have hN := h.nd i
  refine ⟨live_lt h0, hl, h1, hN.r1, hN.kl h0, fun k hk => ?_, fun e j m => ?_⟩
  · rcases hN.ks h0 k hk with e | ⟨_, e⟩
    · left; omega
    · rw [hl, if_pos rfl] at e; exact Or.inr e.1
  · have hn : named f false i = 0 := by unfold ext at he; omega
    obtain ⟨a, _, c⟩ := cleared h h0 hn
    have hcn : ∀ k, namesOf (nodeOf f i) true k = (nodeOf f i).2.2.count k := fun k => by
      unfold namesOf; rw [if_neg (fun hc => hc.elim h0 (fun e => e hl))]
    obtain ⟨a', _, _⟩ := lessKids_ok ((nodeOf f i).2.2.take j) a.inv fun x => Or.inl (by
      rw [c, hcn]
      have := hB x
      have := count_take_le (nodeOf f i).2.2 j (x : Int)
      omega)
    exact a'.inv.bk m
structure RootPre (f : Fo) (i : Nat) : Prop where
  lt : i < f.1.length
  lf : (nodeOf f i).2.1 = false
  r1 : 1 ≤ (nodeOf f i).1
  r2 : (nodeOf f i).1 ≤ 200
  kl : (nodeOf f i).2.2.length = 4
  ln : (nodeOf f i).1 = 1 → ∀ j, j < 4 → ((nodeOf f i).2.2.getD j 0 < 0 ∨ LeafPre (lessLeaves (f.1.set i (0, false, []), f.2) ((nodeOf f i).2.2.take j)) ((nodeOf f i).2.2.getD j 0).toNat) ∧ (lessLeaves (f.1.set i (0, false, []), f.2) ((nodeOf f i).2.2.take j)).1.length = f.1.length ∧ (lessLeaves (f.1.set i (0, false, []), f.2) ((nodeOf f i).2.2.take j)).2.length = f.2.length
end Go.Proofs.Ytikjndmgljkhhaa

/- Chapter 4: what holds on the way while one less refers to a leaf, to a root: for the program, which asks more. -/
namespace Go.Proofs.Ytikjndmgljkhhaa
open Go.RowKit

structure LeafP (f : Fo) (i : Nat) : Prop where
  lt : i < f.1.length
  lf : (nodeOf f i).2.1 = true
  r1 : 1 ≤ (nodeOf f i).1
  r2 : (nodeOf f i).1 ≤ 200
  kl : (nodeOf f i).2.2.length = 4
  ng : ∀ k ∈ (nodeOf f i).2.2, k < 0 → k = -1
  l24 : f.2.length ≤ 24
  kd : ∀ k ∈ (nodeOf f i).2.2, k < 0 ∨ k.toNat < f.2.length
  bl : (nodeOf f i).1 = 1 → ∀ j m, blkOne ((lessKids f.2 ((nodeOf f i).2.2.take j)).getD m (0, 0)) = 0
  lv : (nodeOf f i).1 = 1 → ∀ j, j < 4 → (nodeOf f i).2.2.getD j 0 < 0 ∨ ((lessKids f.2 ((nodeOf f i).2.2.take j)).getD ((nodeOf f i).2.2.getD j 0).toNat (0, 0)).1 ≠ 0
theorem lessKids_len (ks : List Int) : ∀ bs : List (Int × Int), (lessKids bs ks).length = bs.length := by
  induction ks with
  | nil => intro bs; rfl
  | cons k r ih =>
    intro bs
    rw [lessKids_cons, ih]
    by_cases h : k < 0
    · rw [if_pos h]
    · rw [if_neg h]; simp [lessB]
theorem leafP_of {f : Fo} (h : Inv f) (hB : ∀ j, 0 ≤ extB f j) {i : Nat} (hl : (nodeOf f i).2.1 = true) (he : 1 ≤ ext f i) : LeafP f i := by
  obtain ⟨p1, p2, p3, p4, p5, p6, p7⟩ := leafPre_of h hB hl he
  have h0 : (nodeOf f i).1 ≠ 0 := by omega
  have hN := h.nd i
  refine ⟨p1, p2, p3, p4, p5, fun k hk hk0 => ?_, h.nb, p6, p7, fun e j hj => ?_⟩
  · rcases hN.ks h0 k hk with e | ⟨e, _⟩ <;> omega
  · by_cases hk0 : (nodeOf f i).2.2.getD j 0 < 0
    · exact Or.inl hk0
    right
    obtain ⟨k, hk⟩ : ∃ k : Nat, (nodeOf f i).2.2.getD j 0 = k := ⟨_, (Int.toNat_of_nonneg (by omega)).symm⟩
    rw [hk, Int.toNat_natCast]
    have hn : named f false i = 0 := by unfold ext at he; omega
    obtain ⟨a, _, c⟩ := cleared h h0 hn
    have hcn : ∀ k, namesOf (nodeOf f i) true k = (nodeOf f i).2.2.count k := fun k => by
      unfold namesOf; rw [if_neg (fun hc => hc.elim h0 (fun e => e hl))]
    have hE1 : ∀ x : Nat, ((nodeOf f i).2.2.count (x : Int) : Int) ≤ extB (f.1.set i (0, false, []), f.2) x := fun x => by
      rw [c, hcn]; have := hB x; omega
    obtain ⟨a', b', c'⟩ := lessKids_ok ((nodeOf f i).2.2.take j) a.inv fun x => Or.inl (by
      have := hE1 x
      have := count_take_le (nodeOf f i).2.2 j (x : Int)
      omega)
    have hcnt : (((nodeOf f i).2.2.take j).count (k : Int) : Int) + 1 ≤ ((nodeOf f i).2.2.count (k : Int) : Int) := by
      have h1 := count_take_le (nodeOf f i).2.2 (j + 1) (k : Int)
      have h2 : ((nodeOf f i).2.2.take (j + 1)).count (k : Int) = ((nodeOf f i).2.2.take j).count (k : Int) + 1 := by
        rw [List.take_add_one, List.getElem?_eq_getElem (by have := hN.kl h0; omega), List.count_append]
        have : (nodeOf f i).2.2[j]'(by have := hN.kl h0; omega) = (k : Int) := by rw [← hk]; simp [List.getD, show j < (nodeOf f i).2.2.length by have := hN.kl h0; omega]
        simp [this]
      omega
    have he2 := c' k
    have := hE1 k
    have he3 : 1 ≤ extB ((f.1.set i (0, false, []), f.2).1, lessKids (f.1.set i (0, false, []), f.2).2 ((nodeOf f i).2.2.take j)) k := by rw [he2]; omega
    unfold extB at he3
    show (blockOf ((f.1.set i (0, false, []), f.2).1, lessKids (f.1.set i (0, false, []), f.2).2 ((nodeOf f i).2.2.take j)) k).1 ≠ 0
    omega
structure RootP (f : Fo) (i : Nat) : Prop where
  lt : i < f.1.length
  lf : (nodeOf f i).2.1 = false
  r1 : 1 ≤ (nodeOf f i).1
  r2 : (nodeOf f i).1 ≤ 200
  kl : (nodeOf f i).2.2.length = 4
  ng : ∀ k ∈ (nodeOf f i).2.2, k < 0 → k = -1
  ln : (nodeOf f i).1 = 1 → ∀ j, j < 4 → ((nodeOf f i).2.2.getD j 0 < 0 ∨ LeafP (lessLeaves (f.1.set i (0, false, []), f.2) ((nodeOf f i).2.2.take j)) ((nodeOf f i).2.2.getD j 0).toNat) ∧ (lessLeaves (f.1.set i (0, false, []), f.2) ((nodeOf f i).2.2.take j)).1.length = f.1.length ∧ (lessLeaves (f.1.set i (0, false, []), f.2) ((nodeOf f i).2.2.take j)).2.length = f.2.length
theorem rootP_of {f : Fo} (h : Inv f) (hB : ∀ j, 0 ≤ extB f j) (hE : ∀ m, 0 ≤ ext f m) {i : Nat} (h0 : (nodeOf f i).1 ≠ 0) (hl : (nodeOf f i).2.1 = false) : RootP f i := by
  have hN := h.nd i
  have hr0 := hN.r0
  have hn := h.own hl
  refine ⟨live_lt h0, hl, by omega, hN.r1, hN.kl h0, fun k hk hk0 => ?_, fun e j hj => ?_⟩
  · rcases hN.ks h0 k hk with e | ⟨e, _⟩ <;> omega
  obtain ⟨a, b, c⟩ := cleared h h0 hn
  have hcn : ∀ k, namesOf (nodeOf f i) false k = (nodeOf f i).2.2.count k := fun k => by
    unfold namesOf; rw [if_neg (fun hc => hc.elim h0 (fun e => e hl))]
  have hct : ∀ k, namesOf (nodeOf f i) true k = 0 := fun k => by
    unfold namesOf; rw [if_pos (Or.inr (by rw [hl]; decide))]
  have hci : (nodeOf f i).2.2.count (i : Int) = 0 := by have := names_le (f := f) (k := (i : Int)) (live_lt h0) h0 hl; omega
  have hE1 : ∀ x : Nat, ((nodeOf f i).2.2.count (x : Int) : Int) ≤ ext (f.1.set i (0, false, []), f.2) x := fun x => by
    rw [b, hcn]
    by_cases e : x = i
    · rw [if_pos e, e, hci]; omega
    · rw [if_neg e]; have := hE x; omega
  have hB1 : ∀ x, 0 ≤ extB (f.1.set i (0, false, []), f.2) x := fun x => by rw [c, hct]; have := hB x; omega
  have hkl : ∀ k ∈ (nodeOf f i).2.2, k < 0 ∨ (nodeOf (f.1.set i (0, false, []), f.2) k.toNat).2.1 = true := fun k hk => by
    rcases hN.ks h0 k hk with e | ⟨h3, h4⟩
    · left; omega
    · right
      rw [hl, if_neg (by decide)] at h4
      rw [nodeOf_set _ _ _ _ _ (live_lt h0)]
      by_cases e : k.toNat = i
      · rw [e] at h4; rw [hl] at h4; exact absurd h4.2.2 (by decide)
      · rw [if_neg e]; exact h4.2.2
  obtain ⟨a', b', c'⟩ := lessLeaves_ok ((nodeOf f i).2.2.take j) a.inv hB1 (fun k hk => hkl k (List.mem_of_mem_take hk)) fun x => Or.inl (by
    have := hE1 x
    have := count_take_le (nodeOf f i).2.2 j (x : Int)
    omega)
  refine ⟨?_, by rw [a'.ln]; simp, by rw [a'.lb]⟩
  by_cases hk0 : (nodeOf f i).2.2.getD j 0 < 0
  · exact Or.inl hk0
  · right
    obtain ⟨k, hk⟩ : ∃ k : Nat, (nodeOf f i).2.2.getD j 0 = k := ⟨_, (Int.toNat_of_nonneg (by omega)).symm⟩
    rw [hk, Int.toNat_natCast]
    have hmem := getD_four (hN.kl h0) hj
    have hcnt : (((nodeOf f i).2.2.take j).count (k : Int) : Int) + 1 ≤ ((nodeOf f i).2.2.count (k : Int) : Int) := by
      have h1 := count_take_le (nodeOf f i).2.2 (j + 1) (k : Int)
      have h2 : ((nodeOf f i).2.2.take (j + 1)).count (k : Int) = ((nodeOf f i).2.2.take j).count (k : Int) + 1 := by
        rw [List.take_add_one, List.getElem?_eq_getElem (by have := hN.kl h0; omega), List.count_append]
        have : (nodeOf f i).2.2[j]'(by have := hN.kl h0; omega) = (k : Int) := by rw [← hk]; simp [List.getD, show j < (nodeOf f i).2.2.length by have := hN.kl h0; omega]
        simp [this]
      omega
    have he : 1 ≤ ext (lessLeaves (f.1.set i (0, false, []), f.2) ((nodeOf f i).2.2.take j)) k := by
      rw [b']
      have := hE1 k
      omega
    have hlv : (nodeOf (lessLeaves (f.1.set i (0, false, []), f.2) ((nodeOf f i).2.2.take j)) k).1 ≠ 0 := by unfold ext at he; omega
    refine leafP_of a'.inv (fun x => by rw [c']; exact hB1 x) ?_ he
    rw [(a'.nd k hlv).2]
    rcases hkl _ hmem with e2 | e2
    · omega
    · rw [hk, Int.toNat_natCast] at e2; exact e2

end Go.Proofs.Ytikjndmgljkhhaa
