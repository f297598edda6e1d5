/- Chapter 3: blocks: plain facts of what their functions answer. -/
import Derived.Test.YtclghfoinologaaGreatQAB
import Derived.Deep.WholeRow
import Derived.Deep.AppendSrc
import Derived.Maps.AppendAt
set_option maxRecDepth 20000
set_option maxHeartbeats 16000000
namespace Go.Proofs.YtclghfoinologaaGreat
open Go.RowKit
def refsB (x : Int) : Bool := decide (0 ≤ x ∧ x ≤ 200)
def dataB (x : Int) : Bool := decide (0 ≤ x ∧ x ≤ 255)
def blkOne (p : Int × Int) : Int := if refsB p.1 && dataB p.2 then (if p.1 = 0 ∧ p.2 ≠ 0 then 1 else 0) else 3
def blkGo : List (Int × Int) → Int
 | [] => 0
 | p :: r => if blkOne p = 0 then blkGo r else blkOne p
def blkFault (bs : List (Int × Int)) : Int := if 24 < bs.length then 2 else blkGo bs
def freeAt : List (Int × Int) → Option Nat
 | [] => none
 | p :: r => if p.1 = 0 then some 0 else (freeAt r).map (· + 1)
def freeN (bs : List (Int × Int)) : Nat := (bs.filter fun p => decide (p.1 = 0)).length
def takeCode (bs : List (Int × Int)) (x : Int) : Int := if blkFault bs = 0 then (if dataB x then (if freeAt bs = none then 8 else 0) else 3) else blkFault bs
def takeAt (bs : List (Int × Int)) (x : Int) : Nat := if takeCode bs x = 0 then (freeAt bs).getD 0 else 0
def takeList (bs : List (Int × Int)) (x : Int) : List (Int × Int) := if takeCode bs x = 0 then bs.set ((freeAt bs).getD 0) (1, x) else []
def askCode (bs : List (Int × Int)) (at' : Int) : Int := if blkFault bs = 0 then (if 0 ≤ at' ∧ at' ≤ (bs.length : Int) - 1 then (if (bs.getD at'.toNat (0, 0)).1 = 0 then 4 else 0) else 3) else blkFault bs
def shareCode (bs : List (Int × Int)) (at' : Int) : Int := if askCode bs at' = 0 then (if 200 ≤ (bs.getD at'.toNat (0, 0)).1 then 2 else 0) else askCode bs at'
def more1 (p : Int × Int) : Int × Int := (p.1 + 1, p.2)
def less1 (p : Int × Int) : Int × Int := (p.1 - 1, if p.1 - 1 = 0 then 0 else p.2)
def shareList (bs : List (Int × Int)) (at' : Int) : List (Int × Int) := if shareCode bs at' = 0 then bs.set at'.toNat (more1 (bs.getD at'.toNat (0, 0))) else []
def dropList (bs : List (Int × Int)) (at' : Int) : List (Int × Int) := if askCode bs at' = 0 then bs.set at'.toNat (less1 (bs.getD at'.toNat (0, 0))) else []
def newBCode (n : Int) : Int := if 0 ≤ n ∧ n ≤ 24 then 0 else 3
def newBList (n : Int) : List (Int × Int) := if newBCode n = 0 then List.replicate n.toNat (0, 0) else []
structure Taken (bs : List (Int × Int)) (x : Int) (k : Nat) : Prop where
 fr : freeAt bs = some k
 lt : k < bs.length
 was : bs.getD k (0, 0) = (0, 0)
 f0 : blkFault bs = 0
 at' : takeAt bs x = k
 li : takeList bs x = bs.set k (1, x)
 f1 : blkFault (bs.set k (1, x)) = 0
 sc : shareCode (bs.set k (1, x)) (k : Int) = 0
 sl : shareList (bs.set k (1, x)) (k : Int) = bs.set k (2, x)
 ac : askCode (bs.set k (2, x)) (k : Int) = 0
 dl : dropList (bs.set k (2, x)) (k : Int) = bs.set k (1, x)
 ad : askCode (bs.set k (1, x)) (k : Int) = 0
 el : dropList (bs.set k (1, x)) (k : Int) = bs
 fn : (freeN (bs.set k (1, x)) : Int) = (freeN bs : Int) - 1
 n0 : newBCode (bs.length : Int) = 0
 n1 : (newBList (bs.length : Int)).length = bs.length
abbrev Nd := Int × Bool × List Int
abbrev Fo := List Nd × List (Int × Int)
def nd0 : Nd := (0, false, [])
def nodeOf (f : Fo) (i : Nat) : Nd := f.1.getD i nd0
def blockOf (f : Fo) (i : Nat) : Int × Int := f.2.getD i (0, 0)
def namesOf (nd : Nd) (leaf : Bool) (at' : Int) : Nat := if nd.1 = 0 ∨ nd.2.1 ≠ leaf then 0 else nd.2.2.count at'
def namedIn (ns : List Nd) (leaf : Bool) (at' : Int) : Nat := (ns.map fun nd => namesOf nd leaf at').sum
def named (f : Fo) (leaf : Bool) (at' : Int) : Nat := namedIn f.1 leaf at'
def spotB (x : Int) : Bool := decide (0 ≤ x ∧ x ≤ 15)
def leafAt (f : Fo) (root at' : Int) : Int := if root < 0 then -1 else (nodeOf f root.toNat).2.2.getD (at'.toNat / 4) 0
def blockAt (f : Fo) (root at' : Int) : Int := if leafAt f root at' < 0 then -1 else (nodeOf f (leafAt f root at').toNat).2.2.getD (at'.toNat % 4) 0
def lessB (bs : List (Int × Int)) (i : Nat) : List (Int × Int) := bs.set i (less1 (bs.getD i (0, 0)))
def lessKids (bs : List (Int × Int)) (ks : List Int) : List (Int × Int) := ks.foldl (fun bs k => if k < 0 then bs else lessB bs k.toNat) bs
def lessLeaf (f : Fo) (i : Nat) : Fo :=
 if 0 < (nodeOf f i).1 - 1 then (f.1.set i ((nodeOf f i).1 - 1, (nodeOf f i).2), f.2)
 else (f.1.set i ((nodeOf f i).1 - 1, false, []), lessKids f.2 (nodeOf f i).2.2)
def lessLeaves (f : Fo) (ks : List Int) : Fo := ks.foldl (fun f k => if k < 0 then f else lessLeaf f k.toNat) f
def noneOf (ks : List Int) : Bool := ks.all fun k => decide (k < 0)
def withKid (ks : List Int) (i : Nat) (k : Int) : List Int := (ks ++ [-1, -1, -1, -1].drop ks.length).set i k
def OkKid (f : Fo) (leaf : Bool) (k : Int) : Prop := k = -1 ∨ (0 ≤ k ∧ if leaf = true then k.toNat < f.2.length ∧ 0 < (blockOf f k.toNat).1 else k.toNat < f.1.length ∧ 0 < (nodeOf f k.toNat).1 ∧ (nodeOf f k.toNat).2.1 = true)
structure NdOk (f : Fo) (nd : Nd) : Prop where
 r0 : 0 ≤ nd.1
 r1 : nd.1 ≤ 200
 z : nd.1 = 0 → nd = nd0
 kl : nd.1 ≠ 0 → nd.2.2.length = 4
 ks : nd.1 ≠ 0 → ∀ k ∈ nd.2.2, OkKid f nd.2.1 k
 so : nd.1 ≠ 0 → ∃ k ∈ nd.2.2, 0 ≤ k
structure Inv (f : Fo) : Prop where
 nb : f.2.length ≤ 24
 nn : f.1.length ≤ 60
 nd : ∀ i, NdOk f (nodeOf f i)
 bk : ∀ j, blkOne (blockOf f j) = 0
def ext (f : Fo) (i : Nat) : Int := (nodeOf f i).1 - (named f false i : Int)
def extB (f : Fo) (j : Nat) : Int := (blockOf f j).1 - (named f true j : Int)
structure Right (f : Fo) : Prop where
 inv : Inv f
 bl : ∀ j, j < f.2.length → extB f j = 0
 le : ∀ i, i < f.1.length → (nodeOf f i).2.1 = true → 0 ≤ ext f i
structure Less (f f' : Fo) : Prop where
 inv : Inv f'
 ln : f'.1.length = f.1.length
 lb : f'.2.length = f.2.length
 nd : ∀ m, (nodeOf f' m).1 ≠ 0 → (nodeOf f m).1 ≠ 0 ∧ (nodeOf f' m).2 = (nodeOf f m).2
 bk : ∀ j, (blockOf f' j).1 ≠ 0 → (blockOf f j).1 ≠ 0 ∧ (blockOf f' j).2 = (blockOf f j).2
structure NewAt (f : Fo) (nd : Nd) (i : Nat) (ns : List Nd) : Prop where
 was : nodeOf f i = nd0
 node : ∀ bs m, nodeOf (ns, bs) m = if m = i then nd else nodeOf f m
 nm : ∀ bs l k, named (ns, bs) l k = named f l k + namesOf nd l k
 lt : i < ns.length
 inv : NdOk (ns, f.2) nd → Inv (ns, f.2)
 no : named f false i = 0
structure Ask (f : Fo) (root at' b : Int) : Prop where
 inv : Inv f
 ex : ∀ m, 0 ≤ ext f m
 eb : ∀ j : Nat, extB f j = if (j : Int) = b then 1 else 0
 bb : b = -1 ∨ 0 ≤ b
 ro : root = -1 ∨ (0 ≤ root ∧ (nodeOf f root.toNat).1 ≠ 0 ∧ (nodeOf f root.toNat).2.1 = false)
 at0 : 0 ≤ at'
 at1 : at' ≤ 15
def oldKids (f : Fo) (root at' : Int) : List Int := if 0 ≤ leafAt f root at' then (nodeOf f (leafAt f root at').toNat).2.2 else []
def nextKids (f : Fo) (root at' b : Int) : List Int := withKid (oldKids f root at') (at'.toNat % 4) b
structure LeafSet (f : Fo) (root at' b L : Int) (g : Fo) : Prop where
 inv : Inv g
 eb : ∀ j, extB g j = 0
 bk : ∀ j, (blockOf g j).1 ≠ 0 → (blockOf f j).1 ≠ 0 ∧ (blockOf g j).2 = (blockOf f j).2
 how : (L = -1 ∧ b = -1 ∧ g = f ∧ ∀ p, p < 4 → (nextKids f root at' b).getD p 0 < 0) ∨
  (0 ≤ L ∧ nodeOf g L.toNat = (1, true, nextKids f root at' b) ∧ (∀ m, m ≠ L.toNat → nodeOf g m = nodeOf f m) ∧
   ((L = leafAt f root at' ∧ (nodeOf f L.toNat).1 = 1 ∧ (nodeOf f L.toNat).2.1 = true ∧ 0 ≤ root ∧ (nodeOf f root.toNat).1 = 1 ∧ ∀ m, ext g m = ext f m) ∨
   (nodeOf f L.toNat = nd0 ∧ ∀ m : Nat, ext g m = ext f m + if (m : Int) = L then 1 else 0)))
def rootKids (f : Fo) (root : Int) : List Int := if 0 ≤ root then (nodeOf f root.toNat).2.2 else []
def nextLeaves (f : Fo) (root at' L : Int) : List Int := withKid (rootKids f root) (at'.toNat / 4) L
structure AskR (g : Fo) (root at' L : Int) : Prop where
 inv : Inv g
 ex : ∀ m, 0 ≤ ext g m
 eb : ∀ j, extB g j = 0
 ll : L = -1 ∨ (0 ≤ L ∧ (nodeOf g L.toNat).1 ≠ 0 ∧ (nodeOf g L.toNat).2.1 = true)
 le : 0 ≤ L → 1 ≤ ext g L.toNat ∨ (0 ≤ root ∧ (nodeOf g root.toNat).1 = 1 ∧ L = (rootKids g root).getD (at'.toNat / 4) 0)
 ro : root = -1 ∨ (0 ≤ root ∧ (nodeOf g root.toNat).1 ≠ 0 ∧ (nodeOf g root.toNat).2.1 = false)
 at0 : 0 ≤ at'
 at1 : at' ≤ 15
abbrev stays (g : Fo) (root at' L : Int) : Prop := 0 ≤ root ∧ (nodeOf g root.toNat).1 = 1 ∧ L = (rootKids g root).getD (at'.toNat / 4) 0
structure RootSet (g : Fo) (root at' L R : Int) (h : Fo) : Prop where
 inv : Inv h
 eb : ∀ j, extB h j = 0
 ex : ∀ m : Nat, ext h m = ext g m - (if (m : Int) = root then 1 else 0) + (if (m : Int) = R then 1 else 0) - (if (m : Int) = L ∧ ¬ stays g root at' L then 1 else 0)
 bk : ∀ j, (blockOf h j).1 ≠ 0 → (blockOf g j).1 ≠ 0 ∧ (blockOf h j).2 = (blockOf g j).2
 nd : ∀ m : Nat, (nodeOf h m).1 ≠ 0 → (m : Int) ≠ R → (nodeOf g m).1 ≠ 0 ∧ (nodeOf h m).2 = (nodeOf g m).2
 rt : (R = -1 ∧ noneOf (nextLeaves g root at' L) = true) ∨ (0 ≤ R ∧ (nodeOf h R.toNat).1 ≠ 0 ∧ (nodeOf h R.toNat).2 = (false, nextLeaves g root at' L) ∧ ((R = root ∧ (nodeOf g root.toNat).1 = 1) ∨ (nodeOf g R.toNat = nd0 ∧ ¬ (0 ≤ root ∧ (nodeOf g root.toNat).1 = 1))))
structure PlaceSet (f : Fo) (root at' b R : Int) (h : Fo) : Prop where
 inv : Inv h
 eb : ∀ j, extB h j = 0
 ex : ∀ m : Nat, ext h m = ext f m - (if (m : Int) = root then 1 else 0) + (if (m : Int) = R then 1 else 0)
 bk : ∀ j, (blockOf h j).1 ≠ 0 → (blockOf f j).1 ≠ 0 ∧ (blockOf h j).2 = (blockOf f j).2
 rt : R = -1 ∨ (0 ≤ R ∧ (nodeOf h R.toNat).1 ≠ 0 ∧ (nodeOf h R.toNat).2.1 = false)
 look : ∀ k : Int, 0 ≤ k → k ≤ 15 → blockAt h R k = if k = at' then b else blockAt f root k
 keep : ∀ r : Nat, (nodeOf h r).1 ≠ 0 → (nodeOf h r).2.1 = false → (r : Int) ≠ R → (nodeOf f r).1 ≠ 0 ∧ (nodeOf f r).2.1 = false ∧ ∀ k : Int, 0 ≤ k → k ≤ 15 → blockAt h r k = blockAt f r k
def RootIs (f : Fo) (root : Int) : Prop := root = -1 ∨ (0 ≤ root ∧ (nodeOf f root.toNat).1 ≠ 0 ∧ (nodeOf f root.toNat).2.1 = false)
structure TreeOk (f : Fo) (root x : Int) : Prop where
 right : Right f
 ro : RootIs f root
 at0 : 0 ≤ x
 at1 : x ≤ 15
structure LeafPre (f : Fo) (i : Nat) : Prop where
 lt : i < f.1.length
 lf : (nodeOf f i).2.1 = true
 r1 : 1 ≤ (nodeOf f i).1
 r2 : (nodeOf f i).1 ≤ 200
 kl : (nodeOf f i).2.2.length = 4
 kd : ∀ k ∈ (nodeOf f i).2.2, k < 0 ∨ k.toNat < f.2.length
 bl : (nodeOf f i).1 = 1 → ∀ j m, blkOne ((lessKids f.2 ((nodeOf f i).2.2.take j)).getD m (0, 0)) = 0
structure RootPre (f : Fo) (i : Nat) : Prop where
 lt : i < f.1.length
 lf : (nodeOf f i).2.1 = false
 r1 : 1 ≤ (nodeOf f i).1
 r2 : (nodeOf f i).1 ≤ 200
 kl : (nodeOf f i).2.2.length = 4
 ln : (nodeOf f i).1 = 1 → ∀ j, j < 4 → ((nodeOf f i).2.2.getD j 0 < 0 ∨ LeafPre (lessLeaves (f.1.set i (0, false, []), f.2) ((nodeOf f i).2.2.take j)) ((nodeOf f i).2.2.getD j 0).toNat) ∧ (lessLeaves (f.1.set i (0, false, []), f.2) ((nodeOf f i).2.2.take j)).1.length = f.1.length ∧ (lessLeaves (f.1.set i (0, false, []), f.2) ((nodeOf f i).2.2.take j)).2.length = f.2.length
theorem row_src {P : Program} {w : World} {o : Bool} {l u size : Nat} {ao : Option Addr} {m c : Nat} {news : List Value} {t e : TypeId} (hk : P.underlying t = some (.slice e)) (h : RowAt w o l u size ao m c news) (h1 : ∀ x ∈ news, x.oneCell' = true) : Src P size t (.slice ao m c) m news w := by
 by_cases hm : m = 0
 ·subst hm
  have hn : news = [] := List.eq_nil_of_length_eq_zero (by have := h.len;omega)
  subst hn
  cases ao with
  | none => exact Src.ofNil w hk c
  | some a => exact Src.ofSlice w hk a 0 c [] (by simp) (fun j u hj => by simp at hj) (fun _ h => by cases h)
 ·obtain ⟨b, off, rfl, _, _, _, hc, _⟩ := h.cells hm
  refine Src.ofSlice w hk ⟨b, off, none⟩ m c news h.len (fun j u hj => ?_) h1
  have hj' := (List.getElem?_eq_some_iff.1 hj).1
  rw [show (⟨b, off, none⟩ : Addr).add j = ⟨b, off + j, none⟩ by simp [Addr.add], hc j (by have := h.len;omega)]
  simp [List.getD, hj]
theorem RowAt.of_front {w : World} {g n cap size : Nat} {cs : List Value} {rest : Array Value} {t : TypeId} (h : w.heap[g]? = some (.cells (cs.toArray ++ rest) t (0, 0))) (hn : cs.length = n * size) (hc : n ≤ cap) : RowAt w true g (g + 1) size (some ⟨g, 0, none⟩) n cap cs := by
 have hlt : g < w.heap.size := (Array.getElem?_eq_some_iff.1 h).1
 refine ⟨hn, hc, fun _ => ⟨g, 0, rfl, Nat.le_refl _, by omega, hlt, fun i hi => ?_, fun _ i _ => frozen_of_row w g _ _ t h⟩⟩
 rw [cell_of_row w g _ _ t (0, 0) h]
 have : i < cs.length := by omega
 simp [List.getD, Array.getElem?_append, this]
def Fresh (w : World) (lo hi : Nat) (e : TypeId) (size : Nat) (v : Value) (n : Nat) (cs : List Value) : Prop :=
 (n = 0 ∧ cs = [] ∧ ∃ g, v = .slice (some ⟨g, 0, none⟩) 0 0) ∨ (w.ownsRow lo e size v n cs ∧ ∀ k, v.ownBlock = some k → k < hi)
theorem run_append_fresh {P : Program} (w : World) (t ty e : TypeId) (i : TypeInfo) (z : Value) (size bytes : Nat) (ht : P.underlying t = some (.slice e)) (hi : P.info? e = some i) (hz : i.zero = some z) (hsize : i.size = size) (hby : i.bytes = bytes) (hzs0 : z.cells.size = i.size)
  (g : Nat) {o : Bool} {l u : Nat} (ao : Option Addr) (m c : Nat) (news : List Value) (hsrc : RowAt w o l u size ao m c news) (h1 : ∀ x ∈ news, x.oneCell' = true) (h63 : m ≤ 1048576) (hb : bytes ≤ 1048576) :
  ∃ ad' cap' w', (Builtin.append_ #[t, t] ty #[.slice (some ⟨g, 0, none⟩) 0 0, .slice ao m c]).run P w = .ok (.slice (some ad') m cap') w' ∧ RowAt w' true w.heap.size w'.heap.size size (some ad') m cap' news ∧ Below w.heap.size w w' ∧ Fresh w' w.heap.size w'.heap.size e size (.slice (some ad') m cap') m news := by
 subst hsize;subst hby;have hs := row_src ht hsrc h1
 by_cases hm : m = 0
 ·subst hm
  have hn : news = [] := List.eq_nil_of_length_eq_zero (by have := hsrc.len;omega)
  subst hn
  refine ⟨⟨g, 0, none⟩, 0, w, ?_, ⟨by simp, Nat.le_refl _, fun h => absurd rfl h⟩, Below.refl _ _, Or.inl ⟨rfl, rfl, _, rfl⟩⟩
  have := run_append_room_src (P := P) w t t ty e i ht hi g 0 0 0 (.slice ao 0 c) 0 [] hs (by omega) (fun j hj => by simp at hj) (fun j hj => by simp at hj)
  simpa [World.setCells] using this
 ·have hold : (Builtin.firstCells i.size 0 (.slice (some ⟨g, 0, none⟩) 0 0)).run P w.drew = .ok ([] : List Value).toArray w.drew := run_firstCells_some w.drew i.size 0 ⟨g, 0, none⟩ 0 0 [] (by simp) (fun j v hj => by simp at hj)
  have hmb : m * i.bytes ≤ 140737488355328 := Nat.le_trans (Nat.mul_le_mul h63 hb) (by decide)
  have := run_append_grow_src (P := P) w t t ty e i z ht hi hz (some ⟨g, 0, none⟩) 0 0 [] hold (.slice ao m c) m news hs (by omega) (by omega) (by rw [Nat.zero_add];exact growslice_fits (by omega) hmb)
  rw [Nat.zero_add] at this
  have hzs : z.cells.size = i.size := hzs0
  refine ⟨_, _, _, this, ?_, (Below.refl _ _).drew.alloc (Nat.le_refl _) _, Or.inr ⟨⟨hsrc.len, Or.inr ⟨w.heap.size, _, _, rfl, Nat.le_refl _, heap_alloc_new w.drew _, grownCap_ge w m 0 e, grownCap_le_maxLen w m 0 e (by unfold maxLen;omega), ?_, ?_⟩⟩, fun k hk => by simp [Value.ownBlock] at hk;subst hk;simp⟩⟩
  rotate_left 1
  ·rw [Array.size_append, size_zeroCells, hzs]
   have := grownCap_ge w m 0 e
   have hl := hsrc.len;simp only [List.nil_append, List.size_toArray, hl];rw [← Nat.add_mul]
   congr 1
   omega
  ·simp [hsrc.len]
  have hh : (w.drew.alloc (.cells (([] ++ news).toArray ++ Builtin.zeroCells z.cells (grownCap w m 0 e - m)) e)).heap[w.heap.size]? = some (.cells (news.toArray ++ Builtin.zeroCells z.cells (grownCap w m 0 e - m)) e (0, 0)) := heap_alloc_new w.drew _
  exact (RowAt.of_front hh hsrc.len (grownCap_ge w m 0 e)).widen (Nat.le_refl _) (by simp)
theorem wrapI_same (n : Int) (h : -9223372036854775808 ≤ n ∧ n ≤ 9223372036854775807) : IntKind.i64.wrap n = n := by rw [IntKind.wrap_i64]; omega
structure KeptS (S : Nat → Prop) (w w' : World) : Prop where
 os : w'.os = w.os
 tape : w'.tape = w.tape
 output : w'.output = w.output
 size : w.heap.size ≤ w'.heap.size
 block : ∀ k, k < w.heap.size → ¬ S k → w'.heap[k]? = w.heap[k]?
theorem KeptS.refl (S : Nat → Prop) (w : World) : KeptS S w w := ⟨rfl, rfl, rfl, Nat.le_refl _, fun _ _ _ => rfl⟩
theorem KeptS.trans {S : Nat → Prop} {a b c : World} (h : KeptS S a b) (k : KeptS S b c) : KeptS S a c :=
 ⟨k.os.trans h.os, k.tape.trans h.tape, k.output.trans h.output, Nat.le_trans h.size k.size, fun i hi ho => (k.block i (Nat.lt_of_lt_of_le hi h.size) ho).trans (h.block i hi ho)⟩
theorem KeptS.mono {S T : Nat → Prop} {w w' : World} (h : KeptS S w w') (hst : ∀ k, S k → T k) : KeptS T w w' := ⟨h.os, h.tape, h.output, h.size, fun k hk ho => h.block k hk fun hs => ho (hst k hs)⟩
theorem Kept.toS {lo hi : Nat} {S : Nat → Prop} {w w' : World} (h : Kept lo hi w w') (hs : ∀ k, lo ≤ k → k < hi → S k) : KeptS S w w' := ⟨h.os, h.tape, h.output, h.size, fun k hk ho => h.block k hk (by
 by_cases h1 : k < lo
 ·exact Or.inl h1
 ·by_cases h2 : hi ≤ k
  ·exact Or.inr h2
  ·exact absurd (hs k (by omega) (by omega)) ho)⟩
theorem KeptS.kept {S : Nat → Prop} {lo hi : Nat} {w w' : World} (h : KeptS S w w') (hs : ∀ k, S k → lo ≤ k ∧ k < hi) : Kept lo hi w w' := ⟨h.os, h.tape, h.output, h.size, fun k hk ho => h.block k hk fun hS => by have := hs k hS; omega⟩
theorem KeptS.below {S : Nat → Prop} {w w' : World} (h : Below w.heap.size w w') : KeptS S w w' := ⟨h.os, h.tape, h.output, h.size, fun k hk _ => h.block k hk⟩
theorem KeptS.cell {S : Nat → Prop} {w w' : World} (h : KeptS S w w') {b o : Nat} {v : Value} (hc : w.cell? ⟨b, o, none⟩ = some v) (hb : b < w.heap.size) (hs : ¬ S b) : w'.cell? ⟨b, o, none⟩ = some v := by
 rw [World.cell?_of_block (w := w) (a := ⟨b, o, none⟩) (h.block b hb hs)];exact hc
theorem KeptS.frozen {S : Nat → Prop} {w w' : World} (h : KeptS S w w') {b o : Nat} {v : Bool} (hc : w.frozen? ⟨b, o, none⟩ = v) (hb : b < w.heap.size) (hs : ¬ S b) : w'.frozen? ⟨b, o, none⟩ = v := by
 rw [World.frozen?_of_block (w := w) (a := ⟨b, o, none⟩) (h.block b hb hs)];exact hc
theorem RowAt.keptS {w w' : World} {own : Bool} {lo hi size : Nat} {ao : Option Addr} {n cap : Nat} {cs : List Value} (h : RowAt w own lo hi size ao n cap cs) {S : Nat → Prop} (hk : KeptS S w w') (hd : ∀ a, n ≠ 0 → ao = some a → ¬ S a.block) : RowAt w' own lo hi size ao n cap cs := by
 refine ⟨h.len, h.le, fun hn => ?_⟩
 obtain ⟨b, off, rfl, h1, h2, h3, h4, h5⟩ := h.cells hn
 have hs := hd _ hn rfl
 exact ⟨b, off, rfl, h1, h2, Nat.lt_of_lt_of_le h3 hk.size, fun i hi => hk.cell (h4 i hi) h3 hs, fun ho i hi => hk.frozen (h5 ho i hi) h3 hs⟩
theorem KeptS.setCell {S : Nat → Prop} {a w : World} (h : KeptS S a w) {p : Addr} (h1 : S p.block) (u : Value) : KeptS S a (w.setCell p u) :=
 h.trans ⟨rfl, rfl, rfl, by simp [World.setCell], fun k _ ho => Below.heap_setCell _ _ _ _ (fun e => ho (e ▸ h1))⟩
abbrev KS := Option Addr × Nat × Nat
def ksv (k : KS) : Value := .slice k.1 k.2.1 k.2.2
def flat3 (n : Nat) (g0 g1 g2 : Nat → Value) : List Value := (List.range (n * 3)).map fun j => if j % 3 = 0 then g0 (j / 3) else if j % 3 = 1 then g1 (j / 3) else g2 (j / 3)
def ncells (K : Nat → KS) (ns : List Nd) : List Value := flat3 ns.length (fun i => .int .i64 (ns.getD i nd0).1) (fun i => .bool (ns.getD i nd0).2.1) (fun i => ksv (K i))
def updK (K : Nat → KS) (i : Nat) (k : KS) : Nat → KS := fun j => if j = i then k else K j
def sb (ao : Option Addr) : Nat := match ao with | some a => a.block | none => 0
structure NodesAt (w : World) (own : Bool) (lo hi : Nat) (ao : Option Addr) (n cap : Nat) (K : Nat → KS) (ns : List Nd) : Prop where
 len : ns.length = n
 row : RowAt w own lo hi 3 ao n cap (ncells K ns)
 kids : ∀ i, i < n → RowAt w own lo hi 1 (K i).1 (K i).2.1 (K i).2.2 (ints (ns.getD i nd0).2.2)
 sep : own = true → ∀ i, i < n → (K i).2.1 ≠ 0 → sb (K i).1 ≠ sb ao ∧ ∀ j, j < n → j ≠ i → (K j).2.1 ≠ 0 → sb (K j).1 ≠ sb (K i).1
def inN (ao : Option Addr) (n : Nat) (K : Nat → KS) (k : Nat) : Prop := (n ≠ 0 ∧ k = sb ao) ∨ ∃ i, i < n ∧ (K i).2.1 ≠ 0 ∧ k = sb (K i).1
structure FoAt (w : World) (own : Bool) (lo hi : Nat) (an : Option Addr) (nn cn : Nat) (ab : Option Addr) (nb cb : Nat) (K : Nat → KS) (f : Fo) : Prop where
 nodes : NodesAt w own lo hi an nn cn K f.1
 blocks : RowAt w own lo hi 2 ab nb cb (pairs f.2)
 sep : own = true → nb ≠ 0 → ¬ inN an nn K (sb ab)
def kl (ns : List Nd) (i : Nat) : Nat := ((ns.take i).map fun nd => nd.2.2.length).sum
end Go.Proofs.YtclghfoinologaaGreat
