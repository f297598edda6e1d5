/- Chapter 4: what FnTrees asks: what a tree has that is set, and what all others have. -/
import Derived.Test.YtikjndmgljkhhaaZY
import Derived.Test.YtikjndmgljkhhaaZX
namespace Go.Proofs.Ytikjndmgljkhhaa
open Go.RowKit

theorem blockAt_congr {f g : Fo} (h : ∀ m, (nodeOf g m).2 = (nodeOf f m).2) (root k : Int) : blockAt g root k = blockAt f root k := by
  have e : leafAt g root k = leafAt f root k := by unfold leafAt; rw [h]
  unfold blockAt; rw [e, h]
/-- a tree that stays: its root, its places, its data -/
structure Stays (f D : Fo) (root : Int) : Prop where
  right : Right D
  ro : RootIs D root
  pl : ∀ k : Int, 0 ≤ k → k ≤ 15 → blockAt D root k = blockAt f root k
  dt : ∀ k : Int, 0 ≤ k → k ≤ 15 → 0 ≤ blockAt f root k → (blockOf D (blockAt f root k).toNat).2 = (blockOf f (blockAt f root k).toNat).2
end Go.Proofs.Ytikjndmgljkhhaa

/- Chapter 4: what FnClears asks: what a tree has of which a place is cleared, and what is free then. -/
namespace Go.Proofs.Ytikjndmgljkhhaa
open Go.RowKit

theorem lessKids_blk (ks : List Int) : ∀ bs : List (Int × Int), (lessKids bs ks).length = bs.length := by
  induction ks with
  | nil => intro bs; rfl
  | cons k r ih =>
    intro bs
    show (lessKids (if k < 0 then bs else lessB bs k.toNat) r).length = _
    rw [ih]; split
    · rfl
    · rw [lessB, List.length_set]
theorem lessLeaf_blk (f : Fo) (i : Nat) : (lessLeaf f i).2.length = f.2.length := by
  unfold lessLeaf; split
  · rfl
  · exact lessKids_blk _ _
theorem lessLeaves_blk (ks : List Int) : ∀ f : Fo, (lessLeaves f ks).2.length = f.2.length := by
  induction ks with
  | nil => intro f; rfl
  | cons k r ih =>
    intro f
    show (lessLeaves (if k < 0 then f else lessLeaf f k.toNat) r).2.length = _
    rw [ih]; split
    · rfl
    · exact lessLeaf_blk _ _
theorem lessRoot_blk (f : Fo) (i : Nat) : (lessRoot f i).2.length = f.2.length := by
  unfold lessRoot; split
  · rfl
  · exact lessLeaves_blk _ _
theorem moreTo_len {lf : Bool} {but : Nat} {ks : List Int} {f : Fo} : ∀ {j : Nat} {g : Fo}, moreTo lf but ks j f = some g → g.2.length = f.2.length := by
  intro j
  induction j with
  | zero => intro g h; cases h; rfl
  | succ j ih =>
    intro g h
    cases hm : moreTo lf but ks j f with
    | none => rw [moreTo, hm] at h; cases h
    | some g' =>
      rw [moreTo_next hm] at h
      have e := ih hm
      unfold moreStep at h
      split at h
      · cases h; exact e
      · split at h
        · split at h
          · cases h
          · cases h; show (moreB g'.2 _).length = _; rw [moreB, List.length_set]; exact e
        · split at h
          · cases h
          · cases h; exact e
theorem setLeaf_len (f : Fo) (root x b : Int) : (setLeaf f root x b).2.2.2.length = f.2.length := by
  cases h : noneOf (nextKids f root x b) with
  | true => rw [setLeaf_none h]
  | false =>
    by_cases h2 : 0 ≤ leafAt f root x ∧ (nodeOf f (leafAt f root x).toNat).1 = 1 ∧ (nodeOf f root.toNat).1 = 1
    · rw [setLeaf_same h h2]; simp only
      split
      · rw [lessB, List.length_set]
      · rfl
    · rw [setLeaf_new h h2]
      cases hw : newNd f.1 (1, true, nextKids f root x b) with
      | none => rfl
      | some q =>
        obtain ⟨i, ns⟩ := q
        simp only
        cases hm : moreKids (ns, f.2) true (nextKids f root x b) (x.toNat % 4) with
        | none => rfl
        | some f2 => exact (moreTo_len (f := (ns, f.2)) hm)
theorem setRoot_len (f : Fo) (root x L : Int) : (setRoot f root x L).2.2.2.length = f.2.length := by
  cases h : noneOf (nextLeaves f root x L) with
  | true =>
    rw [setRoot_none h]; simp only
    split
    · exact lessRoot_blk _ _
    · rfl
  | false =>
    by_cases h2 : 0 ≤ root ∧ (nodeOf f root.toNat).1 = 1
    · rw [setRoot_same h h2]; simp only
      split
      · rw [lessLeaf_blk]
      · rfl
    · rw [setRoot_new h h2]
      cases hw : newNd f.1 (1, false, nextLeaves f root x L) with
      | none => rfl
      | some q =>
        obtain ⟨i, ns⟩ := q
        simp only
        cases hm : moreKids (ns, f.2) false (nextLeaves f root x L) (x.toNat / 4) with
        | none => rfl
        | some f2 =>
          simp only
          split
          · rw [lessRoot_blk]; exact (moreTo_len (f := (ns, f.2)) hm)
          · exact (moreTo_len (f := (ns, f.2)) hm)
theorem setPlace_len (f : Fo) (root x b : Int) : (setPlace f root x b).2.2.2.length = f.2.length := by
  unfold setPlace; split
  · rw [setRoot_len, setLeaf_len]
  · rfl

theorem rep_get (n j : Nat) : (List.replicate n ((0 : Int), (0 : Int))).getD j (0, 0) = (0, 0) := by
  rw [List.getD_eq_getElem?_getD, List.getElem?_replicate]; split <;> rfl
theorem new_right {n : Nat} (h : n ≤ 24) : foFault (newFoList n) = 0 := by
  have e : newFoList n = ([], List.replicate n (0, 0)) := by
    unfold newFoList newBList
    rw [if_pos (show newBCode (n : Int) = 0 from if_pos ⟨by omega, by omega⟩), Int.toNat_natCast]
  rw [e]
  have hb : ∀ j, blockOf ([], List.replicate n (0, 0)) j = (0, 0) := fun j => rep_get n j
  refine fault_of_right ⟨⟨by simpa using h, by simp, fun i => ?_, fun j => by rw [hb]; decide⟩, fun j _ => ?_, fun i hi => by simp at hi⟩
  · have : nodeOf ([], List.replicate n (0, 0)) i = nd0 := by simp [nodeOf]
    rw [this]; exact nd0_ok _
  · unfold extB; rw [hb]; rfl
end Go.Proofs.Ytikjndmgljkhhaa
