/- Chapter 4: one more refers to each of some kids: what the model does. -/
import Derived.Test.YtikjndmgljkhhaaZW
import Derived.BigQuiet
import Derived.Test.YtikjndmgljkhhaaZY
namespace Go.Proofs.Ytikjndmgljkhhaa
open Go.RowKit

theorem moreTo_next {lf : Bool} {but : Nat} {ks : List Int} {f g : Fo} {j : Nat} (h : moreTo lf but ks j f = some g) : moreTo lf but ks (j + 1) f = moreStep lf but g j (ks.getD j 0) := by rw [moreTo, h]; rfl
/-- no count is below 0 -/
def Pos (f : Fo) : Prop := (∀ m, 0 ≤ (blockOf f m).1) ∧ ∀ m, 0 ≤ (nodeOf f m).1
theorem Pos.moreB {f : Fo} (h : Pos f) {q : Nat} (hq : q < f.2.length) : Pos (f.1, Go.Proofs.Ytikjndmgljkhhaa.moreB f.2 q) :=
  ⟨fun m => by
    rw [Go.Proofs.Ytikjndmgljkhhaa.moreB, blockOf_set _ _ _ _ _ hq]
    have h1 := h.1 q; have h2 := h.1 m
    unfold blockOf at h1 h2
    split
    · simp only [more1]; omega
    · exact h2, h.2⟩
theorem Pos.moreAt {f : Fo} (h : Pos f) {q : Nat} (hq : q < f.1.length) : Pos (Go.Proofs.Ytikjndmgljkhhaa.moreAt f q) :=
  ⟨h.1, fun m => by
    have h1 := h.2 q; have h2 := h.2 m
    unfold nodeOf at h1 h2
    show 0 ≤ ((f.1.set q (moreNd (nodeOf f q))).getD m nd0).1
    rw [set_getN _ _ _ _ hq]
    split
    · simp only [moreNd, nodeOf]; omega
    · exact h2⟩
end Go.Proofs.Ytikjndmgljkhhaa

/- Chapter 4: the leaf of a place with another block there: what the model does. -/
namespace Go.Proofs.Ytikjndmgljkhhaa
open Go.RowKit

def LeafRes (w w' : World) (e : Ending) (lo P : Nat) (ab : Option Addr) (nb cb : Nat) (r : Int × Int × Fo) : Prop :=
  (r.2.1 ≠ 0 ∧ e = .returned (.tuple #[.int .i64 (-1), .int .i64 r.2.1]) ∧ Below lo w w') ∨
  (r.2.1 = 0 ∧ e = .returned (.tuple #[.int .i64 r.1, .int .i64 0]) ∧ (∃ vn' K', OutAt w' lo P vn' ab nb cb K' r.2.2) ∧ Below lo w w')
theorem LeafRes.ok {w w' : World} {e : Ending} {lo P : Nat} {ab : Option Addr} {nb cb : Nat} {x : Int} {g : Fo} {vn' : Value} {K' : Nat → KS} (he : e = .returned (.tuple #[.int .i64 x, .int .i64 0])) (I : OutAt w' lo P vn' ab nb cb K' g) (hb : Below lo w w') : LeafRes w w' e lo P ab nb cb (x, 0, g) := Or.inr ⟨rfl, he, ⟨_, _, I⟩, hb⟩
theorem LeafRes.bad {w w' : World} {e : Ending} {lo P : Nat} {ab : Option Addr} {nb cb : Nat} {g : Fo} (he : e = .returned (.tuple #[.int .i64 (-1), .int .i64 2])) (hb : Below lo w w') : LeafRes w w' e lo P ab nb cb (-1, 2, g) := Or.inl ⟨by simp, he, hb⟩

/-- what 'setLeaf' says, by its ways -/
theorem setLeaf_none {f : Fo} {root x b : Int} (h : noneOf (nextKids f root x b) = true) : setLeaf f root x b = (-1, 0, f) := by
  unfold setLeaf; unfold nextKids oldKids at h; simp only [h, if_true]
theorem setLeaf_new {f : Fo} {root x b : Int} (h : noneOf (nextKids f root x b) = false) (h2 : ¬ (0 ≤ leafAt f root x ∧ (nodeOf f (leafAt f root x).toNat).1 = 1 ∧ (nodeOf f root.toNat).1 = 1)) :
    setLeaf f root x b = match newNd f.1 (1, true, nextKids f root x b) with
      | none => (-1, 2, f)
      | some (i, ns) => match moreKids (ns, f.2) true (nextKids f root x b) (x.toNat % 4) with
        | none => (-1, 2, f)
        | some f2 => (i, 0, f2) := by
  unfold setLeaf; unfold nextKids oldKids at *; simp only [h, if_neg h2]; rfl
theorem setLeaf_same {f : Fo} {root x b : Int} (h : noneOf (nextKids f root x b) = false) (h2 : 0 ≤ leafAt f root x ∧ (nodeOf f (leafAt f root x).toNat).1 = 1 ∧ (nodeOf f root.toNat).1 = 1) :
    setLeaf f root x b = (leafAt f root x, 0, (f.1.set (leafAt f root x).toNat ((nodeOf f (leafAt f root x).toNat).1, (nodeOf f (leafAt f root x).toNat).2.1, nextKids f root x b), if 0 ≤ (oldKids f root x).getD (x.toNat % 4) 0 then lessB f.2 ((oldKids f root x).getD (x.toNat % 4) 0).toNat else f.2)) := by
  unfold setLeaf; unfold nextKids oldKids at *; simp only [h, if_pos h2]; rfl

end Go.Proofs.Ytikjndmgljkhhaa

/- Chapter 4: the root with another leaf at a place: what the model does. -/
namespace Go.Proofs.Ytikjndmgljkhhaa
open Go.RowKit

/-- what 'setRoot' says, by its ways -/
theorem setRoot_none {f : Fo} {root x L : Int} (h : noneOf (nextLeaves f root x L) = true) : setRoot f root x L = (-1, 0, if 0 ≤ root then lessRoot f root.toNat else f) := by
  unfold setRoot; unfold nextLeaves rootKids at h; simp only [h, if_true]
theorem setRoot_new {f : Fo} {root x L : Int} (h : noneOf (nextLeaves f root x L) = false) (h2 : ¬ (0 ≤ root ∧ (nodeOf f root.toNat).1 = 1)) :
    setRoot f root x L = match newNd f.1 (1, false, nextLeaves f root x L) with
      | none => (-1, 2, f)
      | some (i, ns) => match moreKids (ns, f.2) false (nextLeaves f root x L) (x.toNat / 4) with
        | none => (-1, 2, f)
        | some f2 => (i, 0, if 0 ≤ root then lessRoot f2 root.toNat else f2) := by
  unfold setRoot; unfold nextLeaves rootKids at *; simp only [h, if_neg h2]; rfl
theorem setRoot_same {f : Fo} {root x L : Int} (h : noneOf (nextLeaves f root x L) = false) (h2 : 0 ≤ root ∧ (nodeOf f root.toNat).1 = 1) :
    setRoot f root x L = (root, 0, if 0 ≤ (rootKids f root).getD (x.toNat / 4) 0 ∧ (rootKids f root).getD (x.toNat / 4) 0 ≠ L then lessLeaf (f.1.set root.toNat ((nodeOf f root.toNat).1, (nodeOf f root.toNat).2.1, nextLeaves f root x L), f.2) ((rootKids f root).getD (x.toNat / 4) 0).toNat else (f.1.set root.toNat ((nodeOf f root.toNat).1, (nodeOf f root.toNat).2.1, nextLeaves f root x L), f.2)) := by
  unfold setRoot; unfold nextLeaves rootKids at *; simp only [h, if_pos h2]; rfl

end Go.Proofs.Ytikjndmgljkhhaa

/- Chapter 4: a place with another block: what the model does. -/
namespace Go.Proofs.Ytikjndmgljkhhaa
open Go.RowKit

theorem askR_of {f : Fo} {root at' b L : Int} {g : Fo} (A : Ask f root at' b) (S : LeafSet f root at' b L g) : AskR g root at' L := by
  have h0 := A.at0; have h1 := A.at1
  -- the root is no leaf, so it stays as it was
  have hrg : 0 ≤ root → nodeOf g root.toNat = nodeOf f root.toNat ∧ (root ≠ L) := fun r0 => by
    obtain ⟨_, r1, r2⟩ := A.ro.resolve_left (by omega)
    rcases S.how with ⟨e1, _, e2, _⟩ | ⟨e1, e2, e3, e4⟩
    · rw [e2]; exact ⟨rfl, by omega⟩
    · have hne : root ≠ L := fun e => by
        rcases e4 with ⟨_, _, x, _⟩ | ⟨x, _⟩
        · rw [← e, r2] at x; cases x
        · rw [← e] at x; rw [x] at r1; exact r1 rfl
      exact ⟨e3 _ (by omega), hne⟩
  have hrk : rootKids g root = rootKids f root := by
    unfold rootKids
    by_cases r0 : 0 ≤ root
    · rw [if_pos r0, if_pos r0, (hrg r0).1]
    · rw [if_neg r0, if_neg r0]
  have hrl : ∀ k : Int, 0 ≤ root → leafAt f root k = (rootKids f root).getD (k.toNat / 4) 0 := fun k r0 => by
    unfold leafAt rootKids; rw [if_neg (by omega), if_pos r0]
  have hst : stays g root at' L ↔ (0 ≤ L ∧ L = leafAt f root at' ∧ (nodeOf f L.toNat).1 = 1 ∧ ∀ m, ext g m = ext f m) ∨ (stays g root at' L ∧ L = -1) := by
    constructor
    · intro hs
      rcases S.how with ⟨e1, _, _, _⟩ | ⟨e1, e2, e3, e4⟩
      · exact Or.inr ⟨hs, e1⟩
      · left
        rcases e4 with ⟨x1, x2, _, _, _, x3⟩ | ⟨x, _⟩
        · exact ⟨e1, x1, x2, x3⟩
        · have hs3 := hs.2.2
          rw [hrk, ← hrl at' hs.1] at hs3
          obtain ⟨_, y1, _⟩ := (leaf_cases A.inv A.ro h0 h1).resolve_left (by omega)
          rw [← hs3, x] at y1; exact absurd rfl y1
    · rintro (⟨e1, e2, e3, e4⟩ | ⟨hs, _⟩)
      · rcases S.how with ⟨e5, _⟩ | ⟨_, _, _, e7⟩
        · omega
        · rcases e7 with ⟨x1, _, _, x4, x5, _⟩ | ⟨x, _⟩
          · refine ⟨x4, by rw [(hrg x4).1]; exact x5, ?_⟩
            rw [hrk, ← hrl at' x4]; exact x1
          · rw [x] at e3; exact absurd e3 (by decide)
      · exact hs
  refine ⟨S.inv, fun m => ?_, S.eb, ?_, fun hL0 => ?_, ?_, h0, h1⟩
  · have := A.ex m
    rcases S.how with ⟨_, _, e2, _⟩ | ⟨_, _, _, ⟨_, _, _, _, _, x⟩ | ⟨_, x⟩⟩
    · rw [e2]; exact this
    · rw [x]; exact this
    · rw [x]; by_cases e : (m : Int) = L
      · rw [if_pos e]; omega
      · rw [if_neg e]; omega
  · rcases S.how with ⟨e1, _⟩ | ⟨e1, e2, _⟩
    · exact Or.inl e1
    · exact Or.inr ⟨e1, by rw [e2]; simp, by rw [e2]⟩
  · rcases S.how with ⟨e1, _⟩ | ⟨e1, _, _, ⟨x1, x2, _, x4, _, x3⟩ | ⟨_, x⟩⟩
    · omega
    · exact Or.inr (hst.2 (Or.inl ⟨e1, x1, x2, x3⟩))
    · left
      rw [x, if_pos (by omega)]
      have := A.ex L.toNat; omega
  · rcases A.ro with e | ⟨r0, r1, r2⟩
    · exact Or.inl e
    · rw [(hrg r0).1]; exact Or.inr ⟨r0, r1, r2⟩

end Go.Proofs.Ytikjndmgljkhhaa
