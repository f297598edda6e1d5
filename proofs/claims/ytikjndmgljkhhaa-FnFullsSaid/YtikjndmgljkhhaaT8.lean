/- Chapter 4: what the functions answer is right, and not great. -/
import Derived.Test.YtikjndmgljkhhaaZT
import Derived.Test.YtikjndmgljkhhaaZM
namespace Go.Proofs.Ytikjndmgljkhhaa
open Go.RowKit

def dropRoot (f : Fo) (root : Int) : Int := atIf (treeCode f root 0) (-1)
def shareFo (f : Fo) (root : Int) : Fo := foIf (shareTCode f root) (shareF f root)
def dropFo (f : Fo) (root : Int) : Fo := foIf (treeCode f root 0) (dropF f root)
def setRootT (f : Fo) (root at' x : Int) : Int := atIf (setTCode f root at' x) (setTF f root at' x).1
def setFo (f : Fo) (root at' x : Int) : Fo := foIf (setTCode f root at' x) (setTF f root at' x).2.2
def clearRootT (f : Fo) (root at' : Int) : Int := atIf (clearTCode f root at') (setPlace f root at' (-1)).1
def clearFo (f : Fo) (root at' : Int) : Fo := foIf (clearTCode f root at') (setPlace f root at' (-1)).2.2

theorem set_parts {f : Fo} {root at' x : Int} (h : setTCode f root at' x = 0) : ∃ b, TreeOk f root at' ∧ 0 ≤ x ∧ x ≤ 255 ∧ freeAt f.2 = some b ∧ setTF f root at' x = setPlace (f.1, f.2.set b (1, x)) root at' b ∧ (setPlace (f.1, f.2.set b (1, x)) root at' b).2.1 = 0 := by
  unfold setTCode at h
  by_cases h0 : treeCode f root at' = 0
  · rw [if_pos h0] at h
    cases hx : dataB x with
    | false => rw [hx, if_neg (by decide)] at h; exact absurd h (by decide)
    | true =>
      rw [hx, if_pos rfl] at h
      cases hf : freeAt f.2 with
      | none => rw [hf] at h; simp at h
      | some b =>
        rw [hf] at h
        have hx' := of_decide_eq_true hx
        exact ⟨b, tree_of h0, hx'.1, hx'.2, rfl, by unfold setTF; rw [hf], h⟩
  · rw [if_neg h0] at h; exact absurd h h0
theorem set_place {f : Fo} {root at' x : Int} (h : setTCode f root at' x = 0) : ∃ b, TreeOk f root at' ∧ 0 ≤ x ∧ x ≤ 255 ∧ freeAt f.2 = some b ∧ PlaceSet (f.1, f.2.set b (1, x)) root at' b (setTF f root at' x).1 (setTF f root at' x).2.2 ∧ Right (setTF f root at' x).2.2 := by
  obtain ⟨b, T, x0, x1, hb, e, hc⟩ := set_parts h
  have A := ask_take T hb x0 x1
  have P := place_ok A hc
  rw [e]
  exact ⟨b, T, x0, x1, hb, P, right_after A.ex (fun hr => ext_root (f := (f.1, f.2.set b (1, x))) A.inv (by exact A.ro) hr) P⟩
end Go.Proofs.Ytikjndmgljkhhaa
