/- Chapter 5, plain: what an operation comes to: the reply, the value, the forest, the volumes. -/
import Derived.Test.YtikjndmgljkhhaaYP
namespace Go.Proofs.Ytikjndmgljkhhaa
open Go.RowKit

def newVR (vs : List Vo) (id : Int) : Int := if volPl vs id = -1 then (if vs.length = 6 then 2 else 0) else 7
def setRootV (vs : List Vo) (m : Nat) (rt : Int) : List Vo := vs.set m ((vs.getD m vo0).1, (vs.getD m vo0).2.1, rt)
/-- where a volume of an id goes -/
def putAt : List Vo → Int → Nat
  | [], _ => 0
  | v :: r, id => if v.1 < id then putAt r id + 1 else 0
def putV (vs : List Vo) (v : Vo) : List Vo := vs.take (putAt vs v.1) ++ v :: vs.drop (putAt vs v.1)
theorem putAt_le (vs : List Vo) (id : Int) : putAt vs id ≤ vs.length := by
  induction vs with
  | nil => exact Nat.le_refl _
  | cons v r ih => unfold putAt; split <;> simp; omega
theorem putAt_lt (vs : List Vo) (id : Int) : ∀ j, j < putAt vs id → (vs.getD j vo0).1 < id := by
  induction vs with
  | nil => intro j h; exact absurd h (Nat.not_lt_zero _)
  | cons v r ih =>
    intro j h
    unfold putAt at h
    split at h
    case isTrue hv =>
      cases j with
      | zero => simpa using hv
      | succ j => simpa using ih j (by omega)
    case isFalse => exact absurd h (Nat.not_lt_zero _)
theorem putAt_ge (vs : List Vo) (id : Int) (h : putAt vs id < vs.length) : ¬ (vs.getD (putAt vs id) vo0).1 < id := by
  induction vs with
  | nil => exact absurd h (Nat.not_lt_zero _)
  | cons v r ih =>
    unfold putAt at h ⊢
    split
    case isTrue hv => rw [if_pos hv] at h; simpa using ih (by simpa using h)
    case isFalse hv => simpa using hv
theorem putAt_is {vs : List Vo} {id : Int} {k : Nat} (h : k ≤ vs.length) (h1 : ∀ j, j < k → (vs.getD j vo0).1 < id) (h2 : k < vs.length → ¬ (vs.getD k vo0).1 < id) : putAt vs id = k := by
  have a := putAt_le vs id
  by_cases c : putAt vs id < k
  · exact absurd (h1 _ c) (putAt_ge vs id (by omega))
  · by_cases c' : k < putAt vs id
    · exact absurd (putAt_lt vs id k c') (h2 (by omega))
    · omega
/-- what a write comes to: the reply, the forest, the volumes -/
def writeR (f : Fo) (vs : List Vo) (m : Nat) (a x : Int) : Int × Fo × List Vo :=
  let v := vs.getD m vo0
  if blockAt f v.2.2 a = -1 ∧ (usedN f v.2.2 : Int) = v.2.1 then (9, f, vs)
  else if setTCode f v.2.2 a x = 0 then (0, setFo f v.2.2 a x, setRootV vs m (setRootT f v.2.2 a x)) else (setTCode f v.2.2 a x, f, vs)
def clearR (f : Fo) (vs : List Vo) (m : Nat) (a : Int) : Int × Fo × List Vo :=
  let v := vs.getD m vo0
  if clearTCode f v.2.2 a = 0 then (0, clearFo f v.2.2 a, setRootV vs m (clearRootT f v.2.2 a)) else (clearTCode f v.2.2 a, f, vs)
def snapR (f : Fo) (vs : List Vo) (m : Nat) (x : Int) : Int × Fo × List Vo :=
  let v := vs.getD m vo0
  if newVR vs x = 0 then (if shareTCode f v.2.2 = 0 then (0, shareFo f v.2.2, putV vs (x, v.2.1, v.2.2)) else (shareTCode f v.2.2, f, vs)) else (newVR vs x, f, vs)
def createR (f : Fo) (vs : List Vo) (v x : Int) : Int × Fo × List Vo :=
  if newVR vs v = 0 then (0, f, putV vs (v, x, -1)) else (newVR vs v, f, vs)
def deleteR (f : Fo) (vs : List Vo) (m : Nat) : Int × Fo × List Vo := (0, dropFo f (vs.getD m vo0).2.2, vs.eraseIdx m)
/-- what a right operation comes to in a right pool -/
def applyR (f : Fo) (vs : List Vo) (k v a x : Int) : Int × Int × Fo × List Vo :=
  if k = 1 then ((createR f vs v x).1, 0, (createR f vs v x).2)
  else if volPl vs v = -1 then (4, 0, f, vs)
  else if k = 2 then ((writeR f vs (volPl vs v).toNat a x).1, 0, (writeR f vs (volPl vs v).toNat a x).2)
  else if k = 3 then ((clearR f vs (volPl vs v).toNat a).1, 0, (clearR f vs (volPl vs v).toNat a).2)
  else if k = 4 then (lookCode f (vs.getD (volPl vs v).toNat vo0).2.2 a, lookVal f (vs.getD (volPl vs v).toNat vo0).2.2 a, f, vs)
  else if k = 5 then ((snapR f vs (volPl vs v).toNat x).1, 0, (snapR f vs (volPl vs v).toNat x).2)
  else ((deleteR f vs (volPl vs v).toNat).1, 0, (deleteR f vs (volPl vs v).toNat).2)
def applyC (f : Fo) (vs : List Vo) (k v a x : Int) : Int := if poFault f vs = 0 then opF k v a x else poFault f vs
/-- what is answered with no code; with a code nothing else -/
def applyA (f : Fo) (vs : List Vo) (k v a x : Int) : Int × Int × Fo × List Vo := if applyC f vs k v a x = 0 then applyR f vs k v a x else (0, 0, ([], []), [])

end Go.Proofs.Ytikjndmgljkhhaa
