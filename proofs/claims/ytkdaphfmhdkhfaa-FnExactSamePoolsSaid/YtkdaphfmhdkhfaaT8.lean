/- Chapter 4: what the functions answer is right, and not great. -/
import Derived.Test.YtkdaphfmhdkhfaaZT
import Derived.Test.YtkdaphfmhdkhfaaZM
namespace Go.Proofs.Ytkdaphfmhdkhfaa
open Go.RowKit

def dropRoot (f : Fo) (root : Int) : Int := atIf (treeCode f root 0) (-1)
def shareFo (f : Fo) (root : Int) : Fo := foIf (shareTCode f root) (shareF f root)
def dropFo (f : Fo) (root : Int) : Fo := foIf (treeCode f root 0) (dropF f root)
def setRootT (f : Fo) (root at' x : Int) : Int := atIf (setTCode f root at' x) (setTF f root at' x).1
def setFo (f : Fo) (root at' x : Int) : Fo := foIf (setTCode f root at' x) (setTF f root at' x).2.2
def clearRootT (f : Fo) (root at' : Int) : Int := atIf (clearTCode f root at') (setPlace f root at' (-1)).1
def clearFo (f : Fo) (root at' : Int) : Fo := foIf (clearTCode f root at') (setPlace f root at' (-1)).2.2

theorem share_right {f : Fo} {root : Int} (h : shareTCode f root = 0) : TreeOk f root 0 ∧ Right (shareF f root) ∧ (0 ≤ root → (nodeOf f root.toNat).1 < 200) := by
  unfold shareTCode at h
  by_cases h0 : treeCode f root 0 = 0
  · rw [if_pos h0] at h
    have T := tree_of h0
    by_cases h1 : 0 ≤ root ∧ 200 ≤ (nodeOf f root.toNat).1
    · rw [if_pos h1] at h; exact absurd h (by decide)
    · have hlt : 0 ≤ root → (nodeOf f root.toNat).1 < 200 := fun hr => by omega
      refine ⟨T, ?_, hlt⟩
      unfold shareF
      by_cases hr : 0 ≤ root
      · rw [if_pos hr]
        obtain ⟨_, r1, r2⟩ := T.ro.resolve_left (by omega)
        obtain ⟨a, b, c, _⟩ := moreAt_step T.right.inv r1 (hlt hr)
        refine ⟨a.inv, fun j _ => by rw [c]; exact extB_zero T.right j, fun i _ _ => ?_⟩
        rw [b]
        have := ext_pos T.right i
        by_cases e : i = root.toNat
        · rw [if_pos e]; omega
        · rw [if_neg e]; exact this
      · rw [if_neg hr]; exact T.right
  · rw [if_neg h0] at h; exact absurd h h0
theorem drop_right {f : Fo} {root : Int} (h : treeCode f root 0 = 0) : Right (dropF f root) := by
  have T := tree_of h
  unfold dropF
  by_cases hr : 0 ≤ root
  · rw [if_pos hr]
    obtain ⟨_, r1, r2⟩ := T.ro.resolve_left (by omega)
    obtain ⟨a, b, c⟩ := lessRoot_ok T.right.inv (fun j => by rw [extB_zero T.right]; decide) (ext_pos T.right) r1 r2
    refine ⟨a.inv, fun j _ => by rw [c]; exact extB_zero T.right j, fun i _ _ => ?_⟩
    rw [b]
    have := ext_pos T.right i
    by_cases e : i = root.toNat
    · have h1 := ext_root T.right.inv T.ro hr
      rw [if_pos e, e]; omega
    · rw [if_neg e]; exact this
  · rw [if_neg hr]; exact T.right
theorem set_parts {f : Fo} {root at' x : Int} (h : setTCode f root at' x = 0) : ∃ b, TreeOk f root at' ∧ 0 ≤ x ∧ x ≤ 255 ∧ freeAt f.2 = some b ∧ setTF f root at' x = setPlace (f.1, f.2.set b (1, x)) root at' b ∧ (setPlace (f.1, f.2.set b (1, x)) root at' b).2.1 = 0 := by
  unfold setTCode at h
  by_cases h0 : treeCode f root at' = 0
  · rw [if_pos h0] at h
    cases hx : dataB x with
    | false => rw [hx, if_neg (by decide)] at h; exact absurd h (by decide)
    | true =>
      rw [hx, if_pos rfl] at h
      cases hf : freeAt f.2 with
      | none => rw [hf] at h; simp at h
      | some b =>
        rw [hf] at h
        have hx' := of_decide_eq_true hx
        exact ⟨b, tree_of h0, hx'.1, hx'.2, rfl, by unfold setTF; rw [hf], h⟩
  · rw [if_neg h0] at h; exact absurd h h0
theorem set_place {f : Fo} {root at' x : Int} (h : setTCode f root at' x = 0) : ∃ b, TreeOk f root at' ∧ 0 ≤ x ∧ x ≤ 255 ∧ freeAt f.2 = some b ∧ PlaceSet (f.1, f.2.set b (1, x)) root at' b (setTF f root at' x).1 (setTF f root at' x).2.2 ∧ Right (setTF f root at' x).2.2 := by
  obtain ⟨b, T, x0, x1, hb, e, hc⟩ := set_parts h
  have A := ask_take T hb x0 x1
  have P := place_ok A hc
  rw [e]
  exact ⟨b, T, x0, x1, hb, P, right_after A.ex (fun hr => ext_root (f := (f.1, f.2.set b (1, x))) A.inv (by exact A.ro) hr) P⟩
theorem clear_parts {f : Fo} {root at' : Int} (h : clearTCode f root at' = 0) : TreeOk f root at' ∧ 0 ≤ blockAt f root at' ∧ (setPlace f root at' (-1)).2.1 = 0 := by
  unfold clearTCode at h
  by_cases h0 : treeCode f root at' = 0
  · rw [if_pos h0] at h
    by_cases h1 : blockAt f root at' < 0
    · rw [if_pos h1] at h; exact absurd h (by decide)
    · rw [if_neg h1] at h; exact ⟨tree_of h0, by omega, h⟩
  · rw [if_neg h0] at h; exact absurd h h0
theorem clear_place {f : Fo} {root at' : Int} (h : clearTCode f root at' = 0) : TreeOk f root at' ∧ 0 ≤ blockAt f root at' ∧ PlaceSet f root at' (-1) (setPlace f root at' (-1)).1 (setPlace f root at' (-1)).2.2 ∧ Right (setPlace f root at' (-1)).2.2 := by
  obtain ⟨T, h1, hc⟩ := clear_parts h
  have A := ask_clear T
  have P := place_ok A hc
  exact ⟨T, h1, P, right_after A.ex (fun hr => ext_root A.inv A.ro hr) P⟩

/-- the answer is not great -/
def Lesser (g : Fo) : Prop := g.1.length ≤ 60 ∧ g.2.length ≤ 24 ∧ kl g.1 g.1.length ≤ 1048576
theorem kl_four {ns : List Nd} (h : ∀ i, i < ns.length → (ns.getD i nd0).2.2.length ≤ 4) : ∀ i, i ≤ ns.length → kl ns i ≤ 4 * i := by
  intro i
  induction i with
  | zero => intro _; simp [kl]
  | succ i ih => intro hi; rw [kl_succ (by omega)]; have := ih (by omega); have := h i (by omega); omega
theorem Inv.lesser {g : Fo} (h : Inv g) : Lesser g := by
  refine ⟨h.nn, h.nb, ?_⟩
  have := kl_four (ns := g.1) (fun i _ => by
    have hN := h.nd i
    by_cases h0 : (nodeOf g i).1 = 0
    · have := hN.z h0
      unfold nodeOf at this
      rw [this]; simp [nd0]
    · have := hN.kl h0
      unfold nodeOf at this
      omega) g.1.length (Nat.le_refl _)
  have := h.nn
  omega
theorem foIf_lesser {c : Int} {g : Fo} (h : c = 0 → Inv g) : Lesser (foIf c g) := by
  unfold foIf
  by_cases e : c = 0
  · rw [if_pos e]; exact (h e).lesser
  · rw [if_neg e]; exact ⟨by simp, by simp, by simp [kl]⟩
theorem share_size (f : Fo) (root : Int) : Lesser (shareFo f root) := foIf_lesser fun h => (share_right h).2.1.inv
theorem drop_size (f : Fo) (root : Int) : Lesser (dropFo f root) := foIf_lesser fun h => (drop_right h).inv
theorem set_size (f : Fo) (root at' x : Int) : Lesser (setFo f root at' x) := foIf_lesser fun h => by obtain ⟨_, _, _, _, _, _, R⟩ := set_place h; exact R.inv
theorem clear_size (f : Fo) (root at' : Int) : Lesser (clearFo f root at') := foIf_lesser fun h => (clear_place h).2.2.2.inv
theorem walk_len (f : Fo) (root : Int) : (walkList f root).length ≤ 32 := by
  have hw : ∀ k, (walkTo f root k).length ≤ 2 * k := fun k => by
    induction k with
    | zero => simp [walkTo]
    | succ k ih =>
      have e : walkTo f root (k + 1) = walkTo f root k ++ walkOne f root k := by simp [walkTo, List.range_succ]
      rw [e, List.length_append]
      have : (walkOne f root k).length ≤ 2 := by unfold walkOne; split <;> simp
      omega
  unfold walkList; split
  · have := hw 16; omega
  · simp
theorem newF_size (x : Int) : Lesser (newFoList x) := by
  refine ⟨by simp [newFoList], ?_, by simp [newFoList, kl]⟩
  show (newBList x).length ≤ 24
  unfold newBList newBCode
  by_cases h : 0 ≤ x ∧ x ≤ 24
  · rw [if_pos (if_pos h)]; simp; omega
  · rw [if_neg (by rw [if_neg h]; decide)]; simp

end Go.Proofs.Ytkdaphfmhdkhfaa
