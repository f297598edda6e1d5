/- Chapter 4: what is so when the model's SetTree gives nodes back. -/
import Derived.Test.YtikjndmgljkhhaaZT
namespace Go.Proofs.Ytikjndmgljkhhaa
open Go.RowKit

end Go.Proofs.Ytikjndmgljkhhaa

/- Chapter 4: what is so when a tree is set and nodes are given back: for the program, which asks more. -/
namespace Go.Proofs.Ytikjndmgljkhhaa
open Go.RowKit

theorem root_lessP {g : Fo} {root at' L : Int} (h : AskR g root at' L) {r : Nat} (hr : root = r) : RootP g r := by
  obtain ⟨_, r1, r2⟩ := h.ro.resolve_left (by omega)
  rw [hr, Int.toNat_natCast] at r1 r2
  exact rootP_of h.inv (fun j => by rw [h.eb]; decide) h.ex r1 r2

theorem leaf_lessP {g : Fo} {at' L : Int} {r : Nat} (h : AskR g r at' L) (hn : noneOf (nextLeaves g r at' L) = false) (hp : (nodeOf g r).1 = 1) {q : Nat} (hq : (rootKids g r).getD (at'.toNat / 4) 0 = q) (hqL : (q : Int) ≠ L) : LeafP (g.1.set r (1, false, nextLeaves g r at' L), g.2) q := by
  have h0 := h.at0; have h1 := h.at1
  have hol := rootKids_len h.inv h.ro
  obtain ⟨_, r1, r2⟩ := h.ro.resolve_left (by omega)
  have hok : rootKids g r = (nodeOf g r).2.2 := by rw [rootKids, if_pos (by omega), Int.toNat_natCast]
  rw [Int.toNat_natCast] at r1 r2
  have ho4 : (rootKids g r).length = 4 := by rw [hok]; exact (h.inv.nd _).kl r1
  have hri := live_lt r1
  have hno := h.inv.own r2
  have hnode : ∀ m, m ≠ r → nodeOf (g.1.set r (1, false, nextLeaves g r at' L), g.2) m = nodeOf g m := fun m hm => by rw [nodeOf_set _ _ _ _ _ hri, if_neg hm]; rfl
  have hnr : nodeOf (g.1.set r (1, false, nextLeaves g r at' L), g.2) r = (1, false, nextLeaves g r at' L) := by rw [nodeOf_set _ _ _ _ _ hri, if_pos rfl]
  have hI1 : Inv (g.1.set r (1, false, nextLeaves g r at' L), g.2) := h.inv.put hri (leaves_ok h (fun m _ hm2 => hnode m fun e => by rw [e, r2] at hm2; cases hm2) hn) (Or.inl hno)
  have hnt : ∀ k, namesOf (nodeOf g r) true k = 0 := fun k => by unfold namesOf; rw [if_pos (Or.inr (by rw [r2]; decide))]
  have hnf : ∀ k, namesOf (nodeOf g r) false k = (rootKids g r).count k := fun k => by unfold namesOf; rw [if_neg (fun hc => hc.elim r1 (fun e => e r2)), hok]
  have hB1 : ∀ j, extB (g.1.set r (1, false, nextLeaves g r at' L), g.2) j = 0 := fun j => by
    have := h.eb j
    unfold extB at this ⊢
    rw [named_set g hri, hnt, show namesOf (1, false, nextLeaves g r at' L) true j = 0 from by simp [namesOf]]
    have e : (blockOf (g.1.set r (1, false, nextLeaves g r at' L), g.2) j).1 = (blockOf g j).1 := rfl
    rw [e]; omega
  have hE1 : ∀ x : Nat, ext (g.1.set r (1, false, nextLeaves g r at' L), g.2) x = ext g x + (if (x : Int) = (rootKids g r).getD (at'.toNat / 4) 0 then 1 else 0) - (if (x : Int) = L then 1 else 0) := fun x => by
    have c1 := leaves_count h x
    have c2 := cnt_all (ks := rootKids g r) ho4 (but := at'.toNat / 4) (by omega) x
    have c3 := cnt_congr (ks := nextLeaves g r at' L) (ks' := rootKids g r) (but := at'.toNat / 4) (fun p hp hne => by
      rw [nextLeaves, with_getD hol (by omega) _ hp, if_neg hne, if_neg (fun e => by rw [e] at ho4; simp at ho4)]) x 4 (Nat.le_refl _)
    have e1 : ext (g.1.set r (1, false, nextLeaves g r at' L), g.2) x = ext g x + ((rootKids g r).count (x : Int) : Int) - ((nextLeaves g r at' L).count (x : Int) : Int) := by
      unfold ext
      rw [named_set g hri, hnf, show namesOf (1, false, nextLeaves g r at' L) false (x : Int) = (nextLeaves g r at' L).count (x : Int) from by simp [namesOf]]
      by_cases e : x = r
      · rw [e, hnr, hp]; simp only; omega
      · rw [hnode x e]; omega
    rw [e1, c1, c3]
    by_cases ea : (rootKids g r).getD (at'.toNat / 4) 0 = (x : Int)
    · rw [if_pos ea] at c2; rw [if_pos ea.symm]; omega
    · rw [if_neg ea] at c2; rw [if_neg (Ne.symm ea)]; omega
  obtain ⟨_, o1, o2⟩ := (show (q : Int) = -1 ∨ (0 ≤ (q : Int) ∧ (nodeOf g (q : Int).toNat).1 ≠ 0 ∧ (nodeOf g (q : Int).toNat).2.1 = true) by rw [← hq]; exact rootKids_live h.inv h.ro (getD_four ho4 (by omega))).resolve_left (by omega)
  rw [Int.toNat_natCast] at o1 o2
  have hqr : q ≠ r := fun e => by rw [e, r2] at o2; cases o2
  exact leafP_of hI1 (fun j => by rw [hB1]; decide) (by rw [hnode q hqr]; exact o2) (by rw [hE1, hq, if_pos rfl, if_neg hqL]; have := h.ex q; omega)

theorem new_lessP {g : Fo} {root at' L : Int} (h : AskR g root at' L) (hn : noneOf (nextLeaves g root at' L) = false) (hp : ¬ (0 ≤ root ∧ (nodeOf g root.toNat).1 = 1)) {i : Nat} {ns : List Nd} (hw : newNd g.1 (1, false, nextLeaves g root at' L) = some (i, ns)) {f2 : Fo} (hm : moreKids (ns, g.2) false (nextLeaves g root at' L) (at'.toNat / 4) = some f2) {r : Nat} (hr : root = r) : RootP f2 r := by
  obtain ⟨_, r1, r2⟩ := h.ro.resolve_left (by omega)
  have hN := new_at h.inv hw
  have hI1 := hN.inv (leaves_ok h (fun m hm1 _ => by rw [hN.node, if_neg (fun e => by rw [e, hN.was] at hm1; exact hm1 rfl)]) hn)
  have hE1 : ∀ x : Nat, ext (ns, g.2) x = ext g x + (if x = i then 1 else 0) - ((nextLeaves g root at' L).count (x : Int) : Int) := fun x => by
    unfold ext
    rw [hN.nm, show namesOf (1, false, nextLeaves g root at' L) false (x : Int) = (nextLeaves g root at' L).count (x : Int) from by simp [namesOf], hN.node]
    by_cases e : x = i
    · rw [if_pos e, if_pos e, e, hN.was]; simp [nd0]; omega
    · rw [if_neg e, if_neg e]; omega
  have hB1 : ∀ j, extB (ns, g.2) j = 0 := fun j => by
    have := h.eb j
    unfold extB at this ⊢
    rw [hN.nm, show namesOf (1, false, nextLeaves g root at' L) true j = 0 from by simp [namesOf]]
    have e : (blockOf (ns, g.2) j).1 = (blockOf g j).1 := rfl
    rw [e]; omega
  obtain ⟨a1, a2, a3, a4⟩ := moreTo_root hI1 (ks := nextLeaves g root at' L) (but := at'.toNat / 4) (fun p hp hne => by
    rcases nextLeaves_live h hp with e | ⟨_, e2, _⟩
    · left; omega
    · right; rw [hN.node, if_neg (fun e => by rw [e, hN.was] at e2; exact e2 rfl)]; exact e2) 4 (Nat.le_refl _) hm
  have hE2 : ∀ x : Nat, ext f2 x = ext g x + (if x = i then 1 else 0) - (if (x : Int) = L then 1 else 0) := fun x => by
    rw [a2, hE1, leaves_count h x]; omega
  have hB2 : ∀ j, extB f2 j = 0 := fun j => by rw [a3, hB1]
  rw [hr, Int.toNat_natCast] at r1 r2
  have hri : r ≠ i := fun e => by rw [e, hN.was] at r1; exact r1 rfl
  have hl : (nodeOf f2 r).1 ≠ 0 := a4 r (by rw [hN.node, if_neg hri]; exact r1)
  have e2 := (a1.nd r hl).2
  rw [hN.node, if_neg hri] at e2
  refine rootP_of a1.inv (fun j => by rw [hB2]; decide) (fun m => ?_) hl (by rw [e2]; exact r2)
  rw [hE2]
  have hx := h.ex m
  by_cases e : (m : Int) = L
  · rw [if_pos e]
    rcases h.le (by omega) with h1 | h1
    · rw [show L.toNat = m by omega] at h1; split <;> omega
    · exact absurd ⟨h1.1, h1.2.1⟩ hp
  · rw [if_neg e]; split <;> omega

end Go.Proofs.Ytikjndmgljkhhaa
