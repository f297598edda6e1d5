/- Chapter 4: what FnTrees asks: what a tree has that is set, and what all others have. -/
import Derived.Test.YtkdaphfmhdkhfaaZY
import Derived.Test.YtkdaphfmhdkhfaaZX
namespace Go.Proofs.Ytkdaphfmhdkhfaa
open Go.RowKit

/-- a tree that stays: its root, its places, its data -/
structure Stays (f D : Fo) (root : Int) : Prop where
  right : Right D
  ro : RootIs D root
  pl : ∀ k : Int, 0 ≤ k → k ≤ 15 → blockAt D root k = blockAt f root k
  dt : ∀ k : Int, 0 ≤ k → k ≤ 15 → 0 ≤ blockAt f root k → (blockOf D (blockAt f root k).toNat).2 = (blockOf f (blockAt f root k).toNat).2
end Go.Proofs.Ytkdaphfmhdkhfaa

/- Chapter 4: what FnClears asks: what a tree has of which a place is cleared, and what is free then. -/
namespace Go.Proofs.Ytkdaphfmhdkhfaa
open Go.RowKit

theorem lessKids_blk (ks : List Int) : ∀ bs : List (Int × Int), (lessKids bs ks).length = bs.length := by
  induction ks with
  | nil => intro bs; rfl
  | cons k r ih =>
    intro bs
    show (lessKids (if k < 0 then bs else lessB bs k.toNat) r).length = _
    rw [ih]; split
    · rfl
    · rw [lessB, List.length_set]
theorem lessLeaf_blk (f : Fo) (i : Nat) : (lessLeaf f i).2.length = f.2.length := by
  unfold lessLeaf; split
  · rfl
  · exact lessKids_blk _ _
theorem lessLeaves_blk (ks : List Int) : ∀ f : Fo, (lessLeaves f ks).2.length = f.2.length := by
  induction ks with
  | nil => intro f; rfl
  | cons k r ih =>
    intro f
    show (lessLeaves (if k < 0 then f else lessLeaf f k.toNat) r).2.length = _
    rw [ih]; split
    · rfl
    · exact lessLeaf_blk _ _
theorem lessRoot_blk (f : Fo) (i : Nat) : (lessRoot f i).2.length = f.2.length := by
  unfold lessRoot; split
  · rfl
  · exact lessLeaves_blk _ _
theorem moreTo_len {lf : Bool} {but : Nat} {ks : List Int} {f : Fo} : ∀ {j : Nat} {g : Fo}, moreTo lf but ks j f = some g → g.2.length = f.2.length := by
  intro j
  induction j with
  | zero => intro g h; cases h; rfl
  | succ j ih =>
    intro g h
    cases hm : moreTo lf but ks j f with
    | none => rw [moreTo, hm] at h; cases h
    | some g' =>
      rw [moreTo_next hm] at h
      have e := ih hm
      unfold moreStep at h
      split at h
      · cases h; exact e
      · split at h
        · split at h
          · cases h
          · cases h; show (moreB g'.2 _).length = _; rw [moreB, List.length_set]; exact e
        · split at h
          · cases h
          · cases h; exact e
theorem setLeaf_len (f : Fo) (root x b : Int) : (setLeaf f root x b).2.2.2.length = f.2.length := by
  cases h : noneOf (nextKids f root x b) with
  | true => rw [setLeaf_none h]
  | false =>
    by_cases h2 : 0 ≤ leafAt f root x ∧ (nodeOf f (leafAt f root x).toNat).1 = 1 ∧ (nodeOf f root.toNat).1 = 1
    · rw [setLeaf_same h h2]; simp only
      split
      · rw [lessB, List.length_set]
      · rfl
    · rw [setLeaf_new h h2]
      cases hw : newNd f.1 (1, true, nextKids f root x b) with
      | none => rfl
      | some q =>
        obtain ⟨i, ns⟩ := q
        simp only
        cases hm : moreKids (ns, f.2) true (nextKids f root x b) (x.toNat % 4) with
        | none => rfl
        | some f2 => exact (moreTo_len (f := (ns, f.2)) hm)
theorem setRoot_len (f : Fo) (root x L : Int) : (setRoot f root x L).2.2.2.length = f.2.length := by
  cases h : noneOf (nextLeaves f root x L) with
  | true =>
    rw [setRoot_none h]; simp only
    split
    · exact lessRoot_blk _ _
    · rfl
  | false =>
    by_cases h2 : 0 ≤ root ∧ (nodeOf f root.toNat).1 = 1
    · rw [setRoot_same h h2]; simp only
      split
      · rw [lessLeaf_blk]
      · rfl
    · rw [setRoot_new h h2]
      cases hw : newNd f.1 (1, false, nextLeaves f root x L) with
      | none => rfl
      | some q =>
        obtain ⟨i, ns⟩ := q
        simp only
        cases hm : moreKids (ns, f.2) false (nextLeaves f root x L) (x.toNat / 4) with
        | none => rfl
        | some f2 =>
          simp only
          split
          · rw [lessRoot_blk]; exact (moreTo_len (f := (ns, f.2)) hm)
          · exact (moreTo_len (f := (ns, f.2)) hm)
theorem setPlace_len (f : Fo) (root x b : Int) : (setPlace f root x b).2.2.2.length = f.2.length := by
  unfold setPlace; split
  · rw [setRoot_len, setLeaf_len]
  · rfl

theorem freeN_mono : ∀ (us bs : List (Int × Int)), us.length = bs.length → (∀ j, (us.getD j (0, 0)).1 ≠ 0 → (bs.getD j (0, 0)).1 ≠ 0) → freeN bs ≤ freeN us := by
  intro us
  induction us with
  | nil => intro bs h _; cases bs with
    | nil => exact Nat.le_refl _
    | cons _ _ => simp at h
  | cons p r ih =>
    intro bs h hj
    cases bs with
    | nil => simp at h
    | cons q s =>
      have e := ih s (by simpa using h) fun j hx => by have := hj (j + 1); simp only [List.getD_cons_succ] at this; exact this hx
      have e0 := hj 0
      simp only [List.getD_cons_zero] at e0
      unfold freeN at e ⊢
      simp only [List.filter_cons]
      by_cases h1 : p.1 = 0
      · rw [if_pos (decide_eq_true h1)]
        by_cases h2 : q.1 = 0
        · rw [if_pos (decide_eq_true h2)]; simp only [List.length_cons]; omega
        · rw [if_neg (by simp [h2])]; simp only [List.length_cons]; omega
      · rw [decide_eq_false h1, decide_eq_false (e0 h1)]; exact e

theorem look_clear {f : Fo} {root at' : Int} (h : clearTCode f root at' = 0) {R : Int} {G : Fo} (hR : (setPlace f root at' (-1)).1 = R) (hG : (setPlace f root at' (-1)).2.2 = G) {k : Int} (k0 : 0 ≤ k) (k1 : k ≤ 15) :
    (k = at' → lookCode G R k = 4) ∧ (k ≠ at' → lookCode f root k = lookCode G R k ∧ lookVal f root k = lookVal G R k) := by
  obtain ⟨T, hb, PS, RG⟩ := clear_place h
  rw [hR, hG] at PS
  rw [hG] at RG
  have tG : treeCode G R k = 0 := tree_is ⟨RG, PS.rt, k0, k1⟩
  have tf : treeCode f root k = 0 := tree_is ⟨T.right, T.ro, k0, k1⟩
  have hlk := PS.look k k0 k1
  have hcs := block_cases RG.inv PS.rt k0 k1
  refine ⟨fun e => ?_, fun e => ?_⟩
  · rw [if_pos e] at hlk
    rw [lookCode, if_pos tG, hlk, if_pos (by decide)]
  · rw [if_neg e] at hlk
    have hc : lookCode f root k = lookCode G R k := by rw [lookCode, lookCode, if_pos tG, if_pos tf, hlk]
    refine ⟨hc, ?_⟩
    unfold lookVal
    rw [← hc]
    by_cases hz : lookCode f root k = 0
    · rw [if_pos hz, if_pos hz, hlk]
      rw [hlk] at hcs
      have hy : 0 ≤ blockAt f root k := by
        rw [lookCode, if_pos tf] at hz
        by_cases hn : blockAt f root k < 0
        · rw [if_pos hn] at hz; exact absurd hz (by decide)
        · omega
      obtain ⟨_, hl⟩ := hcs.resolve_left (by omega)
      rw [(PS.bk _ hl).2]
    · rw [if_neg hz, if_neg hz]
theorem walk_lens {f G : Fo} {root R : Int} {a : Nat} (ha : a ≤ 15) (h0 : ¬ blockAt f root a < 0) (h1 : blockAt G R a < 0) (h : ∀ k : Nat, k ≤ 15 → k ≠ a → blockAt G R k = blockAt f root k) :
    ∀ n, n ≤ 16 → (walkTo G R n).length + (if a < n then 2 else 0) = (walkTo f root n).length := by
  intro n
  induction n with
  | zero => intro _; rfl
  | succ k ih =>
    intro hk
    have e := ih (by omega)
    rw [walkTo_succ, walkTo_succ, List.length_append, List.length_append]
    by_cases ek : k = a
    · subst ek
      rw [if_neg (by omega)] at e
      have e1 : walkOne G R k = [] := if_pos h1
      have e2 : (walkOne f root k).length = 2 := by unfold walkOne; rw [if_neg h0]; rfl
      rw [e1, e2, if_pos (by omega)]; simp only [List.length_nil]; omega
    · have e1 : (walkOne G R k).length = (walkOne f root k).length := by
        unfold walkOne; rw [h k (by omega) ek]; split <;> rfl
      by_cases e3 : a < k
      · rw [if_pos e3] at e; rw [if_pos (by omega)]; omega
      · rw [if_neg e3] at e; rw [if_neg (by omega)]; omega
theorem rep_get (n j : Nat) : (List.replicate n ((0 : Int), (0 : Int))).getD j (0, 0) = (0, 0) := by
  rw [List.getD_eq_getElem?_getD, List.getElem?_replicate]; split <;> rfl
theorem new_right {n : Nat} (h : n ≤ 24) : foFault (newFoList n) = 0 := by
  have e : newFoList n = ([], List.replicate n (0, 0)) := by
    unfold newFoList newBList
    rw [if_pos (show newBCode (n : Int) = 0 from if_pos ⟨by omega, by omega⟩), Int.toNat_natCast]
  rw [e]
  have hb : ∀ j, blockOf ([], List.replicate n (0, 0)) j = (0, 0) := fun j => rep_get n j
  refine fault_of_right ⟨⟨by simpa using h, by simp, fun i => ?_, fun j => by rw [hb]; decide⟩, fun j _ => ?_, fun i hi => by simp at hi⟩
  · have : nodeOf ([], List.replicate n (0, 0)) i = nd0 := by simp [nodeOf]
    rw [this]; exact nd0_ok _
  · unfold extB; rw [hb]; rfl
theorem clears {f : Fo} {root at' : Int} (h : clearTCode f root at' = 0) {R : Int} {G : Fo} (hR : (setPlace f root at' (-1)).1 = R) (hG : (setPlace f root at' (-1)).2.2 = G) :
    foFault G = 0 ∧ newBCode f.2.length = 0 ∧ foFault (newFoList f.2.length) = 0 ∧ freeVal f.2 ≤ freeVal G.2 ∧ ((walkList G R).length : Int) = (walkList f root).length - 2 := by
  obtain ⟨T, hb, PS, RG⟩ := clear_place h
  rw [hR, hG] at PS
  rw [hG] at RG
  have ha0 := T.at0; have ha1 := T.at1
  obtain ⟨a, rfl⟩ : ∃ a : Nat, at' = a := ⟨at'.toNat, by omega⟩
  have hn := T.right.inv.nb
  have hnb : newBCode f.2.length = 0 := if_pos ⟨by omega, by omega⟩
  have hlen : G.2.length = f.2.length := by rw [← hG]; exact setPlace_len _ _ _ _
  refine ⟨fault_of_right RG, hnb, ?_, ?_, ?_⟩
  · exact new_right hn
  · have b1 : blkFault f.2 = 0 := by
      have := fault_of_right T.right
      unfold foFault at this
      by_cases e : blkFault f.2 = 0
      · exact e
      · rw [if_neg e] at this; exact absurd this e
    have b2 : blkFault G.2 = 0 := by
      have := fault_of_right RG
      unfold foFault at this
      by_cases e : blkFault G.2 = 0
      · exact e
      · rw [if_neg e] at this; exact absurd this e
    rw [freeVal, freeVal, if_pos b1, if_pos b2]
    have := freeN_mono G.2 f.2 hlen fun j hj => (PS.bk j hj).1
    omega
  · have e := walk_lens (f := f) (G := G) (root := root) (R := R) (a := a) (by omega) (by omega) (by rw [PS.look a ha0 ha1, if_pos rfl]; decide) (fun k hk hne => by rw [PS.look k (by omega) (by omega), if_neg (by omega)]) 16 (Nat.le_refl _)
    rw [if_pos (by omega)] at e
    rw [walkList, walkList, if_pos (tree_is ⟨RG, PS.rt, by decide, by decide⟩), if_pos (tree_is ⟨T.right, T.ro, by decide, by decide⟩)]
    omega

end Go.Proofs.Ytkdaphfmhdkhfaa
