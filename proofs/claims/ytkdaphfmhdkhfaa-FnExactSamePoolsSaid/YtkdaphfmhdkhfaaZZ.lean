/- Chapter 4: what FnTrees asks: what a tree has that is set, and what all others have. -/
import Derived.Test.YtkdaphfmhdkhfaaZY
import Derived.Test.YtkdaphfmhdkhfaaZX
namespace Go.Proofs.Ytkdaphfmhdkhfaa
open Go.RowKit

/-- more of what 'setPlace' leaves -/
theorem place_root {f : Fo} {root at' b : Int} (A : Ask f root at' b) (hc : (setPlace f root at' b).2.1 = 0) :
    (0 ≤ root → (setPlace f root at' b).1 = root → (nodeOf f root.toNat).1 = 1) ∧
    (0 ≤ root → (setPlace f root at' b).1 ≠ root → (nodeOf (setPlace f root at' b).2.2 root.toNat).1 ≠ 0 → (nodeOf (setPlace f root at' b).2.2 root.toNat).2.1 = false) := by
  unfold setPlace at hc ⊢
  by_cases hc1 : (setLeaf f root at' b).2.1 = 0
  · rw [if_pos hc1] at hc ⊢
    have S := setLeaf_ok A hc1
    have AR := askR_of A S
    obtain ⟨L, hL⟩ : ∃ L, (setLeaf f root at' b).1 = L := ⟨_, rfl⟩
    obtain ⟨g, hg⟩ : ∃ g, (setLeaf f root at' b).2.2 = g := ⟨_, rfl⟩
    rw [hL, hg] at S hc AR ⊢
    have T := setRoot_ok AR hc
    have hrg : 0 ≤ root → nodeOf g root.toNat = nodeOf f root.toNat := fun r0 => by
      obtain ⟨_, r1, r2⟩ := A.ro.resolve_left (by omega)
      rcases S.how with ⟨e1, _, e2, _⟩ | ⟨e1, e2, e3, e4⟩
      · rw [e2]
      · have hne : root ≠ L := fun e => by
          rcases e4 with ⟨_, _, x, _⟩ | ⟨x, _⟩
          · rw [← e, r2] at x; cases x
          · rw [← e] at x; rw [x] at r1; exact r1 rfl
        exact e3 _ (by omega)
    refine ⟨fun r0 hR => ?_, fun r0 hR hlive => ?_⟩
    · rcases T.rt with ⟨e, _⟩ | ⟨_, _, _, ⟨_, e⟩ | ⟨e, _⟩⟩
      · omega
      · rw [← hrg r0]; exact e
      · obtain ⟨_, r1, _⟩ := A.ro.resolve_left (by omega)
        rw [hR, hrg r0] at e
        rw [e] at r1; exact absurd rfl r1
    · obtain ⟨_, _, r2⟩ := A.ro.resolve_left (by omega)
      rw [(T.nd root.toNat hlive (by omega)).2, hrg r0]; exact r2
  · rw [if_neg hc1] at hc; exact absurd hc hc1

/-- what lives has the kids that it had: the places are as they were -/
theorem same_places {f D : Fo} (hD : Inv D) (a : ∀ m, (nodeOf D m).1 ≠ 0 → (nodeOf D m).2 = (nodeOf f m).2) {r : Nat} (h0 : (nodeOf D r).1 ≠ 0) (hl : (nodeOf D r).2.1 = false) {k : Int} (k0 : 0 ≤ k) (k1 : k ≤ 15) : blockAt D r k = blockAt f r k := by
  have e : leafAt D r k = leafAt f r k := by rw [leafAt_nat, leafAt_nat, a r h0]
  unfold blockAt
  rw [← e]
  rcases leaf_cases hD (root := (r : Int)) (Or.inr ⟨by omega, by rw [Int.toNat_natCast]; exact h0, by rw [Int.toNat_natCast]; exact hl⟩) k0 k1 with h | ⟨h2, h3, _⟩
  · rw [if_pos (by omega), if_pos (by omega)]
  · rw [if_neg (by omega), if_neg (by omega), a _ h3]
theorem walk_same {f D : Fo} {root : Int} (h : ∀ k : Int, 0 ≤ k → k ≤ 15 → blockAt D root k = blockAt f root k ∧ (0 ≤ blockAt f root k → (blockOf D (blockAt f root k).toNat).2 = (blockOf f (blockAt f root k).toNat).2)) (h1 : treeCode D root 0 = 0) (h2 : treeCode f root 0 = 0) : walkList D root = walkList f root := by
  unfold walkList
  rw [if_pos h1, if_pos h2]
  have key : ∀ n, n ≤ 16 → walkTo D root n = walkTo f root n := fun n => by
    induction n with
    | zero => intro _; rfl
    | succ k ih =>
      intro hk'
      rw [walkTo_succ, walkTo_succ, ih (by omega)]
      obtain ⟨e1, e2⟩ := h (k : Int) (by omega) (by omega)
      unfold walkOne
      rw [e1]
      by_cases h0 : blockAt f root k < 0
      · rw [if_pos h0, if_pos h0]
      · rw [if_neg h0, if_neg h0, e2 (by omega)]
  exact key 16 (Nat.le_refl _)

theorem share_nodes (f : Fo) (root : Int) (m : Nat) (hr : 0 ≤ root → root.toNat < f.1.length) : (nodeOf (shareF f root) m).2 = (nodeOf f m).2 ∧ (shareF f root).2 = f.2 := by
  unfold shareF
  by_cases h0 : 0 ≤ root
  · rw [if_pos h0]
    refine ⟨?_, rfl⟩
    unfold moreAt
    rw [nodeOf_set _ _ _ _ _ (hr h0)]
    by_cases e : m = root.toNat
    · rw [if_pos e, e]; rfl
    · rw [if_neg e]; rfl
  · rw [if_neg h0]; exact ⟨rfl, rfl⟩

/-- a place that is set: what it has, and what all other places have -/
theorem look_set {f : Fo} {root at' x : Int} (h : setTCode f root at' x = 0) {k : Int} (k0 : 0 ≤ k) (k1 : k ≤ 15) :
    (k = at' → lookCode (setTF f root at' x).2.2 (setTF f root at' x).1 k = 0 ∧ lookVal (setTF f root at' x).2.2 (setTF f root at' x).1 k = x) ∧
    (k ≠ at' → lookCode f root k = lookCode (setTF f root at' x).2.2 (setTF f root at' x).1 k ∧ lookVal f root k = lookVal (setTF f root at' x).2.2 (setTF f root at' x).1 k) := by
  obtain ⟨b, T, x0, x1, hfa, PS, RG⟩ := set_place h
  obtain ⟨R, hR⟩ : ∃ R, (setTF f root at' x).1 = R := ⟨_, rfl⟩
  obtain ⟨G, hG⟩ : ∃ G, (setTF f root at' x).2.2 = G := ⟨_, rfl⟩
  rw [hR, hG] at PS ⊢
  rw [hG] at RG
  have tG : treeCode G R k = 0 := tree_is ⟨RG, PS.rt, k0, k1⟩
  have tf : treeCode f root k = 0 := tree_is ⟨T.right, T.ro, k0, k1⟩
  obtain ⟨hbl, hb0⟩ := freeAt_is hfa
  have hlk := PS.look k k0 k1
  have hcs := block_cases RG.inv PS.rt k0 k1
  have hbf : blockAt (f.1, f.2.set b (1, x)) root k = blockAt f root k := rfl
  rw [hbf] at hlk
  refine ⟨fun e => ?_, fun e => ?_⟩
  · rw [if_pos e] at hlk
    have hc : lookCode G R k = 0 := by rw [lookCode, if_pos tG, hlk, if_neg (by omega)]
    refine ⟨hc, ?_⟩
    rw [lookVal, if_pos hc, hlk, Int.toNat_natCast]
    rw [hlk] at hcs
    obtain ⟨_, hl⟩ := hcs.resolve_left (by omega)
    rw [Int.toNat_natCast] at hl
    rw [(PS.bk b hl).2, blockOf_set _ _ _ _ _ hbl, if_pos rfl]
  · rw [if_neg e] at hlk
    have hc : lookCode f root k = lookCode G R k := by rw [lookCode, lookCode, if_pos tG, if_pos tf, hlk]
    refine ⟨hc, ?_⟩
    unfold lookVal
    rw [← hc]
    by_cases hz : lookCode f root k = 0
    · rw [if_pos hz, if_pos hz, hlk]
      rw [hlk] at hcs
      have hy : 0 ≤ blockAt f root k := by
        rw [lookCode, if_pos tf] at hz
        by_cases hn : blockAt f root k < 0
        · rw [if_pos hn] at hz; exact absurd hz (by decide)
        · omega
      obtain ⟨_, hl⟩ := hcs.resolve_left (by omega)
      obtain ⟨_, hl2⟩ := (block_cases T.right.inv T.ro k0 k1).resolve_left (by omega)
      rw [(PS.bk _ hl).2, blockOf_set _ _ _ _ _ hbl, if_neg (fun e2 => by rw [e2] at hl2; exact hl2 hb0)]; rfl
    · rw [if_neg hz, if_neg hz]

theorem blockAt_congr {f g : Fo} (h : ∀ m, (nodeOf g m).2 = (nodeOf f m).2) (root k : Int) : blockAt g root k = blockAt f root k := by
  have e : leafAt g root k = leafAt f root k := by unfold leafAt; rw [h]
  unfold blockAt; rw [e, h]
/-- a tree that stays: its root, its places, its data -/
structure Stays (f D : Fo) (root : Int) : Prop where
  right : Right D
  ro : RootIs D root
  pl : ∀ k : Int, 0 ≤ k → k ≤ 15 → blockAt D root k = blockAt f root k
  dt : ∀ k : Int, 0 ≤ k → k ≤ 15 → 0 ≤ blockAt f root k → (blockOf D (blockAt f root k).toNat).2 = (blockOf f (blockAt f root k).toNat).2
theorem Stays.walk {f D : Fo} {root : Int} (h : Stays f D root) (hf : treeCode f root 0 = 0) : walkList D root = walkList f root :=
  walk_same (fun k k0 k1 => ⟨h.pl k k0 k1, h.dt k k0 k1⟩) (tree_is ⟨h.right, h.ro, by decide, by decide⟩) hf
theorem trees_keep {f : Fo} {root at' x : Int} (h1 : shareTCode f root = 0) (h2 : setTCode (shareF f root) root at' x = 0) {R : Int} {G : Fo} (hR : (setTF (shareF f root) root at' x).1 = R) (hG : (setTF (shareF f root) root at' x).2.2 = G) :
    treeCode f root 0 = 0 ∧ treeCode G R 0 = 0 ∧ Stays f G root ∧ Stays f (dropF G R) root := by
  obtain ⟨T, RS, h200⟩ := share_right h1
  obtain ⟨b, T1, x0, x1, hfa, hTF, hc⟩ := set_parts h2
  obtain ⟨_, _, _, _, _, _, RG⟩ := set_place h2
  have A := ask_take T1 hfa x0 x1
  have PS := place_ok A hc
  have PR := place_root A hc
  rw [← hTF, hR, hG] at PS PR
  rw [hG] at RG
  have hnd : ∀ m, (nodeOf (shareF f root) m).2 = (nodeOf f m).2 := fun m => (share_nodes f root m (fun h0 => live_lt (T.ro.resolve_left (by omega)).2.1)).1
  have hbk : (shareF f root).2 = f.2 := (share_nodes f root 0 (fun h0 => live_lt (T.ro.resolve_left (by omega)).2.1)).2
  obtain ⟨hbl, hb0⟩ := freeAt_is hfa
  rw [hbk] at hbl hb0
  have tG : treeCode G R 0 = 0 := tree_is ⟨RG, PS.rt, by decide, by decide⟩
  have hdat : ∀ y : Nat, (blockOf G y).1 ≠ 0 → (blockOf f y).1 ≠ 0 → (blockOf G y).2 = (blockOf f y).2 := fun y hy hy2 => by
    rw [(PS.bk y hy).2, blockOf_set _ _ _ _ _ (by rw [hbk]; exact hbl), hbk, if_neg (fun e => by rw [e] at hy2; exact hy2 hb0)]; rfl
  have fin : ∀ D, Right D → RootIs D root → (∀ k : Int, 0 ≤ k → k ≤ 15 → blockAt D root k = blockAt f root k) → (∀ j, (blockOf D j).1 ≠ 0 → (blockOf G j).1 ≠ 0 ∧ (blockOf D j).2 = (blockOf G j).2) → Stays f D root := fun D rD oD pD bD => ⟨rD, oD, pD, fun k k0 k1 hy => by
    obtain ⟨_, l1⟩ := (block_cases rD.inv oD k0 k1).resolve_left (by rw [pD k k0 k1]; omega)
    obtain ⟨_, l2⟩ := (block_cases T.right.inv T.ro k0 k1).resolve_left (by omega)
    rw [pD k k0 k1] at l1
    rw [(bD _ l1).2, hdat _ (bD _ l1).1 l2]⟩
  have hroot : ∀ r : Nat, root = r → (r : Int) ≠ R ∧ 1 ≤ ext G r ∧ (nodeOf G r).1 ≠ 0 ∧ (nodeOf G r).2.1 = false ∧ ∀ k : Int, 0 ≤ k → k ≤ 15 → blockAt G r k = blockAt f r k := fun r hr => by
    subst hr
    have e1 := ext_root T.right.inv T.ro (by omega)
    obtain ⟨_, r1, r2⟩ := T.ro.resolve_left (by omega)
    rw [Int.toNat_natCast] at e1 r1 r2
    have hlt := h200 (by omega)
    rw [Int.toNat_natCast] at hlt
    have hsf : shareF f (r : Int) = moreAt f r := by rw [shareF, if_pos (by omega), Int.toNat_natCast]
    obtain ⟨_, b2, _, _⟩ := moreAt_step T.right.inv r1 hlt
    have e2 : ext (shareF f (r : Int)) r = ext f r + 1 := by rw [hsf, b2, if_pos rfl]
    have hr0 := (T.right.inv.nd r).r0
    have n1 : (nodeOf (shareF f (r : Int)) r).1 = (nodeOf f r).1 + 1 := by
      rw [hsf, moreAt, nodeOf_set _ _ _ _ _ (live_lt r1), if_pos rfl]; rfl
    have hne : (r : Int) ≠ R := fun e => by
      have := PR.1 (by omega) e.symm
      rw [Int.toNat_natCast] at this
      have e3 : (nodeOf ((shareF f (r : Int)).1, (shareF f (r : Int)).2.set b (1, x)) r).1 = (nodeOf (shareF f (r : Int)) r).1 := rfl
      rw [e3] at this
      omega
    have e4 : ext ((shareF f (r : Int)).1, (shareF f (r : Int)).2.set b (1, x)) r = ext (shareF f (r : Int)) r := rfl
    have e5 := PS.ex r
    rw [e4, e2, if_pos rfl, if_neg hne] at e5
    have hl : (nodeOf G r).1 ≠ 0 := by have : 1 ≤ ext G r := by omega
                                       unfold ext at this; omega
    have hf := PR.2 (by omega) (Ne.symm hne) (by rw [Int.toNat_natCast]; exact hl)
    rw [Int.toNat_natCast] at hf
    refine ⟨hne, by omega, hl, hf, fun k k0 k1 => ?_⟩
    rw [(PS.keep r hl hf hne).2.2 k k0 k1]
    exact blockAt_congr hnd r k
  refine ⟨tree_is T, tG, ?_, ?_⟩
  · rcases T.ro with hm | ⟨r0, _, _⟩
    · subst hm
      exact fin G RG (Or.inl rfl) (fun k _ _ => rfl) fun j hj => ⟨hj, rfl⟩
    · obtain ⟨r, rfl⟩ : ∃ r : Nat, root = r := ⟨root.toNat, by omega⟩
      obtain ⟨_, _, g1, g2, g3⟩ := hroot r rfl
      exact fin G RG (Or.inr ⟨r0, by rw [Int.toNat_natCast]; exact g1, by rw [Int.toNat_natCast]; exact g2⟩) g3 fun j hj => ⟨hj, rfl⟩
  · have RD := drop_right tG
    have HL : Less G (dropF G R) ∧ ∀ m : Nat, (m : Int) ≠ R → ext (dropF G R) m = ext G m := by
      unfold dropF
      rcases PS.rt with hm | ⟨q0, q1, q2⟩
      · rw [if_neg (by omega)]; exact ⟨Less.refl RG.inv, fun _ _ => rfl⟩
      · rw [if_pos q0]
        obtain ⟨a, b', _⟩ := lessRoot_ok RG.inv (fun j => by rw [PS.eb]; decide) (ext_pos RG) q1 q2
        exact ⟨a, fun m hm => by rw [b', if_neg (by omega)]⟩
    rcases T.ro with hm | ⟨r0, _, _⟩
    · subst hm
      exact fin _ RD (Or.inl rfl) (fun k _ _ => rfl) HL.1.bk
    · obtain ⟨r, rfl⟩ : ∃ r : Nat, root = r := ⟨root.toNat, by omega⟩
      obtain ⟨hne, g0, g1, g2, g3⟩ := hroot r rfl
      have hl : (nodeOf (dropF G R) r).1 ≠ 0 := by
        have : 1 ≤ ext (dropF G R) r := by rw [HL.2 r hne]; exact g0
        unfold ext at this; omega
      have hf : (nodeOf (dropF G R) r).2.1 = false := by rw [(HL.1.nd r hl).2]; exact g2
      exact fin _ RD (Or.inr ⟨r0, by rw [Int.toNat_natCast]; exact hl, by rw [Int.toNat_natCast]; exact hf⟩) (fun k k0 k1 => by rw [same_places RD.inv (fun m hm => (HL.1.nd m hm).2) hl hf k0 k1, g3 k k0 k1]) HL.1.bk

end Go.Proofs.Ytkdaphfmhdkhfaa

/- Chapter 4: what FnClears asks: what a tree has of which a place is cleared, and what is free then. -/
namespace Go.Proofs.Ytkdaphfmhdkhfaa
open Go.RowKit

theorem lessKids_blk (ks : List Int) : ∀ bs : List (Int × Int), (lessKids bs ks).length = bs.length := by
  induction ks with
  | nil => intro bs; rfl
  | cons k r ih =>
    intro bs
    show (lessKids (if k < 0 then bs else lessB bs k.toNat) r).length = _
    rw [ih]; split
    · rfl
    · rw [lessB, List.length_set]
theorem lessLeaf_blk (f : Fo) (i : Nat) : (lessLeaf f i).2.length = f.2.length := by
  unfold lessLeaf; split
  · rfl
  · exact lessKids_blk _ _
theorem lessLeaves_blk (ks : List Int) : ∀ f : Fo, (lessLeaves f ks).2.length = f.2.length := by
  induction ks with
  | nil => intro f; rfl
  | cons k r ih =>
    intro f
    show (lessLeaves (if k < 0 then f else lessLeaf f k.toNat) r).2.length = _
    rw [ih]; split
    · rfl
    · exact lessLeaf_blk _ _
theorem lessRoot_blk (f : Fo) (i : Nat) : (lessRoot f i).2.length = f.2.length := by
  unfold lessRoot; split
  · rfl
  · exact lessLeaves_blk _ _
theorem moreTo_len {lf : Bool} {but : Nat} {ks : List Int} {f : Fo} : ∀ {j : Nat} {g : Fo}, moreTo lf but ks j f = some g → g.2.length = f.2.length := by
  intro j
  induction j with
  | zero => intro g h; cases h; rfl
  | succ j ih =>
    intro g h
    cases hm : moreTo lf but ks j f with
    | none => rw [moreTo, hm] at h; cases h
    | some g' =>
      rw [moreTo_next hm] at h
      have e := ih hm
      unfold moreStep at h
      split at h
      · cases h; exact e
      · split at h
        · split at h
          · cases h
          · cases h; show (moreB g'.2 _).length = _; rw [moreB, List.length_set]; exact e
        · split at h
          · cases h
          · cases h; exact e
theorem setLeaf_len (f : Fo) (root x b : Int) : (setLeaf f root x b).2.2.2.length = f.2.length := by
  cases h : noneOf (nextKids f root x b) with
  | true => rw [setLeaf_none h]
  | false =>
    by_cases h2 : 0 ≤ leafAt f root x ∧ (nodeOf f (leafAt f root x).toNat).1 = 1 ∧ (nodeOf f root.toNat).1 = 1
    · rw [setLeaf_same h h2]; simp only
      split
      · rw [lessB, List.length_set]
      · rfl
    · rw [setLeaf_new h h2]
      cases hw : newNd f.1 (1, true, nextKids f root x b) with
      | none => rfl
      | some q =>
        obtain ⟨i, ns⟩ := q
        simp only
        cases hm : moreKids (ns, f.2) true (nextKids f root x b) (x.toNat % 4) with
        | none => rfl
        | some f2 => exact (moreTo_len (f := (ns, f.2)) hm)
theorem setRoot_len (f : Fo) (root x L : Int) : (setRoot f root x L).2.2.2.length = f.2.length := by
  cases h : noneOf (nextLeaves f root x L) with
  | true =>
    rw [setRoot_none h]; simp only
    split
    · exact lessRoot_blk _ _
    · rfl
  | false =>
    by_cases h2 : 0 ≤ root ∧ (nodeOf f root.toNat).1 = 1
    · rw [setRoot_same h h2]; simp only
      split
      · rw [lessLeaf_blk]
      · rfl
    · rw [setRoot_new h h2]
      cases hw : newNd f.1 (1, false, nextLeaves f root x L) with
      | none => rfl
      | some q =>
        obtain ⟨i, ns⟩ := q
        simp only
        cases hm : moreKids (ns, f.2) false (nextLeaves f root x L) (x.toNat / 4) with
        | none => rfl
        | some f2 =>
          simp only
          split
          · rw [lessRoot_blk]; exact (moreTo_len (f := (ns, f.2)) hm)
          · exact (moreTo_len (f := (ns, f.2)) hm)
theorem setPlace_len (f : Fo) (root x b : Int) : (setPlace f root x b).2.2.2.length = f.2.length := by
  unfold setPlace; split
  · rw [setRoot_len, setLeaf_len]
  · rfl

theorem freeN_mono : ∀ (us bs : List (Int × Int)), us.length = bs.length → (∀ j, (us.getD j (0, 0)).1 ≠ 0 → (bs.getD j (0, 0)).1 ≠ 0) → freeN bs ≤ freeN us := by
  intro us
  induction us with
  | nil => intro bs h _; cases bs with
    | nil => exact Nat.le_refl _
    | cons _ _ => simp at h
  | cons p r ih =>
    intro bs h hj
    cases bs with
    | nil => simp at h
    | cons q s =>
      have e := ih s (by simpa using h) fun j hx => by have := hj (j + 1); simp only [List.getD_cons_succ] at this; exact this hx
      have e0 := hj 0
      simp only [List.getD_cons_zero] at e0
      unfold freeN at e ⊢
      simp only [List.filter_cons]
      by_cases h1 : p.1 = 0
      · rw [if_pos (decide_eq_true h1)]
        by_cases h2 : q.1 = 0
        · rw [if_pos (decide_eq_true h2)]; simp only [List.length_cons]; omega
        · rw [if_neg (by simp [h2])]; simp only [List.length_cons]; omega
      · rw [decide_eq_false h1, decide_eq_false (e0 h1)]; exact e

theorem look_clear {f : Fo} {root at' : Int} (h : clearTCode f root at' = 0) {R : Int} {G : Fo} (hR : (setPlace f root at' (-1)).1 = R) (hG : (setPlace f root at' (-1)).2.2 = G) {k : Int} (k0 : 0 ≤ k) (k1 : k ≤ 15) :
    (k = at' → lookCode G R k = 4) ∧ (k ≠ at' → lookCode f root k = lookCode G R k ∧ lookVal f root k = lookVal G R k) := by
  obtain ⟨T, hb, PS, RG⟩ := clear_place h
  rw [hR, hG] at PS
  rw [hG] at RG
  have tG : treeCode G R k = 0 := tree_is ⟨RG, PS.rt, k0, k1⟩
  have tf : treeCode f root k = 0 := tree_is ⟨T.right, T.ro, k0, k1⟩
  have hlk := PS.look k k0 k1
  have hcs := block_cases RG.inv PS.rt k0 k1
  refine ⟨fun e => ?_, fun e => ?_⟩
  · rw [if_pos e] at hlk
    rw [lookCode, if_pos tG, hlk, if_pos (by decide)]
  · rw [if_neg e] at hlk
    have hc : lookCode f root k = lookCode G R k := by rw [lookCode, lookCode, if_pos tG, if_pos tf, hlk]
    refine ⟨hc, ?_⟩
    unfold lookVal
    rw [← hc]
    by_cases hz : lookCode f root k = 0
    · rw [if_pos hz, if_pos hz, hlk]
      rw [hlk] at hcs
      have hy : 0 ≤ blockAt f root k := by
        rw [lookCode, if_pos tf] at hz
        by_cases hn : blockAt f root k < 0
        · rw [if_pos hn] at hz; exact absurd hz (by decide)
        · omega
      obtain ⟨_, hl⟩ := hcs.resolve_left (by omega)
      rw [(PS.bk _ hl).2]
    · rw [if_neg hz, if_neg hz]
theorem walk_lens {f G : Fo} {root R : Int} {a : Nat} (ha : a ≤ 15) (h0 : ¬ blockAt f root a < 0) (h1 : blockAt G R a < 0) (h : ∀ k : Nat, k ≤ 15 → k ≠ a → blockAt G R k = blockAt f root k) :
    ∀ n, n ≤ 16 → (walkTo G R n).length + (if a < n then 2 else 0) = (walkTo f root n).length := by
  intro n
  induction n with
  | zero => intro _; rfl
  | succ k ih =>
    intro hk
    have e := ih (by omega)
    rw [walkTo_succ, walkTo_succ, List.length_append, List.length_append]
    by_cases ek : k = a
    · subst ek
      rw [if_neg (by omega)] at e
      have e1 : walkOne G R k = [] := if_pos h1
      have e2 : (walkOne f root k).length = 2 := by unfold walkOne; rw [if_neg h0]; rfl
      rw [e1, e2, if_pos (by omega)]; simp only [List.length_nil]; omega
    · have e1 : (walkOne G R k).length = (walkOne f root k).length := by
        unfold walkOne; rw [h k (by omega) ek]; split <;> rfl
      by_cases e3 : a < k
      · rw [if_pos e3] at e; rw [if_pos (by omega)]; omega
      · rw [if_neg e3] at e; rw [if_neg (by omega)]; omega
theorem rep_get (n j : Nat) : (List.replicate n ((0 : Int), (0 : Int))).getD j (0, 0) = (0, 0) := by
  rw [List.getD_eq_getElem?_getD, List.getElem?_replicate]; split <;> rfl
theorem new_right {n : Nat} (h : n ≤ 24) : foFault (newFoList n) = 0 := by
  have e : newFoList n = ([], List.replicate n (0, 0)) := by
    unfold newFoList newBList
    rw [if_pos (show newBCode (n : Int) = 0 from if_pos ⟨by omega, by omega⟩), Int.toNat_natCast]
  rw [e]
  have hb : ∀ j, blockOf ([], List.replicate n (0, 0)) j = (0, 0) := fun j => rep_get n j
  refine fault_of_right ⟨⟨by simpa using h, by simp, fun i => ?_, fun j => by rw [hb]; decide⟩, fun j _ => ?_, fun i hi => by simp at hi⟩
  · have : nodeOf ([], List.replicate n (0, 0)) i = nd0 := by simp [nodeOf]
    rw [this]; exact nd0_ok _
  · unfold extB; rw [hb]; rfl
theorem clears {f : Fo} {root at' : Int} (h : clearTCode f root at' = 0) {R : Int} {G : Fo} (hR : (setPlace f root at' (-1)).1 = R) (hG : (setPlace f root at' (-1)).2.2 = G) :
    foFault G = 0 ∧ newBCode f.2.length = 0 ∧ foFault (newFoList f.2.length) = 0 ∧ freeVal f.2 ≤ freeVal G.2 ∧ ((walkList G R).length : Int) = (walkList f root).length - 2 := by
  obtain ⟨T, hb, PS, RG⟩ := clear_place h
  rw [hR, hG] at PS
  rw [hG] at RG
  have ha0 := T.at0; have ha1 := T.at1
  obtain ⟨a, rfl⟩ : ∃ a : Nat, at' = a := ⟨at'.toNat, by omega⟩
  have hn := T.right.inv.nb
  have hnb : newBCode f.2.length = 0 := if_pos ⟨by omega, by omega⟩
  have hlen : G.2.length = f.2.length := by rw [← hG]; exact setPlace_len _ _ _ _
  refine ⟨fault_of_right RG, hnb, ?_, ?_, ?_⟩
  · exact new_right hn
  · have b1 : blkFault f.2 = 0 := by
      have := fault_of_right T.right
      unfold foFault at this
      by_cases e : blkFault f.2 = 0
      · exact e
      · rw [if_neg e] at this; exact absurd this e
    have b2 : blkFault G.2 = 0 := by
      have := fault_of_right RG
      unfold foFault at this
      by_cases e : blkFault G.2 = 0
      · exact e
      · rw [if_neg e] at this; exact absurd this e
    rw [freeVal, freeVal, if_pos b1, if_pos b2]
    have := freeN_mono G.2 f.2 hlen fun j hj => (PS.bk j hj).1
    omega
  · have e := walk_lens (f := f) (G := G) (root := root) (R := R) (a := a) (by omega) (by omega) (by rw [PS.look a ha0 ha1, if_pos rfl]; decide) (fun k hk hne => by rw [PS.look k (by omega) (by omega), if_neg (by omega)]) 16 (Nat.le_refl _)
    rw [if_pos (by omega)] at e
    rw [walkList, walkList, if_pos (tree_is ⟨RG, PS.rt, by decide, by decide⟩), if_pos (tree_is ⟨T.right, T.ro, by decide, by decide⟩)]
    omega

end Go.Proofs.Ytkdaphfmhdkhfaa
