/- Chapter 5, plain: a right pool told by its parts; what a tree that is turned leaves of it. -/
import Derived.Test.YtikjndmgljkhhaaY0
import Derived.Test.YtikjndmgljkhhaaZZ
namespace Go.Proofs.Ytikjndmgljkhhaa
open Go.RowKit

structure VolOk (f : Fo) (v : Vo) : Prop where
  i0 : 1 ≤ v.1
  i1 : v.1 ≤ 99
  q0 : 1 ≤ v.2.1
  q1 : v.2.1 ≤ 16
  ro : RootIs f v.2.2
  us : (usedN f v.2.2 : Int) ≤ v.2.1
structure PoolOk (f : Fo) (vs : List Vo) : Prop where
  right : Right f
  few : vs.length ≤ 6
  vol : ∀ v ∈ vs, VolOk f v
  ord : vs.Pairwise fun a b => a.1 < b.1
  ex : ∀ m : Nat, ext f m = (rootsIn vs m : Int)
theorem vo_mem {vs : List Vo} {i : Nat} (h : i < vs.length) : vs.getD i vo0 ∈ vs := by
  rw [List.getD_eq_getElem?_getD, List.getElem?_eq_getElem h, Option.getD_some]; exact List.getElem_mem h
theorem mem_vo {vs : List Vo} {v : Vo} (h : v ∈ vs) : ∃ i, i < vs.length ∧ vs.getD i vo0 = v := by
  obtain ⟨i, hi, e⟩ := List.getElem_of_mem h
  exact ⟨i, hi, by rw [List.getD_eq_getElem?_getD, List.getElem?_eq_getElem hi, Option.getD_some, e]⟩
theorem vo_get {vs : List Vo} {i : Nat} (h : i < vs.length) : vs.getD i vo0 = vs[i] := by
  rw [List.getD_eq_getElem?_getD, List.getElem?_eq_getElem h, Option.getD_some]
theorem rootsIn_none {vs : List Vo} {i : Int} (h : ∀ v ∈ vs, v.2.2 ≠ i) : rootsIn vs i = 0 := by
  unfold rootsIn; rw [List.countP_eq_zero]; intro v hv; simpa using h v hv
theorem rootsIn_pos {vs : List Vo} {i : Int} {v : Vo} (h : v ∈ vs) (e : v.2.2 = i) : 0 < rootsIn vs i := by
  unfold rootsIn; rw [List.countP_pos_iff]; exact ⟨v, h, by simpa using e⟩
theorem named_none {f : Fo} (h : Inv f) {m : Nat} (hk : (nodeOf f m).1 = 0 ∨ (nodeOf f m).2.1 = false) : named f false m = 0 := by
  by_cases c : named f false m = 0
  · exact c
  · obtain ⟨_, h2, h3⟩ := h.leaf c
    rcases hk with e | e
    · omega
    · rw [e] at h3; cases h3
theorem ahead_of {vs : List Vo} (h : vs.Pairwise fun a b => a.1 < b.1) (h1 : ∀ v ∈ vs, 1 ≤ v.1) : ∀ i, i < vs.length → idAhead vs i < (vs.getD i vo0).1 := fun i hi => by
  cases i with
  | zero => have := h1 _ (vo_mem hi); show (0 : Int) < _; omega
  | succ i =>
    rw [List.pairwise_iff_getElem] at h
    have a := h i (i + 1) (by omega) hi (by omega)
    rw [← vo_get (by omega), ← vo_get hi] at a
    exact a
theorem volsFrom_zero {f : Fo} {vs : List Vo} {n k : Nat} (h : ∀ i, k ≤ i → i < k + n → volOne f (idAhead vs i) (vs.getD i vo0) = 0) : volsFrom f vs n k = 0 := by
  induction n generalizing k with
  | zero => rfl
  | succ n ih =>
    unfold volsFrom
    rw [if_pos (h k (Nat.le_refl _) (by omega))]
    exact ih fun i h1 h2 => h i (by omega) (by omega)
theorem volOne_of {f : Fo} (hI : Inv f) {a : Int} {v : Vo} (h : VolOk f v) (ha : a < v.1) : volOne f a v = 0 := by
  have hr := root_ok hI h.ro
  have h1 := h.i0; have h2 := h.i1; have h3 := h.q0; have h4 := h.q1; have h5 := h.us
  unfold volOne
  rw [if_pos (by simp [volIdB, quotaB, hr, h1, h2, h3, h4]), if_neg (by omega), if_neg (by omega)]
theorem pool_is {f : Fo} {vs : List Vo} (h : PoolOk f vs) : poFault f vs = 0 := by
  have few := h.few
  unfold poFault
  rw [if_pos (fault_of_right h.right), if_neg (by omega)]
  have hv : volsFault f vs = 0 := volsFrom_zero fun i _ hi => volOne_of h.right.inv (h.vol _ (vo_mem (by omega))) (ahead_of h.ord (fun v hv => (h.vol v hv).i0) i (by omega))
  rw [if_pos hv, if_pos ?_]
  rw [exact_iff]
  intro i hi
  unfold exactNd
  by_cases h0 : (nodeOf f i).1 = 0
  · simp [h0]
  · have hx := h.ex i
    unfold ext at hx
    cases hf : (nodeOf f i).2.1 with
    | true =>
      have hz : rootsIn vs i = 0 := rootsIn_none fun v hv e => by
        rcases (h.vol v hv).ro with r | ⟨r0, r1, r2⟩
        · omega
        · rw [show v.2.2.toNat = i by omega, hf] at r2; cases r2
      rw [hz] at hx
      simp; right; omega
    | false =>
      rw [named_none h.right.inv (Or.inr hf)] at hx
      simp; right; omega
/-- more of what 'setPlace' leaves: roots stay roots; the new root is the old one or was free -/
theorem place_more {f : Fo} {root at' b : Int} (A : Ask f root at' b) (hc : (setPlace f root at' b).2.1 = 0) :
    (∀ m, (nodeOf f m).1 ≠ 0 → (nodeOf f m).2.1 = false → (nodeOf (setPlace f root at' b).2.2 m).1 ≠ 0 → (nodeOf (setPlace f root at' b).2.2 m).2.1 = false) ∧
    (0 ≤ (setPlace f root at' b).1 → ((setPlace f root at' b).1 = root ∧ (nodeOf f root.toNat).1 = 1) ∨ (nodeOf f (setPlace f root at' b).1.toNat).1 = 0) := by
  unfold setPlace at hc ⊢
  by_cases hc1 : (setLeaf f root at' b).2.1 = 0
  · rw [if_pos hc1] at hc ⊢
    have S := setLeaf_ok A hc1
    have AR := askR_of A S
    obtain ⟨L, hL⟩ : ∃ L, (setLeaf f root at' b).1 = L := ⟨_, rfl⟩
    obtain ⟨g, hg⟩ : ∃ g, (setLeaf f root at' b).2.2 = g := ⟨_, rfl⟩
    rw [hL, hg] at S hc AR ⊢
    have T := setRoot_ok AR hc
    have hrg : ∀ m, (nodeOf f m).1 ≠ 0 → (nodeOf f m).2.1 = false → nodeOf g m = nodeOf f m := fun m r1 r2 => by
      rcases S.how with ⟨e1, _, e2, _⟩ | ⟨e1, e2, e3, e4⟩
      · rw [e2]
      · refine e3 _ fun e => ?_
        rcases e4 with ⟨_, _, x, _⟩ | ⟨x, _⟩
        · rw [← e, r2] at x; cases x
        · rw [← e] at x; rw [x] at r1; exact r1 rfl
    refine ⟨fun m h1 h2 h3 => ?_, fun h0 => ?_⟩
    · by_cases hR : (m : Int) = (setRoot g root at' L).1
      · rcases T.rt with ⟨e, _⟩ | ⟨_, _, e, _⟩
        · omega
        · rw [← hR, Int.toNat_natCast] at e; rw [e]
      · rw [(T.nd m h3 hR).2, hrg m h1 h2]; exact h2
    · rcases T.rt with ⟨e, _⟩ | ⟨_, _, _, ⟨e1, e2⟩ | ⟨e, _⟩⟩
      · omega
      · left
        refine ⟨e1, ?_⟩
        rw [e1] at h0
        obtain ⟨_, r1, r2⟩ := A.ro.resolve_left (by omega)
        rw [← hrg _ r1 r2]; exact e2
      · right
        rcases S.how with ⟨_, _, e2, _⟩ | ⟨_, e2, e3, _⟩
        · rw [← e2, e]; rfl
        · by_cases hRL : (setRoot g root at' L).1.toNat = L.toNat
          · rw [hRL, e2] at e; cases e
          · rw [← e3 _ hRL, e]; rfl
  · rw [if_neg hc1] at hc; exact absurd hc hc1

end Go.Proofs.Ytikjndmgljkhhaa

/- Chapter 5, plain: the tree of one volume turned: the pool stays right, all other volumes have what they had. -/
namespace Go.Proofs.Ytikjndmgljkhhaa
open Go.RowKit

theorem setRootV_get {vs : List Vo} {m : Nat} (h : m < vs.length) (R : Int) (i : Nat) : (setRootV vs m R).getD i vo0 = if i = m then ((vs.getD m vo0).1, (vs.getD m vo0).2.1, R) else vs.getD i vo0 := by
  unfold setRootV
  rw [List.getD_eq_getElem?_getD, List.getElem?_set]
  by_cases c : m = i
  · subst c; simp [h]
  · rw [if_neg c, if_neg (fun e => c e.symm), ← List.getD_eq_getElem?_getD]
theorem setRootV_len (vs : List Vo) (m : Nat) (R : Int) : (setRootV vs m R).length = vs.length := by simp [setRootV]
theorem rootsIn_turn {vs : List Vo} {m : Nat} (h : m < vs.length) (R i : Int) : (rootsIn (setRootV vs m R) i : Int) = rootsIn vs i - (if i = (vs.getD m vo0).2.2 then 1 else 0) + (if i = R then 1 else 0) := by
  have hp : i = (vs.getD m vo0).2.2 → 0 < rootsIn vs i := fun e => rootsIn_pos (vo_mem h) e.symm
  have e1 : ∀ a b : Int, (if (a == b) = true then 1 else 0 : Nat) = if b = a then 1 else 0 := fun a b => by
    by_cases c : a = b
    · subst c; simp
    · rw [if_neg (by simpa using c), if_neg (fun e => c e.symm)]
  have key : rootsIn (setRootV vs m R) i = rootsIn vs i - (if i = (vs.getD m vo0).2.2 then 1 else 0) + (if i = R then 1 else 0) := by
    unfold rootsIn setRootV
    rw [List.countP_set h, e1, e1, ← vo_get h]
  rw [key]
  split <;> rename_i c
  · have := hp c
    split <;> omega
  · split <;> simp
theorem setRootV_ids (vs : List Vo) (m : Nat) (R : Int) : (setRootV vs m R).map (·.1) = vs.map (·.1) := by
  unfold setRootV
  rw [List.map_set]
  by_cases h : m < vs.length
  · rw [vo_get h]
    apply List.ext_getElem? fun i => ?_
    rw [List.getElem?_set]
    split
    · rename_i c; subst c; simp [h]
    · rfl
  · rw [List.set_eq_of_length_le (by simp; omega)]
theorem ord_ids {vs ws : List Vo} (h : vs.map (·.1) = ws.map (·.1)) (o : ws.Pairwise fun a b => a.1 < b.1) : vs.Pairwise fun a b => a.1 < b.1 := by
  have a : (ws.map (·.1)).Pairwise (· < ·) := List.pairwise_map.2 o
  rw [← h] at a
  exact List.pairwise_map.1 a
theorem used_same {f g : Fo} {r s : Int} (h : ∀ k : Int, 0 ≤ k → k ≤ 15 → blockAt g s k = blockAt f r k) : usedN g s = usedN f r := by
  have key : ∀ n, n ≤ 16 → usedTo g s n = usedTo f r n := fun n => by
    induction n with
    | zero => intro _; rfl
    | succ k ih => intro hk; rw [usedTo_next, usedTo_next, ih (by omega), h k (by omega) (by omega)]
  exact key 16 (by omega)
/-- how many blocks a tree has where one place is turned -/
theorem used_turn {f g : Fo} {r s c : Int} {a : Nat} (ha : a ≤ 15) (h : ∀ k : Int, 0 ≤ k → k ≤ 15 → blockAt g s k = if k = (a : Int) then c else blockAt f r k) :
    usedN g s + (if blockAt f r a < 0 then 0 else 1) = usedN f r + (if c < 0 then 0 else 1) := by
  have key : ∀ n, n ≤ 16 → usedTo g s n + (if a < n then (if blockAt f r a < 0 then 0 else 1) else 0) = usedTo f r n + (if a < n then (if c < 0 then 0 else 1) else 0) := fun n => by
    induction n with
    | zero => intro _; rfl
    | succ k ih =>
      intro hk
      have := ih (by omega)
      rw [usedTo_next, usedTo_next, h k (by omega) (by omega)]
      by_cases e : k = a
      · subst e
        have l1 : k < k + 1 := Nat.lt_succ_self k
        have l2 : ¬ k < k := Nat.lt_irrefl k
        rw [if_pos (rfl : (k : Int) = (k : Int)), if_pos l1, if_pos l1]
        rw [if_neg l2, if_neg l2] at this
        omega
      · rw [if_neg (by omega : ¬ (k : Int) = a)]
        by_cases l : a < k
        · have l1 : a < k + 1 := by omega
          rw [if_pos l1, if_pos l1]
          rw [if_pos l, if_pos l] at this
          omega
        · have l1 : ¬ a < k + 1 := by omega
          rw [if_neg l1, if_neg l1]
          rw [if_neg l, if_neg l] at this
          omega
  have := key 16 (by omega)
  have l1 : a < 16 := by omega
  rw [if_pos l1, if_pos l1] at this
  exact this

/-- what a place of a tree has -/
def val (f : Fo) (root k : Int) : Option Int := if blockAt f root k < 0 then none else some (blockOf f (blockAt f root k).toNat).2
theorem val_same {f f' g : Fo} {r r' : Int} (hIg : Inv g) (hro : RootIs g r) (hIf : Inv f) (hro' : RootIs f r') (bk : ∀ j, (blockOf g j).1 ≠ 0 → (blockOf f' j).1 ≠ 0 ∧ (blockOf g j).2 = (blockOf f' j).2) (hbl : ∀ j, (blockOf f j).1 ≠ 0 → (blockOf f' j).2 = (blockOf f j).2) {k : Int} (k0 : 0 ≤ k) (k1 : k ≤ 15) (e : blockAt g r k = blockAt f r' k) : val g r k = val f r' k := by
  unfold val
  rw [e]
  rcases block_cases hIg hro k0 k1 with h | ⟨h1, h2⟩
  · rw [if_pos (by omega), if_pos (by omega)]
  · rw [e] at h1 h2
    rw [if_neg (by omega), if_neg (by omega)]
    rcases block_cases hIf hro' k0 k1 with h | ⟨_, h3⟩
    · omega
    · rw [(bk _ h2).2, hbl _ h3]

/-- what a turn of one volume's tree leaves -/
structure Turned (f : Fo) (vs : List Vo) (m : Nat) (g : Fo) (R : Int) : Prop where
  ok : PoolOk g (setRootV vs m R)
  oth : ∀ i, i < vs.length → i ≠ m → RootIs g (vs.getD i vo0).2.2 ∧ ∀ k : Int, 0 ≤ k → k ≤ 15 → blockAt g (vs.getD i vo0).2.2 k = blockAt f (vs.getD i vo0).2.2 k
theorem turn_ok {f f' g : Fo} {vs : List Vo} {m : Nat} {R at' b : Int} (P : PoolOk f vs) (hm : m < vs.length) (hn : f'.1 = f.1) (A : Ask f' (vs.getD m vo0).2.2 at' b) (hc : (setPlace f' (vs.getD m vo0).2.2 at' b).2.1 = 0) (hR : (setPlace f' (vs.getD m vo0).2.2 at' b).1 = R) (hg : (setPlace f' (vs.getD m vo0).2.2 at' b).2.2 = g) (Rg : Right g) (us : (usedN g R : Int) ≤ (vs.getD m vo0).2.1) : Turned f vs m g R := by
  have S := place_ok A hc
  have M := place_more A hc
  rw [hR, hg] at S M
  clear hR hg
  have hnd : ∀ n, nodeOf f' n = nodeOf f n := fun n => by unfold nodeOf; rw [hn]
  have hex : ∀ n, ext f' n = ext f n := fun n => by unfold ext named; rw [hn, hnd]
  have ex : ∀ n : Nat, ext g n = (rootsIn (setRootV vs m R) n : Int) := fun n => by rw [S.ex, hex, P.ex, rootsIn_turn hm]
  have hbf : ∀ r k : Int, blockAt f' r k = blockAt f r k := fun r k => blockAt_congr (fun n => by rw [hnd]) r k
  have oth : ∀ i, i < vs.length → i ≠ m → RootIs g (vs.getD i vo0).2.2 ∧ ∀ k : Int, 0 ≤ k → k ≤ 15 → blockAt g (vs.getD i vo0).2.2 k = blockAt f (vs.getD i vo0).2.2 k := fun i hi him => by
    obtain ⟨r, hr⟩ : ∃ r, (vs.getD i vo0).2.2 = r := ⟨_, rfl⟩
    have ro := (P.vol _ (vo_mem hi)).ro
    rw [hr] at ro ⊢
    have hin : ∀ T : Int, (0 : Int) < (rootsIn (setRootV vs m T) r : Int) := fun T => by
      have hmem : (setRootV vs m T).getD i vo0 ∈ setRootV vs m T := vo_mem (by rw [setRootV_len]; exact hi)
      rw [setRootV_get hm, if_neg him] at hmem
      have := rootsIn_pos hmem hr
      omega
    rcases ro with r0 | ⟨r0, r1, r2⟩
    · subst r0
      exact ⟨Or.inl rfl, fun k _ _ => by unfold blockAt leafAt; simp⟩
    · have hrR : r ≠ R := fun e => by
        rcases M.2 (by omega) with ⟨e1, e2⟩ | e1
        · have er : (vs.getD m vo0).2.2 = r := by omega
          have h1 := hin (-1)
          rw [rootsIn_turn hm, if_pos er.symm, if_neg (by omega)] at h1
          have h2 := P.ex r.toNat
          rw [show ((r.toNat : Nat) : Int) = r by omega] at h2
          unfold ext at h2
          rw [hnd, er] at e2
          rw [e2, named_none P.right.inv (Or.inr r2)] at h2
          omega
        · rw [hnd, ← e] at e1; exact r1 e1
      have hlive : (nodeOf g r.toNat).1 ≠ 0 := fun e => by
        have h1 := ex r.toNat
        rw [show ((r.toNat : Nat) : Int) = r by omega] at h1
        have h2 := hin R
        unfold ext at h1
        rw [e] at h1
        omega
      have hroot : (nodeOf g r.toNat).2.1 = false := M.1 _ (by rw [hnd]; exact r1) (by rw [hnd]; exact r2) hlive
      refine ⟨Or.inr ⟨r0, hlive, hroot⟩, fun k k0 k1 => ?_⟩
      have h3 := (S.keep r.toNat hlive hroot (by omega)).2.2 k k0 k1
      rw [show ((r.toNat : Nat) : Int) = r by omega] at h3
      rw [h3, hbf]
  refine ⟨⟨Rg, by rw [setRootV_len]; exact P.few, fun v hv => ?_, ord_ids (setRootV_ids vs m R) P.ord, ex⟩, oth⟩
  obtain ⟨i, hi, rfl⟩ := mem_vo hv
  rw [setRootV_len] at hi
  rw [setRootV_get hm]
  by_cases c : i = m
  · rw [if_pos c]
    have V := P.vol _ (vo_mem hm)
    exact ⟨V.i0, V.i1, V.q0, V.q1, S.rt, us⟩
  · rw [if_neg c]
    have V := P.vol _ (vo_mem hi)
    obtain ⟨o1, o2⟩ := oth i hi c
    exact ⟨V.i0, V.i1, V.q0, V.q1, o1, by rw [used_same o2]; exact V.us⟩

/-- a write: what comes of it, where it can be done -/
theorem write_ok {f : Fo} {vs : List Vo} {m a : Nat} {x : Int} (P : PoolOk f vs) (hm : m < vs.length) (ha : a ≤ 15) (h : setTCode f (vs.getD m vo0).2.2 a x = 0) (hq : blockAt f (vs.getD m vo0).2.2 a = -1 → (usedN f (vs.getD m vo0).2.2 : Int) ≠ (vs.getD m vo0).2.1) :
    Turned f vs m (setFo f (vs.getD m vo0).2.2 a x) (setRootT f (vs.getD m vo0).2.2 a x) ∧
    (∀ i, i < vs.length → ∀ k : Int, 0 ≤ k → k ≤ 15 → val (setFo f (vs.getD m vo0).2.2 a x) ((setRootV vs m (setRootT f (vs.getD m vo0).2.2 a x)).getD i vo0).2.2 k = if i = m ∧ k = a then some x else val f (vs.getD i vo0).2.2 k) ∧
    (∃ b : Nat, freeAt f.2 = some b ∧ ∀ k : Int, 0 ≤ k → k ≤ 15 → blockAt (setFo f (vs.getD m vo0).2.2 a x) (setRootT f (vs.getD m vo0).2.2 a x) k = if k = a then (b : Int) else blockAt f (vs.getD m vo0).2.2 k) := by
  have V := P.vol _ (vo_mem hm)
  obtain ⟨r, hr⟩ : ∃ r, (vs.getD m vo0).2.2 = r := ⟨_, rfl⟩
  obtain ⟨q, hqq⟩ : ∃ q, (vs.getD m vo0).2.1 = q := ⟨_, rfl⟩
  have VU := V.us
  have VR := V.ro
  rw [hr] at h hq VR
  rw [hr, hqq] at VU
  obtain ⟨b, T, x0, x1, hb, e1, e2⟩ := set_parts h
  obtain ⟨b', _, _, _, hb', S, Rg⟩ := set_place h
  rw [hb] at hb'
  obtain rfl : b = b' := by simpa using hb'
  have eg : setFo f r a x = (setTF f r a x).2.2 := by unfold setFo foIf; rw [if_pos h]
  have eR : setRootT f r a x = (setTF f r a x).1 := by unfold setRootT atIf; rw [if_pos h]
  have A := ask_take T hb x0 x1
  rw [← hr] at A e2
  rw [hr, eg, eR]
  obtain ⟨g, hg⟩ : ∃ g, (setTF f r a x).2.2 = g := ⟨_, rfl⟩
  obtain ⟨R, hR⟩ : ∃ R, (setTF f r a x).1 = R := ⟨_, rfl⟩
  rw [hg, hR] at S
  rw [hg] at Rg
  rw [hg, hR]
  have hg' : (setPlace (f.1, f.2.set b (1, x)) (vs.getD m vo0).2.2 a b).2.2 = g := by rw [hr, ← e1]; exact hg
  have hR' : (setPlace (f.1, f.2.set b (1, x)) (vs.getD m vo0).2.2 a b).1 = R := by rw [hr, ← e1]; exact hR
  have hnd : ∀ n, nodeOf ((f.1, f.2.set b (1, x)) : Fo) n = nodeOf f n := fun n => rfl
  have hbf : ∀ r k : Int, blockAt (f.1, f.2.set b (1, x)) r k = blockAt f r k := fun r k => blockAt_congr (fun n => by rw [hnd]) r k
  obtain ⟨hb1, hb2⟩ := freeAt_is hb
  have hbl : ∀ j, (blockOf f j).1 ≠ 0 → (blockOf ((f.1, f.2.set b (1, x)) : Fo) j).2 = (blockOf f j).2 := fun j hj => by
    rw [blockOf_set _ _ _ _ _ hb1, if_neg (fun e => by subst e; exact hj hb2)]; rfl
  have look : ∀ k : Int, 0 ≤ k → k ≤ 15 → blockAt g R k = if k = a then (b : Int) else blockAt f r k := fun k k0 k1 => by rw [S.look k k0 k1, hbf]
  have us := used_turn ha look
  rw [if_neg (by omega : ¬ (b : Int) < 0)] at us
  have hus : (usedN g R : Int) ≤ (vs.getD m vo0).2.1 := by
    rw [hqq]
    rcases block_cases P.right.inv VR (x := (a : Int)) (by omega) (by omega) with e | ⟨e, _⟩
    · have n1 := hq e
      rw [hqq] at n1
      rw [if_pos (by omega)] at us
      omega
    · rw [if_neg (by omega)] at us
      omega
  have TT := turn_ok (f' := (f.1, f.2.set b (1, x))) P hm rfl A e2 hR' hg' Rg hus
  refine ⟨TT, fun i hi k k0 k1 => ?_, b, hb, look⟩
  rw [setRootV_get hm]
  by_cases c : i = m
  · subst c
    rw [if_pos rfl]
    show val g R k = _
    by_cases ck : k = a
    · subst ck
      rw [if_pos ⟨rfl, rfl⟩]
      unfold val
      have e := look a k0 k1
      rw [if_pos rfl] at e
      rcases block_cases Rg.inv S.rt k0 k1 with h' | ⟨_, h2⟩
      · omega
      · rw [e] at h2 ⊢
        rw [if_neg (by omega), Int.toNat_natCast] 
        rw [Int.toNat_natCast] at h2
        rw [(S.bk _ h2).2, blockOf_set _ _ _ _ _ hb1, if_pos rfl]
    · rw [if_neg (fun h => ck h.2), hr]
      exact val_same Rg.inv S.rt P.right.inv VR S.bk hbl k0 k1 (by rw [look k k0 k1, if_neg ck])
  · rw [if_neg c, if_neg (fun h => c h.1)]
    obtain ⟨o1, o2⟩ := TT.oth i hi c
    exact val_same Rg.inv o1 P.right.inv (P.vol _ (vo_mem hi)).ro S.bk hbl k0 k1 (o2 k k0 k1)

end Go.Proofs.Ytikjndmgljkhhaa

/- Chapter 5, plain: a right pool has room for nodes: a write is refused for want of a block alone. -/
namespace Go.Proofs.Ytikjndmgljkhhaa
open Go.RowKit

def sumN (g : Nat → Nat) : Nat → Nat
  | 0 => 0
  | n + 1 => sumN g n + g n
theorem sumN_le {g h : Nat → Nat} : ∀ {n : Nat}, (∀ i, i < n → g i ≤ h i) → sumN g n ≤ sumN h n := by
  intro n
  induction n with
  | zero => intro _; exact Nat.le_refl _
  | succ n ih => intro hh; have a := ih (fun i hi => hh i (by omega)); have b := hh n (by omega); unfold sumN; omega
theorem sumN_add (g h : Nat → Nat) (n : Nat) : sumN (fun i => g i + h i) n = sumN g n + sumN h n := by
  induction n with
  | zero => rfl
  | succ n ih => unfold sumN; rw [ih]; omega
theorem sumN_zero (n : Nat) : sumN (fun _ => 0) n = 0 := by
  induction n with
  | zero => rfl
  | succ n ih => unfold sumN; rw [ih]
theorem sumN_one (k : Int) (n : Nat) : sumN (fun i => if k = (i : Int) then 1 else 0) n = if 0 ≤ k ∧ k < n then 1 else 0 := by
  induction n with
  | zero => rw [if_neg (by omega)]; rfl
  | succ n ih =>
    unfold sumN
    rw [ih]
    by_cases h : k = (n : Int)
    · rw [if_pos h, if_neg (by omega), if_pos (by omega)]
    · rw [if_neg h]
      by_cases h2 : 0 ≤ k ∧ k < n
      · rw [if_pos h2, if_pos (by omega)]
      · rw [if_neg h2, if_neg (by omega)]
theorem sumN_count (ks : List Int) (n : Nat) : sumN (fun i => ks.count (i : Int)) n ≤ ks.length := by
  induction ks with
  | nil => simp only [List.count_nil]; rw [sumN_zero]; exact Nat.le_refl _
  | cons k r ih =>
    have e : (fun i : Nat => (k :: r).count (i : Int)) = fun i : Nat => r.count (i : Int) + (if k = (i : Int) then 1 else 0) := funext fun i => by
      rw [List.count_cons]; congr 1; by_cases c : k = (i : Int) <;> simp [c]
    rw [e, sumN_add, sumN_one, List.length_cons]
    split <;> omega
theorem countP_sum {p : Nd → Bool} (ns : List Nd) : ∀ k, k ≤ ns.length → (ns.take k).countP p = sumN (fun i => if p (ns.getD i nd0) = true then 1 else 0) k := by
  intro k
  induction k with
  | zero => intro _; rfl
  | succ k ih =>
    intro hk
    unfold sumN
    rw [List.take_succ_eq_append_getElem (by omega), List.countP_append, ih (by omega), List.countP_cons, List.countP_nil, Nat.zero_add, List.getD_eq_getElem?_getD, List.getElem?_eq_getElem (by omega), Option.getD_some]
/-- how many nodes are in use -/
def live60 (f : Fo) : Nat := sumN (fun i => if (nodeOf f i).1 ≠ 0 then 1 else 0) 60
def rootN (f : Fo) : Nat := sumN (fun i => if (nodeOf f i).1 ≠ 0 ∧ (nodeOf f i).2.1 = false then 1 else 0) 60
def leafN (f : Fo) : Nat := sumN (fun i => if (nodeOf f i).1 ≠ 0 ∧ (nodeOf f i).2.1 = true then 1 else 0) 60
theorem live_parts (f : Fo) : live60 f = rootN f + leafN f := by
  unfold live60 rootN leafN
  rw [← sumN_add]
  congr 1
  funext i
  cases h : (nodeOf f i).2.1 <;> by_cases c : (nodeOf f i).1 = 0 <;> simp [c]
theorem rootsIn_count (vs : List Vo) (i : Int) : rootsIn vs i = (vs.map (·.2.2)).count i := by
  unfold rootsIn List.count
  rw [List.countP_map]
  rfl
theorem root_few {f : Fo} {vs : List Vo} (P : PoolOk f vs) : rootN f ≤ 6 := by
  have h : rootN f ≤ sumN (fun i => (vs.map (·.2.2)).count (i : Int)) 60 := sumN_le fun i _ => by
    split
    · rename_i c
      have hx := P.ex i
      unfold ext at hx
      rw [named_none P.right.inv (Or.inr c.2)] at hx
      have h0 := ((P.right.inv.nd i).r0 : 0 ≤ (nodeOf f i).1)
      rw [← rootsIn_count]
      omega
    · exact Nat.zero_le _
  have h2 := sumN_count (vs.map (·.2.2)) 60
  have h3 := P.few
  rw [List.length_map] at h2
  omega
theorem named_sum {f : Fo} (ns : List Nd) (l : Bool) (h : ∀ nd ∈ ns, nd.1 ≠ 0 → nd.2.2.length = 4) (n : Nat) : sumN (fun i => namedIn ns l (i : Int)) n ≤ 4 * ns.countP (fun p => decide (p.1 ≠ 0) && (p.2.1 == l)) := by
  have _ := f
  induction ns with
  | nil =>
    have e : (fun i : Nat => namedIn ([] : List Nd) l (i : Int)) = fun _ => 0 := funext fun i => rfl
    rw [e, sumN_zero]; exact Nat.zero_le _
  | cons nd r ih =>
    have e : (fun i : Nat => namedIn (nd :: r) l (i : Int)) = fun i : Nat => namesOf nd l (i : Int) + namedIn r l (i : Int) := funext fun i => by simp [namedIn]
    have h1 := ih fun x hx => h x (List.mem_cons_of_mem _ hx)
    rw [e, sumN_add, List.countP_cons]
    by_cases c : nd.1 = 0 ∨ nd.2.1 ≠ l
    · have e2 : (fun i : Nat => namesOf nd l (i : Int)) = fun _ => 0 := funext fun i => by unfold namesOf; rw [if_pos c]
      rw [e2, sumN_zero]
      omega
    · have e2 : (fun i : Nat => namesOf nd l (i : Int)) = fun i : Nat => nd.2.2.count (i : Int) := funext fun i => by unfold namesOf; rw [if_neg c]
      have h2 := sumN_count nd.2.2 n
      have h3 := h nd (List.mem_cons_self) (fun x => c (Or.inl x))
      have hl : nd.2.1 = l := Decidable.byContradiction fun x => c (Or.inr x)
      have h4 : (decide (nd.1 ≠ 0) && (nd.2.1 == l)) = true := by have h5 : nd.1 ≠ 0 := fun x => c (Or.inl x); simp [hl, h5]
      rw [e2, if_pos h4]
      omega
theorem kind_count {f : Fo} (h : Inv f) (l : Bool) : f.1.countP (fun p => decide (p.1 ≠ 0) && (p.2.1 == l)) = sumN (fun i => if (nodeOf f i).1 ≠ 0 ∧ (nodeOf f i).2.1 = l then 1 else 0) 60 := by
  have hn := h.nn
  have a := countP_sum (p := fun p => decide (p.1 ≠ 0) && (p.2.1 == l)) f.1 f.1.length (Nat.le_refl _)
  rw [List.take_of_length_le (Nat.le_refl _)] at a
  rw [a]
  have e : ∀ d, f.1.length + d ≤ 60 → sumN (fun i => if (nodeOf f i).1 ≠ 0 ∧ (nodeOf f i).2.1 = l then 1 else 0) (f.1.length + d) = sumN (fun i => if (decide ((f.1.getD i nd0).1 ≠ 0) && ((f.1.getD i nd0).2.1 == l)) = true then 1 else 0) f.1.length := fun d => by
    induction d with
    | zero =>
      intro _
      congr 1
      funext i
      show (if (f.1.getD i nd0).1 ≠ 0 ∧ (f.1.getD i nd0).2.1 = l then 1 else 0) = _
      congr 1
      simp
    | succ d ih =>
      intro hd
      show sumN _ (f.1.length + d) + (if (nodeOf f (f.1.length + d)).1 ≠ 0 ∧ (nodeOf f (f.1.length + d)).2.1 = l then 1 else 0) = _
      rw [ih (by omega), nodeOf_out (by omega)]
      rfl
  have := e (60 - f.1.length) (by omega)
  rw [show f.1.length + (60 - f.1.length) = 60 by omega] at this
  rw [this]
theorem leaf_few {f : Fo} {vs : List Vo} (P : PoolOk f vs) : leafN f ≤ 24 := by
  have hr := root_few P
  have h4 : ∀ nd ∈ f.1, nd.1 ≠ 0 → nd.2.2.length = 4 := fun nd hnd h0 => by
    obtain ⟨i, _, rfl⟩ := mem_nodeOf hnd
    exact (P.right.inv.nd i).kl h0
  have a := named_sum (f := f) f.1 false h4 60
  rw [kind_count P.right.inv] at a
  have b : leafN f ≤ sumN (fun i => namedIn f.1 false (i : Int)) 60 := sumN_le fun i _ => by
    split
    · rename_i c
      have hx := P.ex i
      have hz : rootsIn vs i = 0 := rootsIn_none fun v hv e => by
        rcases (P.vol v hv).ro with r | ⟨r0, r1, r2⟩
        · omega
        · rw [show v.2.2.toNat = i by omega, c.2] at r2; cases r2
      unfold ext at hx
      have h0 := ((P.right.inv.nd i).r0 : 0 ≤ (nodeOf f i).1)
      show 1 ≤ named f false i
      omega
    · exact Nat.zero_le _
  unfold rootN at hr
  omega

theorem named_le {f : Fo} (h : Inv f) (l : Bool) (i : Nat) (hi : i < 60) : named f l i ≤ 4 * sumN (fun i => if (nodeOf f i).1 ≠ 0 ∧ (nodeOf f i).2.1 = l then 1 else 0) 60 := by
  have h4 : ∀ nd ∈ f.1, nd.1 ≠ 0 → nd.2.2.length = 4 := fun nd hnd h0 => by
    obtain ⟨i, _, rfl⟩ := mem_nodeOf hnd
    exact (h.nd i).kl h0
  have a := named_sum (f := f) f.1 l h4 60
  rw [kind_count h] at a
  have b : ∀ n, i < n → namedIn f.1 l (i : Int) ≤ sumN (fun j => namedIn f.1 l (j : Int)) n := fun n => by
    induction n with
    | zero => intro h; omega
    | succ n ih =>
      intro h
      unfold sumN
      by_cases e : i = n
      · subst e; omega
      · have := ih (by omega); omega
  exact Nat.le_trans (b 60 hi) a
/-- how often things are referred to in a right pool -/
theorem refs_few {f : Fo} {vs : List Vo} (P : PoolOk f vs) : (∀ i, (nodeOf f i).1 ≤ 24) ∧ (∀ j, (blockOf f j).1 ≤ 96) := by
  have hr := root_few P
  have hl := leaf_few P
  refine ⟨fun i => ?_, fun j => ?_⟩
  · by_cases h0 : (nodeOf f i).1 = 0
    · omega
    · have hi := live_lt h0
      have hn := P.right.inv.nn
      have hx := P.ex i
      unfold ext at hx
      have a := named_le P.right.inv false i (by omega)
      unfold rootN at hr
      cases hf : (nodeOf f i).2.1 with
      | true =>
        have hz : rootsIn vs i = 0 := rootsIn_none fun v hv e => by
          rcases (P.vol v hv).ro with r | ⟨r0, r1, r2⟩
          · omega
          · rw [show v.2.2.toNat = i by omega, hf] at r2; cases r2
        omega
      | false =>
        have b := rootsIn_le vs (i : Int)
        have c := P.few
        rw [named_none P.right.inv (Or.inr hf)] at hx
        omega
  · by_cases h0 : (blockOf f j).1 = 0
    · omega
    · have hj := liveB_lt h0
      have hb := P.right.inv.nb
      have hx := extB_zero P.right j
      unfold extB at hx
      have a := named_le P.right.inv true j (by omega)
      unfold leafN at hl
      omega
theorem moreTo_ok {lf : Bool} {but : Nat} {ks : List Int} {f : Fo} (h : ∀ i, (nodeOf f i).1 ≤ 195 ∧ (blockOf f i).1 ≤ 195) : ∀ j, j ≤ 4 → ∃ g, moreTo lf but ks j f = some g ∧ ∀ i, (nodeOf g i).1 ≤ 195 + j ∧ (blockOf g i).1 ≤ 195 + j := by
  intro j
  induction j with
  | zero => intro _; exact ⟨f, rfl, fun i => by have := h i; omega⟩
  | succ j ih =>
    intro hj
    obtain ⟨g, hg, hb⟩ := ih (by omega)
    obtain ⟨k, hk⟩ : ∃ k, ks.getD j 0 = k := ⟨_, rfl⟩
    have e : moreTo lf but ks (j + 1) f = moreStep lf but g j k := by rw [moreTo, hg, hk]; rfl
    rw [e]
    unfold moreStep
    by_cases c : j = but ∨ k < 0
    · rw [if_pos c]; exact ⟨g, rfl, fun i => by have := hb i; omega⟩
    · rw [if_neg c]
      cases lf with
      | true =>
        have q := (hb k.toNat).2
        rw [if_pos rfl, if_neg (by omega)]
        refine ⟨_, rfl, fun i => ⟨by have := (hb i).1; show (nodeOf g i).1 ≤ _; omega, ?_⟩⟩
        unfold moreB
        by_cases hl : k.toNat < g.2.length
        · rw [blockOf_set _ _ _ _ _ hl]
          split
          · have : (more1 (g.2.getD k.toNat (0, 0))).1 = (blockOf g k.toNat).1 + 1 := rfl
            omega
          · have := (hb i).2
            show (blockOf g i).1 ≤ _
            omega
        · rw [List.set_eq_of_length_le (by omega)]
          have := (hb i).2
          show (blockOf g i).1 ≤ _
          omega
      | false =>
        have q := (hb k.toNat).1
        rw [if_neg (by decide), if_neg (by omega)]
        refine ⟨_, rfl, fun i => ⟨?_, by have := (hb i).2; show (blockOf g i).1 ≤ _; omega⟩⟩
        unfold moreAt
        by_cases hl : k.toNat < g.1.length
        · rw [nodeOf_set _ _ _ _ _ hl]
          split
          · have : (moreNd (nodeOf g k.toNat)).1 = (nodeOf g k.toNat).1 + 1 := rfl
            omega
          · have := (hb i).1
            show (nodeOf g i).1 ≤ _
            omega
        · rw [List.set_eq_of_length_le (by omega)]
          have := (hb i).1
          show (nodeOf g i).1 ≤ _
          omega
theorem freeNd_all {ns : List Nd} (h : freeNd ns = none) : ∀ i, i < ns.length → (ns.getD i nd0).1 ≠ 0 := by
  induction ns with
  | nil => intro i hi; simp at hi
  | cons p r ih =>
    intro i hi
    unfold freeNd at h
    by_cases c : p.1 = 0
    · rw [if_pos c] at h; cases h
    · rw [if_neg c] at h
      have h' : freeNd r = none := by simpa using h
      cases i with
      | zero => simpa using c
      | succ i => simpa using ih h' i (by simpa using hi)
theorem newNd_ok {f : Fo} (h : live60 f < 60) (nd : Nd) : ∃ i ns, newNd f.1 nd = some (i, ns) := by
  unfold newNd
  cases hf : freeNd f.1 with
  | some j => exact ⟨_, _, rfl⟩
  | none =>
    by_cases h60 : 60 ≤ f.1.length
    · exfalso
      have key : ∀ n, n ≤ 60 → sumN (fun i => if (nodeOf f i).1 ≠ 0 then 1 else 0) n = n := fun n => by
        induction n with
        | zero => intro _; rfl
        | succ n ih =>
          intro hn
          unfold sumN
          rw [ih (by omega), if_pos (show (nodeOf f n).1 ≠ 0 from freeNd_all hf n (by omega))]
      have := key 60 (Nat.le_refl _)
      unfold live60 at h
      omega
    · exact ⟨_, _, by simp only; rw [if_neg h60]⟩
theorem setLeaf_code {f : Fo} (h : live60 f < 60) (hb : ∀ i, (nodeOf f i).1 ≤ 194 ∧ (blockOf f i).1 ≤ 194) (hI : Inv f) (root at' b : Int) : (setLeaf f root at' b).2.1 = 0 := by
  unfold setLeaf
  obtain ⟨ks, hks⟩ : ∃ ks, (if 0 ≤ leafAt f root at' then (nodeOf f (leafAt f root at').toNat).2.2 else []) = ks := ⟨_, rfl⟩
  simp only [hks]
  obtain ⟨nx, hnx⟩ : ∃ nx, withKid ks (at'.toNat % 4) b = nx := ⟨_, rfl⟩
  simp only [hnx]
  split
  · rfl
  · split
    · rfl
    · obtain ⟨i, ns, hn⟩ := newNd_ok h (1, true, nx)
      have N := new_at hI hn
      obtain ⟨g, hg, _⟩ := moreTo_ok (lf := true) (but := at'.toNat % 4) (ks := nx) (f := (ns, f.2)) (fun m => by
        rw [N.node]
        have q := hb m
        refine ⟨?_, by show (blockOf f m).1 ≤ _; omega⟩
        split
        · show (1 : Int) ≤ 195; decide
        · omega) 4 (Nat.le_refl _)
      rw [hn]
      simp only
      rw [show moreKids (ns, f.2) true nx (at'.toNat % 4) = some g from hg]
theorem setRoot_code {f : Fo} (h : live60 f < 60) (hb : ∀ i, (nodeOf f i).1 ≤ 194 ∧ (blockOf f i).1 ≤ 194) (hI : Inv f) (root at' b : Int) : (setRoot f root at' b).2.1 = 0 := by
  unfold setRoot
  obtain ⟨ks, hks⟩ : ∃ ks, (if 0 ≤ root then (nodeOf f root.toNat).2.2 else []) = ks := ⟨_, rfl⟩
  simp only [hks]
  obtain ⟨nx, hnx⟩ : ∃ nx, withKid ks (at'.toNat / 4) b = nx := ⟨_, rfl⟩
  simp only [hnx]
  split
  · rfl
  · split
    · rfl
    · obtain ⟨i, ns, hn⟩ := newNd_ok h (1, false, nx)
      have N := new_at hI hn
      obtain ⟨g, hg, _⟩ := moreTo_ok (lf := false) (but := at'.toNat / 4) (ks := nx) (f := (ns, f.2)) (fun m => by
        rw [N.node]
        have q := hb m
        refine ⟨?_, by show (blockOf f m).1 ≤ _; omega⟩
        split
        · show (1 : Int) ≤ 195; decide
        · omega) 4 (Nat.le_refl _)
      rw [hn]
      simp only
      rw [show moreKids (ns, f.2) false nx (at'.toNat / 4) = some g from hg]
theorem setPlace_code {f : Fo} (h : live60 f ≤ 58) (hlf : leafN f ≤ 24) (hb : ∀ i, (nodeOf f i).1 ≤ 97 ∧ (blockOf f i).1 ≤ 97) {root at' b : Int} (A : Ask f root at' b) : (setPlace f root at' b).2.1 = 0 := by
  have hc1 := setLeaf_code (f := f) (by omega) (fun i => by have := hb i; omega) A.inv root at' b
  unfold setPlace
  rw [if_pos hc1]
  have S := setLeaf_ok A hc1
  obtain ⟨L, hL⟩ : ∃ L, (setLeaf f root at' b).1 = L := ⟨_, rfl⟩
  obtain ⟨g, hg⟩ : ∃ g, (setLeaf f root at' b).2.2 = g := ⟨_, rfl⟩
  rw [hL, hg] at S ⊢
  have hnode : ∀ m, nodeOf g m = nodeOf f m ∨ ((nodeOf g m).1 = 1 ∧ (m : Int) = L) := fun m => by
    rcases S.how with ⟨_, _, e, _⟩ | ⟨e0, e1, e2, _⟩
    · left; rw [e]
    · by_cases c : m = L.toNat
      · right; rw [c, e1]; exact ⟨rfl, by omega⟩
      · left; exact e2 m c
  have hlive : live60 g ≤ live60 f + 1 := by
    have a : live60 g ≤ sumN (fun i => (if (nodeOf f i).1 ≠ 0 then 1 else 0) + (if L = (i : Int) then 1 else 0)) 60 := sumN_le fun i _ => by
      rcases hnode i with e | ⟨e, e2⟩
      · rw [e]; omega
      · rw [if_pos (c := L = (i : Int)) e2.symm, e]; simp
    rw [sumN_add, sumN_one] at a
    unfold live60 at a ⊢
    split at a <;> omega
  refine setRoot_code (by omega) (fun i => ⟨?_, ?_⟩) S.inv root at' L
  · rcases hnode i with e | ⟨e, _⟩
    · rw [e]; have := (hb i).1; omega
    · omega
  · by_cases c : (blockOf g i).1 = 0
    · omega
    · have e1 := S.eb i
      unfold extB at e1
      have hI := S.inv
      have a := named_le hI true i (by have := liveB_lt c; have := hI.nb; omega)
      have b2 : sumN (fun i => if (nodeOf g i).1 ≠ 0 ∧ (nodeOf g i).2.1 = true then 1 else 0) 60 ≤ sumN (fun i => (if (nodeOf f i).1 ≠ 0 ∧ (nodeOf f i).2.1 = true then 1 else 0) + (if L = (i : Int) then 1 else 0)) 60 := sumN_le fun i _ => by
        rcases hnode i with e | ⟨e, e2⟩
        · rw [e]; omega
        · rw [if_pos (c := L = (i : Int)) e2.symm]; split <;> omega
      rw [sumN_add, sumN_one] at b2
      unfold leafN at hlf
      split at b2 <;> omega
/-- the code of a write in a right pool -/
theorem set_code {f : Fo} {vs : List Vo} (P : PoolOk f vs) {v : Vo} (hv : v ∈ vs) {a : Nat} (ha : a ≤ 15) {x : Int} (x0 : 0 ≤ x) (x1 : x ≤ 255) : setTCode f v.2.2 a x = if freeAt f.2 = none then 8 else 0 := by
  have T : TreeOk f v.2.2 a := ⟨P.right, (P.vol v hv).ro, by omega, by omega⟩
  unfold setTCode
  rw [if_pos (tree_is T), if_pos (by simp [dataB, x0, x1])]
  cases hf : freeAt f.2 with
  | none => rfl
  | some b =>
    rw [if_neg (by simp)]
    have A := ask_take T hf x0 x1
    have hn : ∀ m, nodeOf ((f.1, f.2.set b (1, x)) : Fo) m = nodeOf f m := fun _ => rfl
    have hl := live_parts f
    have h1 := root_few P
    have h2 := leaf_few P
    obtain ⟨r1, r2⟩ := refs_few P
    obtain ⟨hb1, _⟩ := freeAt_is hf
    exact setPlace_code (f := (f.1, f.2.set b (1, x))) (by show live60 f ≤ 58; omega) h2 (fun i => ⟨by have := r1 i; rw [hn]; omega, by
      rw [blockOf_set _ _ _ _ _ hb1]
      split
      · show (1 : Int) ≤ 97; decide
      · have := r2 i; show (blockOf f i).1 ≤ 97; omega⟩) A
end Go.Proofs.Ytikjndmgljkhhaa

/- Chapter 5, plain: which blocks are in use: just those that a volume has. -/
namespace Go.Proofs.Ytikjndmgljkhhaa
open Go.RowKit

/-- a block in use is at a place of a volume -/
theorem live_place {f : Fo} {vs : List Vo} (P : PoolOk f vs) {j : Nat} (h : (blockOf f j).1 ≠ 0) : ∃ i, i < vs.length ∧ ∃ k : Nat, k ≤ 15 ∧ blockAt f (vs.getD i vo0).2.2 k = (j : Int) := by
  have hx := extB_zero P.right j
  unfold extB at hx
  obtain ⟨l, hl, l0, l1, l2⟩ := named_pos (f := f) (l := true) (k := (j : Int)) (by omega)
  obtain ⟨p, hp, ep⟩ := List.getElem_of_mem l2
  rw [(P.right.inv.nd l).kl l0] at hp
  have hex := P.ex l
  have hz : rootsIn vs l = 0 := rootsIn_none fun v hv e => by
    rcases (P.vol v hv).ro with r | ⟨r0, r1, r2⟩
    · omega
    · rw [show v.2.2.toNat = l by omega, l1] at r2; cases r2
  unfold ext at hex
  obtain ⟨r, hr, r0, r1, r2⟩ := named_pos (f := f) (l := false) (k := (l : Int)) (by omega)
  obtain ⟨q, hq, eq⟩ := List.getElem_of_mem r2
  rw [(P.right.inv.nd r).kl r0] at hq
  have hex2 := P.ex r
  unfold ext at hex2
  rw [named_none P.right.inv (Or.inr r1)] at hex2
  have hpos : 0 < rootsIn vs r := by omega
  unfold rootsIn at hpos
  rw [List.countP_pos_iff] at hpos
  obtain ⟨v, hv, ev⟩ := hpos
  have ev' : v.2.2 = (r : Int) := by simpa using ev
  obtain ⟨i, hi, rfl⟩ := mem_vo hv
  have gd : ∀ (l : List Int) (i : Nat) (h : i < l.length), l.getD i 0 = l[i] := fun l i h => by rw [List.getD_eq_getElem?_getD, List.getElem?_eq_getElem h, Option.getD_some]
  refine ⟨i, hi, 4 * q + p, by omega, ?_⟩
  rw [ev']
  have e1 : leafAt f (r : Int) ((4 * q + p : Nat) : Int) = (l : Int) := by
    unfold leafAt
    rw [if_neg (by omega), Int.toNat_natCast, Int.toNat_natCast, show (4 * q + p) / 4 = q by omega, gd _ _ (by rw [(P.right.inv.nd r).kl r0]; exact hq), eq]
  unfold blockAt
  rw [e1, if_neg (by omega), Int.toNat_natCast, Int.toNat_natCast, show (4 * q + p) % 4 = p by omega, gd _ _ (by rw [(P.right.inv.nd l).kl l0]; exact hp), ep]
theorem place_live {f : Fo} {vs : List Vo} (P : PoolOk f vs) {j : Nat} {i : Nat} (hi : i < vs.length) {k : Int} (k0 : 0 ≤ k) (k1 : k ≤ 15) (h : blockAt f (vs.getD i vo0).2.2 k = (j : Int)) : (blockOf f j).1 ≠ 0 := by
  rcases block_cases P.right.inv (P.vol _ (vo_mem hi)).ro k0 k1 with e | ⟨_, e⟩
  · omega
  · rw [h, Int.toNat_natCast] at e; exact e
def liveB (f : Fo) : Nat := sumN (fun j => if (blockOf f j).1 ≠ 0 then 1 else 0) 24
theorem freeN_sum (bs : List (Int × Int)) : ∀ k, k ≤ bs.length → freeN (bs.take k) + sumN (fun j => if (bs.getD j (0, 0)).1 ≠ 0 then 1 else 0) k = k := by
  intro k
  induction k with
  | zero => intro _; rfl
  | succ k ih =>
    intro hk
    have a := ih (by omega)
    rw [freeN_snoc bs k (by omega)]
    unfold sumN
    by_cases c : (bs.getD k (0, 0)).1 = 0
    · rw [if_pos c, if_neg (fun h => h c)]; omega
    · rw [if_neg c, if_pos c]; omega
theorem free_live {f : Fo} (h : f.2.length ≤ 24) : freeN f.2 + liveB f = f.2.length := by
  have a := freeN_sum f.2 f.2.length (Nat.le_refl _)
  rw [List.take_of_length_le (Nat.le_refl _)] at a
  have e : ∀ d, f.2.length + d ≤ 24 → sumN (fun j => if (blockOf f j).1 ≠ 0 then 1 else 0) (f.2.length + d) = sumN (fun j => if (f.2.getD j (0, 0)).1 ≠ 0 then 1 else 0) f.2.length := fun d => by
    induction d with
    | zero => intro _; rfl
    | succ d ih =>
      intro hd
      show sumN _ (f.2.length + d) + (if (blockOf f (f.2.length + d)).1 ≠ 0 then 1 else 0) = _
      rw [ih (by omega), blockOf_out (by omega)]
      rfl
  have := e (24 - f.2.length) (by omega)
  rw [show f.2.length + (24 - f.2.length) = 24 by omega] at this
  unfold liveB
  rw [this]
  exact a
theorem free_some {bs : List (Int × Int)} (h : freeN bs ≠ 0) : freeAt bs ≠ none := fun e => by
  have key : ∀ bs : List (Int × Int), freeAt bs = none → freeN bs = 0 := fun bs => by
    induction bs with
    | nil => intro _; rfl
    | cons p r ih =>
      intro h
      unfold freeAt at h
      by_cases c : p.1 = 0
      · rw [if_pos c] at h; cases h
      · rw [if_neg c] at h
        have := ih (by simpa using h)
        unfold freeN at this ⊢
        rw [List.filter_cons_of_neg (by simpa using c)]
        exact this
  exact h (key bs e)
theorem set_len {f : Fo} {r a x : Int} (h : setTCode f r a x = 0) : (setFo f r a x).2.length = f.2.length := by
  obtain ⟨b, _, _, _, _, e, _⟩ := set_parts h
  unfold setFo foIf
  rw [if_pos h, e, setPlace_len]
  simp
/-- a write at a place that had nothing takes just one block -/
theorem write_free {f : Fo} {vs : List Vo} {m a : Nat} {x : Int} (P : PoolOk f vs) (hm : m < vs.length) (ha : a ≤ 15) (h : setTCode f (vs.getD m vo0).2.2 a x = 0) (hq : blockAt f (vs.getD m vo0).2.2 a = -1 → (usedN f (vs.getD m vo0).2.2 : Int) ≠ (vs.getD m vo0).2.1) (hnew : blockAt f (vs.getD m vo0).2.2 a = -1) : freeN (setFo f (vs.getD m vo0).2.2 a x).2 + 1 = freeN f.2 := by
  obtain ⟨T, _, b, hb, look⟩ := write_ok P hm ha h hq
  have hln := set_len h
  obtain ⟨g, hg⟩ : ∃ g, setFo f (vs.getD m vo0).2.2 a x = g := ⟨_, rfl⟩
  obtain ⟨R, hR⟩ : ∃ R, setRootT f (vs.getD m vo0).2.2 a x = R := ⟨_, rfl⟩
  rw [hg, hR] at T look
  rw [hg] at hln ⊢
  have Pg := T.ok
  have hb24 := P.right.inv.nb
  obtain ⟨hb1, hb2⟩ := freeAt_is hb
  have hbf : (blockOf f b).1 = 0 := hb2
  have root : ∀ i, i < vs.length → ((setRootV vs m R).getD i vo0).2.2 = if i = m then R else (vs.getD i vo0).2.2 := fun i _ => by rw [setRootV_get hm]; split <;> rfl
  have key : ∀ j : Nat, (blockOf g j).1 ≠ 0 ↔ ((blockOf f j).1 ≠ 0 ∨ j = b) := fun j => by
    constructor
    · intro hj
      obtain ⟨i, hi, k, hk, e⟩ := live_place Pg hj
      rw [setRootV_len] at hi
      rw [root i hi] at e
      by_cases c : i = m
      · rw [if_pos c, look k (by omega) (by omega)] at e
        by_cases ck : (k : Int) = a
        · rw [if_pos ck] at e; right; omega
        · rw [if_neg ck] at e; left; exact place_live P hm (by omega) (by omega) e
      · rw [if_neg c, (T.oth i hi c).2 k (by omega) (by omega)] at e
        left; exact place_live P hi (by omega) (by omega) e
    · rintro (hj | rfl)
      · obtain ⟨i, hi, k, hk, e⟩ := live_place P hj
        refine place_live Pg (i := i) (by rw [setRootV_len]; exact hi) (k := k) (by omega) (by omega) ?_
        rw [root i hi]
        by_cases c : i = m
        · rw [c] at e
          have ck : (k : Int) ≠ a := fun e2 => by rw [e2] at e; omega
          rw [if_pos c, look k (by omega) (by omega), if_neg ck]; exact e
        · rw [if_neg c, (T.oth i hi c).2 k (by omega) (by omega)]; exact e
      · refine place_live Pg (i := m) (by rw [setRootV_len]; exact hm) (k := a) (by omega) (by omega) ?_
        rw [root m hm, if_pos rfl, look a (by omega) (by omega), if_pos rfl]
  have hl : liveB g = liveB f + 1 := by
    have e : (fun j : Nat => if (blockOf g j).1 ≠ 0 then 1 else 0) = fun j : Nat => (if (blockOf f j).1 ≠ 0 then 1 else 0) + (if (b : Int) = (j : Int) then 1 else 0) := funext fun j => by
      by_cases c : j = b
      · subst c; rw [if_pos ((key j).2 (Or.inr rfl)), if_neg (fun h => h hbf), if_pos rfl]
      · rw [if_neg (c := (b : Int) = (j : Int)) (by omega)]
        by_cases c2 : (blockOf f j).1 = 0
        · rw [if_neg (fun h => ((key j).1 h).elim (fun h => h c2) c), if_neg (fun h => h c2)]
        · rw [if_pos ((key j).2 (Or.inl c2)), if_pos c2]
    unfold liveB
    rw [e, sumN_add, sumN_one, if_pos (by omega)]
  have a1 := free_live (f := f) hb24
  have a2 := free_live (f := g) (by omega)
  omega
end Go.Proofs.Ytikjndmgljkhhaa

/- Chapter 5, plain: a pool with one volume, filled place by place (FnFulls, FnQuotas). -/
namespace Go.Proofs.Ytikjndmgljkhhaa
open Go.RowKit

/-- one volume whose first k places have a block, of n blocks -/
structure One (f : Fo) (q R : Int) (k n : Nat) : Prop where
  ok : PoolOk f [(1, q, R)]
  has : ∀ j : Nat, j ≤ 15 → (0 ≤ blockAt f R j ↔ j < k)
  free : freeN f.2 + k = n
  len : f.2.length = n
theorem usedTo_first {f : Fo} {R : Int} {k : Nat} (h : ∀ j : Nat, j ≤ 15 → (0 ≤ blockAt f R j ↔ j < k)) : ∀ n, n ≤ 16 → usedTo f R n = min k n := fun n => by
  induction n with
  | zero => intro _; simp [usedTo]
  | succ n ih =>
    intro hn
    have a := ih (by omega)
    have b := h n (by omega)
    rw [usedTo_next, a]
    by_cases c : n < k
    · rw [if_neg (by have := b.2 c; omega)]; omega
    · rw [if_pos (by have := fun x => c (b.1 x); omega)]; omega
theorem One.used {f : Fo} {q R : Int} {k n : Nat} (h : One f q R k n) (hk : k ≤ 16) : usedN f R = k := by
  unfold usedN
  rw [usedTo_first h.has 16 (Nat.le_refl _)]; omega
theorem one_new {q : Int} {n : Nat} (q0 : 1 ≤ q) (q1 : q ≤ 16) (hn : n ≤ 24) : One (newFoList n) q (-1) 0 n := by
  have R := right_of (new_right hn)
  have hb : ∀ j : Int, blockAt (newFoList n) (-1) j = -1 := fun j => by
    have e : leafAt (newFoList n) (-1) j = -1 := if_pos (by decide)
    unfold blockAt; rw [e, if_pos (by decide)]
  have h0 : ∀ j : Nat, j ≤ 15 → (0 ≤ blockAt (newFoList n) (-1) j ↔ j < 0) := fun j _ => by rw [hb]; omega
  have hu : usedN (newFoList n) (-1) = 0 := by unfold usedN; rw [usedTo_first h0 16 (Nat.le_refl _)]; omega
  have hc : newBCode (n : Int) = 0 := by unfold newBCode; rw [if_pos (by omega)]
  have hl : (newFoList n).2 = List.replicate n (0, 0) := by show newBList n = _; unfold newBList; rw [if_pos hc, Int.toNat_natCast]
  refine ⟨⟨R, by simp, fun v hv => ?_, by simp, fun m => ?_⟩, h0, ?_, by rw [hl]; simp⟩
  · obtain rfl : v = (1, q, -1) := by simpa using hv
    exact ⟨by show (1 : Int) ≤ 1; omega, by show (1 : Int) ≤ 99; omega, q0, q1, Or.inl rfl, by show ((usedN (newFoList n) (-1) : Nat) : Int) ≤ q; rw [hu]; omega⟩
  · have e1 : ext (newFoList n) m = 0 := by unfold ext named; rfl
    have e2 : rootsIn [((1 : Int), q, (-1 : Int))] m = 0 := rootsIn_none fun v hv e => by
      obtain rfl : v = (1, q, -1) := by simpa using hv
      simp at e
    rw [e1, e2]; rfl
  · rw [hl]
    unfold freeN
    rw [List.filter_eq_self.2 (by intro a ha; rw [List.eq_of_mem_replicate ha]; rfl), List.length_replicate]; rfl
theorem op_write {j : Nat} (hj : j ≤ 15) {x : Int} (x0 : 0 ≤ x) (x1 : x ≤ 255) : opF 2 1 j x = 0 := by
  have h1 : spotB j = true := by unfold spotB; exact decide_eq_true (by omega)
  have h2 : opValB 2 x = true := by show dataB x = true; unfold dataB; exact decide_eq_true (by omega)
  unfold opF
  rw [if_pos (by decide), if_pos (by rw [h1, h2]; rfl), if_neg (by simp [opAt, opVal])]
theorem op_read {j : Nat} (hj : j ≤ 15) : opF 4 1 j 0 = 0 := by
  have h1 : spotB j = true := by unfold spotB; exact decide_eq_true (by omega)
  unfold opF
  rw [if_pos (by decide), if_pos (by rw [h1]; rfl), if_neg (by simp [opAt, opVal])]
theorem op_create {q : Int} (q0 : 1 ≤ q) (q1 : q ≤ 16) : opF 1 1 0 q = 0 := by
  have h2 : opValB 1 q = true := by show quotaB q = true; unfold quotaB; exact decide_eq_true (by omega)
  unfold opF
  rw [if_pos (by decide), if_pos (by rw [h2]; rfl), if_neg (by simp [opAt, opVal])]
theorem at_one (q R : Int) : volPl [((1 : Int), q, R)] 1 = 0 := by unfold volPl volFrom; rfl
theorem apply_code {f : Fo} {vs : List Vo} (P : PoolOk f vs) {k v a x : Int} (h : opF k v a x = 0) : applyC f vs k v a x = 0 := by unfold applyC; rw [if_pos (pool_is P), h]
theorem apply_ans {f : Fo} {vs : List Vo} (P : PoolOk f vs) {k v a x : Int} (h : opF k v a x = 0) : applyA f vs k v a x = applyR f vs k v a x := by unfold applyA; rw [if_pos (apply_code P h)]
/-- create, in a new pool -/
theorem create_one {n : Nat} (hn : n ≤ 24) {q : Int} (q0 : 1 ≤ q) (q1 : q ≤ 16) : applyC (newFoList n) [] 1 1 0 q = 0 ∧ applyA (newFoList n) [] 1 1 0 q = (0, 0, newFoList n, [(1, q, -1)]) := by
  have P : PoolOk (newFoList n) [] := ⟨right_of (new_right hn), by simp, (fun v hv => absurd hv List.not_mem_nil), List.Pairwise.nil, (fun m => by unfold ext named; rfl)⟩
  have h := op_create q0 q1
  refine ⟨apply_code P h, ?_⟩
  rw [apply_ans P h]
  rfl
/-- a write -/
theorem write_is {f : Fo} {q R : Int} {j : Nat} {x : Int} (P : PoolOk f [(1, q, R)]) (hj : j ≤ 15) (x0 : 0 ≤ x) (x1 : x ≤ 255) : applyC f [(1, q, R)] 2 1 j x = 0 ∧ applyA f [(1, q, R)] 2 1 j x = ((writeR f [(1, q, R)] 0 j x).1, 0, (writeR f [(1, q, R)] 0 j x).2) := by
  have h := op_write hj x0 x1
  refine ⟨apply_code P h, ?_⟩
  rw [apply_ans P h]
  unfold applyR
  rw [if_neg (by decide), at_one, if_neg (by decide), if_pos rfl]
  rfl
theorem write_new {f : Fo} {q R : Int} {k n : Nat} (h : One f q R k n) (hkq : (k : Int) < q) (hkn : k < n) (hk : k ≤ 15) {x : Int} (x0 : 0 ≤ x) (x1 : x ≤ 255) : ∃ g T, applyC f [(1, q, R)] 2 1 k x = 0 ∧ applyA f [(1, q, R)] 2 1 k x = (0, 0, g, [(1, q, T)]) ∧ One g q T (k + 1) n := by
  obtain ⟨c1, c2⟩ := write_is h.ok hk x0 x1
  have hu := h.used (by omega)
  have hro := (h.ok.vol (1, q, R) (by simp)).ro
  have hb : blockAt f R k = -1 := by
    rcases block_cases h.ok.right.inv hro (x := (k : Int)) (by omega) (by omega) with e | ⟨e, _⟩
    · exact e
    · exact absurd ((h.has k hk).1 e) (by omega)
  have hfree : freeAt f.2 ≠ none := free_some (by have := h.free; omega)
  have hc : setTCode f R k x = 0 := by
    have := set_code h.ok (v := (1, q, R)) (by simp) hk x0 x1
    rw [if_neg hfree] at this
    exact this
  have hq : blockAt f R k = -1 → (usedN f R : Int) ≠ q := fun _ => by rw [hu]; omega
  obtain ⟨T, _, b, hb2, look⟩ := write_ok (m := 0) h.ok (by simp) hk hc hq
  have hf := write_free (m := 0) h.ok (by simp) hk hc hq hb
  have hl := set_len hc
  refine ⟨setFo f R k x, setRootT f R k x, c1, ?_, ⟨T.ok, fun j hj => ?_, ?_, by rw [hl]; exact h.len⟩⟩
  · rw [c2]
    have e : writeR f [(1, q, R)] 0 k x = (0, setFo f R k x, [(1, q, setRootT f R k x)]) := by
      unfold writeR
      show (if blockAt f R k = -1 ∧ (usedN f R : Int) = q then _ else _) = _
      rw [if_neg (fun e => hq e.1 e.2)]
      show (if setTCode f R k x = 0 then _ else _) = _
      rw [if_pos hc]
      rfl
    rw [e]
  · have e := look j (by omega) (by omega)
    have e' : blockAt (setFo f R k x) (setRootT f R k x) j = if (j : Int) = k then (b : Int) else blockAt f R j := e
    rw [e']
    have := h.has j hj
    by_cases c : j = k
    · rw [if_pos (by omega)]; omega
    · rw [if_neg (by omega)]; omega
  · have := h.free
    have hf' : freeN (setFo f R k x).2 + 1 = freeN f.2 := hf
    omega
theorem write_quota {f : Fo} {q R : Int} {k n : Nat} (h : One f q R k n) (hkq : (k : Int) = q) {j : Nat} (hj : j ≤ 15) (hkj : k ≤ j) {x : Int} (x0 : 0 ≤ x) (x1 : x ≤ 255) : applyC f [(1, q, R)] 2 1 j x = 0 ∧ applyA f [(1, q, R)] 2 1 j x = (9, 0, f, [(1, q, R)]) := by
  obtain ⟨c1, c2⟩ := write_is h.ok hj x0 x1
  have hu := h.used (by omega)
  have hro := (h.ok.vol (1, q, R) (by simp)).ro
  have hb : blockAt f R j = -1 := by
    rcases block_cases h.ok.right.inv hro (x := (j : Int)) (by omega) (by omega) with e | ⟨e, _⟩
    · exact e
    · exact absurd ((h.has j hj).1 e) (by omega)
  refine ⟨c1, ?_⟩
  rw [c2]
  have e : writeR f [(1, q, R)] 0 j x = (9, f, [(1, q, R)]) := by
    unfold writeR
    show (if blockAt f R j = -1 ∧ (usedN f R : Int) = q then _ else _) = _
    rw [if_pos ⟨hb, by rw [hu]; exact hkq⟩]
  rw [e]
/-- a write where there is something, and a read of it -/
theorem write_over {f : Fo} {q R : Int} {k n : Nat} (h : One f q R k n) (hkn : k < n) {j : Nat} (hj : j ≤ 15) (hjk : j < k) {x : Int} (x0 : 0 ≤ x) (x1 : x ≤ 255) : ∃ g T, applyC f [(1, q, R)] 2 1 j x = 0 ∧ applyA f [(1, q, R)] 2 1 j x = (0, 0, g, [(1, q, T)]) ∧ applyC g [(1, q, T)] 4 1 j 0 = 0 ∧ applyA g [(1, q, T)] 4 1 j 0 = (0, x, g, [(1, q, T)]) ∧ PoolOk g [(1, q, T)] := by
  obtain ⟨c1, c2⟩ := write_is h.ok hj x0 x1
  have hfree : freeAt f.2 ≠ none := free_some (by have := h.free; omega)
  have hc : setTCode f R j x = 0 := by
    have := set_code h.ok (v := (1, q, R)) (by simp) hj x0 x1
    rw [if_neg hfree] at this
    exact this
  have hb := (h.has j hj).2 hjk
  have hq : blockAt f R j = -1 → (usedN f R : Int) ≠ q := fun e => by omega
  obtain ⟨T, vl, b, hb2, look⟩ := write_ok (m := 0) h.ok (by simp) hj hc hq
  have P2 : PoolOk (setFo f R j x) [(1, q, setRootT f R j x)] := T.ok
  have o4 := op_read hj
  refine ⟨setFo f R j x, setRootT f R j x, c1, ?_, apply_code P2 o4, ?_, P2⟩
  · rw [c2]
    have e : writeR f [(1, q, R)] 0 j x = (0, setFo f R j x, [(1, q, setRootT f R j x)]) := by
      unfold writeR
      show (if blockAt f R j = -1 ∧ (usedN f R : Int) = q then _ else _) = _
      rw [if_neg (fun e => hq e.1 e.2)]
      show (if setTCode f R j x = 0 then _ else _) = _
      rw [if_pos hc]
      rfl
    rw [e]
  · rw [apply_ans P2 o4]
    unfold applyR
    rw [if_neg (by decide), at_one, if_neg (by decide), if_neg (by decide), if_neg (by decide), if_pos rfl]
    show (lookCode (setFo f R j x) (setRootT f R j x) j, lookVal (setFo f R j x) (setRootT f R j x) j, setFo f R j x, [((1 : Int), q, setRootT f R j x)]) = _
    have v0 := vl 0 (by simp) j (by omega) (by omega)
    rw [if_pos ⟨rfl, rfl⟩] at v0
    have v1 : val (setFo f R j x) (setRootT f R j x) j = some x := v0
    unfold val at v1
    have T0 : TreeOk (setFo f R j x) (setRootT f R j x) j := ⟨P2.right, (P2.vol (1, q, setRootT f R j x) (by simp)).ro, by omega, by omega⟩
    by_cases c : blockAt (setFo f R j x) (setRootT f R j x) j < 0
    · rw [if_pos c] at v1; cases v1
    · rw [if_neg c] at v1
      have lc : lookCode (setFo f R j x) (setRootT f R j x) j = 0 := by unfold lookCode; rw [if_pos (tree_is T0), if_neg c]
      have lv : lookVal (setFo f R j x) (setRootT f R j x) j = x := by unfold lookVal; rw [if_pos lc]; exact Option.some.inj v1
      rw [lc, lv]
end Go.Proofs.Ytikjndmgljkhhaa
