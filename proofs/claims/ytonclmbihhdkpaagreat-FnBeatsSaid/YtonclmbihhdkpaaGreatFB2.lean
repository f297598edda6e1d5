/- Chapters 9 and 10: what a node sends by itself has no fault for whom it is for. No program is named here. -/
import Derived.Test.YtonclmbihhdkpaaGreatQAU
import Derived.Test.YtonclmbihhdkpaaGreatG12
import Derived.Test.YtonclmbihhdkpaaGreatWH
set_option maxRecDepth 20000
set_option maxHeartbeats 16000000
namespace Go.Proofs.YtonclmbihhdkpaaGreat
open Go.RowKit
structure NewOk (i s : Int) : Prop where
 code : newC i s = 0
 rep : repF (newRep i s) = 0
 idq : (newRep i s).id = i
 szq : (newRep i s).size = s
theorem new_ok {id size : Int} (hs : 1 ≤ size ∧ size ≤ 5) (hi : 0 ≤ id ∧ id ≤ size - 1) : NewOk id size := by
 have e : newRep id size = ⟨id, size, 0, true, 0, [], 0, if id = 0 then List.replicate size.toNat 0 else [], [], []⟩ := by unfold newRep; rw [if_pos ⟨hs, hi⟩]
 refine ⟨by unfold newC; rw [if_pos ⟨hs, hi⟩], ?_, by rw [e], by rw [e]⟩
 rw [e]
 refine repF_of ⟨hs, hi, ⟨Int.le_refl _, by show (0 : Int) ≤ 200; decide⟩, ⟨Int.le_refl _, Int.le_refl _⟩⟩ rfl (fun _ => rfl) ⟨?_, rfl, rfl⟩ ?_ rfl
 ·show ((if id = 0 then List.replicate size.toNat 0 else ([] : List Int)).length : Int) = if (true && ((0 : Int) % size == id)) = true then size else 0
  by_cases h : id = 0
  ·rw [if_pos h, List.length_replicate, h, Int.zero_emod, if_pos (by decide)]; omega
  ·have : ((0 : Int) == id) = false := by simp; exact fun q => h q.symm
   rw [if_neg h, Int.zero_emod, this]; rfl
 ·show oksF _ (if id = 0 then List.replicate size.toNat 0 else ([] : List Int)) = 0
  by_cases h : id = 0
  ·rw [if_pos h]; exact oksF_zero _ _
  ·rw [if_neg h]; rfl
theorem firstF_get : ∀ {xs : List En}, firstF xs = 0 → ∀ k, k < xs.length → enFault (xs.getD k en0) = 0
 | [], _, k, hk => absurd hk (Nat.not_lt_zero _)
 | x :: t, h, k, hk => by
  unfold firstF at h
  by_cases q : enFault x = 0
  ·rw [if_pos q] at h
   cases k with
   | zero => exact q
   | succ k => exact firstF_get (xs := t) h k (by simpa using hk)
  ·rw [if_neg q] at h; exact absurd h q
theorem logF_get {xs : List En} (h : logF xs = 0) : xs.length ≤ 40 ∧ ∀ k, k < xs.length → enFault (xs.getD k en0) = 0 := by
 unfold logF at h
 by_cases q : 40 < xs.length
 ·rw [if_pos q] at h; cases h
 ·rw [if_neg q] at h; exact ⟨by omega, firstF_get h⟩
theorem oksF_get {m : Nat} : ∀ {xs : List Int}, oksF m xs = 0 → ∀ k, (0 : Int) ≤ xs.getD k 0 ∧ xs.getD k 0 ≤ m
 | [], _, k => by simp
 | x :: t, h, k => by
  unfold oksF at h
  by_cases q : 0 ≤ x ∧ x ≤ (m : Int)
  ·rw [if_pos q] at h
   cases k with
   | zero => exact q
   | succ k => exact oksF_get (xs := t) h k
  ·rw [if_neg q] at h; cases h
theorem prep_heard {r p : Rep} {fr t v : Int} {k : Nat} (hl : logF r.log = 0) (hk : k ≤ 40) (hc : 0 ≤ r.commit ∧ r.commit ≤ 40) (hp : p.id = t) (h1 : 0 ≤ fr ∧ fr ≤ p.size - 1) (h2 : fr ≠ t) (h3 : 0 ≤ v ∧ v ≤ 200) : mailAtF p (putM (prepM r k) fr t v) = 0 := by
 have N : ∀ m : Ml, m.fr = fr → m.view = v → numsM p m := fun m a b => ⟨by rw [a]; exact h1, by rw [a, hp]; exact h2, by rw [b]; exact h3⟩
 unfold prepM
 by_cases q : k < r.log.length
 ·rw [if_pos q]
  unfold mailAtF
  rw [if_pos ⟨by show (1 : Int) ≤ 1 ∧ (1 : Int) ≤ 6; decide, by show t = p.id; exact hp.symm⟩]
  show tailF true true false false true p _ = 0
  unfold tailF
  rw [if_pos ⟨N _ rfl rfl, fun _ => by show (0 : Int) ≤ (k : Int) ∧ (k : Int) ≤ 40; omega, fun z => by cases z⟩]
  have a : agrF false true (putM ⟨1, 0, 0, 0, k, true, r.log.getD k en0, 0, [], r.commit⟩ fr t v) = 0 := by
   unfold agrF
   rw [if_neg (by decide), if_neg (fun z => z.2 hc)]
  rw [if_pos a, if_neg (fun z => z.2.2 ((logF_get hl).2 k q)), if_neg]
  rintro (⟨z, _⟩ | ⟨z, _⟩ | ⟨_, z⟩ | ⟨z, _⟩ | ⟨_, z⟩ | ⟨z, _⟩)
  ·cases z
  ·cases z
  ·exact z rfl
  ·cases z
  ·exact z rfl
  ·cases z
 ·rw [if_neg q]
  unfold mailAtF
  rw [if_pos ⟨by show (1 : Int) ≤ 1 ∧ (1 : Int) ≤ 6; decide, by show t = p.id; exact hp.symm⟩]
  show tailF true true false false true p _ = 0
  unfold tailF
  rw [if_pos ⟨N _ rfl rfl, fun _ => by show (0 : Int) ≤ (k : Int) ∧ (k : Int) ≤ 40; omega, fun z => by cases z⟩]
  have a : agrF false true (putM ⟨1, 0, 0, 0, k, false, en0, 0, [], r.commit⟩ fr t v) = 0 := by
   unfold agrF
   rw [if_neg (by decide), if_neg (fun z => z.2 hc)]
  rw [if_pos a, if_neg (fun z => by cases z.2.1), if_neg]
  rintro (⟨z, _⟩ | ⟨_, z⟩ | ⟨_, z⟩ | ⟨z, _⟩ | ⟨_, z⟩ | ⟨z, _⟩)
  ·cases z
  ·exact z rfl
  ·exact z rfl
  ·cases z
  ·exact z rfl
  ·cases z
theorem chg_heard {p : Rep} {fr t v : Int} (hp : p.id = t) (h1 : 0 ≤ fr ∧ fr ≤ p.size - 1) (h2 : fr ≠ t) (h3 : 0 ≤ v ∧ v ≤ 200) : mailAtF p (putM chg0 fr t v) = 0 := by
 unfold mailAtF
 rw [if_pos ⟨by show (1 : Int) ≤ 3 ∧ (3 : Int) ≤ 6; decide, by show t = p.id; exact hp.symm⟩]
 show tailF false false false false false p _ = 0
 unfold tailF
 rw [if_pos ⟨⟨h1, by rw [hp]; exact h2, h3⟩, And.intro (fun z => by cases z) (fun z => by cases z)⟩]
 have a : agrF false false (putM chg0 fr t v) = 0 := by
  unfold agrF
  rw [if_neg (by decide), if_neg (fun z => by cases z.1)]
 rw [if_pos a, if_neg (fun z => by cases z.1), if_neg]
 rintro (⟨_, z⟩ | ⟨_, z⟩ | ⟨_, z⟩ | ⟨_, z⟩ | ⟨_, z⟩ | ⟨_, z⟩)
 ·cases z
 ·exact z rfl
 ·exact z rfl
 ·exact z rfl
 ·exact z rfl
 ·exact z rfl
theorem tel_heard {r p : Rep} {fr t v : Int} (hl : lgF r.log r.commit = 0) (hv : 0 ≤ r.last ∧ r.last ≤ v) (hp : p.id = t) (h1 : 0 ≤ fr ∧ fr ≤ p.size - 1) (h2 : fr ≠ t) (h3 : 0 ≤ v ∧ v ≤ 200) : mailAtF p (putM (tel0 r) fr t v) = 0 := by
 unfold mailAtF
 rw [if_pos ⟨by show (1 : Int) ≤ 4 ∧ (4 : Int) ≤ 6; decide, by show t = p.id; exact hp.symm⟩]
 show tailF false false true true true p _ = 0
 unfold tailF
 rw [if_pos ⟨⟨h1, by rw [hp]; exact h2, h3⟩, And.intro (fun z => by cases z) (fun _ => hv)⟩]
 have a : agrF true true (putM (tel0 r) fr t v) = 0 := by
  unfold agrF
  rw [if_pos rfl]; exact hl
 rw [if_pos a, if_neg (fun z => by cases z.1), if_neg]
 rintro (⟨_, z⟩ | ⟨_, z⟩ | ⟨z, _⟩ | ⟨_, z⟩ | ⟨z, _⟩ | ⟨z, _⟩)
 ·cases z
 ·exact z rfl
 ·cases z
 ·exact z rfl
 ·cases z
 ·cases z
structure Heard (size : Int) (m : Ml) : Prop where
 new : NewOk m.to size
 mail : mailF (newRep m.to size) m = 0
theorem heard_of {size : Int} {m : Ml} (hs : 1 ≤ size ∧ size ≤ 5) (hi : 0 ≤ m.to ∧ m.to ≤ size - 1) (h : ∀ p : Rep, p.id = m.to → p.size = size → mailAtF p m = 0) : Heard size m := by
 have n := new_ok hs hi
 exact ⟨n, by rw [mailF_at, if_pos n.rep]; exact h _ n.idq n.szq⟩
theorem beats_heard {r : Rep} (h : repF r = 0) {m : Ml} (hm : m ∈ beMs r) : Heard r.size m := by
 obtain ⟨⟨n1, n2, n3, n4⟩, hl, _, _, ho, _⟩ := rep_ok h
 have L := lg_ok hl
 have L40 := (logF_get L.1).1
 have chg : ∀ m : Ml, m ∈ chgL r → Heard r.size m := fun m hm => by
  obtain ⟨t, ht, rfl⟩ := List.mem_map.1 hm
  obtain ⟨j, rfl, hj, hne⟩ := othL_mem ht
  exact heard_of n1 (by show 0 ≤ (j : Int) ∧ (j : Int) ≤ r.size - 1; omega) fun p a b => chg_heard a (by rw [b]; exact n2) (by show r.id ≠ (j : Int); omega) n3
 unfold beMs at hm
 rw [if_pos h] at hm
 by_cases q : leadsB r = true
 ·rw [if_pos q] at hm
  obtain ⟨t, ht, rfl⟩ := List.mem_map.1 hm
  obtain ⟨j, rfl, hj, hne⟩ := othL_mem ht
  have hk : beatN r (j : Int) ≤ 40 := by
   have := oksF_get ho (j : Int).toNat
   unfold beatN; omega
  have hc : 0 ≤ (agrC r).commit ∧ (agrC r).commit ≤ 40 := by
   have h2 := agrTo_in r.oks r.id r.size r.log.length
   show 0 ≤ agrM r ∧ agrM r ≤ 40
   unfold agrM agrR
   split <;> omega
  refine heard_of n1 ?_ fun p a b => ?_
  ·have : (putM (prepM (agrC r) (beatN r (j : Int))) r.id (j : Int) r.view).to = (j : Int) := rfl
   rw [this]; omega
  ·exact prep_heard (r := agrC r) L.1 hk hc a (by rw [b]; exact n2) (by show r.id ≠ (j : Int); omega) n3
 ·rw [if_neg q] at hm
  by_cases q2 : r.normal = true
  ·rw [if_pos q2] at hm; simp at hm
  ·rw [if_neg q2] at hm
   by_cases q3 : 2 * cntB r.asks > r.size
   ·rw [if_pos q3] at hm
    rcases List.mem_append.1 hm with hm | hm
    ·exact chg m hm
    ·unfold tellM at hm
     by_cases q4 : (r.view % r.size == r.id) = true
     ·rw [if_pos q4] at hm; simp at hm
     ·rw [if_neg q4] at hm
      obtain rfl : m = telM r := by simpa using hm
      have e1 := Int.emod_nonneg r.view (show r.size ≠ 0 by omega)
      have e2 := Int.emod_lt_of_pos r.view (show 0 < r.size by omega)
      refine heard_of n1 (by show 0 ≤ r.view % r.size ∧ r.view % r.size ≤ r.size - 1; omega) fun p a b => ?_
      exact tel_heard hl n4 a (by rw [b]; exact n2) (fun z => q4 (by rw [← z]; simp)) n3
   ·rw [if_neg q3] at hm
    exact chg m hm
theorem beQ_log {r : Rep} (h : repF r = 0) : (beQ r).log = r.log ∧ (beQ r).size = r.size := by
 unfold beQ
 rw [if_pos h]
 split <;> exact ⟨rfl, rfl⟩
theorem beQ_rep {r : Rep} (h : repF r = 0) : repF (beQ r) = 0 := by
 unfold beQ
 rw [if_pos h]
 split
 ·obtain ⟨h1, h2, h3, h4, h5, h6⟩ := rep_ok h
  have h9 := agrTo_in r.oks r.id r.size r.log.length
  have L := lg_ok h2
  refine repF_of h1 ?_ h3 h4 h5 h6
  show lgF r.log (agrM r) = 0
  unfold lgF
  rw [if_pos L.1, if_pos]
  unfold agrM agrR
  split <;> omega
 ·exact h
end Go.Proofs.YtonclmbihhdkpaaGreat
