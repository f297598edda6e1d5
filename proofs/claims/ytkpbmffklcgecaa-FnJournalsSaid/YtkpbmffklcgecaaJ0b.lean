/- Chapter 2, plain facts: what an append puts, that a scan then tells it, and that a crash leaves what was committed. No program is named here. -/
import Derived.Test.YtkpbmffklcgecaaJ0
import Derived.Test.YtkpbmffklcgecaaCrashD
import Derived.Test.YtkpbmffklcgecaaFacts
namespace Go.Proofs.Ytkpbmffklcgecaa

def puts : Nat → List Int → List (Int × Int)
  | _, [] => []
  | a, v :: vs => ((a : Int), v) :: puts (a + 1) vs
theorem puts_length (vs : List Int) : ∀ a, (puts a vs).length = vs.length := by
  induction vs with
  | nil => intro a; rfl
  | cons v vs ih => intro a; simp [puts, ih]
theorem putAll_puts (vs : List Int) : ∀ (a : Nat) (zs : List Int), a + vs.length ≤ zs.length → putAll zs (puts a vs) = zs.take a ++ vs ++ zs.drop (a + vs.length) := by
  induction vs with
  | nil => intro a zs _; simp [puts, putAll]
  | cons v vs ih =>
    intro a zs h
    rw [List.length_cons] at h
    show putAll (zs.set (a : Int).toNat v) (puts (a + 1) vs) = _
    rw [ih (a + 1) _ (by rw [List.length_set]; omega), Int.toNat_natCast]
    have e1 : (zs.set a v).take (a + 1) = zs.take a ++ [v] := by
      rw [List.take_set, List.take_succ_eq_append_getElem (by omega : a < zs.length), List.set_append, if_neg (by rw [List.length_take]; omega), List.length_take, Nat.min_eq_left (by omega), Nat.sub_self]
      rfl
    have e2 : (zs.set a v).drop (a + 1 + vs.length) = zs.drop (a + 1 + vs.length) := by rw [List.drop_set, if_pos (by omega)]
    rw [e1, e2, List.length_cons, show a + 1 + vs.length = a + (vs.length + 1) by omega]
    simp
theorem puts_mem (vs : List Int) : ∀ (a : Nat) (p : Int × Int), p ∈ puts a vs → ∃ i, i < vs.length ∧ p = (((a + i : Nat) : Int), vs.getD i 0) := by
  induction vs with
  | nil => intro a p h; cases h
  | cons v vs ih =>
    intro a p h
    rcases List.mem_cons.1 h with rfl | h
    · exact ⟨0, by simp, by simp⟩
    · obtain ⟨i, hi, rfl⟩ := ih _ _ h
      refine ⟨i + 1, by simp; omega, ?_⟩
      rw [show a + 1 + i = a + (i + 1) by omega]
      simp
/-- puts behind a place leave what lies before it -/
theorem putAll_take (l : List (Int × Int)) (a : Nat) : ∀ (zs : List Int), (∀ p ∈ l, a ≤ p.1.toNat) → (putAll zs l).take a = zs.take a := by
  induction l with
  | nil => intro zs _; rfl
  | cons p r ih =>
    intro zs h
    show (putAll (zs.set p.1.toNat p.2) r).take a = _
    rw [ih _ (fun q hq => h q (List.mem_cons_of_mem _ hq)), List.take_set_of_le (h p List.mem_cons_self)]

def usedOf (xs : List Int) (ys : List (Int × Int)) : Nat := (scanOf (putAll xs ys)).2
def recsOf (xs : List Int) (ys : List (Int × Int)) : List (List Int) := (scanOf (putAll xs ys)).1
def appWords (xs : List Int) (ys : List (Int × Int)) (ws : List Int) : List Int :=
  ((ws.length : Int) :: sumOf (((recsOf xs ys).length : Int) :: ws) :: ws) ++ (if usedOf xs ys + 2 + ws.length < 64 then [0] else [])
def appCode (xs : List Int) (ys : List (Int × Int)) (ws : List Int) : Int :=
  if faultOf xs ys = 0 then (if recFault ws = 0 then (if 64 < usedOf xs ys + 2 + ws.length ∨ 200 < ys.length + 3 + ws.length then 8 else 0) else recFault ws) else faultOf xs ys
def appX (xs : List Int) (ys : List (Int × Int)) (ws : List Int) : List Int := if appCode xs ys ws = 0 then xs else []
def appY (xs : List Int) (ys : List (Int × Int)) (ws : List Int) : List (Int × Int) := if appCode xs ys ws = 0 then ys ++ puts (usedOf xs ys) (appWords xs ys ws) else []

theorem rec_zero {ws : List Int} (h : recFault ws = 0) : okRec ws ∧ ws.all wordB = true := by
  unfold recFault at h
  split at h
  · cases h
  · split at h
    · rename_i h1 h2; exact ⟨⟨by omega, by omega⟩, h2⟩
    · cases h
theorem rec_code (ws : List Int) : recFault ws = 0 ∨ recFault ws = 2 ∨ recFault ws = 3 := by
  unfold recFault
  split
  · exact Or.inr (Or.inl rfl)
  · split
    · exact Or.inl rfl
    · exact Or.inr (Or.inr rfl)
theorem app_zero {xs : List Int} {ys : List (Int × Int)} {ws : List Int} (h : appCode xs ys ws = 0) : faultOf xs ys = 0 ∧ recFault ws = 0 ∧ usedOf xs ys + 2 + ws.length ≤ 64 ∧ ys.length + 3 + ws.length ≤ 200 := by
  by_cases hf : faultOf xs ys = 0
  · by_cases hr : recFault ws = 0
    · by_cases hc : 64 < usedOf xs ys + 2 + ws.length ∨ 200 < ys.length + 3 + ws.length
      · rw [appCode, if_pos hf, if_pos hr, if_pos hc] at h; exact absurd h (by decide)
      · exact ⟨hf, hr, by omega, by omega⟩
    · rw [appCode, if_pos hf, if_neg hr] at h; exact absurd h hr
  · rw [appCode, if_neg hf] at h; exact absurd h hf
theorem app_lists {xs : List Int} {ys : List (Int × Int)} {ws : List Int} (h : appCode xs ys ws = 0) : appX xs ys ws = xs ∧ appY xs ys ws = ys ++ puts (usedOf xs ys) (appWords xs ys ws) := ⟨if_pos h, if_pos h⟩
theorem app_no {xs : List Int} {ys : List (Int × Int)} {ws : List Int} (h : appCode xs ys ws ≠ 0) : appX xs ys ws = [] ∧ appY xs ys ws = [] := ⟨if_neg h, if_neg h⟩
theorem appWords_len {xs : List Int} {ys : List (Int × Int)} {ws : List Int} : (appWords xs ys ws).length ≤ 3 + ws.length ∧ 2 + ws.length ≤ (appWords xs ys ws).length := by
  unfold appWords; split <;> simp <;> omega
theorem appWords_fit {xs : List Int} {ys : List (Int × Int)} {ws : List Int} (h : usedOf xs ys + 2 + ws.length ≤ 64) : usedOf xs ys + (appWords xs ys ws).length ≤ 64 := by
  unfold appWords; split <;> simp <;> omega
theorem app_fault {xs : List Int} {ys : List (Int × Int)} {ws : List Int} (h : appCode xs ys ws = 0) : faultOf xs (appY xs ys ws) = 0 := by
  obtain ⟨hf, hr, hu, hl⟩ := app_zero h
  obtain ⟨h1, _, _⟩ := fault_zero hf
  obtain ⟨h3, h4⟩ := fault_all hf
  obtain ⟨ho, hw⟩ := rec_zero hr
  have hlen := (appWords_len (xs := xs) (ys := ys) (ws := ws)).1
  have hfit := appWords_fit (xs := xs) (ys := ys) (ws := ws) hu
  rw [(app_lists h).2]
  refine fault_of h1 (by rw [List.length_append, puts_length]; omega) h3 ?_
  rw [List.all_append, h4, Bool.true_and, List.all_eq_true]
  intro p hp
  obtain ⟨i, hi, rfl⟩ := puts_mem _ _ _ hp
  have hv : ∀ v ∈ appWords xs ys ws, wordB v = true := by
    intro v hv
    unfold appWords at hv
    have hs := sumOf_bd (((recsOf xs ys).length : Int) :: ws)
    unfold okRec at ho
    rcases List.mem_append.1 hv with hv | hv
    · rcases List.mem_cons.1 hv with rfl | hv
      · simp [wordB]; omega
      · rcases List.mem_cons.1 hv with rfl | hv
        · simp [wordB]; omega
        · exact List.all_eq_true.1 hw v hv
    · split at hv
      · simp at hv; subst hv; rfl
      · cases hv
  have hm : (appWords xs ys ws).getD i 0 ∈ appWords xs ys ws := by rw [List.getD, List.getElem?_eq_getElem hi]; exact List.getElem_mem _
  rw [Bool.and_eq_true]
  exact ⟨by simp [placeB]; omega, hv _ hm⟩
/-- what is appended is the last record -/
theorem app_scan {xs : List Int} {ys : List (Int × Int)} {ws : List Int} (h : appCode xs ys ws = 0) : scanOf (putAll xs (appY xs ys ws)) = (recsOf xs ys ++ [ws], usedOf xs ys + 2 + ws.length) := by
  obtain ⟨hf, hr, hu, hl⟩ := app_zero h
  obtain ⟨h1, _, _⟩ := fault_zero hf
  obtain ⟨ho, _⟩ := rec_zero hr
  have hfit := appWords_fit (xs := xs) (ys := ys) (ws := ws) hu
  have hA : (putAll xs ys).length = 64 := by rw [putAll_len, h1]
  rw [(app_lists h).2, putAll_append, putAll_puts _ _ _ (by rw [hA]; exact hfit)]
  have hi := scan_inv (putAll xs ys)
  have hst := scan_stop (putAll xs ys)
  have hul : (scanOf (putAll xs ys)).2 = usedOf xs ys := rfl
  have hrl : (scanOf (putAll xs ys)).1 = recsOf xs ys := rfl
  rw [hul, hrl] at hi
  clear hst
  generalize hA' : putAll xs ys = all at *
  have hW : appWords xs ys ws = ((ws.length : Int) :: sumOf (((recsOf xs ys).length : Int) :: ws) :: ws) ++ (if usedOf xs ys + 2 + ws.length < 64 then [0] else []) := rfl
  generalize hV : appWords xs ys ws = vs at *
  generalize usedOf xs ys = u at *
  generalize recsOf xs ys = rs at *
  have htl : (all.take u).length = u := by rw [List.length_take]; omega
  have hS : Scanned (all.take u ++ vs ++ all.drop (u + vs.length)) u rs := by
    refine ⟨?_, ?_, hi.2.2⟩
    · rw [List.append_assoc, List.take_append_of_le_length (by omega), List.take_of_length_le (by omega)]; exact hi.1
    · simp; omega
  have hR : recAt (all.take u ++ vs ++ all.drop (u + vs.length)) u rs.length = some ws := by
    refine recAt_of (rest := (if u + 2 + ws.length < 64 then [0] else []) ++ all.drop (u + vs.length)) ho ?_
    rw [List.append_assoc, List.drop_append_of_le_length (by omega), List.drop_of_length_le (by omega), List.nil_append]
    generalize all.drop (u + vs.length) = X
    rw [hW]
    simp
  refine scan_end (hS.next hR) ?_
  have hvl : vs.length = 2 + ws.length + (if u + 2 + ws.length < 64 then 1 else 0) := by rw [hW]; split <;> simp <;> omega
  have hZ : (all.take u ++ vs ++ all.drop (u + vs.length)).length = 64 := by simp; omega
  unfold recAt
  by_cases h64 : u + 2 + ws.length < 64
  · rw [if_pos h64] at hW
    have hg : (all.take u ++ vs ++ all.drop (u + vs.length)).getD (u + 2 + ws.length) 0 = 0 := by
      have e : (all.take u ++ vs ++ all.drop (u + vs.length)) = (all.take u ++ ((ws.length : Int) :: sumOf ((rs.length : Int) :: ws) :: ws)) ++ (0 :: all.drop (u + vs.length)) := by
        conv => lhs; rw [hW]
        rw [hW]; simp
      rw [e, List.getD, List.getElem?_append_right (by simp; omega)]
      simp [show u + 2 + ws.length - (u + (ws.length + 1 + 1)) = 0 by omega, Nat.min_eq_left (show u ≤ all.length by omega)]
    rw [hg, if_neg (by omega)]
  · rw [if_neg (by rw [hZ]; omega)]
/-- whatever a crash picks of puts that lie behind what is scanned: the records stay -/
theorem crash_scan (zs : List Int) (l : List (Int × Int)) (h : ∀ p ∈ l, (scanOf zs).2 ≤ p.1.toNat) : ∃ more, (scanOf (putAll zs l)).1 = (scanOf zs).1 ++ more := by
  have hi := scan_inv zs
  refine scan_pre (a := (scanOf zs).2) ⟨?_, by rw [putAll_len]; exact hi.2.1, hi.2.2⟩
  rw [putAll_take _ _ _ h]; exact hi.1
theorem picked_mem {ys : List (Int × Int)} {bs : List Bool} {p : Int × Int} (h : p ∈ picked ys bs) : p ∈ ys := by
  unfold picked at h
  simp only [List.mem_map, List.mem_filter] at h
  obtain ⟨q, ⟨hq, _⟩, rfl⟩ := h
  exact (List.of_mem_zip hq).1
/-- what was committed is there behind a crash -/
theorem app_crash {zs ws : List Int} (h : appCode zs [] ws = 0) (bs : List Bool) : ∃ more, (scanOf (putAll zs (picked (appY zs [] ws) bs))).1 = recsOf zs [] ++ more := by
  refine crash_scan zs _ fun p hp => ?_
  have := picked_mem hp
  rw [(app_lists h).2, List.nil_append] at this
  obtain ⟨i, _, rfl⟩ := puts_mem _ _ _ this
  show (scanOf zs).2 ≤ ((usedOf zs [] + i : Nat) : Int).toNat
  rw [Int.toNat_natCast]
  show (scanOf zs).2 ≤ (scanOf zs).2 + i
  omega

end Go.Proofs.Ytkpbmffklcgecaa
