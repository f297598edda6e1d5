/- Chapter 2, plain facts: sums, records, the scan of a journal, what an append puts, what a crash leaves. No program is named here. -/
import Derived.Test.YtkpbmffklcgecaaSpec1
namespace Go.Proofs.Ytkpbmffklcgecaa

def sumStep (h x : Int) : Int := (h * 263 + x % 65521 + 1) % 65521
def sumOf (xs : List Int) : Int := xs.foldl sumStep 9
theorem sumStep_bd (h x : Int) : 0 ≤ sumStep h x ∧ sumStep h x < 65521 := ⟨Int.emod_nonneg _ (by decide), Int.emod_lt_of_pos _ (by decide)⟩
theorem sum_bd (xs : List Int) : ∀ h : Int, 0 ≤ h → h < 65521 → 0 ≤ xs.foldl sumStep h ∧ xs.foldl sumStep h < 65521 := by
  induction xs with
  | nil => intro h h0 h1; exact ⟨h0, h1⟩
  | cons x r ih => intro h _ _; exact ih _ (sumStep_bd h x).1 (sumStep_bd h x).2
theorem sumOf_bd (xs : List Int) : 0 ≤ sumOf xs ∧ sumOf xs < 65521 := sum_bd xs 9 (by decide) (by decide)
theorem sum_snoc (xs : List Int) (k : Nat) (h : k < xs.length) : sumOf (xs.take (k + 1)) = sumStep (sumOf (xs.take k)) (xs.getD k 0) := by
  rw [take_snoc_getD xs 0 k h, sumOf, List.foldl_append]; rfl
theorem tmod_bd (x : Int) : -65521 < x.tmod 65521 ∧ x.tmod 65521 < 65521 := by
  have h1 := Int.tmod_lt_of_pos x (b := 65521) (by decide)
  have h2 := Int.lt_tmod_of_pos x (b := 65521) (by decide)
  exact ⟨h2, h1⟩
theorem tmod_mod (x : Int) : (x.tmod 65521 + 65521).tmod 65521 = x % 65521 := by
  have h1 := tmod_bd x
  rw [Int.tmod_eq_emod_of_nonneg (by omega), Int.add_emod_right]
  have h3 := Int.mul_tdiv_add_tmod x 65521
  omega
theorem tmod_step (h b : Int) (h0 : 0 ≤ h) (hb : 0 ≤ b) : (h * 263 + b + 1).tmod 65521 = (h * 263 + b + 1) % 65521 := Int.tmod_eq_emod_of_nonneg (by omega)

def recFault (ws : List Int) : Int := if ws.length < 1 ∨ 8 < ws.length then 2 else if ws.all wordB then 0 else 3
theorem all_snoc {α : Type} (f : α → Bool) (xs : List α) (d : α) (k : Nat) (h : k < xs.length) : (xs.take (k + 1)).all f = ((xs.take k).all f && f (xs.getD k d)) := by
  rw [take_snoc_getD xs d k h, List.all_append]; simp
theorem all_not {α : Type} (f : α → Bool) (xs : List α) (d : α) (k : Nat) (h : k < xs.length) (hf : f (xs.getD k d) = false) : ¬ xs.all f = true := by
  intro ha
  have := List.all_eq_true.1 ha (xs.getD k d) (by rw [List.getD, List.getElem?_eq_getElem h]; exact List.getElem_mem _)
  rw [hf] at this; cases this


/-- the record numbered k at the place 'at', if a right one is there -/
def recAt (ws : List Int) (at' k : Nat) : Option (List Int) :=
  if at' + 2 < ws.length ∧ 1 ≤ ws.getD at' 0 ∧ ws.getD at' 0 ≤ 8 ∧ at' + 2 + (ws.getD at' 0).toNat ≤ ws.length ∧ ws.getD (at' + 1) 0 = sumOf ((k : Int) :: (ws.drop (at' + 2)).take (ws.getD at' 0).toNat)
  then some ((ws.drop (at' + 2)).take (ws.getD at' 0).toNat) else none
def scanGo (ws : List Int) : Nat → Nat → List (List Int) → List (List Int) × Nat
  | 0, at', out => (out, at')
  | f + 1, at', out => match recAt ws at' out.length with
    | none => (out, at')
    | some r => scanGo ws f (at' + 2 + r.length) (out ++ [r])
def scanOf (ws : List Int) : List (List Int) × Nat := scanGo ws ws.length 0 []
/-- the words of records that are numbered from k on -/
def lay : Nat → List (List Int) → List Int
  | _, [] => []
  | k, r :: rs => (r.length : Int) :: sumOf ((k : Int) :: r) :: (r ++ lay (k + 1) rs)
def okRec (r : List Int) : Prop := 1 ≤ r.length ∧ r.length ≤ 8

theorem lay_append (rs ss : List (List Int)) : ∀ k, lay k (rs ++ ss) = lay k rs ++ lay (k + rs.length) ss := by
  induction rs with
  | nil => intro k; simp [lay]
  | cons r rs ih =>
    intro k
    show (r.length : Int) :: sumOf ((k : Int) :: r) :: (r ++ lay (k + 1) (rs ++ ss)) = _
    rw [ih (k + 1), lay, List.length_cons, show k + 1 + rs.length = k + (rs.length + 1) by omega]
    simp
theorem drop_get {ws : List Int} {a : Nat} {x : Int} {r : List Int} (h : ws.drop a = x :: r) : a < ws.length ∧ ws.getD a 0 = x ∧ ws.drop (a + 1) = r := by
  have hl : a < ws.length := by
    by_cases hl : a < ws.length
    · exact hl
    · rw [List.drop_eq_nil_of_le (by omega)] at h; cases h
  rw [List.drop_eq_getElem_cons hl] at h
  injection h with h1 h2
  exact ⟨hl, by simp [List.getD, hl, h1], h2⟩
theorem recAt_of {ws : List Int} {a k : Nat} {r rest : List Int} (hr : okRec r) (h : ws.drop a = (r.length : Int) :: sumOf ((k : Int) :: r) :: (r ++ rest)) : recAt ws a k = some r := by
  obtain ⟨h1, h2, h3⟩ := drop_get h
  obtain ⟨h4, h5, h6⟩ := drop_get h3
  have hl : (ws.drop (a + 2)).length = r.length + rest.length := by rw [h6]; simp
  rw [List.length_drop] at hl
  unfold okRec at hr
  unfold recAt
  rw [h2, h5, h6, Int.toNat_natCast, List.take_left]
  rw [if_pos ⟨by omega, by omega, by omega, by omega, rfl⟩]
theorem recAt_some {ws : List Int} {a k : Nat} {r : List Int} (h : recAt ws a k = some r) : okRec r ∧ a + 2 + r.length ≤ ws.length ∧ ws.take (a + 2 + r.length) = ws.take a ++ ((r.length : Int) :: sumOf ((k : Int) :: r) :: r) := by
  unfold recAt at h
  split at h
  rotate_left 1
  · cases h
  rename_i hc
  obtain ⟨c1, c2, c3, c4, c5⟩ := hc
  injection h with h
  generalize hn : (ws.getD a 0).toNat = n at *
  have hrl : r.length = n := by rw [← h]; simp; omega
  have hx : ws.getD a 0 = (r.length : Int) := by omega
  refine ⟨⟨by omega, by omega⟩, by omega, ?_⟩
  have e1 : ws.drop a = ws.getD a 0 :: ws.drop (a + 1) := by rw [List.drop_eq_getElem_cons (by omega : a < ws.length)]; simp [List.getD, show a < ws.length by omega]
  have e2 : ws.drop (a + 1) = ws.getD (a + 1) 0 :: ws.drop (a + 2) := by rw [List.drop_eq_getElem_cons (by omega : a + 1 < ws.length)]; simp [List.getD, show a + 1 < ws.length by omega]
  rw [Nat.add_assoc, List.take_add, e1, e2, hrl, Nat.add_comm 2 n, List.take_succ_cons, List.take_succ_cons, h, hx, c5, h, hrl]

/-- how far a scan has come -/
def Scanned (ws : List Int) (a : Nat) (out : List (List Int)) : Prop := ws.take a = lay 0 out ∧ a ≤ ws.length ∧ ∀ r ∈ out, okRec r
theorem Scanned.zero (ws : List Int) : Scanned ws 0 [] := ⟨rfl, Nat.zero_le _, fun _ h => by cases h⟩
theorem Scanned.len {ws : List Int} {a : Nat} {out : List (List Int)} (h : Scanned ws a out) : (lay 0 out).length = a := by rw [← h.1, List.length_take]; have := h.2.1; omega
theorem Scanned.next {ws : List Int} {a : Nat} {out : List (List Int)} (h : Scanned ws a out) {r : List Int} (hr : recAt ws a out.length = some r) : Scanned ws (a + 2 + r.length) (out ++ [r]) := by
  obtain ⟨h1, h2, h3⟩ := recAt_some hr
  refine ⟨?_, h2, fun x hx => ?_⟩
  · rw [h3, h.1, lay_append, Nat.zero_add]; simp [lay]
  · rcases List.mem_append.1 hx with hx | hx
    · exact h.2.2 x hx
    · simp at hx; rw [hx]; exact h1
theorem scanGo_inv (ws : List Int) : ∀ (f a : Nat) (out : List (List Int)), Scanned ws a out → Scanned ws (scanGo ws f a out).2 (scanGo ws f a out).1 := by
  intro f
  induction f with
  | zero => intro a out h; exact h
  | succ f ih =>
    intro a out h
    cases hr : recAt ws a out.length with
    | none => simp only [scanGo, hr]; exact h
    | some r => simp only [scanGo, hr]; exact ih _ _ (h.next hr)
theorem scanGo_stop (ws : List Int) : ∀ (f a : Nat) (out : List (List Int)), ws.length ≤ a + f → recAt ws (scanGo ws f a out).2 (scanGo ws f a out).1.length = none := by
  intro f
  induction f with
  | zero => intro a out h; rw [scanGo, recAt, if_neg (by omega)]
  | succ f ih =>
    intro a out h
    cases hr : recAt ws a out.length with
    | none => simp only [scanGo, hr]
    | some r => simp only [scanGo, hr]; exact ih _ _ (by omega)
theorem scanGo_pre (ws : List Int) : ∀ (f a : Nat) (out : List (List Int)), ∃ more, (scanGo ws f a out).1 = out ++ more := by
  intro f
  induction f with
  | zero => intro a out; exact ⟨[], by simp [scanGo]⟩
  | succ f ih =>
    intro a out
    cases hr : recAt ws a out.length with
    | none => exact ⟨[], by simp [scanGo, hr]⟩
    | some r =>
      obtain ⟨more, h⟩ := ih (a + 2 + r.length) (out ++ [r])
      exact ⟨[r] ++ more, by simp only [scanGo, hr]; rw [h, List.append_assoc]⟩
theorem scanGo_end {ws : List Int} {a : Nat} {out : List (List Int)} (h : recAt ws a out.length = none) (f : Nat) : scanGo ws f a out = (out, a) := by
  cases f with
  | zero => rfl
  | succ f => simp only [scanGo, h]
theorem scanGo_over (ws : List Int) : ∀ (ss : List (List Int)) (f a : Nat) (out : List (List Int)) (rest : List Int), (∀ r ∈ ss, okRec r) → ws.length ≤ a + f → ws.drop a = lay out.length ss ++ rest →
    ∃ f', ws.length ≤ a + (lay out.length ss).length + f' ∧ scanGo ws f a out = scanGo ws f' (a + (lay out.length ss).length) (out ++ ss) := by
  intro ss
  induction ss with
  | nil => intro f a out rest _ hf _; exact ⟨f, by simpa [lay] using hf, by simp [lay]⟩
  | cons r ss ih =>
    intro f a out rest hok hf hd
    have hr : recAt ws a out.length = some r := recAt_of (rest := lay (out.length + 1) ss ++ rest) (hok r List.mem_cons_self) (by rw [hd, lay]; simp)
    obtain ⟨hk, hle, htk⟩ := recAt_some hr
    obtain ⟨f, rfl⟩ : ∃ g, f = g + 1 := ⟨f - 1, by unfold okRec at hk; omega⟩
    have hd2 : ws.drop (a + 2 + r.length) = lay (out ++ [r]).length ss ++ rest := by
      rw [Nat.add_assoc, ← List.drop_drop, hd, lay, List.length_append]
      rw [show 2 + r.length = r.length + 1 + 1 by omega]
      simp
    obtain ⟨f', h1, h2⟩ := ih f (a + 2 + r.length) (out ++ [r]) rest (fun x hx => hok x (List.mem_cons_of_mem _ hx)) (by omega) hd2
    have hll : (lay out.length (r :: ss)).length = 2 + r.length + (lay (out ++ [r]).length ss).length := by
      rw [lay, List.length_append]; simp; omega
    refine ⟨f', by rw [hll]; omega, ?_⟩
    simp only [scanGo, hr]
    rw [h2, hll, List.append_assoc, Nat.add_assoc a 2, Nat.add_assoc a]
    rfl
theorem scan_over {ws : List Int} {a : Nat} {rs : List (List Int)} (h : Scanned ws a rs) : ∃ f', ws.length ≤ a + f' ∧ scanOf ws = scanGo ws f' a rs := by
  obtain ⟨f', h1, h2⟩ := scanGo_over ws rs ws.length 0 [] (ws.drop a) h.2.2 (by omega) (by rw [List.drop_zero, List.length_nil, ← h.1, List.take_append_drop])
  rw [List.length_nil, h.len, Nat.zero_add] at h1 h2
  exact ⟨f', h1, h2⟩
theorem scan_pre {ws : List Int} {a : Nat} {rs : List (List Int)} (h : Scanned ws a rs) : ∃ more, (scanOf ws).1 = rs ++ more := by
  obtain ⟨f', _, h2⟩ := scan_over h
  rw [h2]; exact scanGo_pre ws f' a rs
theorem scan_end {ws : List Int} {a : Nat} {rs : List (List Int)} (h : Scanned ws a rs) (hn : recAt ws a rs.length = none) : scanOf ws = (rs, a) := by
  obtain ⟨f', _, h2⟩ := scan_over h
  rw [h2]; exact scanGo_end hn f'
theorem scan_inv (ws : List Int) : Scanned ws (scanOf ws).2 (scanOf ws).1 := scanGo_inv ws _ _ _ (Scanned.zero ws)
theorem scan_stop (ws : List Int) : recAt ws (scanOf ws).2 (scanOf ws).1.length = none := scanGo_stop ws _ _ _ (by omega)

end Go.Proofs.Ytkpbmffklcgecaa
