/- Chapter 2, plain facts: sums, records, the scan of a journal, what an append puts, what a crash leaves. No program is named here. -/
import Derived.Test.YtcbfmjanjciodaaEX
import Derived.Test.YtcbfmjanjciodaaSpec1
namespace Go.Proofs.Ytcbfmjanjciodaa

def sumStep (h x : Int) : Int := (h * 263 + x % 65521 + 1) % 65521
def sumOf (xs : List Int) : Int := xs.foldl sumStep 9
/-- the record numbered k at the place 'at', if a right one is there -/
def recAt (ws : List Int) (at' k : Nat) : Option (List Int) :=
  if at' + 2 < ws.length ∧ 1 ≤ ws.getD at' 0 ∧ ws.getD at' 0 ≤ 8 ∧ at' + 2 + (ws.getD at' 0).toNat ≤ ws.length ∧ ws.getD (at' + 1) 0 = sumOf ((k : Int) :: (ws.drop (at' + 2)).take (ws.getD at' 0).toNat)
  then some ((ws.drop (at' + 2)).take (ws.getD at' 0).toNat) else none
/-- the words of records that are numbered from k on -/
def lay : Nat → List (List Int) → List Int
  | _, [] => []
  | k, r :: rs => (r.length : Int) :: sumOf ((k : Int) :: r) :: (r ++ lay (k + 1) rs)
def okRec (r : List Int) : Prop := 1 ≤ r.length ∧ r.length ≤ 8

theorem lay_append (rs ss : List (List Int)) : ∀ k, lay k (rs ++ ss) = lay k rs ++ lay (k + rs.length) ss := by
  induction rs with
  | nil => intro k; simp [lay]
  | cons r rs ih =>
    intro k
    show (r.length : Int) :: sumOf ((k : Int) :: r) :: (r ++ lay (k + 1) (rs ++ ss)) = _
    rw [ih (k + 1), lay, List.length_cons, show k + 1 + rs.length = k + (rs.length + 1) by omega]
    simp
theorem recAt_some {ws : List Int} {a k : Nat} {r : List Int} (h : recAt ws a k = some r) : okRec r ∧ a + 2 + r.length ≤ ws.length ∧ ws.take (a + 2 + r.length) = ws.take a ++ ((r.length : Int) :: sumOf ((k : Int) :: r) :: r) := by
  unfold recAt at h
  split at h
  rotate_left 1
  · cases h
  rename_i hc
  obtain ⟨c1, c2, c3, c4, c5⟩ := hc
  injection h with h
  generalize hn : (ws.getD a 0).toNat = n at *
  have hrl : r.length = n := by rw [← h]; simp; omega
  have hx : ws.getD a 0 = (r.length : Int) := by omega
  refine ⟨⟨by omega, by omega⟩, by omega, ?_⟩
  have e1 : ws.drop a = ws.getD a 0 :: ws.drop (a + 1) := by rw [List.drop_eq_getElem_cons (by omega : a < ws.length)]; simp [List.getD, show a < ws.length by omega]
  have e2 : ws.drop (a + 1) = ws.getD (a + 1) 0 :: ws.drop (a + 2) := by rw [List.drop_eq_getElem_cons (by omega : a + 1 < ws.length)]; simp [List.getD, show a + 1 < ws.length by omega]
  rw [Nat.add_assoc, List.take_add, e1, e2, hrl, Nat.add_comm 2 n, List.take_succ_cons, List.take_succ_cons, h, hx, c5, h, hrl]

/-- how far a scan has come -/
def Scanned (ws : List Int) (a : Nat) (out : List (List Int)) : Prop := ws.take a = lay 0 out ∧ a ≤ ws.length ∧ ∀ r ∈ out, okRec r
theorem Scanned.zero (ws : List Int) : Scanned ws 0 [] := ⟨rfl, Nat.zero_le _, fun _ h => by cases h⟩
theorem Scanned.len {ws : List Int} {a : Nat} {out : List (List Int)} (h : Scanned ws a out) : (lay 0 out).length = a := by rw [← h.1, List.length_take]; have := h.2.1; omega
theorem Scanned.next {ws : List Int} {a : Nat} {out : List (List Int)} (h : Scanned ws a out) {r : List Int} (hr : recAt ws a out.length = some r) : Scanned ws (a + 2 + r.length) (out ++ [r]) := by
  obtain ⟨h1, h2, h3⟩ := recAt_some hr
  refine ⟨?_, h2, fun x hx => ?_⟩
  · rw [h3, h.1, lay_append, Nat.zero_add]; simp [lay]
  · rcases List.mem_append.1 hx with hx | hx
    · exact h.2.2 x hx
    · simp at hx; rw [hx]; exact h1
end Go.Proofs.Ytcbfmjanjciodaa
