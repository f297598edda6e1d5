/- Chapter 2, plain facts: sums, records, the scan of a journal, what an append puts, what a crash leaves. No program is named here. -/
import Derived.Test.YtcbfmjanjciodaaEX
import Derived.Test.YtcbfmjanjciodaaSpec1
namespace Go.Proofs.Ytcbfmjanjciodaa

def sumStep (h x : Int) : Int := (h * 263 + x % 65521 + 1) % 65521
def sumOf (xs : List Int) : Int := xs.foldl sumStep 9
theorem sumStep_bd (h x : Int) : 0 ≤ sumStep h x ∧ sumStep h x < 65521 := ⟨Int.emod_nonneg _ (by decide), Int.emod_lt_of_pos _ (by decide)⟩
theorem sum_bd (xs : List Int) : ∀ h : Int, 0 ≤ h → h < 65521 → 0 ≤ xs.foldl sumStep h ∧ xs.foldl sumStep h < 65521 := by
  induction xs with
  | nil => intro h h0 h1; exact ⟨h0, h1⟩
  | cons x r ih => intro h _ _; exact ih _ (sumStep_bd h x).1 (sumStep_bd h x).2
theorem sumOf_bd (xs : List Int) : 0 ≤ sumOf xs ∧ sumOf xs < 65521 := sum_bd xs 9 (by decide) (by decide)
theorem sum_snoc (xs : List Int) (k : Nat) (h : k < xs.length) : sumOf (xs.take (k + 1)) = sumStep (sumOf (xs.take k)) (xs.getD k 0) := by
  rw [take_snoc_getD xs 0 k h, sumOf, List.foldl_append]; rfl
theorem tmod_bd (x : Int) : -65521 < x.tmod 65521 ∧ x.tmod 65521 < 65521 := by
  have h1 := Int.tmod_lt_of_pos x (b := 65521) (by decide)
  have h2 := Int.lt_tmod_of_pos x (b := 65521) (by decide)
  exact ⟨h2, h1⟩
theorem tmod_mod (x : Int) : (x.tmod 65521 + 65521).tmod 65521 = x % 65521 := by
  have h1 := tmod_bd x
  rw [Int.tmod_eq_emod_of_nonneg (by omega), Int.add_emod_right]
  have h3 := Int.mul_tdiv_add_tmod x 65521
  omega
theorem tmod_step (h b : Int) (h0 : 0 ≤ h) (hb : 0 ≤ b) : (h * 263 + b + 1).tmod 65521 = (h * 263 + b + 1) % 65521 := Int.tmod_eq_emod_of_nonneg (by omega)

/-- the words of records that are numbered from k on -/
def lay : Nat → List (List Int) → List Int
  | _, [] => []
  | k, r :: rs => (r.length : Int) :: sumOf ((k : Int) :: r) :: (r ++ lay (k + 1) rs)
def okRec (r : List Int) : Prop := 1 ≤ r.length ∧ r.length ≤ 8

/-- how far a scan has come -/
def Scanned (ws : List Int) (a : Nat) (out : List (List Int)) : Prop := ws.take a = lay 0 out ∧ a ≤ ws.length ∧ ∀ r ∈ out, okRec r
theorem Scanned.zero (ws : List Int) : Scanned ws 0 [] := ⟨rfl, Nat.zero_le _, fun _ h => by cases h⟩
theorem Scanned.len {ws : List Int} {a : Nat} {out : List (List Int)} (h : Scanned ws a out) : (lay 0 out).length = a := by rw [← h.1, List.length_take]; have := h.2.1; omega
end Go.Proofs.Ytcbfmjanjciodaa
