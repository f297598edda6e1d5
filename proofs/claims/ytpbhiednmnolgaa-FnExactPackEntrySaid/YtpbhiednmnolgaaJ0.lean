/- Chapter 2, plain facts: sums, records, the scan of a journal, what an append puts, what a crash leaves. No program is named here. -/
import Derived.Test.YtpbhiednmnolgaaEX
import Derived.Test.YtpbhiednmnolgaaSpec1
namespace Go.Proofs.Ytpbhiednmnolgaa

def sumStep (h x : Int) : Int := (h * 263 + x % 65521 + 1) % 65521
def sumOf (xs : List Int) : Int := xs.foldl sumStep 9
/-- the words of records that are numbered from k on -/
def lay : Nat → List (List Int) → List Int
  | _, [] => []
  | k, r :: rs => (r.length : Int) :: sumOf ((k : Int) :: r) :: (r ++ lay (k + 1) rs)
def okRec (r : List Int) : Prop := 1 ≤ r.length ∧ r.length ≤ 8

/-- how far a scan has come -/
def Scanned (ws : List Int) (a : Nat) (out : List (List Int)) : Prop := ws.take a = lay 0 out ∧ a ≤ ws.length ∧ ∀ r ∈ out, okRec r
theorem Scanned.zero (ws : List Int) : Scanned ws 0 [] := ⟨rfl, Nat.zero_le _, fun _ h => by cases h⟩
theorem Scanned.len {ws : List Int} {a : Nat} {out : List (List Int)} (h : Scanned ws a out) : (lay 0 out).length = a := by rw [← h.1, List.length_take]; have := h.2.1; omega
end Go.Proofs.Ytpbhiednmnolgaa
