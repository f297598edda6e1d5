/- Chapter 12: sessions in memory: rows of four cells. -/
import Derived.Test.YtedgppggaceopaaZM
import Derived.Test.YtedgppggaceopaaYE
namespace Go.Proofs.Ytedgppggaceopaa
open Go.RowKit

abbrev Se := Int × Int × Int × Int
def se0 : Se := (0, 0, 0, 0)
def seF (x : Se) (j : Nat) : Int := if j = 0 then x.1 else if j = 1 then x.2.1 else if j = 2 then x.2.2.1 else x.2.2.2
def fours (xs : List Se) : List Value := (List.range (xs.length * 4)).map fun j => .int .i64 (seF (xs.getD (j / 4) se0) (j % 4))
theorem fours_len (xs : List Se) : (fours xs).length = xs.length * 4 := by simp [fours]
theorem fours_get (xs : List Se) (k j : Nat) (h : k < xs.length) (hj : j < 4) : (fours xs).getD (k * 4 + j) default = .int .i64 (seF (xs.getD k se0) j) := by
  have h1 : k * 4 + j < xs.length * 4 := by omega
  have h2 : (k * 4 + j) / 4 = k := by omega
  have h3 : (k * 4 + j) % 4 = j := by omega
  have : (fours xs).getD (k * 4 + j) default = .int .i64 (seF (xs.getD ((k * 4 + j) / 4) se0) ((k * 4 + j) % 4)) := by simp [fours, List.getD, h1]
  rw [this, h2, h3]
theorem RowAt.nFours {w : World} {own : Bool} {lo hi : Nat} {ao : Option Addr} {n cap : Nat} {vs : List Se} (h : RowAt w own lo hi 4 ao n cap (fours vs)) : vs.length = n := by
  have hl := h.len; rw [fours_len] at hl; omega
theorem RowAt.four {w : World} {own : Bool} {lo hi : Nat} {ao : Option Addr} {n cap : Nat} {vs : List Se} (h : RowAt w own lo hi 4 ao n cap (fours vs)) {i : Nat} (hi' : i < n) :
    ∃ b off, ao = some ⟨b, off, none⟩ ∧ lo ≤ b ∧ b < hi ∧ b < w.heap.size ∧ w.cell? ⟨b, off + i * 4, none⟩ = some (.int .i64 (vs.getD i se0).1) ∧ w.cell? ⟨b, off + i * 4 + 1, none⟩ = some (.int .i64 (vs.getD i se0).2.1) ∧ w.cell? ⟨b, off + i * 4 + 2, none⟩ = some (.int .i64 (vs.getD i se0).2.2.1) ∧ w.cell? ⟨b, off + i * 4 + 3, none⟩ = some (.int .i64 (vs.getD i se0).2.2.2) ∧ (own = true → ∀ j, j < 4 → w.frozen? ⟨b, off + (i * 4 + j), none⟩ = false) := by
  obtain ⟨b, off, rfl, g1, g2, g3, g4, g5⟩ := h.cells (by omega)
  have hl := h.nFours
  have G : ∀ j, j < 4 → w.cell? ⟨b, off + (i * 4 + j), none⟩ = some (.int .i64 (seF (vs.getD i se0) j)) := fun j hj => by
    rw [g4 (i * 4 + j) (by omega), fours_get vs i j (by omega) hj]
  exact ⟨b, off, rfl, g1, g2, g3, G 0 (by omega), G 1 (by omega), G 2 (by omega), G 3 (by omega), fun ho j hj => g5 ho _ (by omega)⟩

end Go.Proofs.Ytedgppggaceopaa
