/- Draws: how a code of bytes is read, and what the source's next number is like. -/
import Derived.Test.YtikjndmgljkhhaaBools
import Derived.Test.YtikjndmgljkhhaaPutG
namespace Go.Proofs.Ytikjndmgljkhhaa
open Go.RowKit Go.ChangeShapes Go.WideShapes Go.Deep

def bys (bs : List Nat) : List Value := bs.map fun (b : Nat) => Value.int .u8 (b : Int)
theorem bys_length (bs : List Nat) : (bys bs).length = bs.length := by simp [bys]
theorem RowAt.nBytes {w : World} {own : Bool} {lo hi : Nat} {ao : Option Addr} {n cap : Nat} {bs : List Nat} (h : RowAt w own lo hi 1 ao n cap (bys bs)) : bs.length = n := by
  have hl := h.len; rw [bys_length, Nat.mul_one] at hl; exact hl
theorem RowAt.byte {w : World} {own : Bool} {lo hi : Nat} {ao : Option Addr} {n cap : Nat} {bs : List Nat} (h : RowAt w own lo hi 1 ao n cap (bys bs)) {k : Nat} (hk : k < n) :
    ∃ b off, ao = some ⟨b, off, none⟩ ∧ lo ≤ b ∧ b < hi ∧ b < w.heap.size ∧ w.cell? ⟨b, off + k, none⟩ = some (.int .u8 (bs.getD k 0 : Nat)) := by
  obtain ⟨b, off, rfl, g1, g2, g3, g4, g5⟩ := h.cells (by omega)
  have hl := h.nBytes
  refine ⟨b, off, rfl, g1, g2, g3, ?_⟩
  rw [g4 k (by omega)]
  simp [bys, List.getD, show k < bs.length by omega]

theorem read_bytes {H : Type} {enc : TypeId × Value → H} {P : Program} {w : World} {t e : TypeId} {fuel : Nat} {v : Value} {x : DataW H × List MemPlace} (ht : P.underlying t = some (.slice e)) (he : P.underlying e = some (.int .u8)) (hc : P.cellsOf e = 1)
    (h : DataW.trod enc P w 0 (fun _ => true) true fuel t [v] = some x) :
    ∃ ao n cap bs, v = .slice ao n cap ∧ n ≤ maxLen ∧ (∀ i, bs.getD i 0 < 256) ∧ RowAt w false 0 w.heap.size 1 ao n cap (bys bs) := by
  rcases open_ints ht he hc h with ⟨hcs, _⟩ | ⟨a, len, cap, zs, hcs, _, hl, hm, hz, _, hcell, hwf⟩
  · simp only [List.cons.injEq, and_true] at hcs
    exact ⟨none, 0, 0, [], hcs, Nat.zero_le _, fun i => by simp, rfl, Nat.le_refl _, fun h => absurd rfl h⟩
  · simp only [List.cons.injEq, and_true] at hcs
    simp only [if_true] at hz
    have hr : ∀ z ∈ zs, 0 ≤ z ∧ z < 256 := fun z hz => by
      have := hwf z hz
      simp [Lit.wf, IntKind.min, IntKind.max, IntKind.bits, IntKind.signed] at this
      omega
    refine ⟨some a, len, cap, (zs.take len).map Int.toNat, hcs, Nat.le_trans hl hm, fun i => ?_, ?_, hl, fun hn => ?_⟩
    · by_cases hi : i < (zs.take len).length
      · have : (zs.take len)[i] ∈ zs := List.mem_of_mem_take (List.getElem_mem hi)
        have := hr _ this
        simp only [List.getD, List.getElem?_map, List.getElem?_eq_getElem hi, Option.map_some, Option.getD_some]
        omega
      · simp only [List.getD, List.getElem?_map, List.getElem?_eq_none (Nat.not_lt.1 hi)]
        simp
    · rw [bys_length]; simp; omega
    · have h0 := hcell 0 (by omega)
      obtain ⟨b, off, spot⟩ := a
      have hspot : spot = none := by simpa [Addr.add] using World.cell?_spot h0
      subst hspot
      refine ⟨b, off, rfl, Nat.zero_le _, World.block_lt_of_cell? w _ h0, World.block_lt_of_cell? w _ h0, fun i hi => ?_, fun h => by cases h⟩
      have hi2 : i < zs.length := by omega
      have := hr zs[i] (List.getElem_mem hi2)
      rw [← addr_add, hcell i (by omega)]
      simp [bys, List.getD, show i < len by omega, hi2]
      omega

end Go.Proofs.Ytikjndmgljkhhaa
