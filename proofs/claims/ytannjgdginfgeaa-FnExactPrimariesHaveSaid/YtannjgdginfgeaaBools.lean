/- Slices of bools: what they hold, how an argument is read, what the laws' copies, comparisons and marks of them answer. -/
import Derived.Test.YtannjgdginfgeaaZA
import Derived.Test.YtannjgdginfgeaaZR
namespace Go.Proofs.Ytannjgdginfgeaa
open Go.RowKit Go.ChangeShapes Go.WideShapes Go.Deep

def bls (bs : List Bool) : List Value := bs.map Value.bool
theorem bls_length (bs : List Bool) : (bls bs).length = bs.length := by simp [bls]
theorem bls_getD (bs : List Bool) (i : Nat) (h : i < bs.length) : (bls bs).getD i default = .bool (bs.getD i false) := by simp [bls, List.getD, h]
theorem RowAt.nBools {w : World} {own : Bool} {lo hi : Nat} {ao : Option Addr} {n cap : Nat} {bs : List Bool} (h : RowAt w own lo hi 1 ao n cap (bls bs)) : bs.length = n := by
  have hl := h.len; rw [bls_length, Nat.mul_one] at hl; exact hl
theorem RowAt.bool {w : World} {own : Bool} {lo hi : Nat} {ao : Option Addr} {n cap : Nat} {bs : List Bool} (h : RowAt w own lo hi 1 ao n cap (bls bs)) {k : Nat} (hk : k < n) :
    ∃ b off, ao = some ⟨b, off, none⟩ ∧ lo ≤ b ∧ b < hi ∧ b < w.heap.size ∧ w.cell? ⟨b, off + k, none⟩ = some (.bool (bs.getD k false)) ∧ (own = true → w.frozen? ⟨b, off + k, none⟩ = false) := by
  obtain ⟨b, off, rfl, g1, g2, g3, g4, g5⟩ := h.cells (by omega)
  have hl := h.nBools
  refine ⟨b, off, rfl, g1, g2, g3, ?_, fun ho => g5 ho k (by omega)⟩
  rw [g4 k (by omega), bls_getD bs k (by omega)]

theorem read_bools {H : Type} {enc : TypeId × Value → H} {P : Program} {w : World} {t e : TypeId} {fuel : Nat} {v : Value} {x : DataW H × List MemPlace} (ht : P.underlying t = some (.slice e)) (he : P.underlying e = some .bool) (hc : P.cellsOf e = 1)
    (h : DataW.trod enc P w 0 (fun _ => true) true fuel t [v] = some x) :
    ∃ ao n cap bs, v = .slice ao n cap ∧ n ≤ maxLen ∧ RowAt w false 0 w.heap.size 1 ao n cap (bls bs) := by
  rcases open_slice1 ht hc h with ⟨hcs, _⟩ | ⟨a, len, cap, m, fu, V, D, Pl, hcs, _, hl, hm, hz, _, hcell⟩
  · simp only [List.cons.injEq, and_true] at hcs
    exact ⟨none, 0, 0, [], hcs, Nat.zero_le _, rfl, Nat.le_refl _, fun h => absurd rfl h⟩
  · simp only [List.cons.injEq, and_true] at hcs
    simp only [if_true] at hz
    subst hz
    have each : ∀ i, i < m → ∃ b : Bool, w.cell? (a.add i) = some (.bool b) := fun i hi => by
      obtain ⟨e0, t0⟩ := hcell i hi
      obtain ⟨b, g0, _⟩ := DataW.trod_bool he t0
      simp only [List.cons.injEq, and_true] at g0
      exact ⟨b, by rw [e0, g0]⟩
    obtain ⟨q, hq⟩ := choose_lt each
    have hlen : ((List.range len).map q).length = len := by simp
    refine ⟨some a, len, m, (List.range len).map q, hcs, Nat.le_trans hl hm, ?_, hl, fun hn => ?_⟩
    · rw [bls_length, hlen, Nat.mul_one]
    · have h0 := hq 0 (by omega)
      obtain ⟨b, off, spot⟩ := a
      have hspot : spot = none := by simpa [Addr.add] using World.cell?_spot h0
      subst hspot
      refine ⟨b, off, rfl, Nat.zero_le _, World.block_lt_of_cell? w _ h0, World.block_lt_of_cell? w _ h0, fun i hi => ?_, fun h => by cases h⟩
      have hi2 : i < len := by omega
      rw [← addr_add, hq i (by omega), bls_getD _ _ (by omega)]
      simp [List.getD, hi2]

theorem Try.info4' : (Try.prog.info? 4).map (fun i => (i.zero, i.size, i.bytes)) = some (some (.bool false), 1, 1) := by kernel_rfl

set_option maxHeartbeats 400000 in
theorem eqBools_yes {o1 o2 : Bool} {l1 u1 l2 u2 : Nat} (a1 a2 : Option Addr) (n1 c1 n2 c2 : Nat) (bs : List Bool) (w : World) (h1 : RowAt w o1 l1 u1 1 a1 n1 c1 (bls bs)) (h2 : RowAt w o2 l2 u2 1 a2 n2 c2 (bls bs)) (hn : n1 ≤ 2097152) :
    Calls Try.prog 103 #[.slice a1 n1 c1, .slice a2 n2 c2] w fun e w' => e = .returned (.bool true) ∧ Below w.heap.size w w' := by
  have hne : n2 = n1 := by rw [← h1.nBools, ← h2.nBools]
  subst hne
  have hb0 : ((n2 : Int) != (n2 : Int)) = false := by simp
  go_enter Try.func103, Try.ntmps103
  go_wp2
  go_loopw [5] (fun i wr => ∃ k : Nat, k ≤ n2 ∧ i = .int .i64 k ∧ Below w.heap.size w wr) (fun i _ => n2 - (intOf i).toNat)
  case atStart => exact ⟨0, Nat.zero_le _, rfl, Below.refl _ _⟩
  case round =>
    obtain ⟨k, hk, rfl, hb⟩ := hrel
    by_cases hlt : k < n2
    · obtain ⟨b1, o1, rfl, _, _, hs1, e1, _⟩ := h1.bool hlt
      obtain ⟨b2, o2, rfl, _, _, hs2, e2, _⟩ := h2.bool hlt
      have g1 : wr.cell? ⟨b1, o1 + k, none⟩ = some (.bool (bs.getD k false)) := (hb.cell (p := ⟨b1, o1 + k, none⟩) hs1).trans e1
      have g2 : wr.cell? ⟨b2, o2 + k, none⟩ = some (.bool (bs.getD k false)) := (hb.cell (p := ⟨b2, o2 + k, none⟩) hs2).trans e2
      clear e1 e2
      have hl : (k : Int) < (n2 : Int) := by omega
      generalize bs.getD k false = y at g1 g2
      have hyy : (y != y) = false := by simp
      go_wp2_with fail
      go_quiet (fail)
      go_wp2
      go_roundw
      case rel => exact ⟨k + 1, by omega, by go_num, below_drewN hb _⟩
      case measure => simp [intOf]; omega
    · go_wp2
      go_ret
      exact ⟨rfl, hb⟩

end Go.Proofs.Ytannjgdginfgeaa
