/- Slices of bools: what they hold, how an argument is read, what the laws' copies, comparisons and marks of them answer. -/
import Derived.Test.YtlblbjebbecgbaaMark2
import Derived.Test.YtlblbjebbecgbaaOpen
namespace Go.Proofs.Ytlblbjebbecgbaa
open Go.RowKit Go.ChangeShapes Go.WideShapes Go.Deep

def bls (bs : List Bool) : List Value := bs.map Value.bool
theorem bls_length (bs : List Bool) : (bls bs).length = bs.length := by simp [bls]
theorem bls_getD (bs : List Bool) (i : Nat) (h : i < bs.length) : (bls bs).getD i default = .bool (bs.getD i false) := by simp [bls, List.getD, h]
theorem RowAt.nBools {w : World} {own : Bool} {lo hi : Nat} {ao : Option Addr} {n cap : Nat} {bs : List Bool} (h : RowAt w own lo hi 1 ao n cap (bls bs)) : bs.length = n := by
  have hl := h.len; rw [bls_length, Nat.mul_one] at hl; exact hl
theorem RowAt.bool {w : World} {own : Bool} {lo hi : Nat} {ao : Option Addr} {n cap : Nat} {bs : List Bool} (h : RowAt w own lo hi 1 ao n cap (bls bs)) {k : Nat} (hk : k < n) :
    ∃ b off, ao = some ⟨b, off, none⟩ ∧ lo ≤ b ∧ b < hi ∧ b < w.heap.size ∧ w.cell? ⟨b, off + k, none⟩ = some (.bool (bs.getD k false)) ∧ (own = true → w.frozen? ⟨b, off + k, none⟩ = false) := by
  obtain ⟨b, off, rfl, g1, g2, g3, g4, g5⟩ := h.cells (by omega)
  have hl := h.nBools
  refine ⟨b, off, rfl, g1, g2, g3, ?_, fun ho => g5 ho k (by omega)⟩
  rw [g4 k (by omega), bls_getD bs k (by omega)]

theorem read_bools {H : Type} {enc : TypeId × Value → H} {P : Program} {w : World} {t e : TypeId} {fuel : Nat} {v : Value} {x : DataW H × List MemPlace} (ht : P.underlying t = some (.slice e)) (he : P.underlying e = some .bool) (hc : P.cellsOf e = 1)
    (h : DataW.trod enc P w 0 (fun _ => true) true fuel t [v] = some x) :
    ∃ ao n cap bs, v = .slice ao n cap ∧ n ≤ maxLen ∧ RowAt w false 0 w.heap.size 1 ao n cap (bls bs) := by
  rcases open_slice1 ht hc h with ⟨hcs, _⟩ | ⟨a, len, cap, m, fu, V, D, Pl, hcs, _, hl, hm, hz, _, hcell⟩
  · simp only [List.cons.injEq, and_true] at hcs
    exact ⟨none, 0, 0, [], hcs, Nat.zero_le _, rfl, Nat.le_refl _, fun h => absurd rfl h⟩
  · simp only [List.cons.injEq, and_true] at hcs
    simp only [if_true] at hz
    subst hz
    have each : ∀ i, i < m → ∃ b : Bool, w.cell? (a.add i) = some (.bool b) := fun i hi => by
      obtain ⟨e0, t0⟩ := hcell i hi
      obtain ⟨b, g0, _⟩ := DataW.trod_bool he t0
      simp only [List.cons.injEq, and_true] at g0
      exact ⟨b, by rw [e0, g0]⟩
    obtain ⟨q, hq⟩ := choose_lt each
    have hlen : ((List.range len).map q).length = len := by simp
    refine ⟨some a, len, m, (List.range len).map q, hcs, Nat.le_trans hl hm, ?_, hl, fun hn => ?_⟩
    · rw [bls_length, hlen, Nat.mul_one]
    · have h0 := hq 0 (by omega)
      obtain ⟨b, off, spot⟩ := a
      have hspot : spot = none := by simpa [Addr.add] using World.cell?_spot h0
      subst hspot
      refine ⟨b, off, rfl, Nat.zero_le _, World.block_lt_of_cell? w _ h0, World.block_lt_of_cell? w _ h0, fun i hi => ?_, fun h => by cases h⟩
      have hi2 : i < len := by omega
      rw [← addr_add, hq i (by omega), bls_getD _ _ (by omega)]
      simp [List.getD, hi2]

theorem Try.info4' : (Try.prog.info? 4).map (fun i => (i.zero, i.size, i.bytes)) = some (some (.bool false), 1, 1) := by kernel_rfl

set_option maxHeartbeats 400000 in
theorem toBools_any {own : Bool} {lo hi : Nat} (ao : Option Addr) (n cap : Nat) (bs : List Bool) (w : World) (h : RowAt w own lo hi 1 ao n cap (bls bs)) (hn : n ≤ 1048576) :
    Calls Try.prog 53 #[.slice ao n cap] w fun e w' => ∃ ad, e = .returned (.slice ad n n) ∧ RowAt w' true w.heap.size w'.heap.size 1 ad n n (bls bs) ∧ Below w.heap.size w w' := by
  have hx := h.nBools
  obtain ⟨i0, hi0, hz0, hz1, hz2⟩ := info_parts Try.info4'
  go_enter Try.func53, Try.ntmps53
  go_wp2_with (first | (at_make; refine wpList_make_full _ rfl _ _ 28 rfl w.heap.size 4 i0 (.bool false) 1 Try.underlying28 hi0 hz0 hz1 _ _ _ _ n rfl rfl rfl rfl ?b1 ?b2 ?b3 ?_))
  case b1 => rw [hz2]; omega
  case b2 => unfold maxLen; omega
  case b3 => exact Nat.le_refl _
  intro w1 hown hgrow
  have hb1 : Below w.heap.size w w1 := (Below.refl _ _).grown hgrow (Nat.le_refl _) (fun k hk => by cases hk)
  have hown0 : w1.ownsRow w.heap.size 4 1 (.slice (some ⟨w.heap.size, 0, none⟩) n n) n (cop (bls bs) (.bool false) 0) := by
    rw [cop_zero, bls_length, hx]; simpa [Value.cells, toList_madeCells_one] using hown
  clear hown hgrow
  go_wp2
  go_loopw [4] (fun i wr => ∃ k : Nat, k ≤ n ∧ i = .int .i64 k ∧ wr.ownsRow w.heap.size 4 1 (.slice (some ⟨w.heap.size, 0, none⟩) n n) n (cop (bls bs) (.bool false) k) ∧ Below w.heap.size w wr) (fun i _ => n - (intOf i).toNat)
  case atStart => exact ⟨0, Nat.zero_le _, rfl, hown0, hb1⟩
  case round =>
    obtain ⟨k, hk, rfl, hown, hb⟩ := hrel
    clear hown0 hb1
    by_cases hlt : k < n
    · obtain ⟨b, off, rfl, _, _, hbs, hc, _⟩ := h.bool hlt
      have hcr : wr.cell? ⟨b, off + k, none⟩ = some (.bool (bs.getD k false)) := (hb.cell (p := ⟨b, off + k, none⟩) hbs).trans hc
      have hcw : wr.cell? ⟨w.heap.size, k, none⟩ = some (.bool false) := by
        rw [hown.cellAt k (by omega), cop_get _ _ _ _ (Nat.le_refl _) (by rw [bls_length]; omega)]
      have hfw : wr.frozen? ⟨w.heap.size, k, none⟩ = false := hown.frozenAt k
      have R := hown.stored k (.bool (bs.getD k false))
      rw [cop_set _ _ _ k (by rw [bls_length]; omega) (bls_getD bs k (by omega))] at R
      have hb2 : Below w.heap.size w (wr.setCell ⟨w.heap.size, k, none⟩ (.bool (bs.getD k false))) := hb.setCell (p := ⟨w.heap.size, k, none⟩) (Nat.le_refl _) _
      have R2 := R.1
      clear hc R hown hb
      generalize bs.getD k false = x at *
      go_wp2
      go_roundw
      case rel => exact ⟨k + 1, by omega, by go_num, R2, hb2⟩
      case measure => simp [intOf]; omega
    · go_wp2
      go_ret
      have hkn : k = (bls bs).length := by rw [bls_length]; omega
      rw [hkn, cop_all] at hown
      exact ⟨_, rfl, RowAt.of_owns hown (Nat.le_refl _), hb⟩

set_option maxHeartbeats 400000 in
theorem eqBools_yes {o1 o2 : Bool} {l1 u1 l2 u2 : Nat} (a1 a2 : Option Addr) (n1 c1 n2 c2 : Nat) (bs : List Bool) (w : World) (h1 : RowAt w o1 l1 u1 1 a1 n1 c1 (bls bs)) (h2 : RowAt w o2 l2 u2 1 a2 n2 c2 (bls bs)) (hn : n1 ≤ 2097152) :
    Calls Try.prog 54 #[.slice a1 n1 c1, .slice a2 n2 c2] w fun e w' => e = .returned (.bool true) ∧ Below w.heap.size w w' := by
  have hne : n2 = n1 := by rw [← h1.nBools, ← h2.nBools]
  subst hne
  have hb0 : ((n2 : Int) != (n2 : Int)) = false := by simp
  go_enter Try.func54, Try.ntmps54
  go_wp2
  go_loopw [5] (fun i wr => ∃ k : Nat, k ≤ n2 ∧ i = .int .i64 k ∧ Below w.heap.size w wr) (fun i _ => n2 - (intOf i).toNat)
  case atStart => exact ⟨0, Nat.zero_le _, rfl, Below.refl _ _⟩
  case round =>
    obtain ⟨k, hk, rfl, hb⟩ := hrel
    by_cases hlt : k < n2
    · obtain ⟨b1, o1, rfl, _, _, hs1, e1, _⟩ := h1.bool hlt
      obtain ⟨b2, o2, rfl, _, _, hs2, e2, _⟩ := h2.bool hlt
      have g1 : wr.cell? ⟨b1, o1 + k, none⟩ = some (.bool (bs.getD k false)) := (hb.cell (p := ⟨b1, o1 + k, none⟩) hs1).trans e1
      have g2 : wr.cell? ⟨b2, o2 + k, none⟩ = some (.bool (bs.getD k false)) := (hb.cell (p := ⟨b2, o2 + k, none⟩) hs2).trans e2
      clear e1 e2
      have hl : (k : Int) < (n2 : Int) := by omega
      generalize bs.getD k false = y at g1 g2
      have hyy : (y != y) = false := by simp
      go_wp2_with fail
      go_quiet (fail)
      go_wp2
      go_roundw
      case rel => exact ⟨k + 1, by omega, by go_num, below_drewN hb _⟩
      case measure => simp [intOf]; omega
    · go_wp2
      go_ret
      exact ⟨rfl, hb⟩

/-- What has been marked so far (which bools they are does not matter). -/
theorem RowAt.boolSet {w : World} {lo hi b off n cap : Nat} {bs : List Bool} (h : RowAt w true lo hi 1 (some ⟨b, off, none⟩) n cap (bls bs)) {i : Nat} (hi' : i < n) (x : Bool) : RowAt (w.setCell ⟨b, off + i, none⟩ (.bool x)) true lo hi 1 (some ⟨b, off, none⟩) n cap (bls (bs.set i x)) := by
  have := h.stored (i := i) (by omega) (.bool x)
  rwa [show (bls bs).set i (.bool x) = bls (bs.set i x) by simp [bls, List.map_set]] at this

set_option maxHeartbeats 400000 in
theorem markBools_any {lo hi : Nat} (ao : Option Addr) (n cap : Nat) (bs : List Bool) (k : Int) (w : World) (h : RowAt w true lo hi 1 ao n cap (bls bs)) (hn : n ≤ 4194304) (hk0 : 0 ≤ k) (hk1 : k ≤ 33554432) :
    Calls Try.prog 55 #[.slice ao n cap, .int .i64 k] w fun e w' => e = .returned (.int .i64 (k + n)) ∧ Kept lo hi w w' := by
  go_enter Try.func55, Try.ntmps55
  go_wp2
  go_loopw [1, 5] (fun v i wr => ∃ (j : Nat) (cs : List Bool), j ≤ n ∧ i = .int .i64 j ∧ v = .int .i64 (k + j) ∧ RowAt wr true lo hi 1 ao n cap (bls cs) ∧ Kept lo hi w wr) (fun _ i _ => n - (intOf i).toNat)
  case atStart => exact ⟨0, bs, Nat.zero_le _, rfl, by simp, h, Kept.refl _ _ _⟩
  case round =>
    obtain ⟨j, cs, hj, rfl, rfl, R, hK⟩ := hrel
    by_cases hlt : j < n
    · obtain ⟨b, off, rfl, hlo, hhi, hbs, hc, hf0⟩ := R.bool hlt
      have hf := hf0 rfl
      have R2 := fun x => R.boolSet (i := j) hlt x
      have K2 : ∀ v, Kept lo hi w (wr.setCell ⟨b, off + j, none⟩ v) := fun v => hK.setCell (p := ⟨b, off + j, none⟩) hlo hhi v
      have hl : (j : Int) < n := by omega
      have HR : Hid _ := R2
      have HK : Hid _ := K2
      clear R hf0 hK R2 K2
      generalize cs.getD j false = old at *
      go_wp2
      go_roundw
      case rel => exact ⟨j + 1, _, by omega, by go_num, by simp; omega, HR.out _, HK.out _⟩
      case measure => simp [intOf]; omega
    · have hjn : j = n := by omega
      subst hjn
      go_wp2
      go_ret
      exact ⟨rfl, hK⟩

end Go.Proofs.Ytlblbjebbecgbaa
