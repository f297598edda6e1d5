/- Chapter 3: blocks copied, compared, marked and held by the laws. -/
import Derived.Test.YtedgppggaceopaaMark2
import Derived.Test.YtedgppggaceopaaEq
import Derived.Test.YtedgppggaceopaaZT
namespace Go.Proofs.Ytedgppggaceopaa
open Go.RowKit

theorem toBlock_any (x y : Int) (w : World) :
    Calls Try.prog 108 #[.agg #[.int .i64 x, .int .i64 y]] w fun e w' => e = .returned (.agg #[.int .i64 x, .int .i64 y]) ∧ Below w.heap.size w w' := by
  go_enter Try.func108, Try.ntmps108
  go_wp2
  refine bodyPost_ret (v := .agg #[.int .i64 x, .int .i64 y]) (by simp [results, Try.results108, go_sem]) rfl ⟨rfl, ?_⟩
  exact ((((Below.refl _ _).alloc (Nat.le_refl _) _).alloc (by simp) _).alloc (by simp; omega) _)

theorem Try.infoBlk : (Try.prog.info? 105).map (fun i => (i.zero, i.size, i.bytes)) = some (some (.agg #[.int .i64 0, .int .i64 0]), 2, 16) := by kernel_rfl

set_option maxHeartbeats 400000 in
theorem toBlocks_any {own : Bool} {lo hi : Nat} (ao : Option Addr) (n cap : Nat) (xs : List (Int × Int)) (w : World) (h : RowAt w own lo hi 2 ao n cap (pairs xs)) (hn : n ≤ 1048576) :
    Calls Try.prog 79 #[.slice ao n cap] w fun e w' => e = .returned (.slice (some ⟨w.heap.size, 0, none⟩) n n) ∧ RowAt w' true w.heap.size w'.heap.size 2 (some ⟨w.heap.size, 0, none⟩) n n (pairs xs) ∧ Below w.heap.size w w' := by
  have hx := h.nPairs
  obtain ⟨i0, hi0, hz0, hz1, hz2⟩ := info_parts Try.infoBlk
  go_enter Try.func79, Try.ntmps79
  go_wp2_with (first | (at_make; refine wpList_make_full _ rfl _ _ 35 rfl w.heap.size 105 i0 (.agg #[.int .i64 0, .int .i64 0]) 2 Try.underlying35 hi0 hz0 hz1 _ _ _ _ n rfl rfl rfl rfl ?b1 ?b2 ?b3 ?_))
  case b1 => rw [hz2]; omega
  case b2 => unfold maxLen; omega
  case b3 => exact Nat.le_refl _
  intro w1 hown hgrow
  have hb1 : Below w.heap.size w w1 := (Below.refl _ _).grown hgrow (Nat.le_refl _) (fun k hk => by cases hk)
  have hown0 : w1.ownsRow w.heap.size 105 2 (.slice (some ⟨w.heap.size, 0, none⟩) n n) n (cop (pairs xs) (.int .i64 0) (0 * 2)) := by
    rw [Nat.zero_mul, cop_zero, pairs_length, hx]; simpa [Value.cells, made2] using hown
  clear hown hgrow
  go_wp2
  go_loopw [4] (fun i wr => ∃ k : Nat, k ≤ n ∧ i = .int .i64 k ∧ wr.ownsRow w.heap.size 105 2 (.slice (some ⟨w.heap.size, 0, none⟩) n n) n (cop (pairs xs) (.int .i64 0) (k * 2)) ∧ Below w.heap.size w wr) (fun i _ => n - (intOf i).toNat)
  case atStart => exact ⟨0, Nat.zero_le _, rfl, hown0, hb1⟩
  case round =>
    obtain ⟨k, hk, rfl, hown, hb⟩ := hrel
    clear hown0 hb1
    by_cases hlt : k < n
    · obtain ⟨b, off, rfl, _, _, hbs, hc0, hc1, _⟩ := h.pair hlt
      have hcr0 : wr.cell? ⟨b, off + k * 2, none⟩ = some (.int .i64 (xs.getD k (0, 0)).1) := (hb.cell (p := ⟨b, off + k * 2, none⟩) hbs).trans hc0
      have hcr1 : wr.cell? ⟨b, off + k * 2 + 1, none⟩ = some (.int .i64 (xs.getD k (0, 0)).2) := (hb.cell (p := ⟨b, off + k * 2 + 1, none⟩) hbs).trans hc1
      have R : ∀ w1, Below wr.heap.size wr w1 → w1.cell? ⟨w.heap.size, k * 2, none⟩ = some (.int .i64 0) ∧ w1.cell? ⟨w.heap.size, k * 2 + 1, none⟩ = some (.int .i64 0) ∧ w1.frozen? ⟨w.heap.size, k * 2, none⟩ = false ∧ w1.frozen? ⟨w.heap.size, k * 2 + 1, none⟩ = false ∧
          ((w1.setCell ⟨w.heap.size, k * 2, none⟩ (.int .i64 (xs.getD k (0, 0)).1)).setCell ⟨w.heap.size, k * 2 + 1, none⟩ (.int .i64 (xs.getD k (0, 0)).2)).ownsRow w.heap.size 105 2 (.slice (some ⟨w.heap.size, 0, none⟩) n n) n (cop (pairs xs) (.int .i64 0) ((k + 1) * 2)) ∧
          Below w.heap.size w ((w1.setCell ⟨w.heap.size, k * 2, none⟩ (.int .i64 (xs.getD k (0, 0)).1)).setCell ⟨w.heap.size, k * 2 + 1, none⟩ (.int .i64 (xs.getD k (0, 0)).2)) := by
        intro w1 hb1
        have ho := owns_below hown hb1
        have hl : (pairs xs).length = n * 2 := by rw [pairs_length, hx]
        refine ⟨?_, ?_, ho.frozenAt _, ho.frozenAt _, ?_, ?_⟩
        · rw [ho.cellAt _ (by omega), cop_get _ _ _ _ (by omega) (by omega)]
        · rw [ho.cellAt _ (by omega), cop_get _ _ _ _ (by omega) (by omega)]
        · have r := ((ho.stored (k * 2) (.int .i64 (xs.getD k (0, 0)).1)).1.stored (k * 2 + 1) (.int .i64 (xs.getD k (0, 0)).2)).1
          rwa [cop_set _ _ _ (k * 2) (by omega) (pairs_getD0 xs k (by omega)), cop_set _ _ _ (k * 2 + 1) (by omega) (pairs_getD1 xs k (by omega)), show k * 2 + 1 + 1 = (k + 1) * 2 by omega] at r
        · exact ((below_step hb hb.size hb1).setCell (p := ⟨w.heap.size, k * 2, none⟩) (Nat.le_refl _) _).setCell (p := ⟨w.heap.size, k * 2 + 1, none⟩) (Nat.le_refl _) _
      clear hc0 hc1 hown hb
      generalize (xs.getD k (0, 0)).1 = x at *
      generalize (xs.getD k (0, 0)).2 = y at *
      have HR : Hid _ := R
      clear R
      go_wp2_with fail
      refine (toBlock_any _ _ _).mono ?_
      rintro e w1 ⟨rfl, hb1⟩
      obtain ⟨a0, a1, a2, a3, a4, a5⟩ := HR.out w1 hb1
      clear HR hb1 hcr0 hcr1
      go_wp2
      go_roundw
      case rel => exact ⟨k + 1, by omega, by go_num, a4, a5⟩
      case measure => simp [intOf]; omega
    · go_wp2
      go_ret
      have hkn : k * 2 = (pairs xs).length := by rw [pairs_length]; omega
      rw [hkn, cop_all] at hown
      exact ⟨rfl, RowAt.of_owns hown (Nat.le_refl _), hb⟩

theorem eqBlock_any (x1 y1 x2 y2 : Int) (w : World) :
    Calls Try.prog 115 #[.agg #[.int .i64 x1, .int .i64 y1], .agg #[.int .i64 x2, .int .i64 y2]] w fun e w' => e = .returned (.bool (decide (((x1, y1) : Int × Int) = (x2, y2)))) ∧ Below w.heap.size w w' := by
  by_cases h1 : x1 = x2 <;> by_cases h2 : y1 = y2
  · have hd : decide (((x1, y1) : Int × Int) = (x2, y2)) = true := by simp [h1, h2]
    have e1 : (x1 != x2) = false := by simp [h1]
    have e2 : (y1 != y2) = false := by simp [h2]
    rw [hd]
    clear h1 h2 hd
    go_enter Try.func115, Try.ntmps115
    go_wp2
    go_ret
    exact ⟨rfl, (((Below.refl _ _).alloc (Nat.le_refl _) _).alloc (by simp) _)⟩
  · have hd : decide (((x1, y1) : Int × Int) = (x2, y2)) = false := by simp [h2]
    have e1 : (x1 != x2) = false := by simp [h1]
    have e2 : (y1 != y2) = true := by simp [h2]
    rw [hd]
    clear h1 h2 hd
    go_enter Try.func115, Try.ntmps115
    go_wp2
    go_ret
    exact ⟨rfl, (((Below.refl _ _).alloc (Nat.le_refl _) _).alloc (by simp) _)⟩
  all_goals
    have hd : decide (((x1, y1) : Int × Int) = (x2, y2)) = false := by simp [h1]
    have e1 : (x1 != x2) = true := by simp [h1]
    rw [hd]
    clear h1 h2 hd
    go_enter Try.func115, Try.ntmps115
    go_wp2
    go_ret
    exact ⟨rfl, (((Below.refl _ _).alloc (Nat.le_refl _) _).alloc (by simp) _)⟩

theorem eqBlock_is (x1 y1 x2 y2 : Int) (w : World) (d : Bool) (hd : decide (((x1, y1) : Int × Int) = (x2, y2)) = d) :
    Calls Try.prog 115 #[.agg #[.int .i64 x1, .int .i64 y1], .agg #[.int .i64 x2, .int .i64 y2]] w fun e w' => e = .returned (.bool d) ∧ Below w.heap.size w w' := by
  rw [← hd]; exact eqBlock_any _ _ _ _ _

set_option maxHeartbeats 800000 in
theorem eqBlocks_any {o1 o2 : Bool} {l1 u1 l2 u2 : Nat} (a1 a2 : Option Addr) (n1 c1 n2 c2 : Nat) (xs ys : List (Int × Int)) (w : World) (h1 : RowAt w o1 l1 u1 2 a1 n1 c1 (pairs xs)) (h2 : RowAt w o2 l2 u2 2 a2 n2 c2 (pairs ys)) (hn : n1 ≤ 2097152) (hm : n2 ≤ 2097152) :
    Calls Try.prog 89 #[.slice a1 n1 c1, .slice a2 n2 c2] w fun e w' => e = .returned (.bool (decide (xs = ys))) ∧ Below w.heap.size w w' := by
  have hx := h1.nPairs
  have hy := h2.nPairs
  by_cases hne : n1 = n2
  · subst hne
    have hb0 : ((n1 : Int) != (n1 : Int)) = false := by simp
    go_enter Try.func89, Try.ntmps89
    go_wp2
    go_loopw [5] (fun i wr => ∃ k : Nat, k ≤ n1 ∧ i = .int .i64 k ∧ (∀ j, j < k → xs.getD j (0, 0) = ys.getD j (0, 0)) ∧ Below w.heap.size w wr) (fun i _ => n1 - (intOf i).toNat)
    case atStart => exact ⟨0, Nat.zero_le _, rfl, fun j hj => absurd hj (Nat.not_lt_zero _), Below.refl _ _⟩
    case round =>
      obtain ⟨k, hk, rfl, hall0, hb⟩ := hrel
      have HA : Hid _ := hall0
      clear hall0
      by_cases hlt : k < n1
      · obtain ⟨b1, o1, rfl, _, _, hs1, e1, e1', _⟩ := h1.pair hlt
        obtain ⟨b2, o2, rfl, _, _, hs2, e2, e2', _⟩ := h2.pair hlt
        have g1 : wr.cell? ⟨b1, o1 + k * 2, none⟩ = some (.int .i64 (xs.getD k (0, 0)).1) := (hb.cell (p := ⟨b1, o1 + k * 2, none⟩) hs1).trans e1
        have g1' : wr.cell? ⟨b1, o1 + k * 2 + 1, none⟩ = some (.int .i64 (xs.getD k (0, 0)).2) := (hb.cell (p := ⟨b1, o1 + k * 2 + 1, none⟩) hs1).trans e1'
        have g2 : wr.cell? ⟨b2, o2 + k * 2, none⟩ = some (.int .i64 (ys.getD k (0, 0)).1) := (hb.cell (p := ⟨b2, o2 + k * 2, none⟩) hs2).trans e2
        have g2' : wr.cell? ⟨b2, o2 + k * 2 + 1, none⟩ = some (.int .i64 (ys.getD k (0, 0)).2) := (hb.cell (p := ⟨b2, o2 + k * 2 + 1, none⟩) hs2).trans e2'
        clear e1 e2 e1' e2'
        have hl : (k : Int) < (n1 : Int) := by omega
        obtain ⟨p, hp⟩ : ∃ p, p = xs.getD k (0, 0) := ⟨_, rfl⟩
        obtain ⟨q, hq⟩ : ∃ q, q = ys.getD k (0, 0) := ⟨_, rfl⟩
        rw [← hp] at g1 g1'
        rw [← hq] at g2 g2'
        have HP : Hid (p = xs.getD k (0, 0)) := hp
        have HQ : Hid (q = ys.getD k (0, 0)) := hq
        clear hp hq
        obtain ⟨x1, y1⟩ := p
        obtain ⟨x2, y2⟩ := q
        simp only [] at g1 g1' g2 g2'
        by_cases hxy : ((x1, y1) : Int × Int) = (x2, y2)
        · have HD : Hid (decide (((x1, y1) : Int × Int) = (x2, y2)) = true) := decide_eq_true hxy
          have HX : Hid _ := hxy
          clear hxy
          go_wp2_with fail
          go_region_held3 (fun w' => w'.cell? ⟨b1, o1 + k * 2, none⟩ = some (.int .i64 x1) ∧ w'.cell? ⟨b1, o1 + k * 2 + 1, none⟩ = some (.int .i64 y1) ∧ w'.cell? ⟨b2, o2 + k * 2, none⟩ = some (.int .i64 x2) ∧ w'.cell? ⟨b2, o2 + k * 2 + 1, none⟩ = some (.int .i64 y2)) (go_keep) (first | (go_at_call 115; refine (eqBlock_is _ _ _ _ _ true HD.out).mono ?_; rintro e w1 ⟨rfl, hb1⟩; have q1 := cell_later hb1 g1; have q2 := cell_later hb1 g1'; have q3 := cell_later hb1 g2; have q4 := cell_later hb1 g2'))
          have hb2 := below_step hb.drew hb.size hb1
          clear q1 q2 q3 q4 hb1 g1 g2 g1' g2' hb
          go_wp2
          go_roundw
          case rel =>
            refine ⟨k + 1, by omega, by go_num, fun j hj => ?_, hb2⟩
            by_cases e : j = k
            · rw [e, ← HP.out, ← HQ.out]; exact HX.out
            · exact HA.out j (by omega)
          case measure => simp [intOf]; omega
        · have HD : Hid (decide (((x1, y1) : Int × Int) = (x2, y2)) = false) := decide_eq_false hxy
          have HX : Hid _ := hxy
          clear hxy
          go_wp2_with fail
          go_region_held3 (fun w' => w'.cell? ⟨b1, o1 + k * 2, none⟩ = some (.int .i64 x1) ∧ w'.cell? ⟨b1, o1 + k * 2 + 1, none⟩ = some (.int .i64 y1) ∧ w'.cell? ⟨b2, o2 + k * 2, none⟩ = some (.int .i64 x2) ∧ w'.cell? ⟨b2, o2 + k * 2 + 1, none⟩ = some (.int .i64 y2)) (go_keep) (first | (go_at_call 115; refine (eqBlock_is _ _ _ _ _ false HD.out).mono ?_; rintro e w1 ⟨rfl, hb1⟩; have q1 := cell_later hb1 g1; have q2 := cell_later hb1 g1'; have q3 := cell_later hb1 g2; have q4 := cell_later hb1 g2'))
          have hb2 := below_step hb.drew hb.size hb1
          have hne : ¬ xs = ys := fun e => HX.out (by rw [HP.out, HQ.out, e])
          have HN : Hid _ := hne
          clear q1 q2 q3 q4 hb1 g1 g2 g1' g2' hb hne
          go_wp2
          go_ret
          exact ⟨ret_bool (decide_eq_false HN.out).symm, hb2⟩
      · go_wp2
        go_ret
        have hall := HA.out
        rw [show k = n1 by omega] at hall
        exact ⟨ret_bool (decide_eq_true (eq_getD hx hy hall)).symm, hb⟩
  · have hb0 : ((n1 : Int) != (n2 : Int)) = true := by simp; omega
    have hne' : ¬ xs = ys := fun e => hne (by rw [← hx, ← hy, e])
    go_enter Try.func89, Try.ntmps89
    go_wp2
    go_ret
    exact ⟨ret_bool (decide_eq_false hne').symm, Below.refl _ _⟩

theorem eqBlocks_is {o1 o2 : Bool} {l1 u1 l2 u2 : Nat} (a1 a2 : Option Addr) (n1 c1 n2 c2 : Nat) (xs ys : List (Int × Int)) (w : World) (h1 : RowAt w o1 l1 u1 2 a1 n1 c1 (pairs xs)) (h2 : RowAt w o2 l2 u2 2 a2 n2 c2 (pairs ys)) (hn : n1 ≤ 2097152) (hm : n2 ≤ 2097152) (d : Bool) (hd : decide (xs = ys) = d) :
    Calls Try.prog 89 #[.slice a1 n1 c1, .slice a2 n2 c2] w fun e w' => e = .returned (.bool d) ∧ Below w.heap.size w w' := by
  rw [← hd]; exact eqBlocks_any a1 a2 n1 c1 n2 c2 xs ys w h1 h2 hn hm

section
variable (cd u : Int)
end

end Go.Proofs.Ytedgppggaceopaa
