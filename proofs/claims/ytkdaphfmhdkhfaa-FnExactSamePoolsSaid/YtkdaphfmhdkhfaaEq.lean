/- What the laws' comparisons answer. -/
import Derived.Test.YtkdaphfmhdkhfaaChecked
import Derived.Test.YtkdaphfmhdkhfaaBase
import Derived.WalkLawsBesides
import Derived.Deep.QuietTactic
import Derived.BigQuiet
import Derived.Deep.RegionHeld3
namespace Go.Proofs.Ytkdaphfmhdkhfaa
open Go.RowKit

set_option maxHeartbeats 400000 in
theorem eqInts_any {o1 o2 : Bool} {l1 u1 l2 u2 : Nat} (a1 a2 : Option Addr) (n1 c1 n2 c2 : Nat) (xs ys : List Int) (w : World) (h1 : RowAt w o1 l1 u1 1 a1 n1 c1 (ints xs)) (h2 : RowAt w o2 l2 u2 1 a2 n2 c2 (ints ys)) (hn : n1 ≤ 2097152) (hm : n2 ≤ 2097152) :
    Calls Try.prog 80 #[.slice a1 n1 c1, .slice a2 n2 c2] w fun e w' => e = .returned (.bool (decide (xs = ys))) ∧ Below w.heap.size w w' := by
  have hx := h1.nInts
  have hy := h2.nInts
  by_cases hne : n1 = n2
  · subst hne
    have hb0 : ((n1 : Int) != (n1 : Int)) = false := by simp
    go_enter Try.func80, Try.ntmps80
    go_wp2
    go_loopw [5] (fun i wr => ∃ k : Nat, k ≤ n1 ∧ i = .int .i64 k ∧ (∀ j, j < k → xs.getD j 0 = ys.getD j 0) ∧ Below w.heap.size w wr) (fun i _ => n1 - (intOf i).toNat)
    case atStart => exact ⟨0, Nat.zero_le _, rfl, fun j hj => absurd hj (Nat.not_lt_zero _), Below.refl _ _⟩
    case round =>
      obtain ⟨k, hk, rfl, hall0, hb⟩ := hrel
      have HA : Hid _ := hall0
      clear hall0
      by_cases hlt : k < n1
      · obtain ⟨b1, o1, rfl, _, _, hs1, e1, _⟩ := h1.int hlt
        obtain ⟨b2, o2, rfl, _, _, hs2, e2, _⟩ := h2.int hlt
        have g1 : wr.cell? ⟨b1, o1 + k, none⟩ = some (.int .i64 (xs.getD k 0)) := (hb.cell (p := ⟨b1, o1 + k, none⟩) hs1).trans e1
        have g2 : wr.cell? ⟨b2, o2 + k, none⟩ = some (.int .i64 (ys.getD k 0)) := (hb.cell (p := ⟨b2, o2 + k, none⟩) hs2).trans e2
        clear e1 e2
        by_cases hxy : xs.getD k 0 = ys.getD k 0
        · have HX : Hid _ := hxy
          rw [hxy] at g1
          clear hxy
          have hl : (k : Int) < (n1 : Int) := by omega
          generalize ys.getD k 0 = y at g1 g2
          have hyy : (y != y) = false := by simp
          go_wp2_with fail
          go_quiet (fail)
          go_wp2
          go_roundw
          case rel => 
            refine ⟨k + 1, by omega, by go_num, fun j hj => ?_, below_drewN hb _⟩
            by_cases e : j = k
            · rw [e]; exact HX.out
            · exact HA.out j (by omega)
          case measure => simp [intOf]; omega
        · have hl : (k : Int) < (n1 : Int) := by omega
          have hne : ¬ xs = ys := fun e => hxy (by rw [e])
          have HN : Hid _ := hne
          clear hne
          generalize ys.getD k 0 = y at *
          generalize xs.getD k 0 = x at *
          have hyy : (x != y) = true := by simp [hxy]
          clear hxy
          go_wp2_with fail
          go_quiet (fail)
          go_wp2
          go_ret
          exact ⟨ret_bool (decide_eq_false HN.out).symm, below_drewN hb _⟩
      · go_wp2
        go_ret
        have hall := HA.out
        rw [show k = n1 by omega] at hall
        exact ⟨ret_bool (decide_eq_true (eq_getD hx hy hall)).symm, hb⟩
  · have hb0 : ((n1 : Int) != (n2 : Int)) = true := by simp; omega
    have hne' : ¬ xs = ys := fun e => hne (by rw [← hx, ← hy, e])
    go_enter Try.func80, Try.ntmps80
    go_wp2
    go_ret
    exact ⟨ret_bool (decide_eq_false hne').symm, Below.refl _ _⟩

theorem eqPut_any (x1 y1 x2 y2 : Int) (w : World) :
    Calls Try.prog 258 #[.agg #[.int .i64 x1, .int .i64 y1], .agg #[.int .i64 x2, .int .i64 y2]] w fun e w' => e = .returned (.bool (decide (((x1, y1) : Int × Int) = (x2, y2)))) ∧ Below w.heap.size w w' := by
  by_cases h1 : x1 = x2 <;> by_cases h2 : y1 = y2
  · have hd : decide (((x1, y1) : Int × Int) = (x2, y2)) = true := by simp [h1, h2]
    have e1 : (x1 != x2) = false := by simp [h1]
    have e2 : (y1 != y2) = false := by simp [h2]
    rw [hd]
    clear h1 h2 hd
    go_enter Try.func258, Try.ntmps258
    go_wp2
    go_ret
    exact ⟨rfl, (((Below.refl _ _).alloc (Nat.le_refl _) _).alloc (by simp) _)⟩
  · have hd : decide (((x1, y1) : Int × Int) = (x2, y2)) = false := by simp [h2]
    have e1 : (x1 != x2) = false := by simp [h1]
    have e2 : (y1 != y2) = true := by simp [h2]
    rw [hd]
    clear h1 h2 hd
    go_enter Try.func258, Try.ntmps258
    go_wp2
    go_ret
    exact ⟨rfl, (((Below.refl _ _).alloc (Nat.le_refl _) _).alloc (by simp) _)⟩
  all_goals
    have hd : decide (((x1, y1) : Int × Int) = (x2, y2)) = false := by simp [h1]
    have e1 : (x1 != x2) = true := by simp [h1]
    rw [hd]
    clear h1 h2 hd
    go_enter Try.func258, Try.ntmps258
    go_wp2
    go_ret
    exact ⟨rfl, (((Below.refl _ _).alloc (Nat.le_refl _) _).alloc (by simp) _)⟩

theorem eqPut_is (x1 y1 x2 y2 : Int) (w : World) (d : Bool) (hd : decide (((x1, y1) : Int × Int) = (x2, y2)) = d) :
    Calls Try.prog 258 #[.agg #[.int .i64 x1, .int .i64 y1], .agg #[.int .i64 x2, .int .i64 y2]] w fun e w' => e = .returned (.bool d) ∧ Below w.heap.size w w' := by
  rw [← hd]; exact eqPut_any _ _ _ _ _

set_option maxHeartbeats 800000 in
theorem eqPuts_any {o1 o2 : Bool} {l1 u1 l2 u2 : Nat} (a1 a2 : Option Addr) (n1 c1 n2 c2 : Nat) (xs ys : List (Int × Int)) (w : World) (h1 : RowAt w o1 l1 u1 2 a1 n1 c1 (pairs xs)) (h2 : RowAt w o2 l2 u2 2 a2 n2 c2 (pairs ys)) (hn : n1 ≤ 2097152) (hm : n2 ≤ 2097152) :
    Calls Try.prog 187 #[.slice a1 n1 c1, .slice a2 n2 c2] w fun e w' => e = .returned (.bool (decide (xs = ys))) ∧ Below w.heap.size w w' := by
  have hx := h1.nPairs
  have hy := h2.nPairs
  by_cases hne : n1 = n2
  · subst hne
    have hb0 : ((n1 : Int) != (n1 : Int)) = false := by simp
    go_enter Try.func187, Try.ntmps187
    go_wp2
    go_loopw [5] (fun i wr => ∃ k : Nat, k ≤ n1 ∧ i = .int .i64 k ∧ (∀ j, j < k → xs.getD j (0, 0) = ys.getD j (0, 0)) ∧ Below w.heap.size w wr) (fun i _ => n1 - (intOf i).toNat)
    case atStart => exact ⟨0, Nat.zero_le _, rfl, fun j hj => absurd hj (Nat.not_lt_zero _), Below.refl _ _⟩
    case round =>
      obtain ⟨k, hk, rfl, hall0, hb⟩ := hrel
      have HA : Hid _ := hall0
      clear hall0
      by_cases hlt : k < n1
      · obtain ⟨b1, o1, rfl, _, _, hs1, e1, e1', _⟩ := h1.pair hlt
        obtain ⟨b2, o2, rfl, _, _, hs2, e2, e2', _⟩ := h2.pair hlt
        have g1 : wr.cell? ⟨b1, o1 + k * 2, none⟩ = some (.int .i64 (xs.getD k (0, 0)).1) := (hb.cell (p := ⟨b1, o1 + k * 2, none⟩) hs1).trans e1
        have g1' : wr.cell? ⟨b1, o1 + k * 2 + 1, none⟩ = some (.int .i64 (xs.getD k (0, 0)).2) := (hb.cell (p := ⟨b1, o1 + k * 2 + 1, none⟩) hs1).trans e1'
        have g2 : wr.cell? ⟨b2, o2 + k * 2, none⟩ = some (.int .i64 (ys.getD k (0, 0)).1) := (hb.cell (p := ⟨b2, o2 + k * 2, none⟩) hs2).trans e2
        have g2' : wr.cell? ⟨b2, o2 + k * 2 + 1, none⟩ = some (.int .i64 (ys.getD k (0, 0)).2) := (hb.cell (p := ⟨b2, o2 + k * 2 + 1, none⟩) hs2).trans e2'
        clear e1 e2 e1' e2'
        have hl : (k : Int) < (n1 : Int) := by omega
        obtain ⟨p, hp⟩ : ∃ p, p = xs.getD k (0, 0) := ⟨_, rfl⟩
        obtain ⟨q, hq⟩ : ∃ q, q = ys.getD k (0, 0) := ⟨_, rfl⟩
        rw [← hp] at g1 g1'
        rw [← hq] at g2 g2'
        have HP : Hid (p = xs.getD k (0, 0)) := hp
        have HQ : Hid (q = ys.getD k (0, 0)) := hq
        clear hp hq
        obtain ⟨x1, y1⟩ := p
        obtain ⟨x2, y2⟩ := q
        simp only [] at g1 g1' g2 g2'
        by_cases hxy : ((x1, y1) : Int × Int) = (x2, y2)
        · have HD : Hid (decide (((x1, y1) : Int × Int) = (x2, y2)) = true) := decide_eq_true hxy
          have HX : Hid _ := hxy
          clear hxy
          go_wp2_with fail
          go_region_held3 (fun w' => w'.cell? ⟨b1, o1 + k * 2, none⟩ = some (.int .i64 x1) ∧ w'.cell? ⟨b1, o1 + k * 2 + 1, none⟩ = some (.int .i64 y1) ∧ w'.cell? ⟨b2, o2 + k * 2, none⟩ = some (.int .i64 x2) ∧ w'.cell? ⟨b2, o2 + k * 2 + 1, none⟩ = some (.int .i64 y2)) (go_keep) (first | (go_at_call 258; refine (eqPut_is _ _ _ _ _ true HD.out).mono ?_; rintro e w1 ⟨rfl, hb1⟩; have q1 := cell_later hb1 g1; have q2 := cell_later hb1 g1'; have q3 := cell_later hb1 g2; have q4 := cell_later hb1 g2'))
          have hb2 := below_step hb.drew hb.size hb1
          clear q1 q2 q3 q4 hb1 g1 g2 g1' g2' hb
          go_wp2
          go_roundw
          case rel =>
            refine ⟨k + 1, by omega, by go_num, fun j hj => ?_, hb2⟩
            by_cases e : j = k
            · rw [e, ← HP.out, ← HQ.out]; exact HX.out
            · exact HA.out j (by omega)
          case measure => simp [intOf]; omega
        · have HD : Hid (decide (((x1, y1) : Int × Int) = (x2, y2)) = false) := decide_eq_false hxy
          have HX : Hid _ := hxy
          clear hxy
          go_wp2_with fail
          go_region_held3 (fun w' => w'.cell? ⟨b1, o1 + k * 2, none⟩ = some (.int .i64 x1) ∧ w'.cell? ⟨b1, o1 + k * 2 + 1, none⟩ = some (.int .i64 y1) ∧ w'.cell? ⟨b2, o2 + k * 2, none⟩ = some (.int .i64 x2) ∧ w'.cell? ⟨b2, o2 + k * 2 + 1, none⟩ = some (.int .i64 y2)) (go_keep) (first | (go_at_call 258; refine (eqPut_is _ _ _ _ _ false HD.out).mono ?_; rintro e w1 ⟨rfl, hb1⟩; have q1 := cell_later hb1 g1; have q2 := cell_later hb1 g1'; have q3 := cell_later hb1 g2; have q4 := cell_later hb1 g2'))
          have hb2 := below_step hb.drew hb.size hb1
          have hne : ¬ xs = ys := fun e => HX.out (by rw [HP.out, HQ.out, e])
          have HN : Hid _ := hne
          clear q1 q2 q3 q4 hb1 g1 g2 g1' g2' hb hne
          go_wp2
          go_ret
          exact ⟨ret_bool (decide_eq_false HN.out).symm, hb2⟩
      · go_wp2
        go_ret
        have hall := HA.out
        rw [show k = n1 by omega] at hall
        exact ⟨ret_bool (decide_eq_true (eq_getD hx hy hall)).symm, hb⟩
  · have hb0 : ((n1 : Int) != (n2 : Int)) = true := by simp; omega
    have hne' : ¬ xs = ys := fun e => hne (by rw [← hx, ← hy, e])
    go_enter Try.func187, Try.ntmps187
    go_wp2
    go_ret
    exact ⟨ret_bool (decide_eq_false hne').symm, Below.refl _ _⟩

theorem eqInts_is {o1 o2 : Bool} {l1 u1 l2 u2 : Nat} (a1 a2 : Option Addr) (n1 c1 n2 c2 : Nat) (xs ys : List Int) (w : World) (h1 : RowAt w o1 l1 u1 1 a1 n1 c1 (ints xs)) (h2 : RowAt w o2 l2 u2 1 a2 n2 c2 (ints ys)) (hn : n1 ≤ 2097152) (hm : n2 ≤ 2097152) (d : Bool) (hd : decide (xs = ys) = d) :
    Calls Try.prog 80 #[.slice a1 n1 c1, .slice a2 n2 c2] w fun e w' => e = .returned (.bool d) ∧ Below w.heap.size w w' := by
  rw [← hd]; exact eqInts_any a1 a2 n1 c1 n2 c2 xs ys w h1 h2 hn hm
theorem eqPuts_is {o1 o2 : Bool} {l1 u1 l2 u2 : Nat} (a1 a2 : Option Addr) (n1 c1 n2 c2 : Nat) (xs ys : List (Int × Int)) (w : World) (h1 : RowAt w o1 l1 u1 2 a1 n1 c1 (pairs xs)) (h2 : RowAt w o2 l2 u2 2 a2 n2 c2 (pairs ys)) (hn : n1 ≤ 2097152) (hm : n2 ≤ 2097152) (d : Bool) (hd : decide (xs = ys) = d) :
    Calls Try.prog 187 #[.slice a1 n1 c1, .slice a2 n2 c2] w fun e w' => e = .returned (.bool d) ∧ Below w.heap.size w w' := by
  rw [← hd]; exact eqPuts_any a1 a2 n1 c1 n2 c2 xs ys w h1 h2 hn hm

/-- two disks that hold the same are told to be equal -/
theorem eqDisk_yes {o1 o2 p1 p2 : Bool} {l1 u1 l2 u2 l3 u3 l4 u4 : Nat} (a1 a2 : Option Addr) (n1 c1 n2 c2 : Nat) (b1 b2 : Option Addr) (m1 d1 m2 d2 : Nat) (xs : List Int) (ys : List (Int × Int)) (w : World)
    (h1 : RowAt w o1 l1 u1 1 a1 n1 c1 (ints xs)) (h2 : RowAt w o2 l2 u2 2 a2 n2 c2 (pairs ys)) (g1 : RowAt w p1 l3 u3 1 b1 m1 d1 (ints xs)) (g2 : RowAt w p2 l4 u4 2 b2 m2 d2 (pairs ys)) (hn : n1 ≤ 2097152) (hm : n2 ≤ 2097152) :
    Calls Try.prog 76 #[.agg #[.slice a1 n1 c1, .slice a2 n2 c2], .agg #[.slice b1 m1 d1, .slice b2 m2 d2]] w fun e w' => e = .returned (.bool true) ∧ Below w.heap.size w w' := by
  have hm1 : m1 = n1 := by rw [← h1.nInts, ← g1.nInts]
  have hm2 : m2 = n2 := by rw [← h2.nPairs, ← g2.nPairs]
  subst hm1 hm2
  have B1 : Below w.heap.size w (w.alloc (.cells #[.slice a1 m1 c1, .slice a2 m2 c2] 27)) := (Below.refl _ _).alloc (Nat.le_refl _) _
  have B2 : Below w.heap.size w ((w.alloc (.cells #[.slice a1 m1 c1, .slice a2 m2 c2] 27)).alloc (.cells #[.slice b1 m1 d1, .slice b2 m2 d2] 27)) := B1.alloc (by simp) _
  go_enter Try.func76, Try.ntmps76
  go_wp2_with fail
  refine (eqInts_is _ _ _ _ _ _ xs xs _ (by exact h1.below B2) (by exact g1.below B2) hn hn true (by simp)).mono ?_
  rintro e w1 ⟨rfl, hb1⟩
  have B3 := below_next B2 hb1
  obtain ⟨hc, hf⟩ := bcell hb1
  go_wp2_with fail
  refine (eqPuts_is _ _ _ _ _ _ ys ys _ (by exact h2.below B3) (by exact g2.below B3) hm hm true (by simp)).mono ?_
  rintro e w2 ⟨rfl, hb2⟩
  have B4 := below_next B3 hb2
  clear hc hf hb1 hb2
  go_wp2
  go_ret
  exact ⟨rfl, B4⟩

end Go.Proofs.Ytkdaphfmhdkhfaa
