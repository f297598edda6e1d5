/- Chapter 5: rows, nodes and forests compared. -/
import Derived.Test.YtikjndmgljkhhaaYP
import Derived.Test.YtikjndmgljkhhaaZV
import Derived.Laws.StructEq
import Derived.BigQuiet
namespace Go.Proofs.Ytikjndmgljkhhaa
open Go.RowKit

theorem list_eq_of {α : Type} (d : α) {xs ys : List α} {n : Nat} (hx : xs.length = n) (hy : ys.length = n) (h : ∀ j, j < n → xs.getD j d = ys.getD j d) : xs = ys := by
  apply List.ext_getElem (by omega)
  intro j h1 h2
  have := h j (by omega)
  simpa [List.getD, h1, h2] using this

set_option maxRecDepth 20000 in
set_option maxHeartbeats 1000000 in
theorem numsEq_i {o1 o2 : Bool} {l1 u1 l2 u2 : Nat} (a1 : Option Addr) (n1 c1 : Nat) (a2 : Option Addr) (n2 c2 : Nat) (xs ys : List Int) (w : World) (h1 : RowAt w o1 l1 u1 1 a1 n1 c1 (ints xs)) (h2 : RowAt w o2 l2 u2 1 a2 n2 c2 (ints ys)) (hn : n1 ≤ 2097152) (hm : n2 ≤ 2097152) (d : Bool) (hd : decide (xs = ys) = d) :
    Calls Try.prog 166 #[.slice a1 n1 c1, .slice a2 n2 c2] w fun e w' => e = .returned (.bool d) ∧ Below w.heap.size w w' := by
  have hx := h1.nInts
  have hy := h2.nInts
  subst hd
  by_cases hne : n1 = n2
  · subst hne
    have hb0 : ((n1 : Int) != (n1 : Int)) = false := by simp
    go_enter Try.func166, Try.ntmps166
    go_wp2
    go_loopw [13] (fun i wr => ∃ k : Nat, k ≤ n1 ∧ i = .int .i64 k ∧ (∀ j, j < k → xs.getD j 0 = ys.getD j 0) ∧ Below w.heap.size w wr) (fun i _ => n1 - (intOf i).toNat)
    case atStart => exact ⟨0, Nat.zero_le _, rfl, fun j hj => absurd hj (Nat.not_lt_zero _), Below.refl _ _⟩
    case round =>
      obtain ⟨k, hk, rfl, hall, B⟩ := hrel
      have HA : Hid _ := hall
      clear hall
      by_cases hlt : k < n1
      · have hl : (k : Int) < (n1 : Int) := by omega
        have HN : Hid (xs.getD k 0 = ys.getD k 0 → ∀ j, j < k + 1 → xs.getD j 0 = ys.getD j 0) := fun h0 j hj => by
          by_cases e : j = k
          · rw [e]; exact h0
          · exact HA.out j (by omega)
        have HB : Hid (xs.getD k 0 ≠ ys.getD k 0 → decide (xs = ys) = false) := fun h0 => decide_eq_false fun e => h0 (by rw [e])
        obtain ⟨b1, o1, rfl, _, _, hs1, e1, _⟩ := h1.int hlt
        obtain ⟨b2, o2, rfl, _, _, hs2, e2, _⟩ := h2.int hlt
        replace e1 := (B.cell (p := ⟨b1, o1 + k, none⟩) hs1).trans e1
        replace e2 := (B.cell (p := ⟨b2, o2 + k, none⟩) hs2).trans e2
        obtain ⟨x, hx1⟩ : ∃ x, xs.getD k 0 = x := ⟨_, rfl⟩
        obtain ⟨y, hy1⟩ : ∃ y, ys.getD k 0 = y := ⟨_, rfl⟩
        rw [hx1] at e1 HN HB
        rw [hy1] at e2 HN HB
        clear hx1 hy1
        by_cases hxy : x = y
        · have hd0 : (x != y) = false := by simp [hxy]
          have HN2 : Hid _ := HN.out hxy
          clear HN HB hxy
          go_wp2_with fail
          go_quiet (fail)
          go_wp2
          go_roundw
          case rel => exact ⟨k + 1, by omega, by go_num, HN2.out, below_drewN B _⟩
          case measure => simp [intOf]; omega
        · have hd0 : (x != y) = true := by simp [hxy]
          have HF : Hid _ := HB.out hxy
          clear HN HB
          go_wp2_with fail
          go_quiet (fail)
          go_wp2
          go_ret
          exact ⟨by rw [HF.out]; rfl, below_drewN B _⟩
      · obtain rfl : k = n1 := by omega
        have HF : Hid (decide (xs = ys) = true) := decide_eq_true (list_eq_of 0 hx hy HA.out)
        go_wp2
        go_ret
        exact ⟨by rw [HF.out]; rfl, B⟩
  · have hb0 : ((n1 : Int) != (n2 : Int)) = true := by simp; omega
    have HF : Hid (decide (xs = ys) = false) := decide_eq_false fun e => hne (by rw [← hx, ← hy, e])
    go_enter Try.func166, Try.ntmps166
    go_wp2
    go_ret
    exact ⟨by rw [HF.out]; rfl, Below.refl _ _⟩

set_option maxRecDepth 20000 in
set_option maxHeartbeats 1000000 in
theorem blocksEq_i {o1 o2 : Bool} {l1 u1 l2 u2 : Nat} (a1 : Option Addr) (n1 c1 : Nat) (a2 : Option Addr) (n2 c2 : Nat) (xs ys : List (Int × Int)) (w : World) (h1 : RowAt w o1 l1 u1 2 a1 n1 c1 (pairs xs)) (h2 : RowAt w o2 l2 u2 2 a2 n2 c2 (pairs ys)) (hn : n1 ≤ 2097152) (hm : n2 ≤ 2097152) (d : Bool) (hd : decide (xs = ys) = d) :
    Calls Try.prog 104 #[.slice a1 n1 c1, .slice a2 n2 c2] w fun e w' => e = .returned (.bool d) ∧ Below w.heap.size w w' := by
  have hx := h1.nPairs
  have hy := h2.nPairs
  subst hd
  by_cases hne : n1 = n2
  · subst hne
    have hb0 : ((n1 : Int) != (n1 : Int)) = false := by simp
    go_enter Try.func104, Try.ntmps104
    go_wp2
    go_loopw [13] (fun i wr => ∃ k : Nat, k ≤ n1 ∧ i = .int .i64 k ∧ (∀ j, j < k → xs.getD j (0, 0) = ys.getD j (0, 0)) ∧ Below w.heap.size w wr) (fun i _ => n1 - (intOf i).toNat)
    case atStart => exact ⟨0, Nat.zero_le _, rfl, fun j hj => absurd hj (Nat.not_lt_zero _), Below.refl _ _⟩
    case round =>
      obtain ⟨k, hk, rfl, hall, B⟩ := hrel
      have HA : Hid _ := hall
      clear hall
      by_cases hlt : k < n1
      · have hl : (k : Int) < (n1 : Int) := by omega
        have HN : Hid (xs.getD k (0, 0) = ys.getD k (0, 0) → ∀ j, j < k + 1 → xs.getD j (0, 0) = ys.getD j (0, 0)) := fun h0 j hj => by
          by_cases e : j = k
          · rw [e]; exact h0
          · exact HA.out j (by omega)
        have HB : Hid (xs.getD k (0, 0) ≠ ys.getD k (0, 0) → decide (xs = ys) = false) := fun h0 => decide_eq_false fun e => h0 (by rw [e])
        obtain ⟨b1, o1, rfl, _, _, hs1, e1, e1', _⟩ := h1.pair hlt
        obtain ⟨b2, o2, rfl, _, _, hs2, e2, e2', _⟩ := h2.pair hlt
        replace e1 := (B.cell (p := ⟨b1, o1 + k * 2, none⟩) hs1).trans e1
        replace e1' := (B.cell (p := ⟨b1, o1 + k * 2 + 1, none⟩) hs1).trans e1'
        replace e2 := (B.cell (p := ⟨b2, o2 + k * 2, none⟩) hs2).trans e2
        replace e2' := (B.cell (p := ⟨b2, o2 + k * 2 + 1, none⟩) hs2).trans e2'
        obtain ⟨⟨x, x'⟩, hx1⟩ : ∃ x, xs.getD k (0, 0) = x := ⟨_, rfl⟩
        obtain ⟨⟨y, y'⟩, hy1⟩ : ∃ y, ys.getD k (0, 0) = y := ⟨_, rfl⟩
        rw [hx1] at e1 e1' HN HB
        rw [hy1] at e2 e2' HN HB
        simp only at e1 e1' e2 e2'
        clear hx1 hy1
        by_cases hxy : ((x, x') : Int × Int) = (y, y')
        · cases hxy
          have hxy : ((x, x') : Int × Int) = (x, x') := rfl
          have hd0 : (x == x) = true := by simp
          have hd1 : (x' == x') = true := by simp
          have HN2 : Hid _ := HN.out hxy
          clear HN HB hxy
          go_wp2_with fail
          go_quiet (fail)
          go_wp2
          go_roundw
          case rel => exact ⟨k + 1, by omega, by go_num, HN2.out, below_drewN B _⟩
          case measure => simp [intOf]; omega
        · by_cases hx2 : x = y
          · subst hx2
            have hd0 : (x == x) = true := by simp
            have hd1 : (x' == y') = false := by simp; exact fun e => hxy (by rw [e])
            have HF : Hid _ := HB.out hxy
            clear HN HB
            go_wp2_with fail
            go_quiet (fail)
            go_wp2
            go_ret
            exact ⟨by rw [HF.out]; rfl, below_drewN B _⟩
          · have hd0 : (x == y) = false := by simp [hx2]
            have HF : Hid _ := HB.out hxy
            clear HN HB
            go_wp2_with fail
            go_quiet (fail)
            go_wp2
            go_ret
            exact ⟨by rw [HF.out]; rfl, below_drewN B _⟩
      · obtain rfl : k = n1 := by omega
        have HF : Hid (decide (xs = ys) = true) := decide_eq_true (list_eq_of (0, 0) hx hy HA.out)
        go_wp2
        go_ret
        exact ⟨by rw [HF.out]; rfl, B⟩
  · have hb0 : ((n1 : Int) != (n2 : Int)) = true := by simp; omega
    have HF : Hid (decide (xs = ys) = false) := decide_eq_false fun e => hne (by rw [← hx, ← hy, e])
    go_enter Try.func104, Try.ntmps104
    go_wp2
    go_ret
    exact ⟨by rw [HF.out]; rfl, Below.refl _ _⟩

end Go.Proofs.Ytikjndmgljkhhaa

/- Chapter 5: nodes, forests and pools compared by the program. -/
namespace Go.Proofs.Ytikjndmgljkhhaa
open Go.RowKit

set_option maxRecDepth 20000 in
set_option maxHeartbeats 1000000 in
theorem sameNodes_is {o1 o2 : Bool} {l1 u1 l2 u2 : Nat} (r : Int) (lf : Bool) (ka : Option Addr) (kn kc : Nat) (ks : List Int) (r' : Int) (lf' : Bool) (qa : Option Addr) (qn qc : Nat) (qs : List Int) (w : World) (h1 : RowAt w o1 l1 u1 1 ka kn kc (ints ks)) (h2 : RowAt w o2 l2 u2 1 qa qn qc (ints qs)) (hn : kn ≤ 2097152) (hm : qn ≤ 2097152) (d : Bool) (hd : decide (((r, lf, ks) : Nd) = (r', lf', qs)) = d) :
    Calls Try.prog 103 #[.agg #[.int .i64 r, .bool lf, .slice ka kn kc], .agg #[.int .i64 r', .bool lf', .slice qa qn qc]] w fun e w' => e = .returned (.bool d) ∧ Below w.heap.size w w' := by
  have A : Below w.heap.size w ((w.alloc (.cells #[.int .i64 r, .bool lf, .slice ka kn kc] 148)).alloc (.cells #[.int .i64 r', .bool lf', .slice qa qn qc] 148)) := ((Below.refl _ _).alloc (Nat.le_refl _) _).alloc (by simp) _
  subst hd
  by_cases hr : r = r'
  · subst hr
    have hd0 : (r == r) = true := by simp
    by_cases hlf : lf = lf'
    · subst hlf
      have hd1 : (lf == lf) = true := by simp
      have HE : Hid (decide (((r, lf, ks) : Nd) = (r, lf, qs)) = decide (ks = qs)) := by show _ = _; simp
      obtain ⟨dd, hdd⟩ : ∃ dd, decide (ks = qs) = dd := ⟨_, rfl⟩
      rw [HE.out, hdd]
      have HD : Hid _ := hdd
      clear HE hdd
      go_enter Try.func103, Try.ntmps103
      go_wp2_with fail
      refine (numsEq_i ka kn kc qa qn qc ks qs _ (h1.below A) (h2.below A) hn hm dd HD.out).mono ?_
      rintro e w1 ⟨rfl, B1⟩
      replace B1 := below_next A B1
      clear A
      go_wp2
      go_ret
      exact ⟨rfl, B1⟩
    · have hd1 : (lf == lf') = false := by simp [hlf]
      have HE : Hid (decide (((r, lf, ks) : Nd) = (r, lf', qs)) = false) := decide_eq_false fun e => hlf (by injection e with _ e; injection e)
      go_enter Try.func103, Try.ntmps103
      go_wp2
      go_ret
      exact ⟨by rw [HE.out]; rfl, A⟩
  · have hd0 : (r == r') = false := by simp [hr]
    have HE : Hid (decide (((r, lf, ks) : Nd) = (r', lf', qs)) = false) := decide_eq_false fun e => hr (by injection e)
    go_enter Try.func103, Try.ntmps103
    go_wp2
    go_ret
    exact ⟨by rw [HE.out]; rfl, A⟩

set_option maxRecDepth 20000 in
set_option maxHeartbeats 1000000 in
theorem nodesEq_i {o1 o2 : Bool} {l1 u1 l2 u2 : Nat} (a1 : Option Addr) (n1 c1 : Nat) (a2 : Option Addr) (n2 c2 : Nat) (K1 K2 : Nat → KS) (xs ys : List Nd) (w : World) (h1 : NodesAt w o1 l1 u1 a1 n1 c1 K1 xs) (h2 : NodesAt w o2 l2 u2 a2 n2 c2 K2 ys) (hn : n1 ≤ 2097152) (hm : n2 ≤ 2097152) (hk1 : ∀ i, i < n1 → (K1 i).2.1 ≤ 2097152) (hk2 : ∀ i, i < n2 → (K2 i).2.1 ≤ 2097152) (d : Bool) (hd : decide (xs = ys) = d) :
    Calls Try.prog 102 #[.slice a1 n1 c1, .slice a2 n2 c2, .func (.func 103) #[] #[]] w fun e w' => e = .returned (.bool d) ∧ Below w.heap.size w w' := by
  have hx := h1.len
  have hy := h2.len
  subst hd
  by_cases hne : n1 = n2
  · subst hne
    have hb0 : ((n1 : Int) != (n1 : Int)) = false := by simp
    have HK1 : Hid _ := hk1
    have HK2 : Hid _ := hk2
    clear hk1 hk2
    go_enter Try.func102, Try.ntmps102
    go_wp2
    go_loopw [17] (fun i wr => ∃ k : Nat, k ≤ n1 ∧ i = .int .i64 k ∧ (∀ j, j < k → xs.getD j nd0 = ys.getD j nd0) ∧ Below w.heap.size w wr) (fun i _ => n1 - (intOf i).toNat)
    case atStart => exact ⟨0, Nat.zero_le _, rfl, fun j hj => absurd hj (Nat.not_lt_zero _), Below.refl _ _⟩
    case round =>
      obtain ⟨k, hk, rfl, hall, B⟩ := hrel
      have HA : Hid _ := hall
      clear hall
      by_cases hlt : k < n1
      · have hl : (k : Int) < (n1 : Int) := by omega
        have HN : Hid (xs.getD k nd0 = ys.getD k nd0 → ∀ j, j < k + 1 → xs.getD j nd0 = ys.getD j nd0) := fun h0 j hj => by
          by_cases e : j = k
          · rw [e]; exact h0
          · exact HA.out j (by omega)
        have HB : Hid (xs.getD k nd0 ≠ ys.getD k nd0 → decide (xs = ys) = false) := fun h0 => decide_eq_false fun e => h0 (by rw [e])
        have r1 := (h1.below B).kids k hlt
        have r2 := (h2.below B).kids k hlt
        have q1 := HK1.out k hlt
        have q2 := HK2.out k hlt
        obtain ⟨b1, o1, rfl, _, _, hs1, e1, e1', e1'', _⟩ := (h1.below B).node hlt
        obtain ⟨b2, o2, rfl, _, _, hs2, e2, e2', e2'', _⟩ := (h2.below B).node hlt
        obtain ⟨⟨r, lf, ks⟩, hx1⟩ : ∃ x, xs.getD k nd0 = x := ⟨_, rfl⟩
        obtain ⟨⟨r', lf', qs⟩, hy1⟩ : ∃ y, ys.getD k nd0 = y := ⟨_, rfl⟩
        obtain ⟨⟨ka, kn, kc⟩, hw1⟩ : ∃ x, K1 k = x := ⟨_, rfl⟩
        obtain ⟨⟨qa, qn, qc⟩, hw2⟩ : ∃ x, K2 k = x := ⟨_, rfl⟩
        rw [hx1] at e1 e1' HN HB r1
        rw [hy1] at e2 e2' HN HB r2
        rw [hw1] at e1'' r1 q1
        rw [hw2] at e2'' r2 q2
        simp only at e1 e1' e1'' e2 e2' e2'' r1 r2 q1 q2
        clear hx1 hy1 hw1 hw2
        obtain ⟨dd, hdd⟩ : ∃ dd, decide (((r, lf, ks) : Nd) = (r', lf', qs)) = dd := ⟨_, rfl⟩
        have A : Below wr.heap.size wr ((wr.alloc (.cells #[.int .i64 r, .bool lf, .slice ka kn kc] 148)).alloc (.cells #[.int .i64 r', .bool lf', .slice qa qn qc] 148)) := ((Below.refl _ _).alloc (Nat.le_refl _) _).alloc (by simp) _
        have A1 : Below wr.heap.size wr (wr.alloc (.cells #[.int .i64 r, .bool lf, .slice ka kn kc] 148)) := (Below.refl _ _).alloc (Nat.le_refl _) _
        have f2 := cell_later A1 e2
        have f2' := cell_later A1 e2'
        have f2'' := cell_later A1 e2''
        clear A1
        go_wp2_with fail
        refine (sameNodes_is r lf ka kn kc ks r' lf' qa qn qc qs _ (r1.below A) (r2.below A) q1 q2 dd hdd).mono ?_
        rintro e w1 ⟨rfl, B1⟩
        replace B := below_step (below_step B B.size A) (below_step B B.size A).size B1
        clear B1 A e1 e1' e1'' e2 e2' e2'' f2 f2' f2'' r1 r2
        cases dd with
        | true =>
          have HN2 : Hid _ := HN.out (of_decide_eq_true hdd)
          clear HN HB hdd
          go_wp2
          go_roundw
          case rel => exact ⟨k + 1, by omega, by go_num, HN2.out, B⟩
          case measure => simp [intOf]; omega
        | false =>
          have HF : Hid _ := HB.out (of_decide_eq_false hdd)
          clear HN HB hdd
          go_wp2
          go_ret
          exact ⟨by rw [HF.out]; rfl, B⟩
      · obtain rfl : k = n1 := by omega
        have HF : Hid (decide (xs = ys) = true) := decide_eq_true (list_eq_of nd0 hx hy HA.out)
        go_wp2
        go_ret
        exact ⟨by rw [HF.out]; rfl, B⟩
  · have hb0 : ((n1 : Int) != (n2 : Int)) = true := by simp; omega
    have HF : Hid (decide (xs = ys) = false) := decide_eq_false fun e => hne (by rw [← hx, ← hy, e])
    go_enter Try.func102, Try.ntmps102
    go_wp2
    go_ret
    exact ⟨by rw [HF.out]; rfl, Below.refl _ _⟩

set_option maxRecDepth 20000 in
set_option maxHeartbeats 1000000 in
theorem sameForests_is {o1 o2 : Bool} {l1 u1 l2 u2 : Nat} (an1 : Option Addr) (n1 cn1 : Nat) (ab1 : Option Addr) (m1 cb1 : Nat) (an2 : Option Addr) (n2 cn2 : Nat) (ab2 : Option Addr) (m2 cb2 : Nat) (K1 K2 : Nat → KS) (f g : Fo) (w : World) (h1 : FoAt w o1 l1 u1 an1 n1 cn1 ab1 m1 cb1 K1 f) (h2 : FoAt w o2 l2 u2 an2 n2 cn2 ab2 m2 cb2 K2 g) (hn : n1 ≤ 2097152) (hm : m1 ≤ 2097152) (hk1 : ∀ i, i < n1 → (K1 i).2.1 ≤ 2097152) (hn2 : n2 ≤ 2097152) (hm2 : m2 ≤ 2097152) (hk2 : ∀ i, i < n2 → (K2 i).2.1 ≤ 2097152) (d : Bool) (hd : decide (f = g) = d) :
    Calls Try.prog 46 #[.agg #[.slice an1 n1 cn1, .slice ab1 m1 cb1], .agg #[.slice an2 n2 cn2, .slice ab2 m2 cb2]] w fun e w' => e = .returned (.bool d) ∧ Below w.heap.size w w' := by
  have A : Below w.heap.size w ((w.alloc (.cells #[.slice an1 n1 cn1, .slice ab1 m1 cb1] 28)).alloc (.cells #[.slice an2 n2 cn2, .slice ab2 m2 cb2] 28)) := ((Below.refl _ _).alloc (Nat.le_refl _) _).alloc (by simp) _
  have z1 : ((w.alloc (.cells #[.slice an1 n1 cn1, .slice ab1 m1 cb1] 28)).alloc (.cells #[.slice an2 n2 cn2, .slice ab2 m2 cb2] 28)).cell? ⟨w.heap.size, 1, none⟩ = some (.slice ab1 m1 cb1) := by simp
  have z2 : ((w.alloc (.cells #[.slice an1 n1 cn1, .slice ab1 m1 cb1] 28)).alloc (.cells #[.slice an2 n2 cn2, .slice ab2 m2 cb2] 28)).cell? ⟨w.heap.size + 1, 1, none⟩ = some (.slice ab2 m2 cb2) := by simp
  subst hd
  obtain ⟨ns, bs⟩ := f
  obtain ⟨ms, cs⟩ := g
  have HE : Hid (decide (((ns, bs) : Fo) = (ms, cs)) = (decide (ns = ms) && decide (bs = cs))) := by show _ = _; rw [← Bool.decide_and]; simp
  obtain ⟨dd, hdd⟩ : ∃ dd, decide (ns = ms) = dd := ⟨_, rfl⟩
  obtain ⟨de, hde⟩ : ∃ de, decide (bs = cs) = de := ⟨_, rfl⟩
  rw [HE.out, hdd, hde]
  have HD : Hid _ := hdd
  have H2 : Hid _ := hde
  clear HE hdd hde
  go_enter Try.func46, Try.ntmps46
  go_wp2_with fail
  refine (nodesEq_i an1 n1 cn1 an2 n2 cn2 K1 K2 ns ms _ (h1.nodes.below A) (h2.nodes.below A) hn hn2 hk1 hk2 dd HD.out).mono ?_
  rintro e w1 ⟨rfl, B1⟩
  replace z1 := cell_later B1 z1
  replace z2 := cell_later B1 z2
  replace A := below_next A B1
  clear B1
  cases dd with
  | false =>
    go_wp2
    go_ret
    exact ⟨rfl, A⟩
  | true =>
    go_wp2_with fail
    refine (blocksEq_i ab1 m1 cb1 ab2 m2 cb2 bs cs _ (h1.blocks.below A) (h2.blocks.below A) hm hm2 de H2.out).mono ?_
    rintro e w2 ⟨rfl, B1⟩
    replace A := below_next A B1
    clear B1 z1 z2
    go_wp2
    go_ret
    exact ⟨by simp, A⟩

set_option maxRecDepth 20000 in
set_option maxHeartbeats 2000000 in
theorem implSame_is {o1 o2 : Bool} {l1 u1 l2 u2 : Nat} (an1 : Option Addr) (n1 cn1 : Nat) (ab1 : Option Addr) (m1 cb1 : Nat) (an2 : Option Addr) (n2 cn2 : Nat) (ab2 : Option Addr) (m2 cb2 : Nat) (av1 : Option Addr) (k1 cv1 : Nat) (av2 : Option Addr) (k2 cv2 : Nat) (K1 K2 : Nat → KS) (f g : Fo) (vs us : List Vo) (w : World) (h1 : FoAt w o1 l1 u1 an1 n1 cn1 ab1 m1 cb1 K1 f) (h2 : FoAt w o2 l2 u2 an2 n2 cn2 ab2 m2 cb2 K2 g) {o3 o4 : Bool} {l3 u3 l4 u4 : Nat} (v1 : RowAt w o3 l3 u3 3 av1 k1 cv1 (trips vs)) (v2 : RowAt w o4 l4 u4 3 av2 k2 cv2 (trips us)) (hq1 : k1 ≤ 2097152) (hq2 : k2 ≤ 2097152) (hn : n1 ≤ 2097152) (hm : m1 ≤ 2097152) (hk1 : ∀ i, i < n1 → (K1 i).2.1 ≤ 2097152) (hn2 : n2 ≤ 2097152) (hm2 : m2 ≤ 2097152) (hk2 : ∀ i, i < n2 → (K2 i).2.1 ≤ 2097152) (d : Bool) (hd : (decide (f = g) && decide (vs = us)) = d) :
    Calls Try.prog 14 #[.agg #[.slice an1 n1 cn1, .slice ab1 m1 cb1, .slice av1 k1 cv1], .agg #[.slice an2 n2 cn2, .slice ab2 m2 cb2, .slice av2 k2 cv2]] w fun e w' => e = .returned (.bool d) ∧ Below w.heap.size w w' := by
  have hx := v1.nTrips
  have hy := v2.nTrips
  have A : Below w.heap.size w ((w.alloc (.cells #[.slice an1 n1 cn1, .slice ab1 m1 cb1, .slice av1 k1 cv1] 31)).alloc (.cells #[.slice an2 n2 cn2, .slice ab2 m2 cb2, .slice av2 k2 cv2] 31)) := ((Below.refl _ _).alloc (Nat.le_refl _) _).alloc (by simp) _
  have z1 : ((w.alloc (.cells #[.slice an1 n1 cn1, .slice ab1 m1 cb1, .slice av1 k1 cv1] 31)).alloc (.cells #[.slice an2 n2 cn2, .slice ab2 m2 cb2, .slice av2 k2 cv2] 31)).cell? ⟨w.heap.size, 2, none⟩ = some (.slice av1 k1 cv1) := by simp
  have z2 : ((w.alloc (.cells #[.slice an1 n1 cn1, .slice ab1 m1 cb1, .slice av1 k1 cv1] 31)).alloc (.cells #[.slice an2 n2 cn2, .slice ab2 m2 cb2, .slice av2 k2 cv2] 31)).cell? ⟨w.heap.size + 1, 2, none⟩ = some (.slice av2 k2 cv2) := by simp
  subst hd
  by_cases hne : k1 = k2
  rotate_left 1
  · have hb0 : ((k1 : Int) != (k2 : Int)) = true := by simp; omega
    have HF : Hid (decide (vs = us) = false) := decide_eq_false fun e => hne (by rw [← hx, ← hy, e])
    go_enter Try.func14, Try.ntmps14
    go_wp2
    go_ret
    exact ⟨by rw [HF.out, Bool.and_false]; rfl, A⟩
  subst hne
  have hb0 : ((k1 : Int) != (k1 : Int)) = false := by simp
  obtain ⟨dd, hdd⟩ : ∃ dd, decide (f = g) = dd := ⟨_, rfl⟩
  rw [hdd]
  have HD : Hid _ := hdd
  clear hdd
  go_enter Try.func14, Try.ntmps14
  go_wp2_with fail
  refine (sameForests_is an1 n1 cn1 ab1 m1 cb1 an2 n2 cn2 ab2 m2 cb2 K1 K2 f g _ (h1.below A) (h2.below A) hn hm hk1 hn2 hm2 hk2 dd HD.out).mono ?_
  rintro e w1 ⟨rfl, B1⟩
  replace z1 := cell_later B1 z1
  replace z2 := cell_later B1 z2
  replace A := below_next A B1
  clear B1
  cases dd with
  | false =>
    go_wp2
    go_ret
    exact ⟨rfl, A⟩
  | true =>
    obtain ⟨bx, hbx⟩ : ∃ bx, w.heap.size + 1 = bx := ⟨_, rfl⟩
    rw [hbx] at z2
    go_wp2
    try simp only [hbx]
    clear hbx
    go_loopw [25] (fun i wr => ∃ k : Nat, k ≤ k1 ∧ i = .int .i64 k ∧ (∀ j, j < k → vs.getD j vo0 = us.getD j vo0) ∧ Below w1.heap.size w1 wr) (fun i _ => k1 - (intOf i).toNat)
    case atStart => exact ⟨0, Nat.zero_le _, rfl, fun j hj => absurd hj (Nat.not_lt_zero _), Below.refl _ _⟩
    case round =>
      obtain ⟨k, hk, rfl, hall, C⟩ := hrel
      have HA : Hid _ := hall
      clear hall
      replace z2 := cell_later C z2
      have B := below_step A A.size C
      by_cases hlt : k < k1
      · have hl : (k : Int) < (k1 : Int) := by omega
        have HN : Hid (vs.getD k vo0 = us.getD k vo0 → ∀ j, j < k + 1 → vs.getD j vo0 = us.getD j vo0) := fun h0 j hj => by
          by_cases e : j = k
          · rw [e]; exact h0
          · exact HA.out j (by omega)
        have HB : Hid (vs.getD k vo0 ≠ us.getD k vo0 → decide (vs = us) = false) := fun h0 => decide_eq_false fun e => h0 (by rw [e])
        obtain ⟨b1, o1, rfl, _, _, hs1, e1, e2, e3, _⟩ := (v1.below B).trip hlt
        obtain ⟨b2, o2, rfl, _, _, hs2, f1, f2, f3, _⟩ := (v2.below B).trip hlt
        obtain ⟨⟨x, y, z⟩, hx1⟩ : ∃ x, vs.getD k vo0 = x := ⟨_, rfl⟩
        obtain ⟨⟨x', y', z'⟩, hy1⟩ : ∃ y, us.getD k vo0 = y := ⟨_, rfl⟩
        rw [hx1] at e1 e2 e3 HN HB
        rw [hy1] at f1 f2 f3 HN HB
        simp only at e1 e2 e3 f1 f2 f3
        clear hx1 hy1
        have A1 : Below wr.heap.size wr (wr.alloc (.cells #[.int .i64 x, .int .i64 y, .int .i64 z] 92)) := (Below.refl _ _).alloc (Nat.le_refl _) _
        replace f1 := cell_later A1 f1
        replace f2 := cell_later A1 f2
        replace f3 := cell_later A1 f3
        have z2' := cell_later A1 z2
        have g1 : (wr.alloc (.cells #[.int .i64 x, .int .i64 y, .int .i64 z] 92)).cell? ⟨wr.heap.size, 0, none⟩ = some (.int .i64 x) := by simp
        have g2 : (wr.alloc (.cells #[.int .i64 x, .int .i64 y, .int .i64 z] 92)).cell? ⟨wr.heap.size, 1, none⟩ = some (.int .i64 y) := by simp
        have g3 : (wr.alloc (.cells #[.int .i64 x, .int .i64 y, .int .i64 z] 92)).cell? ⟨wr.heap.size, 2, none⟩ = some (.int .i64 z) := by simp
        have C2 := below_next C A1
        have B2 := below_step B B.size A1
        clear A1
        by_cases hxy : ((x, y, z) : Vo) = (x', y', z')
        · cases hxy
          have hd0 : (x == x) = true := by simp
          have hd1 : (y == y) = true := by simp
          have hd2 : (z == z) = true := by simp
          have HN2 : Hid _ := HN.out rfl
          clear HN HB
          go_wp2_with fail
          go_quiet (fail)
          go_wp2
          go_roundw
          case rel => exact ⟨k + 1, by omega, by go_num, HN2.out, below_drewN C2 _⟩
          case measure => simp [intOf]; omega
        · have HF : Hid _ := HB.out hxy
          clear HN HB
          by_cases hx2 : x = x'
          · subst hx2
            have hd0 : (x == x) = true := by simp
            by_cases hy2 : y = y'
            · subst hy2
              have hd1 : (y == y) = true := by simp
              have hd2 : (z == z') = false := by simp; exact fun e => hxy (by rw [e])
              go_wp2_with fail
              go_quiet (fail)
              go_wp2
              go_ret
              exact ⟨by rw [HF.out]; rfl, below_drewN B2 _⟩
            · have hd1 : (y == y') = false := by simp [hy2]
              go_wp2_with fail
              go_quiet (fail)
              go_wp2
              go_ret
              exact ⟨by rw [HF.out]; rfl, below_drewN B2 _⟩
          · have hd0 : (x == x') = false := by simp [hx2]
            go_wp2_with fail
            go_quiet (fail)
            go_wp2
            go_ret
            exact ⟨by rw [HF.out]; rfl, below_drewN B2 _⟩
      · obtain rfl : k = k1 := by omega
        have HF : Hid (decide (vs = us) = true) := decide_eq_true (list_eq_of vo0 hx hy HA.out)
        go_wp2
        go_ret
        exact ⟨by rw [HF.out]; rfl, B⟩

end Go.Proofs.Ytikjndmgljkhhaa
