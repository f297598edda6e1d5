/- Chapter 6: rows of triples and plain pools compared. -/
import Derived.Test.YtikjndmgljkhhaaPPl
import Derived.Test.YtikjndmgljkhhaaYS
import Derived.BigQuiet
namespace Go.Proofs.Ytikjndmgljkhhaa
open Go.RowKit

def samePl (bl : Int) (vs ce : List Vo) (bl2 : Int) (vs2 ce2 : List Vo) : Bool := decide (bl = bl2) && decide (vs = vs2) && decide (ce = ce2)
set_option maxRecDepth 20000 in
set_option maxHeartbeats 1000000 in
theorem volsEq_i {o1 o2 : Bool} {l1 u1 l2 u2 : Nat} (a1 : Option Addr) (n1 c1 : Nat) (a2 : Option Addr) (n2 c2 : Nat) (xs ys : List Vo) (w : World) (h1 : RowAt w o1 l1 u1 3 a1 n1 c1 (trips xs)) (h2 : RowAt w o2 l2 u2 3 a2 n2 c2 (trips ys)) (hq1 : n1 ≤ 2097152) (hq2 : n2 ≤ 2097152) (d : Bool) (hd : decide (xs = ys) = d) :
    Calls Try.prog 84 #[.slice a1 n1 c1, .slice a2 n2 c2] w fun e w' => e = .returned (.bool d) ∧ Below w.heap.size w w' := by
  have hx := h1.nTrips
  have hy := h2.nTrips
  subst hd
  by_cases hne : n1 = n2
  · subst hne
    have hb0 : ((n1 : Int) != (n1 : Int)) = false := by simp
    go_enter Try.func84, Try.ntmps84
    go_wp2
    go_loopw [13] (fun i wr => ∃ k : Nat, k ≤ n1 ∧ i = .int .i64 k ∧ (∀ j, j < k → xs.getD j vo0 = ys.getD j vo0) ∧ Below w.heap.size w wr) (fun i _ => n1 - (intOf i).toNat)
    case atStart => exact ⟨0, Nat.zero_le _, rfl, fun j hj => absurd hj (Nat.not_lt_zero _), Below.refl _ _⟩
    case round =>
      obtain ⟨k, hk, rfl, hall, B⟩ := hrel
      have HA : Hid _ := hall
      clear hall
      by_cases hlt : k < n1
      · skip
        have hl : (k : Int) < (n1 : Int) := by omega
        have HN : Hid (xs.getD k vo0 = ys.getD k vo0 → ∀ j, j < k + 1 → xs.getD j vo0 = ys.getD j vo0) := fun h0 j hj => by
          by_cases e : j = k
          · rw [e]; exact h0
          · exact HA.out j (by omega)
        have HB : Hid (xs.getD k vo0 ≠ ys.getD k vo0 → decide (xs = ys) = false) := fun h0 => decide_eq_false fun e => h0 (by rw [e])
        obtain ⟨b1, o1, rfl, _, _, hs1, e1, e1', e1'', _⟩ := h1.trip hlt
        obtain ⟨b2, o2, rfl, _, _, hs2, e2, e2', e2'', _⟩ := h2.trip hlt
        replace e1 := (B.cell (p := ⟨b1, o1 + k * 3, none⟩) hs1).trans e1
        replace e1' := (B.cell (p := ⟨b1, o1 + k * 3 + 1, none⟩) hs1).trans e1'
        replace e1'' := (B.cell (p := ⟨b1, o1 + k * 3 + 2, none⟩) hs1).trans e1''
        replace e2 := (B.cell (p := ⟨b2, o2 + k * 3, none⟩) hs2).trans e2
        replace e2' := (B.cell (p := ⟨b2, o2 + k * 3 + 1, none⟩) hs2).trans e2'
        replace e2'' := (B.cell (p := ⟨b2, o2 + k * 3 + 2, none⟩) hs2).trans e2''
        obtain ⟨⟨x, x', x''⟩, hx1⟩ : ∃ x, xs.getD k vo0 = x := ⟨_, rfl⟩
        obtain ⟨⟨y, y', y''⟩, hy1⟩ : ∃ y, ys.getD k vo0 = y := ⟨_, rfl⟩
        rw [hx1] at e1 e1' e1'' HN HB
        rw [hy1] at e2 e2' e2'' HN HB
        simp only at e1 e1' e1'' e2 e2' e2''
        clear hx1 hy1
        by_cases hxy : ((x, x', x'') : Vo) = (y, y', y'')
        · cases hxy
          have hxy : ((x, x', x'') : Vo) = (x, x', x'') := rfl
          have hd0 : (x == x) = true := by simp
          have hd1 : (x' == x') = true := by simp
          have hd2 : (x'' == x'') = true := by simp
          have HN2 : Hid _ := HN.out hxy
          clear HN HB hxy
          go_wp2_with fail
          go_quiet (fail)
          go_wp2
          go_roundw
          case rel => exact ⟨k + 1, by omega, by go_num, HN2.out, below_drewN B _⟩
          case measure => simp [intOf]; omega
        · have HF : Hid _ := HB.out hxy
          clear HN HB
          by_cases hx2 : x = y
          · subst hx2
            have hd0 : (x == x) = true := by simp
            by_cases hx3 : x' = y'
            · subst hx3
              have hd1 : (x' == x') = true := by simp
              have hd2 : (x'' == y'') = false := by simp; exact fun e => hxy (by rw [e])
              go_wp2_with fail
              go_quiet (fail)
              go_wp2
              go_ret
              exact ⟨by rw [HF.out]; rfl, below_drewN B _⟩
            · have hd1 : (x' == y') = false := by simp [hx3]
              go_wp2_with fail
              go_quiet (fail)
              go_wp2
              go_ret
              exact ⟨by rw [HF.out]; rfl, below_drewN B _⟩
          · have hd0 : (x == y) = false := by simp [hx2]
            go_wp2_with fail
            go_quiet (fail)
            go_wp2
            go_ret
            exact ⟨by rw [HF.out]; rfl, below_drewN B _⟩
      · obtain rfl : k = n1 := by omega
        have HF : Hid (decide (xs = ys) = true) := decide_eq_true (list_eq_of vo0 hx hy HA.out)
        go_wp2
        go_ret
        exact ⟨by rw [HF.out]; rfl, B⟩
  · have hb0 : ((n1 : Int) != (n2 : Int)) = true := by simp; omega
    have HF : Hid (decide (xs = ys) = false) := decide_eq_false fun e => hne (by rw [← hx, ← hy, e])
    go_enter Try.func84, Try.ntmps84
    go_wp2
    go_ret
    exact ⟨by rw [HF.out]; rfl, Below.refl _ _⟩

set_option maxRecDepth 20000 in
set_option maxHeartbeats 1000000 in
theorem cellsEq_i {o1 o2 : Bool} {l1 u1 l2 u2 : Nat} (a1 : Option Addr) (n1 c1 : Nat) (a2 : Option Addr) (n2 c2 : Nat) (xs ys : List Vo) (w : World) (h1 : RowAt w o1 l1 u1 3 a1 n1 c1 (trips xs)) (h2 : RowAt w o2 l2 u2 3 a2 n2 c2 (trips ys)) (hq1 : n1 ≤ 2097152) (hq2 : n2 ≤ 2097152) (d : Bool) (hd : decide (xs = ys) = d) :
    Calls Try.prog 85 #[.slice a1 n1 c1, .slice a2 n2 c2] w fun e w' => e = .returned (.bool d) ∧ Below w.heap.size w w' := by
  have hx := h1.nTrips
  have hy := h2.nTrips
  subst hd
  by_cases hne : n1 = n2
  · subst hne
    have hb0 : ((n1 : Int) != (n1 : Int)) = false := by simp
    go_enter Try.func85, Try.ntmps85
    go_wp2
    go_loopw [13] (fun i wr => ∃ k : Nat, k ≤ n1 ∧ i = .int .i64 k ∧ (∀ j, j < k → xs.getD j vo0 = ys.getD j vo0) ∧ Below w.heap.size w wr) (fun i _ => n1 - (intOf i).toNat)
    case atStart => exact ⟨0, Nat.zero_le _, rfl, fun j hj => absurd hj (Nat.not_lt_zero _), Below.refl _ _⟩
    case round =>
      obtain ⟨k, hk, rfl, hall, B⟩ := hrel
      have HA : Hid _ := hall
      clear hall
      by_cases hlt : k < n1
      · skip
        have hl : (k : Int) < (n1 : Int) := by omega
        have HN : Hid (xs.getD k vo0 = ys.getD k vo0 → ∀ j, j < k + 1 → xs.getD j vo0 = ys.getD j vo0) := fun h0 j hj => by
          by_cases e : j = k
          · rw [e]; exact h0
          · exact HA.out j (by omega)
        have HB : Hid (xs.getD k vo0 ≠ ys.getD k vo0 → decide (xs = ys) = false) := fun h0 => decide_eq_false fun e => h0 (by rw [e])
        obtain ⟨b1, o1, rfl, _, _, hs1, e1, e1', e1'', _⟩ := h1.trip hlt
        obtain ⟨b2, o2, rfl, _, _, hs2, e2, e2', e2'', _⟩ := h2.trip hlt
        replace e1 := (B.cell (p := ⟨b1, o1 + k * 3, none⟩) hs1).trans e1
        replace e1' := (B.cell (p := ⟨b1, o1 + k * 3 + 1, none⟩) hs1).trans e1'
        replace e1'' := (B.cell (p := ⟨b1, o1 + k * 3 + 2, none⟩) hs1).trans e1''
        replace e2 := (B.cell (p := ⟨b2, o2 + k * 3, none⟩) hs2).trans e2
        replace e2' := (B.cell (p := ⟨b2, o2 + k * 3 + 1, none⟩) hs2).trans e2'
        replace e2'' := (B.cell (p := ⟨b2, o2 + k * 3 + 2, none⟩) hs2).trans e2''
        obtain ⟨⟨x, x', x''⟩, hx1⟩ : ∃ x, xs.getD k vo0 = x := ⟨_, rfl⟩
        obtain ⟨⟨y, y', y''⟩, hy1⟩ : ∃ y, ys.getD k vo0 = y := ⟨_, rfl⟩
        rw [hx1] at e1 e1' e1'' HN HB
        rw [hy1] at e2 e2' e2'' HN HB
        simp only at e1 e1' e1'' e2 e2' e2''
        clear hx1 hy1
        by_cases hxy : ((x, x', x'') : Vo) = (y, y', y'')
        · cases hxy
          have hxy : ((x, x', x'') : Vo) = (x, x', x'') := rfl
          have hd0 : (x == x) = true := by simp
          have hd1 : (x' == x') = true := by simp
          have hd2 : (x'' == x'') = true := by simp
          have HN2 : Hid _ := HN.out hxy
          clear HN HB hxy
          go_wp2_with fail
          go_quiet (fail)
          go_wp2
          go_roundw
          case rel => exact ⟨k + 1, by omega, by go_num, HN2.out, below_drewN B _⟩
          case measure => simp [intOf]; omega
        · have HF : Hid _ := HB.out hxy
          clear HN HB
          by_cases hx2 : x = y
          · subst hx2
            have hd0 : (x == x) = true := by simp
            by_cases hx3 : x' = y'
            · subst hx3
              have hd1 : (x' == x') = true := by simp
              have hd2 : (x'' == y'') = false := by simp; exact fun e => hxy (by rw [e])
              go_wp2_with fail
              go_quiet (fail)
              go_wp2
              go_ret
              exact ⟨by rw [HF.out]; rfl, below_drewN B _⟩
            · have hd1 : (x' == y') = false := by simp [hx3]
              go_wp2_with fail
              go_quiet (fail)
              go_wp2
              go_ret
              exact ⟨by rw [HF.out]; rfl, below_drewN B _⟩
          · have hd0 : (x == y) = false := by simp [hx2]
            go_wp2_with fail
            go_quiet (fail)
            go_wp2
            go_ret
            exact ⟨by rw [HF.out]; rfl, below_drewN B _⟩
      · obtain rfl : k = n1 := by omega
        have HF : Hid (decide (xs = ys) = true) := decide_eq_true (list_eq_of vo0 hx hy HA.out)
        go_wp2
        go_ret
        exact ⟨by rw [HF.out]; rfl, B⟩
  · have hb0 : ((n1 : Int) != (n2 : Int)) = true := by simp; omega
    have HF : Hid (decide (xs = ys) = false) := decide_eq_false fun e => hne (by rw [← hx, ← hy, e])
    go_enter Try.func85, Try.ntmps85
    go_wp2
    go_ret
    exact ⟨by rw [HF.out]; rfl, Below.refl _ _⟩

set_option maxRecDepth 20000 in
set_option maxHeartbeats 1000000 in
theorem implSamePl_is (bl : Int) (av : Option Addr) (nv cv : Nat) (ac : Option Addr) (nc cc : Nat) (ah : Option Addr) (nh ch : Nat) (vs ce : List Vo) (sh : List Int) (bl2 : Int) (av2 : Option Addr) (nv2 cv2 : Nat) (ac2 : Option Addr) (nc2 cc2 : Nat) (ah2 : Option Addr) (nh2 ch2 : Nat) (vs2 ce2 : List Vo) (sh2 : List Int) (w : World) {o : Bool} {lo hi : Nat} (h : PlAt w o lo hi av nv cv ac nc cc ah nh ch vs ce sh) {o2 : Bool} {lo2 hi2 : Nat} (h2 : PlAt w o2 lo2 hi2 av2 nv2 cv2 ac2 nc2 cc2 ah2 nh2 ch2 vs2 ce2 sh2) (hnv : nv ≤ 1048576) (hnc : nc ≤ 1048576) (hnv2 : nv2 ≤ 1048576) (hnc2 : nc2 ≤ 1048576) (d : Bool) (hd : samePl bl vs ce bl2 vs2 ce2 = d) :
    Calls Try.prog 39 #[.agg #[.int .i64 bl, .slice av nv cv, .slice ac nc cc, .slice ah nh ch], .agg #[.int .i64 bl2, .slice av2 nv2 cv2, .slice ac2 nc2 cc2, .slice ah2 nh2 ch2]] w fun e w' => e = .returned (.bool d) ∧ Below w.heap.size w w' := by
  obtain ⟨dv, hdv⟩ : ∃ dv, decide (vs = vs2) = dv := ⟨_, rfl⟩
  obtain ⟨dc, hdc⟩ : ∃ dc, decide (ce = ce2) = dc := ⟨_, rfl⟩
  have HV : Hid _ := hdv
  have HC : Hid _ := hdc
  have HD : Hid ((decide (bl = bl2) && dv && dc) = d) := by show _ = _; rw [← hd, samePl, hdv, hdc]
  clear hd hdv hdc
  by_cases hbb : bl = bl2
  · subst hbb
    have hb1 : (bl == bl) = true := by simp
    go_enter Try.func39, Try.ntmps39
    go_wp2_with (first | (have g1 := H0.out; clear g1; (with_reducible refine box_new 54 #[.int .i64 bl, .slice av2 nv2 cv2, .slice ac2 nc2 cc2, .slice ah2 nh2 ch2] rfl ?_); intro b1 W1 N1; have O1 : Hid (b0 < b1) := Nat.lt_of_lt_of_le H0.out N1.ge; replace c0_0 := cell_later N1.below c0_0; replace c0_1 := cell_later N1.below c0_1; replace c0_2 := cell_later N1.below c0_2; replace c0_3 := cell_later N1.below c0_3; replace H0 : Hid (b0 < W1.heap.size) := Nat.lt_of_lt_of_le H0.out N1.below.size; replace B := below_next B N1.below; have H1 : Hid (b1 < W1.heap.size) := N1.lt; have c1_0 : W1.cell? ⟨b1, 0, none⟩ = some (.int .i64 bl) := N1.cell 0 _ rfl; have c1_1 : W1.cell? ⟨b1, 1, none⟩ = some (.slice av2 nv2 cv2) := N1.cell 1 _ rfl; have c1_2 : W1.cell? ⟨b1, 2, none⟩ = some (.slice ac2 nc2 cc2) := N1.cell 2 _ rfl; have c1_3 : W1.cell? ⟨b1, 3, none⟩ = some (.slice ah2 nh2 ch2) := N1.cell 3 _ rfl; clear N1) | ((with_reducible refine box_new 54 #[.int .i64 bl, .slice av nv cv, .slice ac nc cc, .slice ah nh ch] rfl ?_); intro b0 W0 N0; have O0 : Hid (w.heap.size ≤ b0) := N0.ge; have B := N0.below; have H0 : Hid (b0 < W0.heap.size) := N0.lt; have c0_0 : W0.cell? ⟨b0, 0, none⟩ = some (.int .i64 bl) := N0.cell 0 _ rfl; have c0_1 : W0.cell? ⟨b0, 1, none⟩ = some (.slice av nv cv) := N0.cell 1 _ rfl; have c0_2 : W0.cell? ⟨b0, 2, none⟩ = some (.slice ac nc cc) := N0.cell 2 _ rfl; have c0_3 : W0.cell? ⟨b0, 3, none⟩ = some (.slice ah nh ch) := N0.cell 3 _ rfl; clear N0) | fail)
    refine (volsEq_i av nv cv av2 nv2 cv2 vs vs2 _ (h.vol.below B) (h2.vol.below B) (by omega) (by omega) dv HV.out).mono ?_
    rintro e w1 ⟨rfl, BB⟩
    replace c0_0 := cell_later BB c0_0
    replace c0_1 := cell_later BB c0_1
    replace c0_2 := cell_later BB c0_2
    replace c0_3 := cell_later BB c0_3
    replace H0 : Hid (b0 < w1.heap.size) := Nat.lt_of_lt_of_le H0.out BB.size
    replace c1_0 := cell_later BB c1_0
    replace c1_1 := cell_later BB c1_1
    replace c1_2 := cell_later BB c1_2
    replace c1_3 := cell_later BB c1_3
    replace H1 : Hid (b1 < w1.heap.size) := Nat.lt_of_lt_of_le H1.out BB.size
    replace B := below_next B BB
    clear BB
    cases dv with
    | false =>
      go_wp2
      go_ret
      exact ⟨by rw [← HD.out]; simp, B⟩
    | true =>
      go_wp2_with fail
      refine (cellsEq_i ac nc cc ac2 nc2 cc2 ce ce2 _ (h.cel.below B) (h2.cel.below B) (by omega) (by omega) dc HC.out).mono ?_
      rintro e w2 ⟨rfl, BB⟩
      replace c0_0 := cell_later BB c0_0
      replace c0_1 := cell_later BB c0_1
      replace c0_2 := cell_later BB c0_2
      replace c0_3 := cell_later BB c0_3
      replace H0 : Hid (b0 < w2.heap.size) := Nat.lt_of_lt_of_le H0.out BB.size
      replace c1_0 := cell_later BB c1_0
      replace c1_1 := cell_later BB c1_1
      replace c1_2 := cell_later BB c1_2
      replace c1_3 := cell_later BB c1_3
      replace H1 : Hid (b1 < w2.heap.size) := Nat.lt_of_lt_of_le H1.out BB.size
      replace B := below_next B BB
      clear BB
      go_wp2
      go_ret
      exact ⟨by rw [← HD.out]; simp, B⟩
  · have hb1 : (bl == bl2) = false := by simp [hbb]
    go_enter Try.func39, Try.ntmps39
    go_wp2_with (first | (have g1 := H0.out; clear g1; (with_reducible refine box_new 54 #[.int .i64 bl2, .slice av2 nv2 cv2, .slice ac2 nc2 cc2, .slice ah2 nh2 ch2] rfl ?_); intro b1 W1 N1; have O1 : Hid (b0 < b1) := Nat.lt_of_lt_of_le H0.out N1.ge; replace c0_0 := cell_later N1.below c0_0; replace c0_1 := cell_later N1.below c0_1; replace c0_2 := cell_later N1.below c0_2; replace c0_3 := cell_later N1.below c0_3; replace H0 : Hid (b0 < W1.heap.size) := Nat.lt_of_lt_of_le H0.out N1.below.size; replace B := below_next B N1.below; have H1 : Hid (b1 < W1.heap.size) := N1.lt; have c1_0 : W1.cell? ⟨b1, 0, none⟩ = some (.int .i64 bl2) := N1.cell 0 _ rfl; have c1_1 : W1.cell? ⟨b1, 1, none⟩ = some (.slice av2 nv2 cv2) := N1.cell 1 _ rfl; have c1_2 : W1.cell? ⟨b1, 2, none⟩ = some (.slice ac2 nc2 cc2) := N1.cell 2 _ rfl; have c1_3 : W1.cell? ⟨b1, 3, none⟩ = some (.slice ah2 nh2 ch2) := N1.cell 3 _ rfl; clear N1) | ((with_reducible refine box_new 54 #[.int .i64 bl, .slice av nv cv, .slice ac nc cc, .slice ah nh ch] rfl ?_); intro b0 W0 N0; have O0 : Hid (w.heap.size ≤ b0) := N0.ge; have B := N0.below; have H0 : Hid (b0 < W0.heap.size) := N0.lt; have c0_0 : W0.cell? ⟨b0, 0, none⟩ = some (.int .i64 bl) := N0.cell 0 _ rfl; have c0_1 : W0.cell? ⟨b0, 1, none⟩ = some (.slice av nv cv) := N0.cell 1 _ rfl; have c0_2 : W0.cell? ⟨b0, 2, none⟩ = some (.slice ac nc cc) := N0.cell 2 _ rfl; have c0_3 : W0.cell? ⟨b0, 3, none⟩ = some (.slice ah nh ch) := N0.cell 3 _ rfl; clear N0) | fail)
    go_ret
    exact ⟨by rw [← HD.out]; simp [hbb], B⟩

end Go.Proofs.Ytikjndmgljkhhaa
