/- Chapter 6: plain pools compared by the model. -/
import Derived.Test.YtikjndmgljkhhaaSPl
namespace Go.Proofs.Ytikjndmgljkhhaa
open Go.RowKit

theorem samePl_no_v {bl : Int} {vs ce : List Vo} {vs2 ce2 : List Vo} (h : vs ≠ vs2) : samePl bl vs ce bl vs2 ce2 = false := by simp [samePl, h]
theorem samePl_no_c {bl : Int} {vs ce : List Vo} {vs2 ce2 : List Vo} (h : ce ≠ ce2) : samePl bl vs ce bl vs2 ce2 = false := by simp [samePl, h]
set_option maxRecDepth 20000 in
set_option maxHeartbeats 1000000 in
theorem specSamePl_is (bl : Int) (av : Option Addr) (nv cv : Nat) (ac : Option Addr) (nc cc : Nat) (ah : Option Addr) (nh ch : Nat) (vs ce : List Vo) (sh : List Int) (bl2 : Int) (av2 : Option Addr) (nv2 cv2 : Nat) (ac2 : Option Addr) (nc2 cc2 : Nat) (ah2 : Option Addr) (nh2 ch2 : Nat) (vs2 ce2 : List Vo) (sh2 : List Int) (w : World) {o : Bool} {lo hi : Nat} (h : PlAt w o lo hi av nv cv ac nc cc ah nh ch vs ce sh) {o2 : Bool} {lo2 hi2 : Nat} (h2 : PlAt w o2 lo2 hi2 av2 nv2 cv2 ac2 nc2 cc2 ah2 nh2 ch2 vs2 ce2 sh2) (hnv : nv ≤ 1048576) (hnc : nc ≤ 1048576) (hnv2 : nv2 ≤ 1048576) (hnc2 : nc2 ≤ 1048576) (d : Bool) (hd : samePl bl vs ce bl2 vs2 ce2 = d) :
    Calls Try.prog 38 #[.agg #[.int .i64 bl, .slice av nv cv, .slice ac nc cc, .slice ah nh ch], .agg #[.int .i64 bl2, .slice av2 nv2 cv2, .slice ac2 nc2 cc2, .slice ah2 nh2 ch2]] w fun e w' => e = .returned (.bool d) ∧ Below w.heap.size w w' := by
  have hx := h.vol.nTrips
  have hy := h2.vol.nTrips
  have hz := h.cel.nTrips
  have hzz := h2.cel.nTrips
  subst hd
  by_cases hbb : bl = bl2
  rotate_left 1
  · have hb1 : (bl != bl2) = true := by simp [hbb]
    have HF : Hid (samePl bl vs ce bl2 vs2 ce2 = false) := by show _ = _; simp [samePl, hbb]
    go_enter Try.func38, Try.ntmps38
    go_wp2_with (first | (have g1 := H0.out; clear g1; (with_reducible refine box_new 54 #[.int .i64 bl2, .slice av2 nv2 cv2, .slice ac2 nc2 cc2, .slice ah2 nh2 ch2] rfl ?_); intro b1 W1 N1; have O1 : Hid (b0 < b1) := Nat.lt_of_lt_of_le H0.out N1.ge; replace c0_0 := cell_later N1.below c0_0; replace c0_1 := cell_later N1.below c0_1; replace c0_2 := cell_later N1.below c0_2; replace c0_3 := cell_later N1.below c0_3; replace H0 : Hid (b0 < W1.heap.size) := Nat.lt_of_lt_of_le H0.out N1.below.size; replace B := below_next B N1.below; have H1 : Hid (b1 < W1.heap.size) := N1.lt; have c1_0 : W1.cell? ⟨b1, 0, none⟩ = some (.int .i64 bl2) := N1.cell 0 _ rfl; have c1_1 : W1.cell? ⟨b1, 1, none⟩ = some (.slice av2 nv2 cv2) := N1.cell 1 _ rfl; have c1_2 : W1.cell? ⟨b1, 2, none⟩ = some (.slice ac2 nc2 cc2) := N1.cell 2 _ rfl; have c1_3 : W1.cell? ⟨b1, 3, none⟩ = some (.slice ah2 nh2 ch2) := N1.cell 3 _ rfl; clear N1) | ((with_reducible refine box_new 54 #[.int .i64 bl, .slice av nv cv, .slice ac nc cc, .slice ah nh ch] rfl ?_); intro b0 W0 N0; have O0 : Hid (w.heap.size ≤ b0) := N0.ge; have B := N0.below; have H0 : Hid (b0 < W0.heap.size) := N0.lt; have c0_0 : W0.cell? ⟨b0, 0, none⟩ = some (.int .i64 bl) := N0.cell 0 _ rfl; have c0_1 : W0.cell? ⟨b0, 1, none⟩ = some (.slice av nv cv) := N0.cell 1 _ rfl; have c0_2 : W0.cell? ⟨b0, 2, none⟩ = some (.slice ac nc cc) := N0.cell 2 _ rfl; have c0_3 : W0.cell? ⟨b0, 3, none⟩ = some (.slice ah nh ch) := N0.cell 3 _ rfl; clear N0) | fail)
    go_ret
    exact ⟨by rw [HF.out]; rfl, B⟩
  subst hbb
  have hb1 : (bl != bl) = false := by simp
  by_cases hnn : nv = nv2
  rotate_left 1
  · have hb2 : ((nv : Int) != (nv2 : Int)) = true := by simp; omega
    have HF : Hid (samePl bl vs ce bl vs2 ce2 = false) := by show _ = _; have : vs ≠ vs2 := fun e => hnn (by rw [← hx, ← hy, e]); simp [samePl, this]
    go_enter Try.func38, Try.ntmps38
    go_wp2_with (first | (have g1 := H0.out; clear g1; (with_reducible refine box_new 54 #[.int .i64 bl, .slice av2 nv2 cv2, .slice ac2 nc2 cc2, .slice ah2 nh2 ch2] rfl ?_); intro b1 W1 N1; have O1 : Hid (b0 < b1) := Nat.lt_of_lt_of_le H0.out N1.ge; replace c0_0 := cell_later N1.below c0_0; replace c0_1 := cell_later N1.below c0_1; replace c0_2 := cell_later N1.below c0_2; replace c0_3 := cell_later N1.below c0_3; replace H0 : Hid (b0 < W1.heap.size) := Nat.lt_of_lt_of_le H0.out N1.below.size; replace B := below_next B N1.below; have H1 : Hid (b1 < W1.heap.size) := N1.lt; have c1_0 : W1.cell? ⟨b1, 0, none⟩ = some (.int .i64 bl) := N1.cell 0 _ rfl; have c1_1 : W1.cell? ⟨b1, 1, none⟩ = some (.slice av2 nv2 cv2) := N1.cell 1 _ rfl; have c1_2 : W1.cell? ⟨b1, 2, none⟩ = some (.slice ac2 nc2 cc2) := N1.cell 2 _ rfl; have c1_3 : W1.cell? ⟨b1, 3, none⟩ = some (.slice ah2 nh2 ch2) := N1.cell 3 _ rfl; clear N1) | ((with_reducible refine box_new 54 #[.int .i64 bl, .slice av nv cv, .slice ac nc cc, .slice ah nh ch] rfl ?_); intro b0 W0 N0; have O0 : Hid (w.heap.size ≤ b0) := N0.ge; have B := N0.below; have H0 : Hid (b0 < W0.heap.size) := N0.lt; have c0_0 : W0.cell? ⟨b0, 0, none⟩ = some (.int .i64 bl) := N0.cell 0 _ rfl; have c0_1 : W0.cell? ⟨b0, 1, none⟩ = some (.slice av nv cv) := N0.cell 1 _ rfl; have c0_2 : W0.cell? ⟨b0, 2, none⟩ = some (.slice ac nc cc) := N0.cell 2 _ rfl; have c0_3 : W0.cell? ⟨b0, 3, none⟩ = some (.slice ah nh ch) := N0.cell 3 _ rfl; clear N0) | fail)
    go_ret
    exact ⟨by rw [HF.out]; rfl, B⟩
  subst hnn
  have hb2 : ((nv : Int) != (nv : Int)) = false := by simp
  by_cases hmm : nc = nc2
  rotate_left 1
  · have hb3 : ((nc : Int) != (nc2 : Int)) = true := by simp; omega
    have HF : Hid (samePl bl vs ce bl vs2 ce2 = false) := by show _ = _; have : ce ≠ ce2 := fun e => hmm (by rw [← hz, ← hzz, e]); simp [samePl, this]
    go_enter Try.func38, Try.ntmps38
    go_wp2_with (first | (have g1 := H0.out; clear g1; (with_reducible refine box_new 54 #[.int .i64 bl, .slice av2 nv cv2, .slice ac2 nc2 cc2, .slice ah2 nh2 ch2] rfl ?_); intro b1 W1 N1; have O1 : Hid (b0 < b1) := Nat.lt_of_lt_of_le H0.out N1.ge; replace c0_0 := cell_later N1.below c0_0; replace c0_1 := cell_later N1.below c0_1; replace c0_2 := cell_later N1.below c0_2; replace c0_3 := cell_later N1.below c0_3; replace H0 : Hid (b0 < W1.heap.size) := Nat.lt_of_lt_of_le H0.out N1.below.size; replace B := below_next B N1.below; have H1 : Hid (b1 < W1.heap.size) := N1.lt; have c1_0 : W1.cell? ⟨b1, 0, none⟩ = some (.int .i64 bl) := N1.cell 0 _ rfl; have c1_1 : W1.cell? ⟨b1, 1, none⟩ = some (.slice av2 nv cv2) := N1.cell 1 _ rfl; have c1_2 : W1.cell? ⟨b1, 2, none⟩ = some (.slice ac2 nc2 cc2) := N1.cell 2 _ rfl; have c1_3 : W1.cell? ⟨b1, 3, none⟩ = some (.slice ah2 nh2 ch2) := N1.cell 3 _ rfl; clear N1) | ((with_reducible refine box_new 54 #[.int .i64 bl, .slice av nv cv, .slice ac nc cc, .slice ah nh ch] rfl ?_); intro b0 W0 N0; have O0 : Hid (w.heap.size ≤ b0) := N0.ge; have B := N0.below; have H0 : Hid (b0 < W0.heap.size) := N0.lt; have c0_0 : W0.cell? ⟨b0, 0, none⟩ = some (.int .i64 bl) := N0.cell 0 _ rfl; have c0_1 : W0.cell? ⟨b0, 1, none⟩ = some (.slice av nv cv) := N0.cell 1 _ rfl; have c0_2 : W0.cell? ⟨b0, 2, none⟩ = some (.slice ac nc cc) := N0.cell 2 _ rfl; have c0_3 : W0.cell? ⟨b0, 3, none⟩ = some (.slice ah nh ch) := N0.cell 3 _ rfl; clear N0) | fail)
    go_ret
    exact ⟨by rw [HF.out]; rfl, B⟩
  subst hmm
  have hb3 : ((nc : Int) != (nc : Int)) = false := by simp
  go_enter Try.func38, Try.ntmps38
  go_wp2_with (first | (have g1 := H0.out; clear g1; (with_reducible refine box_new 54 #[.int .i64 bl, .slice av2 nv cv2, .slice ac2 nc cc2, .slice ah2 nh2 ch2] rfl ?_); intro b1 W1 N1; have O1 : Hid (b0 < b1) := Nat.lt_of_lt_of_le H0.out N1.ge; replace c0_0 := cell_later N1.below c0_0; replace c0_1 := cell_later N1.below c0_1; replace c0_2 := cell_later N1.below c0_2; replace c0_3 := cell_later N1.below c0_3; replace H0 : Hid (b0 < W1.heap.size) := Nat.lt_of_lt_of_le H0.out N1.below.size; replace B := below_next B N1.below; have H1 : Hid (b1 < W1.heap.size) := N1.lt; have c1_0 : W1.cell? ⟨b1, 0, none⟩ = some (.int .i64 bl) := N1.cell 0 _ rfl; have c1_1 : W1.cell? ⟨b1, 1, none⟩ = some (.slice av2 nv cv2) := N1.cell 1 _ rfl; have c1_2 : W1.cell? ⟨b1, 2, none⟩ = some (.slice ac2 nc cc2) := N1.cell 2 _ rfl; have c1_3 : W1.cell? ⟨b1, 3, none⟩ = some (.slice ah2 nh2 ch2) := N1.cell 3 _ rfl; clear N1) | ((with_reducible refine box_new 54 #[.int .i64 bl, .slice av nv cv, .slice ac nc cc, .slice ah nh ch] rfl ?_); intro b0 W0 N0; have O0 : Hid (w.heap.size ≤ b0) := N0.ge; have B := N0.below; have H0 : Hid (b0 < W0.heap.size) := N0.lt; have c0_0 : W0.cell? ⟨b0, 0, none⟩ = some (.int .i64 bl) := N0.cell 0 _ rfl; have c0_1 : W0.cell? ⟨b0, 1, none⟩ = some (.slice av nv cv) := N0.cell 1 _ rfl; have c0_2 : W0.cell? ⟨b0, 2, none⟩ = some (.slice ac nc cc) := N0.cell 2 _ rfl; have c0_3 : W0.cell? ⟨b0, 3, none⟩ = some (.slice ah nh ch) := N0.cell 3 _ rfl; clear N0) | fail)
  have hs0 : Hid (w.heap.size ≤ W1.heap.size) := B.size
  obtain ⟨W, hW⟩ : ∃ W, W = W1 := ⟨_, rfl⟩
  subst hW
  go_loopw [5] (fun i wr => ∃ k : Nat, k ≤ nv ∧ i = .int .i64 k ∧ (∀ j, j < k → vs.getD j vo0 = vs2.getD j vo0) ∧ Below W.heap.size W wr) (fun i _ => nv - (intOf i).toNat)
  case atStart => exact ⟨0, Nat.zero_le _, rfl, fun j hj => absurd hj (Nat.not_lt_zero _), Below.refl _ _⟩
  case round =>
    obtain ⟨k, hk, rfl, hall, BL⟩ := hrel
    have HA : Hid _ := hall
    clear hall
    replace c0_0 := cell_later BL c0_0
    replace c0_1 := cell_later BL c0_1
    replace c0_2 := cell_later BL c0_2
    replace c0_3 := cell_later BL c0_3
    replace c1_0 := cell_later BL c1_0
    replace c1_1 := cell_later BL c1_1
    replace c1_2 := cell_later BL c1_2
    replace c1_3 := cell_later BL c1_3
    have BW := below_next B BL
    by_cases hlt : k < nv
    · skip
      have hl : (k : Int) < (nv : Int) := by omega
      have HN : Hid (vs.getD k vo0 = vs2.getD k vo0 → ∀ j, j < k + 1 → vs.getD j vo0 = vs2.getD j vo0) := fun h0 j hj => by
        by_cases e : j = k
        · rw [e]; exact h0
        · exact HA.out j (by omega)
      have HB : Hid (vs.getD k vo0 ≠ vs2.getD k vo0 → samePl bl vs ce bl vs2 ce2 = false) := fun h0 => samePl_no_v fun e => h0 (by rw [e])
      obtain ⟨b1, o1, rfl, _, _, hs1, e1, e1', e1'', _⟩ := h.vol.trip hlt
      obtain ⟨b2, o2, rfl, _, _, hs2, e2, e2', e2'', _⟩ := h2.vol.trip hlt
      replace e1 := (BW.cell (p := ⟨b1, o1 + k * 3, none⟩) hs1).trans e1
      replace e1' := (BW.cell (p := ⟨b1, o1 + k * 3 + 1, none⟩) hs1).trans e1'
      replace e1'' := (BW.cell (p := ⟨b1, o1 + k * 3 + 2, none⟩) hs1).trans e1''
      replace e2 := (BW.cell (p := ⟨b2, o2 + k * 3, none⟩) hs2).trans e2
      replace e2' := (BW.cell (p := ⟨b2, o2 + k * 3 + 1, none⟩) hs2).trans e2'
      replace e2'' := (BW.cell (p := ⟨b2, o2 + k * 3 + 2, none⟩) hs2).trans e2''
      obtain ⟨⟨x, x', x''⟩, hx1⟩ : ∃ x, vs.getD k vo0 = x := ⟨_, rfl⟩
      obtain ⟨⟨y, y', y''⟩, hy1⟩ : ∃ y, vs2.getD k vo0 = y := ⟨_, rfl⟩
      rw [hx1] at e1 e1' e1'' HN HB
      rw [hy1] at e2 e2' e2'' HN HB
      simp only at e1 e1' e1'' e2 e2' e2''
      clear hx1 hy1
      by_cases hxy : ((x, x', x'') : Vo) = (y, y', y'')
      · cases hxy
        have hxy : ((x, x', x'') : Vo) = (x, x', x'') := rfl
        have hd0 : (x == x) = true := by simp
        have hd1 : (x' == x') = true := by simp
        have hd2 : (x'' == x'') = true := by simp
        have HN2 : Hid _ := HN.out hxy
        clear HN HB hxy
        go_wp2_with fail
        go_quiet (fail)
        go_wp2
        go_roundw
        case rel => exact ⟨k + 1, by omega, by go_num, HN2.out, below_drewN BL _⟩
        case measure => simp [intOf]; omega
      · have HF : Hid _ := HB.out hxy
        clear HN HB
        by_cases hx2 : x = y
        · subst hx2
          have hd0 : (x == x) = true := by simp
          by_cases hx3 : x' = y'
          · subst hx3
            have hd1 : (x' == x') = true := by simp
            have hd2 : (x'' == y'') = false := by simp; exact fun e => hxy (by rw [e])
            go_wp2_with fail
            go_quiet (fail)
            go_wp2
            go_ret
            exact ⟨by rw [HF.out]; rfl, below_drewN BW _⟩
          · have hd1 : (x' == y') = false := by simp [hx3]
            go_wp2_with fail
            go_quiet (fail)
            go_wp2
            go_ret
            exact ⟨by rw [HF.out]; rfl, below_drewN BW _⟩
        · have hd0 : (x == y) = false := by simp [hx2]
          go_wp2_with fail
          go_quiet (fail)
          go_wp2
          go_ret
          exact ⟨by rw [HF.out]; rfl, below_drewN BW _⟩
    · obtain rfl : k = nv := by omega
      have HV : Hid (vs = vs2) := list_eq_of vo0 hx hy HA.out
      clear HA
      go_wp2
      obtain ⟨V, hV⟩ : ∃ V, V = wr := ⟨_, rfl⟩
      subst hV
      replace B := BW
      clear BW BL
      go_loopw [6] (fun i wr => ∃ k : Nat, k ≤ nc ∧ i = .int .i64 k ∧ (∀ j, j < k → ce.getD j vo0 = ce2.getD j vo0) ∧ Below V.heap.size V wr) (fun i _ => nc - (intOf i).toNat)
      case atStart => exact ⟨0, Nat.zero_le _, rfl, fun j hj => absurd hj (Nat.not_lt_zero _), Below.refl _ _⟩
      case round =>
        obtain ⟨k, hk, rfl, hall, BL⟩ := hrel
        have HA : Hid _ := hall
        clear hall
        replace c0_0 := cell_later BL c0_0
        replace c0_1 := cell_later BL c0_1
        replace c0_2 := cell_later BL c0_2
        replace c0_3 := cell_later BL c0_3
        replace c1_0 := cell_later BL c1_0
        replace c1_1 := cell_later BL c1_1
        replace c1_2 := cell_later BL c1_2
        replace c1_3 := cell_later BL c1_3
        have BW := below_next B BL
        by_cases hlt : k < nc
        · skip
          have hl : (k : Int) < (nc : Int) := by omega
          have HN : Hid (ce.getD k vo0 = ce2.getD k vo0 → ∀ j, j < k + 1 → ce.getD j vo0 = ce2.getD j vo0) := fun h0 j hj => by
            by_cases e : j = k
            · rw [e]; exact h0
            · exact HA.out j (by omega)
          have HB : Hid (ce.getD k vo0 ≠ ce2.getD k vo0 → samePl bl vs ce bl vs2 ce2 = false) := fun h0 => samePl_no_c fun e => h0 (by rw [e])
          obtain ⟨b1, o1, rfl, _, _, hs1, e1, e1', e1'', _⟩ := h.cel.trip hlt
          obtain ⟨b2, o2, rfl, _, _, hs2, e2, e2', e2'', _⟩ := h2.cel.trip hlt
          replace e1 := (BW.cell (p := ⟨b1, o1 + k * 3, none⟩) hs1).trans e1
          replace e1' := (BW.cell (p := ⟨b1, o1 + k * 3 + 1, none⟩) hs1).trans e1'
          replace e1'' := (BW.cell (p := ⟨b1, o1 + k * 3 + 2, none⟩) hs1).trans e1''
          replace e2 := (BW.cell (p := ⟨b2, o2 + k * 3, none⟩) hs2).trans e2
          replace e2' := (BW.cell (p := ⟨b2, o2 + k * 3 + 1, none⟩) hs2).trans e2'
          replace e2'' := (BW.cell (p := ⟨b2, o2 + k * 3 + 2, none⟩) hs2).trans e2''
          obtain ⟨⟨x, x', x''⟩, hx1⟩ : ∃ x, ce.getD k vo0 = x := ⟨_, rfl⟩
          obtain ⟨⟨y, y', y''⟩, hy1⟩ : ∃ y, ce2.getD k vo0 = y := ⟨_, rfl⟩
          rw [hx1] at e1 e1' e1'' HN HB
          rw [hy1] at e2 e2' e2'' HN HB
          simp only at e1 e1' e1'' e2 e2' e2''
          clear hx1 hy1
          by_cases hxy : ((x, x', x'') : Vo) = (y, y', y'')
          · cases hxy
            have hxy : ((x, x', x'') : Vo) = (x, x', x'') := rfl
            have hd0 : (x == x) = true := by simp
            have hd1 : (x' == x') = true := by simp
            have hd2 : (x'' == x'') = true := by simp
            have HN2 : Hid _ := HN.out hxy
            clear HN HB hxy
            go_wp2_with fail
            go_quiet (fail)
            go_wp2
            go_roundw
            case rel => exact ⟨k + 1, by omega, by go_num, HN2.out, below_drewN BL _⟩
            case measure => simp [intOf]; omega
          · have HF : Hid _ := HB.out hxy
            clear HN HB
            by_cases hx2 : x = y
            · subst hx2
              have hd0 : (x == x) = true := by simp
              by_cases hx3 : x' = y'
              · subst hx3
                have hd1 : (x' == x') = true := by simp
                have hd2 : (x'' == y'') = false := by simp; exact fun e => hxy (by rw [e])
                go_wp2_with fail
                go_quiet (fail)
                go_wp2
                go_ret
                exact ⟨by rw [HF.out]; rfl, below_drewN BW _⟩
              · have hd1 : (x' == y') = false := by simp [hx3]
                go_wp2_with fail
                go_quiet (fail)
                go_wp2
                go_ret
                exact ⟨by rw [HF.out]; rfl, below_drewN BW _⟩
            · have hd0 : (x == y) = false := by simp [hx2]
              go_wp2_with fail
              go_quiet (fail)
              go_wp2
              go_ret
              exact ⟨by rw [HF.out]; rfl, below_drewN BW _⟩
        · obtain rfl : k = nc := by omega
          have HC : Hid (ce = ce2) := list_eq_of vo0 hz hzz HA.out
          have HF : Hid (samePl bl vs ce bl vs2 ce2 = true) := by show _ = _; simp [samePl, HV.out, HC.out]
          go_wp2
          go_ret
          exact ⟨by rw [HF.out]; rfl, BW⟩

end Go.Proofs.Ytikjndmgljkhhaa
