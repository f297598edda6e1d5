/- Chapter 3: the program's NewBlocks, TakeBlock, ShareBlock, DropBlock: what they answer. -/
import Derived.Test.YtlblbjebbecgbaaQ1e
import Derived.Test.YtlblbjebbecgbaaQ0
namespace Go.Proofs.Ytlblbjebbecgbaa
open Go.RowKit

theorem less_small {p : Int × Int} (h : Small p) (h0 : p.1 ≠ 0) : Small (less1 p) := by
  obtain ⟨x, y⟩ := p
  obtain ⟨⟨h1, h2⟩, h3, h4⟩ := h
  simp only at h0 h1 h2 h3 h4
  unfold less1
  refine ⟨⟨by simp; omega, by simp; omega⟩, ?_, ?_⟩ <;> (simp only; split <;> omega)
theorem numbersOf_ex {o : Bool} {l u : Nat} (ao : Option Addr) (n cap : Nat) (bs : List (Int × Int)) (w : World) (h : RowAt w o l u 2 ao n cap (pairs bs)) (hn : n ≤ 24) :
    Calls Try.prog 88 #[.slice ao n cap] w fun e w' => ∃ g, w.heap.size ≤ g ∧ e = .returned (.slice (some ⟨g, 0, none⟩) n n) ∧ RowAt w' true g (g + 1) 1 (some ⟨g, 0, none⟩) n n (nums bs) ∧ Below w.heap.size w w' :=
  (numbersOf_any ao n cap bs w h hn).mono fun _ _ h => ⟨_, Nat.le_refl _, h⟩
theorem nums_zero (n : Nat) : nums (List.replicate n (0, 0)) = List.replicate n (.complex .f64 0 0) := by
  unfold nums
  rw [List.map_replicate, numOf]
  simp only [fb_zero]
theorem small_zero (n : Nat) : ∀ p ∈ List.replicate n ((0 : Int), (0 : Int)), Small p := fun p hp => by
  rw [(List.mem_replicate.1 hp).2]; exact ⟨by decide, by decide⟩
theorem small_set {bs : List (Int × Int)} (h : Fine bs) (k : Nat) {p : Int × Int} (hp : Small p) : ∀ q ∈ bs.set k p, Small q := fun q hq => by
  rcases List.mem_or_eq_of_mem_set hq with hq | rfl
  · exact (h q hq).1
  · exact hp

set_option maxRecDepth 20000 in
set_option maxHeartbeats 2000000 in
theorem implNewBlocks_is (x : Int) (w : World) (cd : Int) (bl : List (Int × Int)) (hc : newBCode x = cd) (hb : newBList x = bl) :
    Calls Try.prog 35 #[.int .i64 x] w fun e w' => BlkRes w w' e cd 0 bl := by
  have B : Below w.heap.size w (w.alloc (.cells #[.int .i64 0, .int .i64 0, .slice none 0 0] 51)) := (Below.refl _ _).alloc (Nat.le_refl _) _
  have z0 : (w.alloc (.cells #[.int .i64 0, .int .i64 0, .slice none 0 0] 51)).cell? ⟨w.heap.size, 0, none⟩ = some (.int .i64 0) := by simp
  have z1 : (w.alloc (.cells #[.int .i64 0, .int .i64 0, .slice none 0 0] 51)).cell? ⟨w.heap.size, 1, none⟩ = some (.int .i64 0) := by simp
  have z2 : (w.alloc (.cells #[.int .i64 0, .int .i64 0, .slice none 0 0] 51)).cell? ⟨w.heap.size, 2, none⟩ = some (.slice none 0 0) := by simp
  have y0 : (w.alloc (.cells #[.int .i64 0, .int .i64 0, .slice none 0 0] 51)).frozen? ⟨w.heap.size, 0, none⟩ = false := by simp
  have y1 : (w.alloc (.cells #[.int .i64 0, .int .i64 0, .slice none 0 0] 51)).frozen? ⟨w.heap.size, 1, none⟩ = false := by simp
  have y2 : (w.alloc (.cells #[.int .i64 0, .int .i64 0, .slice none 0 0] 51)).frozen? ⟨w.heap.size, 2, none⟩ = false := by simp
  have hz : w.heap.size < (w.alloc (.cells #[.int .i64 0, .int .i64 0, .slice none 0 0] 51)).heap.size := by simp
  by_cases hx : 0 ≤ x ∧ x ≤ 24
  · obtain ⟨n, rfl⟩ : ∃ n : Nat, x = n := ⟨x.toNat, by omega⟩
    have e1 : newBCode (n : Int) = 0 := if_pos hx
    have e2 : newBList (n : Int) = List.replicate n (0, 0) := by rw [newBList, if_pos e1, Int.toNat_natCast]
    rw [e1] at hc
    rw [e2] at hb
    subst hc
    subst hb
    have hn24 : n ≤ 24 := by omega
    have hi1 : ¬ (n : Int) < 0 := by omega
    have hi2 : ¬ (24 : Int) < n := by omega
    clear e1 e2 hx
    obtain ⟨j0, hj0, hq0, hq1, hq2⟩ := info_parts Try.infoNum
    go_enter Try.func35, Try.ntmps35
    go_wp2_with (first | (at_make; refine wpList_make_full _ rfl _ _ 107 rfl (w.heap.size + 1) 111 j0 (.complex .f64 0 0) 1 Try.underlying107 hj0 hq0 hq1 _ _ _ _ n rfl rfl rfl rfl ?b1 ?b2 ?b3 ?_))
    case b1 => omega
    case b2 => unfold maxLen; omega
    intro w2 hown hgrow
    have hb : Below (w.alloc (.cells #[.int .i64 0, .int .i64 0, .slice none 0 0] 51)).heap.size (w.alloc (.cells #[.int .i64 0, .int .i64 0, .slice none 0 0] 51)) w2 := (Below.refl _ _).grown hgrow (Nat.le_refl _) (fun k hk => by cases hk)
    replace z0 := cell_later hb z0
    replace z1 := cell_later hb z1
    replace z2 := cell_later hb z2
    replace y0 := frozen_later hb hz y0
    replace y1 := frozen_later hb hz y1
    replace y2 := frozen_later hb hz y2
    replace hz := Nat.lt_of_lt_of_le hz hb.size
    replace B := below_next B hb
    clear hb
    have RN : RowAt w2 true (w.heap.size + 1) (w.heap.size + 2) 1 (some ⟨w.heap.size + 1, 0, none⟩) n n (nums (List.replicate n (0, 0))) := by
      rw [nums_zero, ← made_nums]; exact (RowAt.of_owns hown (Nat.le_refl _)).pin
    clear hown hgrow
    go_wp2_with fail
    refine (blocksAnswer_any 0 _ n _ (List.replicate n (0, 0)) _ RN (small_zero n) (by omega)).mono ?_
    rintro e w8 ⟨ra, rn, rc, rfl, RR, hb⟩
    replace RR := RR.widen (lo' := w.heap.size + 1) (by first | exact hz | (simp [World.setCell] at hz ⊢; omega)) (Nat.le_refl _)
    replace z0 := cell_later hb z0
    replace z1 := cell_later hb z1
    replace z2 := cell_later hb z2
    replace y0 := frozen_later hb hz y0
    replace y1 := frozen_later hb hz y1
    replace y2 := frozen_later hb hz y2
    replace hz := Nat.lt_of_lt_of_le hz hb.size
    replace B := below_next B hb
    clear hb
    go_wp2
    refine bodyPost_ret (v := .agg #[.int .i64 0, .int .i64 0, .slice ra rn rc]) (by simp [results, Try.results35, go_sem, z0, z1, z2]) rfl ⟨_, _, _, rfl, ?_, ?_⟩
    · refine RowAt.widen (RowAt.kept RR (l := w.heap.size) (u := w.heap.size + 1) ?_ (by omega)) (by omega) ?_
      · refine Kept.setCell (Kept.setCell (Kept.setCell (Kept.refl _ _ _) ?_ ?_ _) ?_ ?_ _) ?_ ?_ _ <;> simp
      · simp
    · refine Below.setCell (Below.setCell (Below.setCell B ?_ _) ?_ _) ?_ _ <;> simp
  · have e1 : newBCode x = 3 := if_neg hx
    have e2 : newBList x = [] := by rw [newBList, e1]; rfl
    rw [e1] at hc
    rw [e2] at hb
    subst hc
    subst hb
    clear e1 e2
    by_cases hx0 : x < 0
    · clear hx
      go_enter Try.func35, Try.ntmps35
      go_wp2
      refine bodyPost_ret (v := .agg #[.int .i64 3, .int .i64 0, .slice none 0 0]) (by simp [results, Try.results35, go_sem]) rfl ⟨_, _, _, rfl, RowAt.nil _ _ _ _ _, ?_⟩
      exact (Below.refl _ _).alloc (Nat.le_refl _) _
    · have hx1 : (24 : Int) < x := by omega
      clear hx
      go_enter Try.func35, Try.ntmps35
      go_wp2
      refine bodyPost_ret (v := .agg #[.int .i64 3, .int .i64 0, .slice none 0 0]) (by simp [results, Try.results35, go_sem]) rfl ⟨_, _, _, rfl, RowAt.nil _ _ _ _ _, ?_⟩
      exact (Below.refl _ _).alloc (Nat.le_refl _) _

set_option maxRecDepth 20000 in
set_option maxHeartbeats 2000000 in
theorem implTakeBlock_is {o : Bool} {l u : Nat} (ao : Option Addr) (n cap : Nat) (bs : List (Int × Int)) (w : World) (h : RowAt w o l u 2 ao n cap (pairs bs)) (hn : n ≤ 2097152) (x : Int) (cd at' : Int) (bl : List (Int × Int)) (hc : takeCode bs x = cd) (ha : (takeAt bs x : Int) = at') (hb : takeList bs x = bl) :
    Calls Try.prog 30 #[.slice ao n cap, .int .i64 x] w fun e w' => BlkRes w w' e cd at' bl := by
  have B : Below w.heap.size w (w.alloc (.cells #[.int .i64 0, .int .i64 0, .slice none 0 0] 51)) := (Below.refl _ _).alloc (Nat.le_refl _) _
  have z0 : (w.alloc (.cells #[.int .i64 0, .int .i64 0, .slice none 0 0] 51)).cell? ⟨w.heap.size, 0, none⟩ = some (.int .i64 0) := by simp
  have z1 : (w.alloc (.cells #[.int .i64 0, .int .i64 0, .slice none 0 0] 51)).cell? ⟨w.heap.size, 1, none⟩ = some (.int .i64 0) := by simp
  have z2 : (w.alloc (.cells #[.int .i64 0, .int .i64 0, .slice none 0 0] 51)).cell? ⟨w.heap.size, 2, none⟩ = some (.slice none 0 0) := by simp
  have y0 : (w.alloc (.cells #[.int .i64 0, .int .i64 0, .slice none 0 0] 51)).frozen? ⟨w.heap.size, 0, none⟩ = false := by simp
  have y1 : (w.alloc (.cells #[.int .i64 0, .int .i64 0, .slice none 0 0] 51)).frozen? ⟨w.heap.size, 1, none⟩ = false := by simp
  have y2 : (w.alloc (.cells #[.int .i64 0, .int .i64 0, .slice none 0 0] 51)).frozen? ⟨w.heap.size, 2, none⟩ = false := by simp
  have hz : w.heap.size < (w.alloc (.cells #[.int .i64 0, .int .i64 0, .slice none 0 0] 51)).heap.size := by simp
  have r := h.below B
  have hl := h.nPairs
  by_cases h0 : blkFault bs = 0
  · have H0 : Hid _ := h0
    have h24 := (blkFault_zero h0).1
    have HG : Hid (Fine bs) := fine_of (blkFault_zero h0).2
    cases hx : dataB x with
    | false =>
      have t0 : takeCode bs x = 3 := by simp [takeCode, h0, hx]
      have t1 : takeAt bs x = 0 := by simp [takeAt, t0]
      have t2 : takeList bs x = [] := by simp [takeList, t0]
      rw [t0] at hc
      rw [t1] at ha
      rw [t2] at hb
      subst hc
      subst ha
      subst hb
      have HX : Hid _ := hx
      clear h0 hx t0 t1 t2
      go_enter Try.func30, Try.ntmps30
      go_wp2_with fail
      refine (implBF_b _ n cap bs _ (by exact r) hn 0 H0.out).mono ?_
      rintro e w1 ⟨rfl, hb⟩
      replace z0 := cell_later hb z0
      replace z1 := cell_later hb z1
      replace z2 := cell_later hb z2
      replace y0 := frozen_later hb hz y0
      replace y1 := frozen_later hb hz y1
      replace y2 := frozen_later hb hz y2
      replace r := r.below hb
      replace hz := Nat.lt_of_lt_of_le hz hb.size
      replace B := below_next B hb
      clear hb
      go_wp2_with fail
      refine (isData_is x _ false HX.out).mono ?_
      rintro e w9 ⟨rfl, rfl⟩
      go_wp2
      refine bodyPost_ret (v := .agg #[.int .i64 3, .int .i64 0, .slice none 0 0]) (by simp [results, Try.results30, go_sem, z0, z1, z2]) rfl ⟨_, _, _, rfl, RowAt.nil _ _ _ _ _, ?_⟩
      refine Below.setCell (Below.setCell (Below.setCell B ?_ _) ?_ _) ?_ _ <;> simp
    | true =>
      have HX : Hid _ := hx
      have hx1 : 0 ≤ x ∧ x ≤ 255 := by simpa [dataB] using hx
      cases hf : freeAt bs with
      | none =>
        have t0 : takeCode bs x = 8 := by simp [takeCode, h0, hx, hf]
        have t1 : takeAt bs x = 0 := by simp [takeAt, t0]
        have t2 : takeList bs x = [] := by simp [takeList, t0]
        rw [t0] at hc
        rw [t1] at ha
        rw [t2] at hb
        subst hc
        subst ha
        subst hb
        have HF : Hid _ := hf
        clear h0 hx t0 t1 t2 hf
        go_enter Try.func30, Try.ntmps30
        go_wp2_with fail
        refine (implBF_b _ n cap bs _ (by exact r) hn 0 H0.out).mono ?_
        rintro e w1 ⟨rfl, hb⟩
        replace z0 := cell_later hb z0
        replace z1 := cell_later hb z1
        replace z2 := cell_later hb z2
        replace y0 := frozen_later hb hz y0
        replace y1 := frozen_later hb hz y1
        replace y2 := frozen_later hb hz y2
        replace r := r.below hb
        replace hz := Nat.lt_of_lt_of_le hz hb.size
        replace B := below_next B hb
        clear hb
        go_wp2_with fail
        refine (isData_is x _ true HX.out).mono ?_
        rintro e w9 ⟨rfl, rfl⟩
        go_wp2_with fail
        refine (numbersOf_ex _ n cap bs _ (by exact r) (by omega)).mono ?_
        rintro e w2 ⟨g, hge, rfl, RN, hb⟩
        have hzg := Nat.lt_of_lt_of_le hz hge
        clear hge
        replace z0 := cell_later hb z0
        replace z1 := cell_later hb z1
        replace z2 := cell_later hb z2
        replace y0 := frozen_later hb hz y0
        replace y1 := frozen_later hb hz y1
        replace y2 := frozen_later hb hz y2
        replace r := r.below hb
        replace hz := Nat.lt_of_lt_of_le hz hb.size
        replace B := below_next B hb
        clear hb
        go_wp2_with fail
        refine (index_any _ n n bs _ RN HG.out hn).mono ?_
        rintro e w9 ⟨hq, rfl⟩
        rcases hq with ⟨k, hk, _, _⟩ | ⟨_, rfl⟩
        · rw [HF.out] at hk; cases hk
        go_wp2
        refine bodyPost_ret (v := .agg #[.int .i64 8, .int .i64 0, .slice none 0 0]) (by simp [results, Try.results30, go_sem, z0, z1, z2]) rfl ⟨_, _, _, rfl, RowAt.nil _ _ _ _ _, ?_⟩
        refine Below.setCell (Below.setCell (Below.setCell B ?_ _) ?_ _) ?_ _ <;> simp
      | some k =>
        have t0 : takeCode bs x = 0 := by simp [takeCode, h0, hx, hf]
        have t1 : takeAt bs x = k := by simp [takeAt, t0, hf]
        have t2 : takeList bs x = bs.set k (1, x) := by simp [takeList, t0, hf]
        rw [t0] at hc
        rw [t1] at ha
        rw [t2] at hb
        subst hc
        subst ha
        subst hb
        have hkl := (freeAt_is hf).1
        have hlt : k < n := by omega
        have hlk : (k : Int) < n := by omega
        have hk0 : ¬ (k : Int) < 0 := by omega
        have HF : Hid _ := hf
        clear h0 hx t0 t1 t2 hf
        go_enter Try.func30, Try.ntmps30
        go_wp2_with fail
        refine (implBF_b _ n cap bs _ (by exact r) hn 0 H0.out).mono ?_
        rintro e w1 ⟨rfl, hb⟩
        replace z0 := cell_later hb z0
        replace z1 := cell_later hb z1
        replace z2 := cell_later hb z2
        replace y0 := frozen_later hb hz y0
        replace y1 := frozen_later hb hz y1
        replace y2 := frozen_later hb hz y2
        replace r := r.below hb
        replace hz := Nat.lt_of_lt_of_le hz hb.size
        replace B := below_next B hb
        clear hb
        go_wp2_with fail
        refine (isData_is x _ true HX.out).mono ?_
        rintro e w9 ⟨rfl, rfl⟩
        go_wp2_with fail
        refine (numbersOf_ex _ n cap bs _ (by exact r) (by omega)).mono ?_
        rintro e w2 ⟨g, hge, rfl, RN, hb⟩
        have hzg := Nat.lt_of_lt_of_le hz hge
        clear hge
        replace z0 := cell_later hb z0
        replace z1 := cell_later hb z1
        replace z2 := cell_later hb z2
        replace y0 := frozen_later hb hz y0
        replace y1 := frozen_later hb hz y1
        replace y2 := frozen_later hb hz y2
        replace r := r.below hb
        replace hz := Nat.lt_of_lt_of_le hz hb.size
        replace B := below_next B hb
        clear hb
        go_wp2_with fail
        refine (index_any _ n n bs _ RN HG.out hn).mono ?_
        rintro e w9 ⟨hq, rfl⟩
        obtain rfl : e = .returned (.int .i64 (k : Int)) := by
          rcases hq with ⟨k', hk, _, rfl⟩ | ⟨hk, _⟩
          · rw [HF.out] at hk; cases hk; rfl
          · rw [HF.out] at hk; cases hk
        clear hq
        obtain ⟨_, _, e', _, _, _, c0, f0⟩ := RN.one hlt
        cases e'
        replace f0 := f0 rfl
        rw [nums_getD bs k (by omega), Nat.zero_add] at c0
        rw [Nat.zero_add] at f0
        have hst := store_num c0 f0
        have RS := RN.stored (i := k) (by omega) (numOf (1, x))
        rw [Nat.zero_add, nums_set] at RS
        have K : Kept g (g + 1) w9 (w9.setCell ⟨g, k, none⟩ (numOf (1, x))) := by refine Kept.setCell (Kept.refl _ _ _) ?_ ?_ _ <;> simp
        replace z0 := K.cell z0 (by omega)
        replace z1 := K.cell z1 (by omega)
        replace z2 := K.cell z2 (by omega)
        replace y0 := K.frozen hz (by omega) y0
        replace y1 := K.frozen hz (by omega) y1
        replace y2 := K.frozen hz (by omega) y2
        replace B := B.trans (K.below _ (by omega) (by omega))
        replace hz := Nat.lt_of_lt_of_le hz K.size
        clear K
        simp only [numOf] at hst RS z0 z1 z2 y0 y1 y2 B hz c0
        go_wp2_with fail
        refine (takenBlock_is x _ hx1.1 (by omega)).mono ?_
        rintro e w9 ⟨rfl, rfl⟩
        go_wp2_with (simp only [numOf])
        refine (blocksAnswer_any (k : Int) _ n _ (bs.set k (1, x)) _ RS (small_set HG.out k (by exact ⟨⟨by simp, by simp⟩, hx1.1, by simp; omega⟩)) (by omega)).mono ?_
        rintro e w8 ⟨ra, rn, rc, rfl, RR, hb⟩
        replace RR := RR.widen (lo' := w.heap.size + 1) (by first | exact hz | (simp [World.setCell] at hz ⊢; omega)) (Nat.le_refl _)
        replace z0 := cell_later hb z0
        replace z1 := cell_later hb z1
        replace z2 := cell_later hb z2
        replace y0 := frozen_later hb hz y0
        replace y1 := frozen_later hb hz y1
        replace y2 := frozen_later hb hz y2
        replace hz := Nat.lt_of_lt_of_le hz hb.size
        replace B := below_next B hb
        clear hb
        go_wp2
        refine bodyPost_ret (v := .agg #[.int .i64 0, .int .i64 (k : Int), .slice ra rn rc]) (by simp [results, Try.results30, go_sem, z0, z1, z2]) rfl ⟨_, _, _, rfl, ?_, ?_⟩
        · refine RowAt.widen (RowAt.kept RR (l := w.heap.size) (u := w.heap.size + 1) ?_ (by omega)) (by omega) ?_
          · refine Kept.setCell (Kept.setCell (Kept.setCell (Kept.refl _ _ _) ?_ ?_ _) ?_ ?_ _) ?_ ?_ _ <;> simp
          · simp
        · refine Below.setCell (Below.setCell (Below.setCell B ?_ _) ?_ _) ?_ _ <;> simp
  · have t0 : takeCode bs x = blkFault bs := if_neg h0
    have t1 : takeAt bs x = 0 := by simp [takeAt, t0, h0]
    have t2 : takeList bs x = [] := by simp [takeList, t0, h0]
    rw [t0] at hc
    rw [t1] at ha
    rw [t2] at hb
    subst ha
    subst hb
    rw [hc] at h0
    have HC : Hid _ := hc
    have hne : (cd != 0) = true := by simp [h0]
    clear h0 hc t0 t1 t2
    go_enter Try.func30, Try.ntmps30
    go_wp2_with fail
    refine (implBF_b _ n cap bs _ (by exact r) hn cd HC.out).mono ?_
    rintro e w1 ⟨rfl, hb⟩
    replace z0 := cell_later hb z0
    replace z1 := cell_later hb z1
    replace z2 := cell_later hb z2
    replace y0 := frozen_later hb hz y0
    replace y1 := frozen_later hb hz y1
    replace y2 := frozen_later hb hz y2
    replace r := r.below hb
    replace hz := Nat.lt_of_lt_of_le hz hb.size
    replace B := below_next B hb
    clear hb
    go_wp2
    refine bodyPost_ret (v := .agg #[.int .i64 cd, .int .i64 0, .slice none 0 0]) (by simp [results, Try.results30, go_sem, z0, z1, z2]) rfl ⟨_, _, _, rfl, RowAt.nil _ _ _ _ _, ?_⟩
    refine Below.setCell (Below.setCell (Below.setCell B ?_ _) ?_ _) ?_ _ <;> simp

set_option maxRecDepth 20000 in
set_option maxHeartbeats 2000000 in
theorem implShareBlock_is {o : Bool} {l u : Nat} (ao : Option Addr) (n cap : Nat) (bs : List (Int × Int)) (w : World) (h : RowAt w o l u 2 ao n cap (pairs bs)) (hn : n ≤ 2097152) (x : Int) (cd at' : Int) (bl : List (Int × Int)) (hc : shareCode bs x = cd) (ha : atIf (shareCode bs x) x = at') (hb : shareList bs x = bl) :
    Calls Try.prog 33 #[.slice ao n cap, .int .i64 x] w fun e w' => BlkRes w w' e cd at' bl := by
  have B : Below w.heap.size w (w.alloc (.cells #[.int .i64 0, .int .i64 0, .slice none 0 0] 51)) := (Below.refl _ _).alloc (Nat.le_refl _) _
  have z0 : (w.alloc (.cells #[.int .i64 0, .int .i64 0, .slice none 0 0] 51)).cell? ⟨w.heap.size, 0, none⟩ = some (.int .i64 0) := by simp
  have z1 : (w.alloc (.cells #[.int .i64 0, .int .i64 0, .slice none 0 0] 51)).cell? ⟨w.heap.size, 1, none⟩ = some (.int .i64 0) := by simp
  have z2 : (w.alloc (.cells #[.int .i64 0, .int .i64 0, .slice none 0 0] 51)).cell? ⟨w.heap.size, 2, none⟩ = some (.slice none 0 0) := by simp
  have y0 : (w.alloc (.cells #[.int .i64 0, .int .i64 0, .slice none 0 0] 51)).frozen? ⟨w.heap.size, 0, none⟩ = false := by simp
  have y1 : (w.alloc (.cells #[.int .i64 0, .int .i64 0, .slice none 0 0] 51)).frozen? ⟨w.heap.size, 1, none⟩ = false := by simp
  have y2 : (w.alloc (.cells #[.int .i64 0, .int .i64 0, .slice none 0 0] 51)).frozen? ⟨w.heap.size, 2, none⟩ = false := by simp
  have hz : w.heap.size < (w.alloc (.cells #[.int .i64 0, .int .i64 0, .slice none 0 0] 51)).heap.size := by simp
  have r := h.below B
  have hl := h.nPairs
  by_cases h0 : askCode bs x = 0
  · have H0 : Hid _ := h0
    obtain ⟨k, rfl, hkl, hb0, hnz⟩ := ask_zero h0
    have h24 := (blkFault_zero hb0).1
    have HG : Hid (Fine bs) := fine_of (blkFault_zero hb0).2
    have hlt : k < n := by omega
    have hlk : (k : Int) < n := by omega
    obtain ⟨h1, h2, h3, h4, _⟩ := blkOne_zero (blkGo_all (blkFault_zero hb0).2 (bs.getD k (0, 0)) (by rw [List.getD_eq_getElem?_getD, List.getElem?_eq_getElem hkl]; exact List.getElem_mem hkl))
    obtain ⟨b, f, rfl, _, _, _, e1, _, _⟩ := r.pair hlt
    obtain ⟨⟨y, v⟩, hy⟩ : ∃ p, bs.getD k (0, 0) = p := ⟨_, rfl⟩
    rw [hy] at e1 h1 h2 h3 h4 hnz
    simp only at e1 h1 h2 h3 h4 hnz
    by_cases h200 : y = 200
    · have t0 : shareCode bs (k : Int) = 2 := by rw [shareCode, if_pos h0, Int.toNat_natCast, hy, if_pos (by simp; omega)]
      have t2 : shareList bs (k : Int) = [] := by rw [shareList, t0]; rfl
      rw [t0] at ha
      rw [t0] at hc
      rw [t2] at hb
      obtain rfl : at' = 0 := ha.symm
      subst hc
      subst hb
      subst h200
      clear h0 t0 t2 hy ha hb0 hnz
      go_enter Try.func33, Try.ntmps33
      go_wp2_with fail
      refine (takenFault_is _ n cap bs _ _ (by exact r) hn 0 H0.out).mono ?_
      rintro e w1 ⟨rfl, hb⟩
      replace z0 := cell_later hb z0
      replace z1 := cell_later hb z1
      replace z2 := cell_later hb z2
      replace y0 := frozen_later hb hz y0
      replace y1 := frozen_later hb hz y1
      replace y2 := frozen_later hb hz y2
      replace r := r.below hb
      replace e1 := cell_later hb e1
      replace hz := Nat.lt_of_lt_of_le hz hb.size
      replace B := below_next B hb
      clear hb
      go_wp2
      refine bodyPost_ret (v := .agg #[.int .i64 2, .int .i64 0, .slice none 0 0]) (by simp [results, Try.results33, go_sem, z0, z1, z2]) rfl ⟨_, _, _, rfl, RowAt.nil _ _ _ _ _, ?_⟩
      refine Below.setCell (Below.setCell (Below.setCell B ?_ _) ?_ _) ?_ _ <;> simp
    · have t0 : shareCode bs (k : Int) = 0 := by rw [shareCode, if_pos h0, Int.toNat_natCast, hy, if_neg (by simp; omega)]
      have t2 : shareList bs (k : Int) = bs.set k (y + 1, v) := by rw [shareList, if_pos t0, Int.toNat_natCast, more1, hy]
      rw [t0] at ha
      rw [t0] at hc
      rw [t2] at hb
      obtain rfl : at' = (k : Int) := ha.symm
      subst hc
      subst hb
      have HY : Hid _ := hy
      have hop := fun t w => run_complex_sum (P := Try.prog) w .add (Or.inl rfl) t .f64 _ _ _ _ _ _ (num_more (p := (y, v)) ⟨⟨h1, by simp; omega⟩, h3, by simp; omega⟩)
      simp only at hop
      clear h0 t0 t2 hy ha hb0 hnz
      go_enter Try.func33, Try.ntmps33
      go_wp2_with fail
      refine (takenFault_is _ n cap bs _ _ (by exact r) hn 0 H0.out).mono ?_
      rintro e w1 ⟨rfl, hb⟩
      replace z0 := cell_later hb z0
      replace z1 := cell_later hb z1
      replace z2 := cell_later hb z2
      replace y0 := frozen_later hb hz y0
      replace y1 := frozen_later hb hz y1
      replace y2 := frozen_later hb hz y2
      replace r := r.below hb
      replace e1 := cell_later hb e1
      replace hz := Nat.lt_of_lt_of_le hz hb.size
      replace B := below_next B hb
      clear hb
      go_wp2_with fail
      refine (numbersOf_ex _ n cap bs _ (by exact r) (by omega)).mono ?_
      rintro e w2 ⟨g, hge, rfl, RN, hb⟩
      have hzg := Nat.lt_of_lt_of_le hz hge
      clear hge
      replace z0 := cell_later hb z0
      replace z1 := cell_later hb z1
      replace z2 := cell_later hb z2
      replace y0 := frozen_later hb hz y0
      replace y1 := frozen_later hb hz y1
      replace y2 := frozen_later hb hz y2
      replace r := r.below hb
      replace e1 := cell_later hb e1
      replace hz := Nat.lt_of_lt_of_le hz hb.size
      replace B := below_next B hb
      clear hb
      obtain ⟨_, _, e', _, _, _, c0, f0⟩ := RN.one hlt
      cases e'
      replace f0 := f0 rfl
      rw [nums_getD bs k (by omega), Nat.zero_add] at c0
      rw [Nat.zero_add] at f0
      have hst := store_num c0 f0
      have RS := RN.stored (i := k) (by omega) (numOf (y + 1, v))
      rw [Nat.zero_add, nums_set] at RS
      have K : Kept g (g + 1) w2 (w2.setCell ⟨g, k, none⟩ (numOf (y + 1, v))) := by refine Kept.setCell (Kept.refl _ _ _) ?_ ?_ _ <;> simp
      replace z0 := K.cell z0 (by omega)
      replace z1 := K.cell z1 (by omega)
      replace z2 := K.cell z2 (by omega)
      replace y0 := K.frozen hz (by omega) y0
      replace y1 := K.frozen hz (by omega) y1
      replace y2 := K.frozen hz (by omega) y2
      replace B := B.trans (K.below _ (by omega) (by omega))
      replace hz := Nat.lt_of_lt_of_le hz K.size
      clear K
      rw [HY.out] at c0
      simp only [numOf] at hst RS z0 z1 z2 y0 y1 y2 B hz c0
      go_wp2_with fail
      refine (blocksAnswer_any (k : Int) _ n _ (bs.set k (y + 1, v)) _ RS (small_set HG.out k (by exact ⟨⟨by simp; omega, by simp; omega⟩, h3, by simp; omega⟩)) (by omega)).mono ?_
      rintro e w8 ⟨ra, rn, rc, rfl, RR, hb⟩
      replace RR := RR.widen (lo' := w.heap.size + 1) (by first | exact hz | (simp [World.setCell] at hz ⊢; omega)) (Nat.le_refl _)
      replace z0 := cell_later hb z0
      replace z1 := cell_later hb z1
      replace z2 := cell_later hb z2
      replace y0 := frozen_later hb hz y0
      replace y1 := frozen_later hb hz y1
      replace y2 := frozen_later hb hz y2
      replace hz := Nat.lt_of_lt_of_le hz hb.size
      replace B := below_next B hb
      clear hb
      go_wp2
      refine bodyPost_ret (v := .agg #[.int .i64 0, .int .i64 (k : Int), .slice ra rn rc]) (by simp [results, Try.results33, go_sem, z0, z1, z2]) rfl ⟨_, _, _, rfl, ?_, ?_⟩
      · refine RowAt.widen (RowAt.kept RR (l := w.heap.size) (u := w.heap.size + 1) ?_ (by omega)) (by omega) ?_
        · refine Kept.setCell (Kept.setCell (Kept.setCell (Kept.refl _ _ _) ?_ ?_ _) ?_ ?_ _) ?_ ?_ _ <;> simp
        · simp
      · refine Below.setCell (Below.setCell (Below.setCell B ?_ _) ?_ _) ?_ _ <;> simp
  · have t0 : shareCode bs x = askCode bs x := if_neg h0
    have t1 : atIf (shareCode bs x) x = 0 := by rw [t0, atIf, if_neg h0]
    rw [t1] at ha
    have t2 : shareList bs x = [] := by rw [shareList, t0, if_neg h0]
    rw [t0] at hc
    rw [t2] at hb
    subst ha
    subst hb
    rw [hc] at h0
    have HC : Hid _ := hc
    have hne : (cd != 0) = true := by simp [h0]
    clear h0 hc t0 t1 t2
    go_enter Try.func33, Try.ntmps33
    go_wp2_with fail
    refine (takenFault_is _ n cap bs _ _ (by exact r) hn cd HC.out).mono ?_
    rintro e w1 ⟨rfl, hb⟩
    replace z0 := cell_later hb z0
    replace z1 := cell_later hb z1
    replace z2 := cell_later hb z2
    replace y0 := frozen_later hb hz y0
    replace y1 := frozen_later hb hz y1
    replace y2 := frozen_later hb hz y2
    replace r := r.below hb
    replace hz := Nat.lt_of_lt_of_le hz hb.size
    replace B := below_next B hb
    clear hb
    go_wp2
    refine bodyPost_ret (v := .agg #[.int .i64 cd, .int .i64 0, .slice none 0 0]) (by simp [results, Try.results33, go_sem, z0, z1, z2]) rfl ⟨_, _, _, rfl, RowAt.nil _ _ _ _ _, ?_⟩
    refine Below.setCell (Below.setCell (Below.setCell B ?_ _) ?_ _) ?_ _ <;> simp

set_option maxRecDepth 20000 in
set_option maxHeartbeats 2000000 in
theorem implDropBlock_is {o : Bool} {l u : Nat} (ao : Option Addr) (n cap : Nat) (bs : List (Int × Int)) (w : World) (h : RowAt w o l u 2 ao n cap (pairs bs)) (hn : n ≤ 2097152) (x : Int) (cd at' : Int) (bl : List (Int × Int)) (hc : askCode bs x = cd) (ha : atIf (askCode bs x) x = at') (hb : dropList bs x = bl) :
    Calls Try.prog 34 #[.slice ao n cap, .int .i64 x] w fun e w' => BlkRes w w' e cd at' bl := by
  have B : Below w.heap.size w (w.alloc (.cells #[.int .i64 0, .int .i64 0, .slice none 0 0] 51)) := (Below.refl _ _).alloc (Nat.le_refl _) _
  have z0 : (w.alloc (.cells #[.int .i64 0, .int .i64 0, .slice none 0 0] 51)).cell? ⟨w.heap.size, 0, none⟩ = some (.int .i64 0) := by simp
  have z1 : (w.alloc (.cells #[.int .i64 0, .int .i64 0, .slice none 0 0] 51)).cell? ⟨w.heap.size, 1, none⟩ = some (.int .i64 0) := by simp
  have z2 : (w.alloc (.cells #[.int .i64 0, .int .i64 0, .slice none 0 0] 51)).cell? ⟨w.heap.size, 2, none⟩ = some (.slice none 0 0) := by simp
  have y0 : (w.alloc (.cells #[.int .i64 0, .int .i64 0, .slice none 0 0] 51)).frozen? ⟨w.heap.size, 0, none⟩ = false := by simp
  have y1 : (w.alloc (.cells #[.int .i64 0, .int .i64 0, .slice none 0 0] 51)).frozen? ⟨w.heap.size, 1, none⟩ = false := by simp
  have y2 : (w.alloc (.cells #[.int .i64 0, .int .i64 0, .slice none 0 0] 51)).frozen? ⟨w.heap.size, 2, none⟩ = false := by simp
  have hz : w.heap.size < (w.alloc (.cells #[.int .i64 0, .int .i64 0, .slice none 0 0] 51)).heap.size := by simp
  have r := h.below B
  have hl := h.nPairs
  by_cases h0 : askCode bs x = 0
  · have H0 : Hid _ := h0
    obtain ⟨k, rfl, hkl, hb0, hnz⟩ := ask_zero h0
    have h24 := (blkFault_zero hb0).1
    have HG : Hid (Fine bs) := fine_of (blkFault_zero hb0).2
    have hlt : k < n := by omega
    have hlk : (k : Int) < n := by omega
    obtain ⟨h1, h2, h3, h4, _⟩ := blkOne_zero (blkGo_all (blkFault_zero hb0).2 (bs.getD k (0, 0)) (by rw [List.getD_eq_getElem?_getD, List.getElem?_eq_getElem hkl]; exact List.getElem_mem hkl))
    have HS : Hid (Small (bs.getD k (0, 0)) ∧ (bs.getD k (0, 0)).1 ≠ 0) := ⟨(HG.out.at hkl).1, hnz⟩
    have t2 : dropList bs (k : Int) = bs.set k (less1 (bs.getD k (0, 0))) := by rw [dropList, if_pos h0, Int.toNat_natCast]
    rw [h0] at ha
    rw [h0] at hc
    rw [t2] at hb
    obtain rfl : at' = (k : Int) := ha.symm
    subst hc
    subst hb
    have hsm := less_small (HG.out.at hkl).1 hnz
    obtain ⟨p, hp⟩ : ∃ p, bs.getD k (0, 0) = p := ⟨_, rfl⟩
    rw [hp] at HS hsm h1 h2 h3 h4 ⊢
    have HP : Hid _ := hp
    clear hp h0 t2 ha hb0 hnz
    go_enter Try.func34, Try.ntmps34
    go_wp2_with fail
    refine (takenFault_is _ n cap bs _ _ (by exact r) hn 0 H0.out).mono ?_
    rintro e w1 ⟨rfl, hb⟩
    replace z0 := cell_later hb z0
    replace z1 := cell_later hb z1
    replace z2 := cell_later hb z2
    replace y0 := frozen_later hb hz y0
    replace y1 := frozen_later hb hz y1
    replace y2 := frozen_later hb hz y2
    replace r := r.below hb
    replace hz := Nat.lt_of_lt_of_le hz hb.size
    replace B := below_next B hb
    clear hb
    go_wp2_with fail
    refine (numbersOf_ex _ n cap bs _ (by exact r) (by omega)).mono ?_
    rintro e w2 ⟨g, hge, rfl, RN, hb⟩
    have hzg := Nat.lt_of_lt_of_le hz hge
    clear hge
    replace z0 := cell_later hb z0
    replace z1 := cell_later hb z1
    replace z2 := cell_later hb z2
    replace y0 := frozen_later hb hz y0
    replace y1 := frozen_later hb hz y1
    replace y2 := frozen_later hb hz y2
    replace r := r.below hb
    replace hz := Nat.lt_of_lt_of_le hz hb.size
    replace B := below_next B hb
    clear hb
    obtain ⟨_, _, e', _, _, _, c0, f0⟩ := RN.one hlt
    cases e'
    replace f0 := f0 rfl
    rw [nums_getD bs k (by omega), Nat.zero_add] at c0
    rw [Nat.zero_add] at f0
    have hst := store_num c0 f0
    have RS := RN.stored (i := k) (by omega) (numOf (less1 p))
    rw [Nat.zero_add, nums_set] at RS
    have K : Kept g (g + 1) w2 (w2.setCell ⟨g, k, none⟩ (numOf (less1 p))) := by refine Kept.setCell (Kept.refl _ _ _) ?_ ?_ _ <;> simp
    replace z0 := K.cell z0 (by omega)
    replace z1 := K.cell z1 (by omega)
    replace z2 := K.cell z2 (by omega)
    replace y0 := K.frozen hz (by omega) y0
    replace y1 := K.frozen hz (by omega) y1
    replace y2 := K.frozen hz (by omega) y2
    replace B := B.trans (K.below _ (by omega) (by omega))
    replace hz := Nat.lt_of_lt_of_le hz K.size
    clear K
    rw [HP.out] at c0
    simp only [numOf] at hst RS z0 z1 z2 y0 y1 y2 B hz c0
    go_wp2_with fail
    refine (dropped_is p _ HS.out.1 HS.out.2).mono ?_
    rintro e w9 ⟨rfl, rfl⟩
    go_wp2_with (simp only [numOf])
    refine (blocksAnswer_any (k : Int) _ n _ (bs.set k (less1 p)) _ RS (small_set HG.out k hsm) (by omega)).mono ?_
    rintro e w8 ⟨ra, rn, rc, rfl, RR, hb⟩
    replace RR := RR.widen (lo' := w.heap.size + 1) (by first | exact hz | (simp [World.setCell] at hz ⊢; omega)) (Nat.le_refl _)
    replace z0 := cell_later hb z0
    replace z1 := cell_later hb z1
    replace z2 := cell_later hb z2
    replace y0 := frozen_later hb hz y0
    replace y1 := frozen_later hb hz y1
    replace y2 := frozen_later hb hz y2
    replace hz := Nat.lt_of_lt_of_le hz hb.size
    replace B := below_next B hb
    clear hb
    go_wp2
    refine bodyPost_ret (v := .agg #[.int .i64 0, .int .i64 (k : Int), .slice ra rn rc]) (by simp [results, Try.results34, go_sem, z0, z1, z2]) rfl ⟨_, _, _, rfl, ?_, ?_⟩
    · refine RowAt.widen (RowAt.kept RR (l := w.heap.size) (u := w.heap.size + 1) ?_ (by omega)) (by omega) ?_
      · refine Kept.setCell (Kept.setCell (Kept.setCell (Kept.refl _ _ _) ?_ ?_ _) ?_ ?_ _) ?_ ?_ _ <;> simp
      · simp
    · refine Below.setCell (Below.setCell (Below.setCell B ?_ _) ?_ _) ?_ _ <;> simp
  · have t0 : askCode bs x = askCode bs x := rfl
    have t1 : atIf (askCode bs x) x = 0 := by rw [t0, atIf, if_neg h0]
    rw [t1] at ha
    have t2 : dropList bs x = [] := by rw [dropList, if_neg h0]
    rw [t0] at hc
    rw [t2] at hb
    subst ha
    subst hb
    rw [hc] at h0
    have HC : Hid _ := hc
    have hne : (cd != 0) = true := by simp [h0]
    clear h0 hc t0 t1 t2
    go_enter Try.func34, Try.ntmps34
    go_wp2_with fail
    refine (takenFault_is _ n cap bs _ _ (by exact r) hn cd HC.out).mono ?_
    rintro e w1 ⟨rfl, hb⟩
    replace z0 := cell_later hb z0
    replace z1 := cell_later hb z1
    replace z2 := cell_later hb z2
    replace y0 := frozen_later hb hz y0
    replace y1 := frozen_later hb hz y1
    replace y2 := frozen_later hb hz y2
    replace r := r.below hb
    replace hz := Nat.lt_of_lt_of_le hz hb.size
    replace B := below_next B hb
    clear hb
    go_wp2
    refine bodyPost_ret (v := .agg #[.int .i64 cd, .int .i64 0, .slice none 0 0]) (by simp [results, Try.results34, go_sem, z0, z1, z2]) rfl ⟨_, _, _, rfl, RowAt.nil _ _ _ _ _, ?_⟩
    refine Below.setCell (Below.setCell (Below.setCell B ?_ _) ?_ _) ?_ _ <;> simp

end Go.Proofs.Ytlblbjebbecgbaa
