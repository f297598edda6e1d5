/- What the program's CrashDisk answers. -/
import Derived.Test.YtlblbjebbecgbaaAll
import Derived.Test.YtlblbjebbecgbaaBools
namespace Go.Proofs.Ytlblbjebbecgbaa
open Go.RowKit

/-- The puts that are picked, in order. -/
def picked (ys : List (Int × Int)) (bs : List Bool) : List (Int × Int) := ((ys.zip bs).filter (·.2)).map (·.1)
theorem picked_snoc (ys : List (Int × Int)) (bs : List Bool) (k : Nat) (h1 : k < ys.length) (h2 : k < bs.length) : picked (ys.take (k + 1)) (bs.take (k + 1)) = picked (ys.take k) (bs.take k) ++ (if bs.getD k false then [ys.getD k (0, 0)] else []) := by
  have e : (ys.take (k + 1)).zip (bs.take (k + 1)) = (ys.take k).zip (bs.take k) ++ [(ys.getD k (0, 0), bs.getD k false)] := by
    rw [take_snoc_getD ys (0, 0) k h1, take_snoc_getD bs false k h2, List.zip_append (by simp; omega)]
    rfl
  unfold picked
  rw [e, List.filter_append, List.map_append]
  congr 1
  cases bs.getD k false <;> simp
theorem picked_end (ys : List (Int × Int)) (bs : List Bool) (k : Nat) (h : k = min ys.length bs.length) : picked (ys.take k) (bs.take k) = picked ys bs := by
  unfold picked
  have : (ys.take k).zip (bs.take k) = ys.zip bs := by
    simp only [List.zip_eq_zipWith]
    rw [← List.take_zipWith, List.take_of_length_le (by simp; omega)]
  rw [this]
theorem picked_len (ys : List (Int × Int)) (bs : List Bool) : (picked ys bs).length ≤ ys.length := by
  unfold picked
  rw [List.length_map]
  exact Nat.le_trans (List.length_filter_le _ _) (by rw [List.length_zip]; omega)
theorem picked_places {ys : List (Int × Int)} (h : placesB ys = true) (bs : List Bool) : placesB (picked ys bs) = true := by
  refine List.all_eq_true.2 fun p hp => ?_
  unfold picked at hp
  obtain ⟨q, hq, rfl⟩ := List.mem_map.1 hp
  exact List.all_eq_true.1 h _ (List.of_mem_zip (List.mem_filter.1 hq).1).1

set_option maxRecDepth 20000 in
set_option maxHeartbeats 1000000 in
theorem pickedPuts_any {o1 o2 : Bool} {l1 u1 l2 u2 : Nat} (a1 : Option Addr) (n1 c1 : Nat) (ys : List (Int × Int)) (a2 : Option Addr) (n2 c2 : Nat) (bs : List Bool) (w : World) (h1 : RowAt w o1 l1 u1 2 a1 n1 c1 (pairs ys)) (h2 : RowAt w o2 l2 u2 1 a2 n2 c2 (bls bs)) (hn1 : n1 ≤ 2097152) (hn2 : n2 ≤ 2097152) :
    Calls Try.prog 79 #[.slice a1 n1 c1, .slice a2 n2 c2] w fun e w' => ∃ ao n cap, e = .returned (.slice ao n cap) ∧ RowAt w' true w.heap.size w'.heap.size 2 ao n cap (pairs (picked ys bs)) ∧ Below w.heap.size w w' := by
  have hy := h1.nPairs
  have hb := h2.nBools
  obtain ⟨i0, hi0, hz0, hz1, hz2⟩ := info_parts Try.infoPut
  go_enter Try.func79, Try.ntmps79
  go_wp2
  all_goals
    go_loopw [5, 12] (fun v i wr => ∃ k : Nat, k ≤ min n1 n2 ∧ i = .int .i64 k ∧ wr.ownsRow w.heap.size 41 2 v (picked (ys.take k) (bs.take k)).length (pairs (picked (ys.take k) (bs.take k))) ∧ Below w.heap.size w wr) (fun _ i _ => min n1 n2 - (intOf i).toNat)
    case atStart => exact ⟨0, Nat.zero_le _, rfl, World.ownsRow_nil _ _ _ _, Below.refl _ _⟩
    case round =>
      obtain ⟨k, hk, rfl, hown, hbw⟩ := hrel
      by_cases hlt : k < min n1 n2
      · have hk1 : k < n1 := by omega
        have hk2 : k < n2 := by omega
        have hl1 : (k : Int) < n1 := by omega
        have hl2 : (k : Int) < n2 := by omega
        obtain ⟨b1, f1, rfl, _, _, hs1, e1, e1', _⟩ := h1.pair hk1
        obtain ⟨b2, f2, rfl, _, _, hs2, e2, _⟩ := h2.bool hk2
        have g1 : wr.cell? ⟨b1, f1 + k * 2, none⟩ = some (.int .i64 (ys.getD k (0, 0)).1) := (hbw.cell (p := ⟨b1, f1 + k * 2, none⟩) hs1).trans e1
        have g1' : wr.cell? ⟨b1, f1 + k * 2 + 1, none⟩ = some (.int .i64 (ys.getD k (0, 0)).2) := (hbw.cell (p := ⟨b1, f1 + k * 2 + 1, none⟩) hs1).trans e1'
        have g2 : wr.cell? ⟨b2, f2 + k, none⟩ = some (.bool (bs.getD k false)) := (hbw.cell (p := ⟨b2, f2 + k, none⟩) hs2).trans e2
        have hsn := picked_snoc ys bs k (by omega) (by omega)
        have hpl := picked_len (ys.take k) (bs.take k)
        have hpl' : (picked (ys.take k) (bs.take k)).length ≤ n1 := Nat.le_trans hpl (by simp; omega)
        have HS : Hid _ := hsn
        clear e1 e1' e2 hsn hpl
        obtain ⟨P, hP⟩ : ∃ P, picked (ys.take k) (bs.take k) = P := ⟨_, rfl⟩
        obtain ⟨Q, hQ⟩ : ∃ Q, picked (ys.take (k + 1)) (bs.take (k + 1)) = Q := ⟨_, rfl⟩
        have HS2 : Hid (Q = P ++ (if bs.getD k false then [ys.getD k (0, 0)] else [])) := by rw [← hP, ← hQ]; exact HS.out
        rw [hP] at hown hpl'
        have HQ : Hid _ := hQ
        clear hP hQ HS
        cases hd : bs.getD k false with
        | false =>
          have HE : Hid (Q = P) := by show Q = P; have := HS2.out; rw [hd] at this; simpa using this
          rw [hd] at g2
          clear hd
          go_wp2
          go_roundw
          case rel => exact ⟨k + 1, by omega, by go_num, by rw [HQ.out, HE.out]; exact hown, hbw⟩
          case measure => simp [intOf]; omega
        | true =>
          have HE : Hid (Q = P ++ [ys.getD k (0, 0)]) := by show Q = P ++ [ys.getD k (0, 0)]; have := HS2.out; rw [hd] at this; simpa using this
          rw [hd] at g2
          clear hd
          obtain ⟨x, hxe⟩ : ∃ x, x = (ys.getD k (0, 0)).1 := ⟨_, rfl⟩
          obtain ⟨y, hye⟩ : ∃ y, y = (ys.getD k (0, 0)).2 := ⟨_, rfl⟩
          rw [← hxe] at g1
          rw [← hye] at g1'
          have HX : Hid (x = (ys.getD k (0, 0)).1) := hxe
          have HY : Hid (y = (ys.getD k (0, 0)).2) := hye
          clear hxe hye
          have hB := hbw.size
          have hownA := hown.alloc (.cells #[.int .i64 x, .int .i64 y] 41)
          go_wp2_with (first | (at_builtin; refine wpList_append_own _ rfl _ _ 25 rfl w.heap.size 41 i0 (.agg #[.int .i64 0, .int .i64 0]) 2 16 Try.underlying25 hi0 hz0 hz1 hz2 rfl (by decide) _ _ _ rfl hownA ⟨wr.heap.size, 0, none⟩ 1 1 [.int .i64 x, .int .i64 y] rfl rfl ?_ ?_ ?_ ?_ ?_ ?_))
          · intro j u hj
            match j, hj with
            | 0, hj => simp at hj; subst hj; simp [Addr.add]
            | 1, hj => simp at hj; subst hj; simp [Addr.add]
          · intro u hu; simp at hu; rcases hu with rfl | rfl <;> rfl
          · unfold maxLen; omega
          · omega
          · simp; omega
          intro v' w1 hown' hgrow _
          have hb1 : Below w.heap.size w w1 := (hbw.alloc hB _).grown hgrow (by simp; omega) (fun g hg => (hownA.lt g hg).1)
          have hown2 : w1.ownsRow w.heap.size 41 2 v' Q.length (pairs Q) := by
            rw [HE.out, pairs_append, List.length_append]
            have e : pairs [ys.getD k (0, 0)] = [.int .i64 x, .int .i64 y] := by rw [HX.out, HY.out]; rfl
            rw [e]
            exact hown'
          clear hown' hgrow hown hbw hownA
          go_wp2
          go_roundw
          case rel => exact ⟨k + 1, by omega, by go_num, by rw [HQ.out]; exact hown2, hb1⟩
          case measure => simp [intOf]; omega
      · have hkm : k = min ys.length bs.length := by omega
        rw [picked_end ys bs k hkm] at hown
        obtain ⟨ao, cap, rfl, R⟩ := RowAt.of_owned hown
        clear hkm hown
        go_wp2
        go_ret
        exact ⟨_, _, _, rfl, R, hbw⟩

def crashRes (xs : List Int) (ys : List (Int × Int)) (bs : List Bool) : List Int := if faultOf xs ys = 0 then putAll xs (picked ys bs) else []

set_option maxRecDepth 20000 in
set_option maxHeartbeats 2000000 in
theorem implCrash_any {o0 o1 o2 : Bool} {l0 u0 l1 u1 l2 u2 : Nat} (a0 a1 : Option Addr) (n0 c0 n1 c1 : Nat) (xs : List Int) (ys : List (Int × Int)) (a2 : Option Addr) (n2 c2 : Nat) (bs : List Bool) (w : World) (h0 : RowAt w o0 l0 u0 1 a0 n0 c0 (ints xs)) (h1 : RowAt w o1 l1 u1 2 a1 n1 c1 (pairs ys)) (h2 : RowAt w o2 l2 u2 1 a2 n2 c2 (bls bs)) (hn : n0 ≤ 2097152) (hm : n1 ≤ 2097152) (hq : n2 ≤ 2097152) :
    Calls Try.prog 20 #[.agg #[.slice a0 n0 c0, .slice a1 n1 c1], .slice a2 n2 c2] w fun e w' => DiskRes w w' e (faultOf xs ys) (crashRes xs ys bs) [] := by
  have B1 : Below w.heap.size w ((w.alloc (.cells #[.slice a0 n0 c0, .slice a1 n1 c1] 27)).alloc (.cells #[.int .i64 0, .slice none 0 0, .slice none 0 0] 32)) := ((Below.refl _ _).alloc (Nat.le_refl _) _).alloc (by simp) _
  by_cases h0f : faultOf xs ys = 0
  · obtain ⟨hx, hy, hpl⟩ := fault_zero h0f
    have hr : crashRes xs ys bs = putAll xs (picked ys bs) := if_pos h0f
    have HF : Hid _ := h0f
    rw [hr, h0f]
    clear hr h0f
    go_enter Try.func20, Try.ntmps20
    go_wp2_with fail
    refine (implFault_is _ _ _ _ _ _ xs ys _ (by exact h0.below B1) (by exact h1.below B1) hn hm _ HF.out).mono ?_
    rintro e w1 ⟨rfl, hb1⟩
    have B2 := below_next B1 hb1
    have k0 : w1.cell? ⟨w.heap.size, 0, none⟩ = some (.slice a0 n0 c0) := cell_later hb1 (by simp)
    have k1 : w1.cell? ⟨w.heap.size, 1, none⟩ = some (.slice a1 n1 c1) := cell_later hb1 (by simp)
    have z0 : w1.cell? ⟨w.heap.size + 1, 0, none⟩ = some (.int .i64 0) := cell_later hb1 (by simp)
    have z1 : w1.cell? ⟨w.heap.size + 1, 1, none⟩ = some (.slice none 0 0) := cell_later hb1 (by simp)
    have z2 : w1.cell? ⟨w.heap.size + 1, 2, none⟩ = some (.slice none 0 0) := cell_later hb1 (by simp)
    have y0 : w1.frozen? ⟨w.heap.size + 1, 0, none⟩ = false := frozen_later hb1 (by simp) (by simp)
    have y1 : w1.frozen? ⟨w.heap.size + 1, 1, none⟩ = false := frozen_later hb1 (by simp) (by simp)
    have y2 : w1.frozen? ⟨w.heap.size + 1, 2, none⟩ = false := frozen_later hb1 (by simp) (by simp)
    have hz : w.heap.size + 1 < w1.heap.size := by have := hb1.size; simp at this; omega
    clear hb1
    have D : Below w1.heap.size w1 w1.drew := (Below.refl _ _).drew
    have B := below_next B2 D
    have k0 := cell_later D k0
    have k1 := cell_later D k1
    have z0 := cell_later D z0
    have z1 := cell_later D z1
    have z2 := cell_later D z2
    have y0 := frozen_later D hz y0
    have y1 := frozen_later D hz y1
    have y2 := frozen_later D hz y2
    have hz : w.heap.size + 1 < w1.drew.heap.size := hz
    have q0 := h0.below B
    clear D
    have hpl2 := picked_places hpl bs
    have hso : ∀ (W' : World) (u : Value) (i j : Nat), (W'.setCell ⟨w.heap.size + 1, j, none⟩ u).cell? ⟨w.heap.size, i, none⟩ = W'.cell? ⟨w.heap.size, i, none⟩ := fun W' u i j => World.cell?_setCell_other _ _ _ _ (by intro e; simp at e)
    go_wp2_with fail
    go_region_held3 (fun w' => w'.cell? ⟨w.heap.size, 0, none⟩ = some (.slice a0 n0 c0) ∧ w'.cell? ⟨w.heap.size, 1, none⟩ = some (.slice a1 n1 c1)) (first | exact ⟨k0, k1⟩ | (simp only [hso]; exact ⟨k0, k1⟩))
      (first | (go_at_call 78; refine (sectorsOf_full _ _ _ xs _ q0 hx).mono ?_; rintro e w2 ⟨rfl, hb⟩; have k0 := cell_later hb k0; have k1 := cell_later hb k1; have z0 := cell_later hb z0; have z1 := cell_later hb z1; have z2 := cell_later hb z2; have y0 := frozen_later hb hz y0; have y1 := frozen_later hb hz y1; have y2 := frozen_later hb hz y2; have hz := Nat.lt_of_lt_of_le hz hb.size; have B := below_next B hb; have q1 := h1.below B; have q2 := h2.below B; clear hb) | (go_at_call 79; refine (pickedPuts_any _ _ _ ys _ _ _ bs _ q1 q2 hm hq).mono ?_; rintro e w3 ⟨pa, pn, pc, rfl, r3, hb⟩; have k0 := cell_later hb k0; have k1 := cell_later hb k1; have z0 := cell_later hb z0; have z1 := cell_later hb z1; have z2 := cell_later hb z2; have y0 := frozen_later hb hz y0; have y1 := frozen_later hb hz y1; have y2 := frozen_later hb hz y2; have hz := Nat.lt_of_lt_of_le hz hb.size; have B := below_next B hb; clear hb q1 q2; have hpn : pn ≤ 2097152 := Nat.le_trans (by rw [← r3.nPairs]; exact picked_len ys bs) (by omega)) | (go_at_call 77; refine (afterPuts_any xs hx _ _ _ (picked ys bs) _ r3 hpn hpl2).mono ?_; rintro e w4 ⟨rfl, hb⟩; have k0 := cell_later hb k0; have k1 := cell_later hb k1; have z0 := cell_later hb z0; have z1 := cell_later hb z1; have z2 := cell_later hb z2; have y0 := frozen_later hb hz y0; have y1 := frozen_later hb hz y1; have y2 := frozen_later hb hz y2; have hz := Nat.lt_of_lt_of_le hz hb.size; have B := below_next B hb; clear hb r3) | (go_at_call 76; refine (cleanDisk_any (putAll xs (picked ys bs)) (by rw [putAll_len]; exact hx) _).mono ?_; rintro e w5 ⟨rfl, r5, hb⟩; have S4 := B.size; have k0 := cell_later hb k0; have k1 := cell_later hb k1; have z0 := cell_later hb z0; have z1 := cell_later hb z1; have z2 := cell_later hb z2; have y0 := frozen_later hb hz y0; have y1 := frozen_later hb hz y1; have y2 := frozen_later hb hz y2; have hz := Nat.lt_of_lt_of_le hz hb.size; have B := below_next B hb; have S5 := hb.size; clear hb))
    go_wp2
    refine bodyPost_ret (v := .agg #[.int .i64 0, .slice (some ⟨w4.heap.size, 0, none⟩) 64 64, .slice none 0 0]) (by simp [results, Try.results20, go_sem, z0, z1, z2]) rfl ⟨_, _, _, _, _, _, rfl, ⟨_, ?_, Nat.le_refl _, RowAt.widen (RowAt.kept r5 (l := w.heap.size + 1) (u := w.heap.size + 2) ?_ (by omega)) (by omega) ?_, RowAt.nil _ _ _ _ _⟩, ?_⟩
    · simp; omega
    · refine Kept.setCell (Kept.setCell (Kept.setCell (Kept.refl _ _ _) ?_ ?_ _) ?_ ?_ _) ?_ ?_ _ <;> simp
    · simp
    · refine Below.setCell (Below.setCell (Below.setCell B ?_ _) ?_ _) ?_ _ <;> simp
  · have hr : crashRes xs ys bs = [] := if_neg h0f
    rw [hr]
    obtain ⟨f, hf⟩ : ∃ f, faultOf xs ys = f := ⟨_, rfl⟩
    rw [hf] at h0f ⊢
    have hne : (f != 0) = true := by simp [h0f]
    have HF : Hid _ := hf
    clear hr h0f hf
    go_enter Try.func20, Try.ntmps20
    go_wp2_with fail
    refine (implFault_is _ _ _ _ _ _ xs ys _ (by exact h0.below B1) (by exact h1.below B1) hn hm _ HF.out).mono ?_
    rintro e w1 ⟨rfl, hb1⟩
    have B2 := below_next B1 hb1
    have z0 : w1.cell? ⟨w.heap.size + 1, 0, none⟩ = some (.int .i64 0) := cell_later hb1 (by simp)
    have z1 : w1.cell? ⟨w.heap.size + 1, 1, none⟩ = some (.slice none 0 0) := cell_later hb1 (by simp)
    have z2 : w1.cell? ⟨w.heap.size + 1, 2, none⟩ = some (.slice none 0 0) := cell_later hb1 (by simp)
    have y0 : w1.frozen? ⟨w.heap.size + 1, 0, none⟩ = false := frozen_later hb1 (by simp) (by simp)
    have y1 : w1.frozen? ⟨w.heap.size + 1, 1, none⟩ = false := frozen_later hb1 (by simp) (by simp)
    have y2 : w1.frozen? ⟨w.heap.size + 1, 2, none⟩ = false := frozen_later hb1 (by simp) (by simp)
    have hz : w.heap.size + 1 < w1.heap.size := by have := hb1.size; simp at this; omega
    clear hb1
    go_wp2
    refine bodyPost_ret (v := .agg #[.int .i64 f, .slice none 0 0, .slice none 0 0]) (by simp [results, Try.results20, go_sem, z0, z1, z2]) rfl ⟨_, _, _, _, _, _, rfl, ⟨w.heap.size, Nat.le_refl _, ?_, RowAt.nil _ _ _ _ _, RowAt.nil _ _ _ _ _⟩, ?_⟩
    · simp; omega
    · refine Below.setCell (Below.setCell (Below.setCell B2 ?_ _) ?_ _) ?_ _ <;> simp

end Go.Proofs.Ytlblbjebbecgbaa
