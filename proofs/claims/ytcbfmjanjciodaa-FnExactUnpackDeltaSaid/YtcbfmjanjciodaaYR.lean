/- Chapter 7, plain: a difference as words. -/
import Derived.Test.YtcbfmjanjciodaaEX
import Derived.Test.YtcbfmjanjciodaaYQ
import Derived.Test.YtcbfmjanjciodaaYU
import Derived.Test.YtcbfmjanjciodaaYN
namespace Go.Proofs.Ytcbfmjanjciodaa
open Go.RowKit

def packV (v : Vo) : Int := v.1 * 256 + v.2.1
def packH (s : St) : Int := (s.2.1 * 256 + s.2.2.1) * 2 + (if s.1 then 1 else 0)
def packVs (vs : List Vo) : List Int := vs.map packV
def packSs (ss : List St) : List Int := ss.flatMap fun s => [packH s, s.2.2.2]
def packW (fr tt : Int) (vs : List Vo) (ss : List St) : List Int := [fr, tt, (vs.length : Int)] ++ packVs vs ++ [(ss.length : Int)] ++ packSs ss
theorem packVs_take {vs : List Vo} {k : Nat} (h : k < vs.length) : packVs (vs.take (k + 1)) = packVs (vs.take k) ++ [packV (vs.getD k vo0)] := by
  unfold packVs
  rw [List.take_succ_eq_append_getElem h, List.map_append, List.getD_eq_getElem?_getD, List.getElem?_eq_getElem h, Option.getD_some]
  rfl
theorem packSs_take {ss : List St} {k : Nat} (h : k < ss.length) : packSs (ss.take (k + 1)) = packSs (ss.take k) ++ [packH (ss.getD k st0), (ss.getD k st0).2.2.2] := by
  unfold packSs
  rw [List.take_succ_eq_append_getElem h, List.flatMap_append, List.getD_eq_getElem?_getD, List.getElem?_eq_getElem h, Option.getD_some]
  rfl
theorem packSs_len (ss : List St) : (packSs ss).length = 2 * ss.length := by
  induction ss with
  | nil => rfl
  | cons s ss ih => rw [show packSs (s :: ss) = [packH s, s.2.2.2] ++ packSs ss from rfl, List.length_append, ih, List.length_cons]; simp; omega
theorem packW_len (fr tt : Int) (vs : List Vo) (ss : List St) : (packW fr tt vs ss).length = 4 + vs.length + 2 * ss.length := by
  unfold packW
  simp [packVs, packSs_len]
  omega
/-- numbers that packing does not outgrow -/
def VolSm (vs : List Vo) : Prop := ∀ i, i < vs.length → (0 ≤ (vs.getD i vo0).1 ∧ (vs.getD i vo0).1 ≤ 99) ∧ (0 ≤ (vs.getD i vo0).2.1 ∧ (vs.getD i vo0).2.1 ≤ 16)
def StSm (ss : List St) : Prop := ∀ i, i < ss.length → (0 ≤ (ss.getD i st0).2.1 ∧ (ss.getD i st0).2.1 ≤ 99) ∧ (0 ≤ (ss.getD i st0).2.2.1 ∧ (ss.getD i st0).2.2.1 ≤ 15)
theorem volSm_of {vs : List Vo} (h : pvFault vs = 0) : VolSm vs := fun i hi => by
  have := pvOne_ok (pv_ok h i hi)
  omega
theorem stSm_of {ss : List St} (h : stFault ss = 0) : StSm ss := fun i hi => by
  have := stOne_ok (st_ok h i hi)
  omega
def packL (fr tt : Int) (vs : List Vo) (ss : List St) : List Int := if deFault fr tt vs ss = 0 then packW fr tt vs ss else []

end Go.Proofs.Ytcbfmjanjciodaa

/- Chapter 7: a difference as words, by the model. -/
namespace Go.Proofs.Ytcbfmjanjciodaa
open Go.RowKit

set_option maxRecDepth 20000 in
set_option maxHeartbeats 4000000 in
theorem l7Pack_is {o : Bool} {lo hi : Nat} (fr tt : Int) (av : Option Addr) (nv cv : Nat) (aq : Option Addr) (nq cq : Nat) (vs : List Vo) (ss : List St) (w : World) (h : DeAt w o lo hi av nv cv aq nq cq vs ss) (hnv : nv ≤ 100000) (hnq : nq ≤ 100000) (hV : VolSm vs) (hS : StSm ss) : Calls Try.prog 117 #[.agg #[.int .i64 fr, .int .i64 tt, .slice av nv cv, .slice aq nq cq]] w fun e w' => ∃ a n c, e = .returned (.slice a n c) ∧ RowAt w' true w.heap.size w'.heap.size 1 a n c (ints (packW fr tt vs ss)) ∧ Below w.heap.size w w' := by
  have hvl := h.vol.nTrips
  have hsl := h.ste.nQuads
  have HV : Hid _ := hV
  have HS : Hid _ := hS
  clear hV hS
  go_enter Try.func117, Try.ntmps117
  go_wp2_with (first | ((with_reducible refine box_new 78 #[.int .i64 fr, .int .i64 tt, .slice av nv cv, .slice aq nq cq] rfl ?_); intro b0 W0 N0; have O0 : Hid (w.heap.size ≤ b0) := N0.ge; have B := N0.below; have H0 : Hid (b0 < W0.heap.size) := N0.lt; have c0_0 : W0.cell? ⟨b0, 0, none⟩ = some (.int .i64 fr) := N0.cell 0 _ rfl; have c0_1 : W0.cell? ⟨b0, 1, none⟩ = some (.int .i64 tt) := N0.cell 1 _ rfl; have c0_2 : W0.cell? ⟨b0, 2, none⟩ = some (.slice av nv cv) := N0.cell 2 _ rfl; have c0_3 : W0.cell? ⟨b0, 3, none⟩ = some (.slice aq nq cq) := N0.cell 3 _ rfl; clear N0))
  have O1 : (W0.alloc (.cells #[.int .i64 fr, .int .i64 tt, .int .i64 (nv : Int)] 2)).ownsRow (b0 + 1) 2 1 (.slice (some ⟨W0.heap.size, 0, none⟩) 3 3) 3 (ints [fr, tt, (nv : Int)]) := World.ownsRow_lit W0 #[.int .i64 fr, .int .i64 tt, .int .i64 (nv : Int)] 3 H0.out (by unfold maxLen; omega) rfl
  have C1 : Below (b0 + 1) W0 (W0.alloc (.cells #[.int .i64 fr, .int .i64 tt, .int .i64 (nv : Int)] 2)) := ((Below.refl _ _).alloc (Nat.le_refl _) _).mono H0.out
  have HB : Hid (w.heap.size ≤ b0 + 1) := Nat.le_succ_of_le O0.out
  have HZ : Hid _ := H0.out
  go_loopw [3, 4] (fun v i wr => ∃ k : Nat, k ≤ nv ∧ i = .int .i64 k ∧ wr.ownsRow (b0 + 1) 2 1 v (3 + k) (ints ([fr, tt, (nv : Int)] ++ packVs (vs.take k))) ∧ Below (b0 + 1) W0 wr) (fun _ i _ => nv - (intOf i).toNat)
  case atStart => exact ⟨0, Nat.zero_le _, rfl, by simpa [packVs] using O1, C1⟩
  case round =>
    clear O1 C1
    obtain ⟨k, hk, rfl, hown, C⟩ := hrel
    have hb : Below w.heap.size w wr := B.trans (C.mono HB.out)
    have g2 := (C.cell (p := ⟨b0, 2, none⟩) (Nat.lt_succ_self _)).trans c0_2
    have HC : Hid (b0 + 1 ≤ wr.heap.size) := Nat.le_trans HZ.out C.size
    by_cases hlt : k < nv
    · have HT : Hid _ := packVs_take (vs := vs) (k := k) (by omega)
      have sm := HV.out k (by omega)
      obtain ⟨b, off, rfl, _, _, hbs, v0, v1, v2, _⟩ := h.vol.trip hlt
      have u0 := v0
      have u1 := v1
      replace v0 := cell_later hb v0
      replace v1 := cell_later hb v1
      have hlk : (k : Int) < (nv : Int) := by omega
      unfold packV at HT
      obtain ⟨⟨x, y, z⟩, hx⟩ : ∃ x, vs.getD k vo0 = x := ⟨_, rfl⟩
      rw [hx] at v0 v1 u0 u1 HT sm
      simp only at v0 v1 u0 u1 HT sm
      clear hx v2
      obtain ⟨X, hX⟩ : ∃ X : List Int, X = [fr, tt, (nv : Int)] ++ packVs (vs.take k) := ⟨_, rfl⟩
      rw [← hX] at hown
      have HX : Hid _ := hX
      clear hX
      have hw1 : IntKind.i64.wrap (x * 256) = x * 256 := wrapI_same _ (by omega)
      have hw2 : IntKind.i64.wrap (x * 256 + y) = x * 256 + y := wrapI_same _ (by omega)
      clear sm
      have D : Below wr.heap.size wr wr.drew := (Below.refl _ _).drew
      have e0 := cell_later D g2
      replace v0 := cell_later D v0
      replace v1 := cell_later D v1
      have hownA : (wr.drew.alloc (.cells #[.int .i64 (x * 256 + y)] 2)).ownsRow (b0 + 1) 2 1 _ _ _ := (owns_below hown D).alloc (.cells #[.int .i64 (x * 256 + y)] 2)
      have hcA : Below (b0 + 1) W0 (wr.drew.alloc (.cells #[.int .i64 (x * 256 + y)] 2)) := C.drew.alloc HC.out _
      have rl : RowAt (wr.drew.alloc (.cells #[.int .i64 (x * 256 + y)] 2)) true wr.heap.size (wr.heap.size + 1) 1 (some ⟨wr.heap.size, 0, none⟩) 1 1 (ints [x * 256 + y]) := row_lit wr.drew [.int .i64 (x * 256 + y)] 2 1 1 rfl
      have HBS : Hid (b0 + 1 ≤ (wr.drew.alloc (.cells #[.int .i64 (x * 256 + y)] 2)).heap.size) := Nat.le_trans HZ.out hcA.size
      clear D
      go_wp2_with fail
      go_region_held3 (fun w' => w'.cell? ⟨b0, 2, none⟩ = some (.slice (some ⟨b, off, none⟩) nv cv) ∧ w'.cell? ⟨b, off + k * 3, none⟩ = some (.int .i64 x) ∧ w'.cell? ⟨b, off + k * 3 + 1, none⟩ = some (.int .i64 y)) (first | with_reducible exact ⟨e0, v0, v1⟩ | exact ⟨cell_later ((Below.refl _ _).alloc (Nat.le_refl _) _) e0, cell_later ((Below.refl _ _).alloc (Nat.le_refl _) _) v0, cell_later ((Below.refl _ _).alloc (Nat.le_refl _) _) v1⟩ | exact ⟨(hc'.cell (p := ⟨b0, 2, none⟩) (Nat.lt_succ_self _)).trans c0_2, cell_later (B.trans (hc'.mono HB.out)) u0, cell_later (B.trans (hc'.mono HB.out)) u1⟩)
        (first | (refine step_app rfl _ _ rfl (b0 + 1) hownA ⟨wr.heap.size, 0, none⟩ 1 1 [x * 256 + y] rl rfl rfl (by omega) HBS.out hcA (Nat.le_refl _) ?_; intro v' w1 hown' hc'))
      have hown2 : w1.ownsRow (b0 + 1) 2 1 v' (3 + (k + 1)) (ints ([fr, tt, (nv : Int)] ++ packVs (vs.take (k + 1)))) := by
        rw [HT.out, ← List.append_assoc, ← HX.out]; exact hown'
      clear hown' hownA hcA rl hown hb e0 v0 v1 u0 u1 HT g2
      go_wp2
      go_roundw
      case rel => exact ⟨k + 1, by omega, by go_num, hown2, hc'⟩
      case measure => simp [intOf]; omega
    · obtain rfl : k = nv := by omega
      rw [show vs.take k = vs from List.take_of_length_le (by omega)] at hown
      obtain ⟨X, hX⟩ : ∃ X : List Int, X = [fr, tt, (k : Int)] ++ packVs vs := ⟨_, rfl⟩
      rw [← hX] at hown
      have HX : Hid _ := hX
      clear hX
      have g3 := (C.cell (p := ⟨b0, 3, none⟩) (Nat.lt_succ_self _)).trans c0_3
      have hownA : (wr.alloc (.cells #[.int .i64 (nq : Int)] 2)).ownsRow (b0 + 1) 2 1 _ _ _ := hown.alloc (.cells #[.int .i64 (nq : Int)] 2)
      have hcA : Below (b0 + 1) W0 (wr.alloc (.cells #[.int .i64 (nq : Int)] 2)) := C.alloc HC.out _
      have rl : RowAt (wr.alloc (.cells #[.int .i64 (nq : Int)] 2)) true wr.heap.size (wr.heap.size + 1) 1 (some ⟨wr.heap.size, 0, none⟩) 1 1 (ints [(nq : Int)]) := row_lit wr [.int .i64 (nq : Int)] 2 1 1 rfl
      go_wp2_with (first | (at_builtin; refine wp_app rfl _ _ rfl (b0 + 1) hownA ⟨wr.heap.size, 0, none⟩ 1 1 [(nq : Int)] rl rfl rfl (by omega) (Nat.le_trans HZ.out hcA.size) hcA (Nat.le_refl _) ?_))
      intro v1 w1 hown1 hc1
      have hown2 : w1.ownsRow (b0 + 1) 2 1 v1 (3 + k + 1) (ints ([fr, tt, (k : Int)] ++ packVs vs ++ [(nq : Int)])) := by
        rw [← HX.out]; exact hown1
      clear hown1 hownA hcA rl hown hb g2 g3 C
      go_wp2
      go_loopw [3, 5] (fun v i wr => ∃ m : Nat, m ≤ nq ∧ i = .int .i64 m ∧ wr.ownsRow (b0 + 1) 2 1 v (3 + k + 1 + 2 * m) (ints ([fr, tt, (k : Int)] ++ packVs vs ++ [(nq : Int)] ++ packSs (ss.take m))) ∧ Below (b0 + 1) W0 wr) (fun _ i _ => nq - (intOf i).toNat)
      case atStart => exact ⟨0, Nat.zero_le _, rfl, by simpa [packSs] using hown2, hc1⟩
      case round =>
        clear hown2 hc1
        obtain ⟨m, hm, rfl, hown, C⟩ := hrel
        have hb : Below w.heap.size w wr := B.trans (C.mono HB.out)
        have g3 := (C.cell (p := ⟨b0, 3, none⟩) (Nat.lt_succ_self _)).trans c0_3
        have HC : Hid (b0 + 1 ≤ wr.heap.size) := Nat.le_trans HZ.out C.size
        by_cases hlt2 : m < nq
        · have HT : Hid _ := packSs_take (ss := ss) (k := m) (by omega)
          have sm := HS.out m (by omega)
          obtain ⟨b, off, rfl, _, _, hbs, v0, v1, v2, v3⟩ := h.ste.quad hlt2
          replace v0 := cell_later hb v0
          replace v1 := cell_later hb v1
          replace v2 := cell_later hb v2
          replace v3 := cell_later hb v3
          have hlm : (m : Int) < (nq : Int) := by omega
          unfold packH at HT
          obtain ⟨⟨s, x, y, z⟩, hx⟩ : ∃ x, ss.getD m st0 = x := ⟨_, rfl⟩
          rw [hx] at v0 v1 v2 v3 HT sm
          simp only at v0 v1 v2 v3 HT sm
          clear hx
          obtain ⟨X, hX⟩ : ∃ X : List Int, X = [fr, tt, (k : Int)] ++ packVs vs ++ [(nq : Int)] ++ packSs (ss.take m) := ⟨_, rfl⟩
          rw [← hX] at hown
          have HX : Hid _ := hX
          clear hX
          have hw1 : IntKind.i64.wrap (x * 256) = x * 256 := wrapI_same _ (by omega)
          have hw2 : IntKind.i64.wrap (x * 256 + y) = x * 256 + y := wrapI_same _ (by omega)
          have hw3 : IntKind.i64.wrap ((x * 256 + y) * 2) = (x * 256 + y) * 2 := wrapI_same _ (by omega)
          have hw4 : IntKind.i64.wrap ((x * 256 + y) * 2 + 1) = (x * 256 + y) * 2 + 1 := wrapI_same _ (by omega)
          clear sm
          cases s with
          | false =>
            have HT2 : Hid (packSs (ss.take (m + 1)) = packSs (ss.take m) ++ [(x * 256 + y) * 2, z]) := by show _ = _; rw [HT.out]; simp
            have A1 : Below wr.heap.size wr ((wr.alloc (.cells #[.bool false, .int .i64 x, .int .i64 y, .int .i64 z] 141)).alloc (.cells #[.int .i64 ((x * 256 + y) * 2), .int .i64 z] 2)) := ((Below.refl _ _).alloc (Nat.le_refl _) _).alloc (by simp) _
            have hownA : ((wr.alloc (.cells #[.bool false, .int .i64 x, .int .i64 y, .int .i64 z] 141)).alloc (.cells #[.int .i64 ((x * 256 + y) * 2), .int .i64 z] 2)).ownsRow (b0 + 1) 2 1 _ _ _ := owns_below hown A1
            have hcA : Below (b0 + 1) W0 ((wr.alloc (.cells #[.bool false, .int .i64 x, .int .i64 y, .int .i64 z] 141)).alloc (.cells #[.int .i64 ((x * 256 + y) * 2), .int .i64 z] 2)) := C.trans (A1.mono HC.out)
            have rl : RowAt ((wr.alloc (.cells #[.bool false, .int .i64 x, .int .i64 y, .int .i64 z] 141)).alloc (.cells #[.int .i64 ((x * 256 + y) * 2), .int .i64 z] 2)) true (wr.heap.size + 1) (wr.heap.size + 1 + 1) 1 (some ⟨wr.heap.size + 1, 0, none⟩) 2 2 (ints [(x * 256 + y) * 2, z]) := by
              have := row_lit (wr.alloc (.cells #[.bool false, .int .i64 x, .int .i64 y, .int .i64 z] 141)) [.int .i64 ((x * 256 + y) * 2), .int .i64 z] 2 2 1 rfl
              simpa [ints] using this
            clear A1 HT
            go_wp2_with (first | (at_builtin; refine wp_app rfl _ _ rfl (b0 + 1) hownA ⟨wr.heap.size + 1, 0, none⟩ 2 2 [(x * 256 + y) * 2, z] rl (by first | rfl | simp) (by first | rfl | simp) (by omega) (Nat.le_trans HZ.out hcA.size) hcA (Nat.le_refl _) ?_))
            intro v' w1 hown' hc'
            have hown2 : w1.ownsRow (b0 + 1) 2 1 v' (3 + k + 1 + 2 * (m + 1)) (ints ([fr, tt, (k : Int)] ++ packVs vs ++ [(nq : Int)] ++ packSs (ss.take (m + 1)))) := by
              rw [HT2.out, ← List.append_assoc, ← HX.out]; exact hown'
            clear hown' hownA hcA rl hown hb v0 v1 v2 v3 g3 C
            go_wp2
            go_roundw
            case rel => exact ⟨m + 1, by omega, by go_num, hown2, hc'⟩
            case measure => simp [intOf]; omega
          | true =>
            have HT2 : Hid (packSs (ss.take (m + 1)) = packSs (ss.take m) ++ [(x * 256 + y) * 2 + 1, z]) := by show _ = _; rw [HT.out]; simp
            have A1 : Below wr.heap.size wr ((wr.alloc (.cells #[.bool true, .int .i64 x, .int .i64 y, .int .i64 z] 141)).alloc (.cells #[.int .i64 ((x * 256 + y) * 2 + 1), .int .i64 z] 2)) := ((Below.refl _ _).alloc (Nat.le_refl _) _).alloc (by simp) _
            have hownA : ((wr.alloc (.cells #[.bool true, .int .i64 x, .int .i64 y, .int .i64 z] 141)).alloc (.cells #[.int .i64 ((x * 256 + y) * 2 + 1), .int .i64 z] 2)).ownsRow (b0 + 1) 2 1 _ _ _ := owns_below hown A1
            have hcA : Below (b0 + 1) W0 ((wr.alloc (.cells #[.bool true, .int .i64 x, .int .i64 y, .int .i64 z] 141)).alloc (.cells #[.int .i64 ((x * 256 + y) * 2 + 1), .int .i64 z] 2)) := C.trans (A1.mono HC.out)
            have rl : RowAt ((wr.alloc (.cells #[.bool true, .int .i64 x, .int .i64 y, .int .i64 z] 141)).alloc (.cells #[.int .i64 ((x * 256 + y) * 2 + 1), .int .i64 z] 2)) true (wr.heap.size + 1) (wr.heap.size + 1 + 1) 1 (some ⟨wr.heap.size + 1, 0, none⟩) 2 2 (ints [(x * 256 + y) * 2 + 1, z]) := by
              have := row_lit (wr.alloc (.cells #[.bool true, .int .i64 x, .int .i64 y, .int .i64 z] 141)) [.int .i64 ((x * 256 + y) * 2 + 1), .int .i64 z] 2 2 1 rfl
              simpa [ints] using this
            clear A1 HT
            go_wp2_with (first | (at_builtin; refine wp_app rfl _ _ rfl (b0 + 1) hownA ⟨wr.heap.size + 1, 0, none⟩ 2 2 [(x * 256 + y) * 2 + 1, z] rl (by first | rfl | simp) (by first | rfl | simp) (by omega) (Nat.le_trans HZ.out hcA.size) hcA (Nat.le_refl _) ?_))
            intro v' w1 hown' hc'
            have hown2 : w1.ownsRow (b0 + 1) 2 1 v' (3 + k + 1 + 2 * (m + 1)) (ints ([fr, tt, (k : Int)] ++ packVs vs ++ [(nq : Int)] ++ packSs (ss.take (m + 1)))) := by
              rw [HT2.out, ← List.append_assoc, ← HX.out]; exact hown'
            clear hown' hownA hcA rl hown hb v0 v1 v2 v3 g3 C
            go_wp2
            go_roundw
            case rel => exact ⟨m + 1, by omega, by go_num, hown2, hc'⟩
            case measure => simp [intOf]; omega
        · obtain rfl : m = nq := by omega
          rw [show ss.take m = ss from List.take_of_length_le (by omega)] at hown
          have HX : Hid ([fr, tt, (k : Int)] ++ packVs vs ++ [(m : Int)] ++ packSs ss = packW fr tt vs ss) := by show _ = _; unfold packW; rw [hvl, hsl]
          rw [HX.out] at hown
          obtain ⟨ao, cap, rfl, R⟩ := RowAt.of_owned hown
          go_wp2
          go_ret
          exact ⟨ao, _, cap, rfl, R.widen HB.out (Nat.le_refl _), hb⟩

end Go.Proofs.Ytcbfmjanjciodaa

/- Chapter 7: a difference as words, by the program. -/
namespace Go.Proofs.Ytcbfmjanjciodaa
open Go.RowKit

theorem packVol_is (x y z : Int) (w : World) (h1 : 0 ≤ x ∧ x ≤ 99) (h2 : 0 ≤ y ∧ y ≤ 16) : Calls Try.prog 119 #[.agg #[.int .i64 x, .int .i64 y, .int .i64 z]] w fun e w' => e = .returned (.int .i64 (x * 256 + y)) ∧ Below w.heap.size w w' := by
  have A : Below w.heap.size w (w.alloc (.cells #[.int .i64 x, .int .i64 y, .int .i64 z] 149)) := (Below.refl _ _).alloc (Nat.le_refl _) _
  have hw1 : IntKind.i64.wrap (x * 256) = x * 256 := wrapI_same _ (by omega)
  have hw2 : IntKind.i64.wrap (x * 256 + y) = x * 256 + y := wrapI_same _ (by omega)
  clear h1 h2
  go_enter Try.func119, Try.ntmps119
  go_wp2
  go_ret
  exact ⟨rfl, A⟩
theorem packStep_is (s : Bool) (x y z : Int) (w : World) (h1 : 0 ≤ x ∧ x ≤ 99) (h2 : 0 ≤ y ∧ y ≤ 15) : Calls Try.prog 120 #[.agg #[.bool s, .int .i64 x, .int .i64 y, .int .i64 z]] w fun e w' => e = .returned (.tuple #[.int .i64 ((x * 256 + y) * 2 + (if s then 1 else 0)), .int .i64 z]) ∧ Below w.heap.size w w' := by
  have A : Below w.heap.size w (w.alloc (.cells #[.bool s, .int .i64 x, .int .i64 y, .int .i64 z] 141)) := (Below.refl _ _).alloc (Nat.le_refl _) _
  have hw1 : IntKind.i64.wrap (x * 256) = x * 256 := wrapI_same _ (by omega)
  have hw2 : IntKind.i64.wrap (x * 256 + y) = x * 256 + y := wrapI_same _ (by omega)
  have hw3 : IntKind.i64.wrap ((x * 256 + y) * 2) = (x * 256 + y) * 2 := wrapI_same _ (by omega)
  have hw4 : IntKind.i64.wrap ((x * 256 + y) * 2 + 1) = (x * 256 + y) * 2 + 1 := wrapI_same _ (by omega)
  clear h1 h2
  cases s with
  | false =>
    go_enter Try.func120, Try.ntmps120
    go_wp2_with fail
    go_quiet (fail)
    go_wp2
    refine bodyPost_ret (v := .tuple #[.int .i64 ((x * 256 + y) * 2), .int .i64 z]) (by simp [results, Try.results120, go_sem]) rfl ⟨by simp, below_drewN A _⟩
  | true =>
    go_enter Try.func120, Try.ntmps120
    go_wp2_with fail
    go_quiet (fail)
    go_wp2
    refine bodyPost_ret (v := .tuple #[.int .i64 ((x * 256 + y) * 2 + 1), .int .i64 z]) (by simp [results, Try.results120, go_sem]) rfl ⟨by simp, below_drewN A _⟩

set_option maxRecDepth 20000 in
set_option maxHeartbeats 4000000 in
theorem implPack_is {o : Bool} {lo hi : Nat} (fr tt : Int) (av : Option Addr) (nv cv : Nat) (aq : Option Addr) (nq cq : Nat) (vs : List Vo) (ss : List St) (w : World) (h : DeAt w o lo hi av nv cv aq nq cq vs ss) (hnv : nv ≤ 2097152) (hnq : nq ≤ 2097152) (cd : Int) (xs : List Int) (hc : deFault fr tt vs ss = cd) (hx : packL fr tt vs ss = xs) : Calls Try.prog 51 #[.agg #[.int .i64 fr, .int .i64 tt, .slice av nv cv, .slice aq nq cq]] w fun e w' => IntsR w w' e cd xs := by
  have hvl := h.vol.nTrips
  have hsl := h.ste.nQuads
  have HC : Hid _ := hc
  have HX : Hid _ := hx
  clear hc hx
  go_enter Try.func51, Try.ntmps51
  go_wp2_with (first | ((with_reducible refine box_new 78 #[.int .i64 fr, .int .i64 tt, .slice av nv cv, .slice aq nq cq] rfl ?_); intro b0 W0 N0; have O0 : Hid (w.heap.size ≤ b0) := N0.ge; have B := N0.below; have H0 : Hid (b0 < W0.heap.size) := N0.lt; have c0_0 : W0.cell? ⟨b0, 0, none⟩ = some (.int .i64 fr) := N0.cell 0 _ rfl; have c0_1 : W0.cell? ⟨b0, 1, none⟩ = some (.int .i64 tt) := N0.cell 1 _ rfl; have c0_2 : W0.cell? ⟨b0, 2, none⟩ = some (.slice av nv cv) := N0.cell 2 _ rfl; have c0_3 : W0.cell? ⟨b0, 3, none⟩ = some (.slice aq nq cq) := N0.cell 3 _ rfl; clear N0) | ((with_reducible refine alloc_new 92 #[.int .i64 0, .slice none 0 0] (fun _ => by kernel_rfl) ?_); intro b1 W1 N1; have O1 : Hid (b0 < b1) := Nat.lt_of_lt_of_le H0.out N1.ge; replace c0_0 := cell_later N1.below c0_0; replace c0_1 := cell_later N1.below c0_1; replace c0_2 := cell_later N1.below c0_2; replace c0_3 := cell_later N1.below c0_3; replace H0 : Hid (b0 < W1.heap.size) := Nat.lt_of_lt_of_le H0.out N1.below.size; replace B := below_next B N1.below; have H1 : Hid (b1 < W1.heap.size) := N1.lt; have c1_0 : W1.cell? ⟨b1, 0, none⟩ = some (.int .i64 0) := N1.cell 0 _ rfl; have c1_1 : W1.cell? ⟨b1, 1, none⟩ = some (.slice none 0 0) := N1.cell 1 _ rfl; have y1_0 : W1.frozen? ⟨b1, 0, none⟩ = false := N1.froz 0; have y1_1 : W1.frozen? ⟨b1, 1, none⟩ = false := N1.froz 1; clear N1) | fail)
  refine (implDF_is fr tt av nv cv aq nq cq vs ss _ (h.below B) hnv hnq cd HC.out).mono ?_
  rintro e w1 ⟨rfl, BB⟩
  replace c0_0 := cell_later BB c0_0
  replace c0_1 := cell_later BB c0_1
  replace c0_2 := cell_later BB c0_2
  replace c0_3 := cell_later BB c0_3
  replace H0 : Hid (b0 < w1.heap.size) := Nat.lt_of_lt_of_le H0.out BB.size
  replace c1_0 := cell_later BB c1_0
  replace c1_1 := cell_later BB c1_1
  replace y1_0 := frozen_later BB H1.out y1_0
  replace y1_1 := frozen_later BB H1.out y1_1
  replace H1 : Hid (b1 < w1.heap.size) := Nat.lt_of_lt_of_le H1.out BB.size
  replace B := below_next B BB
  clear BB
  by_cases z : cd = 0
  rotate_left 1
  · have hz : (cd != 0) = true := by simp [z]
    have e0 : xs = [] := by rw [← HX.out]; unfold packL; rw [HC.out, if_neg z]
    subst e0
    go_wp2
    refine bodyPost_ret (v := .agg #[.int .i64 cd, .slice none 0 0]) (by simp [results, Try.results51, go_sem, c1_0, c1_1]) rfl ?_
    have KZ : Kept b1 (b1 + 1) w1 ((w1.setCell ⟨b1, 0, none⟩ (.int .i64 cd)).setCell ⟨b1, 1, none⟩ (.slice none 0 0)) := by refine Kept.setCell (Kept.setCell (Kept.refl _ _ _) ?_ ?_ _) ?_ ?_ _ <;> simp
    exact ⟨_, _, _, rfl, RowAt.nil _ _ _ _ _, B.trans (KZ.below _ (Nat.le_trans O0.out (by have q1 := O1.out; omega)) B.size)⟩
  have hz : (cd != 0) = false := by simp [z]
  subst z
  have OK := de_ok HC.out
  have o1 : nv ≤ 100000 := by omega
  have o2 : nq ≤ 100000 := by omega
  have HV : Hid _ := volSm_of OK.2.2.2.2.1
  have HS : Hid _ := stSm_of OK.2.2.2.2.2
  have e0 : xs = packW fr tt vs ss := by rw [← HX.out]; unfold packL; rw [HC.out, if_pos rfl]
  have E0 : Hid _ := e0
  clear OK e0 HX
  go_wp2_with (first | ((with_reducible refine alloc_new 161 #[.slice none 0 0] (fun _ => by kernel_rfl) ?_); intro b2 W2 N2; have O2 : Hid (b1 < b2) := Nat.lt_of_lt_of_le H1.out N2.ge; replace c0_0 := cell_later N2.below c0_0; replace c0_1 := cell_later N2.below c0_1; replace c0_2 := cell_later N2.below c0_2; replace c0_3 := cell_later N2.below c0_3; replace H0 : Hid (b0 < W2.heap.size) := Nat.lt_of_lt_of_le H0.out N2.below.size; replace c1_0 := cell_later N2.below c1_0; replace c1_1 := cell_later N2.below c1_1; replace y1_0 := frozen_later N2.below H1.out y1_0; replace y1_1 := frozen_later N2.below H1.out y1_1; replace H1 : Hid (b1 < W2.heap.size) := Nat.lt_of_lt_of_le H1.out N2.below.size; replace B := below_next B N2.below; have H2 : Hid (b2 < W2.heap.size) := N2.lt; have c2_0 : W2.cell? ⟨b2, 0, none⟩ = some (.slice none 0 0) := N2.cell 0 _ rfl; have y2_0 : W2.frozen? ⟨b2, 0, none⟩ = false := N2.froz 0; clear N2) | fail)
  have T0 : Told W2 b2 0 [] := ⟨H2.out, ⟨_, c2_0, rfl, Or.inl ⟨rfl, rfl⟩⟩, y2_0⟩
  have A1 : Below W2.heap.size W2 (W2.alloc (.cells #[.int .i64 fr, .int .i64 tt, .int .i64 (nv : Int)] 2)) := (Below.refl _ _).alloc (Nat.le_refl _) _
  refine (tell_is b2 0 [] (W2.alloc (.cells #[.int .i64 fr, .int .i64 tt, .int .i64 (nv : Int)] 2)) (T0.below A1) ⟨W2.heap.size, 0, none⟩ 3 3 [fr, tt, (nv : Int)] (row_lit W2 [.int .i64 fr, .int .i64 tt, .int .i64 (nv : Int)] 2 3 1 rfl) (by omega)).mono ?_
  rintro e w2 ⟨rfl, T1, C⟩
  replace C : Below b2 W2 w2 := (A1.mono (Nat.le_of_lt H2.out)).trans C
  clear T0 A1
  rw [Nat.zero_add, List.nil_append] at T1
  have D1 : Hid (b0 < b2) := Nat.lt_trans O1.out O2.out
  have D2 : Hid (b1 < b2) := O2.out
  have BW : Below w.heap.size w W2 := B
  have HB : Hid (w.heap.size ≤ b2) := Nat.le_trans O0.out (Nat.le_of_lt D1.out)
  have g2 := (C.cell (p := ⟨b0, 2, none⟩) D1.out).trans c0_2
  clear c2_0 y2_0
  go_wp2
  go_loopw [27] (fun i wr => ∃ k : Nat, k ≤ nv ∧ i = .int .i64 k ∧ Told wr b2 (3 + k) ([fr, tt, (nv : Int)] ++ packVs (vs.take k)) ∧ Below b2 W2 wr) (fun i _ => nv - (intOf i).toNat)
  case atStart => exact ⟨0, Nat.zero_le _, rfl, by simpa [packVs] using T1, C⟩
  case round =>
    clear T1 C g2
    obtain ⟨k, hk, rfl, T, C⟩ := hrel
    have BX : Below w.heap.size w wr := BW.trans (C.mono HB.out)
    by_cases hlt : k < nv
    · have HT : Hid _ := packVs_take (vs := vs) (k := k) (by omega)
      have sm := HV.out k (by omega)
      obtain ⟨b, off, rfl, _, _, hbs, v0, v1, v2, _⟩ := h.vol.trip hlt
      replace v0 := cell_later BX v0
      replace v1 := cell_later BX v1
      replace v2 := cell_later BX v2
      have hlk : (k : Int) < (nv : Int) := by omega
      unfold packV at HT
      obtain ⟨⟨x, y, z⟩, hx⟩ : ∃ x, vs.getD k vo0 = x := ⟨_, rfl⟩
      rw [hx] at v0 v1 v2 HT sm
      simp only at v0 v1 v2 HT sm
      clear hx
      have SM : Hid _ := sm
      clear sm
      obtain ⟨X, hX⟩ : ∃ X : List Int, X = [fr, tt, (nv : Int)] ++ packVs (vs.take k) := ⟨_, rfl⟩
      rw [← hX] at T
      have HX : Hid _ := hX
      clear hX
      have A1 : Below wr.heap.size wr (wr.alloc (.cells #[.int .i64 x, .int .i64 y, .int .i64 z] 149)) := (Below.refl _ _).alloc (Nat.le_refl _) _
      have HTl : Hid _ := T.lt
      go_wp2_with fail
      refine (packVol_is x y z _ SM.out.1 SM.out.2).mono ?_
      rintro e w3 ⟨rfl, B3⟩
      have A2 := below_step A1 A1.size B3
      have A3 : Below wr.heap.size wr (w3.alloc (.cells #[.int .i64 (x * 256 + y)] 2)) := A2.alloc A2.size _
      go_wp2_with fail
      refine (tell_is b2 (3 + k) X (w3.alloc (.cells #[.int .i64 (x * 256 + y)] 2)) (T.below A3) ⟨w3.heap.size, 0, none⟩ 1 1 [x * 256 + y] (row_lit w3 [.int .i64 (x * 256 + y)] 2 1 1 rfl) (by omega)).mono ?_
      rintro e w4 ⟨rfl, T2, C2⟩
      replace C2 : Below b2 W2 w4 := C.trans ((A3.mono (Nat.le_of_lt HTl.out)).trans C2)
      have T3 : Told w4 b2 (3 + (k + 1)) ([fr, tt, (nv : Int)] ++ packVs (vs.take (k + 1))) := by
        rw [HT.out, ← List.append_assoc, ← HX.out]; exact T2
      clear T2 T C A1 A2 A3 B3 BX v0 v1 v2 HT HX
      go_wp2
      go_roundw
      case rel => exact ⟨k + 1, by omega, by go_num, T3, C2⟩
      case measure => simp [intOf]; omega
    · obtain rfl : k = nv := by omega
      rw [show vs.take k = vs from List.take_of_length_le (by omega)] at T
      obtain ⟨X, hX⟩ : ∃ X : List Int, X = [fr, tt, (k : Int)] ++ packVs vs := ⟨_, rfl⟩
      rw [← hX] at T
      have HX : Hid _ := hX
      clear hX
      have g3 := (C.cell (p := ⟨b0, 3, none⟩) D1.out).trans c0_3
      have A1 : Below wr.heap.size wr (wr.alloc (.cells #[.int .i64 (nq : Int)] 2)) := (Below.refl _ _).alloc (Nat.le_refl _) _
      have HTl : Hid _ := T.lt
      go_wp2_with fail
      refine (tell_is b2 (3 + k) X (wr.alloc (.cells #[.int .i64 (nq : Int)] 2)) (T.below A1) ⟨wr.heap.size, 0, none⟩ 1 1 [(nq : Int)] (row_lit wr [.int .i64 (nq : Int)] 2 1 1 rfl) (by omega)).mono ?_
      rintro e w2 ⟨rfl, T2, C2⟩
      replace C2 : Below b2 W2 w2 := C.trans ((A1.mono (Nat.le_of_lt HTl.out)).trans C2)
      rw [HX.out] at T2
      clear T C A1 BX HX HTl g3
      have g3 := (C2.cell (p := ⟨b0, 3, none⟩) D1.out).trans c0_3
      go_wp2
      go_loopw [44] (fun i wr => ∃ m : Nat, m ≤ nq ∧ i = .int .i64 m ∧ Told wr b2 (3 + k + 1 + 2 * m) ([fr, tt, (k : Int)] ++ packVs vs ++ [(nq : Int)] ++ packSs (ss.take m)) ∧ Below b2 W2 wr) (fun i _ => nq - (intOf i).toNat)
      case atStart => exact ⟨0, Nat.zero_le _, rfl, by simpa [packSs] using T2, C2⟩
      case round =>
        clear T2 C2 g3
        obtain ⟨m, hm, rfl, T, C⟩ := hrel
        have BX : Below w.heap.size w wr := BW.trans (C.mono HB.out)
        by_cases hlt2 : m < nq
        · have HT : Hid _ := packSs_take (ss := ss) (k := m) (by omega)
          have sm := HS.out m (by omega)
          obtain ⟨b, off, rfl, _, _, hbs, v0, v1, v2, v3⟩ := h.ste.quad hlt2
          replace v0 := cell_later BX v0
          replace v1 := cell_later BX v1
          replace v2 := cell_later BX v2
          replace v3 := cell_later BX v3
          have hlm : (m : Int) < (nq : Int) := by omega
          unfold packH at HT
          obtain ⟨⟨s, x, y, z⟩, hx⟩ : ∃ x, ss.getD m st0 = x := ⟨_, rfl⟩
          rw [hx] at v0 v1 v2 v3 HT sm
          simp only at v0 v1 v2 v3 HT sm
          clear hx
          have SM : Hid _ := sm
          clear sm
          obtain ⟨X, hX⟩ : ∃ X : List Int, X = [fr, tt, (k : Int)] ++ packVs vs ++ [(nq : Int)] ++ packSs (ss.take m) := ⟨_, rfl⟩
          rw [← hX] at T
          have HX : Hid _ := hX
          clear hX
          have A1 : Below wr.heap.size wr (wr.alloc (.cells #[.bool s, .int .i64 x, .int .i64 y, .int .i64 z] 141)) := (Below.refl _ _).alloc (Nat.le_refl _) _
          have HTl : Hid _ := T.lt
          obtain ⟨p, hp⟩ : ∃ p, (x * 256 + y) * 2 + (if s = true then 1 else 0) = p := ⟨_, rfl⟩
          rw [hp] at HT
          have HP : Hid _ := hp
          clear hp
          go_wp2_with fail
          refine (packStep_is s x y z _ SM.out.1 SM.out.2).mono ?_
          rw [HP.out]
          rintro e w3 ⟨rfl, B3⟩
          have A2 := below_step A1 A1.size B3
          have A3 : Below wr.heap.size wr (w3.alloc (.cells #[.int .i64 p, .int .i64 z] 2)) := A2.alloc A2.size _
          go_wp2_with fail
          refine (tell_is b2 (3 + k + 1 + 2 * m) X (w3.alloc (.cells #[.int .i64 p, .int .i64 z] 2)) (T.below A3) ⟨w3.heap.size, 0, none⟩ 2 2 [p, z] (row_lit w3 [.int .i64 p, .int .i64 z] 2 2 1 rfl) (by omega)).mono ?_
          rintro e w4 ⟨rfl, T2, C2⟩
          replace C2 : Below b2 W2 w4 := C.trans ((A3.mono (Nat.le_of_lt HTl.out)).trans C2)
          have T3 : Told w4 b2 (3 + k + 1 + 2 * (m + 1)) ([fr, tt, (k : Int)] ++ packVs vs ++ [(nq : Int)] ++ packSs (ss.take (m + 1))) := by
            rw [HT.out, ← List.append_assoc, ← HX.out]; exact T2
          clear T2 T C A1 A2 A3 B3 BX v0 v1 v2 v3 HT HX
          go_wp2
          go_roundw
          case rel => exact ⟨m + 1, by omega, by go_num, T3, C2⟩
          case measure => simp [intOf]; omega
        · obtain rfl : m = nq := by omega
          rw [show ss.take m = ss from List.take_of_length_le (by omega)] at T
          have HX : Hid ([fr, tt, (k : Int)] ++ packVs vs ++ [(m : Int)] ++ packSs ss = packW fr tt vs ss) := by show _ = _; unfold packW; rw [hvl, hsl]
          rw [HX.out] at T
          obtain ⟨v, q1, q2⟩ := T.ok
          obtain ⟨ao, cap, rfl, R⟩ := RowAt.of_owned q2
          have k0 := (C.cell (p := ⟨b1, 0, none⟩) D2.out).trans c1_0
          have k1 := (C.cell (p := ⟨b1, 1, none⟩) D2.out).trans c1_1
          have f0 := (C.frozen (p := ⟨b1, 0, none⟩) D2.out).trans y1_0
          have f1 := (C.frozen (p := ⟨b1, 1, none⟩) D2.out).trans y1_1
          go_wp2
          refine bodyPost_ret (v := .agg #[.int .i64 0, .slice ao (3 + k + 1 + 2 * m) cap]) (by simp [results, Try.results51, go_sem, k0, k1]) rfl ?_
          have KZ : Kept b1 (b1 + 1) wr ((wr.setCell ⟨b1, 0, none⟩ (.int .i64 0)).setCell ⟨b1, 1, none⟩ (.slice ao (3 + k + 1 + 2 * m) cap)) := by refine Kept.setCell (Kept.setCell (Kept.refl _ _ _) ?_ ?_ _) ?_ ?_ _ <;> simp
          have s := KZ.size
          have d2 := D2.out
          have o0 := O0.out
          have o1' := O1.out
          exact ⟨_, _, _, rfl, by rw [E0.out]; exact (R.kept KZ (Or.inr (by omega))).widen (by omega) s, BX.trans (KZ.below _ (by omega) BX.size)⟩

end Go.Proofs.Ytcbfmjanjciodaa
