/- At every disk the program's RoomOf answers as its model does and writes into no argument: the law FnExactRoomOf is true at every argument, with no condition. -/
import Derived.Test.YtkpbmffklcgecaaRows
import Derived.Test.YtkpbmffklcgecaaK4
import Derived.Test.YtkpbmffklcgecaaWordAt
import Derived.Test.YtkpbmffklcgecaaRow
namespace Go.Proofs.Ytkpbmffklcgecaa
open Go.RowKit

set_option maxRecDepth 20000 in
set_option maxHeartbeats 4000000 in
theorem lawRoomOf {o0 o1 : Bool} (a0 a1 : Option Addr) (n0 c0 n1 c1 : Nat) (xs : List Int) (ys : List (Int × Int)) (w : World) (h0 : RowAt w o0 0 w.heap.size 1 a0 n0 c0 (ints xs)) (h1 : RowAt w o1 0 w.heap.size 2 a1 n1 c1 (pairs ys)) (hn : n0 ≤ maxLen) (hm : n1 ≤ maxLen) :
    Calls Try.prog 17 #[.agg #[.slice a0 n0 c0, .slice a1 n1 c1]] w fun e w' => e = .returned (.bool true) ∧ Below w.heap.size w w' := by
  have B : Below w.heap.size w (w.alloc (.cells #[.slice a0 n0 c0, .slice a1 n1 c1] 49)) := (Below.refl _ _).alloc (Nat.le_refl _) _
  go_enter Try.func17, Try.ntmps17
  go_wp2_with fail
  refine (szDisk_any _ _ _ _ _ _ _ hn hm).mono ?_
  rintro e w1 ⟨r, rfl, hb1, hr⟩
  have B := below_next B hb1
  have S0 : w.heap.size + 1 ≤ w1.heap.size := by have := hb1.size; simp at this; exact this
  have k0 : w1.cell? ⟨w.heap.size, 0, none⟩ = some (.slice a0 n0 c0) := cell_later hb1 (by simp)
  have k1 : w1.cell? ⟨w.heap.size, 1, none⟩ = some (.slice a1 n1 c1) := cell_later hb1 (by simp)
  clear hb1
  have lk : w.heap.size < w1.heap.size := by omega
  rcases hr with hr | ⟨hr, hsz⟩
  · go_wp2
    go_ret
    exact ⟨rfl, B⟩
  have hr' : ¬ r < 0 := by omega
  have HR : Hid _ := hr'
  clear hr
  have hn0 : n0 ≤ 2097152 := by omega
  have hn1 : n1 ≤ 2097152 := by omega
  go_wp2_with fail
  refine (toDisk_any _ _ _ _ _ _ xs ys _ (by exact h0.below B) (by exact h1.below B) hsz).mono ?_
  rintro e w2 ⟨b0, b1, rfl, dT, hb⟩
  have k0 := cell_later hb k0
  have k1 := cell_later hb k1
  have lk := Nat.lt_of_lt_of_le lk hb.size
  have B := below_next B hb
  have S1 := hb.size
  clear hb
  obtain ⟨mid, _, _, t0, t1⟩ := dT.parts
  go_wp2_with fail
  refine (specRoom_any _ _ _ _ _ _ xs ys _ t0 t1 hn0 hn1).mono ?_
  rintro e w3 ⟨rfl, hb⟩
  have k0 := cell_later hb k0
  have k1 := cell_later hb k1
  have lk := Nat.lt_of_lt_of_le lk hb.size
  have B := below_next B hb
  have S2 := hb.size
  clear hb
  clear t0 t1 dT
  go_wp2_with fail
  have A3 : Below w3.heap.size w3 (w3.alloc (.cells #[.int .i64 (faultOf xs ys), .int .i64 (roomOf xs ys)] 43)) := (Below.refl _ _).alloc (Nat.le_refl _) _
  have k0 := cell_later A3 k0
  have k1 := cell_later A3 k1
  have lk := Nat.lt_of_lt_of_le lk A3.size
  have B := below_next B A3
  have S4 := A3.size
  have E4 : (w3.alloc (.cells #[.int .i64 (faultOf xs ys), .int .i64 (roomOf xs ys)] 43)).heap.size = w3.heap.size + 1 := by simp
  have pb0 : (w3.alloc (.cells #[.int .i64 (faultOf xs ys), .int .i64 (roomOf xs ys)] 43)).cell? ⟨w3.heap.size, 0, none⟩ = some (.int .i64 (faultOf xs ys)) := by simp
  have pb1 : (w3.alloc (.cells #[.int .i64 (faultOf xs ys), .int .i64 (roomOf xs ys)] 43)).cell? ⟨w3.heap.size, 1, none⟩ = some (.int .i64 (roomOf xs ys)) := by simp
  have lpb : w3.heap.size < (w3.alloc (.cells #[.int .i64 (faultOf xs ys), .int .i64 (roomOf xs ys)] 43)).heap.size := by simp
  clear A3
  go_wp2_with fail
  refine (toDisk_any _ _ _ _ _ _ xs ys _ (by exact h0.below B) (by exact h1.below B) hsz).mono ?_
  rintro e w4 ⟨x0, x1, rfl, dX, hb⟩
  have k0 := cell_later hb k0
  have k1 := cell_later hb k1
  have pb0 := cell_later hb pb0
  have pb1 := cell_later hb pb1
  have lk := Nat.lt_of_lt_of_le lk hb.size
  have lpb := Nat.lt_of_lt_of_le lpb hb.size
  have B := below_next B hb
  have S5 := hb.size
  clear hb
  go_wp2_with fail
  have A6 : Below w4.heap.size w4 (w4.alloc (.cells #[.slice x0 n0 n0, .slice x1 n1 n1] 27)) := (Below.refl _ _).alloc (Nat.le_refl _) _
  have k0 := cell_later A6 k0
  have k1 := cell_later A6 k1
  have pb0 := cell_later A6 pb0
  have pb1 := cell_later A6 pb1
  have dX := dX.below A6
  have lk := Nat.lt_of_lt_of_le lk A6.size
  have lpb := Nat.lt_of_lt_of_le lpb A6.size
  have B := below_next B A6
  have S7 := A6.size
  have E7 : (w4.alloc (.cells #[.slice x0 n0 n0, .slice x1 n1 n1] 27)).heap.size = w4.heap.size + 1 := by simp
  have xb0 : (w4.alloc (.cells #[.slice x0 n0 n0, .slice x1 n1 n1] 27)).cell? ⟨w4.heap.size, 0, none⟩ = some (.slice x0 n0 n0) := by simp
  have xb1 : (w4.alloc (.cells #[.slice x0 n0 n0, .slice x1 n1 n1] 27)).cell? ⟨w4.heap.size, 1, none⟩ = some (.slice x1 n1 n1) := by simp
  have lxb : w4.heap.size < (w4.alloc (.cells #[.slice x0 n0 n0, .slice x1 n1 n1] 27)).heap.size := by simp
  clear A6
  obtain ⟨midx, _, _, t0, t1⟩ := dX.parts
  go_wp2_with fail
  refine (implRoom_any _ _ _ _ _ _ xs ys _ t0 t1 hn0 hn1).mono ?_
  rintro e w5 ⟨rfl, hb⟩
  have k0 := cell_later hb k0
  have k1 := cell_later hb k1
  have pb0 := cell_later hb pb0
  have pb1 := cell_later hb pb1
  have xb0 := cell_later hb xb0
  have xb1 := cell_later hb xb1
  have dX := dX.below hb
  have lk := Nat.lt_of_lt_of_le lk hb.size
  have lpb := Nat.lt_of_lt_of_le lpb hb.size
  have lxb := Nat.lt_of_lt_of_le lxb hb.size
  have B := below_next B hb
  have S8 := hb.size
  clear hb
  clear t0 t1
  go_wp2_with fail
  have A9 : Below w5.heap.size w5 (w5.alloc (.cells #[.int .i64 (faultOf xs ys), .int .i64 (roomOf xs ys)] 43)) := (Below.refl _ _).alloc (Nat.le_refl _) _
  have k0 := cell_later A9 k0
  have k1 := cell_later A9 k1
  have pb0 := cell_later A9 pb0
  have pb1 := cell_later A9 pb1
  have xb0 := cell_later A9 xb0
  have xb1 := cell_later A9 xb1
  have dX := dX.below A9
  have lk := Nat.lt_of_lt_of_le lk A9.size
  have lpb := Nat.lt_of_lt_of_le lpb A9.size
  have lxb := Nat.lt_of_lt_of_le lxb A9.size
  have B := below_next B A9
  have S10 := A9.size
  have E10 : (w5.alloc (.cells #[.int .i64 (faultOf xs ys), .int .i64 (roomOf xs ys)] 43)).heap.size = w5.heap.size + 1 := by simp
  have qb0 : (w5.alloc (.cells #[.int .i64 (faultOf xs ys), .int .i64 (roomOf xs ys)] 43)).cell? ⟨w5.heap.size, 0, none⟩ = some (.int .i64 (faultOf xs ys)) := by simp
  have qb1 : (w5.alloc (.cells #[.int .i64 (faultOf xs ys), .int .i64 (roomOf xs ys)] 43)).cell? ⟨w5.heap.size, 1, none⟩ = some (.int .i64 (roomOf xs ys)) := by simp
  have lqb : w5.heap.size < (w5.alloc (.cells #[.int .i64 (faultOf xs ys), .int .i64 (roomOf xs ys)] 43)).heap.size := by simp
  clear A9
  go_wp2_with fail
  refine (eqNRes_yes _ _ _).mono ?_
  rintro e w6 ⟨rfl, hb⟩
  have k0 := cell_later hb k0
  have k1 := cell_later hb k1
  have pb0 := cell_later hb pb0
  have pb1 := cell_later hb pb1
  have xb0 := cell_later hb xb0
  have xb1 := cell_later hb xb1
  have qb0 := cell_later hb qb0
  have qb1 := cell_later hb qb1
  have dX := dX.below hb
  have lk := Nat.lt_of_lt_of_le lk hb.size
  have lpb := Nat.lt_of_lt_of_le lpb hb.size
  have lxb := Nat.lt_of_lt_of_le lxb hb.size
  have lqb := Nat.lt_of_lt_of_le lqb hb.size
  have B := below_next B hb
  have S11 := hb.size
  clear hb
  have D7 : Below w6.heap.size w6 w6.drew := (Below.refl _ _).drew
  have k0 := cell_later D7 k0
  have k1 := cell_later D7 k1
  have pb0 := cell_later D7 pb0
  have pb1 := cell_later D7 pb1
  have xb0 := cell_later D7 xb0
  have xb1 := cell_later D7 xb1
  have qb0 := cell_later D7 qb0
  have qb1 := cell_later D7 qb1
  have dX := dX.below D7
  have lk := Nat.lt_of_lt_of_le lk D7.size
  have lpb := Nat.lt_of_lt_of_le lpb D7.size
  have lxb := Nat.lt_of_lt_of_le lxb D7.size
  have lqb := Nat.lt_of_lt_of_le lqb D7.size
  have B := below_next B D7
  have S12 := D7.size
  clear D7
  obtain ⟨midx, _, _, t0, t1⟩ := dX.parts
  have g0 := h0.below B
  have g1 := h1.below B
  go_wp2_with fail
  go_region_held3 (fun w' => w'.cell? ⟨w.heap.size, 0, none⟩ = some (.slice a0 n0 c0) ∧ w'.cell? ⟨w.heap.size, 1, none⟩ = some (.slice a1 n1 c1) ∧ w'.cell? ⟨w4.heap.size, 0, none⟩ = some (.slice x0 n0 n0) ∧ w'.cell? ⟨w4.heap.size, 1, none⟩ = some (.slice x1 n1 n1)) (exact ⟨k0, k1, xb0, xb1⟩)
    (first | (go_at_call 30; refine (toDisk_any _ _ _ _ _ _ xs ys _ g0 g1 hsz).mono ?_; rintro e w7 ⟨f0, f1, rfl, hd6, hb⟩; have k0 := cell_later hb k0; have k1 := cell_later hb k1; have pb0 := cell_later hb pb0; have pb1 := cell_later hb pb1; have xb0 := cell_later hb xb0; have xb1 := cell_later hb xb1; have qb0 := cell_later hb qb0; have qb1 := cell_later hb qb1; have dX := dX.below hb; have lk := Nat.lt_of_lt_of_le lk hb.size; have lpb := Nat.lt_of_lt_of_le lpb hb.size; have lxb := Nat.lt_of_lt_of_le lxb hb.size; have lqb := Nat.lt_of_lt_of_le lqb hb.size; have B := below_next B hb; have t0 := t0.below hb; have t1 := t1.below hb; have S70 : w6.heap.size ≤ w7.heap.size := hb.size; clear hb; obtain ⟨m6, _, _, s0, s1⟩ := hd6.parts) | (go_at_call 31; refine (eqDisk_yes _ _ _ _ _ _ _ _ _ _ _ _ xs ys _ t0 t1 s0 s1 hn0 hn1).mono ?_; rintro e w8 ⟨rfl, hb⟩; have k0 := cell_later hb k0; have k1 := cell_later hb k1; have pb0 := cell_later hb pb0; have pb1 := cell_later hb pb1; have xb0 := cell_later hb xb0; have xb1 := cell_later hb xb1; have qb0 := cell_later hb qb0; have qb1 := cell_later hb qb1; have dX := dX.below hb; have lk := Nat.lt_of_lt_of_le lk hb.size; have lpb := Nat.lt_of_lt_of_le lpb hb.size; have lxb := Nat.lt_of_lt_of_le lxb hb.size; have lqb := Nat.lt_of_lt_of_le lqb hb.size; have B := below_next B hb; have S71 := hb.size; clear hb t0 t1 s0 s1 hd6))
  go_wp2
  go_ret
  exact ⟨rfl, B⟩

open Go.ChangeShapes Go.WideShapes Go.ChangeAt Go.Joins

set_option maxRecDepth 100000 in
theorem liftedRoomOf (os : Os) (started : os.Started) (H : Type) (enc : TypeId × Value → H) :
    ReturnsInHanded {} Try.checked os 17 .any (Rows.fnExactRoomOfSpec.pre6 enc Try.prog Try.f17 Rows.fnExactRoomOfRow.domain false) (Rows.fnExactRoomOfSpec.post enc Try.prog Try.f17 false true false false) := by
  refine returnsInHanded_of_change (C := Try.checked) Try.own started (by kernel_rfl) Try.func17
    (ChangeSpec.witness6 (enc := enc) (C := Try.checked) false ⟨#[], #[.agg #[.slice none 0 0, .slice none 0 0]], []⟩ 8 (by kernel_rfl) (by kernel_rfl) (by kernel_rfl) (by kernel_rfl)) ?_
  intro W base args ds gs before hval0 hW hcnd _
  have hval : ∀ (j : Nat) t v, Try.f17.params[j]? = some t → args[j]? = some v → Value.okWide Try.prog W .any base t v := hval0
  have hW' := hW
  obtain ⟨p, q, hA0, hV, rfl, hfz, hnd⟩ := hW
  have hA : DataW.TrodAll enc Try.prog W 0 (fun _ => true) true Try.f17.params.toList args.toList ds p := hA0
  rw [Try.params17] at hA hval
  obtain ⟨v0, vs0, d0, ds0, p0, q0, hargs, rfl, rfl, h0, r0⟩ := trodAll_cons hA
  obtain ⟨rfl, rfl, rfl⟩ := trodAll_nil r0
  obtain rfl : args = #[v0] := by cases args; simp_all
  obtain ⟨rfl, rfl⟩ := trodVars_none hV
  have lt0 : ∀ x ∈ p0, x.block < W.heap.size := by obtain ⟨m, hm⟩ := h0; exact DataW.trod_lt m _ _ _ hm
  have k0 := h0
  obtain ⟨e0, e1, y0, y1, m, rfl, _, _, hy0, hy1⟩ := open_agg2 Try.underlying49 (by kernel_rfl) Try.cellsDisk (hval 0 49 v0 rfl rfl) h0
  obtain ⟨a0, n0, c0, xs, rfl, hn0, s0⟩ := read_ints Try.underlying24 Try.underlying2 Try.cellsInt hy0
  obtain ⟨a1, n1, c1, ys, rfl, hn1, s1⟩ := read_pairs Try.underlying47 Try.underlying125 Try.cellsPut rfl rfl Try.underlying2 Try.underlying2 Try.cellsInt Try.cellsInt hy1
  clear hA0 hval0
  refine (lawRoomOf a0 a1 n0 c0 n1 c1 xs ys W s0 s1 hn0 hn1).mono fun e W' ⟨he, bel⟩ => ?_
  subst he
  exact ⟨_, rfl, _, _, _, [], _, [], hW', trodAll_mk1 (shut_bool Try.underlying4 _), (trodAll_cons_mk (Below.trod Try.laidOut (by kernel_rfl) (of_decide_eq_true (by kernel_rfl)) k0 bel lt0) trodAll_mk0), rfl, bel.frame _, fun h => by cases h⟩

theorem roomOf_holds : Rows.FnExactRoomOfSaid :=
  OpenClaim.holds_of_wide 17 Try.f17 rfl rfl rfl rfl rfl rfl rfl ⟨rfl, rfl, rfl, rfl, rfl⟩ rfl rfl rfl rfl rfl (by kernel_rfl) Try.func17 (by kernel_rfl)
    (of_decide_eq_true (by kernel_rfl)) (by unfold Func.isWrapper; first | (rw [if_pos (by decide +kernel)]; kernel_rfl) | (rw [if_neg (by decide +kernel)]; exact ⟨rfl, rfl⟩))
    (fun os started H enc _ => liftedRoomOf os started H enc)

#print axioms roomOf_holds
end Go.Proofs.Ytkpbmffklcgecaa
