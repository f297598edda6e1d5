/- What the two DiskFault answer: the same number, a plain function of the words and the cache. -/
import Derived.Test.YtkdaphfmhdkhfaaSm
import Derived.Test.YtkdaphfmhdkhfaaCopy
namespace Go.Proofs.Ytkdaphfmhdkhfaa
open Go.RowKit

def faultOf (ws : List Int) (cs : List (Int × Int)) : Int :=
  if ws.length ≠ 64 then 1 else if 200 < cs.length then 2 else if ws.all wordB && cs.all (fun p => placeB p.1 && wordB p.2) then 0 else 3

theorem fault_form {ws : List Int} {cs : List (Int × Int)} (h : ws.length ≠ 64) : faultOf ws cs = 1 := by simp [faultOf, h]
theorem fault_many {ws : List Int} {cs : List (Int × Int)} (h : ws.length = 64) (h2 : 200 < cs.length) : faultOf ws cs = 2 := by simp [faultOf, h, h2]
theorem fault_word {ws : List Int} {cs : List (Int × Int)} (h : ws.length = 64) (h2 : cs.length ≤ 200) {j : Nat} (hj : j < 64) (hb : wordB (ws.getD j 0) = false) : faultOf ws cs = 3 := by
  have : ws.all wordB = false := by
    rw [List.all_eq_false]
    exact ⟨ws[j], List.getElem_mem _, by simpa [List.getD, show j < ws.length by omega] using hb⟩
  simp [faultOf, h, show ¬ 200 < cs.length by omega, this]
theorem fault_put {ws : List Int} {cs : List (Int × Int)} (h : ws.length = 64) (h2 : cs.length ≤ 200) {j : Nat} (hj : j < cs.length) (hb : (placeB (cs.getD j (0, 0)).1 && wordB (cs.getD j (0, 0)).2) = false) : faultOf ws cs = 3 := by
  have : cs.all (fun p => placeB p.1 && wordB p.2) = false := by
    rw [List.all_eq_false]
    exact ⟨cs[j], List.getElem_mem _, by simpa [List.getD, hj] using hb⟩
  rw [faultOf, if_neg (by omega), if_neg (by omega), this, Bool.and_false, if_neg (by simp)]
theorem fault_ok {ws : List Int} {cs : List (Int × Int)} (h : ws.length = 64) (h2 : cs.length ≤ 200) (hw : ∀ j, j < 64 → wordB (ws.getD j 0) = true) (hc : ∀ j, j < cs.length → (placeB (cs.getD j (0, 0)).1 && wordB (cs.getD j (0, 0)).2) = true) : faultOf ws cs = 0 := by
  have e1 : ws.all wordB = true := by
    rw [List.all_eq_true]
    intro x hx
    obtain ⟨j, hj, rfl⟩ := List.getElem_of_mem hx
    have := hw j (by omega)
    simpa [List.getD, hj] using this
  have e2 : cs.all (fun p => placeB p.1 && wordB p.2) = true := by
    rw [List.all_eq_true]
    intro x hx
    obtain ⟨j, hj, rfl⟩ := List.getElem_of_mem hx
    have := hc j hj
    simpa [List.getD, hj] using this
  rw [faultOf, if_neg (by omega), if_neg (by omega), e1, e2, if_pos (by rfl)]

theorem isWord_is (x : Int) (w : World) (d : Bool) (h : wordB x = d) : Calls Try.prog 146 #[.int .i64 x] w fun e w' => e = .returned (.bool d) ∧ w' = w := by rw [← h]; exact isWord_any x w
theorem isSector_is (x : Int) (w : World) (d : Bool) (h : placeB x = d) : Calls Try.prog 147 #[.int .i64 x] w fun e w' => e = .returned (.bool d) ∧ w' = w := by rw [← h]; exact isSector_any x w
theorem l1Word_is (x : Int) (w : World) (d : Bool) (h : wordB x = d) : Calls Try.prog 190 #[.int .i64 x] w fun e w' => e = .returned (.bool d) ∧ w' = w := by rw [← h]; exact l1Word_any x w
theorem l1Place_is (x : Int) (w : World) (d : Bool) (h : placeB x = d) : Calls Try.prog 189 #[.int .i64 x] w fun e w' => e = .returned (.bool d) ∧ w' = w := by rw [← h]; exact l1Place_any x w

set_option maxHeartbeats 1000000 in
theorem implFault_any {o0 o1 : Bool} {l0 u0 l1 u1 : Nat} (a0 a1 : Option Addr) (n0 c0 n1 c1 : Nat) (xs : List Int) (ys : List (Int × Int)) (w : World) (h0 : RowAt w o0 l0 u0 1 a0 n0 c0 (ints xs)) (h1 : RowAt w o1 l1 u1 2 a1 n1 c1 (pairs ys)) (hn : n0 ≤ 2097152) (hm : n1 ≤ 2097152) :
    Calls Try.prog 41 #[.agg #[.slice a0 n0 c0, .slice a1 n1 c1]] w fun e w' => e = .returned (.int .i64 (faultOf xs ys)) ∧ Below w.heap.size w w' := by
  have hx := h0.nInts
  have hy := h1.nPairs
  have B1 : Below w.heap.size w (w.alloc (.cells #[.slice a0 n0 c0, .slice a1 n1 c1] 27)) := (Below.refl _ _).alloc (Nat.le_refl _) _
  by_cases h64 : n0 = 64
  · subst h64
    by_cases h200 : n1 ≤ 200
    · have ht1 : ¬ ((200 : Int) < (n1 : Int)) := by omega
      have k0 := h0.below B1
      have k1 := h1.below B1
      go_enter Try.func41, Try.ntmps41
      go_wp2
      go_loop [13] (fun i => ∃ k : Nat, k ≤ 64 ∧ i = .int .i64 k ∧ (∀ j, j < k → wordB (xs.getD j 0) = true)) (fun i => 64 - (intOf i).toNat)
      case atStart => exact ⟨0, Nat.zero_le _, rfl, fun j hj => absurd hj (Nat.not_lt_zero _)⟩
      case round =>
        obtain ⟨k, hk, rfl, hall0⟩ := hrel
        have HA : Hid _ := hall0
        clear hall0
        by_cases hlt : k < 64
        · obtain ⟨b, off, rfl, _, _, _, hc, _⟩ := k0.int hlt
          have hl : (k : Int) < 64 := by omega
          cases hd : wordB (xs.getD k 0) with
          | false =>
            have HF : Hid _ := fault_word (cs := ys) hx (by omega) hlt hd
            have HD : Hid _ := hd
            clear hd
            generalize xs.getD k 0 = x at *
            go_wp2_with fail
            refine (isWord_is _ _ false HD.out).mono ?_
            rintro e w' ⟨rfl, rfl⟩
            go_wp2
            go_ret
            exact ⟨ret_int HF.out.symm, B1⟩
          | true =>
            have HA' : Hid (∀ j, j < k + 1 → wordB (xs.getD j 0) = true) := fun j hj => by
              by_cases e : j = k
              · rw [e]; exact hd
              · exact HA.out j (by omega)
            have HD : Hid _ := hd
            clear hd
            generalize xs.getD k 0 = x at hc HD
            go_wp2_with fail
            refine (isWord_is _ _ true HD.out).mono ?_
            rintro e w' ⟨rfl, rfl⟩
            go_wp2
            go_round
            case rel => exact ⟨k + 1, by omega, by go_num, HA'.out⟩
            case measure => simp [intOf]; omega
        · have hk64 : k = 64 := by omega
          subst hk64
          go_wp2
          go_loop [27] (fun i => ∃ k : Nat, k ≤ n1 ∧ i = .int .i64 k ∧ (∀ j, j < k → (placeB (ys.getD j (0, 0)).1 && wordB (ys.getD j (0, 0)).2) = true)) (fun i => n1 - (intOf i).toNat)
          case atStart => exact ⟨0, Nat.zero_le _, rfl, fun j hj => absurd hj (Nat.not_lt_zero _)⟩
          case round =>
            obtain ⟨k, hk, rfl, hall0⟩ := hrel
            have HB : Hid _ := hall0
            clear hall0
            by_cases hlt : k < n1
            · obtain ⟨b, off, rfl, _, _, _, hc, hc', _⟩ := k1.pair hlt
              have hl : (k : Int) < n1 := by omega
              obtain ⟨x, hxe⟩ : ∃ x, x = (ys.getD k (0, 0)).1 := ⟨_, rfl⟩
              obtain ⟨y, hye⟩ : ∃ y, y = (ys.getD k (0, 0)).2 := ⟨_, rfl⟩
              rw [← hxe] at hc
              rw [← hye] at hc'
              have HX : Hid (x = (ys.getD k (0, 0)).1) := hxe
              have HY : Hid (y = (ys.getD k (0, 0)).2) := hye
              clear hxe hye
              cases hp : placeB x with
              | false =>
                have HF : Hid (faultOf xs ys = 3) := fault_put hx (by omega) (j := k) (by omega) (by rw [← HX.out, hp, Bool.false_and])
                have HP : Hid _ := hp
                clear hp
                go_wp2_with fail
                refine (isSector_is _ _ false HP.out).mono ?_
                rintro e w' ⟨rfl, rfl⟩
                go_wp2
                go_ret
                exact ⟨ret_int HF.out.symm, B1⟩
              | true =>
                have HP : Hid _ := hp
                clear hp
                cases hd : wordB y with
                | false =>
                  have HF : Hid (faultOf xs ys = 3) := fault_put hx (by omega) (j := k) (by omega) (by rw [← HX.out, ← HY.out, hd, Bool.and_false])
                  have HD : Hid _ := hd
                  clear hd
                  go_wp2_with fail
                  refine (isSector_is _ _ true HP.out).mono ?_
                  rintro e w' ⟨rfl, rfl⟩
                  go_wp2_with fail
                  refine (isWord_is _ _ false HD.out).mono ?_
                  rintro e w' ⟨rfl, rfl⟩
                  go_wp2
                  go_ret
                  exact ⟨ret_int HF.out.symm, B1⟩
                | true =>
                  have HB' : Hid (∀ j, j < k + 1 → (placeB (ys.getD j (0, 0)).1 && wordB (ys.getD j (0, 0)).2) = true) := fun j hj => by
                    by_cases e : j = k
                    · rw [e, ← HX.out, ← HY.out, HP.out, hd]; rfl
                    · exact HB.out j (by omega)
                  have HD : Hid _ := hd
                  clear hd
                  go_wp2_with fail
                  refine (isSector_is _ _ true HP.out).mono ?_
                  rintro e w' ⟨rfl, rfl⟩
                  go_wp2_with fail
                  refine (isWord_is _ _ true HD.out).mono ?_
                  rintro e w' ⟨rfl, rfl⟩
                  go_wp2
                  go_round
                  case rel => exact ⟨k + 1, by omega, by go_num, HB'.out⟩
                  case measure => simp [intOf]; omega
            · go_wp2
              go_ret
              have hall := HB.out
              rw [show k = ys.length by omega] at hall
              exact ⟨ret_int (fault_ok hx (by omega) HA.out hall).symm, B1⟩
    · have ht1 : ((200 : Int) < (n1 : Int)) := by omega
      have hF := fault_many hx (show 200 < ys.length by omega)
      rw [hF]
      clear hF
      go_enter Try.func41, Try.ntmps41
      go_wp2
      go_ret
      exact ⟨rfl, B1⟩
  · have hne : ((n0 : Int) != 64) = true := by simp; omega
    have hF := fault_form (cs := ys) (show xs.length ≠ 64 by omega)
    rw [hF]
    clear hF
    go_enter Try.func41, Try.ntmps41
    go_wp2
    go_ret
    exact ⟨rfl, B1⟩

set_option maxHeartbeats 1000000 in
theorem l1Fault_any {o0 o1 : Bool} {l0 u0 l1 u1 : Nat} (p : Nat) (a0 a1 : Option Addr) (n0 c0 n1 c1 : Nat) (xs : List Int) (ys : List (Int × Int)) (w : World) (h0 : RowAt w o0 l0 u0 1 a0 n0 c0 (ints xs)) (h1 : RowAt w o1 l1 u1 2 a1 n1 c1 (pairs ys)) (hn : n0 ≤ 2097152) (hm : n1 ≤ 2097152) (hp0 : w.cell? ⟨p, 0, none⟩ = some (.slice a0 n0 c0)) (hp1 : w.cell? ⟨p, 1, none⟩ = some (.slice a1 n1 c1)) :
    Calls Try.prog 145 #[.pointer (some ⟨p, 0, none⟩)] w fun e w' => e = .returned (.int .i64 (faultOf xs ys)) ∧ w' = w := by
  have hx := h0.nInts
  have hy := h1.nPairs
  by_cases h64 : n0 = 64
  · subst h64
    by_cases h200 : n1 ≤ 200
    · have ht1 : ¬ ((200 : Int) < (n1 : Int)) := by omega
      have k0 := h0
      have k1 := h1
      clear h0 h1
      go_enter Try.func145, Try.ntmps145
      go_wp2
      go_loop [3] (fun i => ∃ k : Nat, k ≤ 64 ∧ i = .int .i64 k ∧ (∀ j, j < k → wordB (xs.getD j 0) = true)) (fun i => 64 - (intOf i).toNat)
      case atStart => exact ⟨0, Nat.zero_le _, rfl, fun j hj => absurd hj (Nat.not_lt_zero _)⟩
      case round =>
        obtain ⟨k, hk, rfl, hall0⟩ := hrel
        have HA : Hid _ := hall0
        clear hall0
        by_cases hlt : k < 64
        · obtain ⟨b, off, rfl, _, _, _, hc, _⟩ := k0.int hlt
          have hl : (k : Int) < 64 := by omega
          cases hd : wordB (xs.getD k 0) with
          | false =>
            have HF : Hid _ := fault_word (cs := ys) hx (by omega) hlt hd
            have HD : Hid _ := hd
            clear hd
            generalize xs.getD k 0 = x at *
            go_wp2_with fail
            refine (l1Word_is _ _ false HD.out).mono ?_
            rintro e w' ⟨rfl, rfl⟩
            go_wp2
            go_ret
            exact ⟨ret_int HF.out.symm, rfl⟩
          | true =>
            have HA' : Hid (∀ j, j < k + 1 → wordB (xs.getD j 0) = true) := fun j hj => by
              by_cases e : j = k
              · rw [e]; exact hd
              · exact HA.out j (by omega)
            have HD : Hid _ := hd
            clear hd
            generalize xs.getD k 0 = x at hc HD
            go_wp2_with fail
            refine (l1Word_is _ _ true HD.out).mono ?_
            rintro e w' ⟨rfl, rfl⟩
            go_wp2
            go_round
            case rel => exact ⟨k + 1, by omega, by go_num, HA'.out⟩
            case measure => simp [intOf]; omega
        · have hk64 : k = 64 := by omega
          subst hk64
          go_wp2
          go_loop [4] (fun i => ∃ k : Nat, k ≤ n1 ∧ i = .int .i64 k ∧ (∀ j, j < k → (placeB (ys.getD j (0, 0)).1 && wordB (ys.getD j (0, 0)).2) = true)) (fun i => n1 - (intOf i).toNat)
          case atStart => exact ⟨0, Nat.zero_le _, rfl, fun j hj => absurd hj (Nat.not_lt_zero _)⟩
          case round =>
            obtain ⟨k, hk, rfl, hall0⟩ := hrel
            have HB : Hid _ := hall0
            clear hall0
            by_cases hlt : k < n1
            · obtain ⟨b, off, rfl, _, _, _, hc, hc', _⟩ := k1.pair hlt
              have hl : (k : Int) < n1 := by omega
              obtain ⟨x, hxe⟩ : ∃ x, x = (ys.getD k (0, 0)).1 := ⟨_, rfl⟩
              obtain ⟨y, hye⟩ : ∃ y, y = (ys.getD k (0, 0)).2 := ⟨_, rfl⟩
              rw [← hxe] at hc
              rw [← hye] at hc'
              have HX : Hid (x = (ys.getD k (0, 0)).1) := hxe
              have HY : Hid (y = (ys.getD k (0, 0)).2) := hye
              clear hxe hye
              cases hp : placeB x with
              | false =>
                have HF : Hid (faultOf xs ys = 3) := fault_put hx (by omega) (j := k) (by omega) (by rw [← HX.out, hp, Bool.false_and])
                have HP : Hid _ := hp
                clear hp
                go_wp2_with fail
                refine (l1Place_is _ _ false HP.out).mono ?_
                rintro e w' ⟨rfl, rfl⟩
                go_wp2
                go_ret
                exact ⟨ret_int HF.out.symm, rfl⟩
              | true =>
                have HP : Hid _ := hp
                clear hp
                cases hd : wordB y with
                | false =>
                  have HF : Hid (faultOf xs ys = 3) := fault_put hx (by omega) (j := k) (by omega) (by rw [← HX.out, ← HY.out, hd, Bool.and_false])
                  have HD : Hid _ := hd
                  clear hd
                  go_wp2_with fail
                  refine (l1Place_is _ _ true HP.out).mono ?_
                  rintro e w' ⟨rfl, rfl⟩
                  go_wp2_with fail
                  refine (l1Word_is _ _ false HD.out).mono ?_
                  rintro e w' ⟨rfl, rfl⟩
                  go_wp2
                  go_ret
                  exact ⟨ret_int HF.out.symm, rfl⟩
                | true =>
                  have HB' : Hid (∀ j, j < k + 1 → (placeB (ys.getD j (0, 0)).1 && wordB (ys.getD j (0, 0)).2) = true) := fun j hj => by
                    by_cases e : j = k
                    · rw [e, ← HX.out, ← HY.out, HP.out, hd]; rfl
                    · exact HB.out j (by omega)
                  have HD : Hid _ := hd
                  clear hd
                  go_wp2_with fail
                  refine (l1Place_is _ _ true HP.out).mono ?_
                  rintro e w' ⟨rfl, rfl⟩
                  go_wp2_with fail
                  refine (l1Word_is _ _ true HD.out).mono ?_
                  rintro e w' ⟨rfl, rfl⟩
                  go_wp2
                  go_round
                  case rel => exact ⟨k + 1, by omega, by go_num, HB'.out⟩
                  case measure => simp [intOf]; omega
            · go_wp2
              go_ret
              have hall := HB.out
              rw [show k = ys.length by omega] at hall
              exact ⟨ret_int (fault_ok hx (by omega) HA.out hall).symm, rfl⟩
    · have ht1 : ((200 : Int) < (n1 : Int)) := by omega
      have hF := fault_many hx (show 200 < ys.length by omega)
      rw [hF]
      clear hF
      go_enter Try.func145, Try.ntmps145
      go_wp2
      go_ret
      exact ⟨rfl, rfl⟩
  · have hne : ((n0 : Int) != 64) = true := by simp; omega
    have hF := fault_form (cs := ys) (show xs.length ≠ 64 by omega)
    rw [hF]
    clear hF
    go_enter Try.func145, Try.ntmps145
    go_wp2
    go_ret
    exact ⟨rfl, rfl⟩

theorem specFault_any {o0 o1 : Bool} {l0 u0 l1 u1 : Nat} (a0 a1 : Option Addr) (n0 c0 n1 c1 : Nat) (xs : List Int) (ys : List (Int × Int)) (w : World) (h0 : RowAt w o0 l0 u0 1 a0 n0 c0 (ints xs)) (h1 : RowAt w o1 l1 u1 2 a1 n1 c1 (pairs ys)) (hn : n0 ≤ 2097152) (hm : n1 ≤ 2097152) :
    Calls Try.prog 40 #[.agg #[.slice a0 n0 c0, .slice a1 n1 c1]] w fun e w' => e = .returned (.int .i64 (faultOf xs ys)) ∧ Below w.heap.size w w' := by
  have B1 : Below w.heap.size w (w.alloc (.cells #[.slice a0 n0 c0, .slice a1 n1 c1] 27)) := (Below.refl _ _).alloc (Nat.le_refl _) _
  go_enter Try.func40, Try.ntmps40
  go_wp2_with fail
  refine (l1Fault_any _ a0 a1 n0 c0 n1 c1 xs ys _ (by exact h0.below B1) (by exact h1.below B1) hn hm (by simp) (by simp)).mono ?_
  rintro e w' ⟨rfl, rfl⟩
  go_wp2
  go_ret
  exact ⟨rfl, B1⟩

theorem implFault_is {o0 o1 : Bool} {l0 u0 l1 u1 : Nat} (a0 a1 : Option Addr) (n0 c0 n1 c1 : Nat) (xs : List Int) (ys : List (Int × Int)) (w : World) (h0 : RowAt w o0 l0 u0 1 a0 n0 c0 (ints xs)) (h1 : RowAt w o1 l1 u1 2 a1 n1 c1 (pairs ys)) (hn : n0 ≤ 2097152) (hm : n1 ≤ 2097152) (f : Int) (hf : faultOf xs ys = f) :
    Calls Try.prog 41 #[.agg #[.slice a0 n0 c0, .slice a1 n1 c1]] w fun e w' => e = .returned (.int .i64 f) ∧ Below w.heap.size w w' := by
  rw [← hf]; exact implFault_any a0 a1 n0 c0 n1 c1 xs ys w h0 h1 hn hm
theorem l1Fault_is {o0 o1 : Bool} {l0 u0 l1 u1 : Nat} (p : Nat) (a0 a1 : Option Addr) (n0 c0 n1 c1 : Nat) (xs : List Int) (ys : List (Int × Int)) (w : World) (h0 : RowAt w o0 l0 u0 1 a0 n0 c0 (ints xs)) (h1 : RowAt w o1 l1 u1 2 a1 n1 c1 (pairs ys)) (hn : n0 ≤ 2097152) (hm : n1 ≤ 2097152) (hp0 : w.cell? ⟨p, 0, none⟩ = some (.slice a0 n0 c0)) (hp1 : w.cell? ⟨p, 1, none⟩ = some (.slice a1 n1 c1)) (f : Int) (hf : faultOf xs ys = f) :
    Calls Try.prog 145 #[.pointer (some ⟨p, 0, none⟩)] w fun e w' => e = .returned (.int .i64 f) ∧ w' = w := by
  rw [← hf]; exact l1Fault_any p a0 a1 n0 c0 n1 c1 xs ys w h0 h1 hn hm hp0 hp1

end Go.Proofs.Ytkdaphfmhdkhfaa
