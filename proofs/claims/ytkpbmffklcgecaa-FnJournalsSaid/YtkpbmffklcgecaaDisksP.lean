/- Plain facts for the law of disks; what the laws' small helpers answer. -/
import Derived.Test.YtkpbmffklcgecaaDrawD
import Derived.Test.YtkpbmffklcgecaaFacts
import Derived.Test.YtkpbmffklcgecaaCrashD
import Derived.Test.YtkpbmffklcgecaaWordAt
import Derived.Test.YtkpbmffklcgecaaPutE
namespace Go.Proofs.Ytkpbmffklcgecaa
open Go.RowKit

theorem putAll_words (l : List (Int × Int)) : ∀ (zs : List Int), zs.all wordB = true → l.all (fun p => wordB p.2) = true → (putAll zs l).all wordB = true := by
  induction l with
  | nil => intro zs h _; exact h
  | cons p r ih =>
    intro zs h hl
    simp only [List.all_cons, Bool.and_eq_true] at hl
    refine ih _ ?_ hl.2
    rw [List.all_eq_true] at h ⊢
    intro x hx
    rcases List.mem_or_eq_of_mem_set hx with hx | rfl
    · exact h x hx
    · exact hl.1
theorem crash_fault {xs : List Int} {ys : List (Int × Int)} (h : faultOf xs ys = 0) (bs : List Bool) : faultOf (putAll xs (picked ys bs)) [] = 0 := by
  obtain ⟨h1, _, _⟩ := fault_zero h
  obtain ⟨h3, h4⟩ := fault_all h
  refine fault_of (by rw [putAll_len]; exact h1) (by simp) (putAll_words _ _ h3 ?_) rfl
  rw [List.all_eq_true] at h4 ⊢
  intro p hp
  unfold picked at hp
  simp only [List.mem_map, List.mem_filter] at hp
  obtain ⟨q, ⟨hq, _⟩, rfl⟩ := hp
  have := h4 _ (List.of_mem_zip hq).1
  rw [Bool.and_eq_true] at this
  exact this.2
theorem put5_fault {xs : List Int} {ys : List (Int × Int)} (h : faultOf xs ys = 0) (hl : ys.length < 200) : faultOf xs (ys ++ [(5, 77)]) = 0 := by
  obtain ⟨h1, _, _⟩ := fault_zero h
  obtain ⟨h3, h4⟩ := fault_all h
  refine fault_of h1 (by simp; omega) h3 ?_
  rw [List.all_append, h4]; rfl
theorem put5_code {xs : List Int} {ys : List (Int × Int)} (h : faultOf xs ys = 0) : putCode xs ys 5 77 = if ys.length = 200 then 2 else 0 := by
  rw [putCode, if_pos h]; rfl
theorem new_same {xs : List Int} {ys : List (Int × Int)} (h : faultOf xs ys = 0) : newCode xs = 0 ∧ newList xs = xs := by
  obtain ⟨h1, _, _⟩ := fault_zero h
  obtain ⟨h3, _⟩ := fault_all h
  have : newCode xs = 0 := by rw [newCode, pad_same h1]; exact fault_of h1 (by simp) h3 rfl
  exact ⟨this, by rw [newList, if_pos this, pad_same h1]⟩
theorem at5 {xs : List Int} {ys : List (Int × Int)} (h : faultOf xs ys = 0) (hl : ys.length < 200) : atVal xs (ys ++ [(5, 77)]) 5 = 77 := by
  obtain ⟨h1, _, _⟩ := fault_zero h
  rw [atVal, if_pos (put5_fault h hl), if_pos (by decide), putAll_snoc]
  have : (5 : Int).toNat < (putAll xs ys).length := by rw [putAll_len]; omega
  simp [List.getD, putAll_len, h1]

/-- what is at a place once the first k puts that are picked have been done -/
def wantAt (xs : List Int) (ys : List (Int × Int)) (bs : List Bool) (m k : Nat) : Int := (putAll xs (picked (ys.take k) (bs.take k))).getD m 0
theorem want_zero (xs : List Int) (ys : List (Int × Int)) (bs : List Bool) (m : Nat) : wantAt xs ys bs m 0 = xs.getD m 0 := by simp [wantAt, picked, putAll]
theorem want_no {xs : List Int} {ys : List (Int × Int)} {bs : List Bool} {m k : Nat} (h1 : k < ys.length) (h2 : k < bs.length) (h : bs.getD k false = false) : wantAt xs ys bs m (k + 1) = wantAt xs ys bs m k := by
  unfold wantAt; rw [picked_snoc ys bs k h1 h2, h]; simp
theorem want_far {xs : List Int} {ys : List (Int × Int)} {bs : List Bool} {m k j : Nat} (h1 : k < ys.length) (h2 : k < bs.length) (hj : (ys.getD k (0, 0)).1 = (j : Int)) (hm : j ≠ m) : wantAt xs ys bs m (k + 1) = wantAt xs ys bs m k := by
  unfold wantAt; rw [picked_snoc ys bs k h1 h2]
  cases bs.getD k false with
  | false => simp
  | true =>
    rw [if_pos rfl, putAll_snoc, hj, Int.toNat_natCast]
    simp only [List.getD]
    rw [List.getElem?_set_ne hm]
theorem want_hit {xs : List Int} {ys : List (Int × Int)} {bs : List Bool} {m k : Nat} (hx : m < xs.length) (h1 : k < ys.length) (h2 : k < bs.length) (h : bs.getD k false = true) (hj : (ys.getD k (0, 0)).1 = (m : Int)) : wantAt xs ys bs m (k + 1) = (ys.getD k (0, 0)).2 := by
  unfold wantAt
  rw [picked_snoc ys bs k h1 h2, h, if_pos rfl, putAll_snoc, hj, Int.toNat_natCast]
  have : m < (putAll xs (picked (ys.take k) (bs.take k))).length := by rw [putAll_len]; exact hx
  simp [List.getD, this]
theorem want_end (xs : List Int) (ys : List (Int × Int)) (bs : List Bool) (m k : Nat) (h : k = min ys.length bs.length) : wantAt xs ys bs m k = (putAll xs (picked ys bs)).getD m 0 := by
  unfold wantAt; rw [picked_end ys bs k h]

theorem lwBig_is (ac : Option Addr) (nc cc : Nat) (w : World) (d : Bool) (h : decide (1048576 < nc) = d) : Calls Try.prog 18 #[.slice ac nc cc] w fun e w' => e = .returned (.bool d) ∧ w' = w := by
  rw [← h]
  go_enter Try.func18, Try.ntmps18
  go_wp2
  go_ret
  exact ⟨ret_bool (by simp; omega), rfl⟩

set_option maxHeartbeats 400000 in
theorem lwNums_yes {o1 o2 : Bool} {l1 u1 l2 u2 : Nat} (a1 a2 : Option Addr) (n c1 c2 : Nat) (xs : List Int) (w : World) (h1 : RowAt w o1 l1 u1 1 a1 n c1 (ints xs)) (h2 : RowAt w o2 l2 u2 1 a2 n c2 (ints xs)) (hn : n ≤ 2097152) :
    Calls Try.prog 25 #[.slice a1 n c1, .slice a2 n c2] w fun e w' => e = .returned (.bool true) ∧ Below w.heap.size w w' := by
  go_enter Try.func25, Try.ntmps25
  go_wp2
  go_loopw [5] (fun i wr => ∃ k : Nat, k ≤ n ∧ i = .int .i64 k ∧ Below w.heap.size w wr) (fun i _ => n - (intOf i).toNat)
  case atStart => exact ⟨0, Nat.zero_le _, rfl, Below.refl _ _⟩
  case round =>
    obtain ⟨k, hk, rfl, hb⟩ := hrel
    by_cases hlt : k < n
    · obtain ⟨b1, f1, rfl, _, _, hs1, e1, _⟩ := h1.int hlt
      obtain ⟨b2, f2, rfl, _, _, hs2, e2, _⟩ := h2.int hlt
      have g1 : wr.cell? ⟨b1, f1 + k, none⟩ = some (.int .i64 (xs.getD k 0)) := (hb.cell (p := ⟨b1, f1 + k, none⟩) hs1).trans e1
      have g2 : wr.cell? ⟨b2, f2 + k, none⟩ = some (.int .i64 (xs.getD k 0)) := (hb.cell (p := ⟨b2, f2 + k, none⟩) hs2).trans e2
      clear e1 e2
      have hl : (k : Int) < (n : Int) := by omega
      generalize xs.getD k 0 = x at *
      have hxx : (x != x) = false := by simp
      go_wp2_with fail
      go_region_held3 (fun w' => w'.cell? ⟨b1, f1 + k, none⟩ = some (.int .i64 x) ∧ w'.cell? ⟨b2, f2 + k, none⟩ = some (.int .i64 x)) (exact ⟨g1, g2⟩) (fail)
      go_wp2
      go_roundw
      case rel => exact ⟨k + 1, by omega, by go_num, hb.drew⟩
      case measure => simp [intOf]; omega
    · go_wp2
      go_ret
      exact ⟨rfl, hb⟩

end Go.Proofs.Ytkpbmffklcgecaa
