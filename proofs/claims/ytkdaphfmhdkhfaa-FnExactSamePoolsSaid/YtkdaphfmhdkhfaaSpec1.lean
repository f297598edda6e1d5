/- What the model's inner functions of chapter 1 answer. -/
import Derived.Test.YtkdaphfmhdkhfaaFlush
namespace Go.Proofs.Ytkdaphfmhdkhfaa
open Go.RowKit

theorem putAll_append (zs : List Int) (a b : List (Int × Int)) : putAll zs (a ++ b) = putAll (putAll zs a) b := by simp [putAll]
theorem putAll_miss {m : Nat} (l : List (Int × Int)) : ∀ (zs : List Int), (∀ p ∈ l, p.1.toNat ≠ m) → (putAll zs l).getD m 0 = zs.getD m 0 := by
  induction l with
  | nil => intro zs _; rfl
  | cons p r ih =>
    intro zs h
    show (putAll (zs.set p.1.toNat p.2) r).getD m 0 = _
    rw [ih _ (fun q hq => h q (List.mem_cons_of_mem _ hq))]
    have := h p List.mem_cons_self
    simp [List.getD, this]
theorem puts_behind {ys : List (Int × Int)} (hpl : placesB ys = true) {k m : Nat} (h : ∀ j, k ≤ j → j < ys.length → (ys.getD j (0, 0)).1 ≠ (m : Int)) (zs : List Int) : (putAll zs ys).getD m 0 = (putAll zs (ys.take k)).getD m 0 := by
  conv => lhs; rw [← List.take_append_drop k ys]
  rw [putAll_append, putAll_miss]
  intro p hp
  obtain ⟨j, hj, rfl⟩ := List.getElem_of_mem hp
  have hj' : j < ys.length - k := by simpa using hj
  have h1 := h (k + j) (by omega) (by omega)
  obtain ⟨m', e, _⟩ := places_at hpl (show k + j < ys.length by omega)
  have e2 : ys.getD (k + j) (0, 0) = (ys.drop k)[j] := by simp [List.getD, show k + j < ys.length by omega]
  rw [e2] at h1 e
  omega
theorem puts_hit {ys : List (Int × Int)} {k m : Nat} (hk : k < ys.length) (h : (ys.getD k (0, 0)).1 = (m : Int)) (zs : List Int) (hm : m < zs.length) : (putAll zs (ys.take (k + 1))).getD m 0 = (ys.getD k (0, 0)).2 := by
  rw [take_snoc_getD ys (0, 0) k hk, putAll_snoc, h, Int.toNat_natCast]
  simp [List.getD, putAll_len, hm]

set_option maxHeartbeats 1000000 in
theorem l1At_any {o0 o1 : Bool} {l0 u0 l1 u1 : Nat} (p : Nat) (a0 a1 : Option Addr) (n0 c0 n1 c1 : Nat) (xs : List Int) (ys : List (Int × Int)) (m : Nat) (w : World) (h0 : RowAt w o0 l0 u0 1 a0 n0 c0 (ints xs)) (h1 : RowAt w o1 l1 u1 2 a1 n1 c1 (pairs ys)) (hx : xs.length = 64) (hm64 : m < 64) (hn : n1 ≤ 2097152) (hpl : placesB ys = true)
    (hp0 : w.cell? ⟨p, 0, none⟩ = some (.slice a0 n0 c0)) (hp1 : w.cell? ⟨p, 1, none⟩ = some (.slice a1 n1 c1)) (r : Int) (hr : (putAll xs ys).getD m 0 = r) :
    Calls Try.prog 193 #[.pointer (some ⟨p, 0, none⟩), .int .i64 m] w fun e w' => e = .returned (.int .i64 r) ∧ w' = w := by
  have hn0 := h0.nInts
  have hn1 := h1.nPairs
  have HR : Hid _ := hr
  clear hr
  go_enter Try.func193, Try.ntmps193
  go_wp2
  go_loop [5] (fun i => ∃ k : Nat, k ≤ n1 ∧ i = .int .i64 ((k : Int) - 1) ∧ (∀ j, k ≤ j → j < n1 → (ys.getD j (0, 0)).1 ≠ (m : Int))) (fun i => (intOf i + 1).toNat)
  case atStart => exact ⟨n1, Nat.le_refl _, rfl, fun j h h' => absurd h' (by omega)⟩
  case round =>
    obtain ⟨k, hk, rfl, hall0⟩ := hrel
    have HA : Hid _ := hall0
    clear hall0
    cases k with
    | zero =>
      have hlt : ¬ (0 ≤ ((0 : Nat) : Int) - 1) := by omega
      obtain ⟨b, off, rfl, _, _, _, hc, _⟩ := h0.int (show m < n0 by omega)
      have HE : Hid (xs.getD m 0 = r) := by
        rw [← HR.out, puts_behind hpl (k := 0) (by rw [hn1]; exact HA.out)]; rfl
      have hm1 : (m : Int) < n0 := by omega
      clear hx hn0 hn1
      generalize xs.getD m 0 = x at *
      go_wp2
      go_ret
      exact ⟨ret_int HE.out, rfl⟩
    | succ k =>
      have hlt : k < n1 := by omega
      obtain ⟨b, off, rfl, _, _, _, hc, hc', _⟩ := h1.pair hlt
      rw [show ((k + 1 : Nat) : Int) - 1 = (k : Int) by omega]
      have hl : (k : Int) < n1 := by omega
      by_cases hhit : (ys.getD k (0, 0)).1 = (m : Int)
      · have HE : Hid ((ys.getD k (0, 0)).2 = r) := by
          rw [← HR.out, puts_behind hpl (k := k + 1) (by rw [hn1]; exact HA.out), puts_hit (by omega) hhit xs (by omega)]; rfl
        rw [hhit] at hc
        clear hx hn0 hn1 hhit
        generalize (ys.getD k (0, 0)).2 = x at *
        have he : ((m : Int) == (m : Int)) = true := by simp
        go_wp2
        go_ret
        exact ⟨ret_int HE.out, rfl⟩
      · have HN : Hid (∀ j, k ≤ j → j < n1 → (ys.getD j (0, 0)).1 ≠ (m : Int)) := fun j h h' => by
          by_cases e : j = k
          · rw [e]; exact hhit
          · exact HA.out j (by omega) h'
        clear hx hn0 hn1
        generalize (ys.getD k (0, 0)).1 = x at hc hhit
        have he : (x == (m : Int)) = false := by simp [hhit]
        clear hhit
        go_wp2
        go_round
        case rel => exact ⟨k, by omega, by go_num, HN.out⟩
        case measure => simp [intOf]

set_option maxHeartbeats 1000000 in
theorem l1All_any {o0 o1 : Bool} {l0 u0 l1 u1 : Nat} (p : Nat) (a0 a1 : Option Addr) (n0 c0 n1 c1 : Nat) (xs : List Int) (ys : List (Int × Int)) (w : World) (h0 : RowAt w o0 l0 u0 1 a0 n0 c0 (ints xs)) (h1 : RowAt w o1 l1 u1 2 a1 n1 c1 (pairs ys)) (hx : xs.length = 64) (hn : n1 ≤ 2097152) (hpl : placesB ys = true)
    (hp0 : w.cell? ⟨p, 0, none⟩ = some (.slice a0 n0 c0)) (hp1 : w.cell? ⟨p, 1, none⟩ = some (.slice a1 n1 c1)) :
    Calls Try.prog 194 #[.pointer (some ⟨p, 0, none⟩)] w fun e w' => ∃ ao cap, e = .returned (.slice ao 64 cap) ∧ RowAt w' true w.heap.size w'.heap.size 1 ao 64 cap (ints (putAll xs ys)) ∧ Below w.heap.size w w' := by
  obtain ⟨i0, hi0, hz0, hz1, hz2⟩ := info_parts Try.info2'
  have hl : (ints (putAll xs ys)).length = 64 := by rw [ints_length, putAll_len, hx]
  go_enter Try.func194, Try.ntmps194
  go_wp2
  go_loopw [3, 4] (fun v i wr => ∃ k : Nat, k ≤ 64 ∧ i = .int .i64 k ∧ wr.ownsRow w.heap.size 2 1 v k (ints ((putAll xs ys).take k)) ∧ Below w.heap.size w wr) (fun _ i _ => 64 - (intOf i).toNat)
  case atStart => exact ⟨0, Nat.zero_le _, rfl, World.ownsRow_lit w #[] 0 (Nat.le_refl _) (Nat.zero_le _) rfl, (Below.refl _ _).alloc (Nat.le_refl _) _⟩
  case round =>
    obtain ⟨k, hk, rfl, hown, hb⟩ := hrel
    by_cases hlt : k < 64
    · have hl64 : (k : Int) < 64 := by omega
      obtain ⟨x, hxk⟩ : ∃ x, (putAll xs ys).getD k 0 = x := ⟨_, rfl⟩
      have HX : Hid _ := hxk
      clear hxk
      have HL : Hid _ := hl
      clear hl
      go_wp2_with fail
      refine (l1At_any p a0 a1 n0 c0 n1 c1 xs ys k _ (by exact h0.below hb) (by exact h1.below hb) hx hlt hn hpl (by exact cell_later hb hp0) (by exact cell_later hb hp1) x HX.out).mono ?_
      rintro e w' ⟨rfl, rfl⟩
      have hB := hb.size
      have hownA := hown.alloc (.cells #[.int .i64 x] 2)
      go_wp2_with (first | (at_builtin; refine wpList_append_own _ rfl _ _ 24 rfl w.heap.size 2 i0 (.int .i64 0) 1 8 Try.underlying24 hi0 hz0 hz1 hz2 rfl (by decide) _ _ _ rfl hownA ⟨w'.heap.size, 0, none⟩ 1 1 [.int .i64 x] rfl rfl ?c1 ?c2 ?c3 ?c4 ?c5 ?_))
      case c1 =>
        intro j u hj
        match j, hj with
        | 0, hj => simp at hj; subst hj; simp [Addr.add]
      case c2 => intro u hu; simp at hu; subst hu; rfl
      case c3 => unfold maxLen; omega
      case c4 => omega
      case c5 => simp; omega
      intro v' w1 hown' hgrow _
      have hb1 : Below w.heap.size w w1 := (hb.alloc hB _).grown hgrow (by simp; omega) (fun g hg => (hownA.lt g hg).1)
      have hown2 : w1.ownsRow w.heap.size 2 1 v' (k + 1) (ints ((putAll xs ys).take (k + 1))) := by
        have e := take_snoc_getD (putAll xs ys) 0 k (by rw [putAll_len, hx]; exact hlt)
        rw [e, HX.out]
        simpa [ints] using hown'
      clear hown' hgrow hown hb hownA
      go_wp2
      go_roundw
      case rel => exact ⟨k + 1, by omega, by go_num, hown2, hb1⟩
      case measure => simp [intOf]; omega
    · have hk64 : k = 64 := by omega
      subst hk64
      rw [List.take_of_length_le (by rw [putAll_len, hx]; exact Nat.le_refl _)] at hown
      obtain ⟨ao, cap, rfl, R⟩ := RowAt.of_owned hown
      go_wp2
      go_ret
      exact ⟨ao, cap, rfl, R, hb⟩

end Go.Proofs.Ytkdaphfmhdkhfaa
