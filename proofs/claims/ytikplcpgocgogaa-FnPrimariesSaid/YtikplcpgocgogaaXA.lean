/- Chapter 8: entries in memory: rows of six cells. -/
import Derived.Test.YtikplcpgocgogaaZM
import Derived.Test.YtikplcpgocgogaaYE
import Derived.Test.YtikplcpgocgogaaO1
namespace Go.Proofs.Ytikplcpgocgogaa
open Go.RowKit

abbrev En := Int × Int × Int × Int × Int × Int
def en0 : En := (0, 0, 0, 0, 0, 0)
def enF (x : En) (j : Nat) : Int := if j = 0 then x.1 else if j = 1 then x.2.1 else if j = 2 then x.2.2.1 else if j = 3 then x.2.2.2.1 else if j = 4 then x.2.2.2.2.1 else x.2.2.2.2.2
def sixs (xs : List En) : List Value := (List.range (xs.length * 6)).map fun j => .int .i64 (enF (xs.getD (j / 6) en0) (j % 6))
theorem sixs_len (xs : List En) : (sixs xs).length = xs.length * 6 := by simp [sixs]
theorem sixs_get (xs : List En) (k j : Nat) (h : k < xs.length) (hj : j < 6) : (sixs xs).getD (k * 6 + j) default = .int .i64 (enF (xs.getD k en0) j) := by
  have h1 : k * 6 + j < xs.length * 6 := by omega
  have h2 : (k * 6 + j) / 6 = k := by omega
  have h3 : (k * 6 + j) % 6 = j := by omega
  have : (sixs xs).getD (k * 6 + j) default = .int .i64 (enF (xs.getD ((k * 6 + j) / 6) en0) ((k * 6 + j) % 6)) := by simp [sixs, List.getD, h1]
  rw [this, h2, h3]
theorem RowAt.nSixs {w : World} {own : Bool} {lo hi : Nat} {ao : Option Addr} {n cap : Nat} {vs : List En} (h : RowAt w own lo hi 6 ao n cap (sixs vs)) : vs.length = n := by
  have hl := h.len; rw [sixs_len] at hl; omega
theorem RowAt.six {w : World} {own : Bool} {lo hi : Nat} {ao : Option Addr} {n cap : Nat} {vs : List En} (h : RowAt w own lo hi 6 ao n cap (sixs vs)) {i : Nat} (hi' : i < n) :
    ∃ b off, ao = some ⟨b, off, none⟩ ∧ lo ≤ b ∧ b < hi ∧ b < w.heap.size ∧ w.cell? ⟨b, off + i * 6, none⟩ = some (.int .i64 (vs.getD i en0).1) ∧ w.cell? ⟨b, off + i * 6 + 1, none⟩ = some (.int .i64 (vs.getD i en0).2.1) ∧ w.cell? ⟨b, off + i * 6 + 2, none⟩ = some (.int .i64 (vs.getD i en0).2.2.1) ∧ w.cell? ⟨b, off + i * 6 + 3, none⟩ = some (.int .i64 (vs.getD i en0).2.2.2.1) ∧ w.cell? ⟨b, off + i * 6 + 4, none⟩ = some (.int .i64 (vs.getD i en0).2.2.2.2.1) ∧ w.cell? ⟨b, off + i * 6 + 5, none⟩ = some (.int .i64 (vs.getD i en0).2.2.2.2.2) ∧ (own = true → ∀ j, j < 6 → w.frozen? ⟨b, off + (i * 6 + j), none⟩ = false) := by
  obtain ⟨b, off, rfl, g1, g2, g3, g4, g5⟩ := h.cells (by omega)
  have hl := h.nSixs
  have G : ∀ j, j < 6 → w.cell? ⟨b, off + (i * 6 + j), none⟩ = some (.int .i64 (enF (vs.getD i en0) j)) := fun j hj => by
    rw [g4 (i * 6 + j) (by omega), sixs_get vs i j (by omega) hj]
  exact ⟨b, off, rfl, g1, g2, g3, G 0 (by omega), G 1 (by omega), G 2 (by omega), G 3 (by omega), G 4 (by omega), G 5 (by omega), fun ho j hj => g5 ho _ (by omega)⟩

end Go.Proofs.Ytikplcpgocgogaa

/- Chapter 8: entries copied and compared by the laws. -/
namespace Go.Proofs.Ytikplcpgocgogaa
open Go.RowKit

theorem Try.infoEntry : (Try.prog.info? 33).map (fun i => (i.zero, i.size, i.bytes)) = some (some (.agg #[.int .i64 0, .int .i64 0, .int .i64 0, .int .i64 0, .int .i64 0, .int .i64 0]), 6, 48) := by kernel_rfl
end Go.Proofs.Ytikplcpgocgogaa

/- Chapter 8: the fault of an entry, of the model and of the program. -/
namespace Go.Proofs.Ytikplcpgocgogaa
open Go.RowKit

def enFault (x : En) : Int := if (1 ≤ x.1 ∧ x.1 ≤ 99) ∧ (1 ≤ x.2.1 ∧ x.2.1 ≤ 999) then opF x.2.2.1 x.2.2.2.1 x.2.2.2.2.1 x.2.2.2.2.2 else 3
theorem decide_eq_false_eq {q : Prop} [Decidable q] : (decide q = false) = ¬ q := by simp
theorem isClient_is (x : Int) (w : World) (d : Bool) (h : decide (1 ≤ x ∧ x ≤ 99) = d) : Calls Try.prog 115 #[.int .i64 x] w fun e w' => e = .returned (.bool d) ∧ w' = w := by
  by_cases h1 : 1 ≤ x
  · by_cases h2 : x ≤ 99
    · have e : d = true := by rw [← h]; exact decide_eq_true ⟨h1, h2⟩
      subst e
      clear h
      go_enter Try.func115, Try.ntmps115
      go_wp2
      go_ret
      exact ⟨rfl, rfl⟩
    · have e : d = false := by rw [← h]; exact decide_eq_false (by omega)
      subst e
      clear h
      go_enter Try.func115, Try.ntmps115
      go_wp2
      go_ret
      exact ⟨rfl, rfl⟩
  · have e : d = false := by rw [← h]; exact decide_eq_false (by omega)
    subst e
    clear h
    go_enter Try.func115, Try.ntmps115
    go_wp2
    go_ret
    exact ⟨rfl, rfl⟩
theorem isSeq_is (x : Int) (w : World) (d : Bool) (h : decide (1 ≤ x ∧ x ≤ 999) = d) : Calls Try.prog 116 #[.int .i64 x] w fun e w' => e = .returned (.bool d) ∧ w' = w := by
  by_cases h1 : 1 ≤ x
  · by_cases h2 : x ≤ 999
    · have e : d = true := by rw [← h]; exact decide_eq_true ⟨h1, h2⟩
      subst e
      clear h
      go_enter Try.func116, Try.ntmps116
      go_wp2
      go_ret
      exact ⟨rfl, rfl⟩
    · have e : d = false := by rw [← h]; exact decide_eq_false (by omega)
      subst e
      clear h
      go_enter Try.func116, Try.ntmps116
      go_wp2
      go_ret
      exact ⟨rfl, rfl⟩
  · have e : d = false := by rw [← h]; exact decide_eq_false (by omega)
    subst e
    clear h
    go_enter Try.func116, Try.ntmps116
    go_wp2
    go_ret
    exact ⟨rfl, rfl⟩
set_option maxRecDepth 20000 in
set_option maxHeartbeats 1000000 in
theorem specEF_is (p q k v a x : Int) (w : World) (d : Int) (hd : enFault (p, q, k, v, a, x) = d) : Calls Try.prog 53 #[.agg #[.int .i64 p, .int .i64 q, .int .i64 k, .int .i64 v, .int .i64 a, .int .i64 x]] w fun e w' => e = .returned (.int .i64 d) ∧ Below w.heap.size w w' := by
  have HD : Hid _ := hd
  clear hd
  have B : Below w.heap.size w (w.alloc (.cells #[.int .i64 p, .int .i64 q, .int .i64 k, .int .i64 v, .int .i64 a, .int .i64 x] 33)) := (Below.refl _ _).alloc (Nat.le_refl _) _
  have c0 : (w.alloc (.cells #[.int .i64 p, .int .i64 q, .int .i64 k, .int .i64 v, .int .i64 a, .int .i64 x] 33)).cell? ⟨w.heap.size, 0, none⟩ = some (.int .i64 p) := by simp
  have c1 : (w.alloc (.cells #[.int .i64 p, .int .i64 q, .int .i64 k, .int .i64 v, .int .i64 a, .int .i64 x] 33)).cell? ⟨w.heap.size, 1, none⟩ = some (.int .i64 q) := by simp
  have c2 : (w.alloc (.cells #[.int .i64 p, .int .i64 q, .int .i64 k, .int .i64 v, .int .i64 a, .int .i64 x] 33)).cell? ⟨w.heap.size, 2, none⟩ = some (.int .i64 k) := by simp
  have c3 : (w.alloc (.cells #[.int .i64 p, .int .i64 q, .int .i64 k, .int .i64 v, .int .i64 a, .int .i64 x] 33)).cell? ⟨w.heap.size, 3, none⟩ = some (.int .i64 v) := by simp
  have c4 : (w.alloc (.cells #[.int .i64 p, .int .i64 q, .int .i64 k, .int .i64 v, .int .i64 a, .int .i64 x] 33)).cell? ⟨w.heap.size, 4, none⟩ = some (.int .i64 a) := by simp
  have c5 : (w.alloc (.cells #[.int .i64 p, .int .i64 q, .int .i64 k, .int .i64 v, .int .i64 a, .int .i64 x] 33)).cell? ⟨w.heap.size, 5, none⟩ = some (.int .i64 x) := by simp
  go_enter Try.func53, Try.ntmps53
  by_cases h1 : 1 ≤ p ∧ p ≤ 99
  · by_cases h2 : 1 ≤ q ∧ q ≤ 999
    · have H : Hid (opF k v a x = d) := by show _ = _; rw [← HD.out]; unfold enFault; rw [if_pos ⟨h1, h2⟩]
      go_wp2_with fail
      refine (l1In_is' p 1 99 _ true (by simp only [decide_eq_true_eq]; omega)).mono ?_
      rintro e1 W ⟨rfl, rfl⟩
      go_wp2_with fail
      refine (l1In_is' q 1 999 _ true (by simp only [decide_eq_true_eq]; omega)).mono ?_
      rintro e1 W ⟨rfl, rfl⟩
      clear HD
      go_wp2_with fail
      refine (specOpF_is k v a x _ d H.out).mono ?_
      rintro e2 w2 ⟨rfl, hb⟩
      replace B := below_next B hb
      clear hb c0 c1 c2 c3 c4 c5
      go_wp2
      go_ret
      exact ⟨rfl, B⟩
    · have H : d = 3 := by rw [← HD.out]; unfold enFault; rw [if_neg (fun h => h2 h.2)]
      subst H
      go_wp2_with fail
      refine (l1In_is' p 1 99 _ true (by simp only [decide_eq_true_eq]; omega)).mono ?_
      rintro e1 W ⟨rfl, rfl⟩
      go_wp2_with fail
      refine (l1In_is' q 1 999 _ false (by simp only [decide_eq_false_eq]; omega)).mono ?_
      rintro e1 W ⟨rfl, rfl⟩
      go_wp2
      go_ret
      exact ⟨rfl, B⟩
  · have H : d = 3 := by rw [← HD.out]; unfold enFault; rw [if_neg (fun h => h1 h.1)]
    subst H
    go_wp2_with fail
    refine (l1In_is' p 1 99 _ false (by simp only [decide_eq_false_eq]; omega)).mono ?_
    rintro e1 W ⟨rfl, rfl⟩
    go_wp2
    go_ret
    exact ⟨rfl, B⟩
set_option maxRecDepth 20000 in
set_option maxHeartbeats 1000000 in
theorem implEF_is (p q k v a x : Int) (w : World) (d : Int) (hd : enFault (p, q, k, v, a, x) = d) : Calls Try.prog 47 #[.agg #[.int .i64 p, .int .i64 q, .int .i64 k, .int .i64 v, .int .i64 a, .int .i64 x]] w fun e w' => e = .returned (.int .i64 d) ∧ Below w.heap.size w w' := by
  have HD : Hid _ := hd
  clear hd
  have B : Below w.heap.size w (w.alloc (.cells #[.int .i64 p, .int .i64 q, .int .i64 k, .int .i64 v, .int .i64 a, .int .i64 x] 33)) := (Below.refl _ _).alloc (Nat.le_refl _) _
  have c0 : (w.alloc (.cells #[.int .i64 p, .int .i64 q, .int .i64 k, .int .i64 v, .int .i64 a, .int .i64 x] 33)).cell? ⟨w.heap.size, 0, none⟩ = some (.int .i64 p) := by simp
  have c1 : (w.alloc (.cells #[.int .i64 p, .int .i64 q, .int .i64 k, .int .i64 v, .int .i64 a, .int .i64 x] 33)).cell? ⟨w.heap.size, 1, none⟩ = some (.int .i64 q) := by simp
  have c2 : (w.alloc (.cells #[.int .i64 p, .int .i64 q, .int .i64 k, .int .i64 v, .int .i64 a, .int .i64 x] 33)).cell? ⟨w.heap.size, 2, none⟩ = some (.int .i64 k) := by simp
  have c3 : (w.alloc (.cells #[.int .i64 p, .int .i64 q, .int .i64 k, .int .i64 v, .int .i64 a, .int .i64 x] 33)).cell? ⟨w.heap.size, 3, none⟩ = some (.int .i64 v) := by simp
  have c4 : (w.alloc (.cells #[.int .i64 p, .int .i64 q, .int .i64 k, .int .i64 v, .int .i64 a, .int .i64 x] 33)).cell? ⟨w.heap.size, 4, none⟩ = some (.int .i64 a) := by simp
  have c5 : (w.alloc (.cells #[.int .i64 p, .int .i64 q, .int .i64 k, .int .i64 v, .int .i64 a, .int .i64 x] 33)).cell? ⟨w.heap.size, 5, none⟩ = some (.int .i64 x) := by simp
  go_enter Try.func47, Try.ntmps47
  by_cases h1 : 1 ≤ p ∧ p ≤ 99
  · by_cases h2 : 1 ≤ q ∧ q ≤ 999
    · have H : Hid (opF k v a x = d) := by show _ = _; rw [← HD.out]; unfold enFault; rw [if_pos ⟨h1, h2⟩]
      go_wp2_with fail
      refine (isClient_is p _ true (by simp only [decide_eq_true_eq]; omega)).mono ?_
      rintro e1 W ⟨rfl, rfl⟩
      go_wp2_with fail
      refine (isSeq_is q _ true (by simp only [decide_eq_true_eq]; omega)).mono ?_
      rintro e1 W ⟨rfl, rfl⟩
      clear HD
      go_wp2_with fail
      refine (implOpF_is k v a x _ d H.out).mono ?_
      rintro e2 w2 ⟨rfl, hb⟩
      replace B := below_next B hb
      clear hb c0 c1 c2 c3 c4 c5
      go_wp2
      go_ret
      exact ⟨rfl, B⟩
    · have H : d = 3 := by rw [← HD.out]; unfold enFault; rw [if_neg (fun h => h2 h.2)]
      subst H
      go_wp2_with fail
      refine (isClient_is p _ true (by simp only [decide_eq_true_eq]; omega)).mono ?_
      rintro e1 W ⟨rfl, rfl⟩
      go_wp2_with fail
      refine (isSeq_is q _ false (by simp only [decide_eq_false_eq]; omega)).mono ?_
      rintro e1 W ⟨rfl, rfl⟩
      go_wp2
      go_ret
      exact ⟨rfl, B⟩
  · have H : d = 3 := by rw [← HD.out]; unfold enFault; rw [if_neg (fun h => h1 h.1)]
    subst H
    go_wp2_with fail
    refine (isClient_is p _ false (by simp only [decide_eq_false_eq]; omega)).mono ?_
    rintro e1 W ⟨rfl, rfl⟩
    go_wp2
    go_ret
    exact ⟨rfl, B⟩

end Go.Proofs.Ytikplcpgocgogaa
