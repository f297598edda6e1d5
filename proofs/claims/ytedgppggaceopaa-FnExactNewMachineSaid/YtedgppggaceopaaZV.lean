/- Chapter 4: the program's small questions on forests. -/
import Derived.Test.YtedgppggaceopaaZU
import Derived.Test.YtedgppggaceopaaZQ
import Derived.BigQuiet
import Derived.Laws.StructEq
import Derived.Laws.Cover3
import Derived.Test.YtedgppggaceopaaZT
namespace Go.Proofs.Ytedgppggaceopaa
open Go.RowKit

theorem isPlaceOf_is (n x : Int) (w : World) (d : Bool) (h : decide (0 ≤ x ∧ x ≤ n - 1) = d) : Calls Try.prog 113 #[.int .i64 n, .int .i64 x] w fun e w' => e = .returned (.bool d) ∧ w' = w := by
  subst h
  by_cases h0 : 0 ≤ x
  · by_cases h1 : x < n
    · go_enter Try.func113, Try.ntmps113
      go_wp2
      go_ret
      exact ⟨ret_bool (by simp; omega), rfl⟩
    · go_enter Try.func113, Try.ntmps113
      go_wp2
      go_ret
      exact ⟨ret_bool (by simp; omega), rfl⟩
  · go_enter Try.func113, Try.ntmps113
    go_wp2
    go_ret
    exact ⟨ret_bool (by simp; omega), rfl⟩
section
variable {o : Bool} {l u : Nat} (an : Option Addr) (nn cn : Nat) (ab : Option Addr) (nb cb : Nat) (K : Nat → KS) (f : Fo) (w : World) (h : FoAt w o l u an nn cn ab nb cb K f) (hn : nn ≤ 2097152) (hb : nb ≤ 2097152)
include h hn hb

set_option maxRecDepth 20000 in
set_option maxHeartbeats 1000000 in
theorem isRoot_is (root : Int) (d : Bool) (hd : rootOk f root = d) : Calls Try.prog 85 #[.agg #[.slice an nn cn, .slice ab nb cb], .int .i64 root] w fun e w' => e = .returned (.bool d) ∧ Below w.heap.size w w' := by
  have _ := hn; have _ := hb
  have A : Below w.heap.size w (w.alloc (.cells #[.slice an nn cn, .slice ab nb cb] 37)) := (Below.refl _ _).alloc (Nat.le_refl _) _
  have hl := h.nodes.len
  unfold rootOk at hd
  by_cases h1 : root = -1
  · rw [if_pos h1] at hd
    subst hd
    subst h1
    go_enter Try.func85, Try.ntmps85
    go_wp2
    go_ret
    exact ⟨rfl, A⟩
  · rw [if_neg h1, hl] at hd
    have hne : (root == -1) = false := by simp [h1]
    by_cases hx : 0 ≤ root ∧ root ≤ (nn : Int) - 1
    · rw [decide_eq_true hx, Bool.true_and] at hd
      obtain ⟨k, rfl⟩ : ∃ k : Nat, root = k := ⟨root.toNat, by omega⟩
      rw [Int.toNat_natCast] at hd
      have hlt : k < nn := by omega
      have hlk : (k : Int) < nn := by omega
      have HD : Hid _ := decide_eq_true hx
      obtain ⟨b, off, rfl, _, _, _, e1, e2, e3, _⟩ := h.nodes.node hlt
      replace e1 := cell_later A e1
      replace e2 := cell_later A e2
      unfold nodeOf at hd
      obtain ⟨⟨r, lf, ks⟩, hnd⟩ : ∃ nd, f.1.getD k nd0 = nd := ⟨_, rfl⟩
      rw [hnd] at e1 e2 hd
      simp only at e1 e2 hd
      clear hnd hx h1 e3
      cases lf with
      | true =>
        obtain rfl : d = false := by rw [← hd]; simp
        clear hd
        go_enter Try.func85, Try.ntmps85
        go_wp2_with fail
        refine (isPlaceOf_is _ _ _ true HD.out).mono ?_
        rintro e w1 ⟨rfl, rfl⟩
        go_wp2
        go_ret
        exact ⟨rfl, A⟩
      | false =>
        by_cases hr : 0 < r
        · rw [decide_eq_true hr] at hd
          subst hd
          go_enter Try.func85, Try.ntmps85
          go_wp2_with fail
          refine (isPlaceOf_is _ _ _ true HD.out).mono ?_
          rintro e w1 ⟨rfl, rfl⟩
          go_wp2
          go_ret
          exact ⟨rfl, A⟩
        · rw [decide_eq_false hr] at hd
          subst hd
          go_enter Try.func85, Try.ntmps85
          go_wp2_with fail
          refine (isPlaceOf_is _ _ _ true HD.out).mono ?_
          rintro e w1 ⟨rfl, rfl⟩
          go_wp2
          go_ret
          exact ⟨ret_bool (by simp; omega), A⟩
    · rw [decide_eq_false hx, Bool.false_and, Bool.false_and] at hd
      subst hd
      have HD : Hid _ := decide_eq_false hx
      clear hx
      go_enter Try.func85, Try.ntmps85
      go_wp2_with fail
      refine (isPlaceOf_is _ _ _ false HD.out).mono ?_
      rintro e w1 ⟨rfl, rfl⟩
      go_wp2
      go_ret
      exact ⟨rfl, A⟩

set_option maxRecDepth 20000 in
set_option maxHeartbeats 2000000 in
theorem isKid_is (lf : Bool) (k : Int) (hk1 : k ≠ -1) (d : Bool) (hd : kidOk f lf k = d) : Calls Try.prog 112 #[.agg #[.slice an nn cn, .slice ab nb cb], .bool lf, .int .i64 k] w fun e w' => e = .returned (.bool d) ∧ Below w.heap.size w w' := by
  have _ := hn; have _ := hb
  have A : Below w.heap.size w (w.alloc (.cells #[.slice an nn cn, .slice ab nb cb] 37)) := (Below.refl _ _).alloc (Nat.le_refl _) _
  have hl := h.nodes.len
  have hbl := h.blocks.nPairs
  unfold kidOk at hd
  rw [if_neg hk1] at hd
  clear hk1
  cases lf with
  | true =>
    rw [if_pos rfl, hbl] at hd
    by_cases hx : 0 ≤ k ∧ k ≤ (nb : Int) - 1
    · rw [decide_eq_true hx, Bool.true_and] at hd
      have HD : Hid _ := decide_eq_true hx
      obtain ⟨k, rfl⟩ : ∃ m : Nat, k = m := ⟨k.toNat, by omega⟩
      rw [Int.toNat_natCast] at hd
      have hlt : k < nb := by omega
      have hlk : (k : Int) < nb := by omega
      obtain ⟨b, off, rfl, _, _, _, e1, e2, _⟩ := h.blocks.pair hlt
      replace e1 := cell_later A e1
      unfold blockOf at hd
      obtain ⟨r, hr⟩ : ∃ r, (f.2.getD k (0, 0)).1 = r := ⟨_, rfl⟩
      rw [hr] at e1 hd
      clear hr hx e2
      by_cases hr0 : 0 < r
      · rw [decide_eq_true hr0] at hd
        subst hd
        go_enter Try.func112, Try.ntmps112
        go_wp2_with fail
        refine (isPlaceOf_is _ _ _ true HD.out).mono ?_
        rintro e w1 ⟨rfl, rfl⟩
        go_wp2
        go_ret
        exact ⟨rfl, A⟩
      · rw [decide_eq_false hr0] at hd
        subst hd
        go_enter Try.func112, Try.ntmps112
        go_wp2_with fail
        refine (isPlaceOf_is _ _ _ true HD.out).mono ?_
        rintro e w1 ⟨rfl, rfl⟩
        go_wp2
        go_ret
        exact ⟨ret_bool (by simp; omega), A⟩
    · rw [decide_eq_false hx, Bool.false_and] at hd
      subst hd
      have HD : Hid _ := decide_eq_false hx
      clear hx
      go_enter Try.func112, Try.ntmps112
      go_wp2_with fail
      refine (isPlaceOf_is _ _ _ false HD.out).mono ?_
      rintro e w1 ⟨rfl, rfl⟩
      go_wp2
      go_ret
      exact ⟨rfl, A⟩
  | false =>
    rw [if_neg (by decide), hl] at hd
    by_cases hx : 0 ≤ k ∧ k ≤ (nn : Int) - 1
    · rw [decide_eq_true hx, Bool.true_and] at hd
      have HD : Hid _ := decide_eq_true hx
      obtain ⟨k, rfl⟩ : ∃ m : Nat, k = m := ⟨k.toNat, by omega⟩
      rw [Int.toNat_natCast] at hd
      have hlt : k < nn := by omega
      have hlk : (k : Int) < nn := by omega
      obtain ⟨b, off, rfl, _, _, _, e1, e2, e3, _⟩ := h.nodes.node hlt
      replace e1 := cell_later A e1
      replace e2 := cell_later A e2
      unfold nodeOf at hd
      obtain ⟨⟨r, lf, ks⟩, hnd⟩ : ∃ nd, f.1.getD k nd0 = nd := ⟨_, rfl⟩
      rw [hnd] at e1 e2 hd
      simp only at e1 e2 hd
      clear hnd hx e3
      cases lf with
      | false =>
        obtain rfl : d = false := by rw [← hd]; simp
        clear hd
        go_enter Try.func112, Try.ntmps112
        go_wp2_with fail
        refine (isPlaceOf_is _ _ _ true HD.out).mono ?_
        rintro e w1 ⟨rfl, rfl⟩
        go_wp2
        go_ret
        exact ⟨rfl, A⟩
      | true =>
        by_cases hr : 0 < r
        · rw [decide_eq_true hr] at hd
          subst hd
          go_enter Try.func112, Try.ntmps112
          go_wp2_with fail
          refine (isPlaceOf_is _ _ _ true HD.out).mono ?_
          rintro e w1 ⟨rfl, rfl⟩
          go_wp2
          go_ret
          exact ⟨rfl, A⟩
        · rw [decide_eq_false hr] at hd
          subst hd
          go_enter Try.func112, Try.ntmps112
          go_wp2_with fail
          refine (isPlaceOf_is _ _ _ true HD.out).mono ?_
          rintro e w1 ⟨rfl, rfl⟩
          go_wp2
          go_ret
          exact ⟨ret_bool (by simp; omega), A⟩
    · rw [decide_eq_false hx, Bool.false_and, Bool.false_and] at hd
      subst hd
      have HD : Hid _ := decide_eq_false hx
      clear hx
      go_enter Try.func112, Try.ntmps112
      go_wp2_with fail
      refine (isPlaceOf_is _ _ _ false HD.out).mono ?_
      rintro e w1 ⟨rfl, rfl⟩
      go_wp2
      go_ret
      exact ⟨rfl, A⟩
end

def none4 : Value := .agg #[.int .i64 (-1), .int .i64 (-1), .int .i64 (-1), .int .i64 (-1)]
theorem noKids_is (w : World) : Calls Try.prog 111 #[] w fun e w' => e = .returned (.agg #[.int .i64 (-1), .int .i64 (-1), .int .i64 (-1), .int .i64 (-1)]) ∧ Below w.heap.size w w' := by
  go_enter Try.func111, Try.ntmps111
  go_wp2
  refine bodyPost_ret (v := none4) (by simp [results, Try.results111, go_sem, none4]) rfl ⟨rfl, ?_⟩
  exact (Below.refl _ _).alloc (Nat.le_refl _) _

end Go.Proofs.Ytedgppggaceopaa

/- Chapter 4: the program's fault of a node. -/
namespace Go.Proofs.Ytedgppggaceopaa
open Go.RowKit

def four (a b c d : Int) : Value := .agg #[.int .i64 a, .int .i64 b, .int .i64 c, .int .i64 d]
theorem eqKids (a b c d a' b' c' d' : Int) (w : World) : (Op.equalIn 10000 149 (.agg #[.int .i64 a, .int .i64 b, .int .i64 c, .int .i64 d]) (.agg #[.int .i64 a', .int .i64 b', .int .i64 c', .int .i64 d'])).run Try.prog w = .ok (a == a' && (b == b' && (c == c' && d == d'))) w := by
  have u3 := Try.underlying2
  have a3 := Try.isAgg2
  have z3 := Try.sizeOf2
  rw [show (10000 : Nat) = 9999 + 1 from rfl, Op.equalIn]
  simp only [Sem.run_bind, run_underlying Try.underlying149, Result.andThen_ok]
  simp only [Std.Legacy.Range.forIn_eq_forIn_range', Std.Legacy.Range.size, Nat.sub_zero, Nat.add_sub_cancel, Nat.div_one, List.range'_succ, List.range'_zero, List.forIn_cons, List.forIn_nil]
  go_simp
  by_cases h1 : a = a' <;> by_cases h2 : b = b' <;> by_cases h3 : c = c' <;> by_cases h4 : d = d' <;> simp [h1, h2, h3, h4]

theorem drew_next {a b : World} (h : Below a.drew.heap.size a.drew b) : Below a.heap.size a b := below_next ((Below.refl a.heap.size a).drew) h
theorem below_eq {a b : World} (h : b = a) : Below a.heap.size a b := h ▸ Below.refl _ _
theorem list4 {ks : List Int} (h : ks.length = 4) : ∃ a b c d, ks = [a, b, c, d] := by
  match ks, h with
  | [a, b, c, d], _ => exact ⟨a, b, c, d, rfl⟩

theorem kids_not {f : Fo} {lf : Bool} {a b c d : Int} (h : ∀ j, j < 4 → kidOk f lf ([a, b, c, d].getD j 0) = true) (hn : (a == -1 && (b == -1 && (c == -1 && d == -1))) = false) : kidsOk f lf [a, b, c, d] = true := by
  rw [kids_all (fun j hj => h j hj)]
  have key : ∀ k : Int, kidOk f lf k = true → k = -1 ∨ 0 ≤ k := fun k hk => by
    rcases (kidOk_iff f lf k).1 hk with e | e
    · exact Or.inl e
    · exact Or.inr e.1
  have h0 := key _ (h 0 (by omega))
  have h1 := key _ (h 1 (by omega))
  have h2 := key _ (h 2 (by omega))
  have h3 := key _ (h 3 (by omega))
  simp at h0 h1 h2 h3 hn ⊢
  omega
theorem kids_none {f : Fo} {lf : Bool} : kidsOk f lf [-1, -1, -1, -1] = false := by
  simp [kidsOk]

section
variable {o : Bool} {l u : Nat} (an : Option Addr) (nn cn : Nat) (ab : Option Addr) (nb cb : Nat) (K : Nat → KS) (f : Fo) (w : World) (h : FoAt w o l u an nn cn ab nb cb K f) (hn : nn ≤ 2097152) (hb : nb ≤ 2097152)
include h hn hb

set_option maxRecDepth 20000 in
set_option maxHeartbeats 4000000 in
theorem nodeFault_is (r : Int) (lf : Bool) (ka : Option Addr) (kn kc : Nat) (ks : List Int) (hk : RowAt w o l u 1 ka kn kc (ints ks)) (hkn : kn ≤ 2097152) (d : Int) (hd : ndOne f (r, lf, ks) = d) :
    Calls Try.prog 82 #[.agg #[.slice an nn cn, .slice ab nb cb], .agg #[.int .i64 r, .bool lf, .slice ka kn kc]] w fun e w' => e = .returned (.int .i64 d) ∧ Below w.heap.size w w' := by
  have B : Below w.heap.size w ((w.alloc (.cells #[.slice an nn cn, .slice ab nb cb] 37)).alloc (.cells #[.int .i64 r, .bool lf, .slice ka kn kc] 109)) := ((Below.refl _ _).alloc (Nat.le_refl _) _).alloc (by simp) _
  have g0 : ((w.alloc (.cells #[.slice an nn cn, .slice ab nb cb] 37)).alloc (.cells #[.int .i64 r, .bool lf, .slice ka kn kc] 109)).cell? ⟨w.heap.size, 0, none⟩ = some (.slice an nn cn) := by simp
  have g1 : ((w.alloc (.cells #[.slice an nn cn, .slice ab nb cb] 37)).alloc (.cells #[.int .i64 r, .bool lf, .slice ka kn kc] 109)).cell? ⟨w.heap.size, 1, none⟩ = some (.slice ab nb cb) := by simp
  have c0 : ((w.alloc (.cells #[.slice an nn cn, .slice ab nb cb] 37)).alloc (.cells #[.int .i64 r, .bool lf, .slice ka kn kc] 109)).cell? ⟨w.heap.size + 1, 0, none⟩ = some (.int .i64 r) := by simp
  have c1 : ((w.alloc (.cells #[.slice an nn cn, .slice ab nb cb] 37)).alloc (.cells #[.int .i64 r, .bool lf, .slice ka kn kc] 109)).cell? ⟨w.heap.size + 1, 1, none⟩ = some (.bool lf) := by simp
  have c2 : ((w.alloc (.cells #[.slice an nn cn, .slice ab nb cb] 37)).alloc (.cells #[.int .i64 r, .bool lf, .slice ka kn kc] 109)).cell? ⟨w.heap.size + 1, 2, none⟩ = some (.slice ka kn kc) := by simp
  have hkl := hk.nInts
  unfold ndOne at hd
  simp only at hd
  obtain ⟨rb, hr⟩ : ∃ rb, refsB r = rb := ⟨_, rfl⟩
  have HD : Hid _ := hr
  rw [hr] at hd
  clear hr
  cases rb with
  | false =>
    rw [if_neg (by decide)] at hd
    subst hd
    go_enter Try.func82, Try.ntmps82
    go_wp2_with fail
    refine (isRefs_is _ _ false HD.out).mono ?_
    rintro e w1 ⟨rfl, rfl⟩
    go_wp2
    go_ret
    exact ⟨rfl, B⟩
  | true =>
    rw [if_pos rfl] at hd
    by_cases hz : r = 0
    · rw [if_pos hz, hkl] at hd
      subst hz
      cases lf with
      | true =>
        simp at hd
        subst hd
        go_enter Try.func82, Try.ntmps82
        go_wp2_with fail
        refine (isRefs_is _ _ true HD.out).mono ?_
        rintro e w1 ⟨rfl, rfl⟩
        go_wp2
        go_ret
        exact ⟨rfl, B⟩
      | false =>
        rw [Bool.false_or] at hd
        by_cases hk0 : 0 < kn
        · rw [if_pos (decide_eq_true hk0)] at hd
          subst hd
          have hk0' : (0 : Int) < kn := by omega
          go_enter Try.func82, Try.ntmps82
          go_wp2_with fail
          refine (isRefs_is _ _ true HD.out).mono ?_
          rintro e w1 ⟨rfl, rfl⟩
          go_wp2
          go_ret
          exact ⟨rfl, B⟩
        · rw [if_neg (by simpa using hk0)] at hd
          subst hd
          have hk0' : ¬ (0 : Int) < kn := by omega
          go_enter Try.func82, Try.ntmps82
          go_wp2_with fail
          refine (isRefs_is _ _ true HD.out).mono ?_
          rintro e w1 ⟨rfl, rfl⟩
          go_wp2
          go_ret
          exact ⟨rfl, B⟩
    · rw [if_neg hz, hkl] at hd
      have hrz : (r == 0) = false := by simp [hz]
      by_cases h4 : kn = 4
      · rw [if_pos h4] at hd
        subst h4
        obtain ⟨k0, k1, k2, k3, rfl⟩ := list4 hkl
        have HK : Hid _ := hd
        obtain ⟨kb, ko, rfl, _, _, _, x0, _⟩ := hk.int (k := 0) (by omega)
        obtain ⟨_, _, e1, _, _, _, x1, _⟩ := hk.int (k := 1) (by omega)
        cases e1
        obtain ⟨_, _, e1, _, _, _, x2, _⟩ := hk.int (k := 2) (by omega)
        cases e1
        obtain ⟨_, _, e1, _, _, _, x3, _⟩ := hk.int (k := 3) (by omega)
        cases e1
        simp only [List.getD_cons_zero, List.getD_cons_succ, Nat.add_zero] at x0 x1 x2 x3
        replace x0 := cell_later B x0
        replace x1 := cell_later B x1
        replace x2 := cell_later B x2
        replace x3 := cell_later B x3
        have hat : ∀ w, (Instr.arrayAt 149 (.slice (some ⟨kb, ko, none⟩) 4 kc)).run Try.prog w = .ok (.pointer (some ⟨kb, ko, none⟩)) w := fun w => run_arrayAt w 149 _ 4 _ 4 kc Try.underlying149 (Nat.le_refl _)
        have heq := fun w => eqKids k0 k1 k2 k3 (-1) (-1) (-1) (-1) w
        have hf4 : ((4 : Int) != 4) = false := by decide
        obtain ⟨q, hq⟩ : ∃ q, (k0 == -1 && (k1 == -1 && (k2 == -1 && k3 == -1))) = q := ⟨_, rfl⟩
        have HQ : Hid _ := hq
        simp only [hq] at heq
        have r0 := h.below B
        have HW : Hid _ := hk
        clear hd hq hk
        go_enter Try.func82, Try.ntmps82
        go_wp2_with fail
        refine (isRefs_is _ _ true HD.out).mono ?_
        rintro e w1 ⟨rfl, hw⟩
        have hb1 := below_eq hw
        clear hw
        replace r0 := r0.below hb1
        replace g0 := cell_later hb1 g0
        replace g1 := cell_later hb1 g1
        replace c0 := cell_later hb1 c0
        replace c1 := cell_later hb1 c1
        replace c2 := cell_later hb1 c2
        replace x0 := cell_later hb1 x0
        replace x1 := cell_later hb1 x1
        replace x2 := cell_later hb1 x2
        replace x3 := cell_later hb1 x3
        replace B := below_next B hb1
        clear hb1 h
        go_wp2_with fail
        go_region_held3 (fun w' => w'.cell? ⟨w.heap.size + 1, 2, none⟩ = some (.slice (some ⟨kb, ko, none⟩) 4 kc) ∧ w'.cell? ⟨kb, ko, none⟩ = some (.int .i64 k0) ∧ w'.cell? ⟨kb, ko + 1, none⟩ = some (.int .i64 k1) ∧ w'.cell? ⟨kb, ko + 2, none⟩ = some (.int .i64 k2) ∧ w'.cell? ⟨kb, ko + 3, none⟩ = some (.int .i64 k3)) (exact ⟨c2, x0, x1, x2, x3⟩) (first | (go_at_call 111; refine (noKids_is _).mono ?_; rintro e w2 ⟨rfl, hb0⟩; have hb1 := drew_next hb0; clear hb0; replace r0 := r0.below hb1; replace g0 := cell_later hb1 g0; replace g1 := cell_later hb1 g1; replace c0 := cell_later hb1 c0; replace c1 := cell_later hb1 c1; replace c2 := cell_later hb1 c2; replace x0 := cell_later hb1 x0; replace x1 := cell_later hb1 x1; replace x2 := cell_later hb1 x2; replace x3 := cell_later hb1 x3; replace B := below_next B hb1; clear hb1))
        all_goals (
          clear hat heq c0 x0 x1 x2 x3
          cases q with
          | true =>
            have HF : Hid (kidsOk f lf [k0, k1, k2, k3] = false) := by
              have := HQ.out
              simp at this
              obtain ⟨rfl, rfl, rfl, rfl⟩ := this
              exact kids_none
            go_wp2
            go_ret
            exact ⟨ret_int (by rw [← HK.out, HF.out]; rfl), B⟩
          | false =>
            go_wp2
            go_loopw [37] (fun i wr => ∃ k : Nat, k ≤ 4 ∧ i = .int .i64 k ∧ (∀ j, j < k → kidOk f lf ([k0, k1, k2, k3].getD j 0) = true) ∧ Below w2.heap.size w2 wr) (fun i _ => 4 - (intOf i).toNat)
            case atStart => exact ⟨0, by omega, rfl, fun j hj => absurd hj (by omega), Below.refl _ _⟩
            case round =>
              obtain ⟨k, hk4, rfl, ha, B2⟩ := hrel
              have HA : Hid _ := ha
              clear ha
              by_cases hlt : k < 4
              · obtain ⟨_, _, e1, _, _, _, y0, _⟩ := HW.out.int hlt
                cases e1
                replace y0 := cell_later B2 (cell_later B y0)
                have hlk : (k : Int) < 4 := by omega
                have HB : Hid (kidOk f lf ([k0, k1, k2, k3].getD k 0) = false → kidsOk f lf [k0, k1, k2, k3] = false) := fun hx => kids_bad (by simpa using hlt) hx
                have HN : Hid (kidOk f lf ([k0, k1, k2, k3].getD k 0) = true → ∀ j, j < k + 1 → kidOk f lf ([k0, k1, k2, k3].getD j 0) = true) := fun hx j hj => by
                  by_cases e : j = k
                  · rw [e]; exact hx
                  · exact HA.out j (by omega)
                obtain ⟨q, hq⟩ : ∃ q, [k0, k1, k2, k3].getD k 0 = q := ⟨_, rfl⟩
                rw [hq] at y0 HB HN
                clear hq
                have u0 := cell_later B2 g0
                have u1 := cell_later B2 g1
                have u2 := cell_later B2 c1
                have r2 := r0.below B2
                have B3 := below_next B B2
                by_cases hq1 : q = -1
                · have hqq : (q != -1) = false := by simp [hq1]
                  have HN2 : Hid _ := HN.out (by rw [hq1]; rfl)
                  clear hq1 HB HN
                  go_wp2
                  go_roundw
                  case rel => exact ⟨k + 1, by omega, by go_num, HN2.out, B2⟩
                  case measure => simp [intOf]; omega
                · have hqq : (q != -1) = true := by simp [hq1]
                  have HQ1 : Hid _ := hq1
                  clear hq1
                  cases hko : kidOk f lf q with
                  | false =>
                    have HO : Hid _ := hko
                    have HF : Hid _ := HB.out hko
                    clear hko HB HN
                    go_wp2_with fail
                    refine (isKid_is an nn cn ab nb cb K f _ (by exact r2) hn hb lf q HQ1.out false HO.out).mono ?_
                    rintro e w3 ⟨rfl, hb3⟩
                    replace B3 := below_next B3 hb3
                    go_wp2
                    go_ret
                    exact ⟨ret_int (by rw [← HK.out, HF.out]; rfl), B3⟩
                  | true =>
                    have HO : Hid _ := hko
                    have HN2 : Hid _ := HN.out hko
                    clear hko HB HN
                    go_wp2_with fail
                    refine (isKid_is an nn cn ab nb cb K f _ (by exact r2) hn hb lf q HQ1.out true HO.out).mono ?_
                    rintro e w3 ⟨rfl, hb3⟩
                    replace B2 := below_next B2 hb3
                    clear hb3 u0 u1 u2 y0 r2
                    go_wp2
                    go_roundw
                    case rel => exact ⟨k + 1, by omega, by go_num, HN2.out, B2⟩
                    case measure => simp [intOf]; omega
              · obtain rfl : k = 4 := by omega
                have HF : Hid (kidsOk f lf [k0, k1, k2, k3] = true) := kids_not HA.out HQ.out
                have B3 := below_next B B2
                go_wp2
                go_ret
                exact ⟨ret_int (by rw [← HK.out, HF.out]; rfl), B3⟩)
      · rw [if_neg h4] at hd
        subst hd
        have hne : ((kn : Int) != 4) = true := by simp; omega
        go_enter Try.func82, Try.ntmps82
        go_wp2_with fail
        refine (isRefs_is _ _ true HD.out).mono ?_
        rintro e w1 ⟨rfl, rfl⟩
        go_wp2_with fail
        go_quiet (fail)
        go_wp2
        go_ret
        exact ⟨rfl, below_drewN B _⟩
end

end Go.Proofs.Ytedgppggaceopaa

/- Chapter 4: the program counts how often each place is named; its fault of a forest. -/
namespace Go.Proofs.Ytedgppggaceopaa
open Go.RowKit

def fn (n : Nat) (g : Nat → Int) : List Int := (List.range n).map g
theorem fn_get {n i : Nat} {g : Nat → Int} (h : i < n) : (fn n g).getD i 0 = g i := by simp [fn, List.getD, h]
theorem fn_congr {n : Nat} {g g' : Nat → Int} (h : ∀ x, x < n → g x = g' x) : fn n g = fn n g' := List.map_congr_left fun x hx => h x (List.mem_range.1 hx)
theorem fn_set {n i : Nat} {g : Nat → Int} {v : Int} (_ : i < n) : (fn n g).set i v = fn n fun x => if x = i then v else g x := by
  apply List.ext_getElem (by simp [fn])
  intro j h1 h2
  simp only [List.getElem_set, fn, List.getElem_map, List.getElem_range]
  by_cases e : i = j
  · rw [if_pos e, if_pos e.symm]
  · rw [if_neg e, if_neg (Ne.symm e)]
theorem below_up {B : Nat} {a b c : World} (h : Below B a b) (k : Below (B + 1) b c) : Below B a c := h.trans (k.mono (Nat.le_succ B))
theorem ints_set (xs : List Int) (i : Nat) (v : Int) : (ints xs).set i (.int .i64 v) = ints (xs.set i v) := by simp [ints, List.map_set]
theorem made_ints (n : Nat) : (madeCells #[Value.int .i64 0] n).toList = ints (fn n fun _ => 0) := by
  apply List.ext_getElem (by simp [madeCells, ints, fn])
  intro i h1 h2
  simp [madeCells, ints, fn, Nat.mod_one]
theorem named_own {f : Fo} (h : ∀ j, j < f.1.length → ndOne f (f.1.getD j nd0) = 0) {i : Nat} (hl : (nodeOf f i).2.1 = false) : named f false i = 0 := by
  refine Decidable.byContradiction fun hn => ?_
  obtain ⟨m, hm, h0, e, hk⟩ := named_pos hn
  have ok := (ndOne_iff _ _).1 (h m hm)
  have := ok.ks h0 _ hk
  rcases this with x | ⟨_, x⟩
  · omega
  · rw [show (f.1.getD m nd0).2.1 = false from e] at x
    simp at x
    rw [hl] at x
    exact absurd x.2.2 (by simp)

section
variable {o : Bool} {l u : Nat} (an : Option Addr) (nn cn : Nat) (ab : Option Addr) (nb cb : Nat) (K : Nat → KS) (f : Fo) (w : World) (h : FoAt w o l u an nn cn ab nb cb K f)
include h

set_option maxRecDepth 20000 in
set_option maxHeartbeats 8000000 in
theorem namesOf_is (hn : nn ≤ 60) (hb : nb ≤ 24) (hall : ∀ j, j < f.1.length → ndOne f (f.1.getD j nd0) = 0) :
    Calls Try.prog 87 #[.agg #[.slice an nn cn, .slice ab nb cb]] w fun e w' => ∃ gb gl, e = .returned (.tuple #[.slice (some ⟨gb, 0, none⟩) nb nb, .slice (some ⟨gl, 0, none⟩) nn nn]) ∧ RowAt w' true gb (gb + 1) 1 (some ⟨gb, 0, none⟩) nb nb (ints (fn nb fun x => (namedIn f.1 true (x : Int) : Int))) ∧ RowAt w' true gl (gl + 1) 1 (some ⟨gl, 0, none⟩) nn nn (ints (fn nn fun x => (namedIn f.1 false (x : Int) : Int))) ∧ w.heap.size ≤ gb ∧ gb < gl ∧ gl < w'.heap.size ∧ Below w.heap.size w w' := by
  have hl := h.nodes.len
  have hbl := h.blocks.nPairs
  obtain ⟨i0, hi0, hz0, hz1, hz2⟩ := info_parts Try.info2'
  have HALL : Hid _ := hall
  have HL4 : Hid _ := kids_four hall
  clear hall
  have A0 : Below w.heap.size w (w.alloc (.cells #[.slice an nn cn, .slice ab nb cb] 37)) := (Below.refl _ _).alloc (Nat.le_refl _) _
  have G0 : (w.alloc (.cells #[.slice an nn cn, .slice ab nb cb] 37)).cell? ⟨w.heap.size, 0, none⟩ = some (.slice an nn cn) := by simp
  have G1 : (w.alloc (.cells #[.slice an nn cn, .slice ab nb cb] 37)).cell? ⟨w.heap.size, 1, none⟩ = some (.slice ab nb cb) := by simp
  go_enter Try.func87, Try.ntmps87
  go_wp2_with (first | (at_make; refine wpList_make_full _ rfl _ _ 107 rfl (w.heap.size + 1) 2 i0 (.int .i64 0) 1 Try.underlying107 hi0 hz0 hz1 _ _ _ _ nb rfl rfl rfl rfl ?b1 ?b2 ?b3 ?_))
  case b1 => rw [hz2]; omega
  case b2 => unfold maxLen; omega
  case b3 => simp
  intro w1 hown hgrow
  have B1 : Below (w.heap.size + 1) (w.alloc (.cells #[.slice an nn cn, .slice ab nb cb] 37)) w1 := (Below.refl _ _).grown hgrow (by simp) (fun k hk => by cases hk)
  have RB : RowAt w1 true (w.heap.size + 1) (w.heap.size + 1 + 1) 1 (some ⟨w.heap.size + 1, 0, none⟩) nb nb (ints (fn nb fun _ => 0)) := by
    rw [← made_ints]; exact (RowAt.of_owns hown (Nat.le_refl _)).pin
  have hg1 : w.heap.size + 1 < w1.heap.size := (owns_lt hown).2
  have g0 := (B1.cell (p := ⟨w.heap.size, 0, none⟩) (by simp)).trans G0
  clear hown hgrow
  go_wp2_with (first | (at_make; refine wpList_make_full _ rfl _ _ 107 rfl (w.heap.size + 1) 2 i0 (.int .i64 0) 1 Try.underlying107 hi0 hz0 hz1 _ _ _ _ nn rfl rfl rfl rfl ?b1 ?b2 ?b3 ?_))
  case b1 => rw [hz2]; omega
  case b2 => unfold maxLen; omega
  case b3 => omega
  intro w2 hown hgrow
  have B2 : Below (w.heap.size + 1) (w.alloc (.cells #[.slice an nn cn, .slice ab nb cb] 37)) w2 := B1.grown hgrow (by omega) (fun k hk => by cases hk)
  have B12 : Below w1.heap.size w1 w2 := (Below.refl _ _).grown hgrow (Nat.le_refl _) (fun k hk => by cases hk)
  replace RB := RB.below B12
  obtain ⟨gl, hgl⟩ : ∃ gl, w1.heap.size = gl := ⟨_, rfl⟩
  have RL : RowAt w2 true gl (gl + 1) 1 (some ⟨gl, 0, none⟩) nn nn (ints (fn nn fun _ => 0)) := by
    rw [← made_ints, ← hgl]; exact (RowAt.of_owns hown (Nat.le_refl _)).pin
  have hg2 : gl < w2.heap.size := by rw [← hgl]; exact (owns_lt hown).2
  have hg3 : w.heap.size + 1 < gl := by omega
  replace g0 := cell_later B12 g0
  rw [hgl]
  clear hown hgrow hgl B1 B12 hg1
  generalize hW : w.alloc (.cells #[.slice an nn cn, .slice ab nb cb] 37) = W at *
  clear hW
  go_wp2
  go_loopw [20] (fun i wr => ∃ k : Nat, k ≤ nn ∧ i = .int .i64 k ∧ RowAt wr true (w.heap.size + 1) (w.heap.size + 1 + 1) 1 (some ⟨w.heap.size + 1, 0, none⟩) nb nb (ints (fn nb fun x => (namedIn (f.1.take k) true (x : Int) : Int))) ∧ RowAt wr true gl (gl + 1) 1 (some ⟨gl, 0, none⟩) nn nn (ints (fn nn fun x => (namedIn (f.1.take k) false (x : Int) : Int))) ∧ Below (w.heap.size + 1) W wr ∧ gl < wr.heap.size) (fun i _ => nn - (intOf i).toNat)
  case atStart => exact ⟨0, Nat.zero_le _, rfl, by simpa [namedIn] using RB, by simpa [namedIn] using RL, B2, hg2⟩
  case round =>
    clear RB RL B2 g0 hg2
    obtain ⟨k, hk, rfl, RB, RL, B, hgs⟩ := hrel
    by_cases hlt : k < nn
    · have hkr := h.nodes.kids k hlt
      obtain ⟨b, off, rfl, _, _, hbs, e1, e2, e3, _⟩ := h.nodes.node hlt
      replace e1 := (B.cell (p := ⟨b, off + k * 3, none⟩) (by simp; omega)).trans (cell_later A0 e1)
      replace e2 := (B.cell (p := ⟨b, off + k * 3 + 1, none⟩) (by simp; omega)).trans (cell_later A0 e2)
      replace e3 := (B.cell (p := ⟨b, off + k * 3 + 2, none⟩) (by simp; omega)).trans (cell_later A0 e3)
      have hlk : (k : Int) < (nn : Int) := by omega
      have HSU : Hid (∀ (t : Bool) (x : Nat), namedIn (f.1.take (k + 1)) t (x : Int) = namedIn (f.1.take k) t (x : Int) + namesOf (f.1.getD k nd0) t (x : Int)) := fun t x => namedIn_take f.1 k t x (by omega)
      have HLE : Hid (∀ (t : Bool) (x : Int), namedIn (f.1.take k) t x ≤ 240) := fun t x => Nat.le_trans (namedIn_le (ns := f.1) t x HL4.out k (by omega)) (by omega)
      have ok := (ndOne_iff _ _).1 (HALL.out k (by omega))
      obtain ⟨⟨r, lf, ks⟩, hnd⟩ : ∃ nd, f.1.getD k nd0 = nd := ⟨_, rfl⟩
      obtain ⟨⟨ka, kn, kc⟩, hks⟩ : ∃ q, K k = q := ⟨_, rfl⟩
      rw [hnd] at e1 e2 hkr HSU ok
      rw [hks] at e3 hkr
      simp only at e1 e2 e3 hkr
      clear hnd hks
      have hkl := hkr.nInts
      have hk4 : ks.length ≤ 4 := by
        by_cases h0 : r = 0
        · have := ok.z h0; cases this; simp
        · have := ok.kl h0; simp at this; omega
      have HKO : Hid (∀ q ∈ ks, OkKid f lf q) := fun q hq => by
        by_cases h0 : r = 0
        · have := ok.z h0; cases this; cases hq
        · exact ok.ks h0 q hq
      have A : Below wr.heap.size wr (wr.alloc (.cells #[.int .i64 r, .bool lf, .slice ka kn kc] 109)) := (Below.refl _ _).alloc (Nat.le_refl _) _
      cases lf with
      | true =>
        have HNN : Hid (∀ x : Nat, namesOf (r, true, ks) true (x : Int) = ks.count (x : Int)) := fun x => by
          unfold namesOf
          by_cases h0 : r = 0
          · have := ok.z h0; cases this
          · rw [if_neg (by simp [h0])]
        have HNO : Hid (∀ x : Nat, namesOf (r, true, ks) false (x : Int) = 0) := fun x => if_pos (Or.inr (by simp))
        clear ok
        go_wp2
        go_loopw [31] (fun i wr => ∃ j : Nat, j ≤ kn ∧ i = .int .i64 j ∧ RowAt wr true (w.heap.size + 1) (w.heap.size + 1 + 1) 1 (some ⟨w.heap.size + 1, 0, none⟩) nb nb (ints (fn nb fun x => (namedIn (f.1.take k) true (x : Int) : Int) + ((ks.take j).count (x : Int) : Int))) ∧ RowAt wr true (gl) (gl + 1) 1 (some ⟨gl, 0, none⟩) nn nn (ints (fn nn fun x => (namedIn (f.1.take k) false (x : Int) : Int))) ∧ Below (w.heap.size + 1) W wr ∧ gl < wr.heap.size) (fun i _ => kn - (intOf i).toNat)
        case atStart => exact ⟨0, Nat.zero_le _, rfl, by simpa using RB.below A, RL.below A, B.alloc (by omega) _, by simp; omega⟩
        case round =>
          clear RB RL B A e1 e2 e3 hgs
          obtain ⟨j, hj, rfl, RB, RL, B, hgs⟩ := hrel
          by_cases hjl : j < kn
          · obtain ⟨kb, ko, rfl, _, _, hkb, y0, _⟩ := hkr.int hjl
            replace y0 := (B.cell (p := ⟨kb, ko + j, none⟩) (by simp; omega)).trans (cell_later A0 y0)
            have hlj : (j : Int) < (kn : Int) := by omega
            have HC : Hid _ := fun x : Int => count_take ks j x (by omega)
            have hok := HKO.out (ks.getD j 0) (by rw [List.getD_eq_getElem?_getD, List.getElem?_eq_getElem (by omega)]; exact List.getElem_mem _)
            obtain ⟨q, hq⟩ : ∃ q, ks.getD j 0 = q := ⟨_, rfl⟩
            rw [hq] at y0 HC hok
            clear hq
            by_cases hq1 : q = -1
            · have hqq : (q != -1) = false := by simp [hq1]
              have HX : Hid (∀ x : Nat, (ks.take (j + 1)).count (x : Int) = (ks.take j).count (x : Int)) := fun x => by rw [HC.out, if_neg (by omega)]; rfl
              clear hq1 hok HC
              go_wp2
              go_roundw
              case rel => exact ⟨j + 1, by omega, by go_num, by simp only [HX.out]; exact RB, RL, B, hgs⟩
              case measure => simp [intOf]; omega
            · have hqq : (q != -1) = true := by simp [hq1]
              obtain ⟨hq0, hok⟩ := hok.resolve_left hq1
              obtain ⟨m, rfl⟩ : ∃ m : Nat, q = m := ⟨q.toNat, by omega⟩
              rw [Int.toNat_natCast] at hok
              have hmn : m < nb := by simp at hok; have := hok.1; omega
              have hlm : (m : Int) < (nb : Int) := by omega
              clear hok hq1 hq0
              obtain ⟨_, _, e', _, _, _, c0, f0⟩ := RB.int hmn
              cases e'
              replace f0 := f0 rfl
              rw [fn_get hmn, Nat.zero_add] at c0
              rw [Nat.zero_add] at f0
              have hv1 := HLE.out true (m : Int)
              have hv2 : (ks.take j).count (m : Int) ≤ 4 := Nat.le_trans List.count_le_length (by rw [List.length_take]; omega)
              have S1 := RB.stored (i := m) (by omega) (.int .i64 ((namedIn (f.1.take k) true (m : Int) : Int) + ((ks.take j).count (m : Int) : Int) + 1))
              rw [ints_set, fn_set hmn, Nat.zero_add] at S1
              have S2 := RL.kept (l := w.heap.size + 1) (u := w.heap.size + 1 + 1) (Kept.setCell (Kept.refl _ _ _) (p := ⟨w.heap.size + 1, m, none⟩) (Nat.le_refl _) (Nat.lt_succ_self _) (.int .i64 ((namedIn (f.1.take k) true (m : Int) : Int) + ((ks.take j).count (m : Int) : Int) + 1))) (by omega)
              have S3 := B.setCell (p := ⟨w.heap.size + 1, m, none⟩) (by show w.heap.size + 1 ≤ w.heap.size + 1; omega) (.int .i64 ((namedIn (f.1.take k) true (m : Int) : Int) + ((ks.take j).count (m : Int) : Int) + 1))
              rw [fn_congr (g' := fun x => (namedIn (f.1.take k) true (x : Int) : Int) + ((ks.take (j + 1)).count (x : Int) : Int)) (fun x _ => by
                rw [HC.out]
                by_cases e : x = m
                · rw [if_pos e, if_pos (by omega), e]; omega
                · rw [if_neg e, if_neg (by omega)]; rfl)] at S1
              have HS1 : Hid _ := S1
              have HS2 : Hid _ := S2
              have HS3 : Hid _ := S3
              generalize hv : (namedIn (f.1.take k) true (m : Int) : Int) + ((ks.take j).count (m : Int) : Int) = v at *
              have hw1 : IntKind.i64.wrap (v + 1) = v + 1 := wrapI_same _ (by omega)
              clear S1 S2 S3 RB RL B HC hv1 hv2 hv
              go_wp2
              go_roundw
              case rel => exact ⟨j + 1, by omega, by go_num, HS1.out, HS2.out, HS3.out, by simpa using hgs⟩
              case measure => simp [intOf]; omega
          · obtain rfl : j = kn := by omega
            rw [show ks.take j = ks from List.take_of_length_le (by omega)] at RB
            rw [fn_congr (g' := fun x => (namedIn (f.1.take (k + 1)) true (x : Int) : Int)) (fun x _ => by rw [HSU.out true x, HNN.out x, Int.natCast_add])] at RB
            rw [fn_congr (g' := fun x => (namedIn (f.1.take (k + 1)) false (x : Int) : Int)) (fun x _ => by rw [HSU.out false x, HNO.out x]; rfl)] at RL
            go_wp2
            go_roundw
            case rel => exact ⟨k + 1, by omega, by go_num, RB, RL, B, hgs⟩
            case measure => simp [intOf]; omega
      | false =>
        have HNN : Hid (∀ x : Nat, namesOf (r, false, ks) false (x : Int) = ks.count (x : Int)) := fun x => by
          unfold namesOf
          by_cases h0 : r = 0
          · have := ok.z h0; cases this; simp
          · rw [if_neg (by simp [h0])]
        have HNO : Hid (∀ x : Nat, namesOf (r, false, ks) true (x : Int) = 0) := fun x => if_pos (Or.inr (by simp))
        clear ok
        go_wp2
        go_loopw [31] (fun i wr => ∃ j : Nat, j ≤ kn ∧ i = .int .i64 j ∧ RowAt wr true (gl) (gl + 1) 1 (some ⟨gl, 0, none⟩) nn nn (ints (fn nn fun x => (namedIn (f.1.take k) false (x : Int) : Int) + ((ks.take j).count (x : Int) : Int))) ∧ RowAt wr true (w.heap.size + 1) (w.heap.size + 1 + 1) 1 (some ⟨w.heap.size + 1, 0, none⟩) nb nb (ints (fn nb fun x => (namedIn (f.1.take k) true (x : Int) : Int))) ∧ Below (w.heap.size + 1) W wr ∧ gl < wr.heap.size) (fun i _ => kn - (intOf i).toNat)
        case atStart => exact ⟨0, Nat.zero_le _, rfl, by simpa using RL.below A, RB.below A, B.alloc (by omega) _, by simp; omega⟩
        case round =>
          clear RB RL B A e1 e2 e3 hgs
          obtain ⟨j, hj, rfl, RL, RB, B, hgs⟩ := hrel
          by_cases hjl : j < kn
          · obtain ⟨kb, ko, rfl, _, _, hkb, y0, _⟩ := hkr.int hjl
            replace y0 := (B.cell (p := ⟨kb, ko + j, none⟩) (by simp; omega)).trans (cell_later A0 y0)
            have hlj : (j : Int) < (kn : Int) := by omega
            have HC : Hid _ := fun x : Int => count_take ks j x (by omega)
            have hok := HKO.out (ks.getD j 0) (by rw [List.getD_eq_getElem?_getD, List.getElem?_eq_getElem (by omega)]; exact List.getElem_mem _)
            obtain ⟨q, hq⟩ : ∃ q, ks.getD j 0 = q := ⟨_, rfl⟩
            rw [hq] at y0 HC hok
            clear hq
            by_cases hq1 : q = -1
            · have hqq : (q != -1) = false := by simp [hq1]
              have HX : Hid (∀ x : Nat, (ks.take (j + 1)).count (x : Int) = (ks.take j).count (x : Int)) := fun x => by rw [HC.out, if_neg (by omega)]; rfl
              clear hq1 hok HC
              go_wp2
              go_roundw
              case rel => exact ⟨j + 1, by omega, by go_num, by simp only [HX.out]; exact RL, RB, B, hgs⟩
              case measure => simp [intOf]; omega
            · have hqq : (q != -1) = true := by simp [hq1]
              obtain ⟨hq0, hok⟩ := hok.resolve_left hq1
              obtain ⟨m, rfl⟩ : ∃ m : Nat, q = m := ⟨q.toNat, by omega⟩
              rw [Int.toNat_natCast] at hok
              have hmn : m < nn := by simp at hok; have := hok.1; omega
              have hlm : (m : Int) < (nn : Int) := by omega
              clear hok hq1 hq0
              obtain ⟨_, _, e', _, _, _, c0, f0⟩ := RL.int hmn
              cases e'
              replace f0 := f0 rfl
              rw [fn_get hmn, Nat.zero_add] at c0
              rw [Nat.zero_add] at f0
              have hv1 := HLE.out false (m : Int)
              have hv2 : (ks.take j).count (m : Int) ≤ 4 := Nat.le_trans List.count_le_length (by rw [List.length_take]; omega)
              have S1 := RL.stored (i := m) (by omega) (.int .i64 ((namedIn (f.1.take k) false (m : Int) : Int) + ((ks.take j).count (m : Int) : Int) + 1))
              rw [ints_set, fn_set hmn, Nat.zero_add] at S1
              have S2 := RB.kept (l := gl) (u := gl + 1) (Kept.setCell (Kept.refl _ _ _) (p := ⟨gl, m, none⟩) (Nat.le_refl _) (Nat.lt_succ_self _) (.int .i64 ((namedIn (f.1.take k) false (m : Int) : Int) + ((ks.take j).count (m : Int) : Int) + 1))) (by omega)
              have S3 := B.setCell (p := ⟨gl, m, none⟩) (by show w.heap.size + 1 ≤ gl; omega) (.int .i64 ((namedIn (f.1.take k) false (m : Int) : Int) + ((ks.take j).count (m : Int) : Int) + 1))
              rw [fn_congr (g' := fun x => (namedIn (f.1.take k) false (x : Int) : Int) + ((ks.take (j + 1)).count (x : Int) : Int)) (fun x _ => by
                rw [HC.out]
                by_cases e : x = m
                · rw [if_pos e, if_pos (by omega), e]; omega
                · rw [if_neg e, if_neg (by omega)]; rfl)] at S1
              have HS1 : Hid _ := S1
              have HS2 : Hid _ := S2
              have HS3 : Hid _ := S3
              generalize hv : (namedIn (f.1.take k) false (m : Int) : Int) + ((ks.take j).count (m : Int) : Int) = v at *
              have hw1 : IntKind.i64.wrap (v + 1) = v + 1 := wrapI_same _ (by omega)
              clear S1 S2 S3 RL RB B HC hv1 hv2 hv
              go_wp2
              go_roundw
              case rel => exact ⟨j + 1, by omega, by go_num, HS1.out, HS2.out, HS3.out, by simpa using hgs⟩
              case measure => simp [intOf]; omega
          · obtain rfl : j = kn := by omega
            rw [show ks.take j = ks from List.take_of_length_le (by omega)] at RL
            rw [fn_congr (g' := fun x => (namedIn (f.1.take (k + 1)) false (x : Int) : Int)) (fun x _ => by rw [HSU.out false x, HNN.out x, Int.natCast_add])] at RL
            rw [fn_congr (g' := fun x => (namedIn (f.1.take (k + 1)) true (x : Int) : Int)) (fun x _ => by rw [HSU.out true x, HNO.out x]; rfl)] at RB
            go_wp2
            go_roundw
            case rel => exact ⟨k + 1, by omega, by go_num, RB, RL, B, hgs⟩
            case measure => simp [intOf]; omega
    · obtain rfl : k = nn := by omega
      rw [show f.1.take k = f.1 from List.take_of_length_le (by omega)] at RB RL
      go_wp2
      refine bodyPost_ret (v := .tuple #[.slice (some ⟨w.heap.size + 1, 0, none⟩) nb nb, .slice (some ⟨gl, 0, none⟩) k k]) (by simp [results, Try.results87, go_sem]) rfl ?_
      exact ⟨_, _, rfl, RB, RL, by omega, by omega, hgs, below_up A0 B⟩

set_option maxRecDepth 20000 in
set_option maxHeartbeats 8000000 in
theorem namesFault_is (hn : nn ≤ 60) (hb : nb ≤ 24) (hall : ∀ j, j < f.1.length → ndOne f (f.1.getD j nd0) = 0) (d : Int) (hd : (if fair f then (0 : Int) else 1) = d) :
    Calls Try.prog 83 #[.agg #[.slice an nn cn, .slice ab nb cb]] w fun e w' => e = .returned (.int .i64 d) ∧ Below w.heap.size w w' := by
  have hl := h.nodes.len
  have hbl := h.blocks.nPairs
  have HD : Hid _ := hd
  have HALL : Hid _ := hall
  have A0 : Below w.heap.size w (w.alloc (.cells #[.slice an nn cn, .slice ab nb cb] 37)) := (Below.refl _ _).alloc (Nat.le_refl _) _
  have G0 : (w.alloc (.cells #[.slice an nn cn, .slice ab nb cb] 37)).cell? ⟨w.heap.size, 0, none⟩ = some (.slice an nn cn) := by simp
  have G1 : (w.alloc (.cells #[.slice an nn cn, .slice ab nb cb] 37)).cell? ⟨w.heap.size, 1, none⟩ = some (.slice ab nb cb) := by simp
  have sW : (w.alloc (.cells #[.slice an nn cn, .slice ab nb cb] 37)).heap.size = w.heap.size + 1 := by simp
  go_enter Try.func83, Try.ntmps83
  go_wp2_with fail
  refine (namesOf_is an nn cn ab nb cb K f _ (h.below A0) hn hb hall).mono ?_
  rintro e W0 ⟨gb, gl, rfl, RB, RL, q1, q2, hgs, B⟩
  rw [sW] at B q1
  clear hd hall
  generalize hW : w.alloc (.cells #[.slice an nn cn, .slice ab nb cb] 37) = W at *
  clear hW
  have g1 := (B.cell (p := ⟨w.heap.size, 1, none⟩) (by simp)).trans G1
  go_wp2
  go_loopw [17] (fun i wr => ∃ j : Nat, j ≤ nb ∧ i = .int .i64 j ∧ (∀ m, m < j → blockFair f m = true) ∧ Below W0.heap.size W0 wr) (fun i _ => nb - (intOf i).toNat)
  case atStart => exact ⟨0, Nat.zero_le _, rfl, fun m hm => absurd hm (by omega), Below.refl _ _⟩
  case round =>
    obtain ⟨j, hj, rfl, ha, C⟩ := hrel
    have HA : Hid _ := ha
    clear ha
    by_cases hjl : j < nb
    · obtain ⟨b2, f2, rfl, _, _, hs2, e1, e2, _⟩ := h.blocks.pair hjl
      replace e1 := cell_later C ((B.cell (p := ⟨b2, f2 + j * 2, none⟩) (by simp; omega)).trans (cell_later A0 e1))
      replace e2 := cell_later C ((B.cell (p := ⟨b2, f2 + j * 2 + 1, none⟩) (by simp; omega)).trans (cell_later A0 e2))
      have hlj : (j : Int) < (nb : Int) := by omega
      have R1 := RB.below C
      obtain ⟨_, _, e', _, _, _, c0, _⟩ := R1.int hjl
      cases e'
      rw [fn_get hjl, Nat.zero_add] at c0
      have HB : Hid (blockFair f j = false → fair f = false) := fun hx => fair_blk (by omega) hx
      have HN : Hid (blockFair f j = true → ∀ m, m < j + 1 → blockFair f m = true) := fun h0 m hm => by
        by_cases e : m = j
        · subst e; exact h0
        · exact HA.out m (by omega)
      unfold blockFair blockOf named at HB HN
      obtain ⟨⟨r, y⟩, hr⟩ : ∃ r, f.2.getD j (0, 0) = r := ⟨_, rfl⟩
      obtain ⟨q, hq⟩ : ∃ q, (namedIn f.1 true (j : Int) : Int) = q := ⟨_, rfl⟩
      rw [hr] at e1 e2 HB HN
      rw [hq] at c0 HB HN
      simp only at e1 e2 HB HN
      clear hr hq
      have A : Below wr.heap.size wr (wr.alloc (.cells #[.int .i64 r, .int .i64 y] 105)) := (Below.refl _ _).alloc (Nat.le_refl _) _
      have z0 : (wr.alloc (.cells #[.int .i64 r, .int .i64 y] 105)).cell? ⟨wr.heap.size, 0, none⟩ = some (.int .i64 r) := by simp
      replace c0 := cell_later A c0
      have C2 := below_next C A
      have C3 := B.trans (C2.mono (by omega))
      clear R1
      by_cases hrq : r = q
      · have hd0 : (r != q) = false := by simp [hrq]
        have HN2 : Hid _ := HN.out (decide_eq_true hrq)
        clear HB HN hrq
        go_wp2_with fail
        go_quiet (fail)
        go_wp2
        go_roundw
        case rel => exact ⟨j + 1, by omega, by go_num, HN2.out, below_drewN C2 _⟩
        case measure => simp [intOf]; omega
      · have hd0 : (r != q) = true := by simp [hrq]
        have HF : Hid _ := HB.out (decide_eq_false hrq)
        clear HB HN hrq
        go_wp2_with fail
        go_quiet (fail)
        go_wp2
        go_ret
        refine ⟨ret_int (by rw [← HD.out, HF.out]; rfl), below_drewN ?_ _⟩
        exact below_up A0 C3
    · obtain rfl : j = nb := by omega
      have g2 := cell_later C ((B.cell (p := ⟨w.heap.size, 0, none⟩) (by simp)).trans G0)
      have RL2 := RL.below C
      have B3 := B.trans (C.mono (by omega))
      have HAB : Hid _ := HA.out
      have hgs1 := Nat.lt_of_lt_of_le hgs C.size
      clear RB RL C g1 HA
      obtain ⟨W1, hW1⟩ : ∃ W1, wr = W1 := ⟨_, rfl⟩
      subst hW1
      rename World => W1
      go_wp2
      go_loopw [33] (fun i wr => ∃ j : Nat, j ≤ nn ∧ i = .int .i64 j ∧ (∀ m, m < j → leafFair f m = true) ∧ Below W1.heap.size W1 wr) (fun i _ => nn - (intOf i).toNat)
      case atStart => exact ⟨0, Nat.zero_le _, rfl, fun m hm => absurd hm (by omega), Below.refl _ _⟩
      case round =>
        obtain ⟨i, hi, rfl, ha, C⟩ := hrel
        have HA : Hid _ := ha
        clear ha
        by_cases hil : i < nn
        · obtain ⟨b2, f2, rfl, _, _, hs2, e1, e2, e3, _⟩ := h.nodes.node hil
          replace e1 := cell_later C ((B3.cell (p := ⟨b2, f2 + i * 3, none⟩) (by simp; omega)).trans (cell_later A0 e1))
          replace e2 := cell_later C ((B3.cell (p := ⟨b2, f2 + i * 3 + 1, none⟩) (by simp; omega)).trans (cell_later A0 e2))
          replace e3 := cell_later C ((B3.cell (p := ⟨b2, f2 + i * 3 + 2, none⟩) (by simp; omega)).trans (cell_later A0 e3))
          have hli : (i : Int) < (nn : Int) := by omega
          have R1 := RL2.below C
          obtain ⟨_, _, e', _, _, _, c0, _⟩ := R1.int hil
          cases e'
          rw [fn_get hil, Nat.zero_add] at c0
          have HB : Hid (leafFair f i = false → fair f = false) := fun hx => fair_leaf (by omega) hx
          have HN : Hid (leafFair f i = true → ∀ m, m < i + 1 → leafFair f m = true) := fun h0 m hm => by
            by_cases e : m = i
            · subst e; exact h0
            · exact HA.out m (by omega)
          have HE : Hid (leafFair f i = !decide ((f.1.getD i nd0).1 < (namedIn f.1 false (i : Int) : Int))) := by
            show _ = _
            unfold leafFair
            cases hlf : (nodeOf f i).2.1 with
            | true => rfl
            | false =>
              have h1 : named f false (i : Int) = 0 := named_own HALL.out hlf
              have h2 := ((ndOne_iff _ _).1 (HALL.out i (by omega))).r0
              unfold named at h1
              rw [Bool.false_and, decide_eq_false (by rw [h1]; show ¬ _ < (0 : Int); omega)]
          rw [HE.out] at HB HN
          clear HE
          obtain ⟨⟨r, lf, ks⟩, hnd⟩ : ∃ nd, f.1.getD i nd0 = nd := ⟨_, rfl⟩
          obtain ⟨⟨ka, kn, kc⟩, hks⟩ : ∃ q, K i = q := ⟨_, rfl⟩
          obtain ⟨q, hq⟩ : ∃ q, (namedIn f.1 false (i : Int) : Int) = q := ⟨_, rfl⟩
          rw [hnd] at e1 e2 HB HN
          rw [hks] at e3
          rw [hq] at c0 HB HN
          simp only at e1 e2 e3 HB HN
          clear hnd hks hq R1
          have A : Below wr.heap.size wr (wr.alloc (.cells #[.int .i64 r, .bool lf, .slice ka kn kc] 109)) := (Below.refl _ _).alloc (Nat.le_refl _) _
          have z0 : (wr.alloc (.cells #[.int .i64 r, .bool lf, .slice ka kn kc] 109)).cell? ⟨wr.heap.size, 0, none⟩ = some (.int .i64 r) := by simp
          replace c0 := cell_later A c0
          have C2 := below_next C A
          have C3 := B3.trans (C2.mono (by omega))
          by_cases hrq : r < q
          · have hd0 : decide (r < q) = true := decide_eq_true hrq
            have HF : Hid _ := HB.out (by rw [hd0]; rfl)
            clear HB HN hrq
            go_wp2_with fail
            go_quiet (fail)
            go_wp2
            go_ret
            refine ⟨ret_int (by rw [← HD.out, HF.out]; rfl), below_drewN ?_ _⟩
            exact below_up A0 C3
          · have hd0 : decide (r < q) = false := decide_eq_false hrq
            have HN2 : Hid _ := HN.out (by rw [hd0]; rfl)
            clear HB HN
            go_wp2_with fail
            go_quiet (fail)
            go_wp2
            go_roundw
            case rel => exact ⟨i + 1, by omega, by go_num, HN2.out, below_drewN C2 _⟩
            case measure => simp [intOf]; omega
        · obtain rfl : i = nn := by omega
          have HF : Hid (fair f = true) := fair_all (fun j hj => HAB.out j (by omega)) (fun j hj => HA.out j (by omega))
          have C3 := B3.trans (C.mono (by omega))
          go_wp2
          go_ret
          refine ⟨ret_int (by rw [← HD.out, HF.out]; rfl), ?_⟩
          exact below_up A0 C3
end

end Go.Proofs.Ytedgppggaceopaa

/- Chapter 4: the program's ForestFault, and what it asks of a tree. -/
namespace Go.Proofs.Ytedgppggaceopaa
open Go.RowKit

section
variable {o : Bool} {l u : Nat} (an : Option Addr) (nn cn : Nat) (ab : Option Addr) (nb cb : Nat) (K : Nat → KS) (f : Fo) (w : World) (h : FoAt w o l u an nn cn ab nb cb K f) (hn : nn ≤ 2097152) (hb : nb ≤ 2097152) (hK : ∀ i, i < nn → (K i).2.1 ≤ 2097152)
include h hn hb hK

set_option maxRecDepth 20000 in
set_option maxHeartbeats 8000000 in
theorem implFF_b (c : Int) (hc : foFault f = c) : Calls Try.prog 50 #[.agg #[.slice an nn cn, .slice ab nb cb]] w fun e w' => e = .returned (.int .i64 c) ∧ Below w.heap.size w w' := by
  have A : Below w.heap.size w (w.alloc (.cells #[.slice an nn cn, .slice ab nb cb] 37)) := (Below.refl _ _).alloc (Nat.le_refl _) _
  have z0 : (w.alloc (.cells #[.slice an nn cn, .slice ab nb cb] 37)).cell? ⟨w.heap.size, 0, none⟩ = some (.slice an nn cn) := by simp
  have z1 : (w.alloc (.cells #[.slice an nn cn, .slice ab nb cb] 37)).cell? ⟨w.heap.size, 1, none⟩ = some (.slice ab nb cb) := by simp
  have r := h.below A
  have hl := h.nodes.len
  have hbl := h.blocks.nPairs
  obtain ⟨bc, hbc⟩ : ∃ bc, blkFault f.2 = bc := ⟨_, rfl⟩
  have HBC : Hid _ := hbc
  unfold foFault at hc
  rw [hbc] at hc
  by_cases hb0 : bc = 0
  · subst hb0
    rw [if_pos rfl] at hc
    have hb24 : nb ≤ 24 := by
      unfold blkFault at hbc
      by_cases h24 : 24 < f.2.length
      · rw [if_pos h24] at hbc; cases hbc
      · omega
    clear hbc
    by_cases h60 : 60 < nn
    · rw [if_pos (by omega)] at hc
      subst hc
      have hi : (60 : Int) < nn := by omega
      go_enter Try.func50, Try.ntmps50
      go_wp2_with fail
      refine (implBF_b ab nb cb f.2 _ (by exact r.blocks) hb 0 HBC.out).mono ?_
      rintro e w1 ⟨rfl, hb1⟩
      replace z0 := cell_later hb1 z0
      replace A := below_next A hb1
      go_wp2
      go_ret
      exact ⟨rfl, A⟩
    · rw [if_neg (by omega)] at hc
      have hi : ¬ (60 : Int) < nn := by omega
      have HC : Hid _ := hc
      clear hc
      go_enter Try.func50, Try.ntmps50
      go_wp2_with fail
      refine (implBF_b ab nb cb f.2 _ (by exact r.blocks) hb 0 HBC.out).mono ?_
      rintro e w1 ⟨rfl, hb1⟩
      replace z0 := cell_later hb1 z0
      replace z1 := cell_later hb1 z1
      replace A := below_next A hb1
      replace r := r.below hb1
      clear hb1
      go_wp2
      go_loopw [20] (fun i wr => ∃ k : Nat, k ≤ nn ∧ i = .int .i64 k ∧ (∀ j, j < k → ndOne f (f.1.getD j nd0) = 0) ∧ Below w1.heap.size w1 wr) (fun i _ => nn - (intOf i).toNat)
      case atStart => exact ⟨0, by omega, rfl, fun j hj => absurd hj (by omega), Below.refl _ _⟩
      case round =>
        obtain ⟨k, hk, rfl, ha, B⟩ := hrel
        have HA : Hid _ := ha
        clear ha
        have r2 := r.below B
        have HR2 : Hid _ := r2
        have q0 := cell_later B z0
        have q1 := cell_later B z1
        have B2 := below_next A B
        by_cases hlt : k < nn
        · have hkr := r2.nodes.kids k hlt
          have hkn := hK k hlt
          obtain ⟨b, off, rfl, _, _, _, e1, e2, e3, _⟩ := r2.nodes.node hlt
          have hlk : (k : Int) < (nn : Int) := by omega
          have HF : Hid _ := ndGo_first f f.1 k (by omega) HA.out
          have HN : Hid (ndOne f (f.1.getD k nd0) = 0 → ∀ j, j < k + 1 → ndOne f (f.1.getD j nd0) = 0) := fun h0 j hj => by
            by_cases e : j = k
            · subst e; exact h0
            · exact HA.out j (by omega)
          obtain ⟨⟨r', lf, ks⟩, hnd⟩ : ∃ nd, f.1.getD k nd0 = nd := ⟨_, rfl⟩
          obtain ⟨⟨ka, kn, kc⟩, hks⟩ : ∃ q, K k = q := ⟨_, rfl⟩
          rw [hnd] at e1 e2 hkr HF HN
          rw [hks] at e3 hkr hkn
          simp only at e1 e2 e3 hkr hkn
          clear hnd hks
          obtain ⟨d, hd⟩ : ∃ d, ndOne f (r', lf, ks) = d := ⟨_, rfl⟩
          rw [hd] at HF HN
          have HD : Hid _ := hd
          clear hd
          have A2 : Below wr.heap.size wr (wr.alloc (.cells #[.int .i64 r', .bool lf, .slice ka kn kc] 109)) := (Below.refl _ _).alloc (Nat.le_refl _) _
          have q0' := cell_later A2 q0
          have q1' := cell_later A2 q1
          have B3 := below_next B2 A2
          have B4 := below_next B A2
          by_cases hd0 : d = 0
          · subst hd0
            go_wp2_with fail
            refine (nodeFault_is _ nn cn ab nb cb K f _ (by exact HR2.out.below A2) hn hb r' lf ka kn kc ks (by exact hkr.below A2) hkn 0 HD.out).mono ?_
            rintro e w3 ⟨rfl, hb3⟩
            replace B4 := below_next B4 hb3
            clear hb3 B3 q0 q1 q0' q1' r2 e1 e2 e3
            go_wp2
            go_roundw
            case rel => exact ⟨k + 1, by omega, by go_num, HN.out trivial, B4⟩
            case measure => simp [intOf]; omega
          · have hne : (d != 0) = true := by simp [hd0]
            have HH : Hid _ := HF.out hd0
            have HX : Hid _ := hd0
            clear HF HN hd0
            go_wp2_with fail
            refine (nodeFault_is _ nn cn ab nb cb K f _ (by exact HR2.out.below A2) hn hb r' lf ka kn kc ks (by exact hkr.below A2) hkn d HD.out).mono ?_
            rintro e w3 ⟨rfl, hb3⟩
            replace B3 := below_next B3 hb3
            go_wp2
            go_ret
            exact ⟨ret_int (by rw [← HC.out, HH.out, if_neg HX.out]), B3⟩
        · obtain rfl : k = nn := by omega
          have HE : Hid ((if fair f then (0 : Int) else 1) = c) := by
            show _ = _
            rw [← HC.out, if_pos (ndGo_zero f f.1 fun j hj => HA.out j (by omega))]
          have h60' : k ≤ 60 := by omega
          go_wp2_with fail
          refine (namesFault_is an k cn ab nb cb K f _ (by exact HR2.out) h60' hb24 (fun j hj => HA.out j (by omega)) c HE.out).mono ?_
          rintro e w3 ⟨rfl, hb3⟩
          replace B2 := below_next B2 hb3
          go_wp2
          go_ret
          exact ⟨rfl, B2⟩
  · rw [if_neg hb0] at hc
    subst hc
    have hne : (bc != 0) = true := by simp [hb0]
    clear hb0 hbc
    go_enter Try.func50, Try.ntmps50
    go_wp2_with fail
    refine (implBF_b ab nb cb f.2 _ (by exact r.blocks) hb bc HBC.out).mono ?_
    rintro e w1 ⟨rfl, hb1⟩
    replace A := below_next A hb1
    go_wp2
    go_ret
    exact ⟨rfl, A⟩

end

end Go.Proofs.Ytedgppggaceopaa

/- Chapter 4: what the program looks up in a tree; its walk; its new forests. -/
namespace Go.Proofs.Ytedgppggaceopaa
open Go.RowKit

section
variable {o : Bool} {l u : Nat} (an : Option Addr) (nn cn : Nat) (ab : Option Addr) (nb cb : Nat) (K : Nat → KS) (f : Fo) (w : World) (h : FoAt w o l u an nn cn ab nb cb K f)
include h

set_option maxRecDepth 20000 in
set_option maxHeartbeats 2000000 in
theorem blockAt_is (root : Int) (a : Nat) (ha : a ≤ 15) (hI : Inv f) (hro : RootIs f root) (d : Int) (hd : blockAt f root a = d) : Calls Try.prog 86 #[.agg #[.slice an nn cn, .slice ab nb cb], .int .i64 root, .int .i64 (a : Int)] w fun e w' => e = .returned (.int .i64 d) ∧ Below w.heap.size w w' := by
  have A : Below w.heap.size w (w.alloc (.cells #[.slice an nn cn, .slice ab nb cb] 37)) := (Below.refl _ _).alloc (Nat.le_refl _) _
  have hl := h.nodes.len
  have H1 : Hid _ := rootAt_of hI hro
  have H2 : Hid _ := leafRoot_of hI hro (x := (a : Int)) (by omega) (by omega)
  have hlc := leaf_cases hI hro (at' := (a : Int)) (by omega) (by omega)
  unfold blockAt at hd
  by_cases h0 : root = -1
  · have e1 : leafAt f root (a : Int) = -1 := by unfold leafAt; rw [if_pos (by omega)]
    rw [e1, if_pos (by omega)] at hd
    subst hd
    subst h0
    clear hlc e1
    go_enter Try.func86, Try.ntmps86
    go_wp2
    go_ret
    exact ⟨rfl, A⟩
  · have hr0 : 0 ≤ root := by rcases hro with e | e <;> omega
    have hrn : (root == -1) = false := by simp [h0]
    obtain ⟨k, rfl⟩ : ∃ k : Nat, root = k := ⟨root.toNat, by omega⟩
    obtain ⟨r1, r2⟩ := H1.out hr0
    rw [Int.toNat_natCast] at r1 r2
    have hlt : k < nn := by omega
    have hlk : (k : Int) < nn := by omega
    have hkr := (h.below A).nodes.kids k hlt
    have hkn := h.nodes.nKids hlt
    have HQ : Hid _ := h.below A
    obtain ⟨b, off, rfl, _, _, _, _, _, e3, _⟩ := h.nodes.node hlt
    replace e3 := cell_later A e3
    have hd' : leafAt f (k : Int) (a : Int) = (nodeOf f k).2.2.getD (a / 4) 0 := by
      unfold leafAt; rw [if_neg (by omega), Int.toNat_natCast, Int.toNat_natCast]
    unfold nodeOf at r2 hd'
    rw [r2] at hkn
    obtain ⟨⟨ka, kn, kc⟩, hks⟩ : ∃ q, K k = q := ⟨_, rfl⟩
    rw [hks] at e3 hkr hkn
    simp only at e3 hkr hkn
    subst hkn
    obtain ⟨q, hq⟩ : ∃ q, a / 4 = q := ⟨_, rfl⟩
    have hq4 : q < 4 := by omega
    have hq' : (a : Int) / 4 = (q : Int) := by omega
    have hqi : (q : Int) < 4 := by omega
    obtain ⟨b', off', rfl, _, _, _, c1, _⟩ := hkr.int hq4
    obtain ⟨y, hy⟩ : ∃ y, leafAt f (k : Int) (a : Int) = y := ⟨_, rfl⟩
    rw [hy] at hd hd' hlc
    rw [hq] at hd'
    rw [← hd'] at c1
    have H2' : Hid (RootAt f y) := by rw [← hy]; exact H2.out
    clear hks hq hd' hy r1 r2 H1 H2
    by_cases hy1 : y = -1
    · rw [hy1, if_pos (by omega)] at hd
      subst hd
      subst hy1
      clear hlc
      go_enter Try.func86, Try.ntmps86
      go_wp2
      go_ret
      exact ⟨rfl, A⟩
    · obtain ⟨hy0, -⟩ := hlc.resolve_left hy1
      rw [if_neg (by omega)] at hd
      have hyn : (y == -1) = false := by simp [hy1]
      obtain ⟨m, rfl⟩ : ∃ m : Nat, y = m := ⟨y.toNat, by omega⟩
      obtain ⟨s1, s2⟩ := H2'.out hy0
      rw [Int.toNat_natCast] at s1 s2 hd
      rw [Int.toNat_natCast] at hd
      have hmt : m < nn := by omega
      have hmk : (m : Int) < nn := by omega
      have hkr2 := HQ.out.nodes.kids m hmt
      have hkn2 := HQ.out.nodes.nKids hmt
      obtain ⟨_, _, e', _, _, _, _, _, e4, _⟩ := HQ.out.nodes.node hmt
      cases e'
      unfold nodeOf at s2 hd
      rw [s2] at hkn2
      obtain ⟨⟨ka2, kn2, kc2⟩, hks2⟩ : ∃ q, K m = q := ⟨_, rfl⟩
      rw [hks2] at e4 hkr2 hkn2
      simp only at e4 hkr2 hkn2
      subst hkn2
      obtain ⟨q2, hq2⟩ : ∃ q, a % 4 = q := ⟨_, rfl⟩
      have hq4b : q2 < 4 := by omega
      have hq2' : (a : Int) % 4 = (q2 : Int) := by omega
      have hq2i : (q2 : Int) < 4 := by omega
      obtain ⟨b2, off2, rfl, _, _, _, c2, _⟩ := hkr2.int hq4b
      rw [hq2] at hd
      rw [hd] at c2
      clear hks2 hd hq2 s1 s2 hlc hkr hkr2 H2' hy1 hy0 h0 hr0
      go_enter Try.func86, Try.ntmps86
      go_wp2
      go_ret
      exact ⟨rfl, A⟩
end

section
variable {o : Bool} {l u : Nat} (an : Option Addr) (nn cn : Nat) (ab : Option Addr) (nb cb : Nat) (K : Nat → KS) (f : Fo) (w : World) (h : FoAt w o l u an nn cn ab nb cb K f) (hn : nn ≤ 2097152) (hb : nb ≤ 2097152) (hK : ∀ i, i < nn → (K i).2.1 ≤ 2097152)
include h hn hb hK

end

end Go.Proofs.Ytedgppggaceopaa
