/- Chapter 4: what the model's small functions on forests answer. -/
import Derived.Test.YtedgppggaceopaaZM
import Derived.Test.YtedgppggaceopaaZT
import Derived.Test.YtedgppggaceopaaP1
import Derived.Test.YtedgppggaceopaaFacts
import Derived.BigQuiet
namespace Go.Proofs.Ytedgppggaceopaa
open Go.RowKit

section
variable {o : Bool} {l u : Nat} (p : Nat) (an : Option Addr) (nn cn : Nat) (ab : Option Addr) (nb cb : Nat) (K : Nat → KS) (f : Fo) (w : World) (h : FoAt w o l u an nn cn ab nb cb K f) (hp0 : w.cell? ⟨p, 0, none⟩ = some (.slice an nn cn)) (hp1 : w.cell? ⟨p, 1, none⟩ = some (.slice ab nb cb)) (hn : nn ≤ 2097152) (hb : nb ≤ 2097152)
include h hp0 hp1 hn hb

set_option maxRecDepth 20000 in
set_option maxHeartbeats 1000000 in
theorem l4Root_is (root : Int) (d : Bool) (hd : rootOk f root = d) : Calls Try.prog 75 #[.pointer (some ⟨p, 0, none⟩), .int .i64 root] w fun e w' => e = .returned (.bool d) ∧ w' = w := by
  have _ := hb
  have hl := h.nodes.len
  unfold rootOk at hd
  by_cases h1 : root = -1
  · rw [if_pos h1] at hd
    subst hd
    subst h1
    go_enter Try.func75, Try.ntmps75
    go_wp2
    go_ret
    exact ⟨rfl, rfl⟩
  · rw [if_neg h1, hl] at hd
    by_cases hx : 0 ≤ root ∧ root ≤ (nn : Int) - 1
    · rw [decide_eq_true hx, Bool.true_and] at hd
      obtain ⟨k, rfl⟩ : ∃ k : Nat, root = k := ⟨root.toNat, by omega⟩
      rw [Int.toNat_natCast] at hd
      have hlt : k < nn := by omega
      have hlk : (k : Int) < nn := by omega
      have HD : Hid _ := decide_eq_true hx
      obtain ⟨b, off, rfl, _, _, _, e1, e2, e3, _⟩ := h.nodes.node hlt
      unfold nodeOf at hd
      obtain ⟨⟨r, lf, ks⟩, hnd⟩ : ∃ nd, f.1.getD k nd0 = nd := ⟨_, rfl⟩
      rw [hnd] at e1 e2 hd
      simp only at e1 e2 hd
      clear hnd hx h1 e3
      by_cases hr : 0 < r
      · rw [decide_eq_true hr, Bool.true_and] at hd
        subst hd
        go_enter Try.func75, Try.ntmps75
        go_wp2_with fail
        refine (l1In_bool _ _ _ _ true HD.out).mono ?_
        rintro e w1 ⟨rfl, rfl⟩
        go_wp2
        go_ret
        exact ⟨rfl, rfl⟩
      · rw [decide_eq_false hr, Bool.false_and] at hd
        subst hd
        go_enter Try.func75, Try.ntmps75
        go_wp2_with fail
        refine (l1In_bool _ _ _ _ true HD.out).mono ?_
        rintro e w1 ⟨rfl, rfl⟩
        go_wp2
        go_ret
        exact ⟨rfl, rfl⟩
    · rw [decide_eq_false hx, Bool.false_and, Bool.false_and] at hd
      subst hd
      have HD : Hid _ := decide_eq_false hx
      clear hx
      go_enter Try.func75, Try.ntmps75
      go_wp2_with fail
      refine (l1In_bool _ _ _ _ false HD.out).mono ?_
      rintro e w1 ⟨rfl, rfl⟩
      go_wp2
      go_ret
      exact ⟨rfl, rfl⟩

set_option maxRecDepth 20000 in
set_option maxHeartbeats 2000000 in
theorem l4Kid_is (x y : Nat) (lf : Bool) (hlf : w.cell? ⟨x, y + 1, none⟩ = some (.bool lf)) (k : Int) (d : Bool) (hd : kidOk f lf k = d) : Calls Try.prog 124 #[.pointer (some ⟨p, 0, none⟩), .pointer (some ⟨x, y, none⟩), .int .i64 k] w fun e w' => e = .returned (.bool d) ∧ w' = w := by
  have hl := h.nodes.len
  have hbl := h.blocks.nPairs
  unfold kidOk at hd
  by_cases h1 : k = -1
  · rw [if_pos h1] at hd
    subst hd
    subst h1
    go_enter Try.func124, Try.ntmps124
    go_wp2
    go_ret
    exact ⟨rfl, rfl⟩
  · rw [if_neg h1, hl, hbl] at hd
    cases lf with
    | true =>
      rw [if_pos rfl] at hd
      by_cases hx : 0 ≤ k ∧ k ≤ (nb : Int) - 1
      · rw [decide_eq_true hx, Bool.true_and] at hd
        obtain ⟨m, rfl⟩ : ∃ m : Nat, k = m := ⟨k.toNat, by omega⟩
        rw [Int.toNat_natCast] at hd
        have hlt : m < nb := by omega
        have hlk : (m : Int) < nb := by omega
        have HD : Hid _ := decide_eq_true hx
        obtain ⟨b, off, rfl, _, _, _, e1, _, _⟩ := h.blocks.pair hlt
        unfold blockOf at hd
        obtain ⟨⟨r, dt⟩, hnd⟩ : ∃ q, f.2.getD m (0, 0) = q := ⟨_, rfl⟩
        rw [hnd] at e1 hd
        simp only at e1 hd
        subst hd
        clear hnd hx h1
        go_enter Try.func124, Try.ntmps124
        go_wp2_with fail
        refine (l1In_bool _ _ _ _ true HD.out).mono ?_
        rintro e w1 ⟨rfl, rfl⟩
        go_wp2
        go_ret
        exact ⟨rfl, rfl⟩
      · rw [decide_eq_false hx, Bool.false_and] at hd
        subst hd
        have HD : Hid _ := decide_eq_false hx
        clear hx
        go_enter Try.func124, Try.ntmps124
        go_wp2_with fail
        refine (l1In_bool _ _ _ _ false HD.out).mono ?_
        rintro e w1 ⟨rfl, rfl⟩
        go_wp2
        go_ret
        exact ⟨rfl, rfl⟩
    | false =>
      rw [if_neg (by decide)] at hd
      by_cases hx : 0 ≤ k ∧ k ≤ (nn : Int) - 1
      · rw [decide_eq_true hx, Bool.true_and] at hd
        obtain ⟨m, rfl⟩ : ∃ m : Nat, k = m := ⟨k.toNat, by omega⟩
        rw [Int.toNat_natCast] at hd
        have hlt : m < nn := by omega
        have hlk : (m : Int) < nn := by omega
        have HD : Hid _ := decide_eq_true hx
        obtain ⟨b, off, rfl, _, _, _, e1, e2, e3, _⟩ := h.nodes.node hlt
        unfold nodeOf at hd
        obtain ⟨⟨r, lf, ks⟩, hnd⟩ : ∃ nd, f.1.getD m nd0 = nd := ⟨_, rfl⟩
        rw [hnd] at e1 e2 hd
        simp only at e1 e2 hd
        clear hnd hx h1 e3
        by_cases hr : 0 < r
        · rw [decide_eq_true hr, Bool.true_and] at hd
          subst hd
          go_enter Try.func124, Try.ntmps124
          go_wp2_with fail
          refine (l1In_bool _ _ _ _ true HD.out).mono ?_
          rintro e w1 ⟨rfl, rfl⟩
          go_wp2
          go_ret
          exact ⟨rfl, rfl⟩
        · rw [decide_eq_false hr, Bool.false_and] at hd
          subst hd
          go_enter Try.func124, Try.ntmps124
          go_wp2_with fail
          refine (l1In_bool _ _ _ _ true HD.out).mono ?_
          rintro e w1 ⟨rfl, rfl⟩
          go_wp2
          go_ret
          exact ⟨rfl, rfl⟩
      · rw [decide_eq_false hx, Bool.false_and, Bool.false_and] at hd
        subst hd
        have HD : Hid _ := decide_eq_false hx
        clear hx
        go_enter Try.func124, Try.ntmps124
        go_wp2_with fail
        refine (l1In_bool _ _ _ _ false HD.out).mono ?_
        rintro e w1 ⟨rfl, rfl⟩
        go_wp2
        go_ret
        exact ⟨rfl, rfl⟩
end

end Go.Proofs.Ytedgppggaceopaa

/- Chapter 4: what the model asks of a node, and how often a place is named. -/
namespace Go.Proofs.Ytedgppggaceopaa
open Go.RowKit

theorem any_take (ks : List Int) (k : Nat) (h : k < ks.length) : ((ks.take (k + 1)).any fun x => decide (0 ≤ x)) = (((ks.take k).any fun x => decide (0 ≤ x)) || decide (0 ≤ ks.getD k 0)) := by
  rw [List.take_add_one, List.getElem?_eq_getElem h, List.any_append]
  simp [List.getD, h]
theorem kids_bad {f : Fo} {lf : Bool} {ks : List Int} {k : Nat} (h : k < ks.length) (hk : kidOk f lf (ks.getD k 0) = false) : kidsOk f lf ks = false := by
  unfold kidsOk
  have : ks.all (kidOk f lf) = false := by
    rw [Bool.eq_false_iff]
    intro hc
    rw [List.all_eq_true] at hc
    have := hc (ks.getD k 0) (by rw [List.getD_eq_getElem?_getD, List.getElem?_eq_getElem h]; exact List.getElem_mem h)
    rw [hk] at this; cases this
  rw [this]; rfl
theorem kids_all {f : Fo} {lf : Bool} {ks : List Int} (h : ∀ j, j < ks.length → kidOk f lf (ks.getD j 0) = true) : kidsOk f lf ks = ks.any fun k => decide (0 ≤ k) := by
  unfold kidsOk
  have : ks.all (kidOk f lf) = true := by
    rw [List.all_eq_true]
    intro x hx
    obtain ⟨j, hj, rfl⟩ := List.mem_iff_getElem.1 hx
    have := h j hj
    simpa [List.getD, hj] using this
  rw [this]; rfl

section
variable {o : Bool} {l u : Nat} (p : Nat) (an : Option Addr) (nn cn : Nat) (ab : Option Addr) (nb cb : Nat) (K : Nat → KS) (f : Fo) (w : World) (h : FoAt w o l u an nn cn ab nb cb K f) (hp0 : w.cell? ⟨p, 0, none⟩ = some (.slice an nn cn)) (hp1 : w.cell? ⟨p, 1, none⟩ = some (.slice ab nb cb)) (hn : nn ≤ 2097152) (hb : nb ≤ 2097152)
include h hp0 hp1 hn hb

set_option maxRecDepth 20000 in
set_option maxHeartbeats 2000000 in
theorem l4Node_is (x y : Nat) (r : Int) (lf : Bool) (ka : Option Addr) (kn kc : Nat) (ks : List Int) (c0 : w.cell? ⟨x, y, none⟩ = some (.int .i64 r)) (c1 : w.cell? ⟨x, y + 1, none⟩ = some (.bool lf)) (c2 : w.cell? ⟨x, y + 2, none⟩ = some (.slice ka kn kc)) (hk : RowAt w o l u 1 ka kn kc (ints ks)) (hkn : kn ≤ 2097152) (d : Int) (hd : ndOne f (r, lf, ks) = d) :
    Calls Try.prog 104 #[.pointer (some ⟨p, 0, none⟩), .pointer (some ⟨x, y, none⟩)] w fun e w' => e = .returned (.int .i64 d) ∧ w' = w := by
  have hkl := hk.nInts
  unfold ndOne at hd
  simp only at hd
  cases hr : refsB r with
  | false =>
    have HD : Hid (decide (0 ≤ r ∧ r ≤ 200) = false) := hr
    rw [hr, if_neg (by decide)] at hd
    subst hd
    clear hr
    go_enter Try.func104, Try.ntmps104
    go_wp2_with fail
    refine (l1In_bool _ _ _ _ false HD.out).mono ?_
    rintro e w1 ⟨rfl, rfl⟩
    go_wp2
    go_ret
    exact ⟨rfl, rfl⟩
  | true =>
    have HD : Hid (decide (0 ≤ r ∧ r ≤ 200) = true) := hr
    rw [hr, if_pos rfl] at hd
    clear hr
    by_cases hz : r = 0
    · rw [if_pos hz, hkl] at hd
      subst hz
      cases lf with
      | true =>
        simp at hd
        subst hd
        go_enter Try.func104, Try.ntmps104
        go_wp2_with fail
        refine (l1In_bool _ _ _ _ true HD.out).mono ?_
        rintro e w1 ⟨rfl, rfl⟩
        go_wp2
        go_ret
        exact ⟨rfl, rfl⟩
      | false =>
        rw [Bool.false_or] at hd
        by_cases hk0 : 0 < kn
        · rw [if_pos (decide_eq_true hk0)] at hd
          subst hd
          have hk0' : (0 : Int) < kn := by omega
          go_enter Try.func104, Try.ntmps104
          go_wp2_with fail
          refine (l1In_bool _ _ _ _ true HD.out).mono ?_
          rintro e w1 ⟨rfl, rfl⟩
          go_wp2
          go_ret
          exact ⟨rfl, rfl⟩
        · rw [if_neg (by simpa using hk0)] at hd
          subst hd
          have hk0' : ¬ (0 : Int) < kn := by omega
          go_enter Try.func104, Try.ntmps104
          go_wp2_with fail
          refine (l1In_bool _ _ _ _ true HD.out).mono ?_
          rintro e w1 ⟨rfl, rfl⟩
          go_wp2
          go_ret
          exact ⟨rfl, rfl⟩
    · rw [if_neg hz, hkl] at hd
      have hrz : (r == 0) = false := by simp [hz]
      by_cases h4 : kn = 4
      · rw [if_pos h4] at hd
        subst h4
        have HK : Hid _ := hd
        clear hd
        go_enter Try.func104, Try.ntmps104
        go_wp2_with fail
        refine (l1In_bool _ _ _ _ true HD.out).mono ?_
        rintro e w1 ⟨rfl, rfl⟩
        go_wp2
        go_loopw [5, 6] (fun s i wr => ∃ k : Nat, k ≤ 4 ∧ i = .int .i64 k ∧ s = .bool ((ks.take k).any fun x => decide (0 ≤ x)) ∧ (∀ j, j < k → kidOk f lf (ks.getD j 0) = true) ∧ wr = w1) (fun _ i _ => 4 - (intOf i).toNat)
        case atStart => exact ⟨0, by omega, rfl, rfl, fun j hj => absurd hj (by omega), rfl⟩
        case round =>
          obtain ⟨k, hk4, rfl, rfl, ha, rfl⟩ := hrel
          have HA : Hid _ := ha
          clear ha
          by_cases hlt : k < 4
          · obtain ⟨b, off, rfl, _, _, _, e1, _⟩ := hk.int hlt
            have hlk : (k : Int) < 4 := by omega
            have HT : Hid _ := any_take ks k (by omega)
            have HB : Hid (kidOk f lf (ks.getD k 0) = false → kidsOk f lf ks = false) := fun hx => kids_bad (by omega) hx
            have HN : Hid (kidOk f lf (ks.getD k 0) = true → ∀ j, j < k + 1 → kidOk f lf (ks.getD j 0) = true) := fun hx j hj => by
              by_cases e : j = k
              · rw [e]; exact hx
              · exact HA.out j (by omega)
            obtain ⟨q, hq⟩ : ∃ q, ks.getD k 0 = q := ⟨_, rfl⟩
            rw [hq] at e1 HT HB HN
            clear hq
            generalize ((ks.take k).any fun x => decide (0 ≤ x)) = s at *
            cases hko : kidOk f lf q with
            | false =>
              have HO : Hid _ := hko
              have HF : Hid _ := HB.out hko
              clear hko HB HN
              go_wp2_with fail
              refine (l4Kid_is p an nn cn ab nb cb K f _ h hp0 hp1 hn hb x y lf c1 q false HO.out).mono ?_
              rintro e w1 ⟨rfl, rfl⟩
              go_wp2
              go_ret
              exact ⟨ret_int (by rw [← HK.out, HF.out]; rfl), rfl⟩
            | true =>
              have HO : Hid _ := hko
              have HN2 : Hid _ := HN.out hko
              clear hko HB HN
              cases s with
              | true =>
                go_wp2_with fail
                refine (l4Kid_is p an nn cn ab nb cb K f _ h hp0 hp1 hn hb x y lf c1 q true HO.out).mono ?_
                rintro e w1 ⟨rfl, rfl⟩
                go_wp2
                go_roundw
                case rel => exact ⟨k + 1, by omega, by go_num, by rw [HT.out]; rfl, HN2.out, by trivial⟩
                case measure => simp [intOf]; omega
              | false =>
                go_wp2_with fail
                refine (l4Kid_is p an nn cn ab nb cb K f _ h hp0 hp1 hn hb x y lf c1 q true HO.out).mono ?_
                rintro e w1 ⟨rfl, rfl⟩
                go_wp2
                go_roundw
                case rel => exact ⟨k + 1, by omega, by go_num, by rw [HT.out]; rfl, HN2.out, by trivial⟩
                case measure => simp [intOf]; omega
          · obtain rfl : k = 4 := by omega
            have HE : Hid ((ks.take 4).any (fun x => decide (0 ≤ x)) = kidsOk f lf ks) := by
              show _ = _
              rw [kids_all (fun j hj => HA.out j (by omega)), List.take_of_length_le (by omega)]
            rw [HE.out]
            generalize hs : kidsOk f lf ks = s at *
            cases s with
            | true =>
              go_wp2
              go_ret
              exact ⟨ret_int (by rw [← HK.out]; rfl), rfl⟩
            | false =>
              go_wp2
              go_ret
              exact ⟨ret_int (by rw [← HK.out]; rfl), rfl⟩
      · rw [if_neg h4] at hd
        subst hd
        have hne : ((kn : Int) != 4) = true := by simp; omega
        go_enter Try.func104, Try.ntmps104
        go_wp2_with fail
        refine (l1In_bool _ _ _ _ true HD.out).mono ?_
        rintro e w1 ⟨rfl, rfl⟩
        go_wp2
        go_ret
        exact ⟨rfl, rfl⟩
end

end Go.Proofs.Ytedgppggaceopaa

/- Chapter 4: how often nodes name a place: what the model counts. -/
namespace Go.Proofs.Ytedgppggaceopaa
open Go.RowKit

theorem namedIn_take (ns : List Nd) (i : Nat) (l : Bool) (k : Int) (h : i < ns.length) : namedIn (ns.take (i + 1)) l k = namedIn (ns.take i) l k + namesOf (ns.getD i nd0) l k := by
  rw [List.take_add_one, List.getElem?_eq_getElem h]
  simp only [Option.toList, namedIn_append]
  simp [List.getD, h]
theorem count_take (ks : List Int) (k : Nat) (x : Int) (h : k < ks.length) : (ks.take (k + 1)).count x = (ks.take k).count x + if ks.getD k 0 = x then 1 else 0 := by
  rw [List.take_add_one, List.getElem?_eq_getElem h, List.count_append]
  simp [List.getD, h, List.count_cons]
theorem namesOf_le {nd : Nd} (l : Bool) (k : Int) (h : nd.1 ≠ 0 → nd.2.2.length = 4) : namesOf nd l k ≤ 4 := by
  unfold namesOf
  by_cases hc : nd.1 = 0 ∨ nd.2.1 ≠ l
  · rw [if_pos hc]; omega
  · rw [if_neg hc]
    have := h (fun e => hc (Or.inl e))
    have := List.count_le_length (a := k) (l := nd.2.2)
    omega
theorem namedIn_le {ns : List Nd} (l : Bool) (k : Int) (h : ∀ i, i < ns.length → (ns.getD i nd0).1 ≠ 0 → (ns.getD i nd0).2.2.length = 4) : ∀ i, i ≤ ns.length → namedIn (ns.take i) l k ≤ 4 * i := by
  intro i
  induction i with
  | zero => intro _; simp [namedIn]
  | succ i ih =>
    intro hi
    rw [namedIn_take _ _ _ _ (by omega)]
    have := ih (by omega)
    have := namesOf_le (nd := ns.getD i nd0) l k (h i (by omega))
    omega

section
variable {o : Bool} {l u : Nat} (p : Nat) (an : Option Addr) (nn cn : Nat) (ab : Option Addr) (nb cb : Nat) (K : Nat → KS) (f : Fo) (w : World) (h : FoAt w o l u an nn cn ab nb cb K f) (hp0 : w.cell? ⟨p, 0, none⟩ = some (.slice an nn cn)) (hn : nn ≤ 60)
include h hp0 hn

set_option maxRecDepth 20000 in
set_option maxHeartbeats 4000000 in
theorem l4Named_any (lf : Bool) (x : Int) (h4 : ∀ i, i < f.1.length → (f.1.getD i nd0).1 ≠ 0 → (f.1.getD i nd0).2.2.length = 4) :
    Calls Try.prog 105 #[.pointer (some ⟨p, 0, none⟩), .bool lf, .int .i64 x] w fun e w' => e = .returned (.int .i64 (named f lf x : Int)) ∧ w' = w := by
  have hl := h.nodes.len
  have HL : Hid _ := namedIn_le (ns := f.1) lf x h4
  go_enter Try.func105, Try.ntmps105
  go_wp2
  go_loop [7, 8] (fun v i => ∃ k : Nat, k ≤ nn ∧ i = .int .i64 k ∧ v = .int .i64 (namedIn (f.1.take k) lf x : Int)) (fun _ i => nn - (intOf i).toNat)
  case atStart => exact ⟨0, by omega, rfl, by simp [namedIn]⟩
  case round =>
    obtain ⟨k, hk, rfl, rfl⟩ := hrel
    by_cases hlt : k < nn
    · have hkr := h.nodes.kids k hlt
      obtain ⟨b, off, rfl, _, _, _, e1, e2, e3, _⟩ := h.nodes.node hlt
      have hlk : (k : Int) < (nn : Int) := by omega
      have HS : Hid _ := namedIn_take f.1 k lf x (by omega)
      have hle := HL.out k (by omega)
      have hk4 := h4 k (by omega)
      obtain ⟨⟨r, lf', ks⟩, hnd⟩ : ∃ nd, f.1.getD k nd0 = nd := ⟨_, rfl⟩
      obtain ⟨⟨ka, kn, kc⟩, hks⟩ : ∃ q, K k = q := ⟨_, rfl⟩
      rw [hnd] at e1 e2 hkr HS hk4
      rw [hks] at e3 hkr
      simp only at e1 e2 e3 hkr hk4
      clear hnd hks
      generalize namedIn (f.1.take k) lf x = q at *
      by_cases hc : r = 0 ∨ lf' ≠ lf
      · have HZ : Hid (namesOf (r, lf', ks) lf x = 0) := if_pos hc
        by_cases hr : r = 0
        · subst hr
          clear hc hk4
          go_wp2
          go_round
          case rel => exact ⟨k + 1, by omega, by go_num, by rw [HS.out, HZ.out]; rfl⟩
          case measure => simp [intOf]; omega
        · have hrz : (r == 0) = false := by simp [hr]
          have hbb : (lf' == lf) = false := by simp; exact hc.resolve_left hr
          clear hc hk4
          go_wp2
          go_round
          case rel => exact ⟨k + 1, by omega, by go_num, by rw [HS.out, HZ.out]; rfl⟩
          case measure => simp [intOf]; omega
      · have HZ : Hid (namesOf (r, lf', ks) lf x = ks.count x) := if_neg hc
        have hr : ¬ r = 0 := fun e => hc (Or.inl e)
        have hrz : (r == 0) = false := by simp [hr]
        have hbb : (lf' == lf) = true := by simp; exact Decidable.byContradiction fun e => hc (Or.inr e)
        have hkl := hk4 hr
        have hkn := hkr.nInts
        obtain rfl : kn = 4 := by omega
        have hcl := List.count_le_length (a := x) (l := ks)
        clear hc hk4 hkn hr
        go_wp2
        go_loop [7, 9] (fun v i => ∃ j : Nat, j ≤ 4 ∧ i = .int .i64 j ∧ v = .int .i64 ((q + (ks.take j).count x : Nat) : Int)) (fun _ i => 4 - (intOf i).toNat)
        case atStart => exact ⟨0, by omega, rfl, by simp⟩
        case round =>
          obtain ⟨j, hj, rfl, rfl⟩ := hrel
          by_cases hjl : j < 4
          · obtain ⟨b', off', rfl, _, _, _, c1, _⟩ := hkr.int hjl
            have hjk : (j : Int) < 4 := by omega
            have HC : Hid _ := count_take ks j x (by omega)
            have hcj := List.count_le_length (a := x) (l := ks.take j)
            rw [List.length_take] at hcj
            obtain ⟨y, hy⟩ : ∃ y, ks.getD j 0 = y := ⟨_, rfl⟩
            rw [hy] at c1 HC
            clear hy
            generalize (ks.take j).count x = m at *
            by_cases he : y = x
            · have hee : (y == x) = true := by simp [he]
              rw [if_pos he] at HC
              clear he
              go_wp2
              go_round
              case rel => exact ⟨j + 1, by omega, by go_num, by rw [HC.out]; congr 1⟩
              case measure => simp [intOf]; omega
            · have hee : (y == x) = false := by simp [he]
              rw [if_neg he] at HC
              clear he
              go_wp2
              go_round
              case rel => exact ⟨j + 1, by omega, by go_num, by rw [HC.out]; congr 1⟩
              case measure => simp [intOf]; omega
          · obtain rfl : j = 4 := by omega
            rw [show ks.take 4 = ks from List.take_of_length_le (by omega)]
            generalize ks.count x = m at *
            go_wp2
            go_round
            case rel => exact ⟨k + 1, by omega, by go_num, by rw [HS.out, HZ.out]⟩
            case measure => simp [intOf]; omega
    · obtain rfl : k = nn := by omega
      have HE : Hid (namedIn (f.1.take k) lf x = named f lf x) := by show _ = _; rw [List.take_of_length_le (by omega)]; rfl
      go_wp2
      go_ret
      exact ⟨ret_int (by rw [HE.out]), rfl⟩
end

end Go.Proofs.Ytedgppggaceopaa

/- Chapter 4: the model's fault of a forest. -/
namespace Go.Proofs.Ytedgppggaceopaa
open Go.RowKit

theorem fair_all {f : Fo} (h1 : ∀ j, j < f.2.length → blockFair f j = true) (h2 : ∀ j, j < f.1.length → leafFair f j = true) : fair f = true := by
  unfold fair
  rw [Bool.and_eq_true, List.all_eq_true, List.all_eq_true]
  exact ⟨fun j hj => h1 j (List.mem_range.1 hj), fun j hj => h2 j (List.mem_range.1 hj)⟩
theorem fair_blk {f : Fo} {j : Nat} (hj : j < f.2.length) (h : blockFair f j = false) : fair f = false := by
  rw [Bool.eq_false_iff]
  intro hc
  unfold fair at hc
  rw [Bool.and_eq_true, List.all_eq_true] at hc
  have := hc.1 j (List.mem_range.2 hj)
  rw [h] at this; cases this
theorem fair_leaf {f : Fo} {j : Nat} (hj : j < f.1.length) (h : leafFair f j = false) : fair f = false := by
  rw [Bool.eq_false_iff]
  intro hc
  unfold fair at hc
  rw [Bool.and_eq_true, List.all_eq_true, List.all_eq_true] at hc
  have := hc.2 j (List.mem_range.2 hj)
  rw [h] at this; cases this
theorem kids_four {f : Fo} (h : ∀ j, j < f.1.length → ndOne f (f.1.getD j nd0) = 0) : ∀ i, i < f.1.length → (f.1.getD i nd0).1 ≠ 0 → (f.1.getD i nd0).2.2.length = 4 := fun i hi h0 => ((ndOne_iff _ _).1 (h i hi)).kl h0

theorem cell_lt {w : World} {b o : Nat} {v : Value} (h : w.cell? ⟨b, o, none⟩ = some v) : b < w.heap.size := by
  by_cases hb : b < w.heap.size
  · exact hb
  · have e : w.heap[b]? = none := Array.getElem?_eq_none (by omega)
    simp [World.cell?, e] at h
theorem FoAt.kept2 {w w' : World} {own : Bool} {lo hi : Nat} {an : Option Addr} {nn cn : Nat} {ab : Option Addr} {nb cb : Nat} {K : Nat → KS} {f : Fo} (h : FoAt w own lo hi an nn cn ab nb cb K f) (hb : Below w.heap.size w w') : FoAt w' own lo hi an nn cn ab nb cb K f := h.below hb

section
variable {o : Bool} {l u : Nat} (p : Nat) (an : Option Addr) (nn cn : Nat) (ab : Option Addr) (nb cb : Nat) (K : Nat → KS) (f : Fo) (w : World) (h : FoAt w o l u an nn cn ab nb cb K f) (hp0 : w.cell? ⟨p, 0, none⟩ = some (.slice an nn cn)) (hp1 : w.cell? ⟨p, 1, none⟩ = some (.slice ab nb cb)) (hn : nn ≤ 2097152) (hb : nb ≤ 2097152) (hK : ∀ i, i < nn → (K i).2.1 ≤ 2097152)
include h hp0 hp1 hn hb hK

theorem l4Named_b (lf : Bool) (x : Int) (h60 : nn ≤ 60) (h4 : ∀ i, i < f.1.length → (f.1.getD i nd0).1 ≠ 0 → (f.1.getD i nd0).2.2.length = 4) (m : Int) (hm : (named f lf x : Int) = m) :
    Calls Try.prog 105 #[.pointer (some ⟨p, 0, none⟩), .bool lf, .int .i64 x] w fun e w' => e = .returned (.int .i64 m) ∧ Below w.heap.size w w' := by
  have _ := hp1; have _ := hn; have _ := hb; have _ := hK
  exact (l4Named_any p an nn cn ab nb cb K f w h hp0 h60 lf x h4).mono fun _ _ ⟨e, hw⟩ => ⟨by rw [e, hm], hw ▸ Below.refl _ _⟩

set_option maxRecDepth 20000 in
set_option maxHeartbeats 8000000 in
theorem l4Fault_any : Calls Try.prog 73 #[.pointer (some ⟨p, 0, none⟩)] w fun e w' => e = .returned (.int .i64 (foFault f)) ∧ Below w.heap.size w w' := by
  have hl := h.nodes.len
  have hbl := h.blocks.nPairs
  obtain ⟨c, hc⟩ : ∃ c, blkFault f.2 = c := ⟨_, rfl⟩
  by_cases hc0 : c = 0
  · subst hc0
    by_cases h60 : 60 < nn
    · have HR : Hid (foFault f = 2) := by show _ = _; unfold foFault; rw [if_pos hc, if_pos (by omega)]
      have HC : Hid _ := hc
      have hi : (60 : Int) < nn := by omega
      clear hc
      go_enter Try.func73, Try.ntmps73
      go_wp2_with fail
      refine (specBF_is _ nb cb f.2 _ h.blocks hb 0 HC.out).mono ?_
      rintro e w1 ⟨rfl, rfl⟩
      go_wp2
      go_ret
      exact ⟨ret_int HR.out.symm, Below.refl _ _⟩
    have HR : Hid (foFault f = if ndGo f f.1 = 0 then (if fair f then 0 else 1) else ndGo f f.1) := by show _ = _; unfold foFault; rw [if_pos hc, if_neg (by omega)]
    have HC : Hid _ := hc
    have hi : ¬ (60 : Int) < nn := by omega
    clear hc
    go_enter Try.func73, Try.ntmps73
    go_wp2_with fail
    refine (specBF_is _ nb cb f.2 _ h.blocks hb 0 HC.out).mono ?_
    rintro e w1 ⟨rfl, rfl⟩
    go_wp2
    go_loopw [4] (fun i wr => ∃ k : Nat, k ≤ nn ∧ i = .int .i64 k ∧ (∀ j, j < k → ndOne f (f.1.getD j nd0) = 0) ∧ wr = w1) (fun i _ => nn - (intOf i).toNat)
    case atStart => exact ⟨0, by omega, rfl, fun j hj => absurd hj (by omega), rfl⟩
    case round =>
      obtain ⟨k, hk, rfl, ha, rfl⟩ := hrel
      have HA : Hid _ := ha
      clear ha
      by_cases hlt : k < nn
      · have hkr := h.nodes.kids k hlt
        have hkn := hK k hlt
        obtain ⟨b, off, rfl, _, _, _, e1, e2, e3, _⟩ := h.nodes.node hlt
        have hlk : (k : Int) < (nn : Int) := by omega
        have HF : Hid _ := ndGo_first f f.1 k (by omega) HA.out
        have HN : Hid (ndOne f (f.1.getD k nd0) = 0 → ∀ j, j < k + 1 → ndOne f (f.1.getD j nd0) = 0) := fun h0 j hj => by
          by_cases e : j = k
          · subst e; exact h0
          · exact HA.out j (by omega)
        obtain ⟨⟨r, lf, ks⟩, hnd⟩ : ∃ nd, f.1.getD k nd0 = nd := ⟨_, rfl⟩
        obtain ⟨⟨ka, kn, kc⟩, hks⟩ : ∃ q, K k = q := ⟨_, rfl⟩
        rw [hnd] at e1 e2 hkr HF HN
        rw [hks] at e3 hkr hkn
        simp only at e1 e2 e3 hkr hkn
        clear hnd hks
        obtain ⟨d, hd⟩ : ∃ d, ndOne f (r, lf, ks) = d := ⟨_, rfl⟩
        rw [hd] at HF HN
        have HD : Hid _ := hd
        clear hd
        by_cases hd0 : d = 0
        · subst hd0
          go_wp2_with fail
          refine (l4Node_is p _ nn cn ab nb cb K f _ h hp0 hp1 hn hb b (off + k * 3) r lf ka kn kc ks e1 e2 e3 hkr hkn 0 HD.out).mono ?_
          rintro e w1 ⟨rfl, rfl⟩
          go_wp2
          go_roundw
          case rel => exact ⟨k + 1, by omega, by go_num, HN.out trivial, by trivial⟩
          case measure => simp [intOf]; omega
        · have hne : (d != 0) = true := by simp [hd0]
          have HH : Hid _ := HF.out hd0
          have HX : Hid _ := hd0
          clear HF HN hd0
          go_wp2_with fail
          refine (l4Node_is p _ nn cn ab nb cb K f _ h hp0 hp1 hn hb b (off + k * 3) r lf ka kn kc ks e1 e2 e3 hkr hkn d HD.out).mono ?_
          rintro e w1 ⟨rfl, rfl⟩
          go_wp2
          go_ret
          exact ⟨ret_int (by rw [HR.out, HH.out, if_neg HX.out]), Below.refl _ _⟩
      · obtain rfl : k = nn := by omega
        have h4 := kids_four (f := f) (fun j hj => HA.out j (by omega))
        have HR2 : Hid (foFault f = if fair f then 0 else 1) := by show _ = _; rw [HR.out, if_pos (ndGo_zero f f.1 fun j hj => HA.out j (by omega))]
        have HQ : Hid _ := h
        have H4 : Hid _ := h4
        clear HA HR h4
        have h60' : k ≤ 60 := by omega
        obtain ⟨W0, hW0⟩ : ∃ W0, wr = W0 := ⟨_, rfl⟩
        subst hW0
        rename World => W0
        go_wp2
        go_loopw [6] (fun i wr => ∃ j : Nat, j ≤ nb ∧ i = .int .i64 j ∧ (∀ m, m < j → blockFair f m = true) ∧ Below W0.heap.size W0 wr) (fun i _ => nb - (intOf i).toNat)
        case atStart => exact ⟨0, by omega, rfl, fun m hm => absurd hm (by omega), Below.refl _ _⟩
        case round =>
          obtain ⟨j, hj, rfl, ha, B⟩ := hrel
          have HA : Hid _ := ha
          clear ha
          have g0 := (B.cell (p := ⟨p, 0, none⟩) (cell_lt hp0)).trans hp0
          have g1 := (B.cell (p := ⟨p, 1, none⟩) (cell_lt hp1)).trans hp1
          have HQ2 : Hid _ := HQ.out.kept2 B
          by_cases hjl : j < nb
          · obtain ⟨b2, f2, rfl, _, _, hs2, e1, _, _⟩ := h.blocks.pair hjl
            replace e1 := (B.cell (p := ⟨b2, f2 + j * 2, none⟩) hs2).trans e1
            have hlj : (j : Int) < (nb : Int) := by omega
            have HB : Hid (blockFair f j = false → fair f = false) := fun hx => fair_blk (by omega) hx
            have HN : Hid (blockFair f j = true → ∀ m, m < j + 1 → blockFair f m = true) := fun h0 m hm => by
              by_cases e : m = j
              · subst e; exact h0
              · exact HA.out m (by omega)
            unfold blockFair blockOf at HB HN
            obtain ⟨r, hr⟩ : ∃ r, (f.2.getD j (0, 0)).1 = r := ⟨_, rfl⟩
            obtain ⟨q, hq⟩ : ∃ q, (named f true (j : Int) : Int) = q := ⟨_, rfl⟩
            rw [hr] at e1 HB HN
            rw [hq] at HB HN
            have Hq : Hid _ := hq
            clear hr hq
            by_cases hrq : r = q
            · have hee : (r != q) = false := by simp [hrq]
              have HN2 : Hid _ := HN.out (decide_eq_true hrq)
              clear hrq HB HN
              go_wp2_with fail
              go_region_held3 (fun w' => w'.cell? ⟨p, 0, none⟩ = some (.slice an k cn) ∧ w'.cell? ⟨p, 1, none⟩ = some (.slice (some ⟨b2, f2, none⟩) nb cb) ∧ w'.cell? ⟨b2, f2 + j * 2, none⟩ = some (.int .i64 r)) (go_keep) (first | (go_at_call 105; refine (l4Named_b p an k cn _ nb cb K f _ (HQ2.out.below (below_drewN (Below.refl _ _) _)) g0 g1 hn hb hK true (j : Int) h60' H4.out q Hq.out).mono ?_; rintro e w2 ⟨rfl, hb1⟩; have q1 := cell_later hb1 g0; have q2 := cell_later hb1 g1; have q3 := cell_later hb1 e1))
              have B2 := below_step B.drew B.size hb1
              clear q1 q2 q3 hb1 g0 g1 e1 B HQ2
              go_wp2
              go_roundw
              case rel => exact ⟨j + 1, by omega, by go_num, HN2.out, B2⟩
              case measure => simp [intOf]; omega
            · have hee : (r != q) = true := by simp [hrq]
              have HB2 : Hid _ := HB.out (decide_eq_false hrq)
              clear hrq HB HN
              go_wp2_with fail
              go_region_held3 (fun w' => w'.cell? ⟨p, 0, none⟩ = some (.slice an k cn) ∧ w'.cell? ⟨p, 1, none⟩ = some (.slice (some ⟨b2, f2, none⟩) nb cb) ∧ w'.cell? ⟨b2, f2 + j * 2, none⟩ = some (.int .i64 r)) (go_keep) (first | (go_at_call 105; refine (l4Named_b p an k cn _ nb cb K f _ (HQ2.out.below (below_drewN (Below.refl _ _) _)) g0 g1 hn hb hK true (j : Int) h60' H4.out q Hq.out).mono ?_; rintro e w2 ⟨rfl, hb1⟩; have q1 := cell_later hb1 g0; have q2 := cell_later hb1 g1; have q3 := cell_later hb1 e1))
              have B2 := below_step B.drew B.size hb1
              clear q1 q2 q3 hb1 g0 g1 e1 B HQ2
              go_wp2
              go_ret
              exact ⟨ret_int (by rw [HR2.out, HB2.out]; rfl), B2⟩
          · obtain rfl : j = nb := by omega
            have HBA : Hid (∀ m, m < f.2.length → blockFair f m = true) := fun m hm => HA.out m (by omega)
            clear HA HQ2
            go_wp2
            go_loopw [7] (fun i ws => ∃ m : Nat, m ≤ k ∧ i = .int .i64 m ∧ (∀ q, q < m → leafFair f q = true) ∧ Below W0.heap.size W0 ws) (fun i _ => k - (intOf i).toNat)
            case atStart => exact ⟨0, by omega, rfl, fun m hm => absurd hm (by omega), B⟩
            case round =>
              clear B g0 g1
              obtain ⟨m, hm, rfl, ha, B⟩ := hrel
              have HA : Hid _ := ha
              clear ha
              have g0 := (B.cell (p := ⟨p, 0, none⟩) (cell_lt hp0)).trans hp0
              have g1 := (B.cell (p := ⟨p, 1, none⟩) (cell_lt hp1)).trans hp1
              have HQ2 : Hid _ := HQ.out.kept2 B
              by_cases hml : m < k
              · obtain ⟨b2, f2, rfl, _, _, hs2, e1, e2, _, _⟩ := h.nodes.node hml
                replace e1 := (B.cell (p := ⟨b2, f2 + m * 3, none⟩) hs2).trans e1
                replace e2 := (B.cell (p := ⟨b2, f2 + m * 3 + 1, none⟩) hs2).trans e2
                have hlm : (m : Int) < (k : Int) := by omega
                have HB : Hid (leafFair f m = false → fair f = false) := fun hx => fair_leaf (by omega) hx
                have HN : Hid (leafFair f m = true → ∀ q, q < m + 1 → leafFair f q = true) := fun h0 q hq => by
                  by_cases e : q = m
                  · subst e; exact h0
                  · exact HA.out q (by omega)
                unfold leafFair nodeOf at HB HN
                obtain ⟨⟨r, lf, ks⟩, hnd⟩ : ∃ nd, f.1.getD m nd0 = nd := ⟨_, rfl⟩
                obtain ⟨q, hq⟩ : ∃ q, (named f false (m : Int) : Int) = q := ⟨_, rfl⟩
                rw [hnd] at e1 e2 HB HN
                rw [hq] at HB HN
                simp only at e1 e2 HB HN
                have Hq : Hid _ := hq
                clear hnd hq
                cases lf with
                | false =>
                  have HN2 : Hid _ := HN.out rfl
                  clear HB HN
                  go_wp2_with fail
                  go_quiet (fail)
                  have B2 := below_drewN B nq
                  clear g0 g1 e1 e2 B HQ2
                  go_wp2
                  go_roundw
                  case rel => exact ⟨m + 1, by omega, by go_num, HN2.out, B2⟩
                  case measure => simp [intOf]; omega
                | true =>
                  by_cases hrq : r < q
                  · have HB2 : Hid _ := HB.out (by simp [hrq])
                    clear HB HN
                    go_wp2_with fail
                    go_region_held3 (fun w' => w'.cell? ⟨p, 0, none⟩ = some (.slice (some ⟨b2, f2, none⟩) k cn) ∧ w'.cell? ⟨p, 1, none⟩ = some (.slice ab j cb) ∧ w'.cell? ⟨b2, f2 + m * 3, none⟩ = some (.int .i64 r) ∧ w'.cell? ⟨b2, f2 + m * 3 + 1, none⟩ = some (.bool true)) (go_keep) (first | (go_at_call 105; refine (l4Named_b p _ k cn ab j cb K f _ (HQ2.out.below (below_drewN (Below.refl _ _) _)) g0 g1 hn hb hK false (m : Int) h60' H4.out q Hq.out).mono ?_; rintro e w2 ⟨rfl, hb1⟩; have q1 := cell_later hb1 g0; have q2 := cell_later hb1 g1; have q3 := cell_later hb1 e1; have q4 := cell_later hb1 e2))
                    have B2 := below_step B.drew B.size hb1
                    clear q1 q2 q3 q4 hb1 g0 g1 e1 e2 B HQ2
                    go_wp2
                    go_ret
                    exact ⟨ret_int (by rw [HR2.out, HB2.out]; rfl), B2⟩
                  · have HN2 : Hid _ := HN.out (by simp [hrq])
                    clear HB HN
                    go_wp2_with fail
                    go_region_held3 (fun w' => w'.cell? ⟨p, 0, none⟩ = some (.slice (some ⟨b2, f2, none⟩) k cn) ∧ w'.cell? ⟨p, 1, none⟩ = some (.slice ab j cb) ∧ w'.cell? ⟨b2, f2 + m * 3, none⟩ = some (.int .i64 r) ∧ w'.cell? ⟨b2, f2 + m * 3 + 1, none⟩ = some (.bool true)) (go_keep) (first | (go_at_call 105; refine (l4Named_b p _ k cn ab j cb K f _ (HQ2.out.below (below_drewN (Below.refl _ _) _)) g0 g1 hn hb hK false (m : Int) h60' H4.out q Hq.out).mono ?_; rintro e w2 ⟨rfl, hb1⟩; have q1 := cell_later hb1 g0; have q2 := cell_later hb1 g1; have q3 := cell_later hb1 e1; have q4 := cell_later hb1 e2))
                    have B2 := below_step B.drew B.size hb1
                    clear q1 q2 q3 q4 hb1 g0 g1 e1 e2 B HQ2
                    go_wp2
                    go_roundw
                    case rel => exact ⟨m + 1, by omega, by go_num, HN2.out, B2⟩
                    case measure => simp [intOf]; omega
              · obtain rfl : m = k := by omega
                have HF : Hid (fair f = true) := fair_all HBA.out fun q hq => HA.out q (by omega)
                clear HA HQ2
                go_wp2
                go_ret
                exact ⟨ret_int (by rw [HR2.out, HF.out]; rfl), B⟩
  · have HR : Hid (foFault f = c) := by show _ = _; unfold foFault; rw [if_neg (by rw [hc]; exact hc0), hc]
    have HC : Hid _ := hc
    have hne : (c != 0) = true := by simp [hc0]
    clear hc hc0
    go_enter Try.func73, Try.ntmps73
    go_wp2_with fail
    refine (specBF_is _ nb cb f.2 _ h.blocks hb c HC.out).mono ?_
    rintro e w1 ⟨rfl, rfl⟩
    go_wp2
    go_ret
    exact ⟨ret_int HR.out.symm, Below.refl _ _⟩
end

end Go.Proofs.Ytedgppggaceopaa

/- Chapter 4: what the model looks up in a tree. -/
namespace Go.Proofs.Ytedgppggaceopaa
open Go.RowKit

/-- a root that is none, or a node with four kids -/
def RootAt (f : Fo) (root : Int) : Prop := 0 ≤ root → root.toNat < f.1.length ∧ (nodeOf f root.toNat).2.2.length = 4
section
variable {o : Bool} {l u : Nat} (p : Nat) (an : Option Addr) (nn cn : Nat) (ab : Option Addr) (nb cb : Nat) (K : Nat → KS) (f : Fo) (w : World) (h : FoAt w o l u an nn cn ab nb cb K f) (hp0 : w.cell? ⟨p, 0, none⟩ = some (.slice an nn cn)) (hn : nn ≤ 2097152)
include h hp0 hn

set_option maxRecDepth 20000 in
set_option maxHeartbeats 1000000 in
theorem l4Leaf_is (root : Int) (a : Nat) (ha : a ≤ 15) (hr : RootAt f root) (d : Int) (hd : leafAt f root a = d) : Calls Try.prog 132 #[.pointer (some ⟨p, 0, none⟩), .int .i64 root, .int .i64 (a : Int)] w fun e w' => e = .returned (.int .i64 d) ∧ w' = w := by
  have _ := hn
  have hl := h.nodes.len
  unfold leafAt at hd
  by_cases h0 : root < 0
  · rw [if_pos h0] at hd
    subst hd
    go_enter Try.func132, Try.ntmps132
    go_wp2
    go_ret
    exact ⟨rfl, rfl⟩
  · rw [if_neg h0] at hd
    obtain ⟨k, rfl⟩ : ∃ k : Nat, root = k := ⟨root.toNat, by omega⟩
    obtain ⟨r1, r2⟩ := hr (by omega)
    rw [Int.toNat_natCast] at r1 r2 hd
    rw [Int.toNat_natCast] at hd
    have hlt : k < nn := by omega
    have hlk : (k : Int) < nn := by omega
    have hkr := h.nodes.kids k hlt
    have hkn := h.nodes.nKids hlt
    obtain ⟨b, off, rfl, _, _, _, _, _, e3, _⟩ := h.nodes.node hlt
    unfold nodeOf at r2 hd
    rw [r2] at hkn
    obtain ⟨⟨ka, kn, kc⟩, hks⟩ : ∃ q, K k = q := ⟨_, rfl⟩
    rw [hks] at e3 hkr hkn
    simp only at e3 hkr hkn
    subst hkn
    obtain ⟨q, hq⟩ : ∃ q, a / 4 = q := ⟨_, rfl⟩
    have hq4 : q < 4 := by omega
    have hq' : (a : Int) / 4 = (q : Int) := by omega
    have hqi : (q : Int) < 4 := by omega
    obtain ⟨b', off', rfl, _, _, _, c1, _⟩ := hkr.int hq4
    rw [hq] at hd
    rw [hd] at c1
    clear hks hd hq hr r1 r2
    go_enter Try.func132, Try.ntmps132
    go_wp2
    go_ret
    exact ⟨rfl, rfl⟩

set_option maxRecDepth 20000 in
set_option maxHeartbeats 1000000 in
theorem l4Block_is (root : Int) (a : Nat) (ha : a ≤ 15) (hr : RootAt f root) (hr2 : RootAt f (leafAt f root a)) (d : Int) (hd : blockAt f root a = d) : Calls Try.prog 125 #[.pointer (some ⟨p, 0, none⟩), .int .i64 root, .int .i64 (a : Int)] w fun e w' => e = .returned (.int .i64 d) ∧ w' = w := by
  have hl := h.nodes.len
  unfold blockAt at hd
  obtain ⟨y, hy⟩ : ∃ y, leafAt f root a = y := ⟨_, rfl⟩
  rw [hy] at hd hr2
  have HY : Hid _ := hy
  clear hy
  by_cases h0 : y < 0
  · rw [if_pos h0] at hd
    subst hd
    go_enter Try.func125, Try.ntmps125
    go_wp2_with fail
    refine (l4Leaf_is p an nn cn ab nb cb K f _ h hp0 hn root a ha hr y HY.out).mono ?_
    rintro e w1 ⟨rfl, rfl⟩
    go_wp2
    go_ret
    exact ⟨rfl, rfl⟩
  · rw [if_neg h0] at hd
    obtain ⟨k, rfl⟩ : ∃ k : Nat, y = k := ⟨y.toNat, by omega⟩
    obtain ⟨r1, r2⟩ := hr2 (by omega)
    rw [Int.toNat_natCast] at r1 r2 hd
    rw [Int.toNat_natCast] at hd
    have hlt : k < nn := by omega
    have hlk : (k : Int) < nn := by omega
    have hkr := h.nodes.kids k hlt
    have hkn := h.nodes.nKids hlt
    have HQ : Hid _ := h
    obtain ⟨b, off, rfl, _, _, _, _, _, e3, _⟩ := h.nodes.node hlt
    unfold nodeOf at r2 hd
    rw [r2] at hkn
    obtain ⟨⟨ka, kn, kc⟩, hks⟩ : ∃ q, K k = q := ⟨_, rfl⟩
    rw [hks] at e3 hkr hkn
    simp only at e3 hkr hkn
    subst hkn
    obtain ⟨q, hq⟩ : ∃ q, a % 4 = q := ⟨_, rfl⟩
    have hq4 : q < 4 := by omega
    have hq' : (a : Int) % 4 = (q : Int) := by omega
    have hqi : (q : Int) < 4 := by omega
    obtain ⟨b', off', rfl, _, _, _, c1, _⟩ := hkr.int hq4
    rw [hq] at hd
    rw [hd] at c1
    clear hks hd hq r1 r2 hr2
    go_enter Try.func125, Try.ntmps125
    go_wp2_with fail
    refine (l4Leaf_is p _ nn cn ab nb cb K f _ HQ.out hp0 hn root a ha hr k HY.out).mono ?_
    rintro e w1 ⟨rfl, rfl⟩
    go_wp2
    go_ret
    exact ⟨rfl, rfl⟩
end

section
variable {o : Bool} {l u : Nat} (p : Nat) (an : Option Addr) (nn cn : Nat) (ab : Option Addr) (nb cb : Nat) (K : Nat → KS) (f : Fo) (w : World) (h : FoAt w o l u an nn cn ab nb cb K f) (hp0 : w.cell? ⟨p, 0, none⟩ = some (.slice an nn cn)) (hp1 : w.cell? ⟨p, 1, none⟩ = some (.slice ab nb cb)) (hn : nn ≤ 2097152) (hb : nb ≤ 2097152) (hK : ∀ i, i < nn → (K i).2.1 ≤ 2097152)
include h hp0 hp1 hn hb hK

theorem l4Fault_is (c : Int) (hc : foFault f = c) : Calls Try.prog 73 #[.pointer (some ⟨p, 0, none⟩)] w fun e w' => e = .returned (.int .i64 c) ∧ Below w.heap.size w w' := by
  rw [← hc]; exact l4Fault_any p an nn cn ab nb cb K f w h hp0 hp1 hn hb hK
end

end Go.Proofs.Ytedgppggaceopaa

/- Chapter 4: what the model answers of a tree: its fault, what is looked up, what it has. -/
namespace Go.Proofs.Ytedgppggaceopaa
open Go.RowKit

theorem rootAt_of {f : Fo} (hI : Inv f) {root : Int} (h : RootIs f root) : RootAt f root := fun h0 => by
  obtain ⟨_, h1, _⟩ := h.resolve_left (by omega)
  exact ⟨live_lt h1, (hI.nd _).kl h1⟩
theorem leafRoot_of {f : Fo} (hI : Inv f) {root x : Int} (h : RootIs f root) (h0 : 0 ≤ x) (h1 : x ≤ 15) : RootAt f (leafAt f root x) := fun hp => by
  obtain ⟨_, e2, _⟩ := (leaf_cases hI h h0 h1).resolve_left (by omega)
  exact ⟨live_lt e2, (hI.nd _).kl e2⟩

section
variable {o : Bool} {l u : Nat} (an : Option Addr) (nn cn : Nat) (ab : Option Addr) (nb cb : Nat) (K : Nat → KS) (f : Fo) (w : World) (h : FoAt w o l u an nn cn ab nb cb K f) (hn : nn ≤ 2097152) (hb : nb ≤ 2097152) (hK : ∀ i, i < nn → (K i).2.1 ≤ 2097152)
include h hn hb hK

end

end Go.Proofs.Ytedgppggaceopaa

/- Chapter 4: what the model tells of a tree's places; new forests. -/
namespace Go.Proofs.Ytedgppggaceopaa
open Go.RowKit

theorem walkTo_succ (f : Fo) (root : Int) (k : Nat) : walkTo f root (k + 1) = walkTo f root k ++ walkOne f root k := by
  simp [walkTo, List.range_succ]
theorem walkTo_len (f : Fo) (root : Int) (k : Nat) : (walkTo f root k).length ≤ 2 * k := by
  induction k with
  | zero => simp [walkTo]
  | succ k ih =>
    rw [walkTo_succ, List.length_append]
    have : (walkOne f root k).length ≤ 2 := by unfold walkOne; split <;> simp
    omega
section
variable {o : Bool} {l u : Nat} (p : Nat) (an : Option Addr) (nn cn : Nat) (ab : Option Addr) (nb cb : Nat) (K : Nat → KS) (f : Fo) (w : World) (h : FoAt w o l u an nn cn ab nb cb K f) (hp0 : w.cell? ⟨p, 0, none⟩ = some (.slice an nn cn)) (hp1 : w.cell? ⟨p, 1, none⟩ = some (.slice ab nb cb)) (hn : nn ≤ 2097152)
include h hp0 hp1 hn

set_option maxRecDepth 20000 in
set_option maxHeartbeats 2000000 in
theorem l4Walk_any (root : Int) (hI : Inv f) (hro : RootIs f root) : Calls Try.prog 106 #[.pointer (some ⟨p, 0, none⟩), .int .i64 root] w fun e w' => ∃ ao n cap, e = .returned (.slice ao n cap) ∧ RowAt w' true w.heap.size w'.heap.size 1 ao n cap (ints (walkTo f root 16)) ∧ Below w.heap.size w w' := by
  obtain ⟨i0, hi0, hz0, hz1, hz2⟩ := info_parts Try.info2'
  have hbl := h.blocks.nPairs
  have HI : Hid _ := hI
  have HO : Hid _ := hro
  clear hI hro
  go_enter Try.func106, Try.ntmps106
  go_wp2
  go_loopw [5, 6] (fun v i wr => ∃ k : Nat, k ≤ 16 ∧ i = .int .i64 k ∧ wr.ownsRow w.heap.size 2 1 v (walkTo f root k).length (ints (walkTo f root k)) ∧ Below w.heap.size w wr) (fun _ i _ => 16 - (intOf i).toNat)
  case atStart => exact ⟨0, Nat.zero_le _, rfl, World.ownsRow_lit w #[] 0 (Nat.le_refl _) (Nat.zero_le _) rfl, (Below.refl _ _).alloc (Nat.le_refl _) _⟩
  case round =>
    obtain ⟨k, hk, rfl, hown, hb⟩ := hrel
    by_cases hlt : k < 16
    · have hl16 : (k : Int) < 16 := by omega
      have HW : Hid _ := walkTo_succ f root k
      have hwl := walkTo_len f root k
      have H1 : Hid _ := rootAt_of HI.out HO.out
      have H2 : Hid (RootAt f (leafAt f root (k : Int))) := leafRoot_of HI.out HO.out (by omega) (by omega)
      have hbc := block_cases HI.out HO.out (x := (k : Int)) (by omega) (by omega)
      unfold walkOne at HW
      obtain ⟨y, hy⟩ : ∃ y, blockAt f root (k : Int) = y := ⟨_, rfl⟩
      rw [hy] at HW hbc
      have HY : Hid _ := hy
      clear hy
      have hB := hb.size
      by_cases hy0 : y < 0
      · rw [if_pos hy0, List.append_nil] at HW
        clear hbc
        go_wp2_with fail
        refine (l4Block_is p an nn cn ab nb cb K f _ (by exact h.below hb) (by exact cell_later hb hp0) hn root k (by omega) H1.out H2.out y HY.out).mono ?_
        rintro e w' ⟨rfl, rfl⟩
        go_wp2
        go_roundw
        case rel => exact ⟨k + 1, by omega, by go_num, by rw [HW.out]; exact hown, hb⟩
        case measure => simp [intOf]; omega
      · rw [if_neg hy0] at HW
        obtain ⟨_, hlive⟩ := hbc.resolve_left (by omega)
        obtain ⟨m, rfl⟩ : ∃ m : Nat, y = m := ⟨y.toNat, by omega⟩
        rw [Int.toNat_natCast] at HW hlive
        have hmb := liveB_lt hlive
        have hmn : m < nb := by omega
        have hlm : (m : Int) < nb := by omega
        have HQ : Hid _ := h
        obtain ⟨b2, f2, rfl, _, _, hs2, _, e2, _⟩ := h.blocks.pair hmn
        replace e2 := (hb.cell (p := ⟨b2, f2 + m * 2 + 1, none⟩) hs2).trans e2
        have g1 := cell_later hb hp1
        unfold blockOf at HW
        obtain ⟨x, hx⟩ : ∃ x, (f.2.getD m (0, 0)).2 = x := ⟨_, rfl⟩
        rw [hx] at e2 HW
        clear hbc hlive hmb hx
        go_wp2_with fail
        refine (l4Block_is p an nn cn _ nb cb K f _ (by exact HQ.out.below hb) (by exact cell_later hb hp0) hn root k (by omega) H1.out H2.out m HY.out).mono ?_
        rintro e w' ⟨rfl, rfl⟩
        have hownA := hown.alloc (.cells #[.int .i64 k, .int .i64 x] 2)
        go_wp2_with (first | (at_builtin; refine wpList_append_own _ rfl _ _ 107 rfl w.heap.size 2 i0 (.int .i64 0) 1 8 Try.underlying107 hi0 hz0 hz1 hz2 rfl (by decide) _ _ _ rfl hownA ⟨w'.heap.size, 0, none⟩ 2 2 [.int .i64 k, .int .i64 x] rfl rfl ?c1 ?c2 ?c3 ?c4 ?c5 ?_))
        case c1 =>
          intro j u hj
          match j, hj with
          | 0, hj => simp at hj; subst hj; simp [Addr.add]
          | 1, hj => simp at hj; subst hj; simp [Addr.add]
        case c2 => intro u hu; simp at hu; rcases hu with rfl | rfl <;> rfl
        case c3 => unfold maxLen; omega
        case c4 => omega
        case c5 => simp; omega
        intro v' w1 hown' hgrow _
        have hb1 : Below w.heap.size w w1 := (hb.alloc hB _).grown hgrow (by simp; omega) (fun g hg => (hownA.lt g hg).1)
        have hown2 : w1.ownsRow w.heap.size 2 1 v' (walkTo f root (k + 1)).length (ints (walkTo f root (k + 1))) := by
          rw [HW.out]
          simpa [ints] using hown'
        clear hown' hgrow hown hb hownA e2 g1
        go_wp2
        go_roundw
        case rel => exact ⟨k + 1, by omega, by go_num, hown2, hb1⟩
        case measure => simp [intOf]; omega
    · obtain rfl : k = 16 := by omega
      obtain ⟨ao, cap, rfl, R⟩ := RowAt.of_owned hown
      go_wp2
      go_ret
      exact ⟨ao, _, cap, rfl, R, hb⟩
end

end Go.Proofs.Ytedgppggaceopaa

/- Chapter 4: what the model answers: walks, new forests. -/
namespace Go.Proofs.Ytedgppggaceopaa
open Go.RowKit

theorem FoAt.nil (w : World) (own : Bool) (lo hi : Nat) : FoAt w own lo hi none 0 0 none 0 0 (fun _ => (none, 0, 0)) ([], []) :=
  ⟨⟨rfl, RowAt.nil _ _ _ _ _, fun i hi => absurd hi (by omega), fun _ i hi => absurd hi (by omega)⟩, RowAt.nil _ _ _ _ _, fun _ h => absurd rfl h⟩
section
variable {o : Bool} {l u : Nat} (an : Option Addr) (nn cn : Nat) (ab : Option Addr) (nb cb : Nat) (K : Nat → KS) (f : Fo) (w : World) (h : FoAt w o l u an nn cn ab nb cb K f) (hn : nn ≤ 2097152) (hb : nb ≤ 2097152) (hK : ∀ i, i < nn → (K i).2.1 ≤ 2097152)
include h hn hb hK

end

end Go.Proofs.Ytedgppggaceopaa
