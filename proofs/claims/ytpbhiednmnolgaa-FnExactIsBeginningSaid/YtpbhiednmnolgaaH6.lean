/- Chapter 8: what two logs have in common, of the model and of the program. -/
import Derived.Test.YtpbhiednmnolgaaEX
import Derived.Test.YtpbhiednmnolgaaH5a
import Derived.BigQuiet
namespace Go.Proofs.Ytpbhiednmnolgaa
open Go.RowKit

def commN : List En → List En → Nat
  | x :: r, y :: s => if x = y then commN r s + 1 else 0
  | _, _ => 0
theorem commN_drop {xs ys : List En} {k : Nat} (h : k < xs.length) (h' : k < ys.length) : commN (xs.drop k) (ys.drop k) = if xs.getD k en0 = ys.getD k en0 then commN (xs.drop (k + 1)) (ys.drop (k + 1)) + 1 else 0 := by
  rw [List.drop_eq_getElem_cons h, List.drop_eq_getElem_cons h']
  simp only [commN, List.getD, List.getElem?_eq_getElem h, List.getElem?_eq_getElem h', Option.getD_some]
theorem commN_end {xs ys : List En} {k : Nat} (h : xs.length ≤ k ∨ ys.length ≤ k) : commN (xs.drop k) (ys.drop k) = 0 := by
  rcases h with h | h
  · rw [List.drop_eq_nil_of_le h]; cases ys.drop k <;> rfl
  · rw [List.drop_eq_nil_of_le h]; cases xs.drop k <;> rfl
theorem commN_le (xs : List En) : ∀ ys, commN xs ys ≤ xs.length ∧ commN xs ys ≤ ys.length := by
  induction xs with
  | nil => intro ys; simp [commN]
  | cons x r ih =>
    intro ys
    cases ys with
    | nil => simp [commN]
    | cons y s =>
      simp only [commN, List.length_cons]
      have := ih s
      split <;> omega

theorem run_min23 (x y N : Int) (h : N = min x y) (w : World) : (Builtin.min2 (.int .i64 x) (.int .i64 y)).run Try.prog w = .ok (.int .i64 N) w := by
  by_cases h1 : x ≤ y
  · have e : N = x := by omega
    rw [e]
    unfold Builtin.min2
    simp [go_sem]
    omega
  · have e : N = y := by omega
    rw [e]
    unfold Builtin.min2
    simp [go_sem]
    omega
theorem run_min3 (x y N : Int) (h : N = min x y) (ty : TypeId) (w : World) : (Builtin.min_ #[3, 3] ty #[.int .i64 x, .int .i64 y]).run Try.prog w = .ok (.int .i64 N) w := by
  simp [Builtin.min_, go_sem]
  exact run_min23 x y N h w
theorem wp_min3 {ops : Array Oper} {rest : List Oper} {o : Oper} {a : Act} {w : World} {Q : Exit → Act → World → Prop} (hgd : o.guard = none) (s x : Operand)
    (ho : o.op = .call { callee := .builtin .min, args := #[s, x], argTypes := #[3, 3] }) (u v N : Int) (hs : a.eval s = .int .i64 u) (hx : a.eval x = .int .i64 v) (hN : N = min u v)
    (h : wpList Try.prog ops Q rest (a.put o.dst (.int .i64 N)) w) : wpList Try.prog ops Q (o :: rest) a w :=
  wpList_plain hgd fun K hK => by
    have hr := run_min3 u v N hN o.type w
    unfold Oper.wp execOp
    simp only [ho, resolve, invoke, builtin, Sem.run_bind, Sem.run_pure, Result.andThen_ok, List.map_toArray, List.map_cons, List.map_nil, hs, hx, hr]
    exact hK _ _ h

set_option maxRecDepth 20000 in
set_option maxHeartbeats 4000000 in
theorem commonWith_is {o1 o2 : Bool} {l1 u1 l2 u2 : Nat} (a1 a2 : Option Addr) (n c1 m c2 : Nat) (xs ys : List En) (w : World) (h1 : RowAt w o1 l1 u1 6 a1 n c1 (sixs xs)) (h2 : RowAt w o2 l2 u2 6 a2 m c2 (sixs ys)) (hn : n ≤ 2097152) (d : Nat) (hd : commN xs ys = d) : Calls Try.prog 65 #[.slice a1 n c1, .slice a2 m c2] w fun e w' => e = .returned (.int .i64 d) ∧ Below w.heap.size w w' := by
  have hxl := h1.nSixs
  have hyl := h2.nSixs
  have HD : Hid _ := hd
  clear hd
  obtain ⟨lm, hlm⟩ : ∃ lm, min n m = lm := ⟨_, rfl⟩
  have Hlm : Hid _ := hlm
  have hl1 : lm ≤ n := by omega
  have hl2 : lm ≤ m := by omega
  have HM : Hid ((lm : Int) = min (n : Int) (m : Int)) := by show _ = _; omega
  clear hlm
  go_enter Try.func65, Try.ntmps65
  go_wp2_with (first | (refine wp_min3 rfl _ _ rfl (n : Int) (m : Int) (lm : Int) rfl rfl HM.out ?_))
  go_loopw [6, 13] (fun _ i wr => ∃ k : Nat, k ≤ lm ∧ i = .int .i64 k ∧ Hid (commN (xs.drop k) (ys.drop k) + k = d) ∧ Below w.heap.size w wr) (fun _ i _ => lm - (intOf i).toNat)
  case atStart => exact ⟨0, Nat.zero_le _, rfl, by simpa using HD, Below.refl _ _⟩
  case round =>
    obtain ⟨k, hk, rfl, HK, hb⟩ := hrel
    clear HD HM
    by_cases hkl : k < lm
    · have hlt : k < n := by omega
      have hlt2 : k < m := by omega
      have HF : Hid _ := commN_drop (xs := xs) (ys := ys) (k := k) (by omega) (by omega)
      obtain ⟨b1, o1, rfl, _, _, hs1, e0, e1, e2, e3, e4, e5, _⟩ := h1.six hlt
      obtain ⟨b2, o2, rfl, _, _, hs2, f0, f1, f2, f3, f4, f5, _⟩ := h2.six hlt2
      replace e0 := cell_later hb e0
      replace f0 := cell_later hb f0
      replace e1 := cell_later hb e1
      replace f1 := cell_later hb f1
      replace e2 := cell_later hb e2
      replace f2 := cell_later hb f2
      replace e3 := cell_later hb e3
      replace f3 := cell_later hb f3
      replace e4 := cell_later hb e4
      replace f4 := cell_later hb f4
      replace e5 := cell_later hb e5
      replace f5 := cell_later hb f5
      obtain ⟨⟨x0, x1, x2, x3, x4, x5⟩, hx⟩ : ∃ x, xs.getD k en0 = x := ⟨_, rfl⟩
      obtain ⟨⟨y0, y1, y2, y3, y4, y5⟩, hy⟩ : ∃ x, ys.getD k en0 = x := ⟨_, rfl⟩
      rw [hx] at e0 e1 e2 e3 e4 e5 HF
      rw [hy] at f0 f1 f2 f3 f4 f5 HF
      simp only at e0 e1 e2 e3 e4 e5 f0 f1 f2 f3 f4 f5
      clear hx hy
      have hl : (k : Int) < (lm : Int) := by omega
      obtain ⟨q, hq⟩ : ∃ q, decide (((x0, x1, x2, x3, x4, x5) : En) = (y0, y1, y2, y3, y4, y5)) = q := ⟨_, rfl⟩
      have HQ : Hid _ := hq
      have R := run_neEn x0 x1 x2 x3 x4 x5 y0 y1 y2 y3 y4 y5 q hq
      have RG := run_guEn
      clear hq
      have D : Below wr.heap.size wr wr.drew := (Below.refl _ _).drew
      replace e0 := cell_later D e0
      replace f0 := cell_later D f0
      replace e1 := cell_later D e1
      replace f1 := cell_later D f1
      replace e2 := cell_later D e2
      replace f2 := cell_later D f2
      replace e3 := cell_later D e3
      replace f3 := cell_later D f3
      replace e4 := cell_later D e4
      replace f4 := cell_later D f4
      replace e5 := cell_later D e5
      replace f5 := cell_later D f5
      replace hb := below_step hb hb.size D
      clear D
      go_wp2_with fail
      go_region_held3 (fun w' => w'.cell? ⟨b1, o1 + k * 6, none⟩ = some (.int .i64 x0) ∧ w'.cell? ⟨b1, o1 + k * 6 + 1, none⟩ = some (.int .i64 x1) ∧ w'.cell? ⟨b1, o1 + k * 6 + 2, none⟩ = some (.int .i64 x2) ∧ w'.cell? ⟨b1, o1 + k * 6 + 3, none⟩ = some (.int .i64 x3) ∧ w'.cell? ⟨b1, o1 + k * 6 + 4, none⟩ = some (.int .i64 x4) ∧ w'.cell? ⟨b1, o1 + k * 6 + 5, none⟩ = some (.int .i64 x5) ∧ w'.cell? ⟨b2, o2 + k * 6, none⟩ = some (.int .i64 y0) ∧ w'.cell? ⟨b2, o2 + k * 6 + 1, none⟩ = some (.int .i64 y1) ∧ w'.cell? ⟨b2, o2 + k * 6 + 2, none⟩ = some (.int .i64 y2) ∧ w'.cell? ⟨b2, o2 + k * 6 + 3, none⟩ = some (.int .i64 y3) ∧ w'.cell? ⟨b2, o2 + k * 6 + 4, none⟩ = some (.int .i64 y4) ∧ w'.cell? ⟨b2, o2 + k * 6 + 5, none⟩ = some (.int .i64 y5)) (exact ⟨e0, e1, e2, e3, e4, e5, f0, f1, f2, f3, f4, f5⟩) (fail)
      clear e0 e1 e2 e3 e4 e5 f0 f1 f2 f3 f4 f5 R RG
      cases q with
      | true =>
        have HK' : Hid (commN (xs.drop (k + 1)) (ys.drop (k + 1)) + (k + 1) = d) := by show _ = _; have h3 := HK.out; rw [HF.out, if_pos (of_decide_eq_true HQ.out)] at h3; omega
        clear HF HK HQ
        go_wp2
        go_roundw
        case rel => exact ⟨k + 1, by omega, by go_num, HK', hb⟩
        case measure => simp [intOf]; omega
      | false =>
        have hd : k = d := by have h3 := HK.out; rw [HF.out, if_neg (of_decide_eq_false HQ.out)] at h3; omega
        subst hd
        clear HF HK HQ
        go_wp2
        go_ret
        exact ⟨rfl, hb⟩
    · have hd : k = d := by have h3 := HK.out; rw [commN_end (by have := Hlm.out; omega)] at h3; omega
      obtain rfl : k = lm := by omega
      subst hd
      clear HK
      go_wp2
      go_ret
      exact ⟨rfl, hb⟩

theorem begins_is {o1 o2 : Bool} {l1 u1 l2 u2 : Nat} (a1 a2 : Option Addr) (n c1 m c2 : Nat) (xs ys : List En) (w : World) (h1 : RowAt w o1 l1 u1 6 a1 n c1 (sixs xs)) (h2 : RowAt w o2 l2 u2 6 a2 m c2 (sixs ys)) (hn : n ≤ 2097152) (d : Bool) (hd : decide (commN xs ys = n) = d) : Calls Try.prog 66 #[.slice a1 n c1, .slice a2 m c2] w fun e w' => e = .returned (.bool d) ∧ Below w.heap.size w w' := by
  obtain ⟨c, hc⟩ : ∃ c, commN xs ys = c := ⟨_, rfl⟩
  have HD : Hid (decide (c = n) = d) := by rw [hc] at hd; exact hd
  have HC : Hid _ := hc
  clear hd hc
  go_enter Try.func66, Try.ntmps66
  go_wp2_with fail
  refine (commonWith_is a1 a2 n c1 m c2 xs ys _ h1 h2 hn c HC.out).mono ?_
  rintro e w1 ⟨rfl, hb⟩
  clear HC
  go_wp2
  go_ret
  refine ⟨ret_bool ?_, hb⟩
  rw [← HD.out]
  by_cases h : c = n
  · simp [h]
  · have h' : ¬ (c : Int) = (n : Int) := by omega
    simp [h, h']
theorem implIsB_is {o1 o2 : Bool} {l1 u1 l2 u2 : Nat} (a1 a2 : Option Addr) (n c1 m c2 : Nat) (xs ys : List En) (w : World) (h1 : RowAt w o1 l1 u1 6 a1 n c1 (sixs xs)) (h2 : RowAt w o2 l2 u2 6 a2 m c2 (sixs ys)) (hn : n ≤ 2097152) (d : Bool) (hd : decide (commN xs ys = n) = d) : Calls Try.prog 25 #[.slice a1 n c1, .slice a2 m c2] w fun e w' => e = .returned (.bool d) ∧ Below w.heap.size w w' := by
  go_enter Try.func25, Try.ntmps25
  go_wp2_with fail
  refine (begins_is a1 a2 n c1 m c2 xs ys _ h1 h2 hn d hd).mono ?_
  rintro e w1 ⟨rfl, hb⟩
  go_wp2
  go_ret
  exact ⟨rfl, hb⟩

set_option maxRecDepth 20000 in
set_option maxHeartbeats 4000000 in
theorem specCommon_is {o1 o2 : Bool} {l1 u1 l2 u2 : Nat} (a1 a2 : Option Addr) (n c1 m c2 : Nat) (xs ys : List En) (w : World) (h1 : RowAt w o1 l1 u1 6 a1 n c1 (sixs xs)) (h2 : RowAt w o2 l2 u2 6 a2 m c2 (sixs ys)) (hn : n ≤ 2097152) (d : Nat) (hd : commN xs ys = d) : Calls Try.prog 24 #[.slice a1 n c1, .slice a2 m c2] w fun e w' => e = .returned (.int .i64 d) ∧ Below w.heap.size w w' := by
  have hxl := h1.nSixs
  have hyl := h2.nSixs
  have HD : Hid _ := hd
  clear hd
  go_enter Try.func24, Try.ntmps24
  go_wp2
  go_loopw [5] (fun i wr => ∃ k : Nat, k ≤ n ∧ i = .int .i64 k ∧ Hid (commN (xs.drop k) (ys.drop k) + k = d) ∧ Below w.heap.size w wr) (fun i _ => n - (intOf i).toNat)
  case atStart => exact ⟨0, Nat.zero_le _, rfl, by simpa using HD, Below.refl _ _⟩
  case round =>
    obtain ⟨k, hk, rfl, HK, hb⟩ := hrel
    clear HD
    by_cases hlt : k < n
    · have hl : (k : Int) < (n : Int) := by omega
      by_cases hlt2 : k < m
      · have hl2 : (k : Int) < (m : Int) := by omega
        have HF : Hid _ := commN_drop (xs := xs) (ys := ys) (k := k) (by omega) (by omega)
        obtain ⟨b1, o1, rfl, _, _, hs1, e0, e1, e2, e3, e4, e5, _⟩ := h1.six hlt
        obtain ⟨b2, o2, rfl, _, _, hs2, f0, f1, f2, f3, f4, f5, _⟩ := h2.six hlt2
        replace e0 := cell_later hb e0
        replace f0 := cell_later hb f0
        replace e1 := cell_later hb e1
        replace f1 := cell_later hb f1
        replace e2 := cell_later hb e2
        replace f2 := cell_later hb f2
        replace e3 := cell_later hb e3
        replace f3 := cell_later hb f3
        replace e4 := cell_later hb e4
        replace f4 := cell_later hb f4
        replace e5 := cell_later hb e5
        replace f5 := cell_later hb f5
        obtain ⟨⟨x0, x1, x2, x3, x4, x5⟩, hx⟩ : ∃ x, xs.getD k en0 = x := ⟨_, rfl⟩
        obtain ⟨⟨y0, y1, y2, y3, y4, y5⟩, hy⟩ : ∃ x, ys.getD k en0 = x := ⟨_, rfl⟩
        rw [hx] at e0 e1 e2 e3 e4 e5 HF
        rw [hy] at f0 f1 f2 f3 f4 f5 HF
        simp only at e0 e1 e2 e3 e4 e5 f0 f1 f2 f3 f4 f5
        clear hx hy
        obtain ⟨q, hq⟩ : ∃ q, decide (((x0, x1, x2, x3, x4, x5) : En) = (y0, y1, y2, y3, y4, y5)) = q := ⟨_, rfl⟩
        have HQ : Hid _ := hq
        have R := run_eqEn x0 x1 x2 x3 x4 x5 y0 y1 y2 y3 y4 y5 q hq
        have RG := run_guEn
        clear hq
        cases q with
        | true =>
          have HK' : Hid (commN (xs.drop (k + 1)) (ys.drop (k + 1)) + (k + 1) = d) := by show _ = _; have h3 := HK.out; rw [HF.out, if_pos (of_decide_eq_true HQ.out)] at h3; omega
          clear HF HK HQ
          go_wp2_with fail
          go_quiet (fail)
          go_wp2
          go_roundw
          case rel => exact ⟨k + 1, by omega, by go_num, HK', below_drewN hb _⟩
          case measure => simp [intOf]; omega
        | false =>
          have hd : k = d := by have h3 := HK.out; rw [HF.out, if_neg (of_decide_eq_false HQ.out)] at h3; omega
          subst hd
          clear HF HK HQ
          go_wp2_with fail
          go_quiet (fail)
          go_wp2
          go_ret
          exact ⟨rfl, below_drewN hb _⟩
      · have hl2 : ¬ (k : Int) < (m : Int) := by omega
        have hd : k = d := by have h3 := HK.out; rw [commN_end (by omega)] at h3; omega
        subst hd
        clear HK
        go_wp2_with fail
        go_quiet (fail)
        go_wp2
        go_ret
        exact ⟨rfl, below_drewN hb _⟩
    · have hl : ¬ (k : Int) < (n : Int) := by omega
      have hd : k = d := by have h3 := HK.out; rw [commN_end (by omega)] at h3; omega
      subst hd
      clear HK
      go_wp2_with fail
      go_quiet (fail)
      go_wp2
      go_ret
      exact ⟨rfl, below_drewN hb _⟩
theorem specIsB_is {o1 o2 : Bool} {l1 u1 l2 u2 : Nat} (a1 a2 : Option Addr) (n c1 m c2 : Nat) (xs ys : List En) (w : World) (h1 : RowAt w o1 l1 u1 6 a1 n c1 (sixs xs)) (h2 : RowAt w o2 l2 u2 6 a2 m c2 (sixs ys)) (hn : n ≤ 2097152) (d : Bool) (hd : decide (commN xs ys = n) = d) : Calls Try.prog 42 #[.slice a1 n c1, .slice a2 m c2] w fun e w' => e = .returned (.bool d) ∧ Below w.heap.size w w' := by
  have hxl := h1.nSixs
  have hyl := h2.nSixs
  have hle := commN_le xs ys
  obtain ⟨c, hc⟩ : ∃ c, commN xs ys = c := ⟨_, rfl⟩
  rw [hc] at hd hle
  have HD : Hid (decide (c = n) = d) := hd
  have HC : Hid _ := hc
  clear hd hc
  go_enter Try.func42, Try.ntmps42
  by_cases hnm : n ≤ m
  · have hl : (n : Int) ≤ (m : Int) := by omega
    go_wp2_with fail
    refine (specCommon_is a1 a2 n c1 m c2 xs ys _ h1 h2 hn c HC.out).mono ?_
    rintro e w1 ⟨rfl, hb⟩
    clear HC hle
    go_wp2
    go_ret
    refine ⟨ret_bool ?_, hb⟩
    rw [← HD.out]
    by_cases h : c = n
    · simp [h]
    · have h' : ¬ (c : Int) = (n : Int) := by omega
      simp [h, h']
  · have hl : ¬ (n : Int) ≤ (m : Int) := by omega
    have hd : d = false := by rw [← HD.out]; exact decide_eq_false (by omega)
    subst hd
    go_wp2
    go_ret
    exact ⟨rfl, Below.refl _ _⟩

end Go.Proofs.Ytpbhiednmnolgaa
