/- Chapter 13 in plain words: what is sealed, logs of one view, who comes first, what is even. No program is named here. -/
import Derived.Test.YtannjgdginfgeaaCF0
import Derived.Test.YtannjgdginfgeaaXH
import Derived.Test.YtannjgdginfgeaaWN
import Derived.Test.YtannjgdginfgeaaXC
import Derived.Test.YtannjgdginfgeaaYP
import Derived.Test.YtannjgdginfgeaaZV
import Derived.Laws.StructEq
import Derived.BigQuiet
import Derived.Test.YtannjgdginfgeaaZF
namespace Go.Proofs.Ytannjgdginfgeaa
open Go.RowKit

def auSeal (es : List En) (r : Rep) : Bool := decide (commN (r.log.take r.commit.toNat) es = r.commit.toNat)
theorem auAll_no {p : Rep → Bool} {rs : List Rep} {k : Nat} (hk : k < rs.length) (h : p (rs.getD k rep0) = false) : rs.all p = false := by
  rw [List.all_eq_false]
  refine ⟨rs.getD k rep0, ?_, by rw [h]; decide⟩
  rw [List.getD, List.getElem?_eq_getElem hk]
  exact List.getElem_mem hk
theorem auAll_yes {p : Rep → Bool} {rs : List Rep} (h : ∀ k, k < rs.length → p (rs.getD k rep0) = true) : rs.all p = true := by
  rw [List.all_eq_true]
  intro r hr
  obtain ⟨k, hk, e⟩ := List.getElem_of_mem hr
  have := h k hk
  rw [List.getD, List.getElem?_eq_getElem hk, Option.getD_some, e] at this
  exact this
theorem auTake (xs : List En) : ∀ (ys : List En) (k : Nat), commN (xs.take k) ys = min k (commN xs ys) := by
  induction xs with
  | nil => intro ys k; simp [commN]
  | cons x xs ih =>
    intro ys k
    cases k with
    | zero => simp [commN]
    | succ k =>
      cases ys with
      | nil => simp [commN]
      | cons y ys =>
        simp only [List.take_succ_cons, commN]
        by_cases e : x = y
        · rw [if_pos e, if_pos e, ih]; omega
        · rw [if_neg e, if_neg e]; omega
/-- as the model asks it -/
theorem auSeal_eq {es : List En} {r : Rep} (h0 : 0 ≤ r.commit) {d : Bool} (hd : auSeal es r = d) : d = true ↔ r.commit ≤ (commN r.log es : Nat) := by
  rw [← hd]
  unfold auSeal
  rw [decide_eq_true_iff, auTake]
  omega
theorem auSeal_le {es : List En} {r : Rep} (h0 : (es.length : Int) < r.commit) : auSeal es r = false := by
  unfold auSeal
  rw [decide_eq_false_iff_not, auTake]
  have := (commN_le r.log es).2
  omega
end Go.Proofs.Ytannjgdginfgeaa

/- Chapter 13: two logs compared, by the program; a log's first entries. -/
namespace Go.Proofs.Ytannjgdginfgeaa
open Go.RowKit

end Go.Proofs.Ytannjgdginfgeaa

/- Chapter 13: what all nodes are asked, by the program. -/
namespace Go.Proofs.Ytannjgdginfgeaa
open Go.RowKit

set_option maxRecDepth 20000 in
set_option maxHeartbeats 2000000 in
theorem auEach1 (FN : Nat) (hcf : ∀ (vs : Array Value) (W : World), (callFunc FN vs).run Try.prog W = .ok (.enter FN vs) W) (p1 : Nat) {own : Bool} {lo hi : Nat} (N : Hd) (xs : List Nod) (w : World) (x : NAt w own lo hi N xs) (hn : N.2.1 ≤ 1048576) (p : Rep → Bool)
    (hact : ∀ (W : World) (k : Nat) (r : Rep) (h : RH), Below w.heap.size w W → xs[k]? = some (r, h) → RepAt W own lo hi h r → Calls Try.prog FN #[.agg #[.int .i64 r.id, .int .i64 r.size, .int .i64 r.view, .bool r.normal, .int .i64 r.last, .slice h.L.1 h.L.2.1 h.L.2.2, .int .i64 r.commit, .slice h.O.1 h.O.2.1 h.O.2.2, .slice h.A.1 h.A.2.1 h.A.2.2, .slice h.D.1 h.D.2.1 h.D.2.2], .pointer (some ⟨p1, 0, none⟩)] W fun e w' => e = .returned (.bool (p r)) ∧ Below W.heap.size W w') (d : Bool) (hd : (xs.map (·.1)).all p = d) :
    Calls Try.prog 67 #[.slice N.1 N.2.1 N.2.2, .func (.func FN) #[] #[.pointer (some ⟨p1, 0, none⟩)]] w fun e w' => e = .returned (.bool d) ∧ Below w.heap.size w w' := by
  obtain ⟨ao, n, cap⟩ := N
  simp only at hn ⊢
  have hl : (xs.map (·.1)).length = n := by simpa using x.len
  obtain ⟨rs, hrs⟩ : ∃ rs, xs.map (·.1) = rs := ⟨_, rfl⟩
  have HR : Hid (∀ (i : Nat) (a : Nod), xs[i]? = some a → rs.getD i rep0 = a.1) := fun i a e => by rw [← hrs]; exact mapD e
  rw [hrs] at hd hl
  have HL : Hid _ := hl
  have HD : Hid _ := hd
  have HA : Hid _ := hact
  have Hx : Hid (NAt w own lo hi _ xs) := x
  clear hd hrs hl x hact
  go_enter Try.func67, Try.ntmps67
  go_wp2
  go_loopw [9] (fun i wr => ∃ k : Nat, k ≤ n ∧ i = .int .i64 k ∧ Hid (∀ j, j < k → p (rs.getD j rep0) = true) ∧ Below w.heap.size w wr) (fun i _ => n - (intOf i).toNat)
  case atStart => exact ⟨0, Nat.zero_le _, rfl, fun j hj => absurd hj (Nat.not_lt_zero _), Below.refl _ _⟩
  case round =>
    obtain ⟨k, hk, rfl, H0, hb⟩ := hrel
    by_cases hlt : k < n
    · have hlk : (k : Int) < (n : Int) := by omega
      obtain ⟨r, h, b, off, ex, rfl, _, _, XN, y, _⟩ := LAt.node (NAt.below Hx.out hb) hlt
      have cN := XN.cell
      have HE : Hid (rs.getD k rep0 = r) := HR.out k _ ex
      have HX : Hid _ := ex
      clear ex
      obtain ⟨q, hq⟩ : ∃ q, p r = q := ⟨_, rfl⟩
      have HQ : Hid _ := hq
      clear hq
      go_wp2_with (first | ((with_reducible refine store_midX 64 X0 0 [.int .i64 r.id, .int .i64 r.size, .int .i64 r.view, .bool r.normal, .int .i64 r.last, .slice h.L.1 h.L.2.1 h.L.2.2, .int .i64 r.commit, .slice h.O.1 h.O.2.1 h.O.2.2, .slice h.A.1 h.A.2.1 h.A.2.2, .slice h.D.1 h.D.2.1 h.D.2.2] (by simp) (by kernel_rfl) (by simp [Value.oneCell']) rfl rfl ?_); intro V1 S; replace X0 : Bx V1 b0 [.int .i64 r.id, .int .i64 r.size, .int .i64 r.view, .bool r.normal, .int .i64 r.last, .slice h.L.1 h.L.2.1 h.L.2.2, .int .i64 r.commit, .slice h.O.1 h.O.2.1 h.O.2.2, .slice h.A.1 h.A.2.1 h.A.2.2, .slice h.D.1 h.D.2.1 h.D.2.2] := S.bx; replace c0 := X0.cell; replace f0 := X0.froz; replace B := B.trans (S.kept.below _ (by omega) B.size); clear S) | ((with_reducible refine alloc_newX 64 [.int .i64 0, .int .i64 0, .int .i64 0, .bool false, .int .i64 0, .slice none 0 0, .int .i64 0, .slice none 0 0, .slice none 0 0, .slice none 0 0] (fun _ => by kernel_rfl) ?_); intro b0 W0 N0; have ob0 : wr.heap.size ≤ b0 := N0.ge; have B := N0.below; have X0 := N0.bx; have c0 := X0.cell; have f0 := X0.froz; clear N0) | fail)
      clear XN cN
      refine (HA.out _ k r h (below_next hb B) HX.out (y.below B)).mono ?_
      rintro e w1 ⟨rfl, BB⟩
      rw [HQ.out]
      replace X0 := X0.below BB
      replace c0 := X0.cell
      replace f0 := X0.froz
      replace B := below_next B BB
      clear BB
      cases q with
      | false =>
        have e : d = false := by rw [← HD.out]; exact auAll_no (by rw [HL.out]; exact hlt) (by rw [HE.out]; exact HQ.out)
        subst e
        have hbb := below_next hb B
        clear hb HD
        go_wp2
        go_ret
        exact ⟨rfl, hbb⟩
      | true =>
        have HN : Hid (∀ j, j < k + 1 → p (rs.getD j rep0) = true) := fun j hj => by
          by_cases e : j = k
          · rw [e, HE.out]; exact HQ.out
          · exact H0.out j (by omega)
        have HB : Hid _ := below_next hb B
        clear hb
        go_wp2
        go_roundw
        case rel => exact ⟨k + 1, by omega, by go_num, HN, HB.out⟩
        case measure => simp [intOf]; omega
    · obtain rfl : k = n := by omega
      have e : d = true := by rw [← HD.out]; exact auAll_yes (by rw [HL.out]; exact H0.out)
      subst e
      clear HD
      go_wp2
      go_ret
      exact ⟨rfl, hb⟩
end Go.Proofs.Ytannjgdginfgeaa

/- Chapter 13: what is asked of each node, by the program. -/
namespace Go.Proofs.Ytannjgdginfgeaa
open Go.RowKit

set_option maxRecDepth 20000 in
set_option maxHeartbeats 2000000 in
theorem auSealed1_is {own o2 : Bool} {lo hi l2 u2 : Nat} (r : Rep) (h : RH) (N M Sl : Hd) (es : List En) (b0 : Nat) (w : World) (x : RepAt w own lo hi h r) (hc : 0 ≤ r.commit ∧ r.commit ≤ r.log.length) (hz : h.L.2.1 ≤ 2097152) (X0 : Bx w b0 [.slice N.1 N.2.1 N.2.2, .slice M.1 M.2.1 M.2.2, .slice Sl.1 Sl.2.1 Sl.2.2]) (s : RowAt w o2 l2 u2 6 Sl.1 Sl.2.1 Sl.2.2 (sixs es)) :
    Calls Try.prog 68 #[.agg #[.int .i64 r.id, .int .i64 r.size, .int .i64 r.view, .bool r.normal, .int .i64 r.last, .slice h.L.1 h.L.2.1 h.L.2.2, .int .i64 r.commit, .slice h.O.1 h.O.2.1 h.O.2.2, .slice h.A.1 h.A.2.1 h.A.2.2, .slice h.D.1 h.D.2.1 h.D.2.2], .pointer (some ⟨b0, 0, none⟩)] w fun e w' => e = .returned (.bool (auSeal es r)) ∧ Below w.heap.size w w' := by
  obtain ⟨cm, hcm⟩ : ∃ cm : Nat, r.commit = (cm : Int) := ⟨r.commit.toNat, by omega⟩
  have xl := x.log
  have hl := xl.nSixs
  have hle := xl.le
  have hcl : (cm : Int) ≤ (h.L.2.2 : Int) := by omega
  have hc0 : (0 : Int) ≤ (cm : Int) := by omega
  have hcn : cm ≤ h.L.2.1 := by omega
  have HD : Hid (decide (commN (r.log.take cm) es = cm) = auSeal es r) := by show _ = _; unfold auSeal; rw [hcm, Int.toNat_natCast]
  obtain ⟨dd, hdd⟩ : ∃ dd, auSeal es r = dd := ⟨_, rfl⟩
  rw [hdd] at HD ⊢
  clear hc hdd x hl
  obtain ⟨⟨ao, ln, lc⟩, hO, hA, hDs, hK⟩ := h
  simp only at xl hle hcl hcn hz ⊢
  by_cases h0 : ln = 0
  · have hr0 : r.commit = 0 := by omega
    rw [hr0]
    have HD0 : Hid (decide (commN (r.log.take 0) es = 0) = dd) := by show _ = _; have := HD.out; rw [show cm = 0 by omega] at this; exact this
    replace HD := HD0
    clear HD0 hr0 hcm hcl hc0 hcn
    have hcl : (0 : Int) ≤ (lc : Int) := by omega
    have HT : Hid (RowAt w false 0 0 6 ao 0 lc (sixs (r.log.take 0))) := by show RowAt _ _ _ _ _ _ _ _ _; rw [List.take_zero]; exact RowAt.nilR _ _ _ _ _ _ _
    rcases ao with _ | ⟨ab, af, ap⟩
    · skip
      have c0 := X0.cell
      have ob0 := X0.lt
      clear xl
      go_enter Try.func68, Try.ntmps68
      go_wp2_with (first | ((have g := ob0); clear g; (with_reducible refine box_newX 64 [.int .i64 r.id, .int .i64 r.size, .int .i64 r.view, .bool r.normal, .int .i64 r.last, .slice none ln lc, .int .i64 0, .slice hO.1 hO.2.1 hO.2.2, .slice hA.1 hA.2.1 hA.2.2, .slice hDs.1 hDs.2.1 hDs.2.2] rfl ?_); intro b1 W1 N1; have ob1 : w.heap.size ≤ b1 := N1.ge; have o0_b1 : b0 < b1 := Nat.lt_of_lt_of_le X0.lt N1.ge; replace X0 := X0.below N1.below; replace c0 := X0.cell; have B := N1.below; have X1 := N1.bx; have c1 := X1.cell; clear N1) | fail)
      have DQ : Below W1.heap.size W1 W1.drew := (Below.refl _ _).drew
      replace X0 := X0.below DQ
      replace c0 := X0.cell
      replace X1 := X1.below DQ
      replace c1 := X1.cell
      replace B := below_next B DQ
      clear DQ
      refine wp_region_held_drew (S := (fun w' => (∀ k : Nat, w'.cell? ⟨b0, k, none⟩ = [.slice N.1 N.2.1 N.2.2, .slice M.1 M.2.1 M.2.2, .slice Sl.1 Sl.2.1 Sl.2.2][k]?) ∧ (∀ k : Nat, w'.cell? ⟨b1, k, none⟩ = [.int .i64 r.id, .int .i64 r.size, .int .i64 r.view, .bool r.normal, .int .i64 r.last, .slice none ln lc, .int .i64 0, .slice hO.1 hO.2.1 hO.2.2, .slice hA.1 hA.2.1 hA.2.2, .slice hDs.1 hDs.2.1 hDs.2.2][k]?))) (by kernel_rfl) ⟨c0, c1⟩ (fun hHeld => ?_)
      refine wpAnyH_take (i := 0) (v := ?_) rfl (by kernel_rfl) (by kernel_rfl) (by kernel_rfl) (fun _ _ _ h => h) (Or.inl ⟨by rfl, ?_⟩) hHeld ?_
      rotate_left 1
      · intro w hSw
        try dsimp only at hSw
        first | (go_simp; done) | (go_simp; with_reducible rfl)
      simp only [Act.put, List.setIfInBounds_toArray, List.set_cons_zero, List.set_cons_succ, List.getElem_toArray, List.getElem_cons_zero]
      refine wpAnyH_take (i := 1) (v := ?_) rfl (by kernel_rfl) (by kernel_rfl) (by kernel_rfl) (fun _ _ _ h => h) (Or.inl ⟨by rfl, ?_⟩) hHeld ?_
      rotate_left 1
      · intro w hSw
        try dsimp only at hSw
        first | (go_simp; done) | (go_simp; with_reducible rfl)
      simp only [Act.put, List.setIfInBounds_toArray, List.set_cons_zero, List.set_cons_succ, List.getElem_toArray, List.getElem_cons_zero, List.getElem_cons_succ]
      refine wpAnyH_take (i := 2) (v := ?_) rfl (by kernel_rfl) (by kernel_rfl) (by kernel_rfl) (fun _ _ _ h => h) (Or.inl ⟨by rfl, ?_⟩) hHeld ?_
      rotate_left 1
      · intro w hSw
        try dsimp only at hSw
        first | (go_simp; done) | (go_simp; with_reducible rfl)
      simp only [Act.put, List.setIfInBounds_toArray, List.set_cons_zero, List.set_cons_succ, List.getElem_toArray, List.getElem_cons_zero, List.getElem_cons_succ]
      refine wpAnyH_take (i := 3) (v := ?_) rfl (by kernel_rfl) (by kernel_rfl) (by kernel_rfl) (fun _ _ _ h => h) (Or.inl ⟨by rfl, ?_⟩) hHeld ?_
      rotate_left 1
      · intro w hSw
        try dsimp only at hSw
        first | (go_simp; done) | (go_simp; with_reducible rfl)
      simp only [Act.put, List.setIfInBounds_toArray, List.set_cons_zero, List.set_cons_succ, List.getElem_toArray, List.getElem_cons_zero, List.getElem_cons_succ]
      refine wpAnyH_take (i := 4) (v := ?_) rfl (by kernel_rfl) (by kernel_rfl) (by kernel_rfl) (fun _ _ _ h => h) (Or.inl ⟨by rfl, ?_⟩) hHeld ?_
      rotate_left 1
      · intro w hSw
        try dsimp only at hSw
        first | (go_simp; done) | (go_simp; with_reducible rfl)
      simp only [Act.put, List.setIfInBounds_toArray, List.set_cons_zero, List.set_cons_succ, List.getElem_toArray, List.getElem_cons_zero, List.getElem_cons_succ]
      refine wpAnyH_take (i := 5) (v := ?_) rfl (by kernel_rfl) (by kernel_rfl) (by kernel_rfl) (fun _ _ _ h => h) (Or.inl ⟨by rfl, ?_⟩) hHeld ?_
      rotate_left 1
      · intro w hSw
        try dsimp only at hSw
        first | (go_simp; done) | (go_simp; with_reducible rfl)
      simp only [Act.put, List.setIfInBounds_toArray, List.set_cons_zero, List.set_cons_succ, List.getElem_toArray, List.getElem_cons_zero, List.getElem_cons_succ]
      refine wpAnyH_take (i := 6) (v := ?_) rfl (by kernel_rfl) (by kernel_rfl) (by kernel_rfl) (fun _ _ _ h => h) (Or.inl ⟨by rfl, ?_⟩) hHeld ?_
      rotate_left 1
      · intro w hSw
        try dsimp only at hSw
        first | (go_simp; done) | (go_simp; with_reducible rfl)
      simp only [Act.put, List.setIfInBounds_toArray, List.set_cons_zero, List.set_cons_succ, List.getElem_toArray, List.getElem_cons_zero, List.getElem_cons_succ]
      refine wpAnyH_ready (rs := [7]) (by kernel_rfl) (by simp) ?_
      refine AllReadyH.cons rfl (fun KK hKK => ?_) AllReadyH.nil
      go_simp
      go_at_call 69
      refine (implIsB_is _ _ 0 lc Sl.2.1 Sl.2.2 (r.log.take 0) es _ (HT.out.below B) (s.below B) (by omega) dd HD.out).mono ?_
      rintro e w1 ⟨rfl, BB⟩
      replace X0 := X0.below BB
      replace c0 := X0.cell
      replace X1 := X1.below BB
      replace c1 := X1.cell
      replace B := below_next B BB
      clear BB
      clear hHeld
      refine hKK _ _ ⟨c0, c1⟩ (fun hHeld => ?_)
      clear hKK KK
      refine wpAnyH_take (i := 8) (v := ?_) rfl (by kernel_rfl) (by kernel_rfl) (by kernel_rfl) (fun _ _ _ h => h) (Or.inl ⟨by rfl, ?_⟩) hHeld ?_
      rotate_left 1
      · intro w hSw
        try dsimp only at hSw
        first | (go_simp; done) | (go_simp; with_reducible rfl)
      simp only [Act.put, List.setIfInBounds_toArray, List.set_cons_zero, List.set_cons_succ, List.getElem_toArray, List.getElem_cons_zero, List.getElem_cons_succ]
      refine wpAnyH_done (by kernel_rfl) ?_ _
      go_wp2
      go_ret
      exact ⟨rfl, B⟩
    · skip
      have c0 := X0.cell
      have ob0 := X0.lt
      clear xl
      go_enter Try.func68, Try.ntmps68
      go_wp2_with (first | ((have g := ob0); clear g; (with_reducible refine box_newX 64 [.int .i64 r.id, .int .i64 r.size, .int .i64 r.view, .bool r.normal, .int .i64 r.last, .slice (some ⟨ab, af, ap⟩) ln lc, .int .i64 0, .slice hO.1 hO.2.1 hO.2.2, .slice hA.1 hA.2.1 hA.2.2, .slice hDs.1 hDs.2.1 hDs.2.2] rfl ?_); intro b1 W1 N1; have ob1 : w.heap.size ≤ b1 := N1.ge; have o0_b1 : b0 < b1 := Nat.lt_of_lt_of_le X0.lt N1.ge; replace X0 := X0.below N1.below; replace c0 := X0.cell; have B := N1.below; have X1 := N1.bx; have c1 := X1.cell; clear N1) | fail)
      have DQ : Below W1.heap.size W1 W1.drew := (Below.refl _ _).drew
      replace X0 := X0.below DQ
      replace c0 := X0.cell
      replace X1 := X1.below DQ
      replace c1 := X1.cell
      replace B := below_next B DQ
      clear DQ
      refine wp_region_held_drew (S := (fun w' => (∀ k : Nat, w'.cell? ⟨b0, k, none⟩ = [.slice N.1 N.2.1 N.2.2, .slice M.1 M.2.1 M.2.2, .slice Sl.1 Sl.2.1 Sl.2.2][k]?) ∧ (∀ k : Nat, w'.cell? ⟨b1, k, none⟩ = [.int .i64 r.id, .int .i64 r.size, .int .i64 r.view, .bool r.normal, .int .i64 r.last, .slice (some ⟨ab, af, ap⟩) ln lc, .int .i64 0, .slice hO.1 hO.2.1 hO.2.2, .slice hA.1 hA.2.1 hA.2.2, .slice hDs.1 hDs.2.1 hDs.2.2][k]?))) (by kernel_rfl) ⟨c0, c1⟩ (fun hHeld => ?_)
      refine wpAnyH_take (i := 0) (v := ?_) rfl (by kernel_rfl) (by kernel_rfl) (by kernel_rfl) (fun _ _ _ h => h) (Or.inl ⟨by rfl, ?_⟩) hHeld ?_
      rotate_left 1
      · intro w hSw
        try dsimp only at hSw
        first | (go_simp; done) | (go_simp; with_reducible rfl)
      simp only [Act.put, List.setIfInBounds_toArray, List.set_cons_zero, List.set_cons_succ, List.getElem_toArray, List.getElem_cons_zero]
      refine wpAnyH_take (i := 1) (v := ?_) rfl (by kernel_rfl) (by kernel_rfl) (by kernel_rfl) (fun _ _ _ h => h) (Or.inl ⟨by rfl, ?_⟩) hHeld ?_
      rotate_left 1
      · intro w hSw
        try dsimp only at hSw
        first | (go_simp; done) | (go_simp; with_reducible rfl)
      simp only [Act.put, List.setIfInBounds_toArray, List.set_cons_zero, List.set_cons_succ, List.getElem_toArray, List.getElem_cons_zero, List.getElem_cons_succ]
      refine wpAnyH_take (i := 2) (v := ?_) rfl (by kernel_rfl) (by kernel_rfl) (by kernel_rfl) (fun _ _ _ h => h) (Or.inl ⟨by rfl, ?_⟩) hHeld ?_
      rotate_left 1
      · intro w hSw
        try dsimp only at hSw
        first | (go_simp; done) | (go_simp; with_reducible rfl)
      simp only [Act.put, List.setIfInBounds_toArray, List.set_cons_zero, List.set_cons_succ, List.getElem_toArray, List.getElem_cons_zero, List.getElem_cons_succ]
      refine wpAnyH_take (i := 3) (v := ?_) rfl (by kernel_rfl) (by kernel_rfl) (by kernel_rfl) (fun _ _ _ h => h) (Or.inl ⟨by rfl, ?_⟩) hHeld ?_
      rotate_left 1
      · intro w hSw
        try dsimp only at hSw
        first | (go_simp; done) | (go_simp; with_reducible rfl)
      simp only [Act.put, List.setIfInBounds_toArray, List.set_cons_zero, List.set_cons_succ, List.getElem_toArray, List.getElem_cons_zero, List.getElem_cons_succ]
      refine wpAnyH_take (i := 4) (v := ?_) rfl (by kernel_rfl) (by kernel_rfl) (by kernel_rfl) (fun _ _ _ h => h) (Or.inl ⟨by rfl, ?_⟩) hHeld ?_
      rotate_left 1
      · intro w hSw
        try dsimp only at hSw
        first | (go_simp; done) | (go_simp; with_reducible rfl)
      simp only [Act.put, List.setIfInBounds_toArray, List.set_cons_zero, List.set_cons_succ, List.getElem_toArray, List.getElem_cons_zero, List.getElem_cons_succ]
      refine wpAnyH_take (i := 5) (v := ?_) rfl (by kernel_rfl) (by kernel_rfl) (by kernel_rfl) (fun _ _ _ h => h) (Or.inl ⟨by rfl, ?_⟩) hHeld ?_
      rotate_left 1
      · intro w hSw
        try dsimp only at hSw
        first | (go_simp; done) | (go_simp; with_reducible rfl)
      simp only [Act.put, List.setIfInBounds_toArray, List.set_cons_zero, List.set_cons_succ, List.getElem_toArray, List.getElem_cons_zero, List.getElem_cons_succ]
      refine wpAnyH_take (i := 6) (v := ?_) rfl (by kernel_rfl) (by kernel_rfl) (by kernel_rfl) (fun _ _ _ h => h) (Or.inl ⟨by rfl, ?_⟩) hHeld ?_
      rotate_left 1
      · intro w hSw
        try dsimp only at hSw
        first | (go_simp; done) | (go_simp; with_reducible rfl)
      simp only [Act.put, List.setIfInBounds_toArray, List.set_cons_zero, List.set_cons_succ, List.getElem_toArray, List.getElem_cons_zero, List.getElem_cons_succ]
      refine wpAnyH_ready (rs := [7]) (by kernel_rfl) (by simp) ?_
      refine AllReadyH.cons rfl (fun KK hKK => ?_) AllReadyH.nil
      go_simp
      go_at_call 69
      refine (implIsB_is _ _ 0 lc Sl.2.1 Sl.2.2 (r.log.take 0) es _ (HT.out.below B) (s.below B) (by omega) dd HD.out).mono ?_
      rintro e w1 ⟨rfl, BB⟩
      replace X0 := X0.below BB
      replace c0 := X0.cell
      replace X1 := X1.below BB
      replace c1 := X1.cell
      replace B := below_next B BB
      clear BB
      clear hHeld
      refine hKK _ _ ⟨c0, c1⟩ (fun hHeld => ?_)
      clear hKK KK
      refine wpAnyH_take (i := 8) (v := ?_) rfl (by kernel_rfl) (by kernel_rfl) (by kernel_rfl) (fun _ _ _ h => h) (Or.inl ⟨by rfl, ?_⟩) hHeld ?_
      rotate_left 1
      · intro w hSw
        try dsimp only at hSw
        first | (go_simp; done) | (go_simp; with_reducible rfl)
      simp only [Act.put, List.setIfInBounds_toArray, List.set_cons_zero, List.set_cons_succ, List.getElem_toArray, List.getElem_cons_zero, List.getElem_cons_succ]
      refine wpAnyH_done (by kernel_rfl) ?_ _
      go_wp2
      go_ret
      exact ⟨rfl, B⟩
  · rw [hcm]
    clear hcm
    obtain ⟨b, off, rfl, _⟩ := xl.cells h0
    have HT : Hid (RowAt w own lo hi 6 (some ⟨b, off, none⟩) cm lc (sixs (r.log.take cm))) := xl.front6 hcn
    have c0 := X0.cell
    have ob0 := X0.lt
    clear xl
    go_enter Try.func68, Try.ntmps68
    go_wp2_with (first | ((have g := ob0); clear g; (with_reducible refine box_newX 64 [.int .i64 r.id, .int .i64 r.size, .int .i64 r.view, .bool r.normal, .int .i64 r.last, .slice (some ⟨b, off, none⟩) ln lc, .int .i64 (cm : Int), .slice hO.1 hO.2.1 hO.2.2, .slice hA.1 hA.2.1 hA.2.2, .slice hDs.1 hDs.2.1 hDs.2.2] rfl ?_); intro b1 W1 N1; have ob1 : w.heap.size ≤ b1 := N1.ge; have o0_b1 : b0 < b1 := Nat.lt_of_lt_of_le X0.lt N1.ge; replace X0 := X0.below N1.below; replace c0 := X0.cell; have B := N1.below; have X1 := N1.bx; have c1 := X1.cell; clear N1) | fail)
    have DQ : Below W1.heap.size W1 W1.drew := (Below.refl _ _).drew
    replace X0 := X0.below DQ
    replace c0 := X0.cell
    replace X1 := X1.below DQ
    replace c1 := X1.cell
    replace B := below_next B DQ
    clear DQ
    refine wp_region_held_drew (S := (fun w' => (∀ k : Nat, w'.cell? ⟨b0, k, none⟩ = [.slice N.1 N.2.1 N.2.2, .slice M.1 M.2.1 M.2.2, .slice Sl.1 Sl.2.1 Sl.2.2][k]?) ∧ (∀ k : Nat, w'.cell? ⟨b1, k, none⟩ = [.int .i64 r.id, .int .i64 r.size, .int .i64 r.view, .bool r.normal, .int .i64 r.last, .slice (some ⟨b, off, none⟩) ln lc, .int .i64 (cm : Int), .slice hO.1 hO.2.1 hO.2.2, .slice hA.1 hA.2.1 hA.2.2, .slice hDs.1 hDs.2.1 hDs.2.2][k]?))) (by kernel_rfl) ⟨c0, c1⟩ (fun hHeld => ?_)
    refine wpAnyH_take (i := 0) (v := ?_) rfl (by kernel_rfl) (by kernel_rfl) (by kernel_rfl) (fun _ _ _ h => h) (Or.inl ⟨by rfl, ?_⟩) hHeld ?_
    rotate_left 1
    · intro w hSw
      try dsimp only at hSw
      first | (go_simp; done) | (go_simp; with_reducible rfl)
    simp only [Act.put, List.setIfInBounds_toArray, List.set_cons_zero, List.set_cons_succ, List.getElem_toArray, List.getElem_cons_zero]
    refine wpAnyH_take (i := 1) (v := ?_) rfl (by kernel_rfl) (by kernel_rfl) (by kernel_rfl) (fun _ _ _ h => h) (Or.inl ⟨by rfl, ?_⟩) hHeld ?_
    rotate_left 1
    · intro w hSw
      try dsimp only at hSw
      first | (go_simp; done) | (go_simp; with_reducible rfl)
    simp only [Act.put, List.setIfInBounds_toArray, List.set_cons_zero, List.set_cons_succ, List.getElem_toArray, List.getElem_cons_zero, List.getElem_cons_succ]
    refine wpAnyH_take (i := 2) (v := ?_) rfl (by kernel_rfl) (by kernel_rfl) (by kernel_rfl) (fun _ _ _ h => h) (Or.inl ⟨by rfl, ?_⟩) hHeld ?_
    rotate_left 1
    · intro w hSw
      try dsimp only at hSw
      first | (go_simp; done) | (go_simp; with_reducible rfl)
    simp only [Act.put, List.setIfInBounds_toArray, List.set_cons_zero, List.set_cons_succ, List.getElem_toArray, List.getElem_cons_zero, List.getElem_cons_succ]
    refine wpAnyH_take (i := 3) (v := ?_) rfl (by kernel_rfl) (by kernel_rfl) (by kernel_rfl) (fun _ _ _ h => h) (Or.inl ⟨by rfl, ?_⟩) hHeld ?_
    rotate_left 1
    · intro w hSw
      try dsimp only at hSw
      first | (go_simp; done) | (go_simp; with_reducible rfl)
    simp only [Act.put, List.setIfInBounds_toArray, List.set_cons_zero, List.set_cons_succ, List.getElem_toArray, List.getElem_cons_zero, List.getElem_cons_succ]
    refine wpAnyH_take (i := 4) (v := ?_) rfl (by kernel_rfl) (by kernel_rfl) (by kernel_rfl) (fun _ _ _ h => h) (Or.inl ⟨by rfl, ?_⟩) hHeld ?_
    rotate_left 1
    · intro w hSw
      try dsimp only at hSw
      first | (go_simp; done) | (go_simp; with_reducible rfl)
    simp only [Act.put, List.setIfInBounds_toArray, List.set_cons_zero, List.set_cons_succ, List.getElem_toArray, List.getElem_cons_zero, List.getElem_cons_succ]
    refine wpAnyH_take (i := 5) (v := ?_) rfl (by kernel_rfl) (by kernel_rfl) (by kernel_rfl) (fun _ _ _ h => h) (Or.inl ⟨by rfl, ?_⟩) hHeld ?_
    rotate_left 1
    · intro w hSw
      try dsimp only at hSw
      first | (go_simp; done) | (go_simp; with_reducible rfl)
    simp only [Act.put, List.setIfInBounds_toArray, List.set_cons_zero, List.set_cons_succ, List.getElem_toArray, List.getElem_cons_zero, List.getElem_cons_succ]
    refine wpAnyH_take (i := 6) (v := ?_) rfl (by kernel_rfl) (by kernel_rfl) (by kernel_rfl) (fun _ _ _ h => h) (Or.inl ⟨by rfl, ?_⟩) hHeld ?_
    rotate_left 1
    · intro w hSw
      try dsimp only at hSw
      first | (go_simp; done) | (go_simp; with_reducible rfl)
    simp only [Act.put, List.setIfInBounds_toArray, List.set_cons_zero, List.set_cons_succ, List.getElem_toArray, List.getElem_cons_zero, List.getElem_cons_succ]
    refine wpAnyH_ready (rs := [7]) (by kernel_rfl) (by simp) ?_
    refine AllReadyH.cons rfl (fun KK hKK => ?_) AllReadyH.nil
    go_simp
    go_at_call 69
    refine (implIsB_is _ _ cm lc Sl.2.1 Sl.2.2 (r.log.take cm) es _ (HT.out.below B) (s.below B) (by omega) dd HD.out).mono ?_
    rintro e w1 ⟨rfl, BB⟩
    replace X0 := X0.below BB
    replace c0 := X0.cell
    replace X1 := X1.below BB
    replace c1 := X1.cell
    replace B := below_next B BB
    clear BB
    clear hHeld
    refine hKK _ _ ⟨c0, c1⟩ (fun hHeld => ?_)
    clear hKK KK
    refine wpAnyH_take (i := 8) (v := ?_) rfl (by kernel_rfl) (by kernel_rfl) (by kernel_rfl) (fun _ _ _ h => h) (Or.inl ⟨by rfl, ?_⟩) hHeld ?_
    rotate_left 1
    · intro w hSw
      try dsimp only at hSw
      first | (go_simp; done) | (go_simp; with_reducible rfl)
    simp only [Act.put, List.setIfInBounds_toArray, List.set_cons_zero, List.set_cons_succ, List.getElem_toArray, List.getElem_cons_zero, List.getElem_cons_succ]
    refine wpAnyH_done (by kernel_rfl) ?_ _
    go_wp2
    go_ret
    exact ⟨rfl, B⟩

end Go.Proofs.Ytannjgdginfgeaa

/- Chapter 13: SealedRight of the program. -/
namespace Go.Proofs.Ytannjgdginfgeaa
open Go.RowKit

/-- what a right cluster's nodes are like -/
theorem auRight {own : Bool} {lo hi : Nat} {N M Sl : Hd} {xs : List Nod} {ms : List Mal} {es : List En} {w : World} (x : ClAt w own lo hi N M Sl xs ms es) (h : cluF (xs.map (·.1)) (ms.map (·.1)) es = 0) : (1 ≤ N.2.1 ∧ N.2.1 ≤ 5) ∧ ∀ (k : Nat) (r : Rep) (hh : RH), xs[k]? = some (r, hh) → (0 ≤ r.commit ∧ r.commit ≤ r.log.length) ∧ (1 ≤ r.size ∧ r.size ≤ 5) ∧ (0 ≤ r.view ∧ r.view ≤ 300) ∧ r.id = k := by
  have hl : (xs.map (·.1)).length = N.2.1 := by simpa using x.nodes.len
  unfold cluF at h
  by_cases h1 : (1 ≤ ((xs.map (·.1)).length : Int) ∧ ((xs.map (·.1)).length : Int) ≤ 5) ∧ (ms.map (·.1)).length ≤ 120
  · rw [if_pos h1] at h
    by_cases h2 : nodesF (xs.map (·.1)) = 0
    · rw [hl] at h1
      refine ⟨⟨by omega, by omega⟩, fun k r hh ex => ?_⟩
      have hk : k < xs.length := by
        rcases Nat.lt_or_ge k xs.length with z | z
        · exact z
        · rw [List.getElem?_eq_none z] at ex; cases ex
      obtain ⟨a1, a2, a3⟩ := nodesF_all h2 k (by simpa using hk)
      rw [mapD ex] at a1 a2 a3
      simp only at a1 a2 a3
      obtain ⟨b1, b2, _⟩ := rep_ok a1
      obtain ⟨c1, c2, c3, c4⟩ := b1
      refine ⟨?_, c1, ⟨c3.1, by omega⟩, a2⟩
      unfold lgF at b2
      by_cases q : logF r.log = 0
      · rw [if_pos q] at b2
        by_cases q2 : 0 ≤ r.commit ∧ r.commit ≤ r.log.length
        · exact q2
        · rw [if_neg q2] at b2; cases b2
      · rw [if_neg q] at b2; exact absurd b2 q
    · rw [if_neg h2] at h; exact absurd h h2
  · rw [if_neg h1] at h; cases h
set_option maxRecDepth 20000 in
set_option maxHeartbeats 2000000 in
theorem auHolds (FN : Nat) (hcf : ∀ (vs : Array Value) (W : World), (callFunc FN vs).run Try.prog W = .ok (.enter FN vs) W) {own : Bool} {lo hi : Nat} (N M Sl : Hd) (xs : List Nod) (ms : List Mal) (es : List En) (w : World) (x : ClAt w own lo hi N M Sl xs ms es) (hs : ClSz N M Sl xs ms 1048576) (b : Bool)
    (hact : ∀ W : World, Below w.heap.size w W → cluF (xs.map (·.1)) (ms.map (·.1)) es = 0 → Calls Try.prog FN #[.agg #[.slice N.1 N.2.1 N.2.2, .slice M.1 M.2.1 M.2.2, .slice Sl.1 Sl.2.1 Sl.2.2]] W fun e w' => e = .returned (.bool b) ∧ Below W.heap.size W w') (d : Bool) (hd : (decide (cluF (xs.map (·.1)) (ms.map (·.1)) es = 0) && b) = d) :
    Calls Try.prog 37 #[.agg #[.slice N.1 N.2.1 N.2.2, .slice M.1 M.2.1 M.2.2, .slice Sl.1 Sl.2.1 Sl.2.2], .func (.func FN) #[] #[]] w fun e w' => e = .returned (.bool d) ∧ Below w.heap.size w w' := by
  obtain ⟨cd, hcd⟩ : ∃ cd, cluF (xs.map (·.1)) (ms.map (·.1)) es = cd := ⟨_, rfl⟩
  have HC : Hid _ := hcd
  have HA : Hid _ := hact
  have HD : Hid _ := hd
  clear hd hact
  go_enter Try.func37, Try.ntmps37
  go_wp2_with (first | ((with_reducible refine box_newX 33 [.slice N.1 N.2.1 N.2.2, .slice M.1 M.2.1 M.2.2, .slice Sl.1 Sl.2.1 Sl.2.2] rfl ?_); intro b0 W0 N0; have ob0 : w.heap.size ≤ b0 := N0.ge; have B := N0.below; have X0 := N0.bx; have c0 := X0.cell; clear N0) | fail)
  refine (implClF_is N M Sl xs ms es _ (x.below B) hs cd HC.out).mono ?_
  rintro e w1 ⟨rfl, BB⟩
  replace X0 := X0.below BB
  replace c0 := X0.cell
  replace B := below_next B BB
  clear BB
  clear hcd
  by_cases q0 : cd = 0
  rotate_left 1
  · have q0' : (cd == 0) = false := by simp [q0]
    have e : d = false := by rw [← HD.out, HC.out, decide_eq_false q0, Bool.false_and]
    subst e
    clear HD HA
    go_wp2
    go_ret
    exact ⟨rfl, B⟩
  subst q0
  have e : d = b := by rw [← HD.out, HC.out]; simp
  subst e
  clear HD
  go_wp2_with fail
  refine (HA.out _ B HC.out).mono ?_
  rintro e w2 ⟨rfl, BB⟩
  replace X0 := X0.below BB
  replace c0 := X0.cell
  replace B := below_next B BB
  clear BB
  go_wp2
  go_ret
  exact ⟨rfl, B⟩
set_option maxRecDepth 20000 in
set_option maxHeartbeats 2000000 in
theorem auHaveSealed_is {own : Bool} {lo hi : Nat} (N M Sl : Hd) (xs : List Nod) (ms : List Mal) (es : List En) (w : World) (x : ClAt w own lo hi N M Sl xs ms es) (hs : ClSz N M Sl xs ms 1048576) (hr : cluF (xs.map (·.1)) (ms.map (·.1)) es = 0) (d : Bool) (hd : (xs.map (·.1)).all (auSeal es) = d) :
    Calls Try.prog 38 #[.agg #[.slice N.1 N.2.1 N.2.2, .slice M.1 M.2.1 M.2.2, .slice Sl.1 Sl.2.1 Sl.2.2]] w fun e w' => e = .returned (.bool d) ∧ Below w.heap.size w w' := by
  have HRt : Hid _ := auRight x hr
  have HD : Hid _ := hd
  have HS : Hid _ := hs
  have Hx : Hid _ := x
  have hmf : ∀ (fn : Fn) (first cap : Array Value) (w : World), (Instr.makeFunc fn first cap).run Try.prog w = .ok (.func fn first cap) w := fun _ _ _ _ => rfl
  clear hd hr hs x
  go_enter Try.func38, Try.ntmps38
  go_wp2_with (first | ((with_reducible refine box_newX 33 [.slice N.1 N.2.1 N.2.2, .slice M.1 M.2.1 M.2.2, .slice Sl.1 Sl.2.1 Sl.2.2] rfl ?_); intro b0 W0 N0; have ob0 : w.heap.size ≤ b0 := N0.ge; have B := N0.below; have X0 := N0.bx; have c0 := X0.cell; clear N0) | fail)
  have HX0 : Hid _ := X0
  refine (auEach1 68 (fun _ _ => rfl) b0 N xs _ (Hx.out.nodes.below B) HS.out.n (auSeal es) (fun W k r h hb ex y => auSealed1_is r h N M Sl es b0 W y (HRt.out.2 k r h ex).1 (Nat.le_trans (HS.out.nodes k _ ex).L (by omega)) (HX0.out.below hb) ((Hx.out.slog.below B).below hb)) d HD.out).mono ?_
  rintro e w1 ⟨rfl, BB⟩
  replace X0 := X0.below BB
  replace c0 := X0.cell
  replace B := below_next B BB
  clear BB
  go_wp2
  go_ret
  exact ⟨rfl, B⟩
set_option maxRecDepth 20000 in
set_option maxHeartbeats 2000000 in
theorem auSR_is {own : Bool} {lo hi : Nat} (N M Sl : Hd) (xs : List Nod) (ms : List Mal) (es : List En) (w : World) (x : ClAt w own lo hi N M Sl xs ms es) (hs : ClSz N M Sl xs ms 1048576) (d : Bool) (hd : (decide (cluF (xs.map (·.1)) (ms.map (·.1)) es = 0) && (xs.map (·.1)).all (auSeal es)) = d) :
    Calls Try.prog 12 #[.agg #[.slice N.1 N.2.1 N.2.2, .slice M.1 M.2.1 M.2.2, .slice Sl.1 Sl.2.1 Sl.2.2]] w fun e w' => e = .returned (.bool d) ∧ Below w.heap.size w w' := by
  have HD : Hid _ := hd
  have HS : Hid _ := hs
  have Hx : Hid _ := x
  clear hd hs x
  go_enter Try.func12, Try.ntmps12
  go_wp2_with (first | ((with_reducible refine box_newX 33 [.slice N.1 N.2.1 N.2.2, .slice M.1 M.2.1 M.2.2, .slice Sl.1 Sl.2.1 Sl.2.2] rfl ?_); intro b0 W0 N0; have ob0 : w.heap.size ≤ b0 := N0.ge; have B := N0.below; have X0 := N0.bx; have c0 := X0.cell; clear N0) | fail)
  refine (auHolds 38 (fun _ _ => rfl) N M Sl xs ms es _ (Hx.out.below B) HS.out _ (fun W hb hr => auHaveSealed_is N M Sl xs ms es W ((Hx.out.below B).below hb) HS.out hr _ rfl) d HD.out).mono ?_
  rintro e w1 ⟨rfl, BB⟩
  replace X0 := X0.below BB
  replace c0 := X0.cell
  replace B := below_next B BB
  clear BB
  go_wp2
  go_ret
  exact ⟨rfl, B⟩

end Go.Proofs.Ytannjgdginfgeaa
