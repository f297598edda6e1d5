/- Chapter 6, plain: the fault of a plain pool. -/
import Derived.Test.YtcbfmjanjciodaaYP
import Derived.Test.YtcbfmjanjciodaaPPl
import Derived.Test.YtcbfmjanjciodaaZQ
import Derived.Test.YtcbfmjanjciodaaZU
import Derived.Test.YtcbfmjanjciodaaP1
import Derived.BigQuiet
namespace Go.Proofs.Ytcbfmjanjciodaa
open Go.RowKit

def pvOne (ahead : Int) (v : Vo) : Int := if volIdB v.1 && quotaB v.2.1 && decide (v.2.2 = -1) then (if v.1 ≤ ahead then 1 else 0) else 3
def pvFrom (vs : List Vo) : Nat → Nat → Int
  | 0, _ => 0
  | n + 1, k => if pvOne (idAhead vs k) (vs.getD k vo0) = 0 then pvFrom vs n (k + 1) else pvOne (idAhead vs k) (vs.getD k vo0)
def pvFault (vs : List Vo) : Int := pvFrom vs vs.length 0
theorem pvFrom_step {vs : List Vo} {k : Nat} (h : k < vs.length) : pvFrom vs (vs.length - k) k = if pvOne (idAhead vs k) (vs.getD k vo0) = 0 then pvFrom vs (vs.length - (k + 1)) (k + 1) else pvOne (idAhead vs k) (vs.getD k vo0) := by
  rw [show vs.length - k = vs.length - (k + 1) + 1 by omega]; rfl
theorem pvFrom_end {vs : List Vo} {k : Nat} (h : vs.length ≤ k) : pvFrom vs (vs.length - k) k = 0 := by
  rw [show vs.length - k = 0 by omega]; rfl
/-- the one stands ahead of the other -/
def aheadB (a c : Vo) : Bool := if a.1 = c.1 then decide (a.2.1 < c.2.1) else decide (a.1 < c.1)
def ceOne (vs : List Vo) (k : Nat) (a c : Vo) : Int :=
  if spotB c.2.1 && dataB c.2.2 then (if volPl vs c.1 < 0 then 4 else if k = 0 then 0 else if aheadB a c then 0 else 1) else 3
def ceFrom (vs ce : List Vo) : Nat → Nat → Int
  | 0, _ => 0
  | n + 1, k => if ceOne vs k (ce.getD (k - 1) vo0) (ce.getD k vo0) = 0 then ceFrom vs ce n (k + 1) else ceOne vs k (ce.getD (k - 1) vo0) (ce.getD k vo0)
def ceFault (vs ce : List Vo) : Int := ceFrom vs ce ce.length 0
theorem ceFrom_step {vs ce : List Vo} {k : Nat} (h : k < ce.length) : ceFrom vs ce (ce.length - k) k = if ceOne vs k (ce.getD (k - 1) vo0) (ce.getD k vo0) = 0 then ceFrom vs ce (ce.length - (k + 1)) (k + 1) else ceOne vs k (ce.getD (k - 1) vo0) (ce.getD k vo0) := by
  rw [show ce.length - k = ce.length - (k + 1) + 1 by omega]; rfl
theorem ceFrom_end {vs ce : List Vo} {k : Nat} (h : ce.length ≤ k) : ceFrom vs ce (ce.length - k) k = 0 := by
  rw [show ce.length - k = 0 by omega]; rfl
/-- how many cells a volume has -/
def inVol (ce : List Vo) (id : Int) : Nat := ce.countP fun c => c.1 == id
theorem inVol_take {ce : List Vo} {k : Nat} (h : k < ce.length) (i : Int) : inVol (ce.take (k + 1)) i = inVol (ce.take k) i + (if (ce.getD k vo0).1 = i then 1 else 0) := by
  unfold inVol
  rw [List.take_succ_eq_append_getElem h, List.countP_append, List.countP_cons, List.countP_nil, List.getD_eq_getElem?_getD, List.getElem?_eq_getElem h, Option.getD_some]
  simp
theorem inVol_le (ce : List Vo) (i : Int) : inVol ce i ≤ ce.length := List.countP_le_length
def quFrom (vs ce : List Vo) : Nat → Nat → Int
  | 0, _ => 0
  | n + 1, k => if (vs.getD k vo0).2.1 < (inVol ce (vs.getD k vo0).1 : Int) then 9 else quFrom vs ce n (k + 1)
def quFault (vs ce : List Vo) : Int := quFrom vs ce vs.length 0
theorem quFrom_step {vs ce : List Vo} {k : Nat} (h : k < vs.length) : quFrom vs ce (vs.length - k) k = if (vs.getD k vo0).2.1 < (inVol ce (vs.getD k vo0).1 : Int) then 9 else quFrom vs ce (vs.length - (k + 1)) (k + 1) := by
  rw [show vs.length - k = vs.length - (k + 1) + 1 by omega]; rfl
theorem quFrom_end {vs ce : List Vo} {k : Nat} (h : vs.length ≤ k) : quFrom vs ce (vs.length - k) k = 0 := by
  rw [show vs.length - k = 0 by omega]; rfl
def shFault (bl : Int) (sh : List Int) : Int := if 1 < sh.length then 1 else if sh.length = 0 then 0 else if 1 ≤ sh.getD 0 0 ∧ sh.getD 0 0 ≤ bl then 0 else 1
def plFault (bl : Int) (vs ce : List Vo) (sh : List Int) : Int :=
  if 0 ≤ bl ∧ bl ≤ 24 then
    (if 6 < vs.length then 2 else if pvFault vs = 0 then
      (if 96 < ce.length then 2 else if ceFault vs ce = 0 then (if quFault vs ce = 0 then shFault bl sh else quFault vs ce) else ceFault vs ce)
     else pvFault vs)
  else 3
theorem pl_3 {bl : Int} {vs ce : List Vo} {sh : List Int} (h : ¬ (0 ≤ bl ∧ bl ≤ 24)) : plFault bl vs ce sh = 3 := if_neg h
theorem pl_2 {bl : Int} {vs ce : List Vo} {sh : List Int} (h : 0 ≤ bl ∧ bl ≤ 24) (h1 : 6 < vs.length) : plFault bl vs ce sh = 2 := by unfold plFault; rw [if_pos h, if_pos h1]
theorem pl_v {bl : Int} {vs ce : List Vo} {sh : List Int} (h : 0 ≤ bl ∧ bl ≤ 24) (h1 : ¬ 6 < vs.length) (h2 : ¬ pvFault vs = 0) : plFault bl vs ce sh = pvFault vs := by unfold plFault; rw [if_pos h, if_neg h1, if_neg h2]
theorem pl_2c {bl : Int} {vs ce : List Vo} {sh : List Int} (h : 0 ≤ bl ∧ bl ≤ 24) (h1 : ¬ 6 < vs.length) (h2 : pvFault vs = 0) (h3 : 96 < ce.length) : plFault bl vs ce sh = 2 := by unfold plFault; rw [if_pos h, if_neg h1, if_pos h2, if_pos h3]
theorem pl_c {bl : Int} {vs ce : List Vo} {sh : List Int} (h : 0 ≤ bl ∧ bl ≤ 24) (h1 : ¬ 6 < vs.length) (h2 : pvFault vs = 0) (h3 : ¬ 96 < ce.length) (h4 : ¬ ceFault vs ce = 0) : plFault bl vs ce sh = ceFault vs ce := by unfold plFault; rw [if_pos h, if_neg h1, if_pos h2, if_neg h3, if_neg h4]
theorem pl_q {bl : Int} {vs ce : List Vo} {sh : List Int} (h : 0 ≤ bl ∧ bl ≤ 24) (h1 : ¬ 6 < vs.length) (h2 : pvFault vs = 0) (h3 : ¬ 96 < ce.length) (h4 : ceFault vs ce = 0) : plFault bl vs ce sh = if quFault vs ce = 0 then shFault bl sh else quFault vs ce := by unfold plFault; rw [if_pos h, if_neg h1, if_pos h2, if_neg h3, if_pos h4]
end Go.Proofs.Ytcbfmjanjciodaa

/- Chapter 6: the program's fault of a plain pool. -/
namespace Go.Proofs.Ytcbfmjanjciodaa
open Go.RowKit

def cmpI (a b : Int) : Int := if a < b then -1 else if b < a then 1 else 0
def cmpS (a b c d : Int) : Int := if cmpI a b = 0 then cmpI c d else cmpI a b
theorem cmpI_is (a b : Int) : (cmpI a b = -1 ∧ a < b) ∨ (cmpI a b = 0 ∧ a = b) ∨ (cmpI a b = 1 ∧ b < a) := by
  unfold cmpI
  split
  · exact Or.inl ⟨rfl, by assumption⟩
  · split
    · exact Or.inr (Or.inr ⟨rfl, by assumption⟩)
    · exact Or.inr (Or.inl ⟨rfl, by omega⟩)
theorem behindS_is (a c : Vo) : decide (0 < cmpS c.1 a.1 c.2.1 a.2.1) = aheadB a c := by
  unfold cmpS aheadB
  rcases cmpI_is c.1 a.1 with ⟨e, h⟩ | ⟨e, h⟩ | ⟨e, h⟩
  · rw [e, if_neg (by decide), if_neg (by omega), decide_eq_false (by decide), decide_eq_false (by omega)]
  · rw [e, if_pos rfl, if_pos h.symm]
    rcases cmpI_is c.2.1 a.2.1 with ⟨e, h⟩ | ⟨e, h⟩ | ⟨e, h⟩
    · rw [e, decide_eq_false (by decide), decide_eq_false (by omega)]
    · rw [e, decide_eq_false (by decide), decide_eq_false (by omega)]
    · rw [e, decide_eq_true (by decide), decide_eq_true (by omega)]
  · rw [e, if_neg (by decide), if_neg (by omega), decide_eq_true (by decide), decide_eq_true (by omega)]
theorem isNaN64_is (x : Int) (w : World) : Calls Try.prog 228 #[.int .i64 x] w fun e w' => e = .returned (.bool false) ∧ w' = w := by
  have hx : (x != x) = false := by simp
  go_enter Try.func228, Try.ntmps228
  go_wp2
  go_ret
  exact ⟨rfl, rfl⟩
theorem cmp64_is (a b : Int) (w : World) (d : Int) (hd : cmpI a b = d) : Calls Try.prog 224 #[.int .i64 a, .int .i64 b] w fun e w' => e = .returned (.int .i64 d) ∧ w' = w := by
  have HD : Hid _ := hd
  clear hd
  go_enter Try.func224, Try.ntmps224
  go_wp2_with fail
  refine (isNaN64_is a _).mono ?_
  rintro e _ ⟨rfl, rfl⟩
  go_wp2_with fail
  refine (isNaN64_is b _).mono ?_
  rintro e _ ⟨rfl, rfl⟩
  rcases cmpI_is a b with ⟨e, h⟩ | ⟨e, h⟩ | ⟨e, h⟩
  · have HE : Hid _ := e
    clear e
    go_wp2
    go_ret
    exact ⟨ret_int (by rw [← HD.out, HE.out]), rfl⟩
  · have HE : Hid _ := e
    clear e
    have h1 : ¬ a < b := by omega
    have h2 : ¬ b < a := by omega
    clear h
    go_wp2
    go_ret
    exact ⟨ret_int (by rw [← HD.out, HE.out]), rfl⟩
  · have HE : Hid _ := e
    clear e
    have h1 : ¬ a < b := by omega
    go_wp2
    go_ret
    exact ⟨ret_int (by rw [← HD.out, HE.out]), rfl⟩
theorem or2_is (x y : Int) (b : Nat) (w : World) (h0 : w.cell? ⟨b, 0, none⟩ = some (.int .i64 x)) (h1 : w.cell? ⟨b, 1, none⟩ = some (.int .i64 y)) (d : Int) (hd : (if x = 0 then y else x) = d) : Calls Try.prog 223 #[.slice (some ⟨b, 0, none⟩) 2 2] w fun e w' => e = .returned (.int .i64 d) ∧ w' = w := by
  have HD : Hid _ := hd
  clear hd
  go_enter Try.func223, Try.ntmps223
  go_wp2
  go_loopw [8] (fun i wr => ∃ k : Nat, k ≤ 2 ∧ i = .int .i64 k ∧ wr = w ∧ (1 ≤ k → x = 0) ∧ (2 ≤ k → y = 0)) (fun i _ => 2 - (intOf i).toNat)
  case atStart => exact ⟨0, by omega, rfl, rfl, fun h => by omega, fun h => by omega⟩
  case round =>
    obtain ⟨k, hk, rfl, rfl, ha, hb⟩ := hrel
    have HA : Hid _ := ha
    have HB : Hid _ := hb
    clear ha hb
    by_cases hk0 : k = 0
    · subst hk0
      by_cases hx : x = 0
      · have hn : (x != 0) = false := by simp [hx]
        have HX : Hid _ := hx
        clear hx
        go_wp2
        go_roundw
        case rel => exact ⟨1, by omega, by go_num, by first | rfl | trivial, fun _ => HX.out, fun h => by omega⟩
        case measure => simp [intOf]
      · have hn : (x != 0) = true := by simp [hx]
        have HX : Hid _ := hx
        clear hx
        go_wp2
        go_ret
        exact ⟨ret_int (by rw [← HD.out, if_neg HX.out]), rfl⟩
    · by_cases hk1 : k = 1
      · subst hk1
        by_cases hx : y = 0
        · have hn : (y != 0) = false := by simp [hx]
          have HX : Hid _ := hx
          clear hx
          go_wp2
          go_roundw
          case rel => exact ⟨2, by omega, by go_num, by first | rfl | trivial, fun _ => HA.out (by omega), fun h => HX.out⟩
          case measure => simp [intOf]
        · have hn : (y != 0) = true := by simp [hx]
          have HX : Hid _ := hx
          clear hx
          go_wp2
          go_ret
          exact ⟨ret_int (by rw [← HD.out, if_pos (HA.out (by omega))]), rfl⟩
      · obtain rfl : k = 2 := by omega
        go_wp2
        go_ret
        exact ⟨ret_int (by rw [← HD.out, if_pos (HA.out (by omega)), HB.out (by omega)]), rfl⟩
set_option maxRecDepth 20000 in
set_option maxHeartbeats 4000000 in
theorem compare_is (a c b d : Int) (w : World) (e : Int) (he : cmpS a b c d = e) : Calls Try.prog 205 #[.agg #[.int .i64 a, .int .i64 c], .agg #[.int .i64 b, .int .i64 d]] w fun r w' => r = .returned (.int .i64 e) ∧ Below w.heap.size w w' := by
  obtain ⟨x, hx⟩ : ∃ x, cmpI a b = x := ⟨_, rfl⟩
  obtain ⟨y, hy⟩ : ∃ y, cmpI c d = y := ⟨_, rfl⟩
  have HE : Hid ((if x = 0 then y else x) = e) := by show _ = _; rw [← he, ← hx, ← hy]; rfl
  have HX : Hid _ := hx
  have HY : Hid _ := hy
  clear he hx hy
  have A : Below w.heap.size w ((w.alloc (.cells #[.int .i64 a, .int .i64 c] 134)).alloc (.cells #[.int .i64 b, .int .i64 d] 134)) := ((Below.refl _ _).alloc (Nat.le_refl _) _).alloc (by simp) _
  go_enter Try.func205, Try.ntmps205
  go_wp2_with fail
  have W0 := A
  generalize hW : (w.alloc (.cells #[.int .i64 a, .int .i64 c] 134)).alloc (.cells #[.int .i64 b, .int .i64 d] 134) = W at *
  have g0 : W.drew.cell? ⟨w.heap.size, 0, none⟩ = some (.int .i64 a) := by subst hW; simp
  have g1 : W.drew.cell? ⟨w.heap.size, 1, none⟩ = some (.int .i64 c) := by subst hW; simp
  have g2 : W.drew.cell? ⟨w.heap.size + 1, 0, none⟩ = some (.int .i64 b) := by subst hW; simp
  have g3 : W.drew.cell? ⟨w.heap.size + 1, 1, none⟩ = some (.int .i64 d) := by subst hW; simp
  clear hW
  go_region_held3 (fun w' => w'.cell? ⟨w.heap.size, 0, none⟩ = some (.int .i64 a) ∧ w'.cell? ⟨w.heap.size, 1, none⟩ = some (.int .i64 c) ∧ w'.cell? ⟨w.heap.size + 1, 0, none⟩ = some (.int .i64 b) ∧ w'.cell? ⟨w.heap.size + 1, 1, none⟩ = some (.int .i64 d)) (first | with_reducible exact ⟨g0, g1, g2, g3⟩ | exact ⟨cell_later ((Below.refl _ _).alloc (Nat.le_refl _) _) g0, cell_later ((Below.refl _ _).alloc (Nat.le_refl _) _) g1, cell_later ((Below.refl _ _).alloc (Nat.le_refl _) _) g2, cell_later ((Below.refl _ _).alloc (Nat.le_refl _) _) g3⟩)
    (first | (go_at_call 224; (with_reducible refine (cmp64_is a b _ x HX.out).mono ?_); rintro e1 _ ⟨rfl, rfl⟩) | (go_at_call 224; (with_reducible refine (cmp64_is c d _ y HY.out).mono ?_); rintro e1 _ ⟨rfl, rfl⟩) | (go_at_call 223; refine (or2_is x y _ _ (by simp) (by simp) e HE.out).mono ?_; rintro e1 _ ⟨rfl, rfl⟩))
  go_wp2
  go_ret
  exact ⟨rfl, (A.drew).alloc (by simp; have := A.size; omega) _⟩
set_option maxRecDepth 20000 in
set_option maxHeartbeats 4000000 in
theorem isBehind_is (a c b d : Int) (w : World) (e : Bool) (he : decide (0 < cmpS a b c d) = e) : Calls Try.prog 162 #[.agg #[.int .i64 a, .int .i64 c], .agg #[.int .i64 b, .int .i64 d]] w fun r w' => r = .returned (.bool e) ∧ Below w.heap.size w w' := by
  obtain ⟨x, hx⟩ : ∃ x, cmpS a b c d = x := ⟨_, rfl⟩
  rw [hx] at he
  have HX : Hid _ := hx
  clear hx
  have A : Below w.heap.size w ((w.alloc (.cells #[.int .i64 a, .int .i64 c] 134)).alloc (.cells #[.int .i64 b, .int .i64 d] 134)) := ((Below.refl _ _).alloc (Nat.le_refl _) _).alloc (by simp) _
  go_enter Try.func162, Try.ntmps162
  go_wp2_with fail
  refine (compare_is a c b d _ x HX.out).mono ?_
  rintro _ w1 ⟨rfl, B⟩
  replace B := below_next A B
  go_wp2
  go_ret
  exact ⟨rfl, B⟩
theorem spotOf_is (x y z : Int) (w : World) : Calls Try.prog 161 #[.agg #[.int .i64 x, .int .i64 y, .int .i64 z]] w fun e w' => e = .returned (.agg #[.int .i64 x, .int .i64 y]) ∧ Below w.heap.size w w' := by
  go_enter Try.func161, Try.ntmps161
  go_wp2
  refine bodyPost_ret (v := .agg #[.int .i64 x, .int .i64 y]) (by simp [results, Try.results161, go_sem]) rfl ⟨rfl, ?_⟩
  exact ((Below.refl _ _).alloc (Nat.le_refl _) _).alloc (by simp) _
theorem empty_fo (w : World) (o : Bool) (l u : Nat) : FoAt w o l u none 0 0 none 0 0 (fun _ => (none, 0, 0)) ([], []) :=
  ⟨⟨rfl, RowAt.nil _ _ _ _ _, fun _ hi => absurd hi (Nat.not_lt_zero _), fun _ _ hi => absurd hi (Nat.not_lt_zero _)⟩, RowAt.nil _ _ _ _ _, fun _ h => absurd rfl h⟩
theorem rootOk_empty (r : Int) : rootOk ([], []) r = decide (r = -1) := by
  unfold rootOk
  split
  case isTrue h => rw [decide_eq_true h]
  case isFalse h =>
    rw [decide_eq_false h]
    simp
    intro h1 h2
    omega
set_option maxRecDepth 20000 in
set_option maxHeartbeats 4000000 in
theorem plainVols_is {o2 : Bool} {l2 u2 : Nat} (av : Option Addr) (nv cv : Nat) (vs : List Vo) (w : World) (hv : RowAt w o2 l2 u2 3 av nv cv (trips vs)) (hvn : nv ≤ 2097152) (d : Int) (hd : pvFault vs = d) : Calls Try.prog 81 #[.slice av nv cv] w fun e w' => e = .returned (.int .i64 d) ∧ Below w.heap.size w w' := by
  have hvl := hv.nTrips
  have HD : Hid _ := hd
  clear hd
  go_enter Try.func81, Try.ntmps81
  go_wp2
  go_loopw [3, 8] (fun a i wr => ∃ k : Nat, k ≤ nv ∧ i = .int .i64 k ∧ a = .int .i64 (idAhead vs k) ∧ pvFault vs = pvFrom vs (nv - k) k ∧ Below w.heap.size w wr) (fun _ i _ => nv - (intOf i).toNat)
  case atStart => exact ⟨0, Nat.zero_le _, rfl, rfl, by rw [Nat.sub_zero, ← hvl]; rfl, Below.refl _ _⟩
  case round =>
    obtain ⟨k, hk, rfl, rfl, ha, B⟩ := hrel
    have HA : Hid _ := ha
    clear ha
    by_cases hlt : k < nv
    · have HS : Hid _ := pvFrom_step (vs := vs) (k := k) (by omega)
      have HN : Hid (idAhead vs (k + 1) = (vs.getD k vo0).1) := rfl
      rw [hvl] at HS
      obtain ⟨b, off, rfl, _, _, hbs, v0, v1, v2, _⟩ := hv.trip hlt
      replace v0 := (B.cell (p := ⟨b, off + k * 3, none⟩) hbs).trans v0
      replace v1 := (B.cell (p := ⟨b, off + k * 3 + 1, none⟩) hbs).trans v1
      replace v2 := (B.cell (p := ⟨b, off + k * 3 + 2, none⟩) hbs).trans v2
      have hlk : (k : Int) < (nv : Int) := by omega
      obtain ⟨⟨x, y, z⟩, hx⟩ : ∃ x, vs.getD k vo0 = x := ⟨_, rfl⟩
      rw [hx] at v0 v1 v2 HS HN
      simp only at v0 v1 v2 HS HN
      clear hx
      obtain ⟨a, hxa⟩ : ∃ a, idAhead vs k = a := ⟨_, rfl⟩
      rw [hxa] at HS ⊢
      clear hxa
      obtain ⟨dd, hdd⟩ : ∃ dd, (volIdB x && quotaB y && rootOk ([], []) z) = dd := ⟨_, rfl⟩
      have HB : Hid _ := hdd
      clear hdd
      have A : Below wr.heap.size wr (wr.alloc (.cells #[.int .i64 x, .int .i64 y, .int .i64 z] 149)) := (Below.refl _ _).alloc (Nat.le_refl _) _
      have C := below_step B B.size A
      have x0 : (wr.alloc (.cells #[.int .i64 x, .int .i64 y, .int .i64 z] 149)).cell? ⟨wr.heap.size, 0, none⟩ = some (.int .i64 x) := by simp
      go_wp2_with fail
      refine (isVol_is none 0 0 none 0 0 _ ([], []) _ (empty_fo _ true 0 0) (by omega) (by omega) x y z dd HB.out).mono ?_
      rintro e w1 ⟨rfl, B1⟩
      replace x0 := cell_later B1 x0
      replace C := below_step C C.size B1
      clear B1 B v0 v1 v2
      cases dd with
      | false =>
        have HE : Hid (pvFault vs = 3) := by
          have : pvOne a (x, y, z) = 3 := by
            unfold pvOne; rw [if_neg (by rw [← rootOk_empty, HB.out]; decide)]
          show _ = _
          rw [HA.out, HS.out, this]; rfl
        clear HS HA HB
        go_wp2
        go_ret
        exact ⟨ret_int (by rw [← HD.out, HE.out]), C⟩
      | true =>
        have HO : Hid (pvOne a (x, y, z) = if x ≤ a then 1 else 0) := by
          show _ = _
          unfold pvOne; rw [if_pos (by rw [← rootOk_empty, HB.out])]
        clear HB
        by_cases hxa : x ≤ a
        · have HE : Hid (pvFault vs = 1) := by show _ = _; rw [HA.out, HS.out, HO.out, if_pos hxa]; rfl
          clear HS HA HO
          go_wp2
          go_ret
          exact ⟨ret_int (by rw [← HD.out, HE.out]), C⟩
        · have HE : Hid (pvFault vs = pvFrom vs (nv - (k + 1)) (k + 1)) := by show _ = _; rw [HA.out, HS.out, HO.out, if_neg hxa]; rfl
          clear HS HA HO
          go_wp2
          go_roundw
          case rel => exact ⟨k + 1, by omega, by go_num, by rw [HN.out], HE.out, C⟩
          case measure => simp [intOf]; omega
    · obtain rfl : k = nv := by omega
      have HE : Hid (pvFault vs = 0) := by show _ = _; rw [HA.out, ← hvl]; exact pvFrom_end (Nat.le_refl _)
      go_wp2
      go_ret
      exact ⟨ret_int (by rw [← HD.out, HE.out]), B⟩

end Go.Proofs.Ytcbfmjanjciodaa

/- Chapter 6: the program's fault of a plain pool: cells, quotas, shares. -/
namespace Go.Proofs.Ytcbfmjanjciodaa
open Go.RowKit

set_option maxRecDepth 20000 in
set_option maxHeartbeats 4000000 in
theorem cellsFault_is {o : Bool} {lo hi : Nat} (bl : Int) (av : Option Addr) (nv cv : Nat) (ac : Option Addr) (nc cc : Nat) (ah : Option Addr) (nh ch : Nat) (vs ce : List Vo) (sh : List Int) (w : World) (h : PlAt w o lo hi av nv cv ac nc cc ah nh ch vs ce sh) (hnv : nv ≤ 2097152) (hnc : nc ≤ 2097152) (d : Int) (hd : ceFault vs ce = d) : Calls Try.prog 82 #[.agg #[.int .i64 bl, .slice av nv cv, .slice ac nc cc, .slice ah nh ch]] w fun e w' => e = .returned (.int .i64 d) ∧ Below w.heap.size w w' := by
  have hvl := h.vol.nTrips
  have hcl := h.cel.nTrips
  have HD : Hid _ := hd
  clear hd
  have A0 : Below w.heap.size w (w.alloc (.cells #[.int .i64 bl, .slice av nv cv, .slice ac nc cc, .slice ah nh ch] 34)) := (Below.refl _ _).alloc (Nat.le_refl _) _
  have G0 : (w.alloc (.cells #[.int .i64 bl, .slice av nv cv, .slice ac nc cc, .slice ah nh ch] 34)).cell? ⟨w.heap.size, 0, none⟩ = some (.int .i64 bl) := by simp
  have G1 : (w.alloc (.cells #[.int .i64 bl, .slice av nv cv, .slice ac nc cc, .slice ah nh ch] 34)).cell? ⟨w.heap.size, 1, none⟩ = some (.slice av nv cv) := by simp
  have G2 : (w.alloc (.cells #[.int .i64 bl, .slice av nv cv, .slice ac nc cc, .slice ah nh ch] 34)).cell? ⟨w.heap.size, 2, none⟩ = some (.slice ac nc cc) := by simp
  have G3 : (w.alloc (.cells #[.int .i64 bl, .slice av nv cv, .slice ac nc cc, .slice ah nh ch] 34)).cell? ⟨w.heap.size, 3, none⟩ = some (.slice ah nh ch) := by simp
  go_enter Try.func82, Try.ntmps82
  go_wp2
  generalize hW : (w.alloc (.cells #[.int .i64 bl, .slice av nv cv, .slice ac nc cc, .slice ah nh ch] 34)) = W at *
  clear hW
  go_loopw [8] (fun i wr => ∃ k : Nat, k ≤ nc ∧ i = .int .i64 k ∧ ceFault vs ce = ceFrom vs ce (nc - k) k ∧ Below W.heap.size W wr) (fun i _ => nc - (intOf i).toNat)
  case atStart => exact ⟨0, Nat.zero_le _, rfl, by rw [Nat.sub_zero, ← hcl]; rfl, Below.refl _ _⟩
  case round =>
    obtain ⟨k, hk, rfl, ha, B⟩ := hrel
    have HA : Hid _ := ha
    clear ha
    have g1 := cell_later B G1
    have g2 := cell_later B G2
    by_cases hlt : k < nc
    · have HS : Hid _ := ceFrom_step (vs := vs) (ce := ce) (k := k) (by omega)
      rw [hcl] at HS
      have hpre : Hid (∀ j, k = j + 1 → ∃ b off, ac = some ⟨b, off, none⟩ ∧ wr.cell? ⟨b, off + j * 3, none⟩ = some (.int .i64 (ce.getD (k - 1) vo0).1) ∧ wr.cell? ⟨b, off + j * 3 + 1, none⟩ = some (.int .i64 (ce.getD (k - 1) vo0).2.1) ∧ wr.cell? ⟨b, off + j * 3 + 2, none⟩ = some (.int .i64 (ce.getD (k - 1) vo0).2.2)) := fun j e => by
        obtain ⟨b, off, e1, _, _, hbs, c0, c1, c2, _⟩ := h.cel.trip (i := j) (by omega)
        rw [show k - 1 = j by omega]
        exact ⟨b, off, e1, cell_later B (cell_later A0 c0), cell_later B (cell_later A0 c1), cell_later B (cell_later A0 c2)⟩
      obtain ⟨b, off, rfl, _, _, hbs, v0, v1, v2, _⟩ := h.cel.trip hlt
      replace v0 := cell_later B (cell_later A0 v0)
      replace v1 := cell_later B (cell_later A0 v1)
      replace v2 := cell_later B (cell_later A0 v2)
      have hlk : (k : Int) < (nc : Int) := by omega
      obtain ⟨⟨x, y, z⟩, hx⟩ : ∃ x, ce.getD k vo0 = x := ⟨_, rfl⟩
      obtain ⟨⟨x1, y1, z1⟩, hx1⟩ : ∃ x, ce.getD (k - 1) vo0 = x := ⟨_, rfl⟩
      rw [hx] at v0 v1 v2 HS
      rw [hx1] at hpre HS
      simp only at v0 v1 v2 HS hpre
      clear hx hx1
      have A : Below wr.heap.size wr (wr.alloc (.cells #[.int .i64 x, .int .i64 y, .int .i64 z] 130)) := (Below.refl _ _).alloc (Nat.le_refl _) _
      have C := below_step B B.size A
      have c0 : (wr.alloc (.cells #[.int .i64 x, .int .i64 y, .int .i64 z] 130)).cell? ⟨wr.heap.size, 0, none⟩ = some (.int .i64 x) := by simp
      have c1 : (wr.alloc (.cells #[.int .i64 x, .int .i64 y, .int .i64 z] 130)).cell? ⟨wr.heap.size, 1, none⟩ = some (.int .i64 y) := by simp
      have c2 : (wr.alloc (.cells #[.int .i64 x, .int .i64 y, .int .i64 z] 130)).cell? ⟨wr.heap.size, 2, none⟩ = some (.int .i64 z) := by simp
      have g1' := cell_later A g1
      have g2' := cell_later A g2
      have HBAD : Hid (ceOne vs k (x1, y1, z1) (x, y, z) ≠ 0 → ceFault vs ce = ceOne vs k (x1, y1, z1) (x, y, z)) := fun hx => by rw [HA.out, HS.out, if_neg hx]
      obtain ⟨b1, h1⟩ : ∃ b, spotB y = b := ⟨_, rfl⟩
      obtain ⟨b2, h2⟩ : ∃ b, dataB z = b := ⟨_, rfl⟩
      have H1 : Hid _ := h1
      have H2 : Hid _ := h2
      clear h1 h2
      go_wp2_with fail
      refine (isTreePlace_is y _ b1 H1.out).mono ?_
      rintro e _ ⟨rfl, rfl⟩
      cases b1 with
      | false =>
        have HE : Hid (ceFault vs ce = 3) := by
          have hx : ceOne vs k (x1, y1, z1) (x, y, z) = 3 := by unfold ceOne; simp [H1.out]
          show _ = _
          rw [HBAD.out (by rw [hx]; decide), hx]
        clear HBAD HS HA hpre
        go_wp2
        go_ret
        exact ⟨ret_int (by rw [← HD.out, HE.out]), below_next A0 C⟩
      | true =>
        go_wp2_with fail
        refine (isData_is z _ b2 H2.out).mono ?_
        rintro e _ ⟨rfl, rfl⟩
        cases b2 with
        | false =>
          have HE : Hid (ceFault vs ce = 3) := by
            have hx : ceOne vs k (x1, y1, z1) (x, y, z) = 3 := by unfold ceOne; simp [H2.out]
            show _ = _
            rw [HBAD.out (by rw [hx]; decide), hx]
          clear HBAD HS HA hpre
          go_wp2
          go_ret
          exact ⟨ret_int (by rw [← HD.out, HE.out]), below_next A0 C⟩
        | true =>
          have HO : Hid (ceOne vs k (x1, y1, z1) (x, y, z) = if volPl vs x < 0 then 4 else if k = 0 then 0 else if aheadB (x1, y1, z1) (x, y, z) then 0 else 1) := by show _ = _; unfold ceOne; rw [if_pos (by simp [H1.out, H2.out])]
          obtain ⟨pl, hpl⟩ : ∃ pl, volPl vs x = pl := ⟨_, rfl⟩
          have hpl2 : pl = -1 ∨ 0 ≤ pl := by
            rcases volPl_is vs x with e | ⟨m, e, _⟩
            · left; omega
            · right; omega
          rw [hpl] at HO
          have HP : Hid _ := hpl
          clear hpl
          go_wp2_with fail
          refine (volPlace_is av nv cv vs _ (((h.vol.below A0).below B).below A) hnv x pl HP.out).mono ?_
          rintro e w1 ⟨rfl, B1⟩
          replace c0 := cell_later B1 c0
          replace c1 := cell_later B1 c1
          replace c2 := cell_later B1 c2
          replace g2' := cell_later B1 g2'
          have AB := below_step A A.size B1
          replace C := below_step C C.size B1
          by_cases hp1 : pl = -1
          · have hb : (pl == -1) = true := by simp [hp1]
            have HE : Hid (ceFault vs ce = 4) := by
              have hx : ceOne vs k (x1, y1, z1) (x, y, z) = 4 := by rw [HO.out, if_pos (by omega)]
              show _ = _
              rw [HBAD.out (by rw [hx]; decide), hx]
            clear HBAD HS HA hpre HO hp1 hpl2
            go_wp2
            go_ret
            exact ⟨ret_int (by rw [← HD.out, HE.out]), below_next A0 C⟩
          · have hb : (pl == -1) = false := by simp [hp1]
            replace HO : Hid (ceOne vs k (x1, y1, z1) (x, y, z) = if k = 0 then 0 else if aheadB (x1, y1, z1) (x, y, z) then 0 else 1) := HO.out.trans (if_neg (by omega))
            clear hp1 hpl2
            generalize hW2 : (wr.alloc (.cells #[.int .i64 x, .int .i64 y, .int .i64 z] 130)) = W2 at *
            clear hW2
            cases k with
            | zero =>
              have HE : Hid (ceFault vs ce = ceFrom vs ce (nc - (0 + 1)) (0 + 1)) := by show _ = _; rw [HA.out, HS.out, HO.out]; rfl
              clear HBAD HS HA hpre HO
              have hz0 : decide ((0 : Int) < ((0 : Nat) : Int)) = false := rfl
              go_wp2_with fail
              go_quiet (fail)
              go_wp2
              go_roundw
              case rel => exact ⟨0 + 1, by omega, by go_num, HE.out, below_drewN C _⟩
              case measure => simp [intOf]; omega
            | succ j =>
              obtain ⟨bb, oo, e', p0, p1, p2⟩ := hpre.out j rfl
              cases e'
              replace p0 := cell_later AB p0
              replace p1 := cell_later AB p1
              replace p2 := cell_later AB p2
              have hz0 : decide ((0 : Int) < ((j + 1 : Nat) : Int)) = true := decide_eq_true (by omega)
              have hz1 : (0 : Int) < ((j + 1 : Nat) : Int) := by omega
              have hw : IntKind.i64.wrap (((j + 1 : Nat) : Int) - 1) = (j : Int) := by rw [show ((j + 1 : Nat) : Int) - 1 = (j : Int) by omega]; exact wrapI_same _ (by omega)
              have hlj : (j : Int) < (nc : Int) := by omega
              have hw2 : IntKind.i64.wrap (j : Int) = (j : Int) := wrapI_same _ (by omega)
              have hw3 : IntKind.i64.wrap ((j : Int) + 1 - 1) = (j : Int) := by rw [show (j : Int) + 1 - 1 = (j : Int) by omega]; exact hw2
              obtain ⟨q, hq⟩ : ∃ q, aheadB (x1, y1, z1) (x, y, z) = q := ⟨_, rfl⟩
              have HQ : Hid (decide (0 < cmpS x x1 y y1) = q) := (behindS_is (x1, y1, z1) (x, y, z)).trans hq
              rw [hq] at HO
              clear hq hpre
              clear g1 g2 v0 v1 v2 g1' B1 A B
              have D : Below w1.heap.size w1 w1.drew := (Below.refl _ _).drew
              replace c0 := cell_later D c0
              replace c1 := cell_later D c1
              replace c2 := cell_later D c2
              replace g2' := cell_later D g2'
              replace p0 := cell_later D p0
              replace p1 := cell_later D p1
              replace p2 := cell_later D p2
              replace C := below_step C C.size D
              clear D
              go_wp2_with fail
              go_region_held3 (fun w' => w'.cell? ⟨wr.heap.size, 0, none⟩ = some (.int .i64 x) ∧ w'.cell? ⟨wr.heap.size, 1, none⟩ = some (.int .i64 y) ∧ w'.cell? ⟨wr.heap.size, 2, none⟩ = some (.int .i64 z) ∧ w'.cell? ⟨w.heap.size, 2, none⟩ = some (.slice (some ⟨b, off, none⟩) nc cc) ∧ w'.cell? ⟨b, off + j * 3, none⟩ = some (.int .i64 x1) ∧ w'.cell? ⟨b, off + j * 3 + 1, none⟩ = some (.int .i64 y1) ∧ w'.cell? ⟨b, off + j * 3 + 2, none⟩ = some (.int .i64 z1)) (with_reducible exact ⟨c0, c1, c2, g2', p0, p1, p2⟩)
                (first | (go_at_call 161; (with_reducible refine (spotOf_is x y z _).mono ?_); rintro e w5 ⟨rfl, B5⟩; replace c0 := cell_later B5 c0; replace c1 := cell_later B5 c1; replace c2 := cell_later B5 c2; replace g2' := cell_later B5 g2'; replace p0 := cell_later B5 p0; replace p1 := cell_later B5 p1; replace p2 := cell_later B5 p2; replace C := below_step C C.size B5; clear B5) | (go_at_call 161; (with_reducible refine (spotOf_is x1 y1 z1 _).mono ?_); rintro e w6 ⟨rfl, B5⟩; replace c0 := cell_later B5 c0; replace c1 := cell_later B5 c1; replace c2 := cell_later B5 c2; replace g2' := cell_later B5 g2'; replace p0 := cell_later B5 p0; replace p1 := cell_later B5 p1; replace p2 := cell_later B5 p2; replace C := below_step C C.size B5; clear B5) | (go_at_call 162; (with_reducible refine (isBehind_is x y x1 y1 _ q HQ.out).mono ?_); rintro e w7 ⟨rfl, B5⟩; replace c0 := cell_later B5 c0; replace c1 := cell_later B5 c1; replace c2 := cell_later B5 c2; replace g2' := cell_later B5 g2'; replace p0 := cell_later B5 p0; replace p1 := cell_later B5 p1; replace p2 := cell_later B5 p2; replace C := below_step C C.size B5; clear B5))
              cases q with
              | false =>
                have HE : Hid (ceFault vs ce = 1) := by
                  have hx : ceOne vs (j + 1) (x1, y1, z1) (x, y, z) = 1 := HO.out
                  show _ = _
                  rw [HBAD.out (by rw [hx]; decide), hx]
                clear HBAD HS HA HO
                go_wp2
                go_ret
                exact ⟨ret_int (by rw [← HD.out, HE.out]), below_next A0 C⟩
              | true =>
                have HE : Hid (ceFault vs ce = ceFrom vs ce (nc - (j + 1 + 1)) (j + 1 + 1)) := by show _ = _; rw [HA.out, HS.out, HO.out]; rfl
                clear HBAD HS HA HO
                go_wp2
                go_roundw
                case rel => exact ⟨j + 1 + 1, by omega, by go_num, HE.out, C⟩
                case measure => simp [intOf]; omega
    · obtain rfl : k = nc := by omega
      have HE : Hid (ceFault vs ce = 0) := by show _ = _; rw [HA.out, ← hcl]; exact ceFrom_end (Nat.le_refl _)
      go_wp2
      go_ret
      exact ⟨ret_int (by rw [← HD.out, HE.out]), below_next A0 B⟩

set_option maxRecDepth 20000 in
set_option maxHeartbeats 4000000 in
theorem quotaFault_is {o : Bool} {lo hi : Nat} (bl : Int) (av : Option Addr) (nv cv : Nat) (ac : Option Addr) (nc cc : Nat) (ah : Option Addr) (nh ch : Nat) (vs ce : List Vo) (sh : List Int) (w : World) (h : PlAt w o lo hi av nv cv ac nc cc ah nh ch vs ce sh) (hnv : nv ≤ 2097152) (hnc : nc ≤ 2097152) (d : Int) (hd : quFault vs ce = d) : Calls Try.prog 83 #[.agg #[.int .i64 bl, .slice av nv cv, .slice ac nc cc, .slice ah nh ch]] w fun e w' => e = .returned (.int .i64 d) ∧ Below w.heap.size w w' := by
  have hvl := h.vol.nTrips
  have hcl := h.cel.nTrips
  have HD : Hid _ := hd
  clear hd
  have A0 : Below w.heap.size w (w.alloc (.cells #[.int .i64 bl, .slice av nv cv, .slice ac nc cc, .slice ah nh ch] 34)) := (Below.refl _ _).alloc (Nat.le_refl _) _
  have G0 : (w.alloc (.cells #[.int .i64 bl, .slice av nv cv, .slice ac nc cc, .slice ah nh ch] 34)).cell? ⟨w.heap.size, 0, none⟩ = some (.int .i64 bl) := by simp
  have G1 : (w.alloc (.cells #[.int .i64 bl, .slice av nv cv, .slice ac nc cc, .slice ah nh ch] 34)).cell? ⟨w.heap.size, 1, none⟩ = some (.slice av nv cv) := by simp
  have G2 : (w.alloc (.cells #[.int .i64 bl, .slice av nv cv, .slice ac nc cc, .slice ah nh ch] 34)).cell? ⟨w.heap.size, 2, none⟩ = some (.slice ac nc cc) := by simp
  have G3 : (w.alloc (.cells #[.int .i64 bl, .slice av nv cv, .slice ac nc cc, .slice ah nh ch] 34)).cell? ⟨w.heap.size, 3, none⟩ = some (.slice ah nh ch) := by simp
  go_enter Try.func83, Try.ntmps83
  go_wp2
  generalize hW : (w.alloc (.cells #[.int .i64 bl, .slice av nv cv, .slice ac nc cc, .slice ah nh ch] 34)) = W at *
  clear hW
  go_loopw [11] (fun i wr => ∃ k : Nat, k ≤ nv ∧ i = .int .i64 k ∧ quFault vs ce = quFrom vs ce (nv - k) k ∧ Below W.heap.size W wr) (fun i _ => nv - (intOf i).toNat)
  case atStart => exact ⟨0, Nat.zero_le _, rfl, by rw [Nat.sub_zero, ← hvl]; rfl, Below.refl _ _⟩
  case round =>
    obtain ⟨k, hk, rfl, ha, B⟩ := hrel
    have HA : Hid _ := ha
    clear ha
    by_cases hlt : k < nv
    · have HS : Hid _ := quFrom_step (vs := vs) (ce := ce) (k := k) (by omega)
      rw [hvl] at HS
      have g2 := cell_later B G2
      obtain ⟨b, off, rfl, _, _, hbs, v0, v1, v2, _⟩ := h.vol.trip hlt
      replace v0 := cell_later B (cell_later A0 v0)
      replace v1 := cell_later B (cell_later A0 v1)
      replace v2 := cell_later B (cell_later A0 v2)
      have hlk : (k : Int) < (nv : Int) := by omega
      obtain ⟨⟨x, y, z⟩, hx⟩ : ∃ x, vs.getD k vo0 = x := ⟨_, rfl⟩
      rw [hx] at v0 v1 v2 HS
      simp only at v0 v1 v2 HS
      clear hx
      have A : Below wr.heap.size wr (wr.alloc (.cells #[.int .i64 x, .int .i64 y, .int .i64 z] 149)) := (Below.refl _ _).alloc (Nat.le_refl _) _
      have B2 := below_step B B.size A
      have c0 : (wr.alloc (.cells #[.int .i64 x, .int .i64 y, .int .i64 z] 149)).cell? ⟨wr.heap.size, 0, none⟩ = some (.int .i64 x) := by simp
      have c1 : (wr.alloc (.cells #[.int .i64 x, .int .i64 y, .int .i64 z] 149)).cell? ⟨wr.heap.size, 1, none⟩ = some (.int .i64 y) := by simp
      have g2' := cell_later A g2
      obtain ⟨wq, hwq⟩ : ∃ wq, wr = wq := ⟨_, rfl⟩
      subst hwq
      rename World => wq
      go_wp2
      generalize hW2 : wq.alloc (.cells #[.int .i64 x, .int .i64 y, .int .i64 z] 149) = W2 at *
      clear hW2 A v0 v1 v2 g2 g2'
      go_loopw [5, 18] (fun c i wr => ∃ m : Nat, m ≤ nc ∧ i = .int .i64 m ∧ c = .int .i64 (inVol (ce.take m) x : Nat) ∧ Below W2.heap.size W2 wr) (fun _ i _ => nc - (intOf i).toNat)
      case atStart => exact ⟨0, Nat.zero_le _, rfl, by simp [inVol], Below.refl _ _⟩
      case round =>
        obtain ⟨m, hm, rfl, rfl, E⟩ := hrel
        have e0 := cell_later E c0
        have e1 := cell_later E c1
        by_cases hmt : m < nc
        · have HT : Hid _ := inVol_take (ce := ce) (k := m) (by omega) x
          have hle := inVol_le (ce.take m) x
          rw [List.length_take] at hle
          obtain ⟨b3, off3, rfl, _, _, hbs3, u0, u1, u2, _⟩ := h.cel.trip hmt
          replace u0 := cell_later E (cell_later B2 (cell_later A0 u0))
          replace u1 := cell_later E (cell_later B2 (cell_later A0 u1))
          replace u2 := cell_later E (cell_later B2 (cell_later A0 u2))
          have hlm : (m : Int) < (nc : Int) := by omega
          obtain ⟨⟨p, q, r⟩, hp⟩ : ∃ x, ce.getD m vo0 = x := ⟨_, rfl⟩
          rw [hp] at u0 u1 u2 HT
          simp only at u0 u1 u2 HT
          clear hp
          obtain ⟨c, hc⟩ : ∃ c, inVol (ce.take m) x = c := ⟨_, rfl⟩
          rw [hc] at hle HT ⊢
          clear hc
          have hw2 : IntKind.i64.wrap ((c : Int) + 1) = (c : Int) + 1 := wrapI_same _ (by omega)
          have A3 : Below wr.heap.size wr (wr.alloc (.cells #[.int .i64 p, .int .i64 q, .int .i64 r] 130)) := (Below.refl _ _).alloc (Nat.le_refl _) _
          have E2 := below_step E E.size A3
          have f0 := cell_later A3 e0
          by_cases hpx : p = x
          · have hbx : (p == x) = true := by simp [hpx]
            have HE : Hid (inVol (ce.take (m + 1)) x = c + 1) := by show _ = _; rw [HT.out, if_pos hpx]
            clear HT hpx
            go_wp2
            go_roundw
            case rel => exact ⟨m + 1, by omega, by go_num, by rw [HE.out]; go_num, E2⟩
            case measure => simp [intOf]; omega
          · have hbx : (p == x) = false := by simp [hpx]
            have HE : Hid (inVol (ce.take (m + 1)) x = c) := by show _ = _; rw [HT.out, if_neg hpx]; rfl
            clear HT hpx
            go_wp2
            go_roundw
            case rel => exact ⟨m + 1, by omega, by go_num, by rw [HE.out], E2⟩
            case measure => simp [intOf]; omega
        · obtain rfl : m = nc := by omega
          rw [show ce.take m = ce from List.take_of_length_le (by omega)]
          obtain ⟨c, hc⟩ : ∃ c, inVol ce x = c := ⟨_, rfl⟩
          rw [hc] at HS ⊢
          clear hc
          have F := below_step B2 B2.size E
          by_cases hq : y < (c : Int)
          · have HE : Hid (quFault vs ce = 9) := HA.out.trans (HS.out.trans (if_pos hq))
            clear HA HS
            go_wp2
            go_ret
            exact ⟨ret_int (by rw [← HD.out, HE.out]), below_next A0 F⟩
          · have HE : Hid _ := HA.out.trans (HS.out.trans (if_neg hq))
            clear HA HS
            go_wp2
            go_roundw
            case rel => exact ⟨k + 1, by omega, by go_num, HE.out, F⟩
            case measure => simp [intOf]; omega
    · obtain rfl : k = nv := by omega
      have HE : Hid (quFault vs ce = 0) := by show _ = _; rw [HA.out, ← hvl]; exact quFrom_end (Nat.le_refl _)
      go_wp2
      go_ret
      exact ⟨ret_int (by rw [← HD.out, HE.out]), below_next A0 B⟩

set_option maxRecDepth 20000 in
set_option maxHeartbeats 4000000 in
theorem sharesFault_is {o : Bool} {lo hi : Nat} (bl : Int) (av : Option Addr) (nv cv : Nat) (ac : Option Addr) (nc cc : Nat) (ah : Option Addr) (nh ch : Nat) (vs ce : List Vo) (sh : List Int) (w : World) (h : PlAt w o lo hi av nv cv ac nc cc ah nh ch vs ce sh) (hnh : nh ≤ 2097152) (d : Int) (hd : shFault bl sh = d) : Calls Try.prog 84 #[.agg #[.int .i64 bl, .slice av nv cv, .slice ac nc cc, .slice ah nh ch]] w fun e w' => e = .returned (.int .i64 d) ∧ Below w.heap.size w w' := by
  have hsl := h.sha.nInts
  have hvl := h.vol.nTrips
  have hcl := h.cel.nTrips
  have HD : Hid _ := hd
  clear hd
  have A0 : Below w.heap.size w (w.alloc (.cells #[.int .i64 bl, .slice av nv cv, .slice ac nc cc, .slice ah nh ch] 34)) := (Below.refl _ _).alloc (Nat.le_refl _) _
  have G0 : (w.alloc (.cells #[.int .i64 bl, .slice av nv cv, .slice ac nc cc, .slice ah nh ch] 34)).cell? ⟨w.heap.size, 0, none⟩ = some (.int .i64 bl) := by simp
  have G1 : (w.alloc (.cells #[.int .i64 bl, .slice av nv cv, .slice ac nc cc, .slice ah nh ch] 34)).cell? ⟨w.heap.size, 1, none⟩ = some (.slice av nv cv) := by simp
  have G2 : (w.alloc (.cells #[.int .i64 bl, .slice av nv cv, .slice ac nc cc, .slice ah nh ch] 34)).cell? ⟨w.heap.size, 2, none⟩ = some (.slice ac nc cc) := by simp
  have G3 : (w.alloc (.cells #[.int .i64 bl, .slice av nv cv, .slice ac nc cc, .slice ah nh ch] 34)).cell? ⟨w.heap.size, 3, none⟩ = some (.slice ah nh ch) := by simp
  go_enter Try.func84, Try.ntmps84
  by_cases hn1 : 1 < nh
  · have hi1 : (1 : Int) < (nh : Int) := by omega
    have HE : Hid (shFault bl sh = 1) := if_pos (by omega)
    go_wp2
    go_ret
    exact ⟨ret_int (by rw [← HD.out, HE.out]), A0⟩
  have hi1 : ¬ (1 : Int) < (nh : Int) := by omega
  go_wp2
  generalize hW : (w.alloc (.cells #[.int .i64 bl, .slice av nv cv, .slice ac nc cc, .slice ah nh ch] 34)) = W at *
  clear hW
  go_loopw [12] (fun i wr => ∃ k : Nat, k ≤ nh ∧ i = .int .i64 k ∧ (k = 1 → shFault bl sh = 0) ∧ Below W.heap.size W wr) (fun i _ => nh - (intOf i).toNat)
  case atStart => exact ⟨0, Nat.zero_le _, rfl, fun e => by omega, Below.refl _ _⟩
  case round =>
    obtain ⟨k, hk, rfl, ha, B⟩ := hrel
    have HA : Hid _ := ha
    clear ha
    have g0 := cell_later B G0
    by_cases hlt : k < nh
    · obtain rfl : k = 0 := by omega
      have HS : Hid (shFault bl sh = if 1 ≤ sh.getD 0 0 ∧ sh.getD 0 0 ≤ bl then 0 else 1) := by show _ = _; unfold shFault; rw [if_neg (by omega), if_neg (by omega)]
      obtain ⟨b, off, rfl, _, _, hbs, v0, _⟩ := h.sha.int hlt
      replace v0 := cell_later B (cell_later A0 v0)
      have hlk : ((0 : Nat) : Int) < (nh : Int) := by omega
      have hlk2 : (0 : Int) < (nh : Int) := by omega
      rw [Nat.add_zero] at v0
      obtain ⟨x, hx⟩ : ∃ x, sh.getD 0 0 = x := ⟨_, rfl⟩
      rw [hx] at v0 HS
      clear hx
      by_cases h1 : x < 1
      · have HE : Hid (shFault bl sh = 1) := HS.out.trans (if_neg (by omega))
        have hd1 : decide (x < 1) = true := decide_eq_true h1
        clear HS
        go_wp2
        go_ret
        exact ⟨ret_int (by rw [← HD.out, HE.out]), below_next A0 B⟩
      · have hd1 : decide (x < 1) = false := decide_eq_false h1
        by_cases h2 : bl < x
        · have HE : Hid (shFault bl sh = 1) := HS.out.trans (if_neg (by omega))
          have hd2 : decide (bl < x) = true := decide_eq_true h2
          clear HS
          go_wp2
          go_ret
          exact ⟨ret_int (by rw [← HD.out, HE.out]), below_next A0 B⟩
        · have HE : Hid (shFault bl sh = 0) := HS.out.trans (if_pos (by omega))
          have hd2 : decide (bl < x) = false := decide_eq_false h2
          clear HS
          go_wp2
          go_roundw
          case rel => exact ⟨0 + 1, by omega, by go_num, fun _ => HE.out, B⟩
          case measure => simp [intOf]; omega
    · obtain rfl : k = nh := by omega
      have HE : Hid (shFault bl sh = 0) := by
        show _ = _
        by_cases e : k = 1
        · exact HA.out e
        · unfold shFault; rw [if_neg (by omega), if_pos (by omega)]
      go_wp2
      go_ret
      exact ⟨ret_int (by rw [← HD.out, HE.out]), below_next A0 B⟩

set_option maxRecDepth 20000 in
set_option maxHeartbeats 4000000 in
theorem implPlF_is {o : Bool} {lo hi : Nat} (bl : Int) (av : Option Addr) (nv cv : Nat) (ac : Option Addr) (nc cc : Nat) (ah : Option Addr) (nh ch : Nat) (vs ce : List Vo) (sh : List Int) (w : World) (h : PlAt w o lo hi av nv cv ac nc cc ah nh ch vs ce sh) (hnv : nv ≤ 2097152) (hnc : nc ≤ 2097152) (hnh : nh ≤ 2097152) (d : Int) (hd : plFault bl vs ce sh = d) : Calls Try.prog 26 #[.agg #[.int .i64 bl, .slice av nv cv, .slice ac nc cc, .slice ah nh ch]] w fun e w' => e = .returned (.int .i64 d) ∧ Below w.heap.size w w' := by
  have hvl := h.vol.nTrips
  have hcl := h.cel.nTrips
  have HD : Hid _ := hd
  clear hd
  by_cases hb : 0 ≤ bl ∧ bl ≤ 24
  rotate_left 1
  · have HE : Hid (plFault bl vs ce sh = 3) := pl_3 hb
    by_cases hb0 : bl < 0
    · have hd0 : decide (bl < 0) = true := decide_eq_true hb0
      go_enter Try.func26, Try.ntmps26
      go_wp2_with (first | ((with_reducible refine box_new 34 #[.int .i64 bl, .slice av nv cv, .slice ac nc cc, .slice ah nh ch] rfl ?_); intro b0 W0 N0; have O0 : Hid (w.heap.size ≤ b0) := N0.ge; have B := N0.below; have H0 : Hid (b0 < W0.heap.size) := N0.lt; have c0_0 : W0.cell? ⟨b0, 0, none⟩ = some (.int .i64 bl) := N0.cell 0 _ rfl; have c0_1 : W0.cell? ⟨b0, 1, none⟩ = some (.slice av nv cv) := N0.cell 1 _ rfl; have c0_2 : W0.cell? ⟨b0, 2, none⟩ = some (.slice ac nc cc) := N0.cell 2 _ rfl; have c0_3 : W0.cell? ⟨b0, 3, none⟩ = some (.slice ah nh ch) := N0.cell 3 _ rfl; clear N0))
      go_wp2
      go_ret
      exact ⟨ret_int (by rw [← HD.out, HE.out]), B⟩
    · have hd0 : decide (bl < 0) = false := decide_eq_false hb0
      have hd1 : decide (24 < bl) = true := decide_eq_true (by omega)
      go_enter Try.func26, Try.ntmps26
      go_wp2_with (first | ((with_reducible refine box_new 34 #[.int .i64 bl, .slice av nv cv, .slice ac nc cc, .slice ah nh ch] rfl ?_); intro b0 W0 N0; have O0 : Hid (w.heap.size ≤ b0) := N0.ge; have B := N0.below; have H0 : Hid (b0 < W0.heap.size) := N0.lt; have c0_0 : W0.cell? ⟨b0, 0, none⟩ = some (.int .i64 bl) := N0.cell 0 _ rfl; have c0_1 : W0.cell? ⟨b0, 1, none⟩ = some (.slice av nv cv) := N0.cell 1 _ rfl; have c0_2 : W0.cell? ⟨b0, 2, none⟩ = some (.slice ac nc cc) := N0.cell 2 _ rfl; have c0_3 : W0.cell? ⟨b0, 3, none⟩ = some (.slice ah nh ch) := N0.cell 3 _ rfl; clear N0))
      go_wp2
      go_ret
      exact ⟨ret_int (by rw [← HD.out, HE.out]), B⟩
  have hd0 : decide (bl < 0) = false := decide_eq_false (by omega)
  have hd1 : decide (24 < bl) = false := decide_eq_false (by omega)
  by_cases h6 : 6 < nv
  · have h6i : (6 : Int) < (nv : Int) := by omega
    have HE : Hid (plFault bl vs ce sh = 2) := pl_2 hb (by omega)
    go_enter Try.func26, Try.ntmps26
    go_wp2_with (first | ((with_reducible refine box_new 34 #[.int .i64 bl, .slice av nv cv, .slice ac nc cc, .slice ah nh ch] rfl ?_); intro b0 W0 N0; have O0 : Hid (w.heap.size ≤ b0) := N0.ge; have B := N0.below; have H0 : Hid (b0 < W0.heap.size) := N0.lt; have c0_0 : W0.cell? ⟨b0, 0, none⟩ = some (.int .i64 bl) := N0.cell 0 _ rfl; have c0_1 : W0.cell? ⟨b0, 1, none⟩ = some (.slice av nv cv) := N0.cell 1 _ rfl; have c0_2 : W0.cell? ⟨b0, 2, none⟩ = some (.slice ac nc cc) := N0.cell 2 _ rfl; have c0_3 : W0.cell? ⟨b0, 3, none⟩ = some (.slice ah nh ch) := N0.cell 3 _ rfl; clear N0))
    go_wp2
    go_ret
    exact ⟨ret_int (by rw [← HD.out, HE.out]), B⟩
  have h6i : ¬ (6 : Int) < (nv : Int) := by omega
  have HB : Hid _ := hb
  clear hb
  obtain ⟨c1, hc1⟩ : ∃ c, pvFault vs = c := ⟨_, rfl⟩
  have HC1 : Hid _ := hc1
  clear hc1
  go_enter Try.func26, Try.ntmps26
  go_wp2_with (first | ((with_reducible refine box_new 34 #[.int .i64 bl, .slice av nv cv, .slice ac nc cc, .slice ah nh ch] rfl ?_); intro b0 W0 N0; have O0 : Hid (w.heap.size ≤ b0) := N0.ge; have B := N0.below; have H0 : Hid (b0 < W0.heap.size) := N0.lt; have c0_0 : W0.cell? ⟨b0, 0, none⟩ = some (.int .i64 bl) := N0.cell 0 _ rfl; have c0_1 : W0.cell? ⟨b0, 1, none⟩ = some (.slice av nv cv) := N0.cell 1 _ rfl; have c0_2 : W0.cell? ⟨b0, 2, none⟩ = some (.slice ac nc cc) := N0.cell 2 _ rfl; have c0_3 : W0.cell? ⟨b0, 3, none⟩ = some (.slice ah nh ch) := N0.cell 3 _ rfl; clear N0) | fail)
  refine (plainVols_is av nv cv vs _ (h.vol.below B) hnv c1 HC1.out).mono ?_
  rintro e w1 ⟨rfl, BB⟩
  replace c0_0 := cell_later BB c0_0
  replace c0_1 := cell_later BB c0_1
  replace c0_2 := cell_later BB c0_2
  replace c0_3 := cell_later BB c0_3
  replace H0 : Hid (b0 < w1.heap.size) := Nat.lt_of_lt_of_le H0.out BB.size
  replace B := below_next B BB
  clear BB
  by_cases z1 : c1 = 0
  rotate_left 1
  · have hz : (c1 != 0) = true := by simp [z1]
    have HE : Hid (plFault bl vs ce sh = c1) := by show _ = _; rw [pl_v HB.out (by omega) (by rw [HC1.out]; exact z1), HC1.out]
    go_wp2
    go_ret
    exact ⟨ret_int (by rw [← HD.out, HE.out]), B⟩
  have hz1 : (c1 != 0) = false := by simp [z1]
  subst z1
  by_cases h96 : 96 < nc
  · have h96i : (96 : Int) < (nc : Int) := by omega
    have HE : Hid (plFault bl vs ce sh = 2) := pl_2c HB.out (by omega) HC1.out (by omega)
    go_wp2
    go_ret
    exact ⟨ret_int (by rw [← HD.out, HE.out]), B⟩
  have h96i : ¬ (96 : Int) < (nc : Int) := by omega
  obtain ⟨c2, hc2⟩ : ∃ c, ceFault vs ce = c := ⟨_, rfl⟩
  have HC2 : Hid _ := hc2
  clear hc2
  go_wp2_with fail
  refine (cellsFault_is bl av nv cv ac nc cc ah nh ch vs ce sh _ (h.below B) hnv hnc c2 HC2.out).mono ?_
  rintro e w2 ⟨rfl, BB⟩
  replace c0_0 := cell_later BB c0_0
  replace c0_1 := cell_later BB c0_1
  replace c0_2 := cell_later BB c0_2
  replace c0_3 := cell_later BB c0_3
  replace H0 : Hid (b0 < w2.heap.size) := Nat.lt_of_lt_of_le H0.out BB.size
  replace B := below_next B BB
  clear BB
  by_cases z2 : c2 = 0
  rotate_left 1
  · have hz : (c2 != 0) = true := by simp [z2]
    have HE : Hid (plFault bl vs ce sh = c2) := by show _ = _; rw [pl_c HB.out (by omega) HC1.out (by omega) (by rw [HC2.out]; exact z2), HC2.out]
    go_wp2
    go_ret
    exact ⟨ret_int (by rw [← HD.out, HE.out]), B⟩
  have hz2 : (c2 != 0) = false := by simp [z2]
  subst z2
  have HQ : Hid _ := pl_q (sh := sh) HB.out (by omega) HC1.out (by omega) HC2.out
  obtain ⟨c3, hc3⟩ : ∃ c, quFault vs ce = c := ⟨_, rfl⟩
  rw [hc3] at HQ
  have HC3 : Hid _ := hc3
  clear hc3
  go_wp2_with fail
  refine (quotaFault_is bl av nv cv ac nc cc ah nh ch vs ce sh _ (h.below B) hnv hnc c3 HC3.out).mono ?_
  rintro e w3 ⟨rfl, BB⟩
  replace c0_0 := cell_later BB c0_0
  replace c0_1 := cell_later BB c0_1
  replace c0_2 := cell_later BB c0_2
  replace c0_3 := cell_later BB c0_3
  replace H0 : Hid (b0 < w3.heap.size) := Nat.lt_of_lt_of_le H0.out BB.size
  replace B := below_next B BB
  clear BB
  by_cases z3 : c3 = 0
  rotate_left 1
  · have hz : (c3 != 0) = true := by simp [z3]
    have HE : Hid (plFault bl vs ce sh = c3) := HQ.out.trans (if_neg z3)
    go_wp2
    go_ret
    exact ⟨ret_int (by rw [← HD.out, HE.out]), B⟩
  have hz3 : (c3 != 0) = false := by simp [z3]
  subst z3
  have HE : Hid (shFault bl sh = d) := by show _ = _; rw [← HD.out, HQ.out]; rfl
  go_wp2_with fail
  refine (sharesFault_is bl av nv cv ac nc cc ah nh ch vs ce sh _ (h.below B) hnh d HE.out).mono ?_
  rintro e w4 ⟨rfl, BB⟩
  replace c0_0 := cell_later BB c0_0
  replace c0_1 := cell_later BB c0_1
  replace c0_2 := cell_later BB c0_2
  replace c0_3 := cell_later BB c0_3
  replace H0 : Hid (b0 < w4.heap.size) := Nat.lt_of_lt_of_le H0.out BB.size
  replace B := below_next B BB
  clear BB
  go_wp2
  go_ret
  exact ⟨rfl, B⟩

end Go.Proofs.Ytcbfmjanjciodaa

/- Chapter 6: the model's fault of a plain pool. -/
namespace Go.Proofs.Ytcbfmjanjciodaa
open Go.RowKit

section
variable {o2 : Bool} {l2 u2 : Nat} (p : Nat) (av : Option Addr) (nv cv : Nat) (vs : List Vo) (w : World) (hv : RowAt w o2 l2 u2 3 av nv cv (trips vs)) (hp1 : w.cell? ⟨p, 1, none⟩ = some (.slice av nv cv)) (hvn : nv ≤ 2097152)
include hv hp1 hvn
set_option maxRecDepth 20000 in
set_option maxHeartbeats 4000000 in
theorem l6Vol_is (id : Int) (d : Int) (hd : volPl vs id = d) : Calls Try.prog 112 #[.pointer (some ⟨p, 0, none⟩), .int .i64 id] w fun e w' => e = .returned (.int .i64 d) ∧ w' = w := by
  have hvl := hv.nTrips
  have HD : Hid _ := hd
  clear hd
  go_enter Try.func112, Try.ntmps112
  go_wp2
  go_loopw [5] (fun i wr => ∃ k : Nat, k ≤ nv ∧ i = .int .i64 k ∧ volPl vs id = volFrom vs id (nv - k) k ∧ wr = w) (fun i _ => nv - (intOf i).toNat)
  case atStart => exact ⟨0, Nat.zero_le _, rfl, by rw [Nat.sub_zero, ← hvl]; rfl, rfl⟩
  case round =>
    obtain ⟨k, hk, rfl, ha, rfl⟩ := hrel
    have HA : Hid _ := ha
    clear ha
    by_cases hlt : k < nv
    · have HS : Hid _ := volFrom_step (vs := vs) (id := id) (k := k) (by omega)
      rw [hvl] at HS
      obtain ⟨b, off, rfl, _, _, hbs, v0, _, _, _⟩ := hv.trip hlt
      have hlk : (k : Int) < (nv : Int) := by omega
      obtain ⟨x, hx⟩ : ∃ x, (vs.getD k vo0).1 = x := ⟨_, rfl⟩
      rw [hx] at v0 HS
      clear hx
      by_cases he : x = id
      · have hd0 : (x == id) = true := by simp [he]
        have HE : Hid (volPl vs id = (k : Int)) := HA.out.trans (HS.out.trans (if_pos he))
        clear HS HA
        subst he
        go_wp2
        go_ret
        exact ⟨ret_int (by rw [← HD.out, HE.out]), rfl⟩
      · have hd0 : (x == id) = false := by simp [he]
        have hd1 : decide (x = id) = false := decide_eq_false he
        have HE : Hid _ := HA.out.trans (HS.out.trans (if_neg he))
        clear HS HA
        go_wp2
        go_roundw
        case rel => exact ⟨k + 1, by omega, by go_num, HE.out, trivial⟩
        case measure => simp [intOf]; omega
    · obtain rfl : k = nv := by omega
      have HE : Hid (volPl vs id = -1) := by show _ = _; rw [HA.out, ← hvl]; exact volFrom_end (Nat.le_refl _)
      go_wp2
      go_ret
      exact ⟨ret_int (by rw [← HD.out, HE.out]), rfl⟩
set_option maxRecDepth 20000 in
set_option maxHeartbeats 4000000 in
theorem l6Vols_is (d : Int) (hd : pvFault vs = d) : Calls Try.prog 99 #[.pointer (some ⟨p, 0, none⟩)] w fun e w' => e = .returned (.int .i64 d) ∧ Below w.heap.size w w' := by
  have hvl := hv.nTrips
  have HD : Hid _ := hd
  clear hd
  go_enter Try.func99, Try.ntmps99
  go_wp2
  go_loopw [3] (fun i wr => ∃ k : Nat, k ≤ nv ∧ i = .int .i64 k ∧ pvFault vs = pvFrom vs (nv - k) k ∧ Below w.heap.size w wr) (fun i _ => nv - (intOf i).toNat)
  case atStart => exact ⟨0, Nat.zero_le _, rfl, by rw [Nat.sub_zero, ← hvl]; rfl, Below.refl _ _⟩
  case round =>
    obtain ⟨k, hk, rfl, ha, B⟩ := hrel
    have HA : Hid _ := ha
    clear ha
    have g1 := cell_later B hp1
    by_cases hlt : k < nv
    rotate_left 1
    · obtain rfl : k = nv := by omega
      have HE : Hid (pvFault vs = 0) := by show _ = _; rw [HA.out, ← hvl]; exact pvFrom_end (Nat.le_refl _)
      go_wp2
      go_ret
      exact ⟨ret_int (by rw [← HD.out, HE.out]), B⟩
    have HS : Hid _ := pvFrom_step (vs := vs) (k := k) (by omega)
    rw [hvl] at HS
    have hpre : Hid (∀ j, k = j + 1 → ∃ b off, av = some ⟨b, off, none⟩ ∧ wr.cell? ⟨b, off + j * 3, none⟩ = some (.int .i64 (idAhead vs k))) := fun j e => by
      obtain ⟨b, off, e1, _, _, hbs, c, _⟩ := hv.trip (i := j) (by omega)
      exact ⟨b, off, e1, by rw [e]; exact cell_later B c⟩
    have hpz : Hid (k = 0 → idAhead vs k = 0) := fun e => by rw [e]; rfl
    obtain ⟨b, off, rfl, _, _, hbs, v0, v1, v2, _⟩ := hv.trip hlt
    replace v0 := cell_later B v0
    replace v1 := cell_later B v1
    replace v2 := cell_later B v2
    have hlk : (k : Int) < (nv : Int) := by omega
    obtain ⟨⟨x, y, z⟩, hvo⟩ : ∃ v, vs.getD k vo0 = v := ⟨_, rfl⟩
    rw [hvo] at v0 v1 v2 HS
    simp only at v0 v1 v2
    clear hvo
    obtain ⟨a, hah⟩ : ∃ a, idAhead vs k = a := ⟨_, rfl⟩
    rw [hah] at hpre hpz HS
    clear hah
    have A : Below wr.heap.size wr (wr.alloc (.cells #[.int .i64 x, .int .i64 y, .int .i64 z] 149)) := (Below.refl _ _).alloc (Nat.le_refl _) _
    have x0 : (wr.alloc (.cells #[.int .i64 x, .int .i64 y, .int .i64 z] 149)).cell? ⟨wr.heap.size, 0, none⟩ = some (.int .i64 x) := by simp
    have x1 : (wr.alloc (.cells #[.int .i64 x, .int .i64 y, .int .i64 z] 149)).cell? ⟨wr.heap.size, 1, none⟩ = some (.int .i64 y) := by simp
    have x2 : (wr.alloc (.cells #[.int .i64 x, .int .i64 y, .int .i64 z] 149)).cell? ⟨wr.heap.size, 2, none⟩ = some (.int .i64 z) := by simp
    have g1' := cell_later A g1
    have C := below_step B B.size A
    have HBAD : Hid (pvOne a (x, y, z) ≠ 0 → pvFault vs = pvOne a (x, y, z)) := fun hx => by rw [HA.out, HS.out, if_neg hx]
    obtain ⟨b1, h1⟩ : ∃ b, volIdB x = b := ⟨_, rfl⟩
    obtain ⟨b2, h2⟩ : ∃ b, quotaB y = b := ⟨_, rfl⟩
    have H1 : Hid _ := h1
    have H2 : Hid _ := h2
    clear h1 h2
    go_wp2_with fail
    refine (l5Id_is x _ b1 H1.out).mono ?_
    rintro e _ ⟨rfl, rfl⟩
    cases b1 with
    | false =>
      have HE : Hid (pvFault vs = 3) := by
        have hx : pvOne a (x, y, z) = 3 := by unfold pvOne; simp [H1.out]
        show _ = _
        rw [HBAD.out (by rw [hx]; decide), hx]
      clear HBAD HS HA hpre hpz
      go_wp2
      go_ret
      exact ⟨ret_int (by rw [← HD.out, HE.out]), C⟩
    | true =>
      go_wp2_with fail
      refine (l1In_bool y 1 16 _ b2 H2.out).mono ?_
      rintro e _ ⟨rfl, rfl⟩
      cases b2 with
      | false =>
        have HE : Hid (pvFault vs = 3) := by
          have hx : pvOne a (x, y, z) = 3 := by unfold pvOne; simp [H2.out]
          show _ = _
          rw [HBAD.out (by rw [hx]; decide), hx]
        clear HBAD HS HA hpre hpz
        go_wp2
        go_ret
        exact ⟨ret_int (by rw [← HD.out, HE.out]), C⟩
      | true =>
        by_cases hz : z = -1
        rotate_left 1
        · have hzd : (z != -1) = true := by simp [hz]
          have HE : Hid (pvFault vs = 3) := by
            have hx : pvOne a (x, y, z) = 3 := by unfold pvOne; simp [hz]
            show _ = _
            rw [HBAD.out (by rw [hx]; decide), hx]
          clear HBAD HS HA hpre hpz hz
          go_wp2
          go_ret
          exact ⟨ret_int (by rw [← HD.out, HE.out]), C⟩
        have hzd : (z != -1) = false := by simp [hz]
        have HV : Hid (pvOne a (x, y, z) = if x ≤ a then 1 else 0) := by show _ = _; unfold pvOne; rw [if_pos (by simp [H1.out, H2.out, hz])]
        have hid : 1 ≤ x := by have := of_decide_eq_true H1.out; omega
        clear hz
        cases k with
        | zero =>
          have hle : ¬ x ≤ a := by have := hpz.out rfl; omega
          have HE : Hid (pvFault vs = pvFrom vs (nv - (0 + 1)) (0 + 1)) := by show _ = _; rw [HA.out, HS.out, HV.out, if_neg hle]; rfl
          clear HBAD HS HA hpre hpz HV
          have hz0 : decide ((0 : Int) < ((0 : Nat) : Int)) = false := rfl
          go_wp2_with fail
          go_quiet (fail)
          go_wp2
          go_roundw
          case rel => exact ⟨0 + 1, by omega, by go_num, HE.out, below_drewN C _⟩
          case measure => simp [intOf]; omega
        | succ j =>
          obtain ⟨bb, oo, e', hpc⟩ := hpre.out j rfl
          cases e'
          have hz0 : decide ((0 : Int) < ((j + 1 : Nat) : Int)) = true := decide_eq_true (by omega)
          have hz1 : (0 : Int) < ((j + 1 : Nat) : Int) := by omega
          have hw : IntKind.i64.wrap (((j + 1 : Nat) : Int) - 1) = (j : Int) := by rw [show ((j + 1 : Nat) : Int) - 1 = (j : Int) by omega]; exact wrapI_same _ (by omega)
          have hlj : (j : Int) < (nv : Int) := by omega
          have hpc' := cell_later A hpc
          by_cases hle : x ≤ a
          · have hd : decide (x ≤ a) = true := decide_eq_true hle
            have HE : Hid (pvFault vs = 1) := by show _ = _; rw [HBAD.out (by rw [HV.out, if_pos hle]; decide), HV.out, if_pos hle]
            clear HBAD HS HA HV hpre hpz
            go_wp2_with fail
            go_quiet (fail)
            go_wp2
            go_ret
            exact ⟨ret_int (by rw [← HD.out, HE.out]), below_drewN C _⟩
          · have hd : decide (x ≤ a) = false := decide_eq_false hle
            have HE : Hid (pvFault vs = pvFrom vs (nv - (j + 1 + 1)) (j + 1 + 1)) := by show _ = _; rw [HA.out, HS.out, HV.out, if_neg hle]; rfl
            clear HBAD HS HA HV hpre hpz
            go_wp2_with fail
            go_quiet (fail)
            go_wp2
            go_roundw
            case rel => exact ⟨j + 1 + 1, by omega, by go_num, HE.out, below_drewN C _⟩
            case measure => simp [intOf]; omega
end
set_option maxRecDepth 20000 in
set_option maxHeartbeats 4000000 in
theorem l6Ahead_is (x1 y1 z1 x y z : Int) (w : World) (q : Bool) (hq : aheadB (x1, y1, z1) (x, y, z) = q) : Calls Try.prog 181 #[.agg #[.int .i64 x1, .int .i64 y1, .int .i64 z1], .agg #[.int .i64 x, .int .i64 y, .int .i64 z]] w fun e w' => e = .returned (.bool q) ∧ Below w.heap.size w w' := by
  have A : Below w.heap.size w ((w.alloc (.cells #[.int .i64 x1, .int .i64 y1, .int .i64 z1] 130)).alloc (.cells #[.int .i64 x, .int .i64 y, .int .i64 z] 130)) := ((Below.refl _ _).alloc (Nat.le_refl _) _).alloc (by simp) _
  unfold aheadB at hq
  simp only at hq
  by_cases hx : x1 = x
  · have hb : (x1 != x) = false := by simp [hx]
    rw [if_pos hx] at hq
    subst hq
    clear hx
    go_enter Try.func181, Try.ntmps181
    go_wp2
    go_ret
    exact ⟨rfl, A⟩
  · have hb : (x1 != x) = true := by simp [hx]
    rw [if_neg hx] at hq
    subst hq
    clear hx
    go_enter Try.func181, Try.ntmps181
    go_wp2
    go_ret
    exact ⟨rfl, A⟩
set_option maxRecDepth 20000 in
set_option maxHeartbeats 4000000 in
theorem l6Count_is {o2 : Bool} {l2 u2 : Nat} (p : Nat) (ac : Option Addr) (nc cc : Nat) (ce : List Vo) (w : World) (hc : RowAt w o2 l2 u2 3 ac nc cc (trips ce)) (hp2 : w.cell? ⟨p, 2, none⟩ = some (.slice ac nc cc)) (hnc : nc ≤ 2097152) (x : Int) (d : Int) (hd : (inVol ce x : Int) = d) : Calls Try.prog 156 #[.pointer (some ⟨p, 0, none⟩), .int .i64 x] w fun e w' => e = .returned (.int .i64 d) ∧ w' = w := by
  have hcl := hc.nTrips
  have HD : Hid _ := hd
  clear hd
  go_enter Try.func156, Try.ntmps156
  go_wp2
  go_loopw [5, 6] (fun c i wr => ∃ m : Nat, m ≤ nc ∧ i = .int .i64 m ∧ c = .int .i64 (inVol (ce.take m) x : Nat) ∧ wr = w) (fun _ i _ => nc - (intOf i).toNat)
  case atStart => exact ⟨0, Nat.zero_le _, rfl, by simp [inVol], rfl⟩
  case round =>
    obtain ⟨m, hm, rfl, rfl, rfl⟩ := hrel
    by_cases hmt : m < nc
    · have HT : Hid _ := inVol_take (ce := ce) (k := m) (by omega) x
      have hle := inVol_le (ce.take m) x
      rw [List.length_take] at hle
      obtain ⟨b3, off3, rfl, _, _, hbs3, u0, _, _, _⟩ := hc.trip hmt
      have hlm : (m : Int) < (nc : Int) := by omega
      obtain ⟨p1, hp⟩ : ∃ x, (ce.getD m vo0).1 = x := ⟨_, rfl⟩
      rw [hp] at u0 HT
      clear hp
      obtain ⟨c, hcx⟩ : ∃ c, inVol (ce.take m) x = c := ⟨_, rfl⟩
      rw [hcx] at hle HT ⊢
      clear hcx
      have hw2 : IntKind.i64.wrap ((c : Int) + 1) = (c : Int) + 1 := wrapI_same _ (by omega)
      by_cases hpx : p1 = x
      · have hbx : (p1 == x) = true := by simp [hpx]
        have HE : Hid (inVol (ce.take (m + 1)) x = c + 1) := by show _ = _; rw [HT.out, if_pos hpx]
        clear HT hpx
        go_wp2
        go_roundw
        case rel => exact ⟨m + 1, by omega, by go_num, by rw [HE.out]; go_num, by first | rfl | trivial⟩
        case measure => simp [intOf]; omega
      · have hbx : (p1 == x) = false := by simp [hpx]
        have HE : Hid (inVol (ce.take (m + 1)) x = c) := by show _ = _; rw [HT.out, if_neg hpx]; rfl
        clear HT hpx
        go_wp2
        go_roundw
        case rel => exact ⟨m + 1, by omega, by go_num, by rw [HE.out], by first | rfl | trivial⟩
        case measure => simp [intOf]; omega
    · obtain rfl : m = nc := by omega
      have HX : Hid ((inVol (ce.take m) x : Int) = d) := by show _ = _; rw [show ce.take m = ce from List.take_of_length_le (by omega)]; exact HD.out
      go_wp2
      go_ret
      exact ⟨ret_int HX.out, rfl⟩
section
variable {o : Bool} {lo hi : Nat} (p : Nat) (bl : Int) (av : Option Addr) (nv cv : Nat) (ac : Option Addr) (nc cc : Nat) (ah : Option Addr) (nh ch : Nat) (vs ce : List Vo) (sh : List Int) (w : World) (h : PlAt w o lo hi av nv cv ac nc cc ah nh ch vs ce sh) (hp0 : w.cell? ⟨p, 0, none⟩ = some (.int .i64 bl)) (hp1 : w.cell? ⟨p, 1, none⟩ = some (.slice av nv cv)) (hp2 : w.cell? ⟨p, 2, none⟩ = some (.slice ac nc cc)) (hp3 : w.cell? ⟨p, 3, none⟩ = some (.slice ah nh ch)) (hnv : nv ≤ 2097152) (hnc : nc ≤ 2097152) (hnh : nh ≤ 2097152)
include h hp1 hp2 hnv hnc
set_option maxRecDepth 20000 in
set_option maxHeartbeats 4000000 in
theorem l6Cells_is (d : Int) (hd : ceFault vs ce = d) : Calls Try.prog 155 #[.pointer (some ⟨p, 0, none⟩)] w fun e w' => e = .returned (.int .i64 d) ∧ Below w.heap.size w w' := by
  have hcl := h.cel.nTrips
  have HD : Hid _ := hd
  clear hd
  go_enter Try.func155, Try.ntmps155
  go_wp2
  go_loopw [3] (fun i wr => ∃ k : Nat, k ≤ nc ∧ i = .int .i64 k ∧ ceFault vs ce = ceFrom vs ce (nc - k) k ∧ Below w.heap.size w wr) (fun i _ => nc - (intOf i).toNat)
  case atStart => exact ⟨0, Nat.zero_le _, rfl, by rw [Nat.sub_zero, ← hcl]; rfl, Below.refl _ _⟩
  case round =>
    obtain ⟨k, hk, rfl, ha, B⟩ := hrel
    have HA : Hid _ := ha
    clear ha
    have g1 := cell_later B hp1
    have g2 := cell_later B hp2
    by_cases hlt : k < nc
    rotate_left 1
    · obtain rfl : k = nc := by omega
      have HE : Hid (ceFault vs ce = 0) := by show _ = _; rw [HA.out, ← hcl]; exact ceFrom_end (Nat.le_refl _)
      go_wp2
      go_ret
      exact ⟨ret_int (by rw [← HD.out, HE.out]), B⟩
    have HS : Hid _ := ceFrom_step (vs := vs) (ce := ce) (k := k) (by omega)
    rw [hcl] at HS
    have hpre : Hid (∀ j, k = j + 1 → ∃ b off, ac = some ⟨b, off, none⟩ ∧ wr.cell? ⟨b, off + j * 3, none⟩ = some (.int .i64 (ce.getD (k - 1) vo0).1) ∧ wr.cell? ⟨b, off + j * 3 + 1, none⟩ = some (.int .i64 (ce.getD (k - 1) vo0).2.1) ∧ wr.cell? ⟨b, off + j * 3 + 2, none⟩ = some (.int .i64 (ce.getD (k - 1) vo0).2.2)) := fun j e => by
      obtain ⟨b, off, e1, _, _, hbs, c0, c1, c2, _⟩ := h.cel.trip (i := j) (by omega)
      rw [show k - 1 = j by omega]
      exact ⟨b, off, e1, cell_later B c0, cell_later B c1, cell_later B c2⟩
    obtain ⟨b, off, rfl, _, _, hbs, v0, v1, v2, _⟩ := h.cel.trip hlt
    replace v0 := cell_later B v0
    replace v1 := cell_later B v1
    replace v2 := cell_later B v2
    have hlk : (k : Int) < (nc : Int) := by omega
    obtain ⟨⟨x, y, z⟩, hx⟩ : ∃ x, ce.getD k vo0 = x := ⟨_, rfl⟩
    obtain ⟨⟨x1, y1, z1⟩, hx1⟩ : ∃ x, ce.getD (k - 1) vo0 = x := ⟨_, rfl⟩
    rw [hx] at v0 v1 v2 HS
    rw [hx1] at hpre HS
    simp only at v0 v1 v2 HS hpre
    clear hx hx1
    have A : Below wr.heap.size wr (wr.alloc (.cells #[.int .i64 x, .int .i64 y, .int .i64 z] 130)) := (Below.refl _ _).alloc (Nat.le_refl _) _
    have C := below_step B B.size A
    have c0 : (wr.alloc (.cells #[.int .i64 x, .int .i64 y, .int .i64 z] 130)).cell? ⟨wr.heap.size, 0, none⟩ = some (.int .i64 x) := by simp
    have c1 : (wr.alloc (.cells #[.int .i64 x, .int .i64 y, .int .i64 z] 130)).cell? ⟨wr.heap.size, 1, none⟩ = some (.int .i64 y) := by simp
    have c2 : (wr.alloc (.cells #[.int .i64 x, .int .i64 y, .int .i64 z] 130)).cell? ⟨wr.heap.size, 2, none⟩ = some (.int .i64 z) := by simp
    have g1' := cell_later A g1
    have g2' := cell_later A g2
    have HBAD : Hid (ceOne vs k (x1, y1, z1) (x, y, z) ≠ 0 → ceFault vs ce = ceOne vs k (x1, y1, z1) (x, y, z)) := fun hx => by rw [HA.out, HS.out, if_neg hx]
    obtain ⟨b1, h1⟩ : ∃ b, spotB y = b := ⟨_, rfl⟩
    obtain ⟨b2, h2⟩ : ∃ b, dataB z = b := ⟨_, rfl⟩
    have H1 : Hid _ := h1
    have H2 : Hid _ := h2
    clear h1 h2
    go_wp2_with fail
    refine (l4Place_is y _ b1 H1.out).mono ?_
    rintro e _ ⟨rfl, rfl⟩
    cases b1 with
    | false =>
      have HE : Hid (ceFault vs ce = 3) := by
        have hx : ceOne vs k (x1, y1, z1) (x, y, z) = 3 := by unfold ceOne; simp [H1.out]
        show _ = _
        rw [HBAD.out (by rw [hx]; decide), hx]
      clear HBAD HS HA hpre
      go_wp2
      go_ret
      exact ⟨ret_int (by rw [← HD.out, HE.out]), C⟩
    | true =>
      go_wp2_with fail
      refine (l3Data_is z _ b2 H2.out).mono ?_
      rintro e _ ⟨rfl, rfl⟩
      cases b2 with
      | false =>
        have HE : Hid (ceFault vs ce = 3) := by
          have hx : ceOne vs k (x1, y1, z1) (x, y, z) = 3 := by unfold ceOne; simp [H2.out]
          show _ = _
          rw [HBAD.out (by rw [hx]; decide), hx]
        clear HBAD HS HA hpre
        go_wp2
        go_ret
        exact ⟨ret_int (by rw [← HD.out, HE.out]), C⟩
      | true =>
        have HO : Hid (ceOne vs k (x1, y1, z1) (x, y, z) = if volPl vs x < 0 then 4 else if k = 0 then 0 else if aheadB (x1, y1, z1) (x, y, z) then 0 else 1) := by show _ = _; unfold ceOne; rw [if_pos (by simp [H1.out, H2.out])]
        obtain ⟨pl, hpl⟩ : ∃ pl, volPl vs x = pl := ⟨_, rfl⟩
        rw [hpl] at HO
        have HP : Hid _ := hpl
        clear hpl
        go_wp2_with fail
        refine (l6Vol_is p av nv cv vs _ ((h.vol.below B).below A) g1' hnv x pl HP.out).mono ?_
        rintro e _ ⟨rfl, rfl⟩
        by_cases hp1 : pl < 0
        · have HE : Hid (ceFault vs ce = 4) := by
            have hx : ceOne vs k (x1, y1, z1) (x, y, z) = 4 := by rw [HO.out, if_pos (by omega)]
            show _ = _
            rw [HBAD.out (by rw [hx]; decide), hx]
          clear HBAD HS HA hpre HO
          go_wp2
          go_ret
          exact ⟨ret_int (by rw [← HD.out, HE.out]), C⟩
        · replace HO : Hid (ceOne vs k (x1, y1, z1) (x, y, z) = if k = 0 then 0 else if aheadB (x1, y1, z1) (x, y, z) then 0 else 1) := HO.out.trans (if_neg (by omega))
          generalize hW2 : (wr.alloc (.cells #[.int .i64 x, .int .i64 y, .int .i64 z] 130)) = W2 at *
          clear hW2
          cases k with
          | zero =>
            have HE : Hid (ceFault vs ce = ceFrom vs ce (nc - (0 + 1)) (0 + 1)) := by show _ = _; rw [HA.out, HS.out, HO.out]; rfl
            clear HBAD HS HA hpre HO
            have hz0 : decide ((0 : Int) < ((0 : Nat) : Int)) = false := rfl
            go_wp2_with fail
            go_quiet (fail)
            go_wp2
            go_roundw
            case rel => exact ⟨0 + 1, by omega, by go_num, HE.out, below_drewN C _⟩
            case measure => simp [intOf]; omega
          | succ j =>
            obtain ⟨bb, oo, e', p0, p1, p2⟩ := hpre.out j rfl
            cases e'
            replace p0 := cell_later A p0
            replace p1 := cell_later A p1
            replace p2 := cell_later A p2
            have hz0 : decide ((0 : Int) < ((j + 1 : Nat) : Int)) = true := decide_eq_true (by omega)
            have hz1 : (0 : Int) < ((j + 1 : Nat) : Int) := by omega
            have hw : IntKind.i64.wrap (((j + 1 : Nat) : Int) - 1) = (j : Int) := by rw [show ((j + 1 : Nat) : Int) - 1 = (j : Int) by omega]; exact wrapI_same _ (by omega)
            have hlj : (j : Int) < (nc : Int) := by omega
            have hw2 : IntKind.i64.wrap (j : Int) = (j : Int) := wrapI_same _ (by omega)
            have hw3 : IntKind.i64.wrap ((j : Int) + 1 - 1) = (j : Int) := by rw [show (j : Int) + 1 - 1 = (j : Int) by omega]; exact hw2
            obtain ⟨q, hq⟩ : ∃ q, aheadB (x1, y1, z1) (x, y, z) = q := ⟨_, rfl⟩
            have HQ : Hid _ := hq
            rw [hq] at HO
            clear hq hpre
            clear g1 g2 v0 v1 v2 g1' A B
            have D : Below W2.heap.size W2 W2.drew := (Below.refl _ _).drew
            replace c0 := cell_later D c0
            replace c1 := cell_later D c1
            replace c2 := cell_later D c2
            replace g2' := cell_later D g2'
            replace p0 := cell_later D p0
            replace p1 := cell_later D p1
            replace p2 := cell_later D p2
            replace C := below_step C C.size D
            clear D
            go_wp2_with fail
            go_region_held3 (fun w' => w'.cell? ⟨wr.heap.size, 0, none⟩ = some (.int .i64 x) ∧ w'.cell? ⟨wr.heap.size, 1, none⟩ = some (.int .i64 y) ∧ w'.cell? ⟨wr.heap.size, 2, none⟩ = some (.int .i64 z) ∧ w'.cell? ⟨p, 2, none⟩ = some (.slice (some ⟨b, off, none⟩) nc cc) ∧ w'.cell? ⟨b, off + j * 3, none⟩ = some (.int .i64 x1) ∧ w'.cell? ⟨b, off + j * 3 + 1, none⟩ = some (.int .i64 y1) ∧ w'.cell? ⟨b, off + j * 3 + 2, none⟩ = some (.int .i64 z1)) (with_reducible exact ⟨c0, c1, c2, g2', p0, p1, p2⟩)
              (first | (go_at_call 181; (with_reducible refine (l6Ahead_is x1 y1 z1 x y z _ q HQ.out).mono ?_); rintro e w7 ⟨rfl, B5⟩; replace c0 := cell_later B5 c0; replace c1 := cell_later B5 c1; replace c2 := cell_later B5 c2; replace g2' := cell_later B5 g2'; replace p0 := cell_later B5 p0; replace p1 := cell_later B5 p1; replace p2 := cell_later B5 p2; replace C := below_step C C.size B5; clear B5))
            cases q with
            | false =>
              have HE : Hid (ceFault vs ce = 1) := by
                have hx : ceOne vs (j + 1) (x1, y1, z1) (x, y, z) = 1 := HO.out
                show _ = _
                rw [HBAD.out (by rw [hx]; decide), hx]
              clear HBAD HS HA HO
              go_wp2
              go_ret
              exact ⟨ret_int (by rw [← HD.out, HE.out]), C⟩
            | true =>
              have HE : Hid (ceFault vs ce = ceFrom vs ce (nc - (j + 1 + 1)) (j + 1 + 1)) := by show _ = _; rw [HA.out, HS.out, HO.out]; rfl
              clear HBAD HS HA HO
              go_wp2
              go_roundw
              case rel => exact ⟨j + 1 + 1, by omega, by go_num, HE.out, C⟩
              case measure => simp [intOf]; omega
include hp0 hp3 hnh
set_option maxRecDepth 20000 in
set_option maxHeartbeats 4000000 in
theorem l6Fault_is (d : Int) (hd : plFault bl vs ce sh = d) : Calls Try.prog 79 #[.pointer (some ⟨p, 0, none⟩)] w fun e w' => e = .returned (.int .i64 d) ∧ Below w.heap.size w w' := by
  have hvl := h.vol.nTrips
  have hcl := h.cel.nTrips
  have hsl := h.sha.nInts
  have HD : Hid _ := hd
  clear hd
  go_enter Try.func79, Try.ntmps79
  go_wp2_with fail
  by_cases hb : 0 ≤ bl ∧ bl ≤ 24
  rotate_left 1
  · refine (l1In_bool bl 0 24 _ false (decide_eq_false hb)).mono ?_
    rintro e w ⟨rfl, rfl⟩
    have HE : Hid (plFault bl vs ce sh = 3) := pl_3 hb
    go_wp2
    go_ret
    exact ⟨ret_int (by rw [← HD.out, HE.out]), Below.refl _ _⟩
  refine (l1In_bool bl 0 24 _ true (decide_eq_true hb)).mono ?_
  rintro e w ⟨rfl, rfl⟩
  have HB : Hid _ := hb
  clear hb
  by_cases h6 : 6 < nv
  · have h6i : (6 : Int) < (nv : Int) := by omega
    have HE : Hid (plFault bl vs ce sh = 2) := pl_2 HB.out (by omega)
    go_wp2
    go_ret
    exact ⟨ret_int (by rw [← HD.out, HE.out]), Below.refl _ _⟩
  have h6i : ¬ (6 : Int) < (nv : Int) := by omega
  obtain ⟨c1, hc1⟩ : ∃ c, pvFault vs = c := ⟨_, rfl⟩
  have HC1 : Hid _ := hc1
  clear hc1
  go_wp2_with fail
  refine (l6Vols_is p av nv cv vs _ h.vol hp1 hnv c1 HC1.out).mono ?_
  rintro e w1 ⟨rfl, B⟩
  have g2 := cell_later B hp2
  by_cases z1 : c1 = 0
  rotate_left 1
  · have hz : (c1 != 0) = true := by simp [z1]
    have HE : Hid (plFault bl vs ce sh = c1) := by show _ = _; rw [pl_v HB.out (by omega) (by rw [HC1.out]; exact z1), HC1.out]
    go_wp2
    go_ret
    exact ⟨ret_int (by rw [← HD.out, HE.out]), B⟩
  have hz1 : (c1 != 0) = false := by simp [z1]
  subst z1
  by_cases h96 : 96 < nc
  · have h96i : (96 : Int) < (nc : Int) := by omega
    have HE : Hid (plFault bl vs ce sh = 2) := pl_2c HB.out (by omega) HC1.out (by omega)
    go_wp2
    go_ret
    exact ⟨ret_int (by rw [← HD.out, HE.out]), B⟩
  have h96i : ¬ (96 : Int) < (nc : Int) := by omega
  obtain ⟨c2, hc2⟩ : ∃ c, ceFault vs ce = c := ⟨_, rfl⟩
  have HC2 : Hid _ := hc2
  clear hc2
  go_wp2_with fail
  refine (l6Cells_is p av nv cv ac nc cc ah nh ch vs ce sh _ (h.below B) (cell_later B hp1) g2 hnv hnc c2 HC2.out).mono ?_
  rintro e w2 ⟨rfl, B2⟩
  replace B := below_step B B.size B2
  clear B2 g2
  by_cases z2 : c2 = 0
  rotate_left 1
  · have hz : (c2 != 0) = true := by simp [z2]
    have HE : Hid (plFault bl vs ce sh = c2) := by show _ = _; rw [pl_c HB.out (by omega) HC1.out (by omega) (by rw [HC2.out]; exact z2), HC2.out]
    go_wp2
    go_ret
    exact ⟨ret_int (by rw [← HD.out, HE.out]), B⟩
  have hz2 : (c2 != 0) = false := by simp [z2]
  subst z2
  have HQ : Hid _ := pl_q (sh := sh) HB.out (by omega) HC1.out (by omega) HC2.out
  go_wp2
  go_loopw [5] (fun i wr => ∃ k : Nat, k ≤ nv ∧ i = .int .i64 k ∧ quFault vs ce = quFrom vs ce (nv - k) k ∧ Below w.heap.size w wr) (fun i _ => nv - (intOf i).toNat)
  case atStart => exact ⟨0, Nat.zero_le _, rfl, by rw [Nat.sub_zero, ← hvl]; rfl, B⟩
  case round =>
    clear B
    obtain ⟨k, hk, rfl, ha, B⟩ := hrel
    have HA : Hid _ := ha
    clear ha
    have g0 := cell_later B hp0
    have g1 := cell_later B hp1
    have g2 := cell_later B hp2
    have g3 := cell_later B hp3
    by_cases hlt : k < nv
    · have HS : Hid _ := quFrom_step (vs := vs) (ce := ce) (k := k) (by omega)
      rw [hvl] at HS
      obtain ⟨b, off, rfl, _, _, hbs, v0, v1, v2, _⟩ := h.vol.trip hlt
      replace v0 := cell_later B v0
      replace v1 := cell_later B v1
      have hlk : (k : Int) < (nv : Int) := by omega
      obtain ⟨⟨x, y, z⟩, hx⟩ : ∃ x, vs.getD k vo0 = x := ⟨_, rfl⟩
      rw [hx] at v0 v1 HS
      simp only at v0 v1 HS
      clear hx
      obtain ⟨c, hc⟩ : ∃ c, (inVol ce x : Int) = c := ⟨_, rfl⟩
      rw [hc] at HS
      have HC : Hid _ := hc
      clear hc
      have HR : Hid _ := h.cel.below B
      by_cases hq : y < c
      · have hqd : decide (y < c) = true := decide_eq_true hq
        have HE : Hid (plFault bl vs ce sh = 9) := by
          have : quFault vs ce = 9 := HA.out.trans (HS.out.trans (if_pos hq))
          show _ = _
          rw [HQ.out, this]; rfl
        clear HA HS
        go_wp2_with fail
        go_quiet (first | (go_at_call 156; refine Calls.quiet_of_same (l6Count_is p ac nc cc ce _ (HR.out.below (below_drewN (Below.refl _ _) _)) g2 hnc x c HC.out)))
        go_wp2
        go_ret
        exact ⟨ret_int (by rw [← HD.out, HE.out]), below_drewN B _⟩
      · have hqd : decide (y < c) = false := decide_eq_false hq
        have HE : Hid _ := HA.out.trans (HS.out.trans (if_neg hq))
        clear HA HS
        go_wp2_with fail
        go_quiet (first | (go_at_call 156; refine Calls.quiet_of_same (l6Count_is p ac nc cc ce _ (HR.out.below (below_drewN (Below.refl _ _) _)) g2 hnc x c HC.out)))
        go_wp2
        go_roundw
        case rel => exact ⟨k + 1, by omega, by go_num, HE.out, below_drewN B _⟩
        case measure => simp [intOf]; omega
    · obtain rfl : k = nv := by omega
      have HS : Hid (plFault bl vs ce sh = shFault bl sh) := by
        have : quFault vs ce = 0 := by rw [HA.out, ← hvl]; exact quFrom_end (Nat.le_refl _)
        show _ = _
        rw [HQ.out, if_pos this]
      clear HA HQ
      by_cases hn1 : 1 < nh
      · have hi1 : decide ((1 : Int) < (nh : Int)) = true := decide_eq_true (by omega)
        have HE : Hid (plFault bl vs ce sh = 1) := HS.out.trans (if_pos (by omega))
        go_wp2_with fail
        go_quiet (fail)
        go_wp2
        go_ret
        exact ⟨ret_int (by rw [← HD.out, HE.out]), below_drewN B _⟩
      have hi1 : decide ((1 : Int) < (nh : Int)) = false := decide_eq_false (by omega)
      by_cases hn0 : nh = 1
      · subst hn0
        have hi2 : (((1 : Nat) : Int) == 1) = true := rfl
        replace HS : Hid (plFault bl vs ce sh = if 1 ≤ sh.getD 0 0 ∧ sh.getD 0 0 ≤ bl then 0 else 1) := by show _ = _; rw [HS.out]; unfold shFault; rw [if_neg (by omega), if_neg (by omega)]
        obtain ⟨b, off, rfl, _, _, hbs, v0, _⟩ := h.sha.int (show 0 < 1 by omega)
        replace v0 := cell_later B v0
        rw [Nat.add_zero] at v0
        obtain ⟨x, hx⟩ : ∃ x, sh.getD 0 0 = x := ⟨_, rfl⟩
        rw [hx] at v0 HS
        clear hx
        by_cases hq : 1 ≤ x ∧ x ≤ bl
        · have HE : Hid (plFault bl vs ce sh = 0) := HS.out.trans (if_pos hq)
          have HI : Hid _ := decide_eq_true hq
          clear hq
          go_wp2_with fail
          go_quiet (first | (go_at_call 98; refine Calls.quiet_of_same (l1In_bool x 1 bl _ true HI.out)))
          go_wp2
          go_ret
          exact ⟨ret_int (by rw [← HD.out, HE.out]), below_drewN B _⟩
        · have HE : Hid (plFault bl vs ce sh = 1) := HS.out.trans (if_neg hq)
          have HI : Hid _ := decide_eq_false hq
          clear hq
          go_wp2_with fail
          go_quiet (first | (go_at_call 98; refine Calls.quiet_of_same (l1In_bool x 1 bl _ false HI.out)))
          go_wp2
          go_ret
          exact ⟨ret_int (by rw [← HD.out, HE.out]), below_drewN B _⟩
      · have hi2 : ((nh : Int) == 1) = false := by simp; omega
        have HE : Hid (plFault bl vs ce sh = 0) := by show _ = _; rw [HS.out]; unfold shFault; rw [if_neg (by omega), if_pos (by omega)]
        go_wp2_with fail
        go_quiet (fail)
        go_wp2
        go_ret
        exact ⟨ret_int (by rw [← HD.out, HE.out]), below_drewN B _⟩
end
section
variable {o : Bool} {lo hi : Nat} (bl : Int) (av : Option Addr) (nv cv : Nat) (ac : Option Addr) (nc cc : Nat) (ah : Option Addr) (nh ch : Nat) (vs ce : List Vo) (sh : List Int) (w : World) (h : PlAt w o lo hi av nv cv ac nc cc ah nh ch vs ce sh) (hnv : nv ≤ 2097152) (hnc : nc ≤ 2097152) (hnh : nh ≤ 2097152)
include h hnv hnc hnh
theorem specPlF_is (d : Int) (hd : plFault bl vs ce sh = d) : Calls Try.prog 24 #[.agg #[.int .i64 bl, .slice av nv cv, .slice ac nc cc, .slice ah nh ch]] w fun e w' => e = .returned (.int .i64 d) ∧ Below w.heap.size w w' := by
  have A : Below w.heap.size w (w.alloc (.cells #[.int .i64 bl, .slice av nv cv, .slice ac nc cc, .slice ah nh ch] 34)) := (Below.refl _ _).alloc (Nat.le_refl _) _
  go_enter Try.func24, Try.ntmps24
  go_wp2_with fail
  refine (l6Fault_is w.heap.size bl av nv cv ac nc cc ah nh ch vs ce sh _ (h.below A) (by simp) (by simp) (by simp) (by simp) hnv hnc hnh d hd).mono ?_
  rintro e w1 ⟨rfl, B1⟩
  replace B1 := below_next A B1
  go_wp2
  go_ret
  exact ⟨rfl, B1⟩
end

end Go.Proofs.Ytcbfmjanjciodaa
