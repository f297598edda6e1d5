/- Lists of records: how they are compared, marked and held. -/
import Derived.Test.YtkpbmffklcgecaaK3
import Derived.Test.YtkpbmffklcgecaaMark2
import Derived.Test.YtkpbmffklcgecaaEq
namespace Go.Proofs.Ytkpbmffklcgecaa
open Go.RowKit

theorem RowAt.elem {w : World} {o : Bool} {l u : Nat} {ao : Option Addr} {n c : Nat} {vs : List Value} (h : RowAt w o l u 1 ao n c vs) {j : Nat} (hj : j < n) {x : Value} (hx : vs.getD j default = x) : ∃ b off, ao = some ⟨b, off, none⟩ ∧ b < w.heap.size ∧ w.cell? ⟨b, off + j, none⟩ = some x := by
  obtain ⟨b, off, rfl, _, _, hb, hc, _⟩ := h.cells (by omega)
  have hl := h.len
  refine ⟨b, off, rfl, hb, ?_⟩
  rw [hc j (by omega), ← hx]

def lens (rs : List (List Int)) (i : Nat) : Nat := ((rs.take i).map List.length).sum
theorem lens_succ {rs : List (List Int)} {i : Nat} (h : i < rs.length) : lens rs (i + 1) = lens rs i + (rs.getD i []).length := by
  unfold lens; rw [List.take_add_one, List.map_append, List.sum_append]; simp [List.getD, h]
theorem lens_le {rs : List (List Int)} (h : ∀ r ∈ rs, r.length ≤ 8) : ∀ i, lens rs i ≤ 8 * i := by
  intro i
  induction i with
  | zero => simp [lens]
  | succ i ih =>
    by_cases hi : i < rs.length
    · rw [lens_succ hi]
      have := h (rs.getD i []) (by simp [List.getD, hi])
      omega
    · have : lens rs (i + 1) = lens rs i := by unfold lens; rw [List.take_of_length_le (by omega), List.take_of_length_le (by omega)]
      omega
def mkL (rs : List (List Int)) (i : Nat) : List (List Int) := (List.range rs.length).map fun j => if j < i then marks (1 + (lens rs j : Int)) (rs.getD j []).length else rs.getD j []
theorem mkL_len (rs : List (List Int)) (i : Nat) : (mkL rs i).length = rs.length := by simp [mkL]
theorem mkL_getD (rs : List (List Int)) (i j : Nat) (h : j < rs.length) : (mkL rs i).getD j [] = if j < i then marks (1 + (lens rs j : Int)) (rs.getD j []).length else rs.getD j [] := by
  simp [mkL, List.getD, h]
theorem mkL_zero (rs : List (List Int)) : mkL rs 0 = rs := by
  refine List.ext_getElem (by simp [mkL]) fun i h1 h2 => ?_
  simp [mkL, List.getD, h2]

/-- records of an answer that is the call's own: each in its own block, none in the gathering slice's -/
structure RecsOwn (w : World) (lo : Nat) (v : Value) (vs : List Value) (rs : List (List Int)) : Prop where
  own : w.ownsRow lo 24 1 v rs.length vs
  but : RecsBut w lo v.ownBlock vs rs
  inc : Inc vs
theorem RecsOwn.below {w w' : World} {lo : Nat} {v : Value} {vs : List Value} {rs : List (List Int)} (h : RecsOwn w lo v vs rs) (hb : Below w.heap.size w w') : RecsOwn w' lo v vs rs := ⟨owns_below h.own hb, h.but.below hb, h.inc⟩
theorem RecsOwn.kept {w w' : World} {lo : Nat} {v : Value} {vs : List Value} {rs : List (List Int)} (h : RecsOwn w lo v vs rs) {x y : Nat} (hk : Kept x y w w') (hd : y ≤ lo ∨ w.heap.size ≤ x) : RecsOwn w' lo v vs rs := by
  refine ⟨owns_kept h.own hk fun k e => ?_, ⟨h.but.len, fun i hi => ?_⟩, h.inc⟩
  · have := h.own.lt k e; omega
  · obtain ⟨g, n, c, h1, h2, h3, h4, h5⟩ := h.but.each i hi
    exact ⟨g, n, c, h1, h2, h3, Nat.lt_of_lt_of_le h4 hk.size, h5.kept hk (by omega)⟩
theorem RecsOwn.step {w w' : World} {lo : Nat} {v : Value} {vs : List Value} {rs : List (List Int)} {i : Nat} (h : RecsOwn w lo v vs (mkL rs i)) (hi : i < rs.length) {g n c : Nat} (hv : vs.getD i default = .slice (some ⟨g, 0, none⟩) n c) (hk : Kept g (g + 1) w w') (hr : RowAt w' true g (g + 1) 1 (some ⟨g, 0, none⟩) n c (ints (marks (1 + (lens rs i : Int)) (rs.getD i []).length))) :
    RecsOwn w' lo v vs (mkL rs (i + 1)) := by
  have hl := h.but.len
  rw [mkL_len] at hl
  obtain ⟨gi, ni, ci, e1, e2, e3, e4, e5⟩ := h.but.each i (by rw [mkL_len]; exact hi)
  rw [hv] at e1
  obtain ⟨rfl⟩ : g = gi := by injection e1 with e1 _ _; injection e1 with e1; injection e1
  refine ⟨?_, ⟨by rw [mkL_len]; exact hl, fun j hj => ?_⟩, h.inc⟩
  · have := h.own
    rw [mkL_len] at this ⊢
    refine owns_kept this hk fun k e => ?_
    have : k ≠ g := fun e' => e2 (by rw [e, e'])
    omega
  · rw [mkL_len] at hj
    by_cases hji : j = i
    · subst hji
      refine ⟨g, n, c, hv, e2, e3, Nat.lt_of_lt_of_le e4 hk.size, ?_⟩
      rw [mkL_getD _ _ _ hj, if_pos (Nat.lt_succ_self _)]; exact hr
    · obtain ⟨gj, nj, cj, f1, f2, f3, f4, f5⟩ := h.but.each j (by rw [mkL_len]; exact hj)
      have hne : gj ≠ g := by
        rcases Nat.lt_or_gt_of_ne hji with hlt | hlt
        · have := h.inc j i hlt (by omega); rw [f1, hv] at this; exact Nat.ne_of_lt this
        · have := h.inc i j hlt (by omega); rw [f1, hv] at this; exact Nat.ne_of_gt this
      refine ⟨gj, nj, cj, f1, f2, f3, Nat.lt_of_lt_of_le f4 hk.size, ?_⟩
      rw [mkL_getD _ _ _ hj] at f5 ⊢
      have e : (if j < i + 1 then marks (1 + (lens rs j : Int)) (rs.getD j []).length else rs.getD j []) = (if j < i then marks (1 + (lens rs j : Int)) (rs.getD j []).length else rs.getD j []) := by
        by_cases h : j < i
        · rw [if_pos (by omega), if_pos h]
        · rw [if_neg (by omega), if_neg h]
      rw [e]
      exact f5.kept hk (by omega)

set_option maxRecDepth 20000 in
set_option maxHeartbeats 1000000 in
theorem markSS_any {lo hi : Nat} (a : Option Addr) (c : Nat) (vs : List Value) (rs : List (List Int)) (w : World) (h : RecsOwn w lo (.slice a rs.length c) vs rs) (hhi : ∀ j, j < rs.length → blkOf (vs.getD j default) < hi) (h8 : ∀ r ∈ rs, r.length ≤ 8) (hn : rs.length ≤ 64) :
    Calls Try.prog 105 #[.slice a rs.length c, .int .i64 1] w fun e w' => e = .returned (.int .i64 (1 + (lens rs rs.length : Int))) ∧ RecsOwn w' lo (.slice a rs.length c) vs (mkL rs rs.length) ∧ Kept lo hi w w' := by
  go_enter Try.func105, Try.ntmps105
  go_wp2
  go_loopw [1, 5] (fun q i wr => ∃ j : Nat, j ≤ rs.length ∧ i = .int .i64 j ∧ q = .int .i64 (1 + (lens rs j : Int)) ∧ RecsOwn wr lo (.slice a rs.length c) vs (mkL rs j) ∧ Kept lo hi w wr) (fun _ i _ => rs.length - (intOf i).toNat)
  case atStart => exact ⟨0, by omega, rfl, rfl, by rw [mkL_zero]; exact h, Kept.refl _ _ _⟩
  case round =>
    obtain ⟨j, hj, rfl, rfl, D, hk⟩ := hrel
    by_cases hlt : j < rs.length
    · have hlk : (j : Int) < (rs.length : Nat) := by omega
      obtain ⟨g, n, c', e1, e2, e3, e4, e5⟩ := D.but.each j (by rw [mkL_len]; exact hlt)
      have hgw : g < hi := by have := hhi j hlt; rw [e1] at this; exact this
      rw [mkL_getD _ _ _ hlt, if_neg (Nat.lt_irrefl _)] at e5
      have hnl : (rs.getD j []).length = n := e5.nInts
      have hn8 : n ≤ 8 := by rw [← hnl]; exact h8 _ (by simp [List.getD, hlt])
      have hle := lens_le h8 j
      obtain ⟨_, _, e0, R⟩ := RowAt.of_owned D.own
      rw [mkL_len] at e0 R
      cases e0
      obtain ⟨bo, fo, rfl, _, hc⟩ := R.elem hlt e1
      have HS : Hid _ := lens_succ hlt
      have HN : Hid _ := hnl
      have hst := fun (w' : World) => D.step (w' := w') hlt e1
      have HST : Hid _ := hst
      rw [hnl] at HS
      clear R hnl e1 hst
      generalize lens rs j = q at *
      go_wp2_with fail
      refine (markInts_any _ n c' (rs.getD j []) _ _ e5 (by omega) (by omega) (by omega)).mono ?_
      rintro e w1 ⟨rfl, r1, hk1⟩
      have D1 := HST.out w1 hk1 (by rw [HN.out]; exact r1)
      have hk2 := hk.trans (hk1.mono e3 hgw)
      clear r1 hk1 e5 hc HST D
      go_wp2
      go_roundw
      case rel => exact ⟨j + 1, by omega, by go_num, by rw [HS.out]; congr 1; omega, D1, hk2⟩
      case measure => simp [intOf]; omega
    · obtain rfl : j = rs.length := by omega
      have hlk : ¬ ((rs.length : Nat) : Int) < (rs.length : Nat) := by omega
      go_wp2
      go_ret
      exact ⟨rfl, D, hk⟩

set_option maxRecDepth 20000 in
set_option maxHeartbeats 1000000 in
theorem heldSS_any {lo : Nat} (a : Option Addr) (c : Nat) (vs : List Value) (rs : List (List Int)) (w : World) (h : RecsOwn w lo (.slice a rs.length c) vs (mkL rs rs.length)) (h8 : ∀ r ∈ rs, r.length ≤ 8) (hn : rs.length ≤ 64) :
    Calls Try.prog 106 #[.slice a rs.length c, .int .i64 1] w fun e w' => e = .returned (.int .i64 (1 + (lens rs rs.length : Int))) ∧ w' = w := by
  go_enter Try.func106, Try.ntmps106
  go_wp2
  go_loop [1, 5] (fun q i => ∃ j : Nat, j ≤ rs.length ∧ i = .int .i64 j ∧ q = .int .i64 (1 + (lens rs j : Int))) (fun _ i => rs.length - (intOf i).toNat)
  case atStart => exact ⟨0, by omega, rfl, rfl⟩
  case round =>
    obtain ⟨j, hj, rfl, rfl⟩ := hrel
    by_cases hlt : j < rs.length
    · have hlk : (j : Int) < (rs.length : Nat) := by omega
      obtain ⟨g, n, c', e1, e2, e3, e4, e5⟩ := h.but.each j (by rw [mkL_len]; exact hlt)
      rw [mkL_getD _ _ _ hlt, if_pos hlt] at e5
      have hnl : (rs.getD j []).length = n := by have := e5.nInts; rw [marks_len] at this; exact this
      rw [hnl] at e5
      have hn8 : n ≤ 8 := by rw [← hnl]; exact h8 _ (by simp [List.getD, hlt])
      have hle := lens_le h8 j
      obtain ⟨_, _, e0, R⟩ := RowAt.of_owned h.own
      rw [mkL_len] at e0 R
      cases e0
      obtain ⟨bo, fo, rfl, _, hc⟩ := R.elem hlt e1
      have HS : Hid _ := lens_succ hlt
      rw [hnl] at HS
      clear R hnl e1
      generalize lens rs j = q at *
      go_wp2_with fail
      refine (heldInts_any _ n c' _ _ e5 (by omega) (by omega) (by omega)).mono ?_
      rintro e w1 ⟨rfl, rfl⟩
      have hneg : ¬ ((1 : Int) + q + n < 0) := by omega
      clear e5 hc
      go_wp2
      go_round
      case rel => exact ⟨j + 1, by omega, by go_num, by rw [HS.out]; congr 1; omega⟩
      case measure => simp [intOf]; omega
    · obtain rfl : j = rs.length := by omega
      have hlk : ¬ ((rs.length : Nat) : Int) < (rs.length : Nat) := by omega
      go_wp2
      go_ret
      exact ⟨rfl, rfl⟩

set_option maxRecDepth 20000 in
set_option maxHeartbeats 2000000 in
theorem eqSS_yes {o1 o2 : Bool} {l1 u1 l2 u2 lo1 lo2 : Nat} (a1 a2 : Option Addr) (n c1 c2 : Nat) (vs1 vs2 : List Value) (rs : List (List Int)) (w : World) (r1 : RowAt w o1 l1 u1 1 a1 n c1 vs1) (q1 : RecsAt w lo1 vs1 rs) (r2 : RowAt w o2 l2 u2 1 a2 n c2 vs2) (q2 : RecsAt w lo2 vs2 rs) (hr : rs.length = n) (h8 : ∀ r ∈ rs, r.length ≤ 8) (hn : n ≤ 64) :
    Calls Try.prog 104 #[.slice a1 n c1, .slice a2 n c2] w fun e w' => e = .returned (.bool true) ∧ Below w.heap.size w w' := by
  have hnn : ((n : Int) != (n : Int)) = false := by simp
  go_enter Try.func104, Try.ntmps104
  go_wp2
  go_loopw [5] (fun i wr => ∃ j : Nat, j ≤ n ∧ i = .int .i64 j ∧ Below w.heap.size w wr) (fun i _ => n - (intOf i).toNat)
  case atStart => exact ⟨0, by omega, rfl, Below.refl _ _⟩
  case round =>
    obtain ⟨j, hj, rfl, hb⟩ := hrel
    by_cases hlt : j < n
    · have hlk : (j : Int) < (n : Nat) := by omega
      have D : Below wr.heap.size wr wr.drew := (Below.refl _ _).drew
      have hb := below_next hb D
      obtain ⟨x1, m1, d1, lx1, ux1, e1, _, _, g1⟩ := q1.each j (by omega)
      obtain ⟨x2, m2, d2, lx2, ux2, e2, _, _, g2⟩ := q2.each j (by omega)
      obtain ⟨b1, f1, rfl, _, k1⟩ := (r1.below hb).elem hlt e1
      obtain ⟨b2, f2, rfl, _, k2⟩ := (r2.below hb).elem hlt e2
      replace g1 := g1.below hb
      replace g2 := g2.below hb
      have hm1 : m1 ≤ 2097152 := by rw [← g1.nInts]; have := h8 (rs.getD j []) (by simp [List.getD, hr, hlt]); omega
      have hm2 : m2 ≤ 2097152 := by rw [← g2.nInts]; have := h8 (rs.getD j []) (by simp [List.getD, hr, hlt]); omega
      clear e1 e2 D
      generalize rs.getD j [] = r at *
      go_wp2_with fail
      go_region_held3 (fun w' => w'.cell? ⟨b1, f1 + j, none⟩ = some (.slice x1 m1 d1) ∧ w'.cell? ⟨b2, f2 + j, none⟩ = some (.slice x2 m2 d2)) (exact ⟨k1, k2⟩) (first | (go_at_call 35; refine (eqInts_is _ _ _ _ _ _ r r _ g1 g2 hm1 hm2 true (decide_eq_true rfl)).mono ?_; rintro e w3 ⟨rfl, hb3⟩; replace k1 := cell_later hb3 k1; replace k2 := cell_later hb3 k2; replace hb := below_next hb hb3; clear hb3))
      go_wp2
      go_roundw
      case rel => exact ⟨j + 1, by omega, by go_num, hb⟩
      case measure => simp [intOf]; omega
    · obtain rfl : j = n := by omega
      have hlk : ¬ ((j : Nat) : Int) < (j : Nat) := by omega
      go_wp2
      go_ret
      exact ⟨rfl, hb⟩

section
variable (cd u : Int)
set_option maxHeartbeats 1000000 in
theorem markRecs_any {lo hi : Nat} (a : Option Addr) (c : Nat) (vs : List Value) (rs : List (List Int)) (w : World) (h : RecsOwn w lo (.slice a rs.length c) vs rs) (hhi : ∀ j, j < rs.length → blkOf (vs.getD j default) < hi) (h8 : ∀ r ∈ rs, r.length ≤ 8) (hn : rs.length ≤ 64) :
    Calls Try.prog 65 #[.agg #[.int .i64 cd, .int .i64 u, .slice a rs.length c], .int .i64 1] w fun e w' => e = .returned (.int .i64 (1 + (lens rs rs.length : Int))) ∧ RecsOwn w' lo (.slice a rs.length c) vs (mkL rs rs.length) ∧ Kept lo hi w w' := by
  have A : Below w.heap.size w (w.alloc (.cells #[.int .i64 cd, .int .i64 u, .slice a rs.length c] 73)) := (Below.refl _ _).alloc (Nat.le_refl _) _
  go_enter Try.func65, Try.ntmps65
  go_wp2_with fail
  refine (markSS_any (lo := lo) (hi := hi) a c vs rs _ (by exact h.below A) hhi h8 hn).mono ?_
  rintro e w1 ⟨rfl, D, K⟩
  have K2 : Kept lo hi w w1 := (Kept.of_below A).trans K
  clear K A
  go_wp2
  go_ret
  exact ⟨rfl, D, K2⟩

set_option maxHeartbeats 1000000 in
theorem heldRecs_any {lo : Nat} (a : Option Addr) (c : Nat) (vs : List Value) (rs : List (List Int)) (w : World) (h : RecsOwn w lo (.slice a rs.length c) vs (mkL rs rs.length)) (h8 : ∀ r ∈ rs, r.length ≤ 8) (hn : rs.length ≤ 64) :
    Calls Try.prog 66 #[.agg #[.int .i64 cd, .int .i64 u, .slice a rs.length c], .int .i64 1] w fun e w' => e = .returned (.int .i64 (1 + (lens rs rs.length : Int))) ∧ Below w.heap.size w w' := by
  have A : Below w.heap.size w (w.alloc (.cells #[.int .i64 cd, .int .i64 u, .slice a rs.length c] 73)) := (Below.refl _ _).alloc (Nat.le_refl _) _
  have hneg : ¬ ((1 : Int) + (lens rs rs.length : Int) < 0) := by omega
  go_enter Try.func66, Try.ntmps66
  go_wp2_with fail
  refine (heldSS_any (lo := lo) a c vs rs _ (by exact h.below A) h8 hn).mono ?_
  rintro e w1 ⟨rfl, rfl⟩
  go_wp2
  go_ret
  exact ⟨rfl, A⟩

set_option maxHeartbeats 1000000 in
theorem eqRecs_yes {o1 o2 : Bool} {l1 u1 l2 u2 lo1 lo2 : Nat} (a1 a2 : Option Addr) (n c1 c2 : Nat) (vs1 vs2 : List Value) (rs : List (List Int)) (w : World) (r1 : RowAt w o1 l1 u1 1 a1 n c1 vs1) (q1 : RecsAt w lo1 vs1 rs) (r2 : RowAt w o2 l2 u2 1 a2 n c2 vs2) (q2 : RecsAt w lo2 vs2 rs) (hr : rs.length = n) (h8 : ∀ r ∈ rs, r.length ≤ 8) (hn : n ≤ 64) :
    Calls Try.prog 64 #[.agg #[.int .i64 cd, .int .i64 u, .slice a1 n c1], .agg #[.int .i64 cd, .int .i64 u, .slice a2 n c2]] w fun e w' => e = .returned (.bool true) ∧ Below w.heap.size w w' := by
  have A : Below w.heap.size w ((w.alloc (.cells #[.int .i64 cd, .int .i64 u, .slice a1 n c1] 73)).alloc (.cells #[.int .i64 cd, .int .i64 u, .slice a2 n c2] 73)) := ((Below.refl _ _).alloc (Nat.le_refl _) _).alloc (by simp) _
  have e1 : (cd != cd) = false := by simp
  have e2 : (u != u) = false := by simp
  go_enter Try.func64, Try.ntmps64
  go_wp2_with fail
  refine (eqSS_yes _ _ n c1 c2 vs1 vs2 rs _ (by exact r1.below A) (by exact q1.below A) (by exact r2.below A) (by exact q2.below A) hr h8 hn).mono ?_
  rintro e w1 ⟨rfl, hb⟩
  have A2 := below_next A hb
  clear hb A
  go_wp2
  go_ret
  exact ⟨rfl, A2⟩
end

end Go.Proofs.Ytkpbmffklcgecaa
