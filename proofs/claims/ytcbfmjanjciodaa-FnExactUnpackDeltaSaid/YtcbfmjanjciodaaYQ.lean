/- Chapter 7: the steps of a difference in memory: rows of four cells. -/
import Derived.Test.YtcbfmjanjciodaaEX
import Derived.Test.YtcbfmjanjciodaaZM
import Derived.Test.YtcbfmjanjciodaaPC
import Derived.Test.YtcbfmjanjciodaaYE
import Derived.Test.YtcbfmjanjciodaaPPl
import Derived.Test.YtcbfmjanjciodaaYL
namespace Go.Proofs.Ytcbfmjanjciodaa
open Go.RowKit

abbrev St := Bool × Int × Int × Int
def st0 : St := (false, 0, 0, 0)
def flat4 (n : Nat) (g0 g1 g2 g3 : Nat → Value) : List Value := (List.range (n * 4)).map fun j => if j % 4 = 0 then g0 (j / 4) else if j % 4 = 1 then g1 (j / 4) else if j % 4 = 2 then g2 (j / 4) else g3 (j / 4)
theorem flat4_len (n : Nat) (g0 g1 g2 g3 : Nat → Value) : (flat4 n g0 g1 g2 g3).length = n * 4 := by simp [flat4]
theorem flat4_get (n : Nat) (g0 g1 g2 g3 : Nat → Value) (j : Nat) (h : j < n * 4) : (flat4 n g0 g1 g2 g3).getD j default = if j % 4 = 0 then g0 (j / 4) else if j % 4 = 1 then g1 (j / 4) else if j % 4 = 2 then g2 (j / 4) else g3 (j / 4) := by
  simp [flat4, List.getD, h]
theorem flat4_set {n : Nat} {g0 g1 g2 g3 : Nat → Value} {i : Nat} (_ : i < n) (a b c d : Value) : ((((flat4 n g0 g1 g2 g3).set (i * 4) a).set (i * 4 + 1) b).set (i * 4 + 2) c).set (i * 4 + 3) d = flat4 n (fun j => if j = i then a else g0 j) (fun j => if j = i then b else g1 j) (fun j => if j = i then c else g2 j) (fun j => if j = i then d else g3 j) := by
  apply List.ext_getElem (by simp [flat4])
  intro j h1 h2
  simp only [List.getElem_set, flat4, List.getElem_map, List.getElem_range]
  simp [flat4] at h2
  by_cases e3 : i * 4 + 3 = j
  · subst e3; rw [if_pos rfl, if_neg (by omega), if_neg (by omega), if_neg (by omega), if_pos (by omega)]
  · rw [if_neg e3]
    by_cases e2 : i * 4 + 2 = j
    · subst e2; rw [if_pos rfl, if_neg (by omega), if_neg (by omega), if_pos (by omega), if_pos (by omega)]
    · rw [if_neg e2]
      by_cases e1 : i * 4 + 1 = j
      · subst e1; rw [if_pos rfl, if_neg (by omega), if_pos (by omega), if_pos (by omega)]
      · rw [if_neg e1]
        by_cases e0 : i * 4 = j
        · subst e0; rw [if_pos rfl, if_pos (by omega), if_pos (by omega)]
        · rw [if_neg e0]
          by_cases m0 : j % 4 = 0
          · rw [if_pos m0, if_pos m0, if_neg (by omega)]
          · rw [if_neg m0, if_neg m0]
            by_cases m1 : j % 4 = 1
            · rw [if_pos m1, if_pos m1, if_neg (by omega)]
            · rw [if_neg m1, if_neg m1]
              by_cases m2 : j % 4 = 2
              · rw [if_pos m2, if_pos m2, if_neg (by omega)]
              · rw [if_neg m2, if_neg m2, if_neg (by omega)]
theorem flat4_congr {n : Nat} {g0 g1 g2 g3 k0 k1 k2 k3 : Nat → Value} (h : ∀ i, i < n → g0 i = k0 i ∧ g1 i = k1 i ∧ g2 i = k2 i ∧ g3 i = k3 i) : flat4 n g0 g1 g2 g3 = flat4 n k0 k1 k2 k3 := by
  refine List.map_congr_left fun j hj => ?_
  have hj' := List.mem_range.1 hj
  obtain ⟨h0, h1, h2, h3⟩ := h (j / 4) (by omega)
  rw [h0, h1, h2, h3]
def quads (xs : List St) : List Value := flat4 xs.length (fun i => .bool (xs.getD i st0).1) (fun i => .int .i64 (xs.getD i st0).2.1) (fun i => .int .i64 (xs.getD i st0).2.2.1) (fun i => .int .i64 (xs.getD i st0).2.2.2)
theorem quads_len (xs : List St) : (quads xs).length = xs.length * 4 := flat4_len _ _ _ _ _
theorem quads_get (xs : List St) (k : Nat) (h : k < xs.length) : (quads xs).getD (k * 4) default = (.bool (xs.getD k st0).1) ∧ (quads xs).getD (k * 4 + 1) default = (.int .i64 (xs.getD k st0).2.1) ∧ (quads xs).getD (k * 4 + 2) default = (.int .i64 (xs.getD k st0).2.2.1) ∧ (quads xs).getD (k * 4 + 3) default = (.int .i64 (xs.getD k st0).2.2.2) := by
  unfold quads
  refine ⟨?_, ?_, ?_, ?_⟩
  · rw [flat4_get _ _ _ _ _ _ (by omega), if_pos (by omega), show k * 4 / 4 = k by omega]
  · rw [flat4_get _ _ _ _ _ _ (by omega), if_neg (by omega), if_pos (by omega), show (k * 4 + 1) / 4 = k by omega]
  · rw [flat4_get _ _ _ _ _ _ (by omega), if_neg (by omega), if_neg (by omega), if_pos (by omega), show (k * 4 + 2) / 4 = k by omega]
  · rw [flat4_get _ _ _ _ _ _ (by omega), if_neg (by omega), if_neg (by omega), if_neg (by omega), show (k * 4 + 3) / 4 = k by omega]
theorem quads_set {xs : List St} {i : Nat} (hi : i < xs.length) (s : St) : ((((quads xs).set (i * 4) (.bool (s).1)).set (i * 4 + 1) (.int .i64 (s).2.1)).set (i * 4 + 2) (.int .i64 (s).2.2.1)).set (i * 4 + 3) (.int .i64 (s).2.2.2) = quads (xs.set i s) := by
  unfold quads
  rw [flat4_set hi, List.length_set]
  refine flat4_congr fun j _ => ?_
  by_cases e : j = i
  · subst e
    rw [show (xs.set j s).getD j st0 = s from by simp [List.getD, hi]]
    simp
  · rw [show (xs.set i s).getD j st0 = xs.getD j st0 from by simp [List.getD, Ne.symm e]]
    simp [e]
theorem RowAt.nQuads {w : World} {own : Bool} {lo hi : Nat} {ao : Option Addr} {n cap : Nat} {xs : List St} (h : RowAt w own lo hi 4 ao n cap (quads xs)) : xs.length = n := by
  have hl := h.len; rw [quads_len] at hl; omega
theorem RowAt.quad {w : World} {own : Bool} {lo hi : Nat} {ao : Option Addr} {n cap : Nat} {xs : List St} (h : RowAt w own lo hi 4 ao n cap (quads xs)) {i : Nat} (hi' : i < n) :
    ∃ b off, ao = some ⟨b, off, none⟩ ∧ lo ≤ b ∧ b < hi ∧ b < w.heap.size ∧ w.cell? ⟨b, off + i * 4, none⟩ = some (.bool (xs.getD i st0).1) ∧ w.cell? ⟨b, off + i * 4 + 1, none⟩ = some (.int .i64 (xs.getD i st0).2.1) ∧ w.cell? ⟨b, off + i * 4 + 2, none⟩ = some (.int .i64 (xs.getD i st0).2.2.1) ∧ w.cell? ⟨b, off + i * 4 + 3, none⟩ = some (.int .i64 (xs.getD i st0).2.2.2) := by
  obtain ⟨b, off, rfl, h1, h2, h3, h4, _⟩ := h.cells (by omega)
  have hl := h.nQuads
  obtain ⟨q0, q1, q2, q3⟩ := quads_get xs i (by omega)
  refine ⟨b, off, rfl, h1, h2, h3, ?_, ?_, ?_, ?_⟩
  · rw [h4 _ (by omega), q0]
  · rw [Nat.add_assoc, h4 _ (by omega), q1]
  · rw [Nat.add_assoc, h4 _ (by omega), q2]
  · rw [Nat.add_assoc, h4 _ (by omega), q3]
theorem Try.infoStep : (Try.prog.info? 141).map (fun i => (i.zero, i.size, i.bytes)) = some (some (.agg #[.bool false, .int .i64 0, .int .i64 0, .int .i64 0]), 4, 32) := by kernel_rfl

theorem eqStep_yes (h : Bool) (x y z : Int) (w : World) :
    Calls Try.prog 178 #[.agg #[.bool h, .int .i64 x, .int .i64 y, .int .i64 z], .agg #[.bool h, .int .i64 x, .int .i64 y, .int .i64 z]] w fun e w' => e = .returned (.bool true) ∧ Below w.heap.size w w' := by
  have e0 : (h != h) = false := by simp
  have e1 : (x != x) = false := by simp
  have e2 : (y != y) = false := by simp
  have e3 : (z != z) = false := by simp
  go_enter Try.func178, Try.ntmps178
  go_wp2
  go_ret
  exact ⟨rfl, (((Below.refl _ _).alloc (Nat.le_refl _) _).alloc (by simp) _)⟩

set_option maxRecDepth 20000 in
set_option maxHeartbeats 2000000 in
theorem eqSteps_yes {o1 o2 : Bool} {l1 u1 l2 u2 : Nat} (a1 a2 : Option Addr) (n c1 m c2 : Nat) (xs : List St) (w : World) (h1 : RowAt w o1 l1 u1 4 a1 n c1 (quads xs)) (h2 : RowAt w o2 l2 u2 4 a2 m c2 (quads xs)) (hn : n ≤ 2097152) :
    Calls Try.prog 107 #[.slice a1 n c1, .slice a2 m c2] w fun e w' => e = .returned (.bool true) ∧ Below w.heap.size w w' := by
  obtain rfl : n = m := by rw [← h1.nQuads, ← h2.nQuads]
  have hb0 : ((n : Int) != (n : Int)) = false := by simp
  go_enter Try.func107, Try.ntmps107
  go_wp2
  go_loopw [5] (fun i wr => ∃ k : Nat, k ≤ n ∧ i = .int .i64 k ∧ Below w.heap.size w wr) (fun i _ => n - (intOf i).toNat)
  case atStart => exact ⟨0, Nat.zero_le _, rfl, Below.refl _ _⟩
  case round =>
    obtain ⟨k, hk, rfl, hb⟩ := hrel
    by_cases hlt : k < n
    · obtain ⟨b1, o1, rfl, _, _, hs1, e0, e1, e2, e3⟩ := h1.quad hlt
      obtain ⟨b2, o2, rfl, _, _, hs2, f0, f1, f2, f3⟩ := h2.quad hlt
      have hl : (k : Int) < (n : Int) := by omega
      obtain ⟨⟨s, x, y, z⟩, hs⟩ : ∃ s, xs.getD k st0 = s := ⟨_, rfl⟩
      rw [hs] at e0 e1 e2 e3 f0 f1 f2 f3
      simp only at e0 e1 e2 e3 f0 f1 f2 f3
      clear hs
      replace hb : Below w.heap.size w wr.drew := hb.drew
      replace e0 := cell_later hb e0
      replace e1 := cell_later hb e1
      replace e2 := cell_later hb e2
      replace e3 := cell_later hb e3
      replace f0 := cell_later hb f0
      replace f1 := cell_later hb f1
      replace f2 := cell_later hb f2
      replace f3 := cell_later hb f3
      go_wp2_with fail
      go_region_held3 (fun w' => w'.cell? ⟨b1, o1 + k * 4, none⟩ = some (.bool s) ∧ w'.cell? ⟨b1, o1 + k * 4 + 1, none⟩ = some (.int .i64 x) ∧ w'.cell? ⟨b1, o1 + k * 4 + 2, none⟩ = some (.int .i64 y) ∧ w'.cell? ⟨b1, o1 + k * 4 + 3, none⟩ = some (.int .i64 z) ∧ w'.cell? ⟨b2, o2 + k * 4, none⟩ = some (.bool s) ∧ w'.cell? ⟨b2, o2 + k * 4 + 1, none⟩ = some (.int .i64 x) ∧ w'.cell? ⟨b2, o2 + k * 4 + 2, none⟩ = some (.int .i64 y) ∧ w'.cell? ⟨b2, o2 + k * 4 + 3, none⟩ = some (.int .i64 z)) (with_reducible exact ⟨e0, e1, e2, e3, f0, f1, f2, f3⟩)
        (first | (go_at_call 178; (with_reducible refine (eqStep_yes s x y z _).mono ?_); rintro e w1 ⟨rfl, B1⟩; replace e0 := cell_later B1 e0; replace e1 := cell_later B1 e1; replace e2 := cell_later B1 e2; replace e3 := cell_later B1 e3; replace f0 := cell_later B1 f0; replace f1 := cell_later B1 f1; replace f2 := cell_later B1 f2; replace f3 := cell_later B1 f3; replace hb := below_step hb hb.size B1; clear B1))
      clear e0 e1 e2 e3 f0 f1 f2 f3
      go_wp2
      go_roundw
      case rel => exact ⟨k + 1, by omega, by go_num, hb⟩
      case measure => simp [intOf]; omega
    · go_wp2
      go_ret
      exact ⟨rfl, hb⟩

end Go.Proofs.Ytcbfmjanjciodaa

/- Chapter 7: differences counted, copied and compared by the laws. -/
namespace Go.Proofs.Ytcbfmjanjciodaa
open Go.RowKit

/-- a difference's rows -/
structure DeAt (w : World) (o : Bool) (lo hi : Nat) (av : Option Addr) (nv cv : Nat) (aq : Option Addr) (nq cq : Nat) (vs : List Vo) (ss : List St) : Prop where
  vol : RowAt w o lo hi 3 av nv cv (trips vs)
  ste : RowAt w o lo hi 4 aq nq cq (quads ss)
theorem DeAt.below {w w' : World} {o : Bool} {lo hi : Nat} {av : Option Addr} {nv cv : Nat} {aq : Option Addr} {nq cq : Nat} {vs : List Vo} {ss : List St} (h : DeAt w o lo hi av nv cv aq nq cq vs ss) (B : Below w.heap.size w w') : DeAt w' o lo hi av nv cv aq nq cq vs ss := ⟨h.vol.below B, h.ste.below B⟩
/-- the same, with the two rows apart -/
def DeTwo (w w' : World) (e : Ending) (fr tt : Int) (nv nq : Nat) (vs : List Vo) (ss : List St) : Prop := ∃ av cv aq cq mid, e = .returned (.agg #[.int .i64 fr, .int .i64 tt, .slice av nv cv, .slice aq nq cq]) ∧ RowAt w' true w.heap.size mid 3 av nv cv (trips vs) ∧ RowAt w' true mid w'.heap.size 4 aq nq cq (quads ss) ∧ w.heap.size ≤ mid ∧ mid ≤ w'.heap.size ∧ Below w.heap.size w w'

set_option maxRecDepth 20000 in
set_option maxHeartbeats 1000000 in
theorem eqDelta_yes {o : Bool} {lo hi : Nat} (fr tt : Int) (av : Option Addr) (nv cv : Nat) (aq : Option Addr) (nq cq : Nat) (vs : List Vo) (ss : List St) (w : World) (h : DeAt w o lo hi av nv cv aq nq cq vs ss) {o2 : Bool} {lo2 hi2 : Nat} (av2 : Option Addr) (cv2 : Nat) (aq2 : Option Addr) (cq2 : Nat) (h2 : DeAt w o2 lo2 hi2 av2 nv cv2 aq2 nq cq2 vs ss) (hnv : nv ≤ 2097152) (hnq : nq ≤ 2097152) :
    Calls Try.prog 41 #[.agg #[.int .i64 fr, .int .i64 tt, .slice av nv cv, .slice aq nq cq], .agg #[.int .i64 fr, .int .i64 tt, .slice av2 nv cv2, .slice aq2 nq cq2]] w fun e w' => e = .returned (.bool true) ∧ Below w.heap.size w w' := by
  have hbb : (fr != fr) = false := by simp
  have hbc : (tt != tt) = false := by simp
  go_enter Try.func41, Try.ntmps41
  go_wp2_with (first | (have g1 := H0.out; clear g1; (with_reducible refine box_new 78 #[.int .i64 fr, .int .i64 tt, .slice av2 nv cv2, .slice aq2 nq cq2] rfl ?_); intro b1 W1 N1; have O1 : Hid (b0 < b1) := Nat.lt_of_lt_of_le H0.out N1.ge; replace c0_0 := cell_later N1.below c0_0; replace c0_1 := cell_later N1.below c0_1; replace c0_2 := cell_later N1.below c0_2; replace c0_3 := cell_later N1.below c0_3; replace H0 : Hid (b0 < W1.heap.size) := Nat.lt_of_lt_of_le H0.out N1.below.size; replace B := below_next B N1.below; have H1 : Hid (b1 < W1.heap.size) := N1.lt; have c1_0 : W1.cell? ⟨b1, 0, none⟩ = some (.int .i64 fr) := N1.cell 0 _ rfl; have c1_1 : W1.cell? ⟨b1, 1, none⟩ = some (.int .i64 tt) := N1.cell 1 _ rfl; have c1_2 : W1.cell? ⟨b1, 2, none⟩ = some (.slice av2 nv cv2) := N1.cell 2 _ rfl; have c1_3 : W1.cell? ⟨b1, 3, none⟩ = some (.slice aq2 nq cq2) := N1.cell 3 _ rfl; clear N1) | ((with_reducible refine box_new 78 #[.int .i64 fr, .int .i64 tt, .slice av nv cv, .slice aq nq cq] rfl ?_); intro b0 W0 N0; have O0 : Hid (w.heap.size ≤ b0) := N0.ge; have B := N0.below; have H0 : Hid (b0 < W0.heap.size) := N0.lt; have c0_0 : W0.cell? ⟨b0, 0, none⟩ = some (.int .i64 fr) := N0.cell 0 _ rfl; have c0_1 : W0.cell? ⟨b0, 1, none⟩ = some (.int .i64 tt) := N0.cell 1 _ rfl; have c0_2 : W0.cell? ⟨b0, 2, none⟩ = some (.slice av nv cv) := N0.cell 2 _ rfl; have c0_3 : W0.cell? ⟨b0, 3, none⟩ = some (.slice aq nq cq) := N0.cell 3 _ rfl; clear N0) | fail)
  refine (eqVols_yes av av2 nv cv nv cv2 vs _ (h.vol.below B) (h2.vol.below B) hnv).mono ?_
  rintro e w1 ⟨rfl, BB⟩
  replace c0_0 := cell_later BB c0_0
  replace c0_1 := cell_later BB c0_1
  replace c0_2 := cell_later BB c0_2
  replace c0_3 := cell_later BB c0_3
  replace H0 : Hid (b0 < w1.heap.size) := Nat.lt_of_lt_of_le H0.out BB.size
  replace c1_0 := cell_later BB c1_0
  replace c1_1 := cell_later BB c1_1
  replace c1_2 := cell_later BB c1_2
  replace c1_3 := cell_later BB c1_3
  replace H1 : Hid (b1 < w1.heap.size) := Nat.lt_of_lt_of_le H1.out BB.size
  replace B := below_next B BB
  clear BB
  go_wp2_with fail
  refine (eqSteps_yes aq aq2 nq cq nq cq2 ss _ (h.ste.below B) (h2.ste.below B) hnq).mono ?_
  rintro e w2 ⟨rfl, BB⟩
  replace c0_0 := cell_later BB c0_0
  replace c0_1 := cell_later BB c0_1
  replace c0_2 := cell_later BB c0_2
  replace c0_3 := cell_later BB c0_3
  replace H0 : Hid (b0 < w2.heap.size) := Nat.lt_of_lt_of_le H0.out BB.size
  replace c1_0 := cell_later BB c1_0
  replace c1_1 := cell_later BB c1_1
  replace c1_2 := cell_later BB c1_2
  replace c1_3 := cell_later BB c1_3
  replace H1 : Hid (b1 < w2.heap.size) := Nat.lt_of_lt_of_le H1.out BB.size
  replace B := below_next B BB
  clear BB
  go_wp2
  go_ret
  exact ⟨rfl, B⟩

end Go.Proofs.Ytcbfmjanjciodaa

/- Chapter 7, plain: the fault of a difference. -/
namespace Go.Proofs.Ytcbfmjanjciodaa
open Go.RowKit

def signB (x : Int) : Bool := decide (0 ≤ x ∧ x ≤ 65520)
def stOne (k : Nat) (a s : St) : Int :=
  if volIdB s.2.1 && spotB s.2.2.1 && dataB s.2.2.2 then (if s.1 = false ∧ s.2.2.2 ≠ 0 then 1 else if k = 0 then 0 else if aheadB (a.2.1, a.2.2.1, 0) (s.2.1, s.2.2.1, 0) then 0 else 1) else 3
def stFrom (ss : List St) : Nat → Nat → Int
  | 0, _ => 0
  | n + 1, k => if stOne k (ss.getD (k - 1) st0) (ss.getD k st0) = 0 then stFrom ss n (k + 1) else stOne k (ss.getD (k - 1) st0) (ss.getD k st0)
def stFault (ss : List St) : Int := stFrom ss ss.length 0
theorem stFrom_step {ss : List St} {k : Nat} (h : k < ss.length) : stFrom ss (ss.length - k) k = if stOne k (ss.getD (k - 1) st0) (ss.getD k st0) = 0 then stFrom ss (ss.length - (k + 1)) (k + 1) else stOne k (ss.getD (k - 1) st0) (ss.getD k st0) := by
  rw [show ss.length - k = ss.length - (k + 1) + 1 by omega]; rfl
theorem stFrom_end {ss : List St} {k : Nat} (h : ss.length ≤ k) : stFrom ss (ss.length - k) k = 0 := by
  rw [show ss.length - k = 0 by omega]; rfl
def deFault (fr tt : Int) (vs : List Vo) (ss : List St) : Int :=
  if signB fr && signB tt then (if 6 < vs.length ∨ 120 < ss.length then 2 else if pvFault vs = 0 then stFault ss else pvFault vs) else 3
theorem de_3 {fr tt : Int} {vs : List Vo} {ss : List St} (h : (signB fr && signB tt) = false) : deFault fr tt vs ss = 3 := by unfold deFault; rw [h]; rfl
theorem de_2 {fr tt : Int} {vs : List Vo} {ss : List St} (h : (signB fr && signB tt) = true) (h1 : 6 < vs.length ∨ 120 < ss.length) : deFault fr tt vs ss = 2 := by unfold deFault; rw [if_pos h, if_pos h1]
theorem de_v {fr tt : Int} {vs : List Vo} {ss : List St} (h : (signB fr && signB tt) = true) (h1 : ¬ (6 < vs.length ∨ 120 < ss.length)) : deFault fr tt vs ss = if pvFault vs = 0 then stFault ss else pvFault vs := by unfold deFault; rw [if_pos h, if_neg h1]
theorem stOne_ok {k : Nat} {a s : St} (h : stOne k a s = 0) : (1 ≤ s.2.1 ∧ s.2.1 ≤ 99) ∧ (0 ≤ s.2.2.1 ∧ s.2.2.1 ≤ 15) ∧ (0 ≤ s.2.2.2 ∧ s.2.2.2 ≤ 255) ∧ (s.1 = false → s.2.2.2 = 0) ∧ (k = 0 ∨ aheadB (a.2.1, a.2.2.1, 0) (s.2.1, s.2.2.1, 0) = true) := by
  unfold stOne at h
  split at h
  case isFalse => exact absurd h (by decide)
  case isTrue hc =>
    simp [volIdB, spotB, dataB] at hc
    split at h
    · exact absurd h (by decide)
    · rename_i hv
      have hz : s.1 = false → s.2.2.2 = 0 := fun e => Decidable.byContradiction fun hn => hv ⟨e, hn⟩
      split at h
      · exact ⟨hc.1.1, hc.1.2, hc.2, hz, Or.inl (by assumption)⟩
      · split at h
        · exact ⟨hc.1.1, hc.1.2, hc.2, hz, Or.inr (by assumption)⟩
        · exact absurd h (by decide)
theorem stFrom_ok {ss : List St} {n k : Nat} (h : stFrom ss n k = 0) : ∀ i, k ≤ i → i < k + n → stOne i (ss.getD (i - 1) st0) (ss.getD i st0) = 0 := by
  induction n generalizing k with
  | zero => intro i h1 h2; omega
  | succ n ih =>
    unfold stFrom at h
    split at h
    case isTrue hc =>
      intro i h1 h2
      by_cases e : i = k
      · subst e; exact hc
      · exact ih h i (by omega) (by omega)
    case isFalse hc => exact absurd h hc
theorem st_ok {ss : List St} (h : stFault ss = 0) : ∀ i, i < ss.length → stOne i (ss.getD (i - 1) st0) (ss.getD i st0) = 0 := fun i hi => stFrom_ok h i (Nat.zero_le _) (by omega)
theorem de_ok {fr tt : Int} {vs : List Vo} {ss : List St} (h : deFault fr tt vs ss = 0) : (0 ≤ fr ∧ fr ≤ 65520) ∧ (0 ≤ tt ∧ tt ≤ 65520) ∧ vs.length ≤ 6 ∧ ss.length ≤ 120 ∧ pvFault vs = 0 ∧ stFault ss = 0 := by
  unfold deFault at h
  split at h
  case isFalse => exact absurd h (by decide)
  case isTrue h0 =>
    simp [signB] at h0
    split at h
    · exact absurd h (by decide)
    · split at h
      case isFalse hx => exact absurd h hx
      case isTrue h2 => exact ⟨h0.1, h0.2, by omega, by omega, h2, h⟩

end Go.Proofs.Ytcbfmjanjciodaa

/- Chapter 7: the program's fault of a difference. -/
namespace Go.Proofs.Ytcbfmjanjciodaa
open Go.RowKit

theorem isSign_is (x : Int) (w : World) (d : Bool) (hd : signB x = d) : Calls Try.prog 105 #[.int .i64 x] w fun e w' => e = .returned (.bool d) ∧ w' = w := by
  subst hd
  unfold signB
  by_cases h1 : 0 ≤ x
  · by_cases h2 : x < 65521
    · have d1 : decide (0 ≤ x) = true := decide_eq_true h1
      have d2 : decide (x < 65521) = true := decide_eq_true h2
      rw [decide_eq_true (by omega)]
      go_enter Try.func105, Try.ntmps105
      go_wp2
      go_ret
      exact ⟨rfl, rfl⟩
    · have d1 : decide (0 ≤ x) = true := decide_eq_true h1
      have d2 : decide (x < 65521) = false := decide_eq_false h2
      rw [decide_eq_false (by omega)]
      go_enter Try.func105, Try.ntmps105
      go_wp2
      go_ret
      exact ⟨rfl, rfl⟩
  · have d1 : decide (0 ≤ x) = false := decide_eq_false h1
    rw [decide_eq_false (by omega)]
    go_enter Try.func105, Try.ntmps105
    go_wp2
    go_ret
    exact ⟨rfl, rfl⟩
theorem spotOfStep_is (s : Bool) (x y z : Int) (w : World) : Calls Try.prog 177 #[.agg #[.bool s, .int .i64 x, .int .i64 y, .int .i64 z]] w fun e w' => e = .returned (.agg #[.int .i64 x, .int .i64 y]) ∧ Below w.heap.size w w' := by
  go_enter Try.func177, Try.ntmps177
  go_wp2
  refine bodyPost_ret (v := .agg #[.int .i64 x, .int .i64 y]) (by simp [results, Try.results177, go_sem]) rfl ⟨rfl, ?_⟩
  exact ((Below.refl _ _).alloc (Nat.le_refl _) _).alloc (by simp) _
set_option maxRecDepth 20000 in
set_option maxHeartbeats 4000000 in
theorem stepsFault_is {o : Bool} {lo hi : Nat} (aq : Option Addr) (nq cq : Nat) (ss : List St) (w : World) (R : RowAt w o lo hi 4 aq nq cq (quads ss)) (hnq : nq ≤ 2097152) (d : Int) (hd : stFault ss = d) : Calls Try.prog 106 #[.slice aq nq cq] w fun e w' => e = .returned (.int .i64 d) ∧ Below w.heap.size w w' := by
  have hsl := R.nQuads
  have HD : Hid _ := hd
  clear hd
  go_enter Try.func106, Try.ntmps106
  go_wp2
  go_loopw [7] (fun i wr => ∃ k : Nat, k ≤ nq ∧ i = .int .i64 k ∧ stFault ss = stFrom ss (nq - k) k ∧ Below w.heap.size w wr) (fun i _ => nq - (intOf i).toNat)
  case atStart => exact ⟨0, Nat.zero_le _, rfl, by rw [Nat.sub_zero, ← hsl]; rfl, Below.refl _ _⟩
  case round =>
    obtain ⟨k, hk, rfl, ha, B⟩ := hrel
    have HA : Hid _ := ha
    clear ha
    by_cases hlt : k < nq
    rotate_left 1
    · obtain rfl : k = nq := by omega
      have HE : Hid (stFault ss = 0) := by show _ = _; rw [HA.out, ← hsl]; exact stFrom_end (Nat.le_refl _)
      go_wp2
      go_ret
      exact ⟨ret_int (by rw [← HD.out, HE.out]), B⟩
    have HS : Hid _ := stFrom_step (ss := ss) (k := k) (by omega)
    rw [hsl] at HS
    have hpre : Hid (∀ j, k = j + 1 → ∃ b off, aq = some ⟨b, off, none⟩ ∧ wr.cell? ⟨b, off + j * 4, none⟩ = some (.bool (ss.getD (k - 1) st0).1) ∧ wr.cell? ⟨b, off + j * 4 + 1, none⟩ = some (.int .i64 (ss.getD (k - 1) st0).2.1) ∧ wr.cell? ⟨b, off + j * 4 + 2, none⟩ = some (.int .i64 (ss.getD (k - 1) st0).2.2.1) ∧ wr.cell? ⟨b, off + j * 4 + 3, none⟩ = some (.int .i64 (ss.getD (k - 1) st0).2.2.2)) := fun j e => by
      obtain ⟨b, off, e1, _, _, hbs, c0, c1, c2, c3⟩ := R.quad (i := j) (by omega)
      rw [show k - 1 = j by omega]
      exact ⟨b, off, e1, cell_later B c0, cell_later B c1, cell_later B c2, cell_later B c3⟩
    obtain ⟨b, off, rfl, _, _, hbs, v0, v1, v2, v3⟩ := R.quad hlt
    replace v0 := cell_later B v0
    replace v1 := cell_later B v1
    replace v2 := cell_later B v2
    replace v3 := cell_later B v3
    have hlk : (k : Int) < (nq : Int) := by omega
    obtain ⟨⟨s, x, y, z⟩, hx⟩ : ∃ x, ss.getD k st0 = x := ⟨_, rfl⟩
    obtain ⟨⟨s1, x1, y1, z1⟩, hx1⟩ : ∃ x, ss.getD (k - 1) st0 = x := ⟨_, rfl⟩
    rw [hx] at v0 v1 v2 v3 HS
    rw [hx1] at hpre HS
    simp only at v0 v1 v2 v3 HS hpre
    clear hx hx1
    have A : Below wr.heap.size wr (wr.alloc (.cells #[.bool s, .int .i64 x, .int .i64 y, .int .i64 z] 141)) := (Below.refl _ _).alloc (Nat.le_refl _) _
    have C := below_step B B.size A
    have c0 : (wr.alloc (.cells #[.bool s, .int .i64 x, .int .i64 y, .int .i64 z] 141)).cell? ⟨wr.heap.size, 0, none⟩ = some (.bool s) := by simp
    have c1 : (wr.alloc (.cells #[.bool s, .int .i64 x, .int .i64 y, .int .i64 z] 141)).cell? ⟨wr.heap.size, 1, none⟩ = some (.int .i64 x) := by simp
    have c2 : (wr.alloc (.cells #[.bool s, .int .i64 x, .int .i64 y, .int .i64 z] 141)).cell? ⟨wr.heap.size, 2, none⟩ = some (.int .i64 y) := by simp
    have c3 : (wr.alloc (.cells #[.bool s, .int .i64 x, .int .i64 y, .int .i64 z] 141)).cell? ⟨wr.heap.size, 3, none⟩ = some (.int .i64 z) := by simp
    have HBAD : Hid (stOne k (s1, x1, y1, z1) (s, x, y, z) ≠ 0 → stFault ss = stOne k (s1, x1, y1, z1) (s, x, y, z)) := fun hx => by rw [HA.out, HS.out, if_neg hx]
    obtain ⟨b0, h0⟩ : ∃ b, volIdB x = b := ⟨_, rfl⟩
    obtain ⟨b1, h1⟩ : ∃ b, spotB y = b := ⟨_, rfl⟩
    obtain ⟨b2, h2⟩ : ∃ b, dataB z = b := ⟨_, rfl⟩
    have H0 : Hid _ := h0
    have H1 : Hid _ := h1
    have H2 : Hid _ := h2
    clear h0 h1 h2
    go_wp2_with fail
    refine (isVolId_is x _ b0 H0.out).mono ?_
    rintro e _ ⟨rfl, rfl⟩
    cases b0 with
    | false =>
      have HE : Hid (stFault ss = 3) := by
        have hx : stOne k (s1, x1, y1, z1) (s, x, y, z) = 3 := by unfold stOne; simp [H0.out]
        show _ = _
        rw [HBAD.out (by rw [hx]; decide), hx]
      clear HBAD HS HA hpre
      go_wp2
      go_ret
      exact ⟨ret_int (by rw [← HD.out, HE.out]), C⟩
    | true =>
      go_wp2_with fail
      refine (isTreePlace_is y _ b1 H1.out).mono ?_
      rintro e _ ⟨rfl, rfl⟩
      cases b1 with
      | false =>
        have HE : Hid (stFault ss = 3) := by
          have hx : stOne k (s1, x1, y1, z1) (s, x, y, z) = 3 := by unfold stOne; simp [H1.out]
          show _ = _
          rw [HBAD.out (by rw [hx]; decide), hx]
        clear HBAD HS HA hpre
        go_wp2
        go_ret
        exact ⟨ret_int (by rw [← HD.out, HE.out]), C⟩
      | true =>
        go_wp2_with fail
        refine (isData_is z _ b2 H2.out).mono ?_
        rintro e _ ⟨rfl, rfl⟩
        cases b2 with
        | false =>
          have HE : Hid (stFault ss = 3) := by
            have hx : stOne k (s1, x1, y1, z1) (s, x, y, z) = 3 := by unfold stOne; simp [H2.out]
            show _ = _
            rw [HBAD.out (by rw [hx]; decide), hx]
          clear HBAD HS HA hpre
          go_wp2
          go_ret
          exact ⟨ret_int (by rw [← HD.out, HE.out]), C⟩
        | true =>
          have HO : Hid (stOne k (s1, x1, y1, z1) (s, x, y, z) = if s = false ∧ z ≠ 0 then 1 else if k = 0 then 0 else if aheadB (x1, y1, 0) (x, y, 0) then 0 else 1) := by show _ = _; unfold stOne; rw [if_pos (by simp [H0.out, H1.out, H2.out])]
          cases s with
          | false =>
            by_cases hz : z = 0
            rotate_left 1
            · have HE : Hid (stFault ss = 1) := by
                have hx : stOne k (s1, x1, y1, z1) (false, x, y, z) = 1 := HO.out.trans (if_pos ⟨rfl, hz⟩)
                show _ = _
                rw [HBAD.out (by rw [hx]; decide), hx]
              have hzz : (z != 0) = true := by simp [hz]
              clear HBAD HS HA hpre HO hz
              go_wp2
              go_ret
              exact ⟨ret_int (by rw [← HD.out, HE.out]), C⟩
            have hzz : (z != 0) = false := by simp [hz]
            replace HO : Hid (stOne k (s1, x1, y1, z1) (false, x, y, z) = if k = 0 then 0 else if aheadB (x1, y1, 0) (x, y, 0) then 0 else 1) := HO.out.trans (if_neg (fun e => e.2 hz))
            clear hz
            generalize hW2 : (wr.alloc (.cells #[.bool false, .int .i64 x, .int .i64 y, .int .i64 z] 141)) = W2 at *
            clear hW2
            cases k with
            | zero =>
              have HE : Hid (stFault ss = stFrom ss (nq - (0 + 1)) (0 + 1)) := by show _ = _; rw [HA.out, HS.out, HO.out]; rfl
              clear HBAD HS HA hpre HO
              have hz0 : decide ((0 : Int) < ((0 : Nat) : Int)) = false := rfl
              go_wp2_with fail
              go_quiet (fail)
              go_wp2
              go_roundw
              case rel => exact ⟨0 + 1, by omega, by go_num, HE.out, below_drewN C _⟩
              case measure => simp [intOf]; omega
            | succ j =>
              obtain ⟨bb, oo, e', p0, p1, p2, p3⟩ := hpre.out j rfl
              cases e'
              replace p0 := cell_later A p0
              replace p1 := cell_later A p1
              replace p2 := cell_later A p2
              replace p3 := cell_later A p3
              have hz0 : decide ((0 : Int) < ((j + 1 : Nat) : Int)) = true := decide_eq_true (by omega)
              have hz1 : (0 : Int) < ((j + 1 : Nat) : Int) := by omega
              have hw : IntKind.i64.wrap (((j + 1 : Nat) : Int) - 1) = (j : Int) := by rw [show ((j + 1 : Nat) : Int) - 1 = (j : Int) by omega]; exact wrapI_same _ (by omega)
              have hlj : (j : Int) < (nq : Int) := by omega
              have hw2 : IntKind.i64.wrap (j : Int) = (j : Int) := wrapI_same _ (by omega)
              have hw3 : IntKind.i64.wrap ((j : Int) + 1 - 1) = (j : Int) := by rw [show (j : Int) + 1 - 1 = (j : Int) by omega]; exact hw2
              obtain ⟨q, hq⟩ : ∃ q, aheadB (x1, y1, 0) (x, y, 0) = q := ⟨_, rfl⟩
              have HQ : Hid (decide (0 < cmpS x x1 y y1) = q) := (behindS_is (x1, y1, 0) (x, y, 0)).trans hq
              rw [hq] at HO
              clear hq hpre
              clear v0 v1 v2 v3 A B
              go_wp2_with fail
              have D : Below W2.heap.size W2 W2.drew := (Below.refl _ _).drew
              replace c0 := cell_later D c0
              replace c1 := cell_later D c1
              replace c2 := cell_later D c2
              replace c3 := cell_later D c3
              replace p0 := cell_later D p0
              replace p1 := cell_later D p1
              replace p2 := cell_later D p2
              replace p3 := cell_later D p3
              replace C := below_step C C.size D
              clear D
              go_region_held3 (fun w' => w'.cell? ⟨wr.heap.size, 0, none⟩ = some (.bool false) ∧ w'.cell? ⟨wr.heap.size, 1, none⟩ = some (.int .i64 x) ∧ w'.cell? ⟨wr.heap.size, 2, none⟩ = some (.int .i64 y) ∧ w'.cell? ⟨wr.heap.size, 3, none⟩ = some (.int .i64 z) ∧ w'.cell? ⟨b, off + j * 4, none⟩ = some (.bool s1) ∧ w'.cell? ⟨b, off + j * 4 + 1, none⟩ = some (.int .i64 x1) ∧ w'.cell? ⟨b, off + j * 4 + 2, none⟩ = some (.int .i64 y1) ∧ w'.cell? ⟨b, off + j * 4 + 3, none⟩ = some (.int .i64 z1)) (with_reducible exact ⟨c0, c1, c2, c3, p0, p1, p2, p3⟩)
                (first | (go_at_call 177; (with_reducible refine (spotOfStep_is false x y z _).mono ?_); rintro e w5 ⟨rfl, B5⟩; replace c0 := cell_later B5 c0; replace c1 := cell_later B5 c1; replace c2 := cell_later B5 c2; replace c3 := cell_later B5 c3; replace p0 := cell_later B5 p0; replace p1 := cell_later B5 p1; replace p2 := cell_later B5 p2; replace p3 := cell_later B5 p3; replace C := below_step C C.size B5; clear B5) | (go_at_call 177; (with_reducible refine (spotOfStep_is s1 x1 y1 z1 _).mono ?_); rintro e w6 ⟨rfl, B5⟩; replace c0 := cell_later B5 c0; replace c1 := cell_later B5 c1; replace c2 := cell_later B5 c2; replace c3 := cell_later B5 c3; replace p0 := cell_later B5 p0; replace p1 := cell_later B5 p1; replace p2 := cell_later B5 p2; replace p3 := cell_later B5 p3; replace C := below_step C C.size B5; clear B5) | (go_at_call 162; (with_reducible refine (isBehind_is x y x1 y1 _ q HQ.out).mono ?_); rintro e w7 ⟨rfl, B5⟩; replace c0 := cell_later B5 c0; replace c1 := cell_later B5 c1; replace c2 := cell_later B5 c2; replace c3 := cell_later B5 c3; replace p0 := cell_later B5 p0; replace p1 := cell_later B5 p1; replace p2 := cell_later B5 p2; replace p3 := cell_later B5 p3; replace C := below_step C C.size B5; clear B5))
              cases q with
              | false =>
                have HE : Hid (stFault ss = 1) := by
                  have hx : stOne (j + 1) (s1, x1, y1, z1) (false, x, y, z) = 1 := HO.out
                  show _ = _
                  rw [HBAD.out (by rw [hx]; decide), hx]
                clear HBAD HS HA HO
                go_wp2
                go_ret
                exact ⟨ret_int (by rw [← HD.out, HE.out]), C⟩
              | true =>
                have HE : Hid (stFault ss = stFrom ss (nq - (j + 1 + 1)) (j + 1 + 1)) := by show _ = _; rw [HA.out, HS.out, HO.out]; rfl
                clear HBAD HS HA HO
                go_wp2
                go_roundw
                case rel => exact ⟨j + 1 + 1, by omega, by go_num, HE.out, C⟩
                case measure => simp [intOf]; omega
          | true =>
            replace HO : Hid (stOne k (s1, x1, y1, z1) (true, x, y, z) = if k = 0 then 0 else if aheadB (x1, y1, 0) (x, y, 0) then 0 else 1) := HO.out.trans (if_neg (fun e => by cases e.1))
            generalize hW2 : (wr.alloc (.cells #[.bool true, .int .i64 x, .int .i64 y, .int .i64 z] 141)) = W2 at *
            clear hW2
            cases k with
            | zero =>
              have HE : Hid (stFault ss = stFrom ss (nq - (0 + 1)) (0 + 1)) := by show _ = _; rw [HA.out, HS.out, HO.out]; rfl
              clear HBAD HS HA hpre HO
              have hz0 : decide ((0 : Int) < ((0 : Nat) : Int)) = false := rfl
              go_wp2_with fail
              go_quiet (fail)
              go_wp2
              go_roundw
              case rel => exact ⟨0 + 1, by omega, by go_num, HE.out, below_drewN C _⟩
              case measure => simp [intOf]; omega
            | succ j =>
              obtain ⟨bb, oo, e', p0, p1, p2, p3⟩ := hpre.out j rfl
              cases e'
              replace p0 := cell_later A p0
              replace p1 := cell_later A p1
              replace p2 := cell_later A p2
              replace p3 := cell_later A p3
              have hz0 : decide ((0 : Int) < ((j + 1 : Nat) : Int)) = true := decide_eq_true (by omega)
              have hz1 : (0 : Int) < ((j + 1 : Nat) : Int) := by omega
              have hw : IntKind.i64.wrap (((j + 1 : Nat) : Int) - 1) = (j : Int) := by rw [show ((j + 1 : Nat) : Int) - 1 = (j : Int) by omega]; exact wrapI_same _ (by omega)
              have hlj : (j : Int) < (nq : Int) := by omega
              have hw2 : IntKind.i64.wrap (j : Int) = (j : Int) := wrapI_same _ (by omega)
              have hw3 : IntKind.i64.wrap ((j : Int) + 1 - 1) = (j : Int) := by rw [show (j : Int) + 1 - 1 = (j : Int) by omega]; exact hw2
              obtain ⟨q, hq⟩ : ∃ q, aheadB (x1, y1, 0) (x, y, 0) = q := ⟨_, rfl⟩
              have HQ : Hid (decide (0 < cmpS x x1 y y1) = q) := (behindS_is (x1, y1, 0) (x, y, 0)).trans hq
              rw [hq] at HO
              clear hq hpre
              clear v0 v1 v2 v3 A B
              go_wp2_with fail
              have D : Below W2.heap.size W2 W2.drew := (Below.refl _ _).drew
              replace c0 := cell_later D c0
              replace c1 := cell_later D c1
              replace c2 := cell_later D c2
              replace c3 := cell_later D c3
              replace p0 := cell_later D p0
              replace p1 := cell_later D p1
              replace p2 := cell_later D p2
              replace p3 := cell_later D p3
              replace C := below_step C C.size D
              clear D
              go_region_held3 (fun w' => w'.cell? ⟨wr.heap.size, 0, none⟩ = some (.bool true) ∧ w'.cell? ⟨wr.heap.size, 1, none⟩ = some (.int .i64 x) ∧ w'.cell? ⟨wr.heap.size, 2, none⟩ = some (.int .i64 y) ∧ w'.cell? ⟨wr.heap.size, 3, none⟩ = some (.int .i64 z) ∧ w'.cell? ⟨b, off + j * 4, none⟩ = some (.bool s1) ∧ w'.cell? ⟨b, off + j * 4 + 1, none⟩ = some (.int .i64 x1) ∧ w'.cell? ⟨b, off + j * 4 + 2, none⟩ = some (.int .i64 y1) ∧ w'.cell? ⟨b, off + j * 4 + 3, none⟩ = some (.int .i64 z1)) (with_reducible exact ⟨c0, c1, c2, c3, p0, p1, p2, p3⟩)
                (first | (go_at_call 177; (with_reducible refine (spotOfStep_is true x y z _).mono ?_); rintro e w5 ⟨rfl, B5⟩; replace c0 := cell_later B5 c0; replace c1 := cell_later B5 c1; replace c2 := cell_later B5 c2; replace c3 := cell_later B5 c3; replace p0 := cell_later B5 p0; replace p1 := cell_later B5 p1; replace p2 := cell_later B5 p2; replace p3 := cell_later B5 p3; replace C := below_step C C.size B5; clear B5) | (go_at_call 177; (with_reducible refine (spotOfStep_is s1 x1 y1 z1 _).mono ?_); rintro e w6 ⟨rfl, B5⟩; replace c0 := cell_later B5 c0; replace c1 := cell_later B5 c1; replace c2 := cell_later B5 c2; replace c3 := cell_later B5 c3; replace p0 := cell_later B5 p0; replace p1 := cell_later B5 p1; replace p2 := cell_later B5 p2; replace p3 := cell_later B5 p3; replace C := below_step C C.size B5; clear B5) | (go_at_call 162; (with_reducible refine (isBehind_is x y x1 y1 _ q HQ.out).mono ?_); rintro e w7 ⟨rfl, B5⟩; replace c0 := cell_later B5 c0; replace c1 := cell_later B5 c1; replace c2 := cell_later B5 c2; replace c3 := cell_later B5 c3; replace p0 := cell_later B5 p0; replace p1 := cell_later B5 p1; replace p2 := cell_later B5 p2; replace p3 := cell_later B5 p3; replace C := below_step C C.size B5; clear B5))
              cases q with
              | false =>
                have HE : Hid (stFault ss = 1) := by
                  have hx : stOne (j + 1) (s1, x1, y1, z1) (true, x, y, z) = 1 := HO.out
                  show _ = _
                  rw [HBAD.out (by rw [hx]; decide), hx]
                clear HBAD HS HA HO
                go_wp2
                go_ret
                exact ⟨ret_int (by rw [← HD.out, HE.out]), C⟩
              | true =>
                have HE : Hid (stFault ss = stFrom ss (nq - (j + 1 + 1)) (j + 1 + 1)) := by show _ = _; rw [HA.out, HS.out, HO.out]; rfl
                clear HBAD HS HA HO
                go_wp2
                go_roundw
                case rel => exact ⟨j + 1 + 1, by omega, by go_num, HE.out, C⟩
                case measure => simp [intOf]; omega

set_option maxRecDepth 20000 in
set_option maxHeartbeats 4000000 in
theorem implDF_is {o : Bool} {lo hi : Nat} (fr tt : Int) (av : Option Addr) (nv cv : Nat) (aq : Option Addr) (nq cq : Nat) (vs : List Vo) (ss : List St) (w : World) (h : DeAt w o lo hi av nv cv aq nq cq vs ss) (hnv : nv ≤ 2097152) (hnq : nq ≤ 2097152) (d : Int) (hd : deFault fr tt vs ss = d) : Calls Try.prog 40 #[.agg #[.int .i64 fr, .int .i64 tt, .slice av nv cv, .slice aq nq cq]] w fun e w' => e = .returned (.int .i64 d) ∧ Below w.heap.size w w' := by
  have hvl := h.vol.nTrips
  have hsl := h.ste.nQuads
  have HD : Hid _ := hd
  clear hd
  obtain ⟨b1, h1⟩ : ∃ b, signB fr = b := ⟨_, rfl⟩
  obtain ⟨b2, h2⟩ : ∃ b, signB tt = b := ⟨_, rfl⟩
  have H1' : Hid _ := h1
  have H2' : Hid _ := h2
  clear h1 h2
  obtain ⟨c1, hc1⟩ : ∃ c, pvFault vs = c := ⟨_, rfl⟩
  have HC1 : Hid _ := hc1
  clear hc1
  go_enter Try.func40, Try.ntmps40
  go_wp2_with (first | ((with_reducible refine box_new 78 #[.int .i64 fr, .int .i64 tt, .slice av nv cv, .slice aq nq cq] rfl ?_); intro b0 W0 N0; have O0 : Hid (w.heap.size ≤ b0) := N0.ge; have B := N0.below; have H0 : Hid (b0 < W0.heap.size) := N0.lt; have c0_0 : W0.cell? ⟨b0, 0, none⟩ = some (.int .i64 fr) := N0.cell 0 _ rfl; have c0_1 : W0.cell? ⟨b0, 1, none⟩ = some (.int .i64 tt) := N0.cell 1 _ rfl; have c0_2 : W0.cell? ⟨b0, 2, none⟩ = some (.slice av nv cv) := N0.cell 2 _ rfl; have c0_3 : W0.cell? ⟨b0, 3, none⟩ = some (.slice aq nq cq) := N0.cell 3 _ rfl; clear N0) | fail)
  refine (isSign_is fr _ b1 H1'.out).mono ?_
  rintro e W0 ⟨rfl, rfl⟩
  cases b1 with
  | false =>
    have HE : Hid (deFault fr tt vs ss = 3) := de_3 (by rw [H1'.out]; rfl)
    go_wp2
    go_ret
    exact ⟨ret_int (by rw [← HD.out, HE.out]), B⟩
  | true =>
    go_wp2_with fail
    refine (isSign_is tt _ b2 H2'.out).mono ?_
    rintro e W0 ⟨rfl, rfl⟩
    cases b2 with
    | false =>
      have HE : Hid (deFault fr tt vs ss = 3) := de_3 (by rw [H1'.out, H2'.out]; rfl)
      go_wp2
      go_ret
      exact ⟨ret_int (by rw [← HD.out, HE.out]), B⟩
    | true =>
      have HG : Hid ((signB fr && signB tt) = true) := by show _ = _; rw [H1'.out, H2'.out]; rfl
      by_cases h6 : 6 < nv
      · have h6d : decide ((6 : Int) < (nv : Int)) = true := decide_eq_true (by omega)
        have HE : Hid (deFault fr tt vs ss = 2) := de_2 HG.out (Or.inl (by omega))
        go_wp2
        go_ret
        exact ⟨ret_int (by rw [← HD.out, HE.out]), B⟩
      have h6d : decide ((6 : Int) < (nv : Int)) = false := decide_eq_false (by omega)
      by_cases h7 : 120 < nq
      · have h7d : decide ((120 : Int) < (nq : Int)) = true := decide_eq_true (by omega)
        have HE : Hid (deFault fr tt vs ss = 2) := de_2 HG.out (Or.inr (by omega))
        go_wp2
        go_ret
        exact ⟨ret_int (by rw [← HD.out, HE.out]), B⟩
      have h7d : decide ((120 : Int) < (nq : Int)) = false := decide_eq_false (by omega)
      have HV : Hid _ := de_v (vs := vs) (ss := ss) HG.out (by omega)
      rw [HC1.out] at HV
      go_wp2_with fail
      refine (plainVols_is av nv cv vs _ (h.vol.below B) hnv c1 HC1.out).mono ?_
      rintro e w1 ⟨rfl, BB⟩
      replace c0_0 := cell_later BB c0_0
      replace c0_1 := cell_later BB c0_1
      replace c0_2 := cell_later BB c0_2
      replace c0_3 := cell_later BB c0_3
      replace H0 : Hid (b0 < w1.heap.size) := Nat.lt_of_lt_of_le H0.out BB.size
      replace B := below_next B BB
      clear BB
      by_cases z1 : c1 = 0
      rotate_left 1
      · have hz : (c1 != 0) = true := by simp [z1]
        have HE : Hid (deFault fr tt vs ss = c1) := HV.out.trans (if_neg z1)
        go_wp2
        go_ret
        exact ⟨ret_int (by rw [← HD.out, HE.out]), B⟩
      have hz1 : (c1 != 0) = false := by simp [z1]
      have HE : Hid (stFault ss = d) := by show _ = _; rw [← HD.out, HV.out, if_pos z1]
      go_wp2_with fail
      refine (stepsFault_is aq nq cq ss _ (h.ste.below B) hnq d HE.out).mono ?_
      rintro e w2 ⟨rfl, BB⟩
      replace c0_0 := cell_later BB c0_0
      replace c0_1 := cell_later BB c0_1
      replace c0_2 := cell_later BB c0_2
      replace c0_3 := cell_later BB c0_3
      replace H0 : Hid (b0 < w2.heap.size) := Nat.lt_of_lt_of_le H0.out BB.size
      replace B := below_next B BB
      clear BB
      go_wp2
      go_ret
      exact ⟨rfl, B⟩

end Go.Proofs.Ytcbfmjanjciodaa

/- Chapter 7: the model's fault of a difference. -/
namespace Go.Proofs.Ytcbfmjanjciodaa
open Go.RowKit

set_option maxRecDepth 20000 in
set_option maxHeartbeats 4000000 in
theorem l7Ahead_is (s1 : Bool) (x1 y1 z1 : Int) (s : Bool) (x y z : Int) (w : World) (q : Bool) (hq : aheadB (x1, y1, 0) (x, y, 0) = q) : Calls Try.prog 103 #[.agg #[.bool s1, .int .i64 x1, .int .i64 y1, .int .i64 z1], .agg #[.bool s, .int .i64 x, .int .i64 y, .int .i64 z]] w fun e w' => e = .returned (.bool q) ∧ Below w.heap.size w w' := by
  have A : Below w.heap.size w ((w.alloc (.cells #[.bool s1, .int .i64 x1, .int .i64 y1, .int .i64 z1] 141)).alloc (.cells #[.bool s, .int .i64 x, .int .i64 y, .int .i64 z] 141)) := ((Below.refl _ _).alloc (Nat.le_refl _) _).alloc (by simp) _
  unfold aheadB at hq
  simp only at hq
  by_cases hx : x1 = x
  · have hb : (x1 != x) = false := by simp [hx]
    rw [if_pos hx] at hq
    subst hq
    clear hx
    go_enter Try.func103, Try.ntmps103
    go_wp2
    go_ret
    exact ⟨rfl, A⟩
  · have hb : (x1 != x) = true := by simp [hx]
    rw [if_neg hx] at hq
    subst hq
    clear hx
    go_enter Try.func103, Try.ntmps103
    go_wp2
    go_ret
    exact ⟨rfl, A⟩

set_option maxRecDepth 20000 in
set_option maxHeartbeats 4000000 in
theorem specDF_is {o : Bool} {lo hi : Nat} (fr tt : Int) (av : Option Addr) (nv cv : Nat) (aq : Option Addr) (nq cq : Nat) (vs : List Vo) (ss : List St) (w : World) (h : DeAt w o lo hi av nv cv aq nq cq vs ss) (hnv : nv ≤ 2097152) (hnq : nq ≤ 2097152) (d : Int) (hd : deFault fr tt vs ss = d) : Calls Try.prog 38 #[.agg #[.int .i64 fr, .int .i64 tt, .slice av nv cv, .slice aq nq cq]] w fun e w' => e = .returned (.int .i64 d) ∧ Below w.heap.size w w' := by
  have hvl := h.vol.nTrips
  have hsl := h.ste.nQuads
  have HD' : Hid _ := hd
  clear hd
  obtain ⟨b1, h1⟩ : ∃ b, signB fr = b := ⟨_, rfl⟩
  obtain ⟨b2, h2⟩ : ∃ b, signB tt = b := ⟨_, rfl⟩
  have H1' : Hid _ := h1
  have H2' : Hid _ := h2
  clear h1 h2
  obtain ⟨c1, hc1⟩ : ∃ c, pvFault vs = c := ⟨_, rfl⟩
  have HC1 : Hid _ := hc1
  clear hc1
  go_enter Try.func38, Try.ntmps38
  go_wp2_with (first | ((with_reducible refine box_new 78 #[.int .i64 fr, .int .i64 tt, .slice av nv cv, .slice aq nq cq] rfl ?_); intro b0 W0 N0; have O0 : Hid (w.heap.size ≤ b0) := N0.ge; have B := N0.below; have H0 : Hid (b0 < W0.heap.size) := N0.lt; have c0_0 : W0.cell? ⟨b0, 0, none⟩ = some (.int .i64 fr) := N0.cell 0 _ rfl; have c0_1 : W0.cell? ⟨b0, 1, none⟩ = some (.int .i64 tt) := N0.cell 1 _ rfl; have c0_2 : W0.cell? ⟨b0, 2, none⟩ = some (.slice av nv cv) := N0.cell 2 _ rfl; have c0_3 : W0.cell? ⟨b0, 3, none⟩ = some (.slice aq nq cq) := N0.cell 3 _ rfl; clear N0) | fail)
  refine (l1In_bool fr 0 65520 _ b1 H1'.out).mono ?_
  rintro e W0 ⟨rfl, rfl⟩
  cases b1 with
  | false =>
    have HE : Hid (deFault fr tt vs ss = 3) := de_3 (by rw [H1'.out]; rfl)
    go_wp2
    go_ret
    exact ⟨ret_int (by rw [← HD'.out, HE.out]), B⟩
  | true =>
    go_wp2_with fail
    refine (l1In_bool tt 0 65520 _ b2 H2'.out).mono ?_
    rintro e W0 ⟨rfl, rfl⟩
    cases b2 with
    | false =>
      have HE : Hid (deFault fr tt vs ss = 3) := de_3 (by rw [H1'.out, H2'.out]; rfl)
      go_wp2
      go_ret
      exact ⟨ret_int (by rw [← HD'.out, HE.out]), B⟩
    | true =>
      have HG : Hid ((signB fr && signB tt) = true) := by show _ = _; rw [H1'.out, H2'.out]; rfl
      by_cases h6 : 6 < nv
      · have h6d : decide ((6 : Int) < (nv : Int)) = true := decide_eq_true (by omega)
        have HE : Hid (deFault fr tt vs ss = 2) := de_2 HG.out (Or.inl (by omega))
        go_wp2
        go_ret
        exact ⟨ret_int (by rw [← HD'.out, HE.out]), B⟩
      have h6d : decide ((6 : Int) < (nv : Int)) = false := decide_eq_false (by omega)
      by_cases h7 : 120 < nq
      · have h7d : decide ((120 : Int) < (nq : Int)) = true := decide_eq_true (by omega)
        have HE : Hid (deFault fr tt vs ss = 2) := de_2 HG.out (Or.inr (by omega))
        go_wp2
        go_ret
        exact ⟨ret_int (by rw [← HD'.out, HE.out]), B⟩
      have h7d : decide ((120 : Int) < (nq : Int)) = false := decide_eq_false (by omega)
      have HV : Hid _ := de_v (vs := vs) (ss := ss) HG.out (by omega)
      rw [HC1.out] at HV
      go_wp2_with (first | ((with_reducible refine alloc_new 34 #[.int .i64 0, .slice none 0 0, .slice none 0 0, .slice none 0 0] (fun _ => by kernel_rfl) ?_); intro b1 W1 N1; have O1 : Hid (b0 < b1) := Nat.lt_of_lt_of_le H0.out N1.ge; replace c0_0 := cell_later N1.below c0_0; replace c0_1 := cell_later N1.below c0_1; replace c0_2 := cell_later N1.below c0_2; replace c0_3 := cell_later N1.below c0_3; replace H0 : Hid (b0 < W1.heap.size) := Nat.lt_of_lt_of_le H0.out N1.below.size; replace B := below_next B N1.below; have H1 : Hid (b1 < W1.heap.size) := N1.lt; have c1_0 : W1.cell? ⟨b1, 0, none⟩ = some (.int .i64 0) := N1.cell 0 _ rfl; have c1_1 : W1.cell? ⟨b1, 1, none⟩ = some (.slice none 0 0) := N1.cell 1 _ rfl; have c1_2 : W1.cell? ⟨b1, 2, none⟩ = some (.slice none 0 0) := N1.cell 2 _ rfl; have c1_3 : W1.cell? ⟨b1, 3, none⟩ = some (.slice none 0 0) := N1.cell 3 _ rfl; have y1_0 : W1.frozen? ⟨b1, 0, none⟩ = false := N1.froz 0; have y1_1 : W1.frozen? ⟨b1, 1, none⟩ = false := N1.froz 1; have y1_2 : W1.frozen? ⟨b1, 2, none⟩ = false := N1.froz 2; have y1_3 : W1.frozen? ⟨b1, 3, none⟩ = false := N1.froz 3; clear N1) | ((with_reducible refine store_box 34 b1 [.int .i64 0, .slice av nv cv, .slice none 0 0, .slice none 0 0] (by simp) (there4 c1_0 c1_1 c1_2 c1_3 y1_0 y1_1 y1_2 y1_3) (by kernel_rfl) (by simp [Value.oneCell']) rfl rfl ?_); intro W1s S1; replace c0_0 := S1.at c0_0 (by have q1 := O1.out; omega); replace c0_1 := S1.at c0_1 (by have q1 := O1.out; omega); replace c0_2 := S1.at c0_2 (by have q1 := O1.out; omega); replace c0_3 := S1.at c0_3 (by have q1 := O1.out; omega); replace H0 : Hid (b0 < W1s.heap.size) := Nat.lt_of_lt_of_le H0.out S1.kept.size; replace c1_0 : W1s.cell? ⟨b1, 0, none⟩ = some (.int .i64 0) := S1.cell 0 _ rfl; replace c1_1 : W1s.cell? ⟨b1, 1, none⟩ = some (.slice av nv cv) := S1.cell 1 _ rfl; replace c1_2 : W1s.cell? ⟨b1, 2, none⟩ = some (.slice none 0 0) := S1.cell 2 _ rfl; replace c1_3 : W1s.cell? ⟨b1, 3, none⟩ = some (.slice none 0 0) := S1.cell 3 _ rfl; replace y1_0 := S1.fr y1_0; replace y1_1 := S1.fr y1_1; replace y1_2 := S1.fr y1_2; replace y1_3 := S1.fr y1_3; replace H1 : Hid (b1 < W1s.heap.size) := Nat.lt_of_lt_of_le H1.out S1.kept.size; replace B := B.trans (S1.kept.below _ (Nat.le_trans O0.out (by have q1 := O1.out; omega)) B.size); clear S1) | fail)
      refine (l6Vols_is b1 av nv cv vs _ (h.vol.below B) c1_1 hnv c1 HC1.out).mono ?_
      rintro e w1 ⟨rfl, BB⟩
      replace c0_0 := cell_later BB c0_0
      replace c0_1 := cell_later BB c0_1
      replace c0_2 := cell_later BB c0_2
      replace c0_3 := cell_later BB c0_3
      replace H0 : Hid (b0 < w1.heap.size) := Nat.lt_of_lt_of_le H0.out BB.size
      replace c1_0 := cell_later BB c1_0
      replace c1_1 := cell_later BB c1_1
      replace c1_2 := cell_later BB c1_2
      replace c1_3 := cell_later BB c1_3
      replace y1_0 := frozen_later BB H1.out y1_0
      replace y1_1 := frozen_later BB H1.out y1_1
      replace y1_2 := frozen_later BB H1.out y1_2
      replace y1_3 := frozen_later BB H1.out y1_3
      replace H1 : Hid (b1 < w1.heap.size) := Nat.lt_of_lt_of_le H1.out BB.size
      replace B := below_next B BB
      clear BB
      by_cases z1 : c1 = 0
      rotate_left 1
      · have hz : (c1 != 0) = true := by simp [z1]
        have HE : Hid (deFault fr tt vs ss = c1) := HV.out.trans (if_neg z1)
        go_wp2
        go_ret
        exact ⟨ret_int (by rw [← HD'.out, HE.out]), B⟩
      have hz1 : (c1 != 0) = false := by simp [z1]
      have HD : Hid (stFault ss = d) := by show _ = _; rw [← HD'.out, HV.out, if_pos z1]
      have R := h.ste.below B
      have G3 := c0_3
      have BWW : Below w.heap.size w w1 := B
      clear B c0_0 c0_1 c0_2 c0_3 c1_0 c1_1 c1_2 c1_3 y1_0 y1_1 y1_2 y1_3 H0 H1
      go_wp2
      go_loopw [5] (fun i wr => ∃ k : Nat, k ≤ nq ∧ i = .int .i64 k ∧ stFault ss = stFrom ss (nq - k) k ∧ Below w1.heap.size w1 wr) (fun i _ => nq - (intOf i).toNat)
      case atStart => exact ⟨0, Nat.zero_le _, rfl, by rw [Nat.sub_zero, ← hsl]; rfl, Below.refl _ _⟩
      case round =>
        obtain ⟨k, hk, rfl, ha, B⟩ := hrel
        have HA : Hid _ := ha
        clear ha
        have g3 := cell_later B G3
        by_cases hlt : k < nq
        rotate_left 1
        · obtain rfl : k = nq := by omega
          have HE : Hid (stFault ss = 0) := by show _ = _; rw [HA.out, ← hsl]; exact stFrom_end (Nat.le_refl _)
          go_wp2
          go_ret
          exact ⟨ret_int (by rw [← HD.out, HE.out]), below_next BWW (B)⟩
        have HS : Hid _ := stFrom_step (ss := ss) (k := k) (by omega)
        rw [hsl] at HS
        have hpre : Hid (∀ j, k = j + 1 → ∃ b off, aq = some ⟨b, off, none⟩ ∧ wr.cell? ⟨b, off + j * 4, none⟩ = some (.bool (ss.getD (k - 1) st0).1) ∧ wr.cell? ⟨b, off + j * 4 + 1, none⟩ = some (.int .i64 (ss.getD (k - 1) st0).2.1) ∧ wr.cell? ⟨b, off + j * 4 + 2, none⟩ = some (.int .i64 (ss.getD (k - 1) st0).2.2.1) ∧ wr.cell? ⟨b, off + j * 4 + 3, none⟩ = some (.int .i64 (ss.getD (k - 1) st0).2.2.2)) := fun j e => by
          obtain ⟨b, off, e1, _, _, hbs, c0, c1, c2, c3⟩ := R.quad (i := j) (by omega)
          rw [show k - 1 = j by omega]
          exact ⟨b, off, e1, cell_later B c0, cell_later B c1, cell_later B c2, cell_later B c3⟩
        obtain ⟨b, off, rfl, _, _, hbs, v0, v1, v2, v3⟩ := R.quad hlt
        replace v0 := cell_later B v0
        replace v1 := cell_later B v1
        replace v2 := cell_later B v2
        replace v3 := cell_later B v3
        have hlk : (k : Int) < (nq : Int) := by omega
        obtain ⟨⟨s, x, y, z⟩, hx⟩ : ∃ x, ss.getD k st0 = x := ⟨_, rfl⟩
        obtain ⟨⟨s1, x1, y1, z1⟩, hx1⟩ : ∃ x, ss.getD (k - 1) st0 = x := ⟨_, rfl⟩
        rw [hx] at v0 v1 v2 v3 HS
        rw [hx1] at hpre HS
        simp only at v0 v1 v2 v3 HS hpre
        clear hx hx1
        have A : Below wr.heap.size wr (wr.alloc (.cells #[.bool s, .int .i64 x, .int .i64 y, .int .i64 z] 141)) := (Below.refl _ _).alloc (Nat.le_refl _) _
        have C := below_step B B.size A
        have c0 : (wr.alloc (.cells #[.bool s, .int .i64 x, .int .i64 y, .int .i64 z] 141)).cell? ⟨wr.heap.size, 0, none⟩ = some (.bool s) := by simp
        have c1 : (wr.alloc (.cells #[.bool s, .int .i64 x, .int .i64 y, .int .i64 z] 141)).cell? ⟨wr.heap.size, 1, none⟩ = some (.int .i64 x) := by simp
        have c2 : (wr.alloc (.cells #[.bool s, .int .i64 x, .int .i64 y, .int .i64 z] 141)).cell? ⟨wr.heap.size, 2, none⟩ = some (.int .i64 y) := by simp
        have c3 : (wr.alloc (.cells #[.bool s, .int .i64 x, .int .i64 y, .int .i64 z] 141)).cell? ⟨wr.heap.size, 3, none⟩ = some (.int .i64 z) := by simp
        have g3' := cell_later A g3
        have HBAD : Hid (stOne k (s1, x1, y1, z1) (s, x, y, z) ≠ 0 → stFault ss = stOne k (s1, x1, y1, z1) (s, x, y, z)) := fun hx => by rw [HA.out, HS.out, if_neg hx]
        obtain ⟨b0x, h0⟩ : ∃ b, volIdB x = b := ⟨_, rfl⟩
        obtain ⟨b1, h1⟩ : ∃ b, spotB y = b := ⟨_, rfl⟩
        obtain ⟨b2, h2⟩ : ∃ b, dataB z = b := ⟨_, rfl⟩
        have H0 : Hid _ := h0
        have H1 : Hid _ := h1
        have H2 : Hid _ := h2
        clear h0 h1 h2
        go_wp2_with fail
        refine (l5Id_is x _ b0x H0.out).mono ?_
        rintro e _ ⟨rfl, rfl⟩
        cases b0x with
        | false =>
          have HE : Hid (stFault ss = 3) := by
            have hx : stOne k (s1, x1, y1, z1) (s, x, y, z) = 3 := by unfold stOne; simp [H0.out]
            show _ = _
            rw [HBAD.out (by rw [hx]; decide), hx]
          clear HBAD HS HA hpre
          go_wp2
          go_ret
          exact ⟨ret_int (by rw [← HD.out, HE.out]), below_next BWW (C)⟩
        | true =>
          go_wp2_with fail
          refine (l4Place_is y _ b1 H1.out).mono ?_
          rintro e _ ⟨rfl, rfl⟩
          cases b1 with
          | false =>
            have HE : Hid (stFault ss = 3) := by
              have hx : stOne k (s1, x1, y1, z1) (s, x, y, z) = 3 := by unfold stOne; simp [H1.out]
              show _ = _
              rw [HBAD.out (by rw [hx]; decide), hx]
            clear HBAD HS HA hpre
            go_wp2
            go_ret
            exact ⟨ret_int (by rw [← HD.out, HE.out]), below_next BWW (C)⟩
          | true =>
            go_wp2_with fail
            refine (l3Data_is z _ b2 H2.out).mono ?_
            rintro e _ ⟨rfl, rfl⟩
            cases b2 with
            | false =>
              have HE : Hid (stFault ss = 3) := by
                have hx : stOne k (s1, x1, y1, z1) (s, x, y, z) = 3 := by unfold stOne; simp [H2.out]
                show _ = _
                rw [HBAD.out (by rw [hx]; decide), hx]
              clear HBAD HS HA hpre
              go_wp2
              go_ret
              exact ⟨ret_int (by rw [← HD.out, HE.out]), below_next BWW (C)⟩
            | true =>
              have HO : Hid (stOne k (s1, x1, y1, z1) (s, x, y, z) = if s = false ∧ z ≠ 0 then 1 else if k = 0 then 0 else if aheadB (x1, y1, 0) (x, y, 0) then 0 else 1) := by show _ = _; unfold stOne; rw [if_pos (by simp [H0.out, H1.out, H2.out])]
              cases s with
              | false =>
                by_cases hz : z = 0
                rotate_left 1
                · have HE : Hid (stFault ss = 1) := by
                    have hx : stOne k (s1, x1, y1, z1) (false, x, y, z) = 1 := HO.out.trans (if_pos ⟨rfl, hz⟩)
                    show _ = _
                    rw [HBAD.out (by rw [hx]; decide), hx]
                  have hzz : (z != 0) = true := by simp [hz]
                  clear HBAD HS HA hpre HO hz
                  go_wp2_with fail
                  go_quiet (fail)
                  go_wp2
                  go_ret
                  exact ⟨ret_int (by rw [← HD.out, HE.out]), below_next BWW (below_drewN C _)⟩
                have hzz : (z != 0) = false := by simp [hz]
                replace HO : Hid (stOne k (s1, x1, y1, z1) (false, x, y, z) = if k = 0 then 0 else if aheadB (x1, y1, 0) (x, y, 0) then 0 else 1) := HO.out.trans (if_neg (fun e => e.2 hz))
                clear hz
                generalize hW2 : (wr.alloc (.cells #[.bool false, .int .i64 x, .int .i64 y, .int .i64 z] 141)) = W2 at *
                clear hW2
                cases k with
                | zero =>
                  have HE : Hid (stFault ss = stFrom ss (nq - (0 + 1)) (0 + 1)) := by show _ = _; rw [HA.out, HS.out, HO.out]; rfl
                  clear HBAD HS HA hpre HO
                  have hz0 : decide ((0 : Int) < ((0 : Nat) : Int)) = false := rfl
                  go_wp2_with fail
                  go_quiet (fail)
                  go_wp2
                  go_roundw
                  case rel => exact ⟨0 + 1, by omega, by go_num, HE.out, below_drewN C _⟩
                  case measure => simp [intOf]; omega
                | succ j =>
                  obtain ⟨bb, oo, e', p0, p1, p2, p3⟩ := hpre.out j rfl
                  cases e'
                  replace p0 := cell_later A p0
                  replace p1 := cell_later A p1
                  replace p2 := cell_later A p2
                  replace p3 := cell_later A p3
                  have hz0 : decide ((0 : Int) < ((j + 1 : Nat) : Int)) = true := decide_eq_true (by omega)
                  have hz1 : (0 : Int) < ((j + 1 : Nat) : Int) := by omega
                  have hw : IntKind.i64.wrap (((j + 1 : Nat) : Int) - 1) = (j : Int) := by rw [show ((j + 1 : Nat) : Int) - 1 = (j : Int) by omega]; exact wrapI_same _ (by omega)
                  have hlj : (j : Int) < (nq : Int) := by omega
                  have hw2 : IntKind.i64.wrap (j : Int) = (j : Int) := wrapI_same _ (by omega)
                  have hw3 : IntKind.i64.wrap ((j : Int) + 1 - 1) = (j : Int) := by rw [show (j : Int) + 1 - 1 = (j : Int) by omega]; exact hw2
                  obtain ⟨q, hq⟩ : ∃ q, aheadB (x1, y1, 0) (x, y, 0) = q := ⟨_, rfl⟩
                  have HQ : Hid _ := hq
                  rw [hq] at HO
                  clear hq hpre
                  clear v0 v1 v2 v3 A B g3
                  go_wp2_with fail
                  have D : Below W2.heap.size W2 W2.drew := (Below.refl _ _).drew
                  replace c0 := cell_later D c0
                  replace c1 := cell_later D c1
                  replace c2 := cell_later D c2
                  replace c3 := cell_later D c3
                  replace p0 := cell_later D p0
                  replace p1 := cell_later D p1
                  replace p2 := cell_later D p2
                  replace p3 := cell_later D p3
                  replace g3' := cell_later D g3'
                  replace C := below_step C C.size D
                  clear D
                  go_region_held3 (fun w' => w'.cell? ⟨wr.heap.size, 0, none⟩ = some (.bool false) ∧ w'.cell? ⟨wr.heap.size, 1, none⟩ = some (.int .i64 x) ∧ w'.cell? ⟨wr.heap.size, 2, none⟩ = some (.int .i64 y) ∧ w'.cell? ⟨wr.heap.size, 3, none⟩ = some (.int .i64 z) ∧ w'.cell? ⟨b, off + j * 4, none⟩ = some (.bool s1) ∧ w'.cell? ⟨b, off + j * 4 + 1, none⟩ = some (.int .i64 x1) ∧ w'.cell? ⟨b, off + j * 4 + 2, none⟩ = some (.int .i64 y1) ∧ w'.cell? ⟨b, off + j * 4 + 3, none⟩ = some (.int .i64 z1) ∧ w'.cell? ⟨b0, 3, none⟩ = some (.slice (some ⟨b, off, none⟩) nq cq)) (with_reducible exact ⟨c0, c1, c2, c3, p0, p1, p2, p3, g3'⟩)
                    (first | (go_at_call 103; (with_reducible refine (l7Ahead_is s1 x1 y1 z1 false x y z _ q HQ.out).mono ?_); rintro e w7 ⟨rfl, B5⟩; replace c0 := cell_later B5 c0; replace c1 := cell_later B5 c1; replace c2 := cell_later B5 c2; replace c3 := cell_later B5 c3; replace p0 := cell_later B5 p0; replace p1 := cell_later B5 p1; replace p2 := cell_later B5 p2; replace p3 := cell_later B5 p3; replace g3' := cell_later B5 g3'; replace C := below_step C C.size B5; clear B5))
                  cases q with
                  | false =>
                    have HE : Hid (stFault ss = 1) := by
                      have hx : stOne (j + 1) (s1, x1, y1, z1) (false, x, y, z) = 1 := HO.out
                      show _ = _
                      rw [HBAD.out (by rw [hx]; decide), hx]
                    clear HBAD HS HA HO
                    go_wp2
                    go_ret
                    exact ⟨ret_int (by rw [← HD.out, HE.out]), below_next BWW (C)⟩
                  | true =>
                    have HE : Hid (stFault ss = stFrom ss (nq - (j + 1 + 1)) (j + 1 + 1)) := by show _ = _; rw [HA.out, HS.out, HO.out]; rfl
                    clear HBAD HS HA HO
                    go_wp2
                    go_roundw
                    case rel => exact ⟨j + 1 + 1, by omega, by go_num, HE.out, C⟩
                    case measure => simp [intOf]; omega
              | true =>
                replace HO : Hid (stOne k (s1, x1, y1, z1) (true, x, y, z) = if k = 0 then 0 else if aheadB (x1, y1, 0) (x, y, 0) then 0 else 1) := HO.out.trans (if_neg (fun e => by cases e.1))
                generalize hW2 : (wr.alloc (.cells #[.bool true, .int .i64 x, .int .i64 y, .int .i64 z] 141)) = W2 at *
                clear hW2
                cases k with
                | zero =>
                  have HE : Hid (stFault ss = stFrom ss (nq - (0 + 1)) (0 + 1)) := by show _ = _; rw [HA.out, HS.out, HO.out]; rfl
                  clear HBAD HS HA hpre HO
                  have hz0 : decide ((0 : Int) < ((0 : Nat) : Int)) = false := rfl
                  go_wp2_with fail
                  go_quiet (fail)
                  go_wp2
                  go_roundw
                  case rel => exact ⟨0 + 1, by omega, by go_num, HE.out, below_drewN C _⟩
                  case measure => simp [intOf]; omega
                | succ j =>
                  obtain ⟨bb, oo, e', p0, p1, p2, p3⟩ := hpre.out j rfl
                  cases e'
                  replace p0 := cell_later A p0
                  replace p1 := cell_later A p1
                  replace p2 := cell_later A p2
                  replace p3 := cell_later A p3
                  have hz0 : decide ((0 : Int) < ((j + 1 : Nat) : Int)) = true := decide_eq_true (by omega)
                  have hz1 : (0 : Int) < ((j + 1 : Nat) : Int) := by omega
                  have hw : IntKind.i64.wrap (((j + 1 : Nat) : Int) - 1) = (j : Int) := by rw [show ((j + 1 : Nat) : Int) - 1 = (j : Int) by omega]; exact wrapI_same _ (by omega)
                  have hlj : (j : Int) < (nq : Int) := by omega
                  have hw2 : IntKind.i64.wrap (j : Int) = (j : Int) := wrapI_same _ (by omega)
                  have hw3 : IntKind.i64.wrap ((j : Int) + 1 - 1) = (j : Int) := by rw [show (j : Int) + 1 - 1 = (j : Int) by omega]; exact hw2
                  obtain ⟨q, hq⟩ : ∃ q, aheadB (x1, y1, 0) (x, y, 0) = q := ⟨_, rfl⟩
                  have HQ : Hid _ := hq
                  rw [hq] at HO
                  clear hq hpre
                  clear v0 v1 v2 v3 A B g3
                  go_wp2_with fail
                  have D : Below W2.heap.size W2 W2.drew := (Below.refl _ _).drew
                  replace c0 := cell_later D c0
                  replace c1 := cell_later D c1
                  replace c2 := cell_later D c2
                  replace c3 := cell_later D c3
                  replace p0 := cell_later D p0
                  replace p1 := cell_later D p1
                  replace p2 := cell_later D p2
                  replace p3 := cell_later D p3
                  replace g3' := cell_later D g3'
                  replace C := below_step C C.size D
                  clear D
                  refine wp_region_held_drew (S := (fun w' => w'.cell? ⟨wr.heap.size, 0, none⟩ = some (.bool true) ∧ w'.cell? ⟨wr.heap.size, 1, none⟩ = some (.int .i64 x) ∧ w'.cell? ⟨wr.heap.size, 2, none⟩ = some (.int .i64 y) ∧ w'.cell? ⟨wr.heap.size, 3, none⟩ = some (.int .i64 z) ∧ w'.cell? ⟨b, off + j * 4, none⟩ = some (.bool s1) ∧ w'.cell? ⟨b, off + j * 4 + 1, none⟩ = some (.int .i64 x1) ∧ w'.cell? ⟨b, off + j * 4 + 2, none⟩ = some (.int .i64 y1) ∧ w'.cell? ⟨b, off + j * 4 + 3, none⟩ = some (.int .i64 z1) ∧ w'.cell? ⟨b0, 3, none⟩ = some (.slice (some ⟨b, off, none⟩) nq cq))) (by kernel_rfl) ⟨c0, c1, c2, c3, p0, p1, p2, p3, g3'⟩ (fun hHeld => ?_)
                  refine wpAnyH_take (i := 0) (v := ?_) rfl (by kernel_rfl) (by kernel_rfl) (by kernel_rfl) (fun _ _ _ h => h) (Or.inl ⟨by rfl, ?_⟩) hHeld ?_
                  rotate_left 1
                  · intro w hSw
                    try dsimp only at hSw
                    first | (go_simp; done) | (go_simp; with_reducible rfl)
                  simp only [Act.put, List.setIfInBounds_toArray, List.set_cons_zero, List.set_cons_succ, List.getElem_toArray, List.getElem_cons_zero]
                  refine wpAnyH_take (i := 1) (v := ?_) rfl (by kernel_rfl) (by kernel_rfl) (by kernel_rfl) (fun _ _ _ h => h) (Or.inl ⟨by rfl, ?_⟩) hHeld ?_
                  rotate_left 1
                  · intro w hSw
                    try dsimp only at hSw
                    first | (go_simp; done) | (go_simp; with_reducible rfl)
                  simp only [Act.put, List.setIfInBounds_toArray, List.set_cons_zero, List.set_cons_succ, List.getElem_toArray, List.getElem_cons_zero, List.getElem_cons_succ]
                  refine wpAnyH_take (i := 2) (v := ?_) rfl (by kernel_rfl) (by kernel_rfl) (by kernel_rfl) (fun _ _ _ h => h) (Or.inl ⟨by rfl, ?_⟩) hHeld ?_
                  rotate_left 1
                  · intro w hSw
                    try dsimp only at hSw
                    first | (go_simp; done) | (go_simp; with_reducible rfl)
                  simp only [Act.put, List.setIfInBounds_toArray, List.set_cons_zero, List.set_cons_succ, List.getElem_toArray, List.getElem_cons_zero, List.getElem_cons_succ]
                  refine wpAnyH_take (i := 3) (v := ?_) rfl (by kernel_rfl) (by kernel_rfl) (by kernel_rfl) (fun _ _ _ h => h) (Or.inl ⟨by rfl, ?_⟩) hHeld ?_
                  rotate_left 1
                  · intro w hSw
                    try dsimp only at hSw
                    first | (go_simp; done) | (go_simp; with_reducible rfl)
                  simp only [Act.put, List.setIfInBounds_toArray, List.set_cons_zero, List.set_cons_succ, List.getElem_toArray, List.getElem_cons_zero, List.getElem_cons_succ]
                  refine wpAnyH_take (i := 4) (v := undef) rfl (by kernel_rfl) (by kernel_rfl) (by kernel_rfl) (fun _ _ _ h => h) (Or.inr ⟨by rfl, rfl⟩) hHeld ?_
                  simp only [Act.put, List.setIfInBounds_toArray, List.set_cons_zero, List.set_cons_succ, List.getElem_toArray, List.getElem_cons_zero, List.getElem_cons_succ]
                  refine wpAnyH_take (i := 5) (v := undef) rfl (by kernel_rfl) (by kernel_rfl) (by kernel_rfl) (fun _ _ _ h => h) (Or.inr ⟨by rfl, rfl⟩) hHeld ?_
                  simp only [Act.put, List.setIfInBounds_toArray, List.set_cons_zero, List.set_cons_succ, List.getElem_toArray, List.getElem_cons_zero, List.getElem_cons_succ]
                  refine wpAnyH_take (i := 6) (v := undef) rfl (by kernel_rfl) (by kernel_rfl) (by kernel_rfl) (fun _ _ _ h => h) (Or.inr ⟨by rfl, rfl⟩) hHeld ?_
                  simp only [Act.put, List.setIfInBounds_toArray, List.set_cons_zero, List.set_cons_succ, List.getElem_toArray, List.getElem_cons_zero, List.getElem_cons_succ]
                  refine wpAnyH_take (i := 7) (v := ?_) rfl (by kernel_rfl) (by kernel_rfl) (by kernel_rfl) (fun _ _ _ h => h) (Or.inl ⟨by rfl, ?_⟩) hHeld ?_
                  rotate_left 1
                  · intro w hSw
                    try dsimp only at hSw
                    first | (go_simp; done) | (go_simp; with_reducible rfl)
                  simp only [Act.put, List.setIfInBounds_toArray, List.set_cons_zero, List.set_cons_succ, List.getElem_toArray, List.getElem_cons_zero, List.getElem_cons_succ]
                  refine wpAnyH_take (i := 8) (v := ?_) rfl (by kernel_rfl) (by kernel_rfl) (by kernel_rfl) (fun _ _ _ h => h) (Or.inl ⟨by rfl, ?_⟩) hHeld ?_
                  rotate_left 1
                  · intro w hSw
                    try dsimp only at hSw
                    first | (go_simp; done) | (go_simp; with_reducible rfl)
                  simp only [Act.put, List.setIfInBounds_toArray, List.set_cons_zero, List.set_cons_succ, List.getElem_toArray, List.getElem_cons_zero, List.getElem_cons_succ]
                  refine wpAnyH_take (i := 9) (v := ?_) rfl (by kernel_rfl) (by kernel_rfl) (by kernel_rfl) (fun _ _ _ h => h) (Or.inl ⟨by rfl, ?_⟩) hHeld ?_
                  rotate_left 1
                  · intro w hSw
                    try dsimp only at hSw
                    first | (go_simp; done) | (go_simp; with_reducible rfl)
                  simp only [Act.put, List.setIfInBounds_toArray, List.set_cons_zero, List.set_cons_succ, List.getElem_toArray, List.getElem_cons_zero, List.getElem_cons_succ]
                  refine wpAnyH_take (i := 10) (v := ?_) rfl (by kernel_rfl) (by kernel_rfl) (by kernel_rfl) (fun _ _ _ h => h) (Or.inl ⟨by rfl, ?_⟩) hHeld ?_
                  rotate_left 1
                  · intro w hSw
                    try dsimp only at hSw
                    first | (go_simp; done) | (go_simp; with_reducible rfl)
                  simp only [Act.put, List.setIfInBounds_toArray, List.set_cons_zero, List.set_cons_succ, List.getElem_toArray, List.getElem_cons_zero, List.getElem_cons_succ]
                  refine wpAnyH_take (i := 11) (v := ?_) rfl (by kernel_rfl) (by kernel_rfl) (by kernel_rfl) (fun _ _ _ h => h) (Or.inl ⟨by rfl, ?_⟩) hHeld ?_
                  rotate_left 1
                  · intro w hSw
                    try dsimp only at hSw
                    first | (go_simp; done) | (go_simp; with_reducible rfl)
                  simp only [Act.put, List.setIfInBounds_toArray, List.set_cons_zero, List.set_cons_succ, List.getElem_toArray, List.getElem_cons_zero, List.getElem_cons_succ]
                  refine wpAnyH_take (i := 12) (v := ?_) rfl (by kernel_rfl) (by kernel_rfl) (by kernel_rfl) (fun _ _ _ h => h) (Or.inl ⟨by rfl, ?_⟩) hHeld ?_
                  rotate_left 1
                  · intro w hSw
                    try dsimp only at hSw
                    first | (go_simp; done) | (go_simp; with_reducible rfl)
                  simp only [Act.put, List.setIfInBounds_toArray, List.set_cons_zero, List.set_cons_succ, List.getElem_toArray, List.getElem_cons_zero, List.getElem_cons_succ]
                  refine wpAnyH_take (i := 13) (v := ?_) rfl (by kernel_rfl) (by kernel_rfl) (by kernel_rfl) (fun _ _ _ h => h) (Or.inl ⟨by rfl, ?_⟩) hHeld ?_
                  rotate_left 1
                  · intro w hSw
                    try dsimp only at hSw
                    first | (go_simp; done) | (go_simp; with_reducible rfl)
                  simp only [Act.put, List.setIfInBounds_toArray, List.set_cons_zero, List.set_cons_succ, List.getElem_toArray, List.getElem_cons_zero, List.getElem_cons_succ]
                  refine wpAnyH_take (i := 14) (v := ?_) rfl (by kernel_rfl) (by kernel_rfl) (by kernel_rfl) (fun _ _ _ h => h) (Or.inl ⟨by rfl, ?_⟩) hHeld ?_
                  rotate_left 1
                  · intro w hSw
                    try dsimp only at hSw
                    first | (go_simp; done) | (go_simp; with_reducible rfl)
                  simp only [Act.put, List.setIfInBounds_toArray, List.set_cons_zero, List.set_cons_succ, List.getElem_toArray, List.getElem_cons_zero, List.getElem_cons_succ]
                  refine wpAnyH_take (i := 15) (v := ?_) rfl (by kernel_rfl) (by kernel_rfl) (by kernel_rfl) (fun _ _ _ h => h) (Or.inl ⟨by rfl, ?_⟩) hHeld ?_
                  rotate_left 1
                  · intro w hSw
                    try dsimp only at hSw
                    first | (go_simp; done) | (go_simp; with_reducible rfl)
                  simp only [Act.put, List.setIfInBounds_toArray, List.set_cons_zero, List.set_cons_succ, List.getElem_toArray, List.getElem_cons_zero, List.getElem_cons_succ]
                  refine wpAnyH_take (i := 16) (v := ?_) rfl (by kernel_rfl) (by kernel_rfl) (by kernel_rfl) (fun _ _ _ h => h) (Or.inl ⟨by rfl, ?_⟩) hHeld ?_
                  rotate_left 1
                  · intro w hSw
                    try dsimp only at hSw
                    first | (go_simp; done) | (go_simp; with_reducible rfl)
                  simp only [Act.put, List.setIfInBounds_toArray, List.set_cons_zero, List.set_cons_succ, List.getElem_toArray, List.getElem_cons_zero, List.getElem_cons_succ]
                  refine wpAnyH_take (i := 17) (v := ?_) rfl (by kernel_rfl) (by kernel_rfl) (by kernel_rfl) (fun _ _ _ h => h) (Or.inl ⟨by rfl, ?_⟩) hHeld ?_
                  rotate_left 1
                  · intro w hSw
                    try dsimp only at hSw
                    first | (go_simp; done) | (go_simp; with_reducible rfl)
                  simp only [Act.put, List.setIfInBounds_toArray, List.set_cons_zero, List.set_cons_succ, List.getElem_toArray, List.getElem_cons_zero, List.getElem_cons_succ]
                  refine wpAnyH_take (i := 18) (v := ?_) rfl (by kernel_rfl) (by kernel_rfl) (by kernel_rfl) (fun _ _ _ h => h) (Or.inl ⟨by rfl, ?_⟩) hHeld ?_
                  rotate_left 1
                  · intro w hSw
                    try dsimp only at hSw
                    first | (go_simp; done) | (go_simp; with_reducible rfl)
                  simp only [Act.put, List.setIfInBounds_toArray, List.set_cons_zero, List.set_cons_succ, List.getElem_toArray, List.getElem_cons_zero, List.getElem_cons_succ]
                  refine wpAnyH_ready (rs := [19]) (by kernel_rfl) (by simp) ?_
                  refine AllReadyH.cons rfl (fun KK hKK => ?_) AllReadyH.nil
                  go_simp
                  go_at_call 103
                  refine (l7Ahead_is s1 x1 y1 z1 true x y z _ q HQ.out).mono ?_
                  rintro e w7 ⟨rfl, B5⟩
                  replace c0 := cell_later B5 c0
                  replace c1 := cell_later B5 c1
                  replace c2 := cell_later B5 c2
                  replace c3 := cell_later B5 c3
                  replace p0 := cell_later B5 p0
                  replace p1 := cell_later B5 p1
                  replace p2 := cell_later B5 p2
                  replace p3 := cell_later B5 p3
                  replace g3' := cell_later B5 g3'
                  replace C := below_step C C.size B5
                  clear B5
                  clear hHeld
                  refine hKK _ _ ⟨c0, c1, c2, c3, p0, p1, p2, p3, g3'⟩ (fun hHeld => ?_)
                  clear hKK KK
                  refine wpAnyH_take (i := 20) (v := ?_) rfl (by kernel_rfl) (by kernel_rfl) (by kernel_rfl) (fun _ _ _ h => h) (Or.inl ⟨by rfl, ?_⟩) hHeld ?_
                  rotate_left 1
                  · intro w hSw
                    try dsimp only at hSw
                    first | (go_simp; done) | (go_simp; with_reducible rfl)
                  simp only [Act.put, List.setIfInBounds_toArray, List.set_cons_zero, List.set_cons_succ, List.getElem_toArray, List.getElem_cons_zero, List.getElem_cons_succ]
                  refine wpAnyH_take (i := 21) (v := ?_) rfl (by kernel_rfl) (by kernel_rfl) (by kernel_rfl) (fun _ _ _ h => h) (Or.inl ⟨by rfl, ?_⟩) hHeld ?_
                  rotate_left 1
                  · intro w hSw
                    try dsimp only at hSw
                    first | (go_simp; done) | (go_simp; with_reducible rfl)
                  simp only [Act.put, List.setIfInBounds_toArray, List.set_cons_zero, List.set_cons_succ, List.getElem_toArray, List.getElem_cons_zero, List.getElem_cons_succ]
                  refine wpAnyH_take (i := 22) (v := ?_) rfl (by kernel_rfl) (by kernel_rfl) (by kernel_rfl) (fun _ _ _ h => h) (Or.inl ⟨by rfl, ?_⟩) hHeld ?_
                  rotate_left 1
                  · intro w hSw
                    try dsimp only at hSw
                    first | (go_simp; done) | (go_simp; with_reducible rfl)
                  simp only [Act.put, List.setIfInBounds_toArray, List.set_cons_zero, List.set_cons_succ, List.getElem_toArray, List.getElem_cons_zero, List.getElem_cons_succ]
                  refine wpAnyH_done (by kernel_rfl) ?_ _
                  cases q with
                  | false =>
                    have HE : Hid (stFault ss = 1) := by
                      have hx : stOne (j + 1) (s1, x1, y1, z1) (true, x, y, z) = 1 := HO.out
                      show _ = _
                      rw [HBAD.out (by rw [hx]; decide), hx]
                    clear HBAD HS HA HO
                    go_wp2
                    go_ret
                    exact ⟨ret_int (by rw [← HD.out, HE.out]), below_next BWW (C)⟩
                  | true =>
                    have HE : Hid (stFault ss = stFrom ss (nq - (j + 1 + 1)) (j + 1 + 1)) := by show _ = _; rw [HA.out, HS.out, HO.out]; rfl
                    clear HBAD HS HA HO
                    go_wp2
                    go_roundw
                    case rel => exact ⟨j + 1 + 1, by omega, by go_num, HE.out, C⟩
                    case measure => simp [intOf]; omega

end Go.Proofs.Ytcbfmjanjciodaa
