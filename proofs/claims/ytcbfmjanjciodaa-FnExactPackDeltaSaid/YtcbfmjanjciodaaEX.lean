/- What this law needs of the texts before it beyond what stands in them. -/
import Derived.Test.YtcbfmjanjciodaaBase
import Derived.Test.YtcbfmjanjciodaaZT
import Derived.Test.YtcbfmjanjciodaaCopy
import Derived.Test.YtcbfmjanjciodaaMark
import Derived.Test.YtcbfmjanjciodaaEq
import Derived.Test.YtcbfmjanjciodaaMark2
import Derived.Test.YtcbfmjanjciodaaBC
import Derived.Test.YtcbfmjanjciodaaSm
import Derived.Test.YtcbfmjanjciodaaFault
import Derived.Test.YtcbfmjanjciodaaArr
import Derived.Test.YtcbfmjanjciodaaFlush
import Derived.Test.YtcbfmjanjciodaaSpec1
import Derived.Test.YtcbfmjanjciodaaSFlush
import Derived.Test.YtcbfmjanjciodaaAll
import Derived.Test.YtcbfmjanjciodaaPutS
import Derived.Test.YtcbfmjanjciodaaFacts
import Derived.Test.YtcbfmjanjciodaaZM
import Derived.Test.YtcbfmjanjciodaaZY
import Derived.Test.YtcbfmjanjciodaaP1
import Derived.Test.YtcbfmjanjciodaaP2
import Derived.Test.YtcbfmjanjciodaaP4
import Derived.Test.YtcbfmjanjciodaaP3
import Derived.Test.YtcbfmjanjciodaaQ0
import Derived.Test.YtcbfmjanjciodaaZU
import Derived.Test.YtcbfmjanjciodaaT8
import Derived.Test.YtcbfmjanjciodaaZW
import Derived.Test.YtcbfmjanjciodaaZX
import Derived.Test.YtcbfmjanjciodaaZZ
import Derived.Test.YtcbfmjanjciodaaZQ
import Derived.Test.YtcbfmjanjciodaaZV
import Derived.Test.YtcbfmjanjciodaaYP
import Derived.Test.YtcbfmjanjciodaaPC
import Derived.Test.YtcbfmjanjciodaaYE
import Derived.Test.YtcbfmjanjciodaaPPl
import Derived.Test.YtcbfmjanjciodaaYL
import Derived.Test.YtcbfmjanjciodaaYQ
import Derived.Test.YtcbfmjanjciodaaZR
import Derived.Test.YtcbfmjanjciodaaOpenP
import Derived.Test.YtcbfmjanjciodaaRowL
import Derived.Test.YtcbfmjanjciodaaYO
namespace Go.Proofs.Ytcbfmjanjciodaa
open Go.RowKit

theorem RowAt.of_owned {w : World} {base : Nat} {e : TypeId} {size : Nat} {v : Value} {n : Nat} {cs : List Value} (h : w.ownsRow base e size v n cs) : ∃ ao cap, v = .slice ao n cap ∧ RowAt w true base w.heap.size size ao n cap cs := by
  rcases h.2 with ⟨rfl, rfl⟩ | ⟨g, cap, cur, rfl, hg, hh, hc, r⟩
  · exact ⟨none, 0, rfl, h.1, Nat.le_refl _, fun h => absurd rfl h⟩
  · exact ⟨_, _, rfl, RowAt.of_owns h hc⟩

end Go.Proofs.Ytcbfmjanjciodaa

namespace Go.Proofs.Ytcbfmjanjciodaa
open Go.RowKit

theorem nodeOf_append (ns : List Nd) (bs : List (Int × Int)) (j : Nat) (nd : Nd) : nodeOf (ns ++ [nd], bs) j = if j = ns.length then nd else ns.getD j nd0 := by
  unfold nodeOf
  by_cases e : j = ns.length
  · subst e; simp [List.getD]
  · rw [if_neg e]
    by_cases h : j < ns.length
    · rw [List.getD_eq_getElem?_getD, List.getElem?_append_left h, ← List.getD_eq_getElem?_getD]
    · rw [List.getD_eq_getElem?_getD, List.getElem?_eq_none (by simp; omega), List.getD_eq_getElem?_getD, List.getElem?_eq_none (by omega)]
theorem Inv.append {f : Fo} (h : Inv f) (hl : f.1.length < 60) {nd : Nd} (hn : NdOk (f.1 ++ [nd], f.2) nd) : Inv (f.1 ++ [nd], f.2) := by
  refine ⟨h.nb, by simp; omega, fun m => ?_, h.bk⟩
  rw [nodeOf_append]
  by_cases e : m = f.1.length
  · rw [if_pos e]; exact hn
  · rw [if_neg e]
    have hm := h.nd m
    refine ⟨hm.r0, hm.r1, hm.z, hm.kl, fun h0 k hk' => ?_, hm.so⟩
    rcases hm.ks h0 k hk' with e1 | ⟨h1, h2⟩
    · exact Or.inl e1
    · refine Or.inr ⟨h1, ?_⟩
      cases hl : (nodeOf f m).2.1 with
      | true => rw [show (f.1.getD m nd0).2.1 = true from hl, if_pos rfl]; rw [hl, if_pos rfl] at h2; exact h2
      | false =>
        rw [show (f.1.getD m nd0).2.1 = false from hl]
        rw [hl, if_neg (by decide)] at h2
        rw [if_neg (by decide), nodeOf_append, if_neg (by omega)]
        exact ⟨by simp; omega, h2.2⟩
end Go.Proofs.Ytcbfmjanjciodaa

namespace Go.Proofs.Ytcbfmjanjciodaa
open Go.RowKit

def marks (k : Int) (n : Nat) : List Int := (List.range n).map fun (i : Nat) => k + (i : Int)
theorem marks_len (k : Int) (n : Nat) : (marks k n).length = n := by simp [marks]
theorem marks_getD (k : Int) (n i : Nat) (h : i < n) : (marks k n).getD i 0 = k + i := by simp [marks, List.getD, h]
/-- What has been marked so far. -/
def mk1 (xs : List Int) (k : Int) (i : Nat) : List Int := marks k i ++ xs.drop i
theorem mk1_set (xs : List Int) (k : Int) (i : Nat) (h : i < xs.length) : (ints (mk1 xs k i)).set i (.int .i64 (k + i)) = ints (mk1 xs k (i + 1)) := by
  unfold ints mk1
  rw [← List.map_set, List.set_append, if_neg (by rw [marks_len]; omega), marks_len, Nat.sub_self, List.drop_eq_getElem_cons h, List.set_cons_zero]
  simp [marks, List.range_succ]
theorem mk1_all (xs : List Int) (k : Int) : mk1 xs k xs.length = marks k xs.length := by simp [mk1]
theorem mk1_zero (xs : List Int) (k : Int) : mk1 xs k 0 = xs := by simp [mk1, marks]

set_option maxHeartbeats 400000 in
theorem markInts_any {lo hi : Nat} (ao : Option Addr) (n cap : Nat) (xs : List Int) (k : Int) (w : World) (h : RowAt w true lo hi 1 ao n cap (ints xs)) (hn : n ≤ 4194304) (hk0 : 0 ≤ k) (hk1 : k ≤ 16777216) :
    Calls Try.prog 59 #[.slice ao n cap, .int .i64 k] w fun e w' => e = .returned (.int .i64 (k + n)) ∧ RowAt w' true lo hi 1 ao n cap (ints (marks k n)) ∧ Kept lo hi w w' := by
  have hx := h.nInts
  go_enter Try.func59, Try.ntmps59
  go_wp2
  go_loopw [1, 5] (fun v i wr => ∃ j : Nat, j ≤ n ∧ i = .int .i64 j ∧ v = .int .i64 (k + j) ∧ RowAt wr true lo hi 1 ao n cap (ints (mk1 xs k j)) ∧ Kept lo hi w wr) (fun _ i _ => n - (intOf i).toNat)
  case atStart => exact ⟨0, Nat.zero_le _, rfl, by simp, by rw [mk1_zero]; exact h, Kept.refl _ _ _⟩
  case round =>
    obtain ⟨j, hj, rfl, rfl, R, hK⟩ := hrel
    by_cases hlt : j < n
    · obtain ⟨b, off, rfl, hlo, hhi, hbs, hc, hf0⟩ := R.int hlt
      have hf := hf0 rfl
      have R2 := R.stored (i := j) (by omega) (.int .i64 (k + j))
      rw [mk1_set xs k j (by omega)] at R2
      have K2 : Kept lo hi w (wr.setCell ⟨b, off + j, none⟩ (.int .i64 (k + j))) := hK.setCell (p := ⟨b, off + j, none⟩) hlo hhi _
      have hl : (j : Int) < n := by omega
      clear R hf0 hK
      generalize (mk1 xs k j).getD j 0 = old at *
      go_wp2
      go_roundw
      case rel => exact ⟨j + 1, by omega, by go_num, by simp; omega, R2, K2⟩
      case measure => simp [intOf]; omega
    · have hjn : j = n := by omega
      subst hjn
      rw [← hx, mk1_all] at R
      go_wp2
      go_ret
      exact ⟨rfl, by rw [← hx]; exact R, hK⟩

set_option maxHeartbeats 400000 in
theorem heldInts_any {o : Bool} {lo hi : Nat} (ao : Option Addr) (n cap : Nat) (k : Int) (w : World) (h : RowAt w o lo hi 1 ao n cap (ints (marks k n))) (hn : n ≤ 4194304) (hk0 : 0 ≤ k) (hk1 : k ≤ 16777216) :
    Calls Try.prog 121 #[.slice ao n cap, .int .i64 k] w fun e w' => e = .returned (.int .i64 (k + n)) ∧ w' = w := by
  go_enter Try.func121, Try.ntmps121
  go_wp2
  go_loop [1, 5] (fun v i => ∃ j : Nat, j ≤ n ∧ i = .int .i64 j ∧ v = .int .i64 (k + j)) (fun _ i => n - (intOf i).toNat)
  case atStart => exact ⟨0, Nat.zero_le _, rfl, by simp⟩
  case round =>
    obtain ⟨j, hj, rfl, rfl⟩ := hrel
    by_cases hlt : j < n
    · obtain ⟨b, off, rfl, hlo, hhi, hbs, hc, hf0⟩ := h.int hlt
      rw [marks_getD k n j hlt] at hc
      have he : ((k + (j : Int)) != (k + (j : Int))) = false := by simp
      have hl : (j : Int) < n := by omega
      clear hf0
      go_wp2
      go_round
      case rel => exact ⟨j + 1, by omega, by go_num, by simp; omega⟩
      case measure => simp [intOf]; omega
    · have hjn : j = n := by omega
      subst hjn
      go_wp2
      go_ret
      exact ⟨rfl, rfl⟩

end Go.Proofs.Ytcbfmjanjciodaa

namespace Go.Proofs.Ytcbfmjanjciodaa
open Go.RowKit

set_option maxHeartbeats 400000 in
theorem markIRes_any {lo hi : Nat} (c : Int) (a0 : Option Addr) (n0 c0 : Nat) (xs : List Int) (w : World) (h : RowAt w true lo hi 1 a0 n0 c0 (ints xs)) (hn0 : n0 ≤ 4194304) :
    Calls Try.prog 53 #[.agg #[.int .i64 c, .slice a0 n0 c0], .int .i64 1] w fun e w' => e = .returned (.int .i64 (1 + n0)) ∧ RowAt w' true lo hi 1 a0 n0 c0 (ints (marks 1 n0)) ∧ Kept lo hi w w' := by
  have B1 : Below w.heap.size w (w.alloc (.cells #[.int .i64 c, .slice a0 n0 c0] 92)) := (Below.refl _ _).alloc (Nat.le_refl _) _
  go_enter Try.func53, Try.ntmps53
  go_wp2_with fail
  refine (markInts_any _ _ _ xs _ _ (by exact h.below B1) hn0 (by omega) (by omega)).mono ?_
  rintro e w1 ⟨rfl, s0, K1⟩
  go_wp2
  go_ret
  exact ⟨rfl, s0, (Kept.of_below B1).trans K1⟩

set_option maxHeartbeats 400000 in
theorem heldIRes_any {lo hi : Nat} (c : Int) (a0 : Option Addr) (n0 c0 : Nat) (w : World) (h : RowAt w true lo hi 1 a0 n0 c0 (ints (marks 1 n0))) (hn0 : n0 ≤ 4194304) :
    Calls Try.prog 54 #[.agg #[.int .i64 c, .slice a0 n0 c0], .int .i64 1] w fun e w' => e = .returned (.int .i64 (1 + n0)) ∧ Below w.heap.size w w' := by
  have B1 : Below w.heap.size w (w.alloc (.cells #[.int .i64 c, .slice a0 n0 c0] 92)) := (Below.refl _ _).alloc (Nat.le_refl _) _
  go_enter Try.func54, Try.ntmps54
  go_wp2_with fail
  refine (heldInts_any _ _ _ _ _ (by exact h.below B1) hn0 (by omega) (by omega)).mono ?_
  rintro e w1 ⟨rfl, rfl⟩
  have hp2 : ¬ ((1 : Int) + n0 < 0) := by omega
  go_wp2
  go_ret
  exact ⟨rfl, B1⟩

set_option maxHeartbeats 400000 in
theorem eqIRes_yes {o1 o2 : Bool} {l1 u1 l2 u2 : Nat} (c : Int) (a1 : Option Addr) (n1 c1 : Nat) (b1 : Option Addr) (m1 d1 : Nat) (xs : List Int) (w : World)
    (h : RowAt w o1 l1 u1 1 a1 n1 c1 (ints xs)) (g : RowAt w o2 l2 u2 1 b1 m1 d1 (ints xs)) (hn : n1 ≤ 2097152) :
    Calls Try.prog 52 #[.agg #[.int .i64 c, .slice a1 n1 c1], .agg #[.int .i64 c, .slice b1 m1 d1]] w fun e w' => e = .returned (.bool true) ∧ Below w.heap.size w w' := by
  have hm1 : m1 = n1 := by rw [← h.nInts, ← g.nInts]
  subst hm1
  have B1 : Below w.heap.size w ((w.alloc (.cells #[.int .i64 c, .slice a1 m1 c1] 92)).alloc (.cells #[.int .i64 c, .slice b1 m1 d1] 92)) := ((Below.refl _ _).alloc (Nat.le_refl _) _).alloc (by simp) _
  have he : (c != c) = false := by simp
  go_enter Try.func52, Try.ntmps52
  go_wp2_with fail
  refine (eqInts_is _ _ _ _ _ _ xs xs _ (by exact h.below B1) (by exact g.below B1) hn hn true (by simp)).mono ?_
  rintro e w1 ⟨rfl, hb1⟩
  have B2 := below_next B1 hb1
  go_wp2
  go_ret
  exact ⟨rfl, B2⟩

end Go.Proofs.Ytcbfmjanjciodaa

namespace Go.Proofs.Ytcbfmjanjciodaa
open Go.RowKit

theorem RowAt.of_front {w : World} {g n cap size : Nat} {cs : List Value} {rest : Array Value} {t : TypeId} (h : w.heap[g]? = some (.cells (cs.toArray ++ rest) t (0, 0))) (hn : cs.length = n * size) (hc : n ≤ cap) : RowAt w true g (g + 1) size (some ⟨g, 0, none⟩) n cap cs := by
  have hlt : g < w.heap.size := (Array.getElem?_eq_some_iff.1 h).1
  refine ⟨hn, hc, fun _ => ⟨g, 0, rfl, Nat.le_refl _, by omega, hlt, fun i hi => ?_, fun _ i _ => frozen_of_row w g _ _ t h⟩⟩
  rw [cell_of_row w g _ _ t (0, 0) h]
  have : i < cs.length := by omega
  simp [List.getD, Array.getElem?_append, this]

end Go.Proofs.Ytcbfmjanjciodaa

namespace Go.Proofs.Ytcbfmjanjciodaa
open Go.RowKit

theorem row_lit (W : World) (cs : List Value) (t : TypeId) (n size : Nat) (h : cs.length = n * size) : RowAt (W.alloc (.cells cs.toArray t)) true W.heap.size (W.heap.size + 1) size (some ⟨W.heap.size, 0, none⟩) n n cs :=
  RowAt.of_front (rest := #[]) (by simpa using heap_alloc_new W (.cells cs.toArray t)) h (Nat.le_refl _)

end Go.Proofs.Ytcbfmjanjciodaa

namespace Go.Proofs.Ytcbfmjanjciodaa
open Go.RowKit

/-- a whole block -/
def Blk (w : World) (b : Nat) (e : TypeId) (L : List Value) : Prop := w.heap[b]? = some (.cells L.toArray e (0, 0))
theorem Blk.lt {w : World} {b : Nat} {e : TypeId} {L : List Value} (h : Blk w b e L) : b < w.heap.size := by
  rcases Nat.lt_or_ge b w.heap.size with h' | h'
  · exact h'
  · unfold Blk at h; rw [Array.getElem?_eq_none h'] at h; cases h
theorem Blk.cell {w : World} {b : Nat} {e : TypeId} {L : List Value} (h : Blk w b e L) {k : Nat} {v : Value} (hk : L[k]? = some v) : w.cell? ⟨b, k, none⟩ = some v := by
  unfold Blk at h
  simp [World.cell?, h, hk]
theorem Blk.froz {w : World} {b : Nat} {e : TypeId} {L : List Value} (h : Blk w b e L) (k : Nat) : w.frozen? ⟨b, k, none⟩ = false := by
  unfold Blk at h
  simp [World.frozen?, h]
theorem Blk.set {w : World} {b : Nat} {e : TypeId} {L M : List Value} (h : Blk w b e L) : Blk (w.setRow b M.toArray) b e M := setRow_heap w b _ _ e _ h
theorem Blk.drew {w : World} {b : Nat} {e : TypeId} {L : List Value} (h : Blk w b e L) : Blk w.drew b e L := h
theorem step_append_run {P : Program} {ops : Array Oper} {o : Oper} {a : Act} {w : World} {K : Act → World → Prop} {Q : Exit → Act → World → Prop} {E : Prop}
    (hg : o.guard = none) (s x : Operand) (t tn : TypeId) (ho : o.op = .call { callee := .builtin .append, args := #[s, x], argTypes := #[t, tn] })
    (vs vx : Value) (hs : a.eval s = vs) (hx : a.eval x = vx) (v' : Value) (w' : World) (hr : (Builtin.append_ #[t, tn] o.type #[vs, vx]).run P w = .ok v' w') (hK : K (a.put o.dst v') w') :
    if Region.wanted o (yielded ops a.tmps) = true then Oper.wp P o a w K Q else E := by
  have hw : Region.wanted o (yielded ops a.tmps) = true := by simp [Region.wanted, hg]
  rw [if_pos hw]
  exact Lib.wp_append_run w s x t tn ho vs vx hs hx v' w' hr hK

end Go.Proofs.Ytcbfmjanjciodaa

namespace Go.Proofs.Ytcbfmjanjciodaa
open Go.RowKit

/-- what a plain pool without a fault has -/
theorem pvOne_ok {a : Int} {v : Vo} (h : pvOne a v = 0) : (1 ≤ v.1 ∧ v.1 ≤ 99) ∧ (1 ≤ v.2.1 ∧ v.2.1 ≤ 16) ∧ v.2.2 = -1 ∧ a < v.1 := by
  unfold pvOne at h
  split at h
  case isTrue hc =>
    simp [volIdB, quotaB] at hc
    split at h
    · exact absurd h (by decide)
    · exact ⟨hc.1.1, hc.1.2, hc.2, by omega⟩
  case isFalse => exact absurd h (by decide)
theorem pvFrom_ok {vs : List Vo} {n k : Nat} (h : pvFrom vs n k = 0) : ∀ i, k ≤ i → i < k + n → pvOne (idAhead vs i) (vs.getD i vo0) = 0 := by
  induction n generalizing k with
  | zero => intro i h1 h2; omega
  | succ n ih =>
    unfold pvFrom at h
    split at h
    case isTrue hc =>
      intro i h1 h2
      by_cases e : i = k
      · subst e; exact hc
      · exact ih h i (by omega) (by omega)
    case isFalse hc => exact absurd h hc
theorem pv_ok {vs : List Vo} (h : pvFault vs = 0) : ∀ i, i < vs.length → pvOne (idAhead vs i) (vs.getD i vo0) = 0 := fun i hi => pvFrom_ok h i (Nat.zero_le _) (by omega)
end Go.Proofs.Ytcbfmjanjciodaa

namespace Go.Proofs.Ytcbfmjanjciodaa
open Go.RowKit

/-- the same, with the two rows apart -/
def DeTwo (w w' : World) (e : Ending) (fr tt : Int) (nv nq : Nat) (vs : List Vo) (ss : List St) : Prop := ∃ av cv aq cq mid, e = .returned (.agg #[.int .i64 fr, .int .i64 tt, .slice av nv cv, .slice aq nq cq]) ∧ RowAt w' true w.heap.size mid 3 av nv cv (trips vs) ∧ RowAt w' true mid w'.heap.size 4 aq nq cq (quads ss) ∧ w.heap.size ≤ mid ∧ mid ≤ w'.heap.size ∧ Below w.heap.size w w'

set_option maxRecDepth 20000 in
set_option maxHeartbeats 1000000 in
theorem toDelta_two {o : Bool} {lo hi : Nat} (fr tt : Int) (av : Option Addr) (nv cv : Nat) (aq : Option Addr) (nq cq : Nat) (vs : List Vo) (ss : List St) (w : World) (h : DeAt w o lo hi av nv cv aq nq cq vs ss) (hnv : nv ≤ 1048576) (hnq : nq ≤ 1048576) :
    Calls Try.prog 39 #[.agg #[.int .i64 fr, .int .i64 tt, .slice av nv cv, .slice aq nq cq]] w fun e w' => DeTwo w w' e fr tt nv nq vs ss := by
  go_enter Try.func39, Try.ntmps39
  go_wp2_with (first | ((with_reducible refine box_new 73 #[.int .i64 fr, .int .i64 tt, .slice av nv cv, .slice aq nq cq] rfl ?_); intro b0 W0 N0; have O0 : Hid (w.heap.size ≤ b0) := N0.ge; have B := N0.below; have H0 : Hid (b0 < W0.heap.size) := N0.lt; have c0_0 : W0.cell? ⟨b0, 0, none⟩ = some (.int .i64 fr) := N0.cell 0 _ rfl; have c0_1 : W0.cell? ⟨b0, 1, none⟩ = some (.int .i64 tt) := N0.cell 1 _ rfl; have c0_2 : W0.cell? ⟨b0, 2, none⟩ = some (.slice av nv cv) := N0.cell 2 _ rfl; have c0_3 : W0.cell? ⟨b0, 3, none⟩ = some (.slice aq nq cq) := N0.cell 3 _ rfl; clear N0) | (have g1 := H1.out; clear g1; (with_reducible refine alloc_new 78 #[.int .i64 0, .int .i64 0, .slice none 0 0, .slice none 0 0] (fun _ => by kernel_rfl) ?_); intro b2 W2 N2; have O2 : Hid (b1 < b2) := Nat.lt_of_lt_of_le H1.out N2.ge; replace c0_0 := cell_later N2.below c0_0; replace c0_1 := cell_later N2.below c0_1; replace c0_2 := cell_later N2.below c0_2; replace c0_3 := cell_later N2.below c0_3; replace H0 : Hid (b0 < W2.heap.size) := Nat.lt_of_lt_of_le H0.out N2.below.size; replace c1_0 := cell_later N2.below c1_0; replace c1_1 := cell_later N2.below c1_1; replace c1_2 := cell_later N2.below c1_2; replace c1_3 := cell_later N2.below c1_3; replace y1_0 := frozen_later N2.below H1.out y1_0; replace y1_1 := frozen_later N2.below H1.out y1_1; replace y1_2 := frozen_later N2.below H1.out y1_2; replace y1_3 := frozen_later N2.below H1.out y1_3; replace H1 : Hid (b1 < W2.heap.size) := Nat.lt_of_lt_of_le H1.out N2.below.size; replace B := below_next B N2.below; have H2 : Hid (b2 < W2.heap.size) := N2.lt; have c2_0 : W2.cell? ⟨b2, 0, none⟩ = some (.int .i64 0) := N2.cell 0 _ rfl; have c2_1 : W2.cell? ⟨b2, 1, none⟩ = some (.int .i64 0) := N2.cell 1 _ rfl; have c2_2 : W2.cell? ⟨b2, 2, none⟩ = some (.slice none 0 0) := N2.cell 2 _ rfl; have c2_3 : W2.cell? ⟨b2, 3, none⟩ = some (.slice none 0 0) := N2.cell 3 _ rfl; have y2_0 : W2.frozen? ⟨b2, 0, none⟩ = false := N2.froz 0; have y2_1 : W2.frozen? ⟨b2, 1, none⟩ = false := N2.froz 1; have y2_2 : W2.frozen? ⟨b2, 2, none⟩ = false := N2.froz 2; have y2_3 : W2.frozen? ⟨b2, 3, none⟩ = false := N2.froz 3; clear N2) | ((with_reducible refine alloc_new 78 #[.int .i64 0, .int .i64 0, .slice none 0 0, .slice none 0 0] (fun _ => by kernel_rfl) ?_); intro b1 W1 N1; have O1 : Hid (b0 < b1) := Nat.lt_of_lt_of_le H0.out N1.ge; replace c0_0 := cell_later N1.below c0_0; replace c0_1 := cell_later N1.below c0_1; replace c0_2 := cell_later N1.below c0_2; replace c0_3 := cell_later N1.below c0_3; replace H0 : Hid (b0 < W1.heap.size) := Nat.lt_of_lt_of_le H0.out N1.below.size; replace B := below_next B N1.below; have H1 : Hid (b1 < W1.heap.size) := N1.lt; have c1_0 : W1.cell? ⟨b1, 0, none⟩ = some (.int .i64 0) := N1.cell 0 _ rfl; have c1_1 : W1.cell? ⟨b1, 1, none⟩ = some (.int .i64 0) := N1.cell 1 _ rfl; have c1_2 : W1.cell? ⟨b1, 2, none⟩ = some (.slice none 0 0) := N1.cell 2 _ rfl; have c1_3 : W1.cell? ⟨b1, 3, none⟩ = some (.slice none 0 0) := N1.cell 3 _ rfl; have y1_0 : W1.frozen? ⟨b1, 0, none⟩ = false := N1.froz 0; have y1_1 : W1.frozen? ⟨b1, 1, none⟩ = false := N1.froz 1; have y1_2 : W1.frozen? ⟨b1, 2, none⟩ = false := N1.froz 2; have y1_3 : W1.frozen? ⟨b1, 3, none⟩ = false := N1.froz 3; clear N1) | fail)
  have n02 : b0 ≠ b2 := by have q1 := O1.out; have q2 := O2.out; omega
  have n12 : b1 ≠ b2 := by have q2 := O2.out; omega
  have S0 : SetC W2 (W2.setCell ⟨b2, 0, none⟩ (.int .i64 fr)) b2 0 (.int .i64 fr) := setC_mk c2_0 y2_0
  obtain ⟨X0, hX0⟩ : ∃ X0, X0 = W2.setCell ⟨b2, 0, none⟩ (.int .i64 fr) := ⟨_, rfl⟩
  rw [← hX0] at S0
  replace c0_0 := S0.oth c0_0 (Or.inl n02)
  replace c0_1 := S0.oth c0_1 (Or.inl n02)
  replace c0_2 := S0.oth c0_2 (Or.inl n02)
  replace c0_3 := S0.oth c0_3 (Or.inl n02)
  replace c1_0 := S0.oth c1_0 (Or.inl n12)
  replace c1_1 := S0.oth c1_1 (Or.inl n12)
  replace c1_2 := S0.oth c1_2 (Or.inl n12)
  replace c1_3 := S0.oth c1_3 (Or.inl n12)
  replace c2_0 := S0.cell
  replace c2_1 := S0.oth c2_1 (Or.inr (by decide))
  replace c2_2 := S0.oth c2_2 (Or.inr (by decide))
  replace c2_3 := S0.oth c2_3 (Or.inr (by decide))
  replace y1_0 := S0.fr y1_0
  replace y1_1 := S0.fr y1_1
  replace y1_2 := S0.fr y1_2
  replace y1_3 := S0.fr y1_3
  replace y2_0 := S0.fr y2_0
  replace y2_1 := S0.fr y2_1
  replace y2_2 := S0.fr y2_2
  replace y2_3 := S0.fr y2_3
  replace H0 : Hid (b0 < X0.heap.size) := Nat.lt_of_lt_of_le H0.out S0.kept.size
  replace H1 : Hid (b1 < X0.heap.size) := Nat.lt_of_lt_of_le H1.out S0.kept.size
  replace H2 : Hid (b2 < X0.heap.size) := Nat.lt_of_lt_of_le H2.out S0.kept.size
  replace B := B.trans (S0.kept.below _ (by have q0 := O0.out; have q1 := O1.out; have q2 := O2.out; omega) B.size)
  have S1 : SetC X0 (X0.setCell ⟨b2, 1, none⟩ (.int .i64 tt)) b2 1 (.int .i64 tt) := setC_mk c2_1 y2_1
  obtain ⟨X1, hX1⟩ : ∃ X1, X1 = X0.setCell ⟨b2, 1, none⟩ (.int .i64 tt) := ⟨_, rfl⟩
  rw [← hX1] at S1
  replace c0_0 := S1.oth c0_0 (Or.inl n02)
  replace c0_1 := S1.oth c0_1 (Or.inl n02)
  replace c0_2 := S1.oth c0_2 (Or.inl n02)
  replace c0_3 := S1.oth c0_3 (Or.inl n02)
  replace c1_0 := S1.oth c1_0 (Or.inl n12)
  replace c1_1 := S1.oth c1_1 (Or.inl n12)
  replace c1_2 := S1.oth c1_2 (Or.inl n12)
  replace c1_3 := S1.oth c1_3 (Or.inl n12)
  replace c2_0 := S1.oth c2_0 (Or.inr (by decide))
  replace c2_1 := S1.cell
  replace c2_2 := S1.oth c2_2 (Or.inr (by decide))
  replace c2_3 := S1.oth c2_3 (Or.inr (by decide))
  replace y1_0 := S1.fr y1_0
  replace y1_1 := S1.fr y1_1
  replace y1_2 := S1.fr y1_2
  replace y1_3 := S1.fr y1_3
  replace y2_0 := S1.fr y2_0
  replace y2_1 := S1.fr y2_1
  replace y2_2 := S1.fr y2_2
  replace y2_3 := S1.fr y2_3
  replace H0 : Hid (b0 < X1.heap.size) := Nat.lt_of_lt_of_le H0.out S1.kept.size
  replace H1 : Hid (b1 < X1.heap.size) := Nat.lt_of_lt_of_le H1.out S1.kept.size
  replace H2 : Hid (b2 < X1.heap.size) := Nat.lt_of_lt_of_le H2.out S1.kept.size
  replace B := B.trans (S1.kept.below _ (by have q0 := O0.out; have q1 := O1.out; have q2 := O2.out; omega) B.size)
  rw [hX0] at hX1
  rw [← hX1]
  clear hX0 hX1 S0 S1
  refine (toVols_any av nv cv vs _ (h.vol.below B) hnv).mono ?_
  rintro e w0 ⟨rfl, R0, BB⟩
  have G0 : Hid (b2 + 1 ≤ X1.heap.size) := H2.out
  have L0 : Hid (w.heap.size ≤ X1.heap.size) := B.size
  have U0 : Hid (X1.heap.size ≤ w0.heap.size) := BB.size
  replace c0_0 := cell_later BB c0_0
  replace c0_1 := cell_later BB c0_1
  replace c0_2 := cell_later BB c0_2
  replace c0_3 := cell_later BB c0_3
  replace H0 : Hid (b0 < w0.heap.size) := Nat.lt_of_lt_of_le H0.out BB.size
  replace c1_0 := cell_later BB c1_0
  replace c1_1 := cell_later BB c1_1
  replace c1_2 := cell_later BB c1_2
  replace c1_3 := cell_later BB c1_3
  replace y1_0 := frozen_later BB H1.out y1_0
  replace y1_1 := frozen_later BB H1.out y1_1
  replace y1_2 := frozen_later BB H1.out y1_2
  replace y1_3 := frozen_later BB H1.out y1_3
  replace H1 : Hid (b1 < w0.heap.size) := Nat.lt_of_lt_of_le H1.out BB.size
  replace c2_0 := cell_later BB c2_0
  replace c2_1 := cell_later BB c2_1
  replace c2_2 := cell_later BB c2_2
  replace c2_3 := cell_later BB c2_3
  replace y2_0 := frozen_later BB H2.out y2_0
  replace y2_1 := frozen_later BB H2.out y2_1
  replace y2_2 := frozen_later BB H2.out y2_2
  replace y2_3 := frozen_later BB H2.out y2_3
  replace H2 : Hid (b2 < w0.heap.size) := Nat.lt_of_lt_of_le H2.out BB.size
  replace B := below_next B BB
  clear BB
  go_wp2_with fail
  have S2 : SetC w0 (w0.setCell ⟨b2, 2, none⟩ (.slice (some ⟨X1.heap.size, 0, none⟩) nv nv)) b2 2 (.slice (some ⟨X1.heap.size, 0, none⟩) nv nv) := setC_mk c2_2 y2_2
  obtain ⟨X2, hX2⟩ : ∃ X2, X2 = w0.setCell ⟨b2, 2, none⟩ (.slice (some ⟨X1.heap.size, 0, none⟩) nv nv) := ⟨_, rfl⟩
  rw [← hX2] at S2
  rw [← hX2]
  clear hX2
  replace c0_0 := S2.oth c0_0 (Or.inl n02)
  replace c0_1 := S2.oth c0_1 (Or.inl n02)
  replace c0_2 := S2.oth c0_2 (Or.inl n02)
  replace c0_3 := S2.oth c0_3 (Or.inl n02)
  replace c1_0 := S2.oth c1_0 (Or.inl n12)
  replace c1_1 := S2.oth c1_1 (Or.inl n12)
  replace c1_2 := S2.oth c1_2 (Or.inl n12)
  replace c1_3 := S2.oth c1_3 (Or.inl n12)
  replace c2_0 := S2.oth c2_0 (Or.inr (by decide))
  replace c2_1 := S2.oth c2_1 (Or.inr (by decide))
  replace c2_2 := S2.cell
  replace c2_3 := S2.oth c2_3 (Or.inr (by decide))
  replace y1_0 := S2.fr y1_0
  replace y1_1 := S2.fr y1_1
  replace y1_2 := S2.fr y1_2
  replace y1_3 := S2.fr y1_3
  replace y2_0 := S2.fr y2_0
  replace y2_1 := S2.fr y2_1
  replace y2_2 := S2.fr y2_2
  replace y2_3 := S2.fr y2_3
  replace H0 : Hid (b0 < X2.heap.size) := Nat.lt_of_lt_of_le H0.out S2.kept.size
  replace H1 : Hid (b1 < X2.heap.size) := Nat.lt_of_lt_of_le H1.out S2.kept.size
  replace H2 : Hid (b2 < X2.heap.size) := Nat.lt_of_lt_of_le H2.out S2.kept.size
  replace B := B.trans (S2.kept.below _ (by have q0 := O0.out; have q1 := O1.out; have q2 := O2.out; omega) B.size)
  replace R0 := R0.kept S2.kept (Or.inr G0.out)
  have Z1 : Hid (w0.heap.size ≤ X2.heap.size) := S2.kept.size
  clear S2
  refine (toSteps_any aq nq cq ss _ (h.ste.below B) hnq).mono ?_
  rintro e w1 ⟨rfl, R1, BB⟩
  have G1 : Hid (b2 + 1 ≤ X2.heap.size) := H2.out
  have L1 : Hid (w.heap.size ≤ X2.heap.size) := B.size
  replace R0 := R0.below BB
  have U1 : Hid (X2.heap.size ≤ w1.heap.size) := BB.size
  replace c0_0 := cell_later BB c0_0
  replace c0_1 := cell_later BB c0_1
  replace c0_2 := cell_later BB c0_2
  replace c0_3 := cell_later BB c0_3
  replace H0 : Hid (b0 < w1.heap.size) := Nat.lt_of_lt_of_le H0.out BB.size
  replace c1_0 := cell_later BB c1_0
  replace c1_1 := cell_later BB c1_1
  replace c1_2 := cell_later BB c1_2
  replace c1_3 := cell_later BB c1_3
  replace y1_0 := frozen_later BB H1.out y1_0
  replace y1_1 := frozen_later BB H1.out y1_1
  replace y1_2 := frozen_later BB H1.out y1_2
  replace y1_3 := frozen_later BB H1.out y1_3
  replace H1 : Hid (b1 < w1.heap.size) := Nat.lt_of_lt_of_le H1.out BB.size
  replace c2_0 := cell_later BB c2_0
  replace c2_1 := cell_later BB c2_1
  replace c2_2 := cell_later BB c2_2
  replace c2_3 := cell_later BB c2_3
  replace y2_0 := frozen_later BB H2.out y2_0
  replace y2_1 := frozen_later BB H2.out y2_1
  replace y2_2 := frozen_later BB H2.out y2_2
  replace y2_3 := frozen_later BB H2.out y2_3
  replace H2 : Hid (b2 < w1.heap.size) := Nat.lt_of_lt_of_le H2.out BB.size
  replace B := below_next B BB
  clear BB
  go_wp2
  refine bodyPost_ret (v := .agg #[.int .i64 fr, .int .i64 tt, .slice (some ⟨X1.heap.size, 0, none⟩) nv nv, .slice (some ⟨X2.heap.size, 0, none⟩) nq nq]) (by simp [results, Try.results39, go_sem, c1_0, c1_1, c1_2, c1_3]) rfl ?_
  have o2 := O2.out
  have KZ : Kept b1 (b2 + 1) w1 (((((w1.setCell ⟨b2, 3, none⟩ (.slice (some ⟨X2.heap.size, 0, none⟩) nq nq)).setCell ⟨b1, 0, none⟩ (.int .i64 fr)).setCell ⟨b1, 1, none⟩ (.int .i64 tt)).setCell ⟨b1, 2, none⟩ (.slice (some ⟨X1.heap.size, 0, none⟩) nv nv)).setCell ⟨b1, 3, none⟩ (.slice (some ⟨X2.heap.size, 0, none⟩) nq nq)) := by refine Kept.setCell (Kept.setCell (Kept.setCell (Kept.setCell (Kept.setCell (Kept.refl _ _ _) ?_ ?_ _) ?_ ?_ _) ?_ ?_ _) ?_ ?_ _) ?_ ?_ _ <;> simp <;> omega
  have q0 := G0.out
  have q1 := G1.out
  have s := KZ.size
  have u0 := U0.out
  have u1 := U1.out
  have z1 := Z1.out
  have o0 := O0.out
  have o1 := O1.out
  exact ⟨_, _, _, _, w0.heap.size, rfl, (R0.kept KZ (Or.inr q0)).widen L0.out (Nat.le_refl _), (R1.kept KZ (Or.inr q1)).widen z1 (by omega), by have := L0.out; omega, by omega, B.trans (KZ.below _ (by omega) B.size)⟩

end Go.Proofs.Ytcbfmjanjciodaa

namespace Go.Proofs.Ytcbfmjanjciodaa
open Go.RowKit

theorem stOne_ok {k : Nat} {a s : St} (h : stOne k a s = 0) : (1 ≤ s.2.1 ∧ s.2.1 ≤ 99) ∧ (0 ≤ s.2.2.1 ∧ s.2.2.1 ≤ 15) ∧ (0 ≤ s.2.2.2 ∧ s.2.2.2 ≤ 255) ∧ (s.1 = false → s.2.2.2 = 0) ∧ (k = 0 ∨ aheadB (a.2.1, a.2.2.1, 0) (s.2.1, s.2.2.1, 0) = true) := by
  unfold stOne at h
  split at h
  case isFalse => exact absurd h (by decide)
  case isTrue hc =>
    simp [volIdB, spotB, dataB] at hc
    split at h
    · exact absurd h (by decide)
    · rename_i hv
      have hz : s.1 = false → s.2.2.2 = 0 := fun e => Decidable.byContradiction fun hn => hv ⟨e, hn⟩
      split at h
      · exact ⟨hc.1.1, hc.1.2, hc.2, hz, Or.inl (by assumption)⟩
      · split at h
        · exact ⟨hc.1.1, hc.1.2, hc.2, hz, Or.inr (by assumption)⟩
        · exact absurd h (by decide)
theorem stFrom_ok {ss : List St} {n k : Nat} (h : stFrom ss n k = 0) : ∀ i, k ≤ i → i < k + n → stOne i (ss.getD (i - 1) st0) (ss.getD i st0) = 0 := by
  induction n generalizing k with
  | zero => intro i h1 h2; omega
  | succ n ih =>
    unfold stFrom at h
    split at h
    case isTrue hc =>
      intro i h1 h2
      by_cases e : i = k
      · subst e; exact hc
      · exact ih h i (by omega) (by omega)
    case isFalse hc => exact absurd h hc
theorem st_ok {ss : List St} (h : stFault ss = 0) : ∀ i, i < ss.length → stOne i (ss.getD (i - 1) st0) (ss.getD i st0) = 0 := fun i hi => stFrom_ok h i (Nat.zero_le _) (by omega)
theorem de_ok {fr tt : Int} {vs : List Vo} {ss : List St} (h : deFault fr tt vs ss = 0) : (0 ≤ fr ∧ fr ≤ 65520) ∧ (0 ≤ tt ∧ tt ≤ 65520) ∧ vs.length ≤ 6 ∧ ss.length ≤ 120 ∧ pvFault vs = 0 ∧ stFault ss = 0 := by
  unfold deFault at h
  split at h
  case isFalse => exact absurd h (by decide)
  case isTrue h0 =>
    simp [signB] at h0
    split at h
    · exact absurd h (by decide)
    · split at h
      case isFalse hx => exact absurd h hx
      case isTrue h2 => exact ⟨h0.1, h0.2, by omega, by omega, h2, h⟩

end Go.Proofs.Ytcbfmjanjciodaa

namespace Go.Proofs.Ytcbfmjanjciodaa
theorem Try.cellsBool : Try.prog.cellsOf 4 = 1 := by kernel_rfl
end Go.Proofs.Ytcbfmjanjciodaa

namespace Go.Proofs.Ytcbfmjanjciodaa
open Go.RowKit

/-- all that is come to lies in a set that calls lead not out of, and is no higher than where one began -/
theorem clT_in {tab : List (List Nat)} {C : Nat → Bool} {rk : Nat → Nat} (hC : ∀ g, C g = true → ∀ x ∈ tab.getD g [], C x = true ∧ rk x < rk g) (m : Nat) : ∀ (n : Nat) (todo seen : List Nat), (∀ x ∈ todo, C x = true ∧ rk x ≤ m) → (∀ x ∈ seen, C x = true ∧ rk x ≤ m) → ∀ x ∈ clT tab n todo seen, C x = true ∧ rk x ≤ m
  | 0, _, seen, _, h2 => fun x hx => h2 x (by simpa [clT] using hx)
  | n + 1, [], seen, _, h2 => fun x hx => h2 x (by simpa [clT] using hx)
  | n + 1, f :: todo, seen, h1, h2 => fun x hx => by
    unfold clT at hx
    have hf := h1 f (by simp)
    by_cases hs : seen.contains f = true
    · rw [if_pos hs] at hx
      exact clT_in hC m n todo seen (fun y hy => h1 y (by simp [hy])) h2 x hx
    · rw [if_neg hs] at hx
      refine clT_in hC m n _ _ (fun y hy => ?_) (fun y hy => ?_) x hx
      · rcases List.mem_append.1 hy with e | e
        · have := hC f hf.1 y e; exact ⟨this.1, by omega⟩
        · exact h1 y (by simp [e])
      · rcases List.mem_cons.1 hy with e | e
        · rw [e]; exact hf
        · exact h2 y e
section
variable {P : Program} {tab : List (List Nat)} (h : P.funcs.toList.map P.leadsTo = tab)
include h
end
section
variable {P : Program} {tab : List (List Nat)} (h : P.funcs.toList.map P.leadsTo = tab)
include h
theorem recurses_no {f : Nat} (hu : P.unfollowed f = false) {C : Nat → Bool} {rk : Nat → Nat} (hC : ∀ g, C g = true → ∀ x ∈ tab.getD g [], C x = true ∧ rk x < rk g) (hf : C f = true) : P.recurses f = false := by
  unfold Program.recurses
  rw [hu, Bool.false_or, List.any_eq_false]
  intro g hg
  rw [closure_is h] at hg
  have hg' := clT_in hC (rk f) _ [f] [] (fun x hx => by simp at hx; rw [hx]; exact ⟨hf, Nat.le_refl _⟩) (fun x hx => by cases hx) g hg
  rw [lead_is h, Bool.not_eq_true, List.any_eq_false]
  intro x hx
  have hx' := hC g hg'.1 x hx
  rw [Bool.not_eq_true, Bool.eq_false_iff]
  intro hc
  rw [closure_is h] at hc
  have := clT_in hC (rk x) _ [x] [] (fun y hy => by simp at hy; rw [hy]; exact ⟨hx'.1, Nat.le_refl _⟩) (fun y hy => by cases hy) g (by simpa using hc)
  omega
end
theorem ranks_of {tab : List (List Nat)} {rks : List Nat} (h : ((List.range tab.length).all fun g => decide (rks.getD g 0 = 0) || (tab.getD g []).all fun x => decide (rks.getD x 0 ≠ 0) && decide (rks.getD x 0 < rks.getD g 0)) = true) : ∀ g, (fun g => decide (rks.getD g 0 ≠ 0)) g = true → ∀ x ∈ tab.getD g [], (fun g => decide (rks.getD g 0 ≠ 0)) x = true ∧ rks.getD x 0 < rks.getD g 0 := fun g hg x hx => by
  have hg' := of_decide_eq_true hg
  by_cases hl : g < tab.length
  · have := List.all_eq_true.1 h g (List.mem_range.2 hl)
    rw [Bool.or_eq_true] at this
    rcases this with e | e
    · exact absurd (of_decide_eq_true e) hg'
    · have := List.all_eq_true.1 e x hx
      rw [Bool.and_eq_true] at this
      exact ⟨this.1, of_decide_eq_true this.2⟩
  · rw [List.getD_eq_getElem?_getD, List.getElem?_eq_none (by omega)] at hx; cases hx
section
variable {P : Program} {c : List Char} {X : List (List Char)} (h : behindMainWord (wordsSigns P.initOrder.toList) = c :: X) (hg : (c == "gc".toList) = false) (hs : (c == "spec".toList) = false) (hc : (c == "cut".toList) = true) (hr : (c == "carried".toList) = false) (hl : stripLifts liftWords (c :: X) = ([], c :: X))
include h hg hs hc hr hl
end

end Go.Proofs.Ytcbfmjanjciodaa

namespace Go.Proofs.Ytcbfmjanjciodaa
open Go.RowKit

def ranksT : List Nat := [1, 1, 2, 7, 7, 8, 10, 8, 7, 8, 8, 8, 9, 3, 5, 6, 5, 6, 4, 5, 4, 3, 3, 2, 5, 3, 6, 3, 5, 7, 1, 5, 1, 9, 2, 5, 7, 2, 4, 3, 6, 3, 5, 7, 4, 3, 3, 5, 7, 2, 5, 7, 2, 2, 2, 5, 1, 8, 1, 1, 2, 2, 4, 1, 5, 4, 4, 2, 5, 2, 2, 4, 4, 2, 3, 1, 2, 1, 1, 4, 2, 4, 5, 1, 1, 2, 1, 2, 1, 3, 4, 2, 8, 1, 1, 2, 3, 1, 1, 3, 2, 2, 2, 1, 2, 1, 5, 2, 2, 1, 4, 2, 1, 2, 2, 6, 1, 1, 1, 1, 1, 1, 2, 1, 1, 1, 1, 2, 1, 3, 1, 4, 2, 4, 2, 3, 1, 3, 2, 1, 4, 3, 2, 2, 1, 1, 3, 1, 3, 2, 1, 2, 1, 1, 1, 3, 1, 1, 1, 1, 2, 1, 4, 1, 3, 2, 1, 1, 1, 6, 2, 2, 7, 3, 1, 2, 1, 1, 1, 3, 1, 1, 2, 1, 3, 5, 1, 1, 1, 2, 3, 3, 1, 2, 2, 1, 3, 2, 2, 1, 2, 2, 1, 1, 1, 3, 1, 3, 5, 2, 1, 1, 1, 1, 4, 1, 4, 2, 1, 1, 1, 2, 1, 1, 2, 4, 1, 3, 1, 1, 3, 2, 2, 1, 1, 1, 1, 1, 1, 1, 1, 1, 1, 1, 1, 1, 1, 1, 1, 1, 1, 1]
theorem ranks_ok : ∀ g, (fun g => decide (ranksT.getD g 0 ≠ 0)) g = true → ∀ x ∈ leadsT.getD g [], (fun g => decide (ranksT.getD g 0 ≠ 0)) x = true ∧ ranksT.getD x 0 < ranksT.getD g 0 := ranks_of (by kernel_rfl)
end Go.Proofs.Ytcbfmjanjciodaa

