/- What this law needs of the texts before it beyond what stands in them. -/
import Derived.Test.YtpbhiednmnolgaaBase
import Derived.Test.YtpbhiednmnolgaaZT
import Derived.Test.YtpbhiednmnolgaaCopy
import Derived.Test.YtpbhiednmnolgaaMark
import Derived.Test.YtpbhiednmnolgaaEq
import Derived.Test.YtpbhiednmnolgaaMark2
import Derived.Test.YtpbhiednmnolgaaBC
import Derived.Test.YtpbhiednmnolgaaSm
import Derived.Test.YtpbhiednmnolgaaFault
import Derived.Test.YtpbhiednmnolgaaArr
import Derived.Test.YtpbhiednmnolgaaFlush
import Derived.Test.YtpbhiednmnolgaaSpec1
import Derived.Test.YtpbhiednmnolgaaSFlush
import Derived.Test.YtpbhiednmnolgaaAll
import Derived.Test.YtpbhiednmnolgaaPutS
import Derived.Test.YtpbhiednmnolgaaFacts
import Derived.Test.YtpbhiednmnolgaaZM
import Derived.Test.YtpbhiednmnolgaaYE
import Derived.Test.YtpbhiednmnolgaaZY
import Derived.Test.YtpbhiednmnolgaaP1
import Derived.Test.YtpbhiednmnolgaaP2
import Derived.Test.YtpbhiednmnolgaaP4
import Derived.Test.YtpbhiednmnolgaaP3
import Derived.Test.YtpbhiednmnolgaaQ0
import Derived.Test.YtpbhiednmnolgaaZU
import Derived.Test.YtpbhiednmnolgaaT8
import Derived.Test.YtpbhiednmnolgaaZW
import Derived.Test.YtpbhiednmnolgaaZX
import Derived.Test.YtpbhiednmnolgaaZZ
import Derived.Test.YtpbhiednmnolgaaZQ
import Derived.Test.YtpbhiednmnolgaaZV
import Derived.Test.YtpbhiednmnolgaaYP
import Derived.Test.YtpbhiednmnolgaaO1b
import Derived.Test.YtpbhiednmnolgaaO1
import Derived.Test.YtpbhiednmnolgaaXA
import Derived.Test.YtpbhiednmnolgaaZR
import Derived.Test.YtpbhiednmnolgaaXB
namespace Go.Proofs.Ytpbhiednmnolgaa
open Go.RowKit

theorem RowAt.widen {w : World} {own : Bool} {lo hi size : Nat} {ao : Option Addr} {n cap : Nat} {cs : List Value} (h : RowAt w own lo hi size ao n cap cs) {lo' hi' : Nat} (h1 : lo' ≤ lo) (h2 : hi ≤ hi') : RowAt w own lo' hi' size ao n cap cs := by
  refine ⟨h.len, h.le, fun hn => ?_⟩
  obtain ⟨b, off, rfl, g1, g2, g3, g4, g5⟩ := h.cells hn
  exact ⟨b, off, rfl, by omega, by omega, g3, g4, g5⟩

theorem RowAt.nInts {w : World} {own : Bool} {lo hi : Nat} {ao : Option Addr} {n cap : Nat} {xs : List Int} (h : RowAt w own lo hi 1 ao n cap (ints xs)) : xs.length = n := by
  have hl := h.len; rw [ints_length, Nat.mul_one] at hl; exact hl
/-- A row that the call itself made, as 'ownsRow' tells it. -/
theorem RowAt.of_owns {w : World} {base : Nat} {e : TypeId} {size : Nat} {g n cap : Nat} {cs : List Value} (h : w.ownsRow base e size (.slice (some ⟨g, 0, none⟩) n cap) n cs) (hc : n ≤ cap) : RowAt w true base w.heap.size size (some ⟨g, 0, none⟩) n cap cs := by
  have hlt := h.lt g rfl
  refine ⟨h.1, hc, fun _ => ⟨g, 0, rfl, hlt.1, hlt.2, hlt.2, fun i hi => ?_, fun _ i _ => ?_⟩⟩
  · rw [Nat.zero_add, h.cellAt i hi]
    have : i < cs.length := by rw [h.1]; exact hi
    simp [List.getD, this]
  · rw [Nat.zero_add]
    exact h.frozenAt i

theorem owns_below {w w' : World} {base : Nat} {e : TypeId} {size : Nat} {v : Value} {n : Nat} {xs : List Value} (h : w.ownsRow base e size v n xs) (hb : Below w.heap.size w w') : w'.ownsRow base e size v n xs := by
  refine ⟨h.1, ?_⟩
  rcases h.2 with h2 | ⟨g, cap, cur, hv, hg, hh, r⟩
  · exact Or.inl h2
  · have hlt : g < w.heap.size := by
      by_cases hlt : g < w.heap.size
      · exact hlt
      · rw [Array.getElem?_eq_none (by omega)] at hh; cases hh
    exact Or.inr ⟨g, cap, cur, hv, hg, by rw [hb.block g hlt]; exact hh, r⟩
theorem below_drewN {B : Nat} {a w : World} (h : Below B a w) (n : Nat) : Below B a (w.drewN n) := ⟨h.os, h.tape, h.output, h.size, h.block⟩
theorem eq_getD {α : Type} {xs ys : List α} {d : α} {n : Nat} (hx : xs.length = n) (hy : ys.length = n) (h : ∀ j, j < n → xs.getD j d = ys.getD j d) : xs = ys := by
  apply List.ext_getElem (by omega)
  intro i h1 h2
  have := h i (by omega)
  simpa [List.getD, h1, h2] using this

theorem Kept.setCells {lo hi : Nat} {a w : World} (h : Kept lo hi a w) {b : Nat} (h1 : lo ≤ b) (h2 : b < hi) : ∀ (vs : List Value) (o : Nat), Kept lo hi a (w.setCells b o vs) := by
  intro vs
  induction vs generalizing w with
  | nil => intro o; exact h
  | cons v r ih =>
    intro o
    rw [World.setCells]
    exact ih (h.setCell (p := ⟨b, o, none⟩) h1 h2 v) (o + 1)
theorem RowAt.of_owned {w : World} {base : Nat} {e : TypeId} {size : Nat} {v : Value} {n : Nat} {cs : List Value} (h : w.ownsRow base e size v n cs) : ∃ ao cap, v = .slice ao n cap ∧ RowAt w true base w.heap.size size ao n cap cs := by
  rcases h.2 with ⟨rfl, rfl⟩ | ⟨g, cap, cur, rfl, hg, hh, hc, r⟩
  · exact ⟨none, 0, rfl, h.1, Nat.le_refl _, fun h => absurd rfl h⟩
  · exact ⟨_, _, rfl, RowAt.of_owns h hc⟩

end Go.Proofs.Ytpbhiednmnolgaa

namespace Go.Proofs.Ytpbhiednmnolgaa
open Go.RowKit

theorem nodeOf_append (ns : List Nd) (bs : List (Int × Int)) (j : Nat) (nd : Nd) : nodeOf (ns ++ [nd], bs) j = if j = ns.length then nd else ns.getD j nd0 := by
  unfold nodeOf
  by_cases e : j = ns.length
  · subst e; simp [List.getD]
  · rw [if_neg e]
    by_cases h : j < ns.length
    · rw [List.getD_eq_getElem?_getD, List.getElem?_append_left h, ← List.getD_eq_getElem?_getD]
    · rw [List.getD_eq_getElem?_getD, List.getElem?_eq_none (by simp; omega), List.getD_eq_getElem?_getD, List.getElem?_eq_none (by omega)]
theorem Inv.append {f : Fo} (h : Inv f) (hl : f.1.length < 60) {nd : Nd} (hn : NdOk (f.1 ++ [nd], f.2) nd) : Inv (f.1 ++ [nd], f.2) := by
  refine ⟨h.nb, by simp; omega, fun m => ?_, h.bk⟩
  rw [nodeOf_append]
  by_cases e : m = f.1.length
  · rw [if_pos e]; exact hn
  · rw [if_neg e]
    have hm := h.nd m
    refine ⟨hm.r0, hm.r1, hm.z, hm.kl, fun h0 k hk' => ?_, hm.so⟩
    rcases hm.ks h0 k hk' with e1 | ⟨h1, h2⟩
    · exact Or.inl e1
    · refine Or.inr ⟨h1, ?_⟩
      cases hl : (nodeOf f m).2.1 with
      | true => rw [show (f.1.getD m nd0).2.1 = true from hl, if_pos rfl]; rw [hl, if_pos rfl] at h2; exact h2
      | false =>
        rw [show (f.1.getD m nd0).2.1 = false from hl]
        rw [hl, if_neg (by decide)] at h2
        rw [if_neg (by decide), nodeOf_append, if_neg (by omega)]
        exact ⟨by simp; omega, h2.2⟩
end Go.Proofs.Ytpbhiednmnolgaa

namespace Go.Proofs.Ytpbhiednmnolgaa
open Go.RowKit

theorem Try.info2' : (Try.prog.info? 2).map (fun i => (i.zero, i.size, i.bytes)) = some (some (.int .i64 0), 1, 8) := by kernel_rfl

end Go.Proofs.Ytpbhiednmnolgaa

namespace Go.Proofs.Ytpbhiednmnolgaa
open Go.RowKit

def marks (k : Int) (n : Nat) : List Int := (List.range n).map fun (i : Nat) => k + (i : Int)
theorem marks_len (k : Int) (n : Nat) : (marks k n).length = n := by simp [marks]
theorem marks_getD (k : Int) (n i : Nat) (h : i < n) : (marks k n).getD i 0 = k + i := by simp [marks, List.getD, h]
/-- What has been marked so far. -/
def mk1 (xs : List Int) (k : Int) (i : Nat) : List Int := marks k i ++ xs.drop i
theorem mk1_set (xs : List Int) (k : Int) (i : Nat) (h : i < xs.length) : (ints (mk1 xs k i)).set i (.int .i64 (k + i)) = ints (mk1 xs k (i + 1)) := by
  unfold ints mk1
  rw [← List.map_set, List.set_append, if_neg (by rw [marks_len]; omega), marks_len, Nat.sub_self, List.drop_eq_getElem_cons h, List.set_cons_zero]
  simp [marks, List.range_succ]
theorem mk1_all (xs : List Int) (k : Int) : mk1 xs k xs.length = marks k xs.length := by simp [mk1]
theorem mk1_zero (xs : List Int) (k : Int) : mk1 xs k 0 = xs := by simp [mk1, marks]

set_option maxHeartbeats 400000 in
theorem markInts_any {lo hi : Nat} (ao : Option Addr) (n cap : Nat) (xs : List Int) (k : Int) (w : World) (h : RowAt w true lo hi 1 ao n cap (ints xs)) (hn : n ≤ 4194304) (hk0 : 0 ≤ k) (hk1 : k ≤ 16777216) :
    Calls Try.prog 73 #[.slice ao n cap, .int .i64 k] w fun e w' => e = .returned (.int .i64 (k + n)) ∧ RowAt w' true lo hi 1 ao n cap (ints (marks k n)) ∧ Kept lo hi w w' := by
  have hx := h.nInts
  go_enter Try.func73, Try.ntmps73
  go_wp2
  go_loopw [1, 5] (fun v i wr => ∃ j : Nat, j ≤ n ∧ i = .int .i64 j ∧ v = .int .i64 (k + j) ∧ RowAt wr true lo hi 1 ao n cap (ints (mk1 xs k j)) ∧ Kept lo hi w wr) (fun _ i _ => n - (intOf i).toNat)
  case atStart => exact ⟨0, Nat.zero_le _, rfl, by simp, by rw [mk1_zero]; exact h, Kept.refl _ _ _⟩
  case round =>
    obtain ⟨j, hj, rfl, rfl, R, hK⟩ := hrel
    by_cases hlt : j < n
    · obtain ⟨b, off, rfl, hlo, hhi, hbs, hc, hf0⟩ := R.int hlt
      have hf := hf0 rfl
      have R2 := R.stored (i := j) (by omega) (.int .i64 (k + j))
      rw [mk1_set xs k j (by omega)] at R2
      have K2 : Kept lo hi w (wr.setCell ⟨b, off + j, none⟩ (.int .i64 (k + j))) := hK.setCell (p := ⟨b, off + j, none⟩) hlo hhi _
      have hl : (j : Int) < n := by omega
      clear R hf0 hK
      generalize (mk1 xs k j).getD j 0 = old at *
      go_wp2
      go_roundw
      case rel => exact ⟨j + 1, by omega, by go_num, by simp; omega, R2, K2⟩
      case measure => simp [intOf]; omega
    · have hjn : j = n := by omega
      subst hjn
      rw [← hx, mk1_all] at R
      go_wp2
      go_ret
      exact ⟨rfl, by rw [← hx]; exact R, hK⟩

set_option maxHeartbeats 400000 in
theorem heldInts_any {o : Bool} {lo hi : Nat} (ao : Option Addr) (n cap : Nat) (k : Int) (w : World) (h : RowAt w o lo hi 1 ao n cap (ints (marks k n))) (hn : n ≤ 4194304) (hk0 : 0 ≤ k) (hk1 : k ≤ 16777216) :
    Calls Try.prog 74 #[.slice ao n cap, .int .i64 k] w fun e w' => e = .returned (.int .i64 (k + n)) ∧ w' = w := by
  go_enter Try.func74, Try.ntmps74
  go_wp2
  go_loop [1, 5] (fun v i => ∃ j : Nat, j ≤ n ∧ i = .int .i64 j ∧ v = .int .i64 (k + j)) (fun _ i => n - (intOf i).toNat)
  case atStart => exact ⟨0, Nat.zero_le _, rfl, by simp⟩
  case round =>
    obtain ⟨j, hj, rfl, rfl⟩ := hrel
    by_cases hlt : j < n
    · obtain ⟨b, off, rfl, hlo, hhi, hbs, hc, hf0⟩ := h.int hlt
      rw [marks_getD k n j hlt] at hc
      have he : ((k + (j : Int)) != (k + (j : Int))) = false := by simp
      have hl : (j : Int) < n := by omega
      clear hf0
      go_wp2
      go_round
      case rel => exact ⟨j + 1, by omega, by go_num, by simp; omega⟩
      case measure => simp [intOf]; omega
    · have hjn : j = n := by omega
      subst hjn
      go_wp2
      go_ret
      exact ⟨rfl, rfl⟩

end Go.Proofs.Ytpbhiednmnolgaa

namespace Go.Proofs.Ytpbhiednmnolgaa
open Go.RowKit

set_option maxHeartbeats 400000 in
theorem eqInts_any {o1 o2 : Bool} {l1 u1 l2 u2 : Nat} (a1 a2 : Option Addr) (n1 c1 n2 c2 : Nat) (xs ys : List Int) (w : World) (h1 : RowAt w o1 l1 u1 1 a1 n1 c1 (ints xs)) (h2 : RowAt w o2 l2 u2 1 a2 n2 c2 (ints ys)) (hn : n1 ≤ 2097152) (hm : n2 ≤ 2097152) :
    Calls Try.prog 41 #[.slice a1 n1 c1, .slice a2 n2 c2] w fun e w' => e = .returned (.bool (decide (xs = ys))) ∧ Below w.heap.size w w' := by
  have hx := h1.nInts
  have hy := h2.nInts
  by_cases hne : n1 = n2
  · subst hne
    have hb0 : ((n1 : Int) != (n1 : Int)) = false := by simp
    go_enter Try.func41, Try.ntmps41
    go_wp2
    go_loopw [5] (fun i wr => ∃ k : Nat, k ≤ n1 ∧ i = .int .i64 k ∧ (∀ j, j < k → xs.getD j 0 = ys.getD j 0) ∧ Below w.heap.size w wr) (fun i _ => n1 - (intOf i).toNat)
    case atStart => exact ⟨0, Nat.zero_le _, rfl, fun j hj => absurd hj (Nat.not_lt_zero _), Below.refl _ _⟩
    case round =>
      obtain ⟨k, hk, rfl, hall0, hb⟩ := hrel
      have HA : Hid _ := hall0
      clear hall0
      by_cases hlt : k < n1
      · obtain ⟨b1, o1, rfl, _, _, hs1, e1, _⟩ := h1.int hlt
        obtain ⟨b2, o2, rfl, _, _, hs2, e2, _⟩ := h2.int hlt
        have g1 : wr.cell? ⟨b1, o1 + k, none⟩ = some (.int .i64 (xs.getD k 0)) := (hb.cell (p := ⟨b1, o1 + k, none⟩) hs1).trans e1
        have g2 : wr.cell? ⟨b2, o2 + k, none⟩ = some (.int .i64 (ys.getD k 0)) := (hb.cell (p := ⟨b2, o2 + k, none⟩) hs2).trans e2
        clear e1 e2
        by_cases hxy : xs.getD k 0 = ys.getD k 0
        · have HX : Hid _ := hxy
          rw [hxy] at g1
          clear hxy
          have hl : (k : Int) < (n1 : Int) := by omega
          generalize ys.getD k 0 = y at g1 g2
          have hyy : (y != y) = false := by simp
          go_wp2_with fail
          go_quiet (fail)
          go_wp2
          go_roundw
          case rel => 
            refine ⟨k + 1, by omega, by go_num, fun j hj => ?_, below_drewN hb _⟩
            by_cases e : j = k
            · rw [e]; exact HX.out
            · exact HA.out j (by omega)
          case measure => simp [intOf]; omega
        · have hl : (k : Int) < (n1 : Int) := by omega
          have hne : ¬ xs = ys := fun e => hxy (by rw [e])
          have HN : Hid _ := hne
          clear hne
          generalize ys.getD k 0 = y at *
          generalize xs.getD k 0 = x at *
          have hyy : (x != y) = true := by simp [hxy]
          clear hxy
          go_wp2_with fail
          go_quiet (fail)
          go_wp2
          go_ret
          exact ⟨ret_bool (decide_eq_false HN.out).symm, below_drewN hb _⟩
      · go_wp2
        go_ret
        have hall := HA.out
        rw [show k = n1 by omega] at hall
        exact ⟨ret_bool (decide_eq_true (eq_getD hx hy hall)).symm, hb⟩
  · have hb0 : ((n1 : Int) != (n2 : Int)) = true := by simp; omega
    have hne' : ¬ xs = ys := fun e => hne (by rw [← hx, ← hy, e])
    go_enter Try.func41, Try.ntmps41
    go_wp2
    go_ret
    exact ⟨ret_bool (decide_eq_false hne').symm, Below.refl _ _⟩

theorem eqInts_is {o1 o2 : Bool} {l1 u1 l2 u2 : Nat} (a1 a2 : Option Addr) (n1 c1 n2 c2 : Nat) (xs ys : List Int) (w : World) (h1 : RowAt w o1 l1 u1 1 a1 n1 c1 (ints xs)) (h2 : RowAt w o2 l2 u2 1 a2 n2 c2 (ints ys)) (hn : n1 ≤ 2097152) (hm : n2 ≤ 2097152) (d : Bool) (hd : decide (xs = ys) = d) :
    Calls Try.prog 41 #[.slice a1 n1 c1, .slice a2 n2 c2] w fun e w' => e = .returned (.bool d) ∧ Below w.heap.size w w' := by
  rw [← hd]; exact eqInts_any a1 a2 n1 c1 n2 c2 xs ys w h1 h2 hn hm
end Go.Proofs.Ytpbhiednmnolgaa

namespace Go.Proofs.Ytpbhiednmnolgaa
open Go.RowKit

set_option maxHeartbeats 400000 in
theorem markIRes_any {lo hi : Nat} (c : Int) (a0 : Option Addr) (n0 c0 : Nat) (xs : List Int) (w : World) (h : RowAt w true lo hi 1 a0 n0 c0 (ints xs)) (hn0 : n0 ≤ 4194304) :
    Calls Try.prog 37 #[.agg #[.int .i64 c, .slice a0 n0 c0], .int .i64 1] w fun e w' => e = .returned (.int .i64 (1 + n0)) ∧ RowAt w' true lo hi 1 a0 n0 c0 (ints (marks 1 n0)) ∧ Kept lo hi w w' := by
  have B1 : Below w.heap.size w (w.alloc (.cells #[.int .i64 c, .slice a0 n0 c0] 35)) := (Below.refl _ _).alloc (Nat.le_refl _) _
  go_enter Try.func37, Try.ntmps37
  go_wp2_with fail
  refine (markInts_any _ _ _ xs _ _ (by exact h.below B1) hn0 (by omega) (by omega)).mono ?_
  rintro e w1 ⟨rfl, s0, K1⟩
  go_wp2
  go_ret
  exact ⟨rfl, s0, (Kept.of_below B1).trans K1⟩

set_option maxHeartbeats 400000 in
theorem heldIRes_any {lo hi : Nat} (c : Int) (a0 : Option Addr) (n0 c0 : Nat) (w : World) (h : RowAt w true lo hi 1 a0 n0 c0 (ints (marks 1 n0))) (hn0 : n0 ≤ 4194304) :
    Calls Try.prog 38 #[.agg #[.int .i64 c, .slice a0 n0 c0], .int .i64 1] w fun e w' => e = .returned (.int .i64 (1 + n0)) ∧ Below w.heap.size w w' := by
  have B1 : Below w.heap.size w (w.alloc (.cells #[.int .i64 c, .slice a0 n0 c0] 35)) := (Below.refl _ _).alloc (Nat.le_refl _) _
  go_enter Try.func38, Try.ntmps38
  go_wp2_with fail
  refine (heldInts_any _ _ _ _ _ (by exact h.below B1) hn0 (by omega) (by omega)).mono ?_
  rintro e w1 ⟨rfl, rfl⟩
  have hp2 : ¬ ((1 : Int) + n0 < 0) := by omega
  go_wp2
  go_ret
  exact ⟨rfl, B1⟩

set_option maxHeartbeats 400000 in
theorem eqIRes_yes {o1 o2 : Bool} {l1 u1 l2 u2 : Nat} (c : Int) (a1 : Option Addr) (n1 c1 : Nat) (b1 : Option Addr) (m1 d1 : Nat) (xs : List Int) (w : World)
    (h : RowAt w o1 l1 u1 1 a1 n1 c1 (ints xs)) (g : RowAt w o2 l2 u2 1 b1 m1 d1 (ints xs)) (hn : n1 ≤ 2097152) :
    Calls Try.prog 36 #[.agg #[.int .i64 c, .slice a1 n1 c1], .agg #[.int .i64 c, .slice b1 m1 d1]] w fun e w' => e = .returned (.bool true) ∧ Below w.heap.size w w' := by
  have hm1 : m1 = n1 := by rw [← h.nInts, ← g.nInts]
  subst hm1
  have B1 : Below w.heap.size w ((w.alloc (.cells #[.int .i64 c, .slice a1 m1 c1] 35)).alloc (.cells #[.int .i64 c, .slice b1 m1 d1] 35)) := ((Below.refl _ _).alloc (Nat.le_refl _) _).alloc (by simp) _
  have he : (c != c) = false := by simp
  go_enter Try.func36, Try.ntmps36
  go_wp2_with fail
  refine (eqInts_is _ _ _ _ _ _ xs xs _ (by exact h.below B1) (by exact g.below B1) hn hn true (by simp)).mono ?_
  rintro e w1 ⟨rfl, hb1⟩
  have B2 := below_next B1 hb1
  go_wp2
  go_ret
  exact ⟨rfl, B2⟩

end Go.Proofs.Ytpbhiednmnolgaa

namespace Go.Proofs.Ytpbhiednmnolgaa
open Go.RowKit

theorem RowAt.of_front {w : World} {g n cap size : Nat} {cs : List Value} {rest : Array Value} {t : TypeId} (h : w.heap[g]? = some (.cells (cs.toArray ++ rest) t (0, 0))) (hn : cs.length = n * size) (hc : n ≤ cap) : RowAt w true g (g + 1) size (some ⟨g, 0, none⟩) n cap cs := by
  have hlt : g < w.heap.size := (Array.getElem?_eq_some_iff.1 h).1
  refine ⟨hn, hc, fun _ => ⟨g, 0, rfl, Nat.le_refl _, by omega, hlt, fun i hi => ?_, fun _ i _ => frozen_of_row w g _ _ t h⟩⟩
  rw [cell_of_row w g _ _ t (0, 0) h]
  have : i < cs.length := by omega
  simp [List.getD, Array.getElem?_append, this]

theorem Fresh.widen {w : World} {lo lo' hi hi' : Nat} {e : TypeId} {size : Nat} {v : Value} {n : Nat} {cs : List Value} (h : Fresh w lo hi e size v n cs) (hl : lo' ≤ lo) (hh : hi ≤ hi') : Fresh w lo' hi' e size v n cs := by
  rcases h with h | ⟨⟨h1, h2⟩, h3⟩
  · exact Or.inl h
  · refine Or.inr ⟨⟨h1, ?_⟩, fun k hk => Nat.lt_of_lt_of_le (h3 k hk) hh⟩
    rcases h2 with h2 | ⟨g, cap, cur, a, b, c⟩
    · exact Or.inl h2
    · exact Or.inr ⟨g, cap, cur, a, Nat.le_trans hl b, c⟩
end Go.Proofs.Ytpbhiednmnolgaa

namespace Go.Proofs.Ytpbhiednmnolgaa
open Go.RowKit

theorem DiskAt.widen {w : World} {lo hi lo' hi' : Nat} {a0 : Option Addr} {n0 c0 : Nat} {a1 : Option Addr} {n1 c1 : Nat} {xs : List Int} {ys : List (Int × Int)} (h : DiskAt w lo hi a0 n0 c0 a1 n1 c1 xs ys) (h1 : lo' ≤ lo) (h2 : hi ≤ hi') : DiskAt w lo' hi' a0 n0 c0 a1 n1 c1 xs ys := by
  obtain ⟨mid, m1, m2, r0, r1⟩ := h.parts
  exact ⟨mid, by omega, by omega, r0.widen h1 (Nat.le_refl _), r1.widen (Nat.le_refl _) h2⟩

theorem wrapI_same (n : Int) (h : -9223372036854775808 ≤ n ∧ n ≤ 9223372036854775807) : IntKind.i64.wrap n = n := by rw [IntKind.wrap_i64]; omega
theorem row_lit (W : World) (cs : List Value) (t : TypeId) (n size : Nat) (h : cs.length = n * size) : RowAt (W.alloc (.cells cs.toArray t)) true W.heap.size (W.heap.size + 1) size (some ⟨W.heap.size, 0, none⟩) n n cs :=
  RowAt.of_front (rest := #[]) (by simpa using heap_alloc_new W (.cells cs.toArray t)) h (Nat.le_refl _)

end Go.Proofs.Ytpbhiednmnolgaa

namespace Go.Proofs.Ytpbhiednmnolgaa
open Go.RowKit

theorem NodesAt.widen {w : World} {own : Bool} {lo hi : Nat} {ao : Option Addr} {n cap : Nat} {K : Nat → KS} {ns : List Nd} (h : NodesAt w own lo hi ao n cap K ns) {lo' hi' : Nat} (h1 : lo' ≤ lo) (h2 : hi ≤ hi') : NodesAt w own lo' hi' ao n cap K ns :=
  ⟨h.len, h.row.widen h1 h2, fun i hi => (h.kids i hi).widen h1 h2, h.sep⟩
end Go.Proofs.Ytpbhiednmnolgaa

namespace Go.Proofs.Ytpbhiednmnolgaa
open Go.RowKit

theorem FoAt.widen {w : World} {own : Bool} {lo hi : Nat} {an : Option Addr} {nn cn : Nat} {ab : Option Addr} {nb cb : Nat} {K : Nat → KS} {f : Fo} (h : FoAt w own lo hi an nn cn ab nb cb K f) {lo' hi' : Nat} (h1 : lo' ≤ lo) (h2 : hi ≤ hi') : FoAt w own lo' hi' an nn cn ab nb cb K f :=
  ⟨h.nodes.widen h1 h2, h.blocks.widen h1 h2, h.sep⟩

end Go.Proofs.Ytpbhiednmnolgaa

namespace Go.Proofs.Ytpbhiednmnolgaa
open Go.RowKit

theorem NewB.ge {w W : World} {b : Nat} {cs : Array Value} (h : NewB w W b cs) : w.heap.size ≤ b := Nat.le_of_eq h.bl.symm
theorem newB_mk (w : World) (cs : Array Value) (t : TypeId) : NewB w (w.alloc (.cells cs t)) w.heap.size cs :=
  ⟨rfl, by simp, (Below.refl _ _).alloc (Nat.le_refl _) _, fun k v h => by simpa using h, fun k => by simp⟩
theorem box_new {P : Program} {ops : Array Oper} {rest : List Oper} {dst : Option Tmp} {type : TypeId} {pos : String} {after : Array Edge} {a : Act} {w : World} {Q : Exit → Act → World → Prop} (ty : TypeId) {x : Operand} (cs : Array Value) (hx : a.eval x = .agg cs)
    (h : ∀ (b : Nat) (W : World), NewB w W b cs → wpList P ops Q rest (a.put dst (.pointer (some ⟨b, 0, none⟩))) W) : wpList P ops Q (⟨dst, .box ty x, type, pos, after, none⟩ :: rest) a w := by
  refine wpList_plain rfl fun K hK => ?_
  unfold Oper.wp execOp
  simp only [hx]
  clear hx
  go_simp
  exact hK _ _ (h _ _ (newB_mk _ _ _))
/-- a new variable of a type: its zero cells -/
theorem alloc_new {P : Program} {ops : Array Oper} {rest : List Oper} {dst : Option Tmp} {type : TypeId} {pos : String} {after : Array Edge} {a : Act} {w : World} {Q : Exit → Act → World → Prop} (ty : TypeId) (cs : Array Value) (hz : ∀ w, (zeroValue ty).run P w = .ok (.agg cs) w)
    (h : ∀ (b : Nat) (W : World), NewB w W b cs → wpList P ops Q rest (a.put dst (.pointer (some ⟨b, 0, none⟩))) W) : wpList P ops Q (⟨dst, .alloc ty, type, pos, after, none⟩ :: rest) a w := by
  refine wpList_plain rfl fun K hK => ?_
  unfold Oper.wp execOp
  go_simp
  exact hK _ _ (h _ _ (newB_mk _ _ _))

end Go.Proofs.Ytpbhiednmnolgaa

namespace Go.Proofs.Ytpbhiednmnolgaa
open Go.RowKit

/-- a whole block -/
def Blk (w : World) (b : Nat) (e : TypeId) (L : List Value) : Prop := w.heap[b]? = some (.cells L.toArray e (0, 0))
theorem Blk.lt {w : World} {b : Nat} {e : TypeId} {L : List Value} (h : Blk w b e L) : b < w.heap.size := by
  rcases Nat.lt_or_ge b w.heap.size with h' | h'
  · exact h'
  · unfold Blk at h; rw [Array.getElem?_eq_none h'] at h; cases h
theorem Blk.cell {w : World} {b : Nat} {e : TypeId} {L : List Value} (h : Blk w b e L) {k : Nat} {v : Value} (hk : L[k]? = some v) : w.cell? ⟨b, k, none⟩ = some v := by
  unfold Blk at h
  simp [World.cell?, h, hk]
theorem Blk.froz {w : World} {b : Nat} {e : TypeId} {L : List Value} (h : Blk w b e L) (k : Nat) : w.frozen? ⟨b, k, none⟩ = false := by
  unfold Blk at h
  simp [World.frozen?, h]
theorem Blk.set {w : World} {b : Nat} {e : TypeId} {L M : List Value} (h : Blk w b e L) : Blk (w.setRow b M.toArray) b e M := setRow_heap w b _ _ e _ h
end Go.Proofs.Ytpbhiednmnolgaa

namespace Go.Proofs.Ytpbhiednmnolgaa
open Go.RowKit

section
variable {x : Int} (h0 : 0 ≤ x) (h1 : x ≤ 256)
include h0 h1
end
/-- within what a float tells exactly -/
def Small (p : Int × Int) : Prop := (0 ≤ p.1 ∧ p.1 ≤ 256) ∧ 0 ≤ p.2 ∧ p.2 ≤ 256
end Go.Proofs.Ytpbhiednmnolgaa

namespace Go.Proofs.Ytpbhiednmnolgaa
open Go.RowKit

def Fine (bs : List (Int × Int)) : Prop := ∀ p ∈ bs, Small p ∧ (p.1 = 0 → p.2 = 0)
theorem Fine.at {bs : List (Int × Int)} (h : Fine bs) {k : Nat} (hk : k < bs.length) : Small (bs.getD k (0, 0)) ∧ ((bs.getD k (0, 0)).1 = 0 → (bs.getD k (0, 0)).2 = 0) :=
  h _ (by rw [List.getD_eq_getElem?_getD, List.getElem?_eq_getElem hk]; exact List.getElem_mem hk)

end Go.Proofs.Ytpbhiednmnolgaa

namespace Go.Proofs.Ytpbhiednmnolgaa
open Go.RowKit

def fn (n : Nat) (g : Nat → Int) : List Int := (List.range n).map g
section
variable {o : Bool} {l u : Nat} (an : Option Addr) (nn cn : Nat) (ab : Option Addr) (nb cb : Nat) (K : Nat → KS) (f : Fo) (w : World) (h : FoAt w o l u an nn cn ab nb cb K f)
include h

end

end Go.Proofs.Ytpbhiednmnolgaa

namespace Go.Proofs.Ytpbhiednmnolgaa
open Go.RowKit

abbrev Vo := Int × Int × Int
def vo0 : Vo := (0, 0, 0)
def trips (vs : List Vo) : List Value := flat3 vs.length (fun i => .int .i64 (vs.getD i vo0).1) (fun i => .int .i64 (vs.getD i vo0).2.1) (fun i => .int .i64 (vs.getD i vo0).2.2)
end Go.Proofs.Ytpbhiednmnolgaa

