/- What this law needs of the texts before it beyond what stands in them. -/
import Derived.Test.YtpbhiednmnolgaaBase
import Derived.Test.YtpbhiednmnolgaaZT
import Derived.Test.YtpbhiednmnolgaaCopy
import Derived.Test.YtpbhiednmnolgaaMark
import Derived.Test.YtpbhiednmnolgaaEq
import Derived.Test.YtpbhiednmnolgaaMark2
import Derived.Test.YtpbhiednmnolgaaBC
import Derived.Test.YtpbhiednmnolgaaSm
import Derived.Test.YtpbhiednmnolgaaFault
import Derived.Test.YtpbhiednmnolgaaArr
import Derived.Test.YtpbhiednmnolgaaFlush
import Derived.Test.YtpbhiednmnolgaaSpec1
import Derived.Test.YtpbhiednmnolgaaSFlush
import Derived.Test.YtpbhiednmnolgaaAll
import Derived.Test.YtpbhiednmnolgaaPutS
import Derived.Test.YtpbhiednmnolgaaFacts
import Derived.Test.YtpbhiednmnolgaaZM
import Derived.Test.YtpbhiednmnolgaaYE
import Derived.Test.YtpbhiednmnolgaaZY
import Derived.Test.YtpbhiednmnolgaaP1
import Derived.Test.YtpbhiednmnolgaaP2
import Derived.Test.YtpbhiednmnolgaaP4
import Derived.Test.YtpbhiednmnolgaaP3
import Derived.Test.YtpbhiednmnolgaaQ0
import Derived.Test.YtpbhiednmnolgaaZU
import Derived.Test.YtpbhiednmnolgaaT8
import Derived.Test.YtpbhiednmnolgaaZW
import Derived.Test.YtpbhiednmnolgaaZX
import Derived.Test.YtpbhiednmnolgaaZZ
import Derived.Test.YtpbhiednmnolgaaZQ
import Derived.Test.YtpbhiednmnolgaaZV
import Derived.Test.YtpbhiednmnolgaaYP
import Derived.Test.YtpbhiednmnolgaaO1b
import Derived.Test.YtpbhiednmnolgaaO1
import Derived.Test.YtpbhiednmnolgaaXA
import Derived.Test.YtpbhiednmnolgaaZR
import Derived.Test.YtpbhiednmnolgaaXB
namespace Go.Proofs.Ytpbhiednmnolgaa
open Go.RowKit

theorem RowAt.nInts {w : World} {own : Bool} {lo hi : Nat} {ao : Option Addr} {n cap : Nat} {xs : List Int} (h : RowAt w own lo hi 1 ao n cap (ints xs)) : xs.length = n := by
  have hl := h.len; rw [ints_length, Nat.mul_one] at hl; exact hl
/-- A row that the call itself made, as 'ownsRow' tells it. -/
theorem RowAt.of_owns {w : World} {base : Nat} {e : TypeId} {size : Nat} {g n cap : Nat} {cs : List Value} (h : w.ownsRow base e size (.slice (some ⟨g, 0, none⟩) n cap) n cs) (hc : n ≤ cap) : RowAt w true base w.heap.size size (some ⟨g, 0, none⟩) n cap cs := by
  have hlt := h.lt g rfl
  refine ⟨h.1, hc, fun _ => ⟨g, 0, rfl, hlt.1, hlt.2, hlt.2, fun i hi => ?_, fun _ i _ => ?_⟩⟩
  · rw [Nat.zero_add, h.cellAt i hi]
    have : i < cs.length := by rw [h.1]; exact hi
    simp [List.getD, this]
  · rw [Nat.zero_add]
    exact h.frozenAt i

/-- how far a copy has come: the first m cells are there, the others are still zero -/
def cop (cs : List Value) (z : Value) (m : Nat) : List Value := cs.take m ++ List.replicate (cs.length - m) z
theorem cop_zero (cs : List Value) (z : Value) : cop cs z 0 = List.replicate cs.length z := by simp [cop]
theorem cop_all (cs : List Value) (z : Value) : cop cs z cs.length = cs := by simp [cop]
theorem cop_set (cs : List Value) (z v : Value) (m : Nat) (h : m < cs.length) (hv : cs.getD m default = v) : (cop cs z m).set m v = cop cs z (m + 1) := by
  have e : cs.length - m = (cs.length - (m + 1)) + 1 := by omega
  have hl : (cs.take m).length = m := by simp; omega
  have hv' : v = cs[m] := by rw [← hv]; simp [List.getD, h]
  unfold cop
  rw [e, List.replicate_succ, List.set_append, if_neg (by omega), hl, Nat.sub_self, List.set_cons_zero, List.take_succ_eq_append_getElem h, List.append_assoc, hv']
  rfl
theorem cop_get (cs : List Value) (z : Value) (m i : Nat) (hm : m ≤ i) (h : i < cs.length) : (cop cs z m)[i]? = some z := by
  unfold cop
  rw [List.getElem?_append_right (by simp; omega), List.getElem?_replicate, if_pos (by simp; omega)]

theorem below_drewN {B : Nat} {a w : World} (h : Below B a w) (n : Nat) : Below B a (w.drewN n) := ⟨h.os, h.tape, h.output, h.size, h.block⟩
theorem eq_getD {α : Type} {xs ys : List α} {d : α} {n : Nat} (hx : xs.length = n) (hy : ys.length = n) (h : ∀ j, j < n → xs.getD j d = ys.getD j d) : xs = ys := by
  apply List.ext_getElem (by omega)
  intro i h1 h2
  have := h i (by omega)
  simpa [List.getD, h1, h2] using this

theorem Kept.setCells {lo hi : Nat} {a w : World} (h : Kept lo hi a w) {b : Nat} (h1 : lo ≤ b) (h2 : b < hi) : ∀ (vs : List Value) (o : Nat), Kept lo hi a (w.setCells b o vs) := by
  intro vs
  induction vs generalizing w with
  | nil => intro o; exact h
  | cons v r ih =>
    intro o
    rw [World.setCells]
    exact ih (h.setCell (p := ⟨b, o, none⟩) h1 h2 v) (o + 1)
end Go.Proofs.Ytpbhiednmnolgaa

namespace Go.Proofs.Ytpbhiednmnolgaa
open Go.RowKit

theorem Try.info2' : (Try.prog.info? 2).map (fun i => (i.zero, i.size, i.bytes)) = some (some (.int .i64 0), 1, 8) := by kernel_rfl

set_option maxHeartbeats 400000 in
theorem toInts_any {own : Bool} {lo hi : Nat} (ao : Option Addr) (n cap : Nat) (xs : List Int) (w : World) (h : RowAt w own lo hi 1 ao n cap (ints xs)) (hn : n ≤ 1048576) :
    Calls Try.prog 39 #[.slice ao n cap] w fun e w' => e = .returned (.slice (some ⟨w.heap.size, 0, none⟩) n n) ∧ RowAt w' true w.heap.size w'.heap.size 1 (some ⟨w.heap.size, 0, none⟩) n n (ints xs) ∧ Below w.heap.size w w' := by
  have hx := h.nInts
  obtain ⟨i0, hi0, hz0, hz1, hz2⟩ := info_parts Try.info2'
  go_enter Try.func39, Try.ntmps39
  go_wp2_with (first | (at_make; refine wpList_make_full _ rfl _ _ 24 rfl w.heap.size 2 i0 (.int .i64 0) 1 Try.underlying24 hi0 hz0 hz1 _ _ _ _ n rfl rfl rfl rfl ?b1 ?b2 ?b3 ?_))
  case b1 => rw [hz2]; omega
  case b2 => unfold maxLen; omega
  case b3 => exact Nat.le_refl _
  intro w1 hown hgrow
  have hb1 : Below w.heap.size w w1 := (Below.refl _ _).grown hgrow (Nat.le_refl _) (fun k hk => by cases hk)
  have hown0 : w1.ownsRow w.heap.size 2 1 (.slice (some ⟨w.heap.size, 0, none⟩) n n) n (cop (ints xs) (.int .i64 0) 0) := by
    rw [cop_zero, ints_length, hx]; simpa [Value.cells, toList_madeCells_one] using hown
  clear hown hgrow
  go_wp2
  go_loopw [4] (fun i wr => ∃ k : Nat, k ≤ n ∧ i = .int .i64 k ∧ wr.ownsRow w.heap.size 2 1 (.slice (some ⟨w.heap.size, 0, none⟩) n n) n (cop (ints xs) (.int .i64 0) k) ∧ Below w.heap.size w wr) (fun i _ => n - (intOf i).toNat)
  case atStart => exact ⟨0, Nat.zero_le _, rfl, hown0, hb1⟩
  case round =>
    obtain ⟨k, hk, rfl, hown, hb⟩ := hrel
    clear hown0 hb1
    by_cases hlt : k < n
    · obtain ⟨b, off, rfl, _, _, hbs, hc, _⟩ := h.int hlt
      have hcr : wr.cell? ⟨b, off + k, none⟩ = some (.int .i64 (xs.getD k 0)) := (hb.cell (p := ⟨b, off + k, none⟩) hbs).trans hc
      have hcw : wr.cell? ⟨w.heap.size, k, none⟩ = some (.int .i64 0) := by
        rw [hown.cellAt k (by omega), cop_get _ _ _ _ (Nat.le_refl _) (by rw [ints_length]; omega)]
      have hfw : wr.frozen? ⟨w.heap.size, k, none⟩ = false := hown.frozenAt k
      have R := hown.stored k (.int .i64 (xs.getD k 0))
      rw [cop_set _ _ _ k (by rw [ints_length]; omega) (ints_getD xs k (by omega))] at R
      have hb2 : Below w.heap.size w (wr.setCell ⟨w.heap.size, k, none⟩ (.int .i64 (xs.getD k 0))) := hb.setCell (p := ⟨w.heap.size, k, none⟩) (Nat.le_refl _) _
      have R2 := R.1
      clear hc R hown hb
      generalize xs.getD k 0 = x at *
      go_wp2
      go_roundw
      case rel => exact ⟨k + 1, by omega, by go_num, R2, hb2⟩
      case measure => simp [intOf]; omega
    · go_wp2
      go_ret
      have hkn : k = (ints xs).length := by rw [ints_length]; omega
      rw [hkn, cop_all] at hown
      exact ⟨rfl, RowAt.of_owns hown (Nat.le_refl _), hb⟩

end Go.Proofs.Ytpbhiednmnolgaa

namespace Go.Proofs.Ytpbhiednmnolgaa
open Go.RowKit

set_option maxHeartbeats 400000 in
theorem eqInts_any {o1 o2 : Bool} {l1 u1 l2 u2 : Nat} (a1 a2 : Option Addr) (n1 c1 n2 c2 : Nat) (xs ys : List Int) (w : World) (h1 : RowAt w o1 l1 u1 1 a1 n1 c1 (ints xs)) (h2 : RowAt w o2 l2 u2 1 a2 n2 c2 (ints ys)) (hn : n1 ≤ 2097152) (hm : n2 ≤ 2097152) :
    Calls Try.prog 41 #[.slice a1 n1 c1, .slice a2 n2 c2] w fun e w' => e = .returned (.bool (decide (xs = ys))) ∧ Below w.heap.size w w' := by
  have hx := h1.nInts
  have hy := h2.nInts
  by_cases hne : n1 = n2
  · subst hne
    have hb0 : ((n1 : Int) != (n1 : Int)) = false := by simp
    go_enter Try.func41, Try.ntmps41
    go_wp2
    go_loopw [5] (fun i wr => ∃ k : Nat, k ≤ n1 ∧ i = .int .i64 k ∧ (∀ j, j < k → xs.getD j 0 = ys.getD j 0) ∧ Below w.heap.size w wr) (fun i _ => n1 - (intOf i).toNat)
    case atStart => exact ⟨0, Nat.zero_le _, rfl, fun j hj => absurd hj (Nat.not_lt_zero _), Below.refl _ _⟩
    case round =>
      obtain ⟨k, hk, rfl, hall0, hb⟩ := hrel
      have HA : Hid _ := hall0
      clear hall0
      by_cases hlt : k < n1
      · obtain ⟨b1, o1, rfl, _, _, hs1, e1, _⟩ := h1.int hlt
        obtain ⟨b2, o2, rfl, _, _, hs2, e2, _⟩ := h2.int hlt
        have g1 : wr.cell? ⟨b1, o1 + k, none⟩ = some (.int .i64 (xs.getD k 0)) := (hb.cell (p := ⟨b1, o1 + k, none⟩) hs1).trans e1
        have g2 : wr.cell? ⟨b2, o2 + k, none⟩ = some (.int .i64 (ys.getD k 0)) := (hb.cell (p := ⟨b2, o2 + k, none⟩) hs2).trans e2
        clear e1 e2
        by_cases hxy : xs.getD k 0 = ys.getD k 0
        · have HX : Hid _ := hxy
          rw [hxy] at g1
          clear hxy
          have hl : (k : Int) < (n1 : Int) := by omega
          generalize ys.getD k 0 = y at g1 g2
          have hyy : (y != y) = false := by simp
          go_wp2_with fail
          go_quiet (fail)
          go_wp2
          go_roundw
          case rel => 
            refine ⟨k + 1, by omega, by go_num, fun j hj => ?_, below_drewN hb _⟩
            by_cases e : j = k
            · rw [e]; exact HX.out
            · exact HA.out j (by omega)
          case measure => simp [intOf]; omega
        · have hl : (k : Int) < (n1 : Int) := by omega
          have hne : ¬ xs = ys := fun e => hxy (by rw [e])
          have HN : Hid _ := hne
          clear hne
          generalize ys.getD k 0 = y at *
          generalize xs.getD k 0 = x at *
          have hyy : (x != y) = true := by simp [hxy]
          clear hxy
          go_wp2_with fail
          go_quiet (fail)
          go_wp2
          go_ret
          exact ⟨ret_bool (decide_eq_false HN.out).symm, below_drewN hb _⟩
      · go_wp2
        go_ret
        have hall := HA.out
        rw [show k = n1 by omega] at hall
        exact ⟨ret_bool (decide_eq_true (eq_getD hx hy hall)).symm, hb⟩
  · have hb0 : ((n1 : Int) != (n2 : Int)) = true := by simp; omega
    have hne' : ¬ xs = ys := fun e => hne (by rw [← hx, ← hy, e])
    go_enter Try.func41, Try.ntmps41
    go_wp2
    go_ret
    exact ⟨ret_bool (decide_eq_false hne').symm, Below.refl _ _⟩

theorem eqInts_is {o1 o2 : Bool} {l1 u1 l2 u2 : Nat} (a1 a2 : Option Addr) (n1 c1 n2 c2 : Nat) (xs ys : List Int) (w : World) (h1 : RowAt w o1 l1 u1 1 a1 n1 c1 (ints xs)) (h2 : RowAt w o2 l2 u2 1 a2 n2 c2 (ints ys)) (hn : n1 ≤ 2097152) (hm : n2 ≤ 2097152) (d : Bool) (hd : decide (xs = ys) = d) :
    Calls Try.prog 41 #[.slice a1 n1 c1, .slice a2 n2 c2] w fun e w' => e = .returned (.bool d) ∧ Below w.heap.size w w' := by
  rw [← hd]; exact eqInts_any a1 a2 n1 c1 n2 c2 xs ys w h1 h2 hn hm
end Go.Proofs.Ytpbhiednmnolgaa

namespace Go.Proofs.Ytpbhiednmnolgaa
open Go.RowKit

def wordB (x : Int) : Bool := decide (0 ≤ x ∧ x ≤ 65535)
theorem isWord_any (x : Int) (w : World) : Calls Try.prog 77 #[.int .i64 x] w fun e w' => e = .returned (.bool (wordB x)) ∧ w' = w := by
  by_cases h : 0 ≤ x <;> by_cases h2 : x ≤ 65535
  all_goals
    go_enter Try.func77, Try.ntmps77
    go_wp2
    go_ret
    exact ⟨by simp [wordB, h, h2], rfl⟩

theorem l1Word_any (x : Int) (w : World) : Calls Try.prog 55 #[.int .i64 x] w fun e w' => e = .returned (.bool (wordB x)) ∧ w' = w := by
  go_enter Try.func55, Try.ntmps55
  go_wp2_with fail
  refine (l1In_any _ _ _ _).mono ?_
  rintro e w' ⟨rfl, rfl⟩
  go_wp2
  go_ret
  exact ⟨ret_bool (by simp [wordB]), rfl⟩

end Go.Proofs.Ytpbhiednmnolgaa

namespace Go.Proofs.Ytpbhiednmnolgaa
open Go.RowKit

theorem isWord_is (x : Int) (w : World) (d : Bool) (h : wordB x = d) : Calls Try.prog 77 #[.int .i64 x] w fun e w' => e = .returned (.bool d) ∧ w' = w := by rw [← h]; exact isWord_any x w
theorem l1Word_is (x : Int) (w : World) (d : Bool) (h : wordB x = d) : Calls Try.prog 55 #[.int .i64 x] w fun e w' => e = .returned (.bool d) ∧ w' = w := by rw [← h]; exact l1Word_any x w
end Go.Proofs.Ytpbhiednmnolgaa

namespace Go.Proofs.Ytpbhiednmnolgaa
open Go.RowKit

theorem wrapI_same (n : Int) (h : -9223372036854775808 ≤ n ∧ n ≤ 9223372036854775807) : IntKind.i64.wrap n = n := by rw [IntKind.wrap_i64]; omega
end Go.Proofs.Ytpbhiednmnolgaa

namespace Go.Proofs.Ytpbhiednmnolgaa
open Go.RowKit

theorem NewB.ge {w W : World} {b : Nat} {cs : Array Value} (h : NewB w W b cs) : w.heap.size ≤ b := Nat.le_of_eq h.bl.symm
theorem newB_mk (w : World) (cs : Array Value) (t : TypeId) : NewB w (w.alloc (.cells cs t)) w.heap.size cs :=
  ⟨rfl, by simp, (Below.refl _ _).alloc (Nat.le_refl _) _, fun k v h => by simpa using h, fun k => by simp⟩
/-- a new variable of a type: its zero cells -/
theorem alloc_new {P : Program} {ops : Array Oper} {rest : List Oper} {dst : Option Tmp} {type : TypeId} {pos : String} {after : Array Edge} {a : Act} {w : World} {Q : Exit → Act → World → Prop} (ty : TypeId) (cs : Array Value) (hz : ∀ w, (zeroValue ty).run P w = .ok (.agg cs) w)
    (h : ∀ (b : Nat) (W : World), NewB w W b cs → wpList P ops Q rest (a.put dst (.pointer (some ⟨b, 0, none⟩))) W) : wpList P ops Q (⟨dst, .alloc ty, type, pos, after, none⟩ :: rest) a w := by
  refine wpList_plain rfl fun K hK => ?_
  unfold Oper.wp execOp
  go_simp
  exact hK _ _ (h _ _ (newB_mk _ _ _))

theorem size_setCells' (b : Nat) : ∀ (vs : List Value) (o : Nat) (w : World), (w.setCells b o vs).heap.size = w.heap.size
  | [], _, _ => rfl
  | v :: r, o, w => by rw [World.setCells, size_setCells' b r (o + 1)]; simp
theorem setB_cells {w : World} {b : Nat} {cs : List Value} {n : Nat} (hn : cs.length = n) (ht : w.there b 0 n) : SetB w (w.setCells b 0 cs) b cs := by
  refine ⟨?_, ?_, ?_, ?_⟩
  · exact (Kept.refl _ _ _).setCells (Nat.le_refl _) (Nat.lt_succ_self _) _ _
  · intro k v hv
    have hk : k < cs.length := by
      rcases Nat.lt_or_ge k cs.length with h' | h'
      · exact h'
      · rw [List.getElem?_eq_none h'] at hv; cases hv
    have := World.cell?_setCells_in b cs 0 w (fun j hj => (ht j (by omega)).1) k hk
    rw [Nat.zero_add] at this
    simpa [List.getElem?_eq_getElem hk] using this.trans (by rw [← hv, List.getElem?_eq_getElem hk])
  · intro q k; simp [World.frozen?_setCells]
  · exact size_setCells' b cs 0 w
theorem store_box {P : Program} {ops : Array Oper} {rest : List Oper} {dst : Option Tmp} {type : TypeId} {pos : String} {after : Array Edge} {a : Act} {w : World} {Q : Exit → Act → World → Prop} (ty : TypeId) {x y : Operand} (b : Nat) (cs : List Value) {n : Nat} (hn : cs.length = n) (ht : w.there b 0 n) (hi : (P.info? ty).map (·.size) = some n) (h1 : ∀ v ∈ cs, v.oneCell' = true) (hx : a.eval x = .pointer (some ⟨b, 0, none⟩)) (hy : a.eval y = .agg cs.toArray)
    (h : ∀ W : World, SetB w W b cs → wpList P ops Q rest (a.put dst undef) W) : wpList P ops Q (⟨dst, .store ty x y, type, pos, after, none⟩ :: rest) a w := by
  refine wpList_plain rfl fun K hK => ?_
  refine wp_store_mid ty x y rfl b 0 cs.toArray hx hy (by rw [List.size_toArray, hn]; exact ht) (by rw [List.size_toArray, hn]; exact hi) (all_oneCell_toArray h1) (hK _ _ (h _ (setB_cells hn ht)))
end Go.Proofs.Ytpbhiednmnolgaa

namespace Go.Proofs.Ytpbhiednmnolgaa
open Go.RowKit

def en0 : En := (0, 0, 0, 0, 0, 0)
end Go.Proofs.Ytpbhiednmnolgaa

namespace Go.Proofs.Ytpbhiednmnolgaa
open Go.RowKit

theorem eqOp8_yes (k v a x : Int) (w : World) :
    Calls Try.prog 86 #[.agg #[.int .i64 k, .int .i64 v, .int .i64 a, .int .i64 x], .agg #[.int .i64 k, .int .i64 v, .int .i64 a, .int .i64 x]] w fun e w' => e = .returned (.bool true) ∧ Below w.heap.size w w' := by
  have e1 : (k != k) = false := by simp
  have e2 : (v != v) = false := by simp
  have e3 : (a != a) = false := by simp
  have e4 : (x != x) = false := by simp
  go_enter Try.func86, Try.ntmps86
  go_wp2
  go_ret
  exact ⟨rfl, (((Below.refl _ _).alloc (Nat.le_refl _) _).alloc (by simp) _)⟩
theorem eqEntry_yes (p q k v a x : Int) (w : World) :
    Calls Try.prog 72 #[.agg #[.int .i64 p, .int .i64 q, .int .i64 k, .int .i64 v, .int .i64 a, .int .i64 x], .agg #[.int .i64 p, .int .i64 q, .int .i64 k, .int .i64 v, .int .i64 a, .int .i64 x]] w fun e w' => e = .returned (.bool true) ∧ Below w.heap.size w w' := by
  have e1 : (p != p) = false := by simp
  have e2 : (q != q) = false := by simp
  go_enter Try.func72, Try.ntmps72
  go_wp2_with fail
  refine (eqOp8_yes k v a x _).mono ?_
  rintro e w1 ⟨rfl, hb⟩
  have B : Below w.heap.size w w1 := below_next (((Below.refl _ _).alloc (Nat.le_refl _) _).alloc (by simp) _) hb
  clear hb
  go_wp2
  go_ret
  exact ⟨rfl, B⟩

end Go.Proofs.Ytpbhiednmnolgaa

namespace Go.Proofs.Ytpbhiednmnolgaa
open Go.RowKit Go.ChangeShapes Go.WideShapes Go.Deep

theorem addr_add (b off i : Nat) : (⟨b, off, none⟩ : Addr).add i = ⟨b, off + i, none⟩ := by
  simp [Addr.add]

section
variable {H : Type} {enc : TypeId × Value → H} {P : Program} {w : World}

theorem read_ints {t e : TypeId} {fuel : Nat} {v : Value} {x : DataW H × List MemPlace} (ht : P.underlying t = some (.slice e)) (he : P.underlying e = some (.int .i64)) (hc : P.cellsOf e = 1)
    (h : DataW.trod enc P w 0 (fun _ => true) true fuel t [v] = some x) :
    ∃ ao n cap xs, v = .slice ao n cap ∧ n ≤ maxLen ∧ RowAt w false 0 w.heap.size 1 ao n cap (ints xs) := by
  rcases open_ints ht he hc h with ⟨hcs, _⟩ | ⟨a, len, cap, zs, hcs, _, hl, hm, hz, _, hcell, _⟩
  · simp only [List.cons.injEq, and_true] at hcs
    exact ⟨none, 0, 0, [], hcs, Nat.zero_le _, rfl, Nat.le_refl _, fun h => absurd rfl h⟩
  · simp only [List.cons.injEq, and_true] at hcs
    simp only [if_true] at hz
    refine ⟨some a, len, cap, zs.take len, hcs, Nat.le_trans hl hm, ?_, hl, fun hn => ?_⟩
    · rw [ints_length]; simp; omega
    · have h0 := hcell 0 (by omega)
      obtain ⟨b, off, spot⟩ := a
      have hspot : spot = none := by simpa [Addr.add] using World.cell?_spot h0
      subst hspot
      refine ⟨b, off, rfl, Nat.zero_le _, ?_, ?_, fun i hi => ?_, fun h => by cases h⟩
      · exact World.block_lt_of_cell? w _ h0
      · exact World.block_lt_of_cell? w _ h0
      · rw [← addr_add, hcell i (by omega), ints_getD _ _ (by simp; omega)]
        simp [List.getD, show i < len by omega]

end
end Go.Proofs.Ytpbhiednmnolgaa

namespace Go.Proofs.Ytpbhiednmnolgaa
theorem Try.cellsInt : Try.prog.cellsOf 2 = 1 := by kernel_rfl
end Go.Proofs.Ytpbhiednmnolgaa

namespace Go.Proofs.Ytpbhiednmnolgaa
open Go.RowKit

section
variable {P : Program} {tab : List (List Nat)} (h : P.funcs.toList.map P.leadsTo = tab)
include h
end
section
variable {P : Program} {tab : List (List Nat)} (h : P.funcs.toList.map P.leadsTo = tab)
include h
theorem recurses_unf {f : Nat} (hu : P.unfollowed f = true) : P.recurses f = true := by
  have _ := h
  unfold Program.recurses
  rw [hu, Bool.true_or]
end
section
variable {P : Program} {c : List Char} {X : List (List Char)} (h : behindMainWord (wordsSigns P.initOrder.toList) = c :: X) (hg : (c == "gc".toList) = false) (hs : (c == "spec".toList) = false) (hc : (c == "cut".toList) = true) (hr : (c == "carried".toList) = false) (hl : stripLifts liftWords (c :: X) = ([], c :: X))
include h hg hs hc hr hl
end

end Go.Proofs.Ytpbhiednmnolgaa

