/- What this law needs of the texts before it beyond what stands in them. -/
import Derived.Test.YtpbhiednmnolgaaBase
import Derived.Test.YtpbhiednmnolgaaZT
import Derived.Test.YtpbhiednmnolgaaCopy
import Derived.Test.YtpbhiednmnolgaaMark
import Derived.Test.YtpbhiednmnolgaaEq
import Derived.Test.YtpbhiednmnolgaaMark2
import Derived.Test.YtpbhiednmnolgaaBC
import Derived.Test.YtpbhiednmnolgaaSm
import Derived.Test.YtpbhiednmnolgaaFault
import Derived.Test.YtpbhiednmnolgaaArr
import Derived.Test.YtpbhiednmnolgaaFlush
import Derived.Test.YtpbhiednmnolgaaSpec1
import Derived.Test.YtpbhiednmnolgaaSFlush
import Derived.Test.YtpbhiednmnolgaaAll
import Derived.Test.YtpbhiednmnolgaaPutS
import Derived.Test.YtpbhiednmnolgaaFacts
import Derived.Test.YtpbhiednmnolgaaZM
import Derived.Test.YtpbhiednmnolgaaYE
import Derived.Test.YtpbhiednmnolgaaXA
import Derived.Test.YtpbhiednmnolgaaZY
import Derived.Test.YtpbhiednmnolgaaP1
import Derived.Test.YtpbhiednmnolgaaP2
import Derived.Test.YtpbhiednmnolgaaP4
import Derived.Test.YtpbhiednmnolgaaP3
import Derived.Test.YtpbhiednmnolgaaQ0
import Derived.Test.YtpbhiednmnolgaaZU
import Derived.Test.YtpbhiednmnolgaaT8
import Derived.Test.YtpbhiednmnolgaaZW
import Derived.Test.YtpbhiednmnolgaaZX
import Derived.Test.YtpbhiednmnolgaaZZ
import Derived.Test.YtpbhiednmnolgaaZQ
import Derived.Test.YtpbhiednmnolgaaZV
import Derived.Test.YtpbhiednmnolgaaYP
import Derived.Test.YtpbhiednmnolgaaZR
import Derived.Test.YtpbhiednmnolgaaXB
namespace Go.Proofs.Ytpbhiednmnolgaa
open Go.RowKit

theorem RowAt.widen {w : World} {own : Bool} {lo hi size : Nat} {ao : Option Addr} {n cap : Nat} {cs : List Value} (h : RowAt w own lo hi size ao n cap cs) {lo' hi' : Nat} (h1 : lo' ≤ lo) (h2 : hi ≤ hi') : RowAt w own lo' hi' size ao n cap cs := by
  refine ⟨h.len, h.le, fun hn => ?_⟩
  obtain ⟨b, off, rfl, g1, g2, g3, g4, g5⟩ := h.cells hn
  exact ⟨b, off, rfl, by omega, by omega, g3, g4, g5⟩

theorem RowAt.nInts {w : World} {own : Bool} {lo hi : Nat} {ao : Option Addr} {n cap : Nat} {xs : List Int} (h : RowAt w own lo hi 1 ao n cap (ints xs)) : xs.length = n := by
  have hl := h.len; rw [ints_length, Nat.mul_one] at hl; exact hl
/-- A row that the call itself made, as 'ownsRow' tells it. -/
theorem RowAt.of_owns {w : World} {base : Nat} {e : TypeId} {size : Nat} {g n cap : Nat} {cs : List Value} (h : w.ownsRow base e size (.slice (some ⟨g, 0, none⟩) n cap) n cs) (hc : n ≤ cap) : RowAt w true base w.heap.size size (some ⟨g, 0, none⟩) n cap cs := by
  have hlt := h.lt g rfl
  refine ⟨h.1, hc, fun _ => ⟨g, 0, rfl, hlt.1, hlt.2, hlt.2, fun i hi => ?_, fun _ i _ => ?_⟩⟩
  · rw [Nat.zero_add, h.cellAt i hi]
    have : i < cs.length := by rw [h.1]; exact hi
    simp [List.getD, this]
  · rw [Nat.zero_add]
    exact h.frozenAt i

/-- how far a copy has come: the first m cells are there, the others are still zero -/
def cop (cs : List Value) (z : Value) (m : Nat) : List Value := cs.take m ++ List.replicate (cs.length - m) z
theorem cop_zero (cs : List Value) (z : Value) : cop cs z 0 = List.replicate cs.length z := by simp [cop]
theorem cop_all (cs : List Value) (z : Value) : cop cs z cs.length = cs := by simp [cop]
theorem cop_set (cs : List Value) (z v : Value) (m : Nat) (h : m < cs.length) (hv : cs.getD m default = v) : (cop cs z m).set m v = cop cs z (m + 1) := by
  have e : cs.length - m = (cs.length - (m + 1)) + 1 := by omega
  have hl : (cs.take m).length = m := by simp; omega
  have hv' : v = cs[m] := by rw [← hv]; simp [List.getD, h]
  unfold cop
  rw [e, List.replicate_succ, List.set_append, if_neg (by omega), hl, Nat.sub_self, List.set_cons_zero, List.take_succ_eq_append_getElem h, List.append_assoc, hv']
  rfl
theorem cop_get (cs : List Value) (z : Value) (m i : Nat) (hm : m ≤ i) (h : i < cs.length) : (cop cs z m)[i]? = some z := by
  unfold cop
  rw [List.getElem?_append_right (by simp; omega), List.getElem?_replicate, if_pos (by simp; omega)]

theorem owns_below {w w' : World} {base : Nat} {e : TypeId} {size : Nat} {v : Value} {n : Nat} {xs : List Value} (h : w.ownsRow base e size v n xs) (hb : Below w.heap.size w w') : w'.ownsRow base e size v n xs := by
  refine ⟨h.1, ?_⟩
  rcases h.2 with h2 | ⟨g, cap, cur, hv, hg, hh, r⟩
  · exact Or.inl h2
  · have hlt : g < w.heap.size := by
      by_cases hlt : g < w.heap.size
      · exact hlt
      · rw [Array.getElem?_eq_none (by omega)] at hh; cases hh
    exact Or.inr ⟨g, cap, cur, hv, hg, by rw [hb.block g hlt]; exact hh, r⟩
theorem owns_lt {w : World} {base : Nat} {e : TypeId} {size : Nat} {g n cap m : Nat} {xs : List Value} (h : w.ownsRow base e size (.slice (some ⟨g, 0, none⟩) n cap) m xs) : base ≤ g ∧ g < w.heap.size := h.lt g rfl
theorem below_step {B : Nat} {w a b : World} (h : Below B w a) (hB : B ≤ a.heap.size) (k : Below a.heap.size a b) : Below B w b := h.trans (k.mono hB)

theorem below_drewN {B : Nat} {a w : World} (h : Below B a w) (n : Nat) : Below B a (w.drewN n) := ⟨h.os, h.tape, h.output, h.size, h.block⟩
theorem eq_getD {α : Type} {xs ys : List α} {d : α} {n : Nat} (hx : xs.length = n) (hy : ys.length = n) (h : ∀ j, j < n → xs.getD j d = ys.getD j d) : xs = ys := by
  apply List.ext_getElem (by omega)
  intro i h1 h2
  have := h i (by omega)
  simpa [List.getD, h1, h2] using this

end Go.Proofs.Ytpbhiednmnolgaa

namespace Go.Proofs.Ytpbhiednmnolgaa
open Go.RowKit

theorem Try.info2' : (Try.prog.info? 2).map (fun i => (i.zero, i.size, i.bytes)) = some (some (.int .i64 0), 1, 8) := by kernel_rfl

set_option maxHeartbeats 400000 in
theorem toInts_any {own : Bool} {lo hi : Nat} (ao : Option Addr) (n cap : Nat) (xs : List Int) (w : World) (h : RowAt w own lo hi 1 ao n cap (ints xs)) (hn : n ≤ 1048576) :
    Calls Try.prog 39 #[.slice ao n cap] w fun e w' => e = .returned (.slice (some ⟨w.heap.size, 0, none⟩) n n) ∧ RowAt w' true w.heap.size w'.heap.size 1 (some ⟨w.heap.size, 0, none⟩) n n (ints xs) ∧ Below w.heap.size w w' := by
  have hx := h.nInts
  obtain ⟨i0, hi0, hz0, hz1, hz2⟩ := info_parts Try.info2'
  go_enter Try.func39, Try.ntmps39
  go_wp2_with (first | (at_make; refine wpList_make_full _ rfl _ _ 24 rfl w.heap.size 2 i0 (.int .i64 0) 1 Try.underlying24 hi0 hz0 hz1 _ _ _ _ n rfl rfl rfl rfl ?b1 ?b2 ?b3 ?_))
  case b1 => rw [hz2]; omega
  case b2 => unfold maxLen; omega
  case b3 => exact Nat.le_refl _
  intro w1 hown hgrow
  have hb1 : Below w.heap.size w w1 := (Below.refl _ _).grown hgrow (Nat.le_refl _) (fun k hk => by cases hk)
  have hown0 : w1.ownsRow w.heap.size 2 1 (.slice (some ⟨w.heap.size, 0, none⟩) n n) n (cop (ints xs) (.int .i64 0) 0) := by
    rw [cop_zero, ints_length, hx]; simpa [Value.cells, toList_madeCells_one] using hown
  clear hown hgrow
  go_wp2
  go_loopw [4] (fun i wr => ∃ k : Nat, k ≤ n ∧ i = .int .i64 k ∧ wr.ownsRow w.heap.size 2 1 (.slice (some ⟨w.heap.size, 0, none⟩) n n) n (cop (ints xs) (.int .i64 0) k) ∧ Below w.heap.size w wr) (fun i _ => n - (intOf i).toNat)
  case atStart => exact ⟨0, Nat.zero_le _, rfl, hown0, hb1⟩
  case round =>
    obtain ⟨k, hk, rfl, hown, hb⟩ := hrel
    clear hown0 hb1
    by_cases hlt : k < n
    · obtain ⟨b, off, rfl, _, _, hbs, hc, _⟩ := h.int hlt
      have hcr : wr.cell? ⟨b, off + k, none⟩ = some (.int .i64 (xs.getD k 0)) := (hb.cell (p := ⟨b, off + k, none⟩) hbs).trans hc
      have hcw : wr.cell? ⟨w.heap.size, k, none⟩ = some (.int .i64 0) := by
        rw [hown.cellAt k (by omega), cop_get _ _ _ _ (Nat.le_refl _) (by rw [ints_length]; omega)]
      have hfw : wr.frozen? ⟨w.heap.size, k, none⟩ = false := hown.frozenAt k
      have R := hown.stored k (.int .i64 (xs.getD k 0))
      rw [cop_set _ _ _ k (by rw [ints_length]; omega) (ints_getD xs k (by omega))] at R
      have hb2 : Below w.heap.size w (wr.setCell ⟨w.heap.size, k, none⟩ (.int .i64 (xs.getD k 0))) := hb.setCell (p := ⟨w.heap.size, k, none⟩) (Nat.le_refl _) _
      have R2 := R.1
      clear hc R hown hb
      generalize xs.getD k 0 = x at *
      go_wp2
      go_roundw
      case rel => exact ⟨k + 1, by omega, by go_num, R2, hb2⟩
      case measure => simp [intOf]; omega
    · go_wp2
      go_ret
      have hkn : k = (ints xs).length := by rw [ints_length]; omega
      rw [hkn, cop_all] at hown
      exact ⟨rfl, RowAt.of_owns hown (Nat.le_refl _), hb⟩

end Go.Proofs.Ytpbhiednmnolgaa

namespace Go.Proofs.Ytpbhiednmnolgaa
open Go.RowKit

set_option maxHeartbeats 400000 in
theorem eqInts_any {o1 o2 : Bool} {l1 u1 l2 u2 : Nat} (a1 a2 : Option Addr) (n1 c1 n2 c2 : Nat) (xs ys : List Int) (w : World) (h1 : RowAt w o1 l1 u1 1 a1 n1 c1 (ints xs)) (h2 : RowAt w o2 l2 u2 1 a2 n2 c2 (ints ys)) (hn : n1 ≤ 2097152) (hm : n2 ≤ 2097152) :
    Calls Try.prog 41 #[.slice a1 n1 c1, .slice a2 n2 c2] w fun e w' => e = .returned (.bool (decide (xs = ys))) ∧ Below w.heap.size w w' := by
  have hx := h1.nInts
  have hy := h2.nInts
  by_cases hne : n1 = n2
  · subst hne
    have hb0 : ((n1 : Int) != (n1 : Int)) = false := by simp
    go_enter Try.func41, Try.ntmps41
    go_wp2
    go_loopw [5] (fun i wr => ∃ k : Nat, k ≤ n1 ∧ i = .int .i64 k ∧ (∀ j, j < k → xs.getD j 0 = ys.getD j 0) ∧ Below w.heap.size w wr) (fun i _ => n1 - (intOf i).toNat)
    case atStart => exact ⟨0, Nat.zero_le _, rfl, fun j hj => absurd hj (Nat.not_lt_zero _), Below.refl _ _⟩
    case round =>
      obtain ⟨k, hk, rfl, hall0, hb⟩ := hrel
      have HA : Hid _ := hall0
      clear hall0
      by_cases hlt : k < n1
      · obtain ⟨b1, o1, rfl, _, _, hs1, e1, _⟩ := h1.int hlt
        obtain ⟨b2, o2, rfl, _, _, hs2, e2, _⟩ := h2.int hlt
        have g1 : wr.cell? ⟨b1, o1 + k, none⟩ = some (.int .i64 (xs.getD k 0)) := (hb.cell (p := ⟨b1, o1 + k, none⟩) hs1).trans e1
        have g2 : wr.cell? ⟨b2, o2 + k, none⟩ = some (.int .i64 (ys.getD k 0)) := (hb.cell (p := ⟨b2, o2 + k, none⟩) hs2).trans e2
        clear e1 e2
        by_cases hxy : xs.getD k 0 = ys.getD k 0
        · have HX : Hid _ := hxy
          rw [hxy] at g1
          clear hxy
          have hl : (k : Int) < (n1 : Int) := by omega
          generalize ys.getD k 0 = y at g1 g2
          have hyy : (y != y) = false := by simp
          go_wp2_with fail
          go_quiet (fail)
          go_wp2
          go_roundw
          case rel => 
            refine ⟨k + 1, by omega, by go_num, fun j hj => ?_, below_drewN hb _⟩
            by_cases e : j = k
            · rw [e]; exact HX.out
            · exact HA.out j (by omega)
          case measure => simp [intOf]; omega
        · have hl : (k : Int) < (n1 : Int) := by omega
          have hne : ¬ xs = ys := fun e => hxy (by rw [e])
          have HN : Hid _ := hne
          clear hne
          generalize ys.getD k 0 = y at *
          generalize xs.getD k 0 = x at *
          have hyy : (x != y) = true := by simp [hxy]
          clear hxy
          go_wp2_with fail
          go_quiet (fail)
          go_wp2
          go_ret
          exact ⟨ret_bool (decide_eq_false HN.out).symm, below_drewN hb _⟩
      · go_wp2
        go_ret
        have hall := HA.out
        rw [show k = n1 by omega] at hall
        exact ⟨ret_bool (decide_eq_true (eq_getD hx hy hall)).symm, hb⟩
  · have hb0 : ((n1 : Int) != (n2 : Int)) = true := by simp; omega
    have hne' : ¬ xs = ys := fun e => hne (by rw [← hx, ← hy, e])
    go_enter Try.func41, Try.ntmps41
    go_wp2
    go_ret
    exact ⟨ret_bool (decide_eq_false hne').symm, Below.refl _ _⟩

theorem eqInts_is {o1 o2 : Bool} {l1 u1 l2 u2 : Nat} (a1 a2 : Option Addr) (n1 c1 n2 c2 : Nat) (xs ys : List Int) (w : World) (h1 : RowAt w o1 l1 u1 1 a1 n1 c1 (ints xs)) (h2 : RowAt w o2 l2 u2 1 a2 n2 c2 (ints ys)) (hn : n1 ≤ 2097152) (hm : n2 ≤ 2097152) (d : Bool) (hd : decide (xs = ys) = d) :
    Calls Try.prog 41 #[.slice a1 n1 c1, .slice a2 n2 c2] w fun e w' => e = .returned (.bool d) ∧ Below w.heap.size w w' := by
  rw [← hd]; exact eqInts_any a1 a2 n1 c1 n2 c2 xs ys w h1 h2 hn hm
end Go.Proofs.Ytpbhiednmnolgaa

namespace Go.Proofs.Ytpbhiednmnolgaa
open Go.RowKit

theorem Fresh.widen {w : World} {lo lo' hi hi' : Nat} {e : TypeId} {size : Nat} {v : Value} {n : Nat} {cs : List Value} (h : Fresh w lo hi e size v n cs) (hl : lo' ≤ lo) (hh : hi ≤ hi') : Fresh w lo' hi' e size v n cs := by
  rcases h with h | ⟨⟨h1, h2⟩, h3⟩
  · exact Or.inl h
  · refine Or.inr ⟨⟨h1, ?_⟩, fun k hk => Nat.lt_of_lt_of_le (h3 k hk) hh⟩
    rcases h2 with h2 | ⟨g, cap, cur, a, b, c⟩
    · exact Or.inl h2
    · exact Or.inr ⟨g, cap, cur, a, Nat.le_trans hl b, c⟩
end Go.Proofs.Ytpbhiednmnolgaa

namespace Go.Proofs.Ytpbhiednmnolgaa
open Go.RowKit

theorem DiskAt.widen {w : World} {lo hi lo' hi' : Nat} {a0 : Option Addr} {n0 c0 : Nat} {a1 : Option Addr} {n1 c1 : Nat} {xs : List Int} {ys : List (Int × Int)} (h : DiskAt w lo hi a0 n0 c0 a1 n1 c1 xs ys) (h1 : lo' ≤ lo) (h2 : hi ≤ hi') : DiskAt w lo' hi' a0 n0 c0 a1 n1 c1 xs ys := by
  obtain ⟨mid, m1, m2, r0, r1⟩ := h.parts
  exact ⟨mid, by omega, by omega, r0.widen h1 (Nat.le_refl _), r1.widen (Nat.le_refl _) h2⟩

end Go.Proofs.Ytpbhiednmnolgaa

namespace Go.Proofs.Ytpbhiednmnolgaa
open Go.RowKit

theorem NodesAt.widen {w : World} {own : Bool} {lo hi : Nat} {ao : Option Addr} {n cap : Nat} {K : Nat → KS} {ns : List Nd} (h : NodesAt w own lo hi ao n cap K ns) {lo' hi' : Nat} (h1 : lo' ≤ lo) (h2 : hi ≤ hi') : NodesAt w own lo' hi' ao n cap K ns :=
  ⟨h.len, h.row.widen h1 h2, fun i hi => (h.kids i hi).widen h1 h2, h.sep⟩
end Go.Proofs.Ytpbhiednmnolgaa

namespace Go.Proofs.Ytpbhiednmnolgaa
open Go.RowKit

theorem FoAt.widen {w : World} {own : Bool} {lo hi : Nat} {an : Option Addr} {nn cn : Nat} {ab : Option Addr} {nb cb : Nat} {K : Nat → KS} {f : Fo} (h : FoAt w own lo hi an nn cn ab nb cb K f) {lo' hi' : Nat} (h1 : lo' ≤ lo) (h2 : hi ≤ hi') : FoAt w own lo' hi' an nn cn ab nb cb K f :=
  ⟨h.nodes.widen h1 h2, h.blocks.widen h1 h2, h.sep⟩

end Go.Proofs.Ytpbhiednmnolgaa

namespace Go.Proofs.Ytpbhiednmnolgaa
open Go.RowKit

theorem NewB.ge {w W : World} {b : Nat} {cs : Array Value} (h : NewB w W b cs) : w.heap.size ≤ b := Nat.le_of_eq h.bl.symm
theorem newB_mk (w : World) (cs : Array Value) (t : TypeId) : NewB w (w.alloc (.cells cs t)) w.heap.size cs :=
  ⟨rfl, by simp, (Below.refl _ _).alloc (Nat.le_refl _) _, fun k v h => by simpa using h, fun k => by simp⟩
/-- a new variable of a type: its zero cells -/
theorem alloc_new {P : Program} {ops : Array Oper} {rest : List Oper} {dst : Option Tmp} {type : TypeId} {pos : String} {after : Array Edge} {a : Act} {w : World} {Q : Exit → Act → World → Prop} (ty : TypeId) (cs : Array Value) (hz : ∀ w, (zeroValue ty).run P w = .ok (.agg cs) w)
    (h : ∀ (b : Nat) (W : World), NewB w W b cs → wpList P ops Q rest (a.put dst (.pointer (some ⟨b, 0, none⟩))) W) : wpList P ops Q (⟨dst, .alloc ty, type, pos, after, none⟩ :: rest) a w := by
  refine wpList_plain rfl fun K hK => ?_
  unfold Oper.wp execOp
  go_simp
  exact hK _ _ (h _ _ (newB_mk _ _ _))

end Go.Proofs.Ytpbhiednmnolgaa

namespace Go.Proofs.Ytpbhiednmnolgaa
open Go.RowKit

def en0 : En := (0, 0, 0, 0, 0, 0)
def enF (x : En) (j : Nat) : Int := if j = 0 then x.1 else if j = 1 then x.2.1 else if j = 2 then x.2.2.1 else if j = 3 then x.2.2.2.1 else if j = 4 then x.2.2.2.2.1 else x.2.2.2.2.2
def sixs (xs : List En) : List Value := (List.range (xs.length * 6)).map fun j => .int .i64 (enF (xs.getD (j / 6) en0) (j % 6))
theorem sixs_len (xs : List En) : (sixs xs).length = xs.length * 6 := by simp [sixs]
theorem sixs_get (xs : List En) (k j : Nat) (h : k < xs.length) (hj : j < 6) : (sixs xs).getD (k * 6 + j) default = .int .i64 (enF (xs.getD k en0) j) := by
  have h1 : k * 6 + j < xs.length * 6 := by omega
  have h2 : (k * 6 + j) / 6 = k := by omega
  have h3 : (k * 6 + j) % 6 = j := by omega
  have : (sixs xs).getD (k * 6 + j) default = .int .i64 (enF (xs.getD ((k * 6 + j) / 6) en0) ((k * 6 + j) % 6)) := by simp [sixs, List.getD, h1]
  rw [this, h2, h3]
theorem RowAt.nSixs {w : World} {own : Bool} {lo hi : Nat} {ao : Option Addr} {n cap : Nat} {vs : List En} (h : RowAt w own lo hi 6 ao n cap (sixs vs)) : vs.length = n := by
  have hl := h.len; rw [sixs_len] at hl; omega
theorem RowAt.six {w : World} {own : Bool} {lo hi : Nat} {ao : Option Addr} {n cap : Nat} {vs : List En} (h : RowAt w own lo hi 6 ao n cap (sixs vs)) {i : Nat} (hi' : i < n) :
    ∃ b off, ao = some ⟨b, off, none⟩ ∧ lo ≤ b ∧ b < hi ∧ b < w.heap.size ∧ w.cell? ⟨b, off + i * 6, none⟩ = some (.int .i64 (vs.getD i en0).1) ∧ w.cell? ⟨b, off + i * 6 + 1, none⟩ = some (.int .i64 (vs.getD i en0).2.1) ∧ w.cell? ⟨b, off + i * 6 + 2, none⟩ = some (.int .i64 (vs.getD i en0).2.2.1) ∧ w.cell? ⟨b, off + i * 6 + 3, none⟩ = some (.int .i64 (vs.getD i en0).2.2.2.1) ∧ w.cell? ⟨b, off + i * 6 + 4, none⟩ = some (.int .i64 (vs.getD i en0).2.2.2.2.1) ∧ w.cell? ⟨b, off + i * 6 + 5, none⟩ = some (.int .i64 (vs.getD i en0).2.2.2.2.2) ∧ (own = true → ∀ j, j < 6 → w.frozen? ⟨b, off + (i * 6 + j), none⟩ = false) := by
  obtain ⟨b, off, rfl, g1, g2, g3, g4, g5⟩ := h.cells (by omega)
  have hl := h.nSixs
  have G : ∀ j, j < 6 → w.cell? ⟨b, off + (i * 6 + j), none⟩ = some (.int .i64 (enF (vs.getD i en0) j)) := fun j hj => by
    rw [g4 (i * 6 + j) (by omega), sixs_get vs i j (by omega) hj]
  exact ⟨b, off, rfl, g1, g2, g3, G 0 (by omega), G 1 (by omega), G 2 (by omega), G 3 (by omega), G 4 (by omega), G 5 (by omega), fun ho j hj => g5 ho _ (by omega)⟩

end Go.Proofs.Ytpbhiednmnolgaa

namespace Go.Proofs.Ytpbhiednmnolgaa
open Go.RowKit

theorem Try.infoEntry : (Try.prog.info? 29).map (fun i => (i.zero, i.size, i.bytes)) = some (some (.agg #[.int .i64 0, .int .i64 0, .int .i64 0, .int .i64 0, .int .i64 0, .int .i64 0]), 6, 48) := by kernel_rfl
theorem made6 (n : Nat) : (madeCells #[.int .i64 0, .int .i64 0, .int .i64 0, .int .i64 0, .int .i64 0, .int .i64 0] (n * 6)).toList = List.replicate (n * 6) (.int .i64 0) := by
  apply List.ext_getElem?
  intro j
  by_cases hj : j < n * 6
  · have : j % 6 = 0 ∨ j % 6 = 1 ∨ j % 6 = 2 ∨ j % 6 = 3 ∨ j % 6 = 4 ∨ j % 6 = 5 := by omega
    rcases this with e | e | e | e | e | e <;> simp [madeCells, hj, e]
  · simp [madeCells, hj]
theorem sixs_getD0 (vs : List En) (k : Nat) (h : k < vs.length) : (sixs vs).getD (k * 6) default = .int .i64 (vs.getD k en0).1 := sixs_get vs k 0 h (by omega)
theorem sixs_getD1 (vs : List En) (k : Nat) (h : k < vs.length) : (sixs vs).getD (k * 6 + 1) default = .int .i64 (vs.getD k en0).2.1 := sixs_get vs k 1 h (by omega)
theorem sixs_getD2 (vs : List En) (k : Nat) (h : k < vs.length) : (sixs vs).getD (k * 6 + 2) default = .int .i64 (vs.getD k en0).2.2.1 := sixs_get vs k 2 h (by omega)
theorem sixs_getD3 (vs : List En) (k : Nat) (h : k < vs.length) : (sixs vs).getD (k * 6 + 3) default = .int .i64 (vs.getD k en0).2.2.2.1 := sixs_get vs k 3 h (by omega)
theorem sixs_getD4 (vs : List En) (k : Nat) (h : k < vs.length) : (sixs vs).getD (k * 6 + 4) default = .int .i64 (vs.getD k en0).2.2.2.2.1 := sixs_get vs k 4 h (by omega)
theorem sixs_getD5 (vs : List En) (k : Nat) (h : k < vs.length) : (sixs vs).getD (k * 6 + 5) default = .int .i64 (vs.getD k en0).2.2.2.2.2 := sixs_get vs k 5 h (by omega)

set_option maxRecDepth 20000 in
set_option maxHeartbeats 1600000 in
theorem toEntries_any {own : Bool} {lo hi : Nat} (ao : Option Addr) (n cap : Nat) (xs : List En) (w : World) (h : RowAt w own lo hi 6 ao n cap (sixs xs)) (hn : n ≤ 1048576) :
    Calls Try.prog 33 #[.slice ao n cap] w fun e w' => e = .returned (.slice (some ⟨w.heap.size, 0, none⟩) n n) ∧ RowAt w' true w.heap.size w'.heap.size 6 (some ⟨w.heap.size, 0, none⟩) n n (sixs xs) ∧ Below w.heap.size w w' := by
  have hx := h.nSixs
  obtain ⟨i0, hi0, hz0, hz1, hz2⟩ := info_parts Try.infoEntry
  go_enter Try.func33, Try.ntmps33
  go_wp2_with (first | (at_make; refine wpList_make_full _ rfl _ _ 40 rfl w.heap.size 29 i0 (.agg #[.int .i64 0, .int .i64 0, .int .i64 0, .int .i64 0, .int .i64 0, .int .i64 0]) 6 Try.underlying40 hi0 hz0 hz1 _ _ _ _ n rfl rfl rfl rfl ?b1 ?b2 ?b3 ?_))
  case b1 => rw [hz2]; omega
  case b2 => unfold maxLen; omega
  case b3 => exact Nat.le_refl _
  intro w1 hown hgrow
  have hb1 : Below w.heap.size w w1 := (Below.refl _ _).grown hgrow (Nat.le_refl _) (fun k hk => by cases hk)
  have hown0 : w1.ownsRow w.heap.size 29 6 (.slice (some ⟨w.heap.size, 0, none⟩) n n) n (cop (sixs xs) (.int .i64 0) (0 * 6)) := by
    rw [Nat.zero_mul, cop_zero, sixs_len, hx]; simpa [Value.cells, made6] using hown
  clear hown hgrow
  go_wp2
  go_loopw [4] (fun i wr => ∃ k : Nat, k ≤ n ∧ i = .int .i64 k ∧ wr.ownsRow w.heap.size 29 6 (.slice (some ⟨w.heap.size, 0, none⟩) n n) n (cop (sixs xs) (.int .i64 0) (k * 6)) ∧ Below w.heap.size w wr) (fun i _ => n - (intOf i).toNat)
  case atStart => exact ⟨0, Nat.zero_le _, rfl, hown0, hb1⟩
  case round =>
    obtain ⟨k, hk, rfl, hown, hb⟩ := hrel
    clear hown0 hb1
    by_cases hlt : k < n
    · obtain ⟨b, off, rfl, _, _, hbs, hc0, hc1, hc2, hc3, hc4, hc5, _⟩ := h.six hlt
      have hcr0 := (hb.cell (p := ⟨b, off + k * 6, none⟩) hbs).trans hc0
      have hcr1 := (hb.cell (p := ⟨b, off + k * 6 + 1, none⟩) hbs).trans hc1
      have hcr2 := (hb.cell (p := ⟨b, off + k * 6 + 2, none⟩) hbs).trans hc2
      have hcr3 := (hb.cell (p := ⟨b, off + k * 6 + 3, none⟩) hbs).trans hc3
      have hcr4 := (hb.cell (p := ⟨b, off + k * 6 + 4, none⟩) hbs).trans hc4
      have hcr5 := (hb.cell (p := ⟨b, off + k * 6 + 5, none⟩) hbs).trans hc5
      have R : ∀ w1, Below wr.heap.size wr w1 → w1.cell? ⟨w.heap.size, k * 6, none⟩ = some (.int .i64 0) ∧ w1.cell? ⟨w.heap.size, k * 6 + 1, none⟩ = some (.int .i64 0) ∧ w1.cell? ⟨w.heap.size, k * 6 + 2, none⟩ = some (.int .i64 0) ∧ w1.cell? ⟨w.heap.size, k * 6 + 3, none⟩ = some (.int .i64 0) ∧ w1.cell? ⟨w.heap.size, k * 6 + 4, none⟩ = some (.int .i64 0) ∧ w1.cell? ⟨w.heap.size, k * 6 + 5, none⟩ = some (.int .i64 0) ∧ w1.frozen? ⟨w.heap.size, k * 6, none⟩ = false ∧ w1.frozen? ⟨w.heap.size, k * 6 + 1, none⟩ = false ∧ w1.frozen? ⟨w.heap.size, k * 6 + 2, none⟩ = false ∧ w1.frozen? ⟨w.heap.size, k * 6 + 3, none⟩ = false ∧ w1.frozen? ⟨w.heap.size, k * 6 + 4, none⟩ = false ∧ w1.frozen? ⟨w.heap.size, k * 6 + 5, none⟩ = false ∧
          ((((((w1.setCell ⟨w.heap.size, k * 6, none⟩ (.int .i64 (xs.getD k en0).1)).setCell ⟨w.heap.size, k * 6 + 1, none⟩ (.int .i64 (xs.getD k en0).2.1)).setCell ⟨w.heap.size, k * 6 + 2, none⟩ (.int .i64 (xs.getD k en0).2.2.1)).setCell ⟨w.heap.size, k * 6 + 3, none⟩ (.int .i64 (xs.getD k en0).2.2.2.1)).setCell ⟨w.heap.size, k * 6 + 4, none⟩ (.int .i64 (xs.getD k en0).2.2.2.2.1)).setCell ⟨w.heap.size, k * 6 + 5, none⟩ (.int .i64 (xs.getD k en0).2.2.2.2.2)).ownsRow w.heap.size 29 6 (.slice (some ⟨w.heap.size, 0, none⟩) n n) n (cop (sixs xs) (.int .i64 0) ((k + 1) * 6)) ∧
          Below w.heap.size w ((((((w1.setCell ⟨w.heap.size, k * 6, none⟩ (.int .i64 (xs.getD k en0).1)).setCell ⟨w.heap.size, k * 6 + 1, none⟩ (.int .i64 (xs.getD k en0).2.1)).setCell ⟨w.heap.size, k * 6 + 2, none⟩ (.int .i64 (xs.getD k en0).2.2.1)).setCell ⟨w.heap.size, k * 6 + 3, none⟩ (.int .i64 (xs.getD k en0).2.2.2.1)).setCell ⟨w.heap.size, k * 6 + 4, none⟩ (.int .i64 (xs.getD k en0).2.2.2.2.1)).setCell ⟨w.heap.size, k * 6 + 5, none⟩ (.int .i64 (xs.getD k en0).2.2.2.2.2)) := by
        intro w1 hb1
        have ho := owns_below hown hb1
        have hl : (sixs xs).length = n * 6 := by rw [sixs_len, hx]
        refine ⟨?_, ?_, ?_, ?_, ?_, ?_, ho.frozenAt _, ho.frozenAt _, ho.frozenAt _, ho.frozenAt _, ho.frozenAt _, ho.frozenAt _, ?_, ?_⟩
        · rw [ho.cellAt _ (by omega), cop_get _ _ _ _ (by omega) (by omega)]
        · rw [ho.cellAt _ (by omega), cop_get _ _ _ _ (by omega) (by omega)]
        · rw [ho.cellAt _ (by omega), cop_get _ _ _ _ (by omega) (by omega)]
        · rw [ho.cellAt _ (by omega), cop_get _ _ _ _ (by omega) (by omega)]
        · rw [ho.cellAt _ (by omega), cop_get _ _ _ _ (by omega) (by omega)]
        · rw [ho.cellAt _ (by omega), cop_get _ _ _ _ (by omega) (by omega)]
        · have r := ((((((ho.stored (k * 6) (.int .i64 (xs.getD k en0).1)).1.stored (k * 6 + 1) (.int .i64 (xs.getD k en0).2.1)).1.stored (k * 6 + 2) (.int .i64 (xs.getD k en0).2.2.1)).1.stored (k * 6 + 3) (.int .i64 (xs.getD k en0).2.2.2.1)).1.stored (k * 6 + 4) (.int .i64 (xs.getD k en0).2.2.2.2.1)).1.stored (k * 6 + 5) (.int .i64 (xs.getD k en0).2.2.2.2.2)).1
          rwa [cop_set _ _ _ (k * 6) (by omega) (sixs_getD0 xs k (by omega)), cop_set _ _ _ (k * 6 + 1) (by omega) (sixs_getD1 xs k (by omega)), cop_set _ _ _ (k * 6 + 2) (by omega) (sixs_getD2 xs k (by omega)), cop_set _ _ _ (k * 6 + 3) (by omega) (sixs_getD3 xs k (by omega)), cop_set _ _ _ (k * 6 + 4) (by omega) (sixs_getD4 xs k (by omega)), cop_set _ _ _ (k * 6 + 5) (by omega) (sixs_getD5 xs k (by omega)), show k * 6 + 5 + 1 = (k + 1) * 6 by omega] at r
        · exact (((((((below_step hb hb.size hb1).setCell (p := ⟨w.heap.size, k * 6, none⟩) (Nat.le_refl _) _).setCell (p := ⟨w.heap.size, k * 6 + 1, none⟩) (Nat.le_refl _) _).setCell (p := ⟨w.heap.size, k * 6 + 2, none⟩) (Nat.le_refl _) _).setCell (p := ⟨w.heap.size, k * 6 + 3, none⟩) (Nat.le_refl _) _).setCell (p := ⟨w.heap.size, k * 6 + 4, none⟩) (Nat.le_refl _) _).setCell (p := ⟨w.heap.size, k * 6 + 5, none⟩) (Nat.le_refl _) _)
      clear hc0 hc1 hc2 hc3 hc4 hc5 hown hb
      generalize (xs.getD k en0).1 = x0 at *
      generalize (xs.getD k en0).2.1 = x1 at *
      generalize (xs.getD k en0).2.2.1 = x2 at *
      generalize (xs.getD k en0).2.2.2.1 = x3 at *
      generalize (xs.getD k en0).2.2.2.2.1 = x4 at *
      generalize (xs.getD k en0).2.2.2.2.2 = x5 at *
      have HR : Hid _ := R
      clear R
      go_wp2_with fail
      refine (toEntry_any _ _ _ _ _ _ _).mono ?_
      rintro e w1 ⟨rfl, hb1⟩
      obtain ⟨a0, a1, a2, a3, a4, a5, z0, z1, z2, z3, z4, z5, a6, a7⟩ := HR.out w1 hb1
      clear HR hb1 hcr0 hcr1 hcr2 hcr3 hcr4 hcr5
      go_wp2
      go_roundw
      case rel => exact ⟨k + 1, by omega, by go_num, a6, a7⟩
      case measure => simp [intOf]; omega
    · go_wp2
      go_ret
      have hkn : k * 6 = (sixs xs).length := by rw [sixs_len]; omega
      rw [hkn, cop_all] at hown
      exact ⟨rfl, RowAt.of_owns hown (Nat.le_refl _), hb⟩

theorem eqOp8_yes (k v a x : Int) (w : World) :
    Calls Try.prog 86 #[.agg #[.int .i64 k, .int .i64 v, .int .i64 a, .int .i64 x], .agg #[.int .i64 k, .int .i64 v, .int .i64 a, .int .i64 x]] w fun e w' => e = .returned (.bool true) ∧ Below w.heap.size w w' := by
  have e1 : (k != k) = false := by simp
  have e2 : (v != v) = false := by simp
  have e3 : (a != a) = false := by simp
  have e4 : (x != x) = false := by simp
  go_enter Try.func86, Try.ntmps86
  go_wp2
  go_ret
  exact ⟨rfl, (((Below.refl _ _).alloc (Nat.le_refl _) _).alloc (by simp) _)⟩
theorem eqEntry_yes (p q k v a x : Int) (w : World) :
    Calls Try.prog 72 #[.agg #[.int .i64 p, .int .i64 q, .int .i64 k, .int .i64 v, .int .i64 a, .int .i64 x], .agg #[.int .i64 p, .int .i64 q, .int .i64 k, .int .i64 v, .int .i64 a, .int .i64 x]] w fun e w' => e = .returned (.bool true) ∧ Below w.heap.size w w' := by
  have e1 : (p != p) = false := by simp
  have e2 : (q != q) = false := by simp
  go_enter Try.func72, Try.ntmps72
  go_wp2_with fail
  refine (eqOp8_yes k v a x _).mono ?_
  rintro e w1 ⟨rfl, hb⟩
  have B : Below w.heap.size w w1 := below_next (((Below.refl _ _).alloc (Nat.le_refl _) _).alloc (by simp) _) hb
  clear hb
  go_wp2
  go_ret
  exact ⟨rfl, B⟩

set_option maxRecDepth 20000 in
set_option maxHeartbeats 1600000 in
theorem eqEntries_yes {o1 o2 : Bool} {l1 u1 l2 u2 : Nat} (a1 a2 : Option Addr) (n c1 m c2 : Nat) (xs : List En) (w : World) (h1 : RowAt w o1 l1 u1 6 a1 n c1 (sixs xs)) (h2 : RowAt w o2 l2 u2 6 a2 m c2 (sixs xs)) (hn : n ≤ 2097152) :
    Calls Try.prog 34 #[.slice a1 n c1, .slice a2 m c2] w fun e w' => e = .returned (.bool true) ∧ Below w.heap.size w w' := by
  obtain rfl : n = m := by rw [← h1.nSixs, ← h2.nSixs]
  have hb0 : ((n : Int) != (n : Int)) = false := by simp
  go_enter Try.func34, Try.ntmps34
  go_wp2
  go_loopw [5] (fun i wr => ∃ k : Nat, k ≤ n ∧ i = .int .i64 k ∧ Below w.heap.size w wr) (fun i _ => n - (intOf i).toNat)
  case atStart => exact ⟨0, Nat.zero_le _, rfl, Below.refl _ _⟩
  case round =>
    obtain ⟨k, hk, rfl, hb⟩ := hrel
    by_cases hlt : k < n
    · obtain ⟨b1, o1, rfl, _, _, hs1, e0, e1, e2, e3, e4, e5, _⟩ := h1.six hlt
      obtain ⟨b2, o2, rfl, _, _, hs2, f0, f1, f2, f3, f4, f5, _⟩ := h2.six hlt
      replace e0 := cell_later hb e0
      replace f0 := cell_later hb f0
      replace e1 := cell_later hb e1
      replace f1 := cell_later hb f1
      replace e2 := cell_later hb e2
      replace f2 := cell_later hb f2
      replace e3 := cell_later hb e3
      replace f3 := cell_later hb f3
      replace e4 := cell_later hb e4
      replace f4 := cell_later hb f4
      replace e5 := cell_later hb e5
      replace f5 := cell_later hb f5
      have hl : (k : Int) < (n : Int) := by omega
      generalize (xs.getD k en0).1 = x0 at *
      generalize (xs.getD k en0).2.1 = x1 at *
      generalize (xs.getD k en0).2.2.1 = x2 at *
      generalize (xs.getD k en0).2.2.2.1 = x3 at *
      generalize (xs.getD k en0).2.2.2.2.1 = x4 at *
      generalize (xs.getD k en0).2.2.2.2.2 = x5 at *
      go_wp2_with fail
      have D : Below wr.heap.size wr wr.drew := (Below.refl _ _).drew
      replace e0 := cell_later D e0
      replace f0 := cell_later D f0
      replace e1 := cell_later D e1
      replace f1 := cell_later D f1
      replace e2 := cell_later D e2
      replace f2 := cell_later D f2
      replace e3 := cell_later D e3
      replace f3 := cell_later D f3
      replace e4 := cell_later D e4
      replace f4 := cell_later D f4
      replace e5 := cell_later D e5
      replace f5 := cell_later D f5
      replace hb := below_step hb hb.size D
      clear D
      go_region_held3 (fun w' => w'.cell? ⟨b1, o1 + k * 6, none⟩ = some (.int .i64 x0) ∧ w'.cell? ⟨b1, o1 + k * 6 + 1, none⟩ = some (.int .i64 x1) ∧ w'.cell? ⟨b1, o1 + k * 6 + 2, none⟩ = some (.int .i64 x2) ∧ w'.cell? ⟨b1, o1 + k * 6 + 3, none⟩ = some (.int .i64 x3) ∧ w'.cell? ⟨b1, o1 + k * 6 + 4, none⟩ = some (.int .i64 x4) ∧ w'.cell? ⟨b1, o1 + k * 6 + 5, none⟩ = some (.int .i64 x5) ∧ w'.cell? ⟨b2, o2 + k * 6, none⟩ = some (.int .i64 x0) ∧ w'.cell? ⟨b2, o2 + k * 6 + 1, none⟩ = some (.int .i64 x1) ∧ w'.cell? ⟨b2, o2 + k * 6 + 2, none⟩ = some (.int .i64 x2) ∧ w'.cell? ⟨b2, o2 + k * 6 + 3, none⟩ = some (.int .i64 x3) ∧ w'.cell? ⟨b2, o2 + k * 6 + 4, none⟩ = some (.int .i64 x4) ∧ w'.cell? ⟨b2, o2 + k * 6 + 5, none⟩ = some (.int .i64 x5)) (exact ⟨e0, e1, e2, e3, e4, e5, f0, f1, f2, f3, f4, f5⟩) (first | (go_at_call 72; refine (eqEntry_yes x0 x1 x2 x3 x4 x5 _).mono ?_; rintro e w1 ⟨rfl, B1⟩; replace e0 := cell_later B1 e0; replace e1 := cell_later B1 e1; replace e2 := cell_later B1 e2; replace e3 := cell_later B1 e3; replace e4 := cell_later B1 e4; replace e5 := cell_later B1 e5; replace f0 := cell_later B1 f0; replace f1 := cell_later B1 f1; replace f2 := cell_later B1 f2; replace f3 := cell_later B1 f3; replace f4 := cell_later B1 f4; replace f5 := cell_later B1 f5; replace hb := below_step hb hb.size B1; clear B1))
      clear e0 e1 e2 e3 e4 e5 f0 f1 f2 f3 f4 f5
      go_wp2
      go_roundw
      case rel => exact ⟨k + 1, by omega, by go_num, hb⟩
      case measure => simp [intOf]; omega
    · go_wp2
      go_ret
      exact ⟨rfl, hb⟩

theorem szEntries_left (ao : Option Addr) (n c : Nat) (lt : Int) (w : World) (hn : n ≤ maxLen) (h0 : 0 ≤ lt) (h1 : lt ≤ 1048576) :
    Calls Try.prog 32 #[.slice ao n c, .int .i64 lt] w fun e w' => e = .returned (.int .i64 (if lt < n then -1 else lt - n)) ∧ w' = w := by
  unfold maxLen at hn
  by_cases h : lt < n
  all_goals
    go_enter Try.func32, Try.ntmps32
    go_wp2
    go_ret
    exact ⟨by simp, rfl⟩

end Go.Proofs.Ytpbhiednmnolgaa

namespace Go.Proofs.Ytpbhiednmnolgaa
open Go.RowKit

section
variable {x : Int} (h0 : 0 ≤ x) (h1 : x ≤ 256)
include h0 h1
end
/-- within what a float tells exactly -/
def Small (p : Int × Int) : Prop := (0 ≤ p.1 ∧ p.1 ≤ 256) ∧ 0 ≤ p.2 ∧ p.2 ≤ 256
end Go.Proofs.Ytpbhiednmnolgaa

namespace Go.Proofs.Ytpbhiednmnolgaa
open Go.RowKit

def Fine (bs : List (Int × Int)) : Prop := ∀ p ∈ bs, Small p ∧ (p.1 = 0 → p.2 = 0)
theorem Fine.at {bs : List (Int × Int)} (h : Fine bs) {k : Nat} (hk : k < bs.length) : Small (bs.getD k (0, 0)) ∧ ((bs.getD k (0, 0)).1 = 0 → (bs.getD k (0, 0)).2 = 0) :=
  h _ (by rw [List.getD_eq_getElem?_getD, List.getElem?_eq_getElem hk]; exact List.getElem_mem hk)

end Go.Proofs.Ytpbhiednmnolgaa

namespace Go.Proofs.Ytpbhiednmnolgaa
open Go.RowKit

def fn (n : Nat) (g : Nat → Int) : List Int := (List.range n).map g
section
variable {o : Bool} {l u : Nat} (an : Option Addr) (nn cn : Nat) (ab : Option Addr) (nb cb : Nat) (K : Nat → KS) (f : Fo) (w : World) (h : FoAt w o l u an nn cn ab nb cb K f)
include h

end

end Go.Proofs.Ytpbhiednmnolgaa

namespace Go.Proofs.Ytpbhiednmnolgaa
open Go.RowKit

abbrev Vo := Int × Int × Int
def vo0 : Vo := (0, 0, 0)
def trips (vs : List Vo) : List Value := flat3 vs.length (fun i => .int .i64 (vs.getD i vo0).1) (fun i => .int .i64 (vs.getD i vo0).2.1) (fun i => .int .i64 (vs.getD i vo0).2.2)
end Go.Proofs.Ytpbhiednmnolgaa

namespace Go.Proofs.Ytpbhiednmnolgaa
open Go.RowKit Go.ChangeShapes Go.WideShapes Go.Deep

theorem addr_add (b off i : Nat) : (⟨b, off, none⟩ : Addr).add i = ⟨b, off + i, none⟩ := by
  simp [Addr.add]

section
variable {H : Type} {enc : TypeId × Value → H} {P : Program} {w : World}

theorem read_ints {t e : TypeId} {fuel : Nat} {v : Value} {x : DataW H × List MemPlace} (ht : P.underlying t = some (.slice e)) (he : P.underlying e = some (.int .i64)) (hc : P.cellsOf e = 1)
    (h : DataW.trod enc P w 0 (fun _ => true) true fuel t [v] = some x) :
    ∃ ao n cap xs, v = .slice ao n cap ∧ n ≤ maxLen ∧ RowAt w false 0 w.heap.size 1 ao n cap (ints xs) := by
  rcases open_ints ht he hc h with ⟨hcs, _⟩ | ⟨a, len, cap, zs, hcs, _, hl, hm, hz, _, hcell, _⟩
  · simp only [List.cons.injEq, and_true] at hcs
    exact ⟨none, 0, 0, [], hcs, Nat.zero_le _, rfl, Nat.le_refl _, fun h => absurd rfl h⟩
  · simp only [List.cons.injEq, and_true] at hcs
    simp only [if_true] at hz
    refine ⟨some a, len, cap, zs.take len, hcs, Nat.le_trans hl hm, ?_, hl, fun hn => ?_⟩
    · rw [ints_length]; simp; omega
    · have h0 := hcell 0 (by omega)
      obtain ⟨b, off, spot⟩ := a
      have hspot : spot = none := by simpa [Addr.add] using World.cell?_spot h0
      subst hspot
      refine ⟨b, off, rfl, Nat.zero_le _, ?_, ?_, fun i hi => ?_, fun h => by cases h⟩
      · exact World.block_lt_of_cell? w _ h0
      · exact World.block_lt_of_cell? w _ h0
      · rw [← addr_add, hcell i (by omega), ints_getD _ _ (by simp; omega)]
        simp [List.getD, show i < len by omega]

end
end Go.Proofs.Ytpbhiednmnolgaa

namespace Go.Proofs.Ytpbhiednmnolgaa
theorem Try.cellsInt : Try.prog.cellsOf 2 = 1 := by kernel_rfl
end Go.Proofs.Ytpbhiednmnolgaa

namespace Go.Proofs.Ytpbhiednmnolgaa
open Go.RowKit Go.ChangeShapes Go.WideShapes Go.Deep

section
variable {H : Type} {enc : TypeId × Value → H} {P : Program} {w : World}
theorem read_entries {t e : TypeId} {fuel : Nat} {v : Value} {x : DataW H × List MemPlace} (ht : P.underlying t = some (.slice e)) (he : EnTy P e) (h : DataW.trod enc P w 0 (fun _ => true) true fuel t [v] = some x) :
    ∃ ao n cap vs, v = .slice ao n cap ∧ n ≤ maxLen ∧ RowAt w false 0 w.heap.size 6 ao n cap (sixs vs) := by
  rcases open_slice ht h with ⟨hcs, _⟩ | ⟨a, len, cap, m, n, D, Pl, hcs, hb, hl, hm, hz, _, hx⟩
  · simp only [List.cons.injEq, and_true] at hcs
    exact ⟨none, 0, 0, [], hcs, Nat.zero_le _, RowAt.nil _ _ _ _ _⟩
  · simp only [List.cons.injEq, and_true] at hcs
    simp only [if_true] at hz
    subst hz
    have each : ∀ i, i < m → ∃ q : En, ∀ j, j < 6 → w.cell? (a.add (i * 6 + j)) = some (.int .i64 (enF q j)) := fun i hi => by
      obtain ⟨cs, h1, h2⟩ := hx i hi
      rw [he.cells] at h1
      obtain ⟨_, hlen, hcell⟩ := World.cells?_some h1
      obtain ⟨q, hq⟩ := six_of he hlen h2
      refine ⟨q, fun j hj => ?_⟩
      have e0 := hcell j (by omega)
      rw [add_add, hq] at e0
      rw [e0]
      match j, hj with
      | 0, _ => rfl
      | 1, _ => rfl
      | 2, _ => rfl
      | 3, _ => rfl
      | 4, _ => rfl
      | 5, _ => rfl
    obtain ⟨q, hq⟩ := choose_lt each
    have hlen : ((List.range len).map q).length = len := by simp
    have hget : ∀ i, i < len → ((List.range len).map q).getD i en0 = q i := fun i hi => by simp [List.getD, hi]
    refine ⟨some a, len, m, (List.range len).map q, hcs, Nat.le_trans hl hm, ?_, hl, fun hn => ?_⟩
    · rw [sixs_len, hlen]
    · have h0 := hq 0 (by omega) 0 (by omega)
      obtain ⟨b, off, spot⟩ := a
      have hspot : spot = none := by simpa [Addr.add] using World.cell?_spot h0
      subst hspot
      refine ⟨b, off, rfl, Nat.zero_le _, World.block_lt_of_cell? w _ h0, World.block_lt_of_cell? w _ h0, fun i hi => ?_, fun h => by cases h⟩
      have p0 := hq (i / 6) (by omega) (i % 6) (by omega)
      have t0 := sixs_get ((List.range len).map q) (i / 6) (i % 6) (by omega) (by omega)
      rw [show i / 6 * 6 + i % 6 = i by omega] at t0 p0
      rw [← addr_add, t0, p0, hget _ (by omega)]
end

end Go.Proofs.Ytpbhiednmnolgaa

namespace Go.Proofs.Ytpbhiednmnolgaa
theorem Try.cellsEntries : Try.prog.cellsOf 57 = 1 := by kernel_rfl
end Go.Proofs.Ytpbhiednmnolgaa

