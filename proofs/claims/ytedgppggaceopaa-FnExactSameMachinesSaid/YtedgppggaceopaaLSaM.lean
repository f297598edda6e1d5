/- At any two machines the program's SameMachines answers as its model does and writes into no argument: the law FnExactSameMachines is true at every argument, with no condition. -/
import Derived.Test.YtedgppggaceopaaBase
import Derived.Test.YtedgppggaceopaaZT
import Derived.Test.YtedgppggaceopaaCopy
import Derived.Test.YtedgppggaceopaaMark
import Derived.Test.YtedgppggaceopaaEq
import Derived.Test.YtedgppggaceopaaMark2
import Derived.Test.YtedgppggaceopaaBC
import Derived.Test.YtedgppggaceopaaSm
import Derived.Test.YtedgppggaceopaaPutS
import Derived.Test.YtedgppggaceopaaFacts
import Derived.Test.YtedgppggaceopaaZM
import Derived.Test.YtedgppggaceopaaYE
import Derived.Test.YtedgppggaceopaaP1
import Derived.Test.YtedgppggaceopaaZU
import Derived.Test.YtedgppggaceopaaZW
import Derived.Test.YtedgppggaceopaaZX
import Derived.Test.YtedgppggaceopaaZZ
import Derived.Test.YtedgppggaceopaaZQ
import Derived.Test.YtedgppggaceopaaZV
import Derived.Test.YtedgppggaceopaaYP
import Derived.Test.YtedgppggaceopaaO1b
import Derived.Test.YtedgppggaceopaaXA
import Derived.Test.YtedgppggaceopaaZR
import Derived.Test.YtedgppggaceopaaBools
import Derived.Test.YtedgppggaceopaaWA
import Derived.Test.YtedgppggaceopaaMS0
import Derived.Test.YtedgppggaceopaaMS1
import Derived.Test.YtedgppggaceopaaPV2
import Derived.Test.YtedgppggaceopaaMS2
import Derived.Test.YtedgppggaceopaaFS0
import Derived.Test.YtedgppggaceopaaMS3
import Derived.Test.YtedgppggaceopaaMS4
import Derived.Test.YtedgppggaceopaaMS5
import Derived.Test.YtedgppggaceopaaOpenP
import Derived.Test.YtedgppggaceopaaRowP
import Derived.Test.YtedgppggaceopaaOpenM
import Derived.Test.YtedgppggaceopaaRowM
import Derived.Test.YtedgppggaceopaaLMcF
import Derived.WalkKit
import Derived.WalkSpells
import Derived.Deep.Draws
import Derived.Deep.MidRow
import Derived.Test.YtedgppggaceopaaChecked
import Derived.WalkLawsBesides
import Derived.Deep.QuietTactic
import Derived.BigQuiet
import Derived.Deep.RegionHeld3
import Derived.Deep.WholeRow
import Derived.Deep.AppendSrc
import Derived.Maps.AppendAt
import Derived.ProofKit
import Derived.OpenShut
import Derived.Lib.SmallJoins
import Derived.Deep.SlicePairs
import Derived.Test.YtedgppggaceopaaRows
import Derived.Deep.AppendLies
import Derived.Lib.AppendZeros
import Derived.Deep.RegionLaw
import Derived.Laws.ComplexArith
import Derived.Laws.StructEq
/- What the two DiskFault answer: the same number, a plain function of the words and the cache. -/
namespace Go.Proofs.Ytedgppggaceopaa
open Go.RowKit

end Go.Proofs.Ytedgppggaceopaa

/- What the program's inner functions over its array of words answer. -/
namespace Go.Proofs.Ytedgppggaceopaa
open Go.RowKit

end Go.Proofs.Ytedgppggaceopaa

/- What the program's FlushDisk answers. -/
namespace Go.Proofs.Ytedgppggaceopaa
open Go.RowKit

end Go.Proofs.Ytedgppggaceopaa

/- What the model's inner functions of chapter 1 answer. -/
namespace Go.Proofs.Ytedgppggaceopaa
open Go.RowKit

end Go.Proofs.Ytedgppggaceopaa

/- What the model's FlushDisk answers: the same as the program's. -/
namespace Go.Proofs.Ytedgppggaceopaa
open Go.RowKit

end Go.Proofs.Ytedgppggaceopaa

/- What the program's and the model's AllWords answer, and the laws' helpers on an answer of a code and a list. -/
namespace Go.Proofs.Ytedgppggaceopaa
open Go.RowKit

end Go.Proofs.Ytedgppggaceopaa

namespace Go.Proofs.Ytedgppggaceopaa
open Go.RowKit

section
variable {P : Program} {tab : List (List Nat)} (h : P.funcs.toList.map P.leadsTo = tab)
include h
end
section
variable {P : Program} {tab : List (List Nat)} (h : P.funcs.toList.map P.leadsTo = tab)
include h
theorem recurses_unf {f : Nat} (hu : P.unfollowed f = true) : P.recurses f = true := by
  have _ := h
  unfold Program.recurses
  rw [hu, Bool.true_or]
end
section
variable {P : Program} {c : List Char} {X : List (List Char)} (h : behindMainWord (wordsSigns P.initOrder.toList) = c :: X) (hg : (c == "gc".toList) = false) (hs : (c == "spec".toList) = false) (hc : (c == "cut".toList) = true) (hr : (c == "carried".toList) = false) (hl : stripLifts liftWords (c :: X) = ([], c :: X))
include h hg hs hc hr hl
end

end Go.Proofs.Ytedgppggaceopaa

/- Chapter 4: what is so when the model's SetTree gives nodes back. -/
namespace Go.Proofs.Ytedgppggaceopaa
open Go.RowKit

end Go.Proofs.Ytedgppggaceopaa

/- Chapter 3: blocks: what the model's functions answer. -/
namespace Go.Proofs.Ytedgppggaceopaa
open Go.RowKit

end Go.Proofs.Ytedgppggaceopaa

/- Chapter 3: new blocks: what the model answers. -/
namespace Go.Proofs.Ytedgppggaceopaa
open Go.RowKit

end Go.Proofs.Ytedgppggaceopaa

/- Chapter 3: blocks taken, shared and dropped: what the model answers. -/
namespace Go.Proofs.Ytedgppggaceopaa
open Go.RowKit

end Go.Proofs.Ytedgppggaceopaa

/- Chapter 3: the model's answers by what they are told to be; how long they are. -/
namespace Go.Proofs.Ytedgppggaceopaa
open Go.RowKit

section
variable {o : Bool} {l u : Nat} (ao : Option Addr) (n cap : Nat) (bs : List (Int × Int)) (w : World) (h : RowAt w o l u 2 ao n cap (pairs bs)) (hn : n ≤ 2097152)
include h hn
end
end Go.Proofs.Ytedgppggaceopaa

/- Chapter 4: what the functions answer is right, and not great. -/
namespace Go.Proofs.Ytedgppggaceopaa
open Go.RowKit

end Go.Proofs.Ytedgppggaceopaa

/- What the program's CrashDisk answers. -/
namespace Go.Proofs.Ytedgppggaceopaa
open Go.RowKit

end Go.Proofs.Ytedgppggaceopaa

/- Facts of disks behind a crash; the laws' own lwBig and lwNums. -/
namespace Go.Proofs.Ytedgppggaceopaa
open Go.RowKit

end Go.Proofs.Ytedgppggaceopaa

/- Chapter 5: rows, nodes and forests compared. -/
namespace Go.Proofs.Ytedgppggaceopaa
open Go.RowKit

theorem list_eq_of {α : Type} (d : α) {xs ys : List α} {n : Nat} (hx : xs.length = n) (hy : ys.length = n) (h : ∀ j, j < n → xs.getD j d = ys.getD j d) : xs = ys := by
  apply List.ext_getElem (by omega)
  intro j h1 h2
  have := h j (by omega)
  simpa [List.getD, h1, h2] using this

set_option maxRecDepth 20000 in
set_option maxHeartbeats 1000000 in
theorem numsEq_i {o1 o2 : Bool} {l1 u1 l2 u2 : Nat} (a1 : Option Addr) (n1 c1 : Nat) (a2 : Option Addr) (n2 c2 : Nat) (xs ys : List Int) (w : World) (h1 : RowAt w o1 l1 u1 1 a1 n1 c1 (ints xs)) (h2 : RowAt w o2 l2 u2 1 a2 n2 c2 (ints ys)) (hn : n1 ≤ 2097152) (hm : n2 ≤ 2097152) (d : Bool) (hd : decide (xs = ys) = d) :
    Calls Try.prog 122 #[.slice a1 n1 c1, .slice a2 n2 c2] w fun e w' => e = .returned (.bool d) ∧ Below w.heap.size w w' := by
  have hx := h1.nInts
  have hy := h2.nInts
  subst hd
  by_cases hne : n1 = n2
  · subst hne
    have hb0 : ((n1 : Int) != (n1 : Int)) = false := by simp
    go_enter Try.func122, Try.ntmps122
    go_wp2
    go_loopw [13] (fun i wr => ∃ k : Nat, k ≤ n1 ∧ i = .int .i64 k ∧ (∀ j, j < k → xs.getD j 0 = ys.getD j 0) ∧ Below w.heap.size w wr) (fun i _ => n1 - (intOf i).toNat)
    case atStart => exact ⟨0, Nat.zero_le _, rfl, fun j hj => absurd hj (Nat.not_lt_zero _), Below.refl _ _⟩
    case round =>
      obtain ⟨k, hk, rfl, hall, B⟩ := hrel
      have HA : Hid _ := hall
      clear hall
      by_cases hlt : k < n1
      · have hl : (k : Int) < (n1 : Int) := by omega
        have HN : Hid (xs.getD k 0 = ys.getD k 0 → ∀ j, j < k + 1 → xs.getD j 0 = ys.getD j 0) := fun h0 j hj => by
          by_cases e : j = k
          · rw [e]; exact h0
          · exact HA.out j (by omega)
        have HB : Hid (xs.getD k 0 ≠ ys.getD k 0 → decide (xs = ys) = false) := fun h0 => decide_eq_false fun e => h0 (by rw [e])
        obtain ⟨b1, o1, rfl, _, _, hs1, e1, _⟩ := h1.int hlt
        obtain ⟨b2, o2, rfl, _, _, hs2, e2, _⟩ := h2.int hlt
        replace e1 := (B.cell (p := ⟨b1, o1 + k, none⟩) hs1).trans e1
        replace e2 := (B.cell (p := ⟨b2, o2 + k, none⟩) hs2).trans e2
        obtain ⟨x, hx1⟩ : ∃ x, xs.getD k 0 = x := ⟨_, rfl⟩
        obtain ⟨y, hy1⟩ : ∃ y, ys.getD k 0 = y := ⟨_, rfl⟩
        rw [hx1] at e1 HN HB
        rw [hy1] at e2 HN HB
        clear hx1 hy1
        by_cases hxy : x = y
        · have hd0 : (x != y) = false := by simp [hxy]
          have HN2 : Hid _ := HN.out hxy
          clear HN HB hxy
          go_wp2_with fail
          go_quiet (fail)
          go_wp2
          go_roundw
          case rel => exact ⟨k + 1, by omega, by go_num, HN2.out, below_drewN B _⟩
          case measure => simp [intOf]; omega
        · have hd0 : (x != y) = true := by simp [hxy]
          have HF : Hid _ := HB.out hxy
          clear HN HB
          go_wp2_with fail
          go_quiet (fail)
          go_wp2
          go_ret
          exact ⟨by rw [HF.out]; rfl, below_drewN B _⟩
      · obtain rfl : k = n1 := by omega
        have HF : Hid (decide (xs = ys) = true) := decide_eq_true (list_eq_of 0 hx hy HA.out)
        go_wp2
        go_ret
        exact ⟨by rw [HF.out]; rfl, B⟩
  · have hb0 : ((n1 : Int) != (n2 : Int)) = true := by simp; omega
    have HF : Hid (decide (xs = ys) = false) := decide_eq_false fun e => hne (by rw [← hx, ← hy, e])
    go_enter Try.func122, Try.ntmps122
    go_wp2
    go_ret
    exact ⟨by rw [HF.out]; rfl, Below.refl _ _⟩

set_option maxRecDepth 20000 in
set_option maxHeartbeats 1000000 in
theorem blocksEq_i {o1 o2 : Bool} {l1 u1 l2 u2 : Nat} (a1 : Option Addr) (n1 c1 : Nat) (a2 : Option Addr) (n2 c2 : Nat) (xs ys : List (Int × Int)) (w : World) (h1 : RowAt w o1 l1 u1 2 a1 n1 c1 (pairs xs)) (h2 : RowAt w o2 l2 u2 2 a2 n2 c2 (pairs ys)) (hn : n1 ≤ 2097152) (hm : n2 ≤ 2097152) (d : Bool) (hd : decide (xs = ys) = d) :
    Calls Try.prog 101 #[.slice a1 n1 c1, .slice a2 n2 c2] w fun e w' => e = .returned (.bool d) ∧ Below w.heap.size w w' := by
  have hx := h1.nPairs
  have hy := h2.nPairs
  subst hd
  by_cases hne : n1 = n2
  · subst hne
    have hb0 : ((n1 : Int) != (n1 : Int)) = false := by simp
    go_enter Try.func101, Try.ntmps101
    go_wp2
    go_loopw [13] (fun i wr => ∃ k : Nat, k ≤ n1 ∧ i = .int .i64 k ∧ (∀ j, j < k → xs.getD j (0, 0) = ys.getD j (0, 0)) ∧ Below w.heap.size w wr) (fun i _ => n1 - (intOf i).toNat)
    case atStart => exact ⟨0, Nat.zero_le _, rfl, fun j hj => absurd hj (Nat.not_lt_zero _), Below.refl _ _⟩
    case round =>
      obtain ⟨k, hk, rfl, hall, B⟩ := hrel
      have HA : Hid _ := hall
      clear hall
      by_cases hlt : k < n1
      · have hl : (k : Int) < (n1 : Int) := by omega
        have HN : Hid (xs.getD k (0, 0) = ys.getD k (0, 0) → ∀ j, j < k + 1 → xs.getD j (0, 0) = ys.getD j (0, 0)) := fun h0 j hj => by
          by_cases e : j = k
          · rw [e]; exact h0
          · exact HA.out j (by omega)
        have HB : Hid (xs.getD k (0, 0) ≠ ys.getD k (0, 0) → decide (xs = ys) = false) := fun h0 => decide_eq_false fun e => h0 (by rw [e])
        obtain ⟨b1, o1, rfl, _, _, hs1, e1, e1', _⟩ := h1.pair hlt
        obtain ⟨b2, o2, rfl, _, _, hs2, e2, e2', _⟩ := h2.pair hlt
        replace e1 := (B.cell (p := ⟨b1, o1 + k * 2, none⟩) hs1).trans e1
        replace e1' := (B.cell (p := ⟨b1, o1 + k * 2 + 1, none⟩) hs1).trans e1'
        replace e2 := (B.cell (p := ⟨b2, o2 + k * 2, none⟩) hs2).trans e2
        replace e2' := (B.cell (p := ⟨b2, o2 + k * 2 + 1, none⟩) hs2).trans e2'
        obtain ⟨⟨x, x'⟩, hx1⟩ : ∃ x, xs.getD k (0, 0) = x := ⟨_, rfl⟩
        obtain ⟨⟨y, y'⟩, hy1⟩ : ∃ y, ys.getD k (0, 0) = y := ⟨_, rfl⟩
        rw [hx1] at e1 e1' HN HB
        rw [hy1] at e2 e2' HN HB
        simp only at e1 e1' e2 e2'
        clear hx1 hy1
        by_cases hxy : ((x, x') : Int × Int) = (y, y')
        · cases hxy
          have hxy : ((x, x') : Int × Int) = (x, x') := rfl
          have hd0 : (x == x) = true := by simp
          have hd1 : (x' == x') = true := by simp
          have HN2 : Hid _ := HN.out hxy
          clear HN HB hxy
          go_wp2_with fail
          go_quiet (fail)
          go_wp2
          go_roundw
          case rel => exact ⟨k + 1, by omega, by go_num, HN2.out, below_drewN B _⟩
          case measure => simp [intOf]; omega
        · by_cases hx2 : x = y
          · subst hx2
            have hd0 : (x == x) = true := by simp
            have hd1 : (x' == y') = false := by simp; exact fun e => hxy (by rw [e])
            have HF : Hid _ := HB.out hxy
            clear HN HB
            go_wp2_with fail
            go_quiet (fail)
            go_wp2
            go_ret
            exact ⟨by rw [HF.out]; rfl, below_drewN B _⟩
          · have hd0 : (x == y) = false := by simp [hx2]
            have HF : Hid _ := HB.out hxy
            clear HN HB
            go_wp2_with fail
            go_quiet (fail)
            go_wp2
            go_ret
            exact ⟨by rw [HF.out]; rfl, below_drewN B _⟩
      · obtain rfl : k = n1 := by omega
        have HF : Hid (decide (xs = ys) = true) := decide_eq_true (list_eq_of (0, 0) hx hy HA.out)
        go_wp2
        go_ret
        exact ⟨by rw [HF.out]; rfl, B⟩
  · have hb0 : ((n1 : Int) != (n2 : Int)) = true := by simp; omega
    have HF : Hid (decide (xs = ys) = false) := decide_eq_false fun e => hne (by rw [← hx, ← hy, e])
    go_enter Try.func101, Try.ntmps101
    go_wp2
    go_ret
    exact ⟨by rw [HF.out]; rfl, Below.refl _ _⟩

end Go.Proofs.Ytedgppggaceopaa

/- Chapter 5: nodes, forests and pools compared by the program. -/
namespace Go.Proofs.Ytedgppggaceopaa
open Go.RowKit

set_option maxRecDepth 20000 in
set_option maxHeartbeats 1000000 in
theorem sameNodes_is {o1 o2 : Bool} {l1 u1 l2 u2 : Nat} (r : Int) (lf : Bool) (ka : Option Addr) (kn kc : Nat) (ks : List Int) (r' : Int) (lf' : Bool) (qa : Option Addr) (qn qc : Nat) (qs : List Int) (w : World) (h1 : RowAt w o1 l1 u1 1 ka kn kc (ints ks)) (h2 : RowAt w o2 l2 u2 1 qa qn qc (ints qs)) (hn : kn ≤ 2097152) (hm : qn ≤ 2097152) (d : Bool) (hd : decide (((r, lf, ks) : Nd) = (r', lf', qs)) = d) :
    Calls Try.prog 100 #[.agg #[.int .i64 r, .bool lf, .slice ka kn kc], .agg #[.int .i64 r', .bool lf', .slice qa qn qc]] w fun e w' => e = .returned (.bool d) ∧ Below w.heap.size w w' := by
  have A : Below w.heap.size w ((w.alloc (.cells #[.int .i64 r, .bool lf, .slice ka kn kc] 109)).alloc (.cells #[.int .i64 r', .bool lf', .slice qa qn qc] 109)) := ((Below.refl _ _).alloc (Nat.le_refl _) _).alloc (by simp) _
  subst hd
  by_cases hr : r = r'
  · subst hr
    have hd0 : (r == r) = true := by simp
    by_cases hlf : lf = lf'
    · subst hlf
      have hd1 : (lf == lf) = true := by simp
      have HE : Hid (decide (((r, lf, ks) : Nd) = (r, lf, qs)) = decide (ks = qs)) := by show _ = _; simp
      obtain ⟨dd, hdd⟩ : ∃ dd, decide (ks = qs) = dd := ⟨_, rfl⟩
      rw [HE.out, hdd]
      have HD : Hid _ := hdd
      clear HE hdd
      go_enter Try.func100, Try.ntmps100
      go_wp2_with fail
      refine (numsEq_i ka kn kc qa qn qc ks qs _ (h1.below A) (h2.below A) hn hm dd HD.out).mono ?_
      rintro e w1 ⟨rfl, B1⟩
      replace B1 := below_next A B1
      clear A
      go_wp2
      go_ret
      exact ⟨rfl, B1⟩
    · have hd1 : (lf == lf') = false := by simp [hlf]
      have HE : Hid (decide (((r, lf, ks) : Nd) = (r, lf', qs)) = false) := decide_eq_false fun e => hlf (by injection e with _ e; injection e)
      go_enter Try.func100, Try.ntmps100
      go_wp2
      go_ret
      exact ⟨by rw [HE.out]; rfl, A⟩
  · have hd0 : (r == r') = false := by simp [hr]
    have HE : Hid (decide (((r, lf, ks) : Nd) = (r', lf', qs)) = false) := decide_eq_false fun e => hr (by injection e)
    go_enter Try.func100, Try.ntmps100
    go_wp2
    go_ret
    exact ⟨by rw [HE.out]; rfl, A⟩

set_option maxRecDepth 20000 in
set_option maxHeartbeats 1000000 in
theorem nodesEq_i {o1 o2 : Bool} {l1 u1 l2 u2 : Nat} (a1 : Option Addr) (n1 c1 : Nat) (a2 : Option Addr) (n2 c2 : Nat) (K1 K2 : Nat → KS) (xs ys : List Nd) (w : World) (h1 : NodesAt w o1 l1 u1 a1 n1 c1 K1 xs) (h2 : NodesAt w o2 l2 u2 a2 n2 c2 K2 ys) (hn : n1 ≤ 2097152) (hm : n2 ≤ 2097152) (hk1 : ∀ i, i < n1 → (K1 i).2.1 ≤ 2097152) (hk2 : ∀ i, i < n2 → (K2 i).2.1 ≤ 2097152) (d : Bool) (hd : decide (xs = ys) = d) :
    Calls Try.prog 99 #[.slice a1 n1 c1, .slice a2 n2 c2, .func (.func 100) #[] #[]] w fun e w' => e = .returned (.bool d) ∧ Below w.heap.size w w' := by
  have hx := h1.len
  have hy := h2.len
  subst hd
  by_cases hne : n1 = n2
  · subst hne
    have hb0 : ((n1 : Int) != (n1 : Int)) = false := by simp
    have HK1 : Hid _ := hk1
    have HK2 : Hid _ := hk2
    clear hk1 hk2
    go_enter Try.func99, Try.ntmps99
    go_wp2
    go_loopw [17] (fun i wr => ∃ k : Nat, k ≤ n1 ∧ i = .int .i64 k ∧ (∀ j, j < k → xs.getD j nd0 = ys.getD j nd0) ∧ Below w.heap.size w wr) (fun i _ => n1 - (intOf i).toNat)
    case atStart => exact ⟨0, Nat.zero_le _, rfl, fun j hj => absurd hj (Nat.not_lt_zero _), Below.refl _ _⟩
    case round =>
      obtain ⟨k, hk, rfl, hall, B⟩ := hrel
      have HA : Hid _ := hall
      clear hall
      by_cases hlt : k < n1
      · have hl : (k : Int) < (n1 : Int) := by omega
        have HN : Hid (xs.getD k nd0 = ys.getD k nd0 → ∀ j, j < k + 1 → xs.getD j nd0 = ys.getD j nd0) := fun h0 j hj => by
          by_cases e : j = k
          · rw [e]; exact h0
          · exact HA.out j (by omega)
        have HB : Hid (xs.getD k nd0 ≠ ys.getD k nd0 → decide (xs = ys) = false) := fun h0 => decide_eq_false fun e => h0 (by rw [e])
        have r1 := (h1.below B).kids k hlt
        have r2 := (h2.below B).kids k hlt
        have q1 := HK1.out k hlt
        have q2 := HK2.out k hlt
        obtain ⟨b1, o1, rfl, _, _, hs1, e1, e1', e1'', _⟩ := (h1.below B).node hlt
        obtain ⟨b2, o2, rfl, _, _, hs2, e2, e2', e2'', _⟩ := (h2.below B).node hlt
        obtain ⟨⟨r, lf, ks⟩, hx1⟩ : ∃ x, xs.getD k nd0 = x := ⟨_, rfl⟩
        obtain ⟨⟨r', lf', qs⟩, hy1⟩ : ∃ y, ys.getD k nd0 = y := ⟨_, rfl⟩
        obtain ⟨⟨ka, kn, kc⟩, hw1⟩ : ∃ x, K1 k = x := ⟨_, rfl⟩
        obtain ⟨⟨qa, qn, qc⟩, hw2⟩ : ∃ x, K2 k = x := ⟨_, rfl⟩
        rw [hx1] at e1 e1' HN HB r1
        rw [hy1] at e2 e2' HN HB r2
        rw [hw1] at e1'' r1 q1
        rw [hw2] at e2'' r2 q2
        simp only at e1 e1' e1'' e2 e2' e2'' r1 r2 q1 q2
        clear hx1 hy1 hw1 hw2
        obtain ⟨dd, hdd⟩ : ∃ dd, decide (((r, lf, ks) : Nd) = (r', lf', qs)) = dd := ⟨_, rfl⟩
        have A : Below wr.heap.size wr ((wr.alloc (.cells #[.int .i64 r, .bool lf, .slice ka kn kc] 109)).alloc (.cells #[.int .i64 r', .bool lf', .slice qa qn qc] 109)) := ((Below.refl _ _).alloc (Nat.le_refl _) _).alloc (by simp) _
        have A1 : Below wr.heap.size wr (wr.alloc (.cells #[.int .i64 r, .bool lf, .slice ka kn kc] 109)) := (Below.refl _ _).alloc (Nat.le_refl _) _
        have f2 := cell_later A1 e2
        have f2' := cell_later A1 e2'
        have f2'' := cell_later A1 e2''
        clear A1
        go_wp2_with fail
        refine (sameNodes_is r lf ka kn kc ks r' lf' qa qn qc qs _ (r1.below A) (r2.below A) q1 q2 dd hdd).mono ?_
        rintro e w1 ⟨rfl, B1⟩
        replace B := below_step (below_step B B.size A) (below_step B B.size A).size B1
        clear B1 A e1 e1' e1'' e2 e2' e2'' f2 f2' f2'' r1 r2
        cases dd with
        | true =>
          have HN2 : Hid _ := HN.out (of_decide_eq_true hdd)
          clear HN HB hdd
          go_wp2
          go_roundw
          case rel => exact ⟨k + 1, by omega, by go_num, HN2.out, B⟩
          case measure => simp [intOf]; omega
        | false =>
          have HF : Hid _ := HB.out (of_decide_eq_false hdd)
          clear HN HB hdd
          go_wp2
          go_ret
          exact ⟨by rw [HF.out]; rfl, B⟩
      · obtain rfl : k = n1 := by omega
        have HF : Hid (decide (xs = ys) = true) := decide_eq_true (list_eq_of nd0 hx hy HA.out)
        go_wp2
        go_ret
        exact ⟨by rw [HF.out]; rfl, B⟩
  · have hb0 : ((n1 : Int) != (n2 : Int)) = true := by simp; omega
    have HF : Hid (decide (xs = ys) = false) := decide_eq_false fun e => hne (by rw [← hx, ← hy, e])
    go_enter Try.func99, Try.ntmps99
    go_wp2
    go_ret
    exact ⟨by rw [HF.out]; rfl, Below.refl _ _⟩

set_option maxRecDepth 20000 in
set_option maxHeartbeats 1000000 in
theorem sameForests_is {o1 o2 : Bool} {l1 u1 l2 u2 : Nat} (an1 : Option Addr) (n1 cn1 : Nat) (ab1 : Option Addr) (m1 cb1 : Nat) (an2 : Option Addr) (n2 cn2 : Nat) (ab2 : Option Addr) (m2 cb2 : Nat) (K1 K2 : Nat → KS) (f g : Fo) (w : World) (h1 : FoAt w o1 l1 u1 an1 n1 cn1 ab1 m1 cb1 K1 f) (h2 : FoAt w o2 l2 u2 an2 n2 cn2 ab2 m2 cb2 K2 g) (hn : n1 ≤ 2097152) (hm : m1 ≤ 2097152) (hk1 : ∀ i, i < n1 → (K1 i).2.1 ≤ 2097152) (hn2 : n2 ≤ 2097152) (hm2 : m2 ≤ 2097152) (hk2 : ∀ i, i < n2 → (K2 i).2.1 ≤ 2097152) (d : Bool) (hd : decide (f = g) = d) :
    Calls Try.prog 70 #[.agg #[.slice an1 n1 cn1, .slice ab1 m1 cb1], .agg #[.slice an2 n2 cn2, .slice ab2 m2 cb2]] w fun e w' => e = .returned (.bool d) ∧ Below w.heap.size w w' := by
  have A : Below w.heap.size w ((w.alloc (.cells #[.slice an1 n1 cn1, .slice ab1 m1 cb1] 37)).alloc (.cells #[.slice an2 n2 cn2, .slice ab2 m2 cb2] 37)) := ((Below.refl _ _).alloc (Nat.le_refl _) _).alloc (by simp) _
  have z1 : ((w.alloc (.cells #[.slice an1 n1 cn1, .slice ab1 m1 cb1] 37)).alloc (.cells #[.slice an2 n2 cn2, .slice ab2 m2 cb2] 37)).cell? ⟨w.heap.size, 1, none⟩ = some (.slice ab1 m1 cb1) := by simp
  have z2 : ((w.alloc (.cells #[.slice an1 n1 cn1, .slice ab1 m1 cb1] 37)).alloc (.cells #[.slice an2 n2 cn2, .slice ab2 m2 cb2] 37)).cell? ⟨w.heap.size + 1, 1, none⟩ = some (.slice ab2 m2 cb2) := by simp
  subst hd
  obtain ⟨ns, bs⟩ := f
  obtain ⟨ms, cs⟩ := g
  have HE : Hid (decide (((ns, bs) : Fo) = (ms, cs)) = (decide (ns = ms) && decide (bs = cs))) := by show _ = _; rw [← Bool.decide_and]; simp
  obtain ⟨dd, hdd⟩ : ∃ dd, decide (ns = ms) = dd := ⟨_, rfl⟩
  obtain ⟨de, hde⟩ : ∃ de, decide (bs = cs) = de := ⟨_, rfl⟩
  rw [HE.out, hdd, hde]
  have HD : Hid _ := hdd
  have H2 : Hid _ := hde
  clear HE hdd hde
  go_enter Try.func70, Try.ntmps70
  go_wp2_with fail
  refine (nodesEq_i an1 n1 cn1 an2 n2 cn2 K1 K2 ns ms _ (h1.nodes.below A) (h2.nodes.below A) hn hn2 hk1 hk2 dd HD.out).mono ?_
  rintro e w1 ⟨rfl, B1⟩
  replace z1 := cell_later B1 z1
  replace z2 := cell_later B1 z2
  replace A := below_next A B1
  clear B1
  cases dd with
  | false =>
    go_wp2
    go_ret
    exact ⟨rfl, A⟩
  | true =>
    go_wp2_with fail
    refine (blocksEq_i ab1 m1 cb1 ab2 m2 cb2 bs cs _ (h1.blocks.below A) (h2.blocks.below A) hm hm2 de H2.out).mono ?_
    rintro e w2 ⟨rfl, B1⟩
    replace A := below_next A B1
    clear B1 z1 z2
    go_wp2
    go_ret
    exact ⟨by simp, A⟩

set_option maxRecDepth 20000 in
set_option maxHeartbeats 2000000 in
theorem implSame_is {o1 o2 : Bool} {l1 u1 l2 u2 : Nat} (an1 : Option Addr) (n1 cn1 : Nat) (ab1 : Option Addr) (m1 cb1 : Nat) (an2 : Option Addr) (n2 cn2 : Nat) (ab2 : Option Addr) (m2 cb2 : Nat) (av1 : Option Addr) (k1 cv1 : Nat) (av2 : Option Addr) (k2 cv2 : Nat) (K1 K2 : Nat → KS) (f g : Fo) (vs us : List Vo) (w : World) (h1 : FoAt w o1 l1 u1 an1 n1 cn1 ab1 m1 cb1 K1 f) (h2 : FoAt w o2 l2 u2 an2 n2 cn2 ab2 m2 cb2 K2 g) {o3 o4 : Bool} {l3 u3 l4 u4 : Nat} (v1 : RowAt w o3 l3 u3 3 av1 k1 cv1 (trips vs)) (v2 : RowAt w o4 l4 u4 3 av2 k2 cv2 (trips us)) (hq1 : k1 ≤ 2097152) (hq2 : k2 ≤ 2097152) (hn : n1 ≤ 2097152) (hm : m1 ≤ 2097152) (hk1 : ∀ i, i < n1 → (K1 i).2.1 ≤ 2097152) (hn2 : n2 ≤ 2097152) (hm2 : m2 ≤ 2097152) (hk2 : ∀ i, i < n2 → (K2 i).2.1 ≤ 2097152) (d : Bool) (hd : (decide (f = g) && decide (vs = us)) = d) :
    Calls Try.prog 40 #[.agg #[.slice an1 n1 cn1, .slice ab1 m1 cb1, .slice av1 k1 cv1], .agg #[.slice an2 n2 cn2, .slice ab2 m2 cb2, .slice av2 k2 cv2]] w fun e w' => e = .returned (.bool d) ∧ Below w.heap.size w w' := by
  have hx := v1.nTrips
  have hy := v2.nTrips
  have A : Below w.heap.size w ((w.alloc (.cells #[.slice an1 n1 cn1, .slice ab1 m1 cb1, .slice av1 k1 cv1] 40)).alloc (.cells #[.slice an2 n2 cn2, .slice ab2 m2 cb2, .slice av2 k2 cv2] 40)) := ((Below.refl _ _).alloc (Nat.le_refl _) _).alloc (by simp) _
  have z1 : ((w.alloc (.cells #[.slice an1 n1 cn1, .slice ab1 m1 cb1, .slice av1 k1 cv1] 40)).alloc (.cells #[.slice an2 n2 cn2, .slice ab2 m2 cb2, .slice av2 k2 cv2] 40)).cell? ⟨w.heap.size, 2, none⟩ = some (.slice av1 k1 cv1) := by simp
  have z2 : ((w.alloc (.cells #[.slice an1 n1 cn1, .slice ab1 m1 cb1, .slice av1 k1 cv1] 40)).alloc (.cells #[.slice an2 n2 cn2, .slice ab2 m2 cb2, .slice av2 k2 cv2] 40)).cell? ⟨w.heap.size + 1, 2, none⟩ = some (.slice av2 k2 cv2) := by simp
  subst hd
  by_cases hne : k1 = k2
  rotate_left 1
  · have hb0 : ((k1 : Int) != (k2 : Int)) = true := by simp; omega
    have HF : Hid (decide (vs = us) = false) := decide_eq_false fun e => hne (by rw [← hx, ← hy, e])
    go_enter Try.func40, Try.ntmps40
    go_wp2
    go_ret
    exact ⟨by rw [HF.out, Bool.and_false]; rfl, A⟩
  subst hne
  have hb0 : ((k1 : Int) != (k1 : Int)) = false := by simp
  obtain ⟨dd, hdd⟩ : ∃ dd, decide (f = g) = dd := ⟨_, rfl⟩
  rw [hdd]
  have HD : Hid _ := hdd
  clear hdd
  go_enter Try.func40, Try.ntmps40
  go_wp2_with fail
  refine (sameForests_is an1 n1 cn1 ab1 m1 cb1 an2 n2 cn2 ab2 m2 cb2 K1 K2 f g _ (h1.below A) (h2.below A) hn hm hk1 hn2 hm2 hk2 dd HD.out).mono ?_
  rintro e w1 ⟨rfl, B1⟩
  replace z1 := cell_later B1 z1
  replace z2 := cell_later B1 z2
  replace A := below_next A B1
  clear B1
  cases dd with
  | false =>
    go_wp2
    go_ret
    exact ⟨rfl, A⟩
  | true =>
    obtain ⟨bx, hbx⟩ : ∃ bx, w.heap.size + 1 = bx := ⟨_, rfl⟩
    rw [hbx] at z2
    go_wp2
    try simp only [hbx]
    clear hbx
    go_loopw [25] (fun i wr => ∃ k : Nat, k ≤ k1 ∧ i = .int .i64 k ∧ (∀ j, j < k → vs.getD j vo0 = us.getD j vo0) ∧ Below w1.heap.size w1 wr) (fun i _ => k1 - (intOf i).toNat)
    case atStart => exact ⟨0, Nat.zero_le _, rfl, fun j hj => absurd hj (Nat.not_lt_zero _), Below.refl _ _⟩
    case round =>
      obtain ⟨k, hk, rfl, hall, C⟩ := hrel
      have HA : Hid _ := hall
      clear hall
      replace z2 := cell_later C z2
      have B := below_step A A.size C
      by_cases hlt : k < k1
      · have hl : (k : Int) < (k1 : Int) := by omega
        have HN : Hid (vs.getD k vo0 = us.getD k vo0 → ∀ j, j < k + 1 → vs.getD j vo0 = us.getD j vo0) := fun h0 j hj => by
          by_cases e : j = k
          · rw [e]; exact h0
          · exact HA.out j (by omega)
        have HB : Hid (vs.getD k vo0 ≠ us.getD k vo0 → decide (vs = us) = false) := fun h0 => decide_eq_false fun e => h0 (by rw [e])
        obtain ⟨b1, o1, rfl, _, _, hs1, e1, e2, e3, _⟩ := (v1.below B).trip hlt
        obtain ⟨b2, o2, rfl, _, _, hs2, f1, f2, f3, _⟩ := (v2.below B).trip hlt
        obtain ⟨⟨x, y, z⟩, hx1⟩ : ∃ x, vs.getD k vo0 = x := ⟨_, rfl⟩
        obtain ⟨⟨x', y', z'⟩, hy1⟩ : ∃ y, us.getD k vo0 = y := ⟨_, rfl⟩
        rw [hx1] at e1 e2 e3 HN HB
        rw [hy1] at f1 f2 f3 HN HB
        simp only at e1 e2 e3 f1 f2 f3
        clear hx1 hy1
        have A1 : Below wr.heap.size wr (wr.alloc (.cells #[.int .i64 x, .int .i64 y, .int .i64 z] 90)) := (Below.refl _ _).alloc (Nat.le_refl _) _
        replace f1 := cell_later A1 f1
        replace f2 := cell_later A1 f2
        replace f3 := cell_later A1 f3
        have z2' := cell_later A1 z2
        have g1 : (wr.alloc (.cells #[.int .i64 x, .int .i64 y, .int .i64 z] 90)).cell? ⟨wr.heap.size, 0, none⟩ = some (.int .i64 x) := by simp
        have g2 : (wr.alloc (.cells #[.int .i64 x, .int .i64 y, .int .i64 z] 90)).cell? ⟨wr.heap.size, 1, none⟩ = some (.int .i64 y) := by simp
        have g3 : (wr.alloc (.cells #[.int .i64 x, .int .i64 y, .int .i64 z] 90)).cell? ⟨wr.heap.size, 2, none⟩ = some (.int .i64 z) := by simp
        have C2 := below_next C A1
        have B2 := below_step B B.size A1
        clear A1
        by_cases hxy : ((x, y, z) : Vo) = (x', y', z')
        · cases hxy
          have hd0 : (x == x) = true := by simp
          have hd1 : (y == y) = true := by simp
          have hd2 : (z == z) = true := by simp
          have HN2 : Hid _ := HN.out rfl
          clear HN HB
          go_wp2_with fail
          go_quiet (fail)
          go_wp2
          go_roundw
          case rel => exact ⟨k + 1, by omega, by go_num, HN2.out, below_drewN C2 _⟩
          case measure => simp [intOf]; omega
        · have HF : Hid _ := HB.out hxy
          clear HN HB
          by_cases hx2 : x = x'
          · subst hx2
            have hd0 : (x == x) = true := by simp
            by_cases hy2 : y = y'
            · subst hy2
              have hd1 : (y == y) = true := by simp
              have hd2 : (z == z') = false := by simp; exact fun e => hxy (by rw [e])
              go_wp2_with fail
              go_quiet (fail)
              go_wp2
              go_ret
              exact ⟨by rw [HF.out]; rfl, below_drewN B2 _⟩
            · have hd1 : (y == y') = false := by simp [hy2]
              go_wp2_with fail
              go_quiet (fail)
              go_wp2
              go_ret
              exact ⟨by rw [HF.out]; rfl, below_drewN B2 _⟩
          · have hd0 : (x == x') = false := by simp [hx2]
            go_wp2_with fail
            go_quiet (fail)
            go_wp2
            go_ret
            exact ⟨by rw [HF.out]; rfl, below_drewN B2 _⟩
      · obtain rfl : k = k1 := by omega
        have HF : Hid (decide (vs = us) = true) := decide_eq_true (list_eq_of vo0 hx hy HA.out)
        go_wp2
        go_ret
        exact ⟨by rw [HF.out]; rfl, B⟩

end Go.Proofs.Ytedgppggaceopaa

/- Chapter 5: rows of numbers compared by the model, quietly. -/
namespace Go.Proofs.Ytedgppggaceopaa
open Go.RowKit

set_option maxRecDepth 20000 in
set_option maxHeartbeats 1000000 in
theorem numsEq_q {o1 o2 : Bool} {l1 u1 l2 u2 : Nat} (a1 : Option Addr) (n1 c1 : Nat) (a2 : Option Addr) (n2 c2 : Nat) (xs ys : List Int) (w : World) (h1 : RowAt w o1 l1 u1 1 a1 n1 c1 (ints xs)) (h2 : RowAt w o2 l2 u2 1 a2 n2 c2 (ints ys)) (hn : n1 ≤ 2097152) (hm : n2 ≤ 2097152) (d : Bool) (hd : decide (xs = ys) = d) :
    Calls Try.prog 69 #[.slice a1 n1 c1, .slice a2 n2 c2] w fun e w' => e = .returned (.bool d) ∧ ∃ m, w' = w.drewN m := by
  have hx := h1.nInts
  have hy := h2.nInts
  subst hd
  by_cases hne : n1 = n2
  · subst hne
    have hb0 : ((n1 : Int) != (n1 : Int)) = false := by simp
    go_enter Try.func69, Try.ntmps69
    go_wp2
    go_loopw [5] (fun i wr => ∃ k : Nat, k ≤ n1 ∧ i = .int .i64 k ∧ (∀ j, j < k → xs.getD j 0 = ys.getD j 0) ∧ ∃ m, wr = w.drewN m) (fun i _ => n1 - (intOf i).toNat)
    case atStart => exact ⟨0, Nat.zero_le _, rfl, fun j hj => absurd hj (Nat.not_lt_zero _), 0, rfl⟩
    case round =>
      obtain ⟨k, hk, rfl, hall, m, rfl⟩ := hrel
      have HA : Hid _ := hall
      clear hall
      by_cases hlt : k < n1
      · have hl : (k : Int) < (n1 : Int) := by omega
        have HN : Hid (xs.getD k 0 = ys.getD k 0 → ∀ j, j < k + 1 → xs.getD j 0 = ys.getD j 0) := fun h0 j hj => by
          by_cases e : j = k
          · rw [e]; exact h0
          · exact HA.out j (by omega)
        have HB : Hid (xs.getD k 0 ≠ ys.getD k 0 → decide (xs = ys) = false) := fun h0 => decide_eq_false fun e => h0 (by rw [e])
        obtain ⟨b1, o1, rfl, _, _, hs1, e1, _⟩ := h1.int hlt
        obtain ⟨b2, o2, rfl, _, _, hs2, e2, _⟩ := h2.int hlt
        obtain ⟨x, hx1⟩ : ∃ x, xs.getD k 0 = x := ⟨_, rfl⟩
        obtain ⟨y, hy1⟩ : ∃ y, ys.getD k 0 = y := ⟨_, rfl⟩
        rw [hx1] at e1 HN HB
        rw [hy1] at e2 HN HB
        clear hx1 hy1
        by_cases hxy : x = y
        · have hd0 : (x != y) = false := by simp [hxy]
          have HN2 : Hid _ := HN.out hxy
          clear HN HB hxy
          go_wp2_with fail
          go_quiet (fail)
          go_wp2
          go_roundw
          case rel => exact ⟨k + 1, by omega, by go_num, HN2.out, _, rfl⟩
          case measure => simp [intOf]; omega
        · have hd0 : (x != y) = true := by simp [hxy]
          have HF : Hid _ := HB.out hxy
          clear HN HB
          go_wp2_with fail
          go_quiet (fail)
          go_wp2
          go_ret
          exact ⟨by rw [HF.out]; rfl, _, World.drewN_drewN _ _ _⟩
      · obtain rfl : k = n1 := by omega
        have HF : Hid (decide (xs = ys) = true) := decide_eq_true (list_eq_of 0 hx hy HA.out)
        go_wp2
        go_ret
        exact ⟨by rw [HF.out]; rfl, m, rfl⟩
  · have hb0 : ((n1 : Int) != (n2 : Int)) = true := by simp; omega
    have HF : Hid (decide (xs = ys) = false) := decide_eq_false fun e => hne (by rw [← hx, ← hy, e])
    go_enter Try.func69, Try.ntmps69
    go_wp2
    go_ret
    exact ⟨by rw [HF.out]; rfl, 0, rfl⟩

end Go.Proofs.Ytedgppggaceopaa

/- Chapter 5: pools compared by the model. -/
namespace Go.Proofs.Ytedgppggaceopaa
open Go.RowKit

set_option maxRecDepth 20000 in
set_option maxHeartbeats 4000000 in
theorem specSame_is {o1 o2 : Bool} {l1 u1 l2 u2 : Nat} (an1 : Option Addr) (n1 cn1 : Nat) (ab1 : Option Addr) (m1 cb1 : Nat) (an2 : Option Addr) (n2 cn2 : Nat) (ab2 : Option Addr) (m2 cb2 : Nat) (av1 : Option Addr) (k1 cv1 : Nat) (av2 : Option Addr) (k2 cv2 : Nat) (K1 K2 : Nat → KS) (f g : Fo) (vs us : List Vo) (w : World) (h1 : FoAt w o1 l1 u1 an1 n1 cn1 ab1 m1 cb1 K1 f) (h2 : FoAt w o2 l2 u2 an2 n2 cn2 ab2 m2 cb2 K2 g) {o3 o4 : Bool} {l3 u3 l4 u4 : Nat} (v1 : RowAt w o3 l3 u3 3 av1 k1 cv1 (trips vs)) (v2 : RowAt w o4 l4 u4 3 av2 k2 cv2 (trips us)) (hq1 : k1 ≤ 2097152) (hq2 : k2 ≤ 2097152) (hn : n1 ≤ 2097152) (hm : m1 ≤ 2097152) (hk1 : ∀ i, i < n1 → (K1 i).2.1 ≤ 2097152) (hn2 : n2 ≤ 2097152) (hm2 : m2 ≤ 2097152) (hk2 : ∀ i, i < n2 → (K2 i).2.1 ≤ 2097152) (d : Bool) (hd : (decide (f = g) && decide (vs = us)) = d) :
    Calls Try.prog 39 #[.agg #[.slice an1 n1 cn1, .slice ab1 m1 cb1, .slice av1 k1 cv1], .agg #[.slice an2 n2 cn2, .slice ab2 m2 cb2, .slice av2 k2 cv2]] w fun e w' => e = .returned (.bool d) ∧ Below w.heap.size w w' := by
  obtain ⟨ns, bs⟩ := f
  obtain ⟨ms, cs⟩ := g
  have x1 := h1.nodes.len
  have x2 := h1.blocks.nPairs
  have x3 := v1.nTrips
  have x4 := h2.nodes.len
  have x5 := h2.blocks.nPairs
  have x6 := v2.nTrips
  simp only at x1 x2 x4 x5
  have A : Below w.heap.size w ((w.alloc (.cells #[.slice an1 n1 cn1, .slice ab1 m1 cb1, .slice av1 k1 cv1] 40)).alloc (.cells #[.slice an2 n2 cn2, .slice ab2 m2 cb2, .slice av2 k2 cv2] 40)) := ((Below.refl _ _).alloc (Nat.le_refl _) _).alloc (by simp) _
  have z0 : ((w.alloc (.cells #[.slice an1 n1 cn1, .slice ab1 m1 cb1, .slice av1 k1 cv1] 40)).alloc (.cells #[.slice an2 n2 cn2, .slice ab2 m2 cb2, .slice av2 k2 cv2] 40)).cell? ⟨w.heap.size, 0, none⟩ = some (.slice an1 n1 cn1) := by simp
  have z1 : ((w.alloc (.cells #[.slice an1 n1 cn1, .slice ab1 m1 cb1, .slice av1 k1 cv1] 40)).alloc (.cells #[.slice an2 n2 cn2, .slice ab2 m2 cb2, .slice av2 k2 cv2] 40)).cell? ⟨w.heap.size, 1, none⟩ = some (.slice ab1 m1 cb1) := by simp
  have z2 : ((w.alloc (.cells #[.slice an1 n1 cn1, .slice ab1 m1 cb1, .slice av1 k1 cv1] 40)).alloc (.cells #[.slice an2 n2 cn2, .slice ab2 m2 cb2, .slice av2 k2 cv2] 40)).cell? ⟨w.heap.size, 2, none⟩ = some (.slice av1 k1 cv1) := by simp
  have y0 : ((w.alloc (.cells #[.slice an1 n1 cn1, .slice ab1 m1 cb1, .slice av1 k1 cv1] 40)).alloc (.cells #[.slice an2 n2 cn2, .slice ab2 m2 cb2, .slice av2 k2 cv2] 40)).cell? ⟨w.heap.size + 1, 0, none⟩ = some (.slice an2 n2 cn2) := by simp
  have y1 : ((w.alloc (.cells #[.slice an1 n1 cn1, .slice ab1 m1 cb1, .slice av1 k1 cv1] 40)).alloc (.cells #[.slice an2 n2 cn2, .slice ab2 m2 cb2, .slice av2 k2 cv2] 40)).cell? ⟨w.heap.size + 1, 1, none⟩ = some (.slice ab2 m2 cb2) := by simp
  have y2 : ((w.alloc (.cells #[.slice an1 n1 cn1, .slice ab1 m1 cb1, .slice av1 k1 cv1] 40)).alloc (.cells #[.slice an2 n2 cn2, .slice ab2 m2 cb2, .slice av2 k2 cv2] 40)).cell? ⟨w.heap.size + 1, 2, none⟩ = some (.slice av2 k2 cv2) := by simp
  subst hd
  have HV : Hid (vs ≠ us → (decide (((ns, bs) : Fo) = (ms, cs)) && decide (vs = us)) = false) := fun e => by rw [decide_eq_false e, Bool.and_false]
  have HB : Hid (bs ≠ cs → (decide (((ns, bs) : Fo) = (ms, cs)) && decide (vs = us)) = false) := fun e => by rw [decide_eq_false (fun q => e (by injection q)), Bool.false_and]
  have HN : Hid (ns ≠ ms → (decide (((ns, bs) : Fo) = (ms, cs)) && decide (vs = us)) = false) := fun e => by rw [decide_eq_false (fun q => e (by injection q)), Bool.false_and]
  go_enter Try.func39, Try.ntmps39
  by_cases hlk1 : k1 = k2
  rotate_left 1
  · have hbk1 : ((k1 : Int) != (k2 : Int)) = true := by simp; omega
    have HF : Hid _ := HV.out (fun e => hlk1 (by rw [← x3, ← x6, e]))
    clear HV HB HN
    go_wp2
    go_ret
    exact ⟨by rw [HF.out]; rfl, A⟩
  subst hlk1
  have hbk1 : ((k1 : Int) != (k1 : Int)) = false := by simp
  by_cases hln1 : n1 = n2
  rotate_left 1
  · have hbn1 : ((n1 : Int) != (n2 : Int)) = true := by simp; omega
    have HF : Hid _ := HN.out (fun e => hln1 (by rw [← x1, ← x4, e]))
    clear HV HB HN
    go_wp2
    go_ret
    exact ⟨by rw [HF.out]; rfl, A⟩
  subst hln1
  have hbn1 : ((n1 : Int) != (n1 : Int)) = false := by simp
  by_cases hlm1 : m1 = m2
  rotate_left 1
  · have hbm1 : ((m1 : Int) != (m2 : Int)) = true := by simp; omega
    have HF : Hid _ := HB.out (fun e => hlm1 (by rw [← x2, ← x5, e]))
    clear HV HB HN
    go_wp2
    go_ret
    exact ⟨by rw [HF.out]; rfl, A⟩
  subst hlm1
  have hbm1 : ((m1 : Int) != (m1 : Int)) = false := by simp
  have HK1 : Hid _ := hk1
  have HK2 : Hid _ := hk2
  clear hk1 hk2
  have r1 := h1.below A
  have r2 := h2.below A
  have q1 := v1.below A
  have q2 := v2.below A
  go_wp2
  obtain ⟨W, hW⟩ : ∃ W, W = ((w.alloc (.cells #[.slice an1 n1 cn1, .slice ab1 m1 cb1, .slice av1 k1 cv1] 40)).alloc (.cells #[.slice an2 n1 cn2, .slice ab2 m1 cb2, .slice av2 k1 cv2] 40)) := ⟨_, rfl⟩
  simp only [← hW] at *
  clear hW
  go_loopw [5] (fun i wr => ∃ k : Nat, k ≤ k1 ∧ i = .int .i64 k ∧ (∀ j, j < k → vs.getD j vo0 = us.getD j vo0) ∧ ∃ m, wr = W.drewN m) (fun i _ => k1 - (intOf i).toNat)
  case atStart => exact ⟨0, Nat.zero_le _, rfl, fun j hj => absurd hj (Nat.not_lt_zero _), 0, rfl⟩
  case round =>
    obtain ⟨k, hk, rfl, hall, mm, rfl⟩ := hrel
    have HA : Hid _ := hall
    clear hall
    by_cases hlt : k < k1
    rotate_left 1
    · obtain rfl : k = k1 := by omega
      have HVE : Hid (vs = us) := list_eq_of vo0 x3 x6 HA.out
      clear HA
      go_wp2
      go_loopw [6] (fun i wr => ∃ k : Nat, k ≤ m1 ∧ i = .int .i64 k ∧ (∀ j, j < k → bs.getD j (0, 0) = cs.getD j (0, 0)) ∧ ∃ m, wr = W.drewN m) (fun i _ => m1 - (intOf i).toNat)
      case atStart => exact ⟨0, Nat.zero_le _, rfl, fun j hj => absurd hj (Nat.not_lt_zero _), mm, rfl⟩
      case round =>
        obtain ⟨k, hk, rfl, hall, m, rfl⟩ := hrel
        have HA : Hid _ := hall
        clear hall
        by_cases hlt : k < m1
        rotate_left 1
        · obtain rfl : k = m1 := by omega
          have HBE : Hid (bs = cs) := list_eq_of (0, 0) x2 x5 HA.out
          clear HA
          go_wp2
          go_loopw [7] (fun i wr => ∃ k : Nat, k ≤ n1 ∧ i = .int .i64 k ∧ (∀ j, j < k → ns.getD j nd0 = ms.getD j nd0) ∧ ∃ m, wr = W.drewN m) (fun i _ => n1 - (intOf i).toNat)
          case atStart => exact ⟨0, Nat.zero_le _, rfl, fun j hj => absurd hj (Nat.not_lt_zero _), m, rfl⟩
          case round =>
            obtain ⟨k, hk, rfl, hall, m, hV⟩ := hrel
            replace z0 : wr.cell? ⟨w.heap.size, 0, none⟩ = some (.slice an1 n1 cn1) := by rw [hV]; exact z0
            replace y0 : wr.cell? ⟨w.heap.size + 1, 0, none⟩ = some (.slice an2 n1 cn2) := by rw [hV]; exact y0
            have AW : Below w.heap.size w wr := by rw [hV]; exact below_drewN A _
            have HV0 : Hid _ := hV
            clear hV
            have HA : Hid _ := hall
            clear hall
            by_cases hlt : k < n1
            rotate_left 1
            · obtain rfl : k = n1 := by omega
              have HNE : Hid (ns = ms) := list_eq_of nd0 x1 x4 HA.out
              clear HA
              go_wp2
              go_ret
              exact ⟨by rw [decide_eq_true (by rw [HNE.out, HBE.out] : ((ns, bs) : Fo) = (ms, cs)), decide_eq_true HVE.out]; rfl, AW⟩
            have hl : (k : Int) < (n1 : Int) := by omega
            have HX : Hid (ns.getD k nd0 = ms.getD k nd0 → ∀ j, j < k + 1 → ns.getD j nd0 = ms.getD j nd0) := fun h0 j hj => by
              by_cases e : j = k
              · rw [e]; exact h0
              · exact HA.out j (by omega)
            have HY : Hid (ns.getD k nd0 ≠ ms.getD k nd0 → (decide (((ns, bs) : Fo) = (ms, cs)) && decide (vs = us)) = false) := fun h0 => HN.out (fun e => h0 (by rw [e]))
            have s1 := r1.nodes.kids k hlt
            have s2 := r2.nodes.kids k hlt
            have p1 := HK1.out k hlt
            have p2 := HK2.out k hlt
            obtain ⟨b1, o1, rfl, _, _, hs1, e1, e1', e1'', _⟩ := r1.nodes.node hlt
            obtain ⟨b2, o2, rfl, _, _, hs2, e2, e2', e2'', _⟩ := r2.nodes.node hlt
            obtain ⟨⟨r, lf, ks⟩, hx1⟩ : ∃ x, ns.getD k nd0 = x := ⟨_, rfl⟩
            obtain ⟨⟨r', lf', qs⟩, hy1⟩ : ∃ y, ms.getD k nd0 = y := ⟨_, rfl⟩
            obtain ⟨⟨ka, kn, kc⟩, hw1⟩ : ∃ x, K1 k = x := ⟨_, rfl⟩
            obtain ⟨⟨qa, qn, qc⟩, hw2⟩ : ∃ x, K2 k = x := ⟨_, rfl⟩
            simp only [hx1, hy1, hw1, hw2] at e1 e1' e1'' e2 e2' e2'' s1 s2 p1 p2 HX HY
            clear hx1 hy1 hw1 hw2
            replace s1 := s1.below (below_drewN (Below.refl _ _) m)
            replace s2 := s2.below (below_drewN (Below.refl _ _) m)
            rw [← HV0.out] at s1 s2
            replace e1 : wr.cell? ⟨b1, o1 + k * 3, none⟩ = some (.int .i64 r) := by rw [HV0.out]; exact e1
            replace e1' : wr.cell? ⟨b1, o1 + k * 3 + 1, none⟩ = some (.bool lf) := by rw [HV0.out]; exact e1'
            replace e1'' : wr.cell? ⟨b1, o1 + k * 3 + 2, none⟩ = some (.slice ka kn kc) := by rw [HV0.out]; exact e1''
            replace e2 : wr.cell? ⟨b2, o2 + k * 3, none⟩ = some (.int .i64 r') := by rw [HV0.out]; exact e2
            replace e2' : wr.cell? ⟨b2, o2 + k * 3 + 1, none⟩ = some (.bool lf') := by rw [HV0.out]; exact e2'
            replace e2'' : wr.cell? ⟨b2, o2 + k * 3 + 2, none⟩ = some (.slice qa qn qc) := by rw [HV0.out]; exact e2''
            obtain ⟨dd, hdd⟩ : ∃ dd, decide (ks = qs) = dd := ⟨_, rfl⟩
            have HDD : Hid _ := hdd
            by_cases hr : r = r'
            · subst hr
              have hd0 : (r != r) = false := by simp
              by_cases hlf : lf = lf'
              · subst hlf
                have hd1 : (lf != lf) = false := by simp
                cases dd with
                | true =>
                  have e := of_decide_eq_true hdd
                  have HX2 : Hid _ := HX.out (by rw [e])
                  clear e
                  clear HX HY hdd
                  go_wp2_with fail
                  go_quiet (first | (go_at_call 69; refine Calls.quiet_of (numsEq_q ka kn kc qa qn qc ks qs _ (s1.below (below_drewN (Below.refl _ _) _)) (s2.below (below_drewN (Below.refl _ _) _)) p1 p2 true HDD.out)))
                  go_wp2
                  go_roundw
                  case rel => exact ⟨k + 1, by omega, by go_num, HX2.out, by rw [HV0.out]; exact ⟨_, World.drewN_drewN _ _ _⟩⟩
                  case measure => simp [intOf]; omega
                | false =>
                  have HF : Hid _ := HY.out (fun e => of_decide_eq_false hdd (by injection e with _ e; injection e))
                  clear HX HY hdd
                  go_wp2_with fail
                  go_quiet (first | (go_at_call 69; refine Calls.quiet_of (numsEq_q ka kn kc qa qn qc ks qs _ (s1.below (below_drewN (Below.refl _ _) _)) (s2.below (below_drewN (Below.refl _ _) _)) p1 p2 false HDD.out)))
                  go_wp2
                  go_ret
                  exact ⟨by rw [HF.out]; rfl, below_drewN AW _⟩
              · have hd1 : (lf != lf') = true := by simp [hlf]
                have HF : Hid _ := HY.out (fun e => hlf (by injection e with _ e; injection e))
                clear HX HY hdd
                go_wp2_with fail
                go_quiet (fail)
                go_wp2
                go_ret
                exact ⟨by rw [HF.out]; rfl, below_drewN AW _⟩
            · have hd0 : (r != r') = true := by simp [hr]
              have HF : Hid _ := HY.out (fun e => hr (by injection e))
              clear HX HY hdd
              go_wp2_with fail
              go_quiet (fail)
              go_wp2
              go_ret
              exact ⟨by rw [HF.out]; rfl, below_drewN AW _⟩
        have hl : (k : Int) < (m1 : Int) := by omega
        have HX : Hid (bs.getD k (0, 0) = cs.getD k (0, 0) → ∀ j, j < k + 1 → bs.getD j (0, 0) = cs.getD j (0, 0)) := fun h0 j hj => by
          by_cases e : j = k
          · rw [e]; exact h0
          · exact HA.out j (by omega)
        have HY : Hid (bs.getD k (0, 0) ≠ cs.getD k (0, 0) → (decide (((ns, bs) : Fo) = (ms, cs)) && decide (vs = us)) = false) := fun h0 => HB.out (fun e => h0 (by rw [e]))
        obtain ⟨b1, o1, rfl, _, _, hs1, e1, e1', _⟩ := r1.blocks.pair hlt
        obtain ⟨b2, o2, rfl, _, _, hs2, e2, e2', _⟩ := r2.blocks.pair hlt
        obtain ⟨⟨x, x'⟩, hx1⟩ : ∃ x, bs.getD k (0, 0) = x := ⟨_, rfl⟩
        obtain ⟨⟨y, y'⟩, hy1⟩ : ∃ y, cs.getD k (0, 0) = y := ⟨_, rfl⟩
        simp only [hx1, hy1] at e1 e1' e2 e2' HX HY
        clear hx1 hy1
        by_cases hxy : ((x, x') : Int × Int) = (y, y')
        · cases hxy
          have hd0 : (x == x) = true := by simp
          have hd1 : (x' == x') = true := by simp
          have HX2 : Hid _ := HX.out rfl
          clear HX HY
          go_wp2_with fail
          go_quiet (fail)
          go_wp2
          go_roundw
          case rel => exact ⟨k + 1, by omega, by go_num, HX2.out, _, rfl⟩
          case measure => simp [intOf]; omega
        · have HF : Hid _ := HY.out hxy
          clear HX HY
          by_cases hx2 : x = y
          · subst hx2
            have hd0 : (x == x) = true := by simp
            have hd1 : (x' == y') = false := by simp; exact fun e => hxy (by rw [e])
            go_wp2_with fail
            go_quiet (fail)
            go_wp2
            go_ret
            exact ⟨by rw [HF.out]; rfl, below_drewN (below_drewN A _) _⟩
          · have hd0 : (x == y) = false := by simp [hx2]
            go_wp2_with fail
            go_quiet (fail)
            go_wp2
            go_ret
            exact ⟨by rw [HF.out]; rfl, below_drewN (below_drewN A _) _⟩
    have hl : (k : Int) < (k1 : Int) := by omega
    have HX : Hid (vs.getD k vo0 = us.getD k vo0 → ∀ j, j < k + 1 → vs.getD j vo0 = us.getD j vo0) := fun h0 j hj => by
      by_cases e : j = k
      · rw [e]; exact h0
      · exact HA.out j (by omega)
    have HY : Hid (vs.getD k vo0 ≠ us.getD k vo0 → (decide (((ns, bs) : Fo) = (ms, cs)) && decide (vs = us)) = false) := fun h0 => HV.out (fun e => h0 (by rw [e]))
    obtain ⟨b1, o1, rfl, _, _, hs1, e1, e2, e3, _⟩ := q1.trip hlt
    obtain ⟨b2, o2, rfl, _, _, hs2, f1, f2, f3, _⟩ := q2.trip hlt
    obtain ⟨⟨x, y, z⟩, hx1⟩ : ∃ x, vs.getD k vo0 = x := ⟨_, rfl⟩
    obtain ⟨⟨x', y', z'⟩, hy1⟩ : ∃ y, us.getD k vo0 = y := ⟨_, rfl⟩
    simp only [hx1, hy1] at e1 e2 e3 f1 f2 f3 HX HY
    clear hx1 hy1
    by_cases hxy : ((x, y, z) : Vo) = (x', y', z')
    · cases hxy
      have hd0 : (x == x) = true := by simp
      have hd1 : (y == y) = true := by simp
      have hd2 : (z == z) = true := by simp
      have HX2 : Hid _ := HX.out rfl
      clear HX HY
      go_wp2_with fail
      go_quiet (fail)
      go_wp2
      go_roundw
      case rel => exact ⟨k + 1, by omega, by go_num, HX2.out, _, rfl⟩
      case measure => simp [intOf]; omega
    · have HF : Hid _ := HY.out hxy
      clear HX HY
      by_cases hx2 : x = x'
      · subst hx2
        have hd0 : (x == x) = true := by simp
        by_cases hy2 : y = y'
        · subst hy2
          have hd1 : (y == y) = true := by simp
          have hd2 : (z == z') = false := by simp; exact fun e => hxy (by rw [e])
          go_wp2_with fail
          go_quiet (fail)
          go_wp2
          go_ret
          exact ⟨by rw [HF.out]; rfl, below_drewN (below_drewN A _) _⟩
        · have hd1 : (y == y') = false := by simp [hy2]
          go_wp2_with fail
          go_quiet (fail)
          go_wp2
          go_ret
          exact ⟨by rw [HF.out]; rfl, below_drewN (below_drewN A _) _⟩
      · have hd0 : (x == x') = false := by simp [hx2]
        go_wp2_with fail
        go_quiet (fail)
        go_wp2
        go_ret
        exact ⟨by rw [HF.out]; rfl, below_drewN (below_drewN A _) _⟩

end Go.Proofs.Ytedgppggaceopaa

/- Chapter 12: two sessions compared as structs; rows of sessions compared. -/
namespace Go.Proofs.Ytedgppggaceopaa
open Go.RowKit

theorem stoodSes : Try.prog.stoodInHeld 54 = false := by kernel_rfl
theorem guardSes : Try.prog.eqGuardType Try.prog.depth 54 = false := by kernel_rfl
def seA (x : Se) : Array Value := #[.int .i64 x.1, .int .i64 x.2.1, .int .i64 x.2.2.1, .int .i64 x.2.2.2]
theorem eqlSes (x y : Se) (w : World) : (Op.equalIn 10000 54 (.agg (seA x)) (.agg (seA y))).run Try.prog w = .ok (decide (x = y)) w := by
  rw [run_equalIn_struct w 9999 54 _ _ (by kernel_rfl) stoodSes]
  simp only [Program.fieldsOf, Try.underlying54]
  simp [seA, Op.eqFields, part, go_sem, Try.underlying2]
  obtain ⟨x0, x1, x2, x3⟩ := x
  obtain ⟨y0, y1, y2, y3⟩ := y
  simp only [Prod.mk.injEq]
  by_cases h0 : x0 = y0
  · by_cases h1 : x1 = y1
    · by_cases h2 : x2 = y2
      · by_cases h3 : x3 = y3
        · simp [h0, h1, h2, h3]
        · simp [h0, h1, h2, h3]
      · simp [h0, h1, h2]
    · simp [h0, h1]
  · simp [h0]
theorem run_neSe (x0 x1 x2 x3 y0 y1 y2 y3 : Int) (b : Bool) (h : decide (((x0, x1, x2, x3) : Se) = (y0, y1, y2, y3)) = b) (w : World) : (binOp .neq 54 (.agg #[.int .i64 x0, .int .i64 x1, .int .i64 x2, .int .i64 x3]) (.agg #[.int .i64 y0, .int .i64 y1, .int .i64 y2, .int .i64 y3])).run Try.prog w = .ok (.bool (!b)) w := by
  have := eqlSes (x0, x1, x2, x3) (y0, y1, y2, y3) w
  rw [run_neq_struct, show (#[.int .i64 x0, .int .i64 x1, .int .i64 x2, .int .i64 x3] : Array Value) = seA (x0, x1, x2, x3) from rfl, show (#[.int .i64 y0, .int .i64 y1, .int .i64 y2, .int .i64 y3] : Array Value) = seA (y0, y1, y2, y3) from rfl, this, h]
  rfl
theorem run_guSe (op : BinOp) (x y : Operand) (xs ys : Array Value) (w : World) : (eqGuard op 54 x y (.agg xs) (.agg ys)).run Try.prog w = .ok () w := run_eqGuard_agg w op _ x y xs ys guardSes

set_option maxRecDepth 20000 in
set_option maxHeartbeats 2000000 in
theorem sessionsEq_i {o1 o2 : Bool} {l1 u1 l2 u2 : Nat} (a1 : Option Addr) (n1 c1 : Nat) (a2 : Option Addr) (n2 c2 : Nat) (xs ys : List Se) (w : World) (h1 : RowAt w o1 l1 u1 4 a1 n1 c1 (fours xs)) (h2 : RowAt w o2 l2 u2 4 a2 n2 c2 (fours ys)) (hq1 : n1 ≤ 2097152) (hq2 : n2 ≤ 2097152) (d : Bool) (hd : decide (xs = ys) = d) :
    Calls Try.prog 41 #[.slice a1 n1 c1, .slice a2 n2 c2] w fun e w' => e = .returned (.bool d) ∧ Below w.heap.size w w' := by
  have hx := h1.nFours
  have hy := h2.nFours
  subst hd
  by_cases hne : n1 = n2
  · subst hne
    have hb0 : ((n1 : Int) != (n1 : Int)) = false := by simp
    go_enter Try.func41, Try.ntmps41
    go_wp2
    go_loopw [13] (fun i wr => ∃ k : Nat, k ≤ n1 ∧ i = .int .i64 k ∧ Hid (∀ j, j < k → xs.getD j se0 = ys.getD j se0) ∧ Below w.heap.size w wr) (fun i _ => n1 - (intOf i).toNat)
    case atStart => exact ⟨0, Nat.zero_le _, rfl, fun j hj => absurd hj (Nat.not_lt_zero _), Below.refl _ _⟩
    case round =>
      obtain ⟨k, hk, rfl, HA, hb⟩ := hrel
      by_cases hlt : k < n1
      · have hl : (k : Int) < (n1 : Int) := by omega
        have HN : Hid (xs.getD k se0 = ys.getD k se0 → ∀ j, j < k + 1 → xs.getD j se0 = ys.getD j se0) := fun h0 j hj => by
          by_cases e : j = k
          · rw [e]; exact h0
          · exact HA.out j (by omega)
        have HB : Hid (xs.getD k se0 ≠ ys.getD k se0 → decide (xs = ys) = false) := fun h0 => decide_eq_false fun e => h0 (by rw [e])
        obtain ⟨b1, o1, rfl, _, _, hs1, e0, e1, e2, e3, _⟩ := (h1.below hb).four hlt
        obtain ⟨b2, o2, rfl, _, _, hs2, f0, f1, f2, f3, _⟩ := (h2.below hb).four hlt
        obtain ⟨⟨x0, x1, x2, x3⟩, hxx⟩ : ∃ x, xs.getD k se0 = x := ⟨_, rfl⟩
        obtain ⟨⟨y0, y1, y2, y3⟩, hyy⟩ : ∃ x, ys.getD k se0 = x := ⟨_, rfl⟩
        rw [hxx] at e0 e1 e2 e3 HN HB
        rw [hyy] at f0 f1 f2 f3 HN HB
        simp only at e0 e1 e2 e3 f0 f1 f2 f3
        clear hxx hyy
        obtain ⟨q, hq⟩ : ∃ q, decide (((x0, x1, x2, x3) : Se) = (y0, y1, y2, y3)) = q := ⟨_, rfl⟩
        have HQ : Hid _ := hq
        have R := run_neSe x0 x1 x2 x3 y0 y1 y2 y3 q hq
        have RG := run_guSe
        clear hq
        have D : Below wr.heap.size wr wr.drew := (Below.refl _ _).drew
        replace e0 := cell_later D e0
        replace e1 := cell_later D e1
        replace e2 := cell_later D e2
        replace e3 := cell_later D e3
        replace f0 := cell_later D f0
        replace f1 := cell_later D f1
        replace f2 := cell_later D f2
        replace f3 := cell_later D f3
        replace hb := below_step hb hb.size D
        clear D
        go_wp2_with fail
        go_region_held3 (fun w' => w'.cell? ⟨b1, o1 + k * 4, none⟩ = some (.int .i64 x0) ∧ w'.cell? ⟨b1, o1 + k * 4 + 1, none⟩ = some (.int .i64 x1) ∧ w'.cell? ⟨b1, o1 + k * 4 + 2, none⟩ = some (.int .i64 x2) ∧ w'.cell? ⟨b1, o1 + k * 4 + 3, none⟩ = some (.int .i64 x3) ∧ w'.cell? ⟨b2, o2 + k * 4, none⟩ = some (.int .i64 y0) ∧ w'.cell? ⟨b2, o2 + k * 4 + 1, none⟩ = some (.int .i64 y1) ∧ w'.cell? ⟨b2, o2 + k * 4 + 2, none⟩ = some (.int .i64 y2) ∧ w'.cell? ⟨b2, o2 + k * 4 + 3, none⟩ = some (.int .i64 y3)) (exact ⟨e0, e1, e2, e3, f0, f1, f2, f3⟩) (fail)
        clear e0 e1 e2 e3 f0 f1 f2 f3 R RG
        cases q with
        | true =>
          have HN2 : Hid _ := HN.out (of_decide_eq_true HQ.out)
          clear HN HB HQ
          go_wp2
          go_roundw
          case rel => exact ⟨k + 1, by omega, by go_num, HN2, hb⟩
          case measure => simp [intOf]; omega
        | false =>
          have HF : Hid _ := HB.out (of_decide_eq_false HQ.out)
          clear HN HB HQ
          go_wp2
          go_ret
          exact ⟨by rw [HF.out]; rfl, hb⟩
      · obtain rfl : k = n1 := by omega
        have HF : Hid (decide (xs = ys) = true) := decide_eq_true (list_eq_of se0 hx hy HA.out)
        go_wp2
        go_ret
        exact ⟨by rw [HF.out]; rfl, hb⟩
  · have hb0 : ((n1 : Int) != (n2 : Int)) = true := by simp; omega
    have HF : Hid (decide (xs = ys) = false) := decide_eq_false fun e => hne (by rw [← hx, ← hy, e])
    go_enter Try.func41, Try.ntmps41
    go_wp2
    go_ret
    exact ⟨by rw [HF.out]; rfl, Below.refl _ _⟩

end Go.Proofs.Ytedgppggaceopaa

/- Chapter 12: SameMachines of both. -/
namespace Go.Proofs.Ytedgppggaceopaa
open Go.RowKit

def samM (a b : Mac) : Bool := (decide (a.1 = b.1) && decide (a.2.1 = b.2.1)) && decide (a.2.2 = b.2.2)
set_option maxRecDepth 20000 in
set_option maxHeartbeats 2000000 in
theorem implSM_is {o1 o2 : Bool} {l1 u1 l2 u2 : Nat} (h h' : MacH) (a b : Mac) (w : World) (x : MacAt w o1 l1 u1 h a) (y : MacAt w o2 l2 u2 h' b) (hs : MacSz h a.1 1048576) (hs' : MacSz h' b.1 1048576) (d : Bool) (hd : samM a b = d) :
    Calls Try.prog 21 #[.agg #[.slice h.N.1 h.N.2.1 h.N.2.2, .slice h.B.1 h.B.2.1 h.B.2.2, .slice h.V.1 h.V.2.1 h.V.2.2, .slice h.S.1 h.S.2.1 h.S.2.2], .agg #[.slice h'.N.1 h'.N.2.1 h'.N.2.2, .slice h'.B.1 h'.B.2.1 h'.B.2.2, .slice h'.V.1 h'.V.2.1 h'.V.2.2, .slice h'.S.1 h'.S.2.1 h'.S.2.2]] w fun e w' => e = .returned (.bool d) ∧ Below w.heap.size w w' := by
  have HZ : Hid _ := hs
  have HY : Hid _ := hs'
  have h1 := hs.s
  have h2 := hs'.s
  obtain ⟨dp, hdp⟩ : ∃ q, (decide (a.1 = b.1) && decide (a.2.1 = b.2.1)) = q := ⟨_, rfl⟩
  obtain ⟨dq, hdq⟩ : ∃ q, decide (a.2.2 = b.2.2) = q := ⟨_, rfl⟩
  have HD : Hid ((dp && dq) = d) := by show _ = _; rw [← hd]; unfold samM; rw [hdp, hdq]
  have HP : Hid _ := hdp
  have HQ : Hid _ := hdq
  clear hs hs' hd hdp hdq
  go_enter Try.func21, Try.ntmps21
  go_wp2_with (first | ((have g := ob0); clear g; (with_reducible refine box_newX 43 [.slice h'.N.1 h'.N.2.1 h'.N.2.2, .slice h'.B.1 h'.B.2.1 h'.B.2.2, .slice h'.V.1 h'.V.2.1 h'.V.2.2, .slice h'.S.1 h'.S.2.1 h'.S.2.2] rfl ?_); intro b1 W1 N1; have ob1 : w.heap.size ≤ b1 := Nat.le_trans B.size N1.ge; have o0_b1 : b0 < b1 := Nat.lt_of_lt_of_le X0.lt N1.ge; replace X0 := X0.below N1.below; replace c0 := X0.cell; replace B := below_next B N1.below; have X1 := N1.bx; have c1 := X1.cell; clear N1) | ((with_reducible refine box_newX 43 [.slice h.N.1 h.N.2.1 h.N.2.2, .slice h.B.1 h.B.2.1 h.B.2.2, .slice h.V.1 h.V.2.1 h.V.2.2, .slice h.S.1 h.S.2.1 h.S.2.2] rfl ?_); intro b0 W0 N0; have ob0 : w.heap.size ≤ b0 := N0.ge; have B := N0.below; have X0 := N0.bx; have c0 := X0.cell; clear N0) | fail)
  refine (implSame_is h.N.1 h.N.2.1 h.N.2.2 h.B.1 h.B.2.1 h.B.2.2 h'.N.1 h'.N.2.1 h'.N.2.2 h'.B.1 h'.B.2.1 h'.B.2.2 h.V.1 h.V.2.1 h.V.2.2 h'.V.1 h'.V.2.1 h'.V.2.2 h.K h'.K a.1 b.1 a.2.1 b.2.1 _ (x.fo.below B) (y.fo.below B) (x.vo.below B) (y.vo.below B) (Nat.le_trans HZ.out.v (by omega)) (Nat.le_trans HY.out.v (by omega)) (Nat.le_trans HZ.out.n (by omega)) (Nat.le_trans HZ.out.b (by omega)) (fo_lensM x.fo (Nat.le_trans HZ.out.k (by omega))) (Nat.le_trans HY.out.n (by omega)) (Nat.le_trans HY.out.b (by omega)) (fo_lensM y.fo (Nat.le_trans HY.out.k (by omega))) dp HP.out).mono ?_
  rintro e w1 ⟨rfl, BB⟩
  replace X0 := X0.below BB
  replace c0 := X0.cell
  replace X1 := X1.below BB
  replace c1 := X1.cell
  replace B := below_next B BB
  clear BB
  cases dp with
  | false =>
    have e : d = false := by rw [← HD.out]; rfl
    subst e
    clear HD
    go_wp2
    go_ret
    exact ⟨rfl, B⟩
  | true =>
    have e : dq = d := by have := HD.out; simpa using this
    subst e
    clear HD
    go_wp2_with fail
    refine (sessionsEq_i h.S.1 h.S.2.1 h.S.2.2 h'.S.1 h'.S.2.1 h'.S.2.2 a.2.2 b.2.2 _ (x.se.below B) (y.se.below B) (by omega) (by omega) dq HQ.out).mono ?_
    rintro e w2 ⟨rfl, BB⟩
    replace X0 := X0.below BB
    replace c0 := X0.cell
    replace X1 := X1.below BB
    replace c1 := X1.cell
    replace B := below_next B BB
    clear BB
    go_wp2
    go_ret
    exact ⟨rfl, B⟩
set_option maxRecDepth 20000 in
set_option maxHeartbeats 4000000 in
theorem specSM_is {o1 o2 : Bool} {l1 u1 l2 u2 : Nat} (h h' : MacH) (a b : Mac) (w : World) (x : MacAt w o1 l1 u1 h a) (y : MacAt w o2 l2 u2 h' b) (hs : MacSz h a.1 1048576) (hs' : MacSz h' b.1 1048576) (d : Bool) (hd : samM a b = d) :
    Calls Try.prog 20 #[.agg #[.slice h.N.1 h.N.2.1 h.N.2.2, .slice h.B.1 h.B.2.1 h.B.2.2, .slice h.V.1 h.V.2.1 h.V.2.2, .slice h.S.1 h.S.2.1 h.S.2.2], .agg #[.slice h'.N.1 h'.N.2.1 h'.N.2.2, .slice h'.B.1 h'.B.2.1 h'.B.2.2, .slice h'.V.1 h'.V.2.1 h'.V.2.2, .slice h'.S.1 h'.S.2.1 h'.S.2.2]] w fun e w' => e = .returned (.bool d) ∧ Below w.heap.size w w' := by
  have HZ : Hid _ := hs
  have HY : Hid _ := hs'
  have h1 := hs.s
  have h2 := hs'.s
  obtain ⟨dp, hdp⟩ : ∃ q, (decide (a.1 = b.1) && decide (a.2.1 = b.2.1)) = q := ⟨_, rfl⟩
  obtain ⟨dq, hdq⟩ : ∃ q, decide (a.2.2 = b.2.2) = q := ⟨_, rfl⟩
  have HD : Hid ((dp && dq) = d) := by show _ = _; rw [← hd]; unfold samM; rw [hdp, hdq]
  have HP : Hid _ := hdp
  have HQ : Hid _ := hdq
  clear hs hs' hd hdp hdq
  go_enter Try.func20, Try.ntmps20
  go_wp2_with (first | ((have g := ob0); clear g; (with_reducible refine box_newX 43 [.slice h'.N.1 h'.N.2.1 h'.N.2.2, .slice h'.B.1 h'.B.2.1 h'.B.2.2, .slice h'.V.1 h'.V.2.1 h'.V.2.2, .slice h'.S.1 h'.S.2.1 h'.S.2.2] rfl ?_); intro b1 W1 N1; have ob1 : w.heap.size ≤ b1 := Nat.le_trans B.size N1.ge; have o0_b1 : b0 < b1 := Nat.lt_of_lt_of_le X0.lt N1.ge; replace X0 := X0.below N1.below; replace c0 := X0.cell; replace B := below_next B N1.below; have X1 := N1.bx; have c1 := X1.cell; clear N1) | ((with_reducible refine box_newX 43 [.slice h.N.1 h.N.2.1 h.N.2.2, .slice h.B.1 h.B.2.1 h.B.2.2, .slice h.V.1 h.V.2.1 h.V.2.2, .slice h.S.1 h.S.2.1 h.S.2.2] rfl ?_); intro b0 W0 N0; have ob0 : w.heap.size ≤ b0 := N0.ge; have B := N0.below; have X0 := N0.bx; have c0 := X0.cell; clear N0) | fail)
  refine (specSame_is h.N.1 h.N.2.1 h.N.2.2 h.B.1 h.B.2.1 h.B.2.2 h'.N.1 h'.N.2.1 h'.N.2.2 h'.B.1 h'.B.2.1 h'.B.2.2 h.V.1 h.V.2.1 h.V.2.2 h'.V.1 h'.V.2.1 h'.V.2.2 h.K h'.K a.1 b.1 a.2.1 b.2.1 _ (x.fo.below B) (y.fo.below B) (x.vo.below B) (y.vo.below B) (Nat.le_trans HZ.out.v (by omega)) (Nat.le_trans HY.out.v (by omega)) (Nat.le_trans HZ.out.n (by omega)) (Nat.le_trans HZ.out.b (by omega)) (fo_lensM x.fo (Nat.le_trans HZ.out.k (by omega))) (Nat.le_trans HY.out.n (by omega)) (Nat.le_trans HY.out.b (by omega)) (fo_lensM y.fo (Nat.le_trans HY.out.k (by omega))) dp HP.out).mono ?_
  rintro e w1 ⟨rfl, BB⟩
  replace X0 := X0.below BB
  replace c0 := X0.cell
  replace X1 := X1.below BB
  replace c1 := X1.cell
  replace B := below_next B BB
  clear BB
  cases dp with
  | false =>
    have e : d = false := by rw [← HD.out]; rfl
    subst e
    clear HD
    go_wp2
    go_ret
    exact ⟨rfl, B⟩
  | true =>
    have e : dq = d := by have := HD.out; simpa using this
    subst e
    clear HD
    obtain ⟨N, B0, V, ⟨sa, sn, sc⟩, K⟩ := h
    obtain ⟨N', B0', V', ⟨ta, tn, tc⟩, K'⟩ := h'
    have HX : Hid _ := x.se
    have HX2 : Hid _ := y.se
    have hx := x.se.nFours
    have hy := y.se.nFours
    simp only at h1 h2 hx hy
    clear x y
    by_cases hne : sn = tn
    rotate_left 1
    · have hb0 : ((sn : Int) != (tn : Int)) = true := by simp; omega
      have e : dq = false := by rw [← HQ.out]; exact decide_eq_false fun e => hne (by rw [← hx, ← hy, e])
      subst e
      clear HQ
      go_wp2
      go_ret
      exact ⟨rfl, B⟩
    subst hne
    have hb0 : ((sn : Int) != (sn : Int)) = false := by simp
    have HB1 : Hid (Bx w1 b0 [.slice N.1 N.2.1 N.2.2, .slice B0.1 B0.2.1 B0.2.2, .slice V.1 V.2.1 V.2.2, .slice sa sn sc]) := X0
    have HB2 : Hid (Bx w1 b1 [.slice N'.1 N'.2.1 N'.2.2, .slice B0'.1 B0'.2.1 B0'.2.2, .slice V'.1 V'.2.1 V'.2.2, .slice ta sn tc]) := X1
    have HBB : Hid _ := B
    go_wp2
    clear X0 c0 X1 c1 B
    go_loopw [5] (fun i wr => ∃ k : Nat, k ≤ sn ∧ i = .int .i64 k ∧ Hid (∀ j, j < k → a.2.2.getD j se0 = b.2.2.getD j se0) ∧ Below w1.heap.size w1 wr) (fun i _ => sn - (intOf i).toNat)
    case atStart => exact ⟨0, Nat.zero_le _, rfl, fun j hj => absurd hj (Nat.not_lt_zero _), Below.refl _ _⟩
    case round =>
      obtain ⟨k, hk, rfl, HA, hb⟩ := hrel
      have X0 := HB1.out.below hb
      have c0 := X0.cell
      have X1 := HB2.out.below hb
      have c1 := X1.cell
      have hww := below_next HBB.out hb
      by_cases hlt : k < sn
      · have hl : (k : Int) < (sn : Int) := by omega
        have HN : Hid (a.2.2.getD k se0 = b.2.2.getD k se0 → ∀ j, j < k + 1 → a.2.2.getD j se0 = b.2.2.getD j se0) := fun h0 j hj => by
          by_cases e : j = k
          · rw [e]; exact h0
          · exact HA.out j (by omega)
        have HBn : Hid (a.2.2.getD k se0 ≠ b.2.2.getD k se0 → dq = false) := fun h0 => by rw [← HQ.out]; exact decide_eq_false fun e => h0 (by rw [e])
        obtain ⟨p1, o1, ea, _, _, hs1, e0, e1, e2, e3, _⟩ := (HX.out.below hww).four hlt
        subst ea
        obtain ⟨p2, o2, ea, _, _, hs2, f0, f1, f2, f3, _⟩ := (HX2.out.below hww).four hlt
        subst ea
        obtain ⟨⟨x0, x1, x2, x3⟩, hxx⟩ : ∃ x, a.2.2.getD k se0 = x := ⟨_, rfl⟩
        obtain ⟨⟨y0, y1, y2, y3⟩, hyy⟩ : ∃ x, b.2.2.getD k se0 = x := ⟨_, rfl⟩
        rw [hxx] at e0 e1 e2 e3 HN HBn
        rw [hyy] at f0 f1 f2 f3 HN HBn
        simp only at e0 e1 e2 e3 f0 f1 f2 f3
        clear hxx hyy
        obtain ⟨q, hq⟩ : ∃ q, decide (((x0, x1, x2, x3) : Se) = (y0, y1, y2, y3)) = q := ⟨_, rfl⟩
        have HQQ : Hid _ := hq
        have R := run_neSe x0 x1 x2 x3 y0 y1 y2 y3 q hq
        have RG := run_guSe
        clear hq
        go_wp2_with fail
        have D : Below wr.heap.size wr wr.drew := (Below.refl _ _).drew
        replace e0 := cell_later D e0
        replace e1 := cell_later D e1
        replace e2 := cell_later D e2
        replace e3 := cell_later D e3
        replace f0 := cell_later D f0
        replace f1 := cell_later D f1
        replace f2 := cell_later D f2
        replace f3 := cell_later D f3
        replace X0 := X0.below D
        replace c0 := X0.cell
        replace X1 := X1.below D
        replace c1 := X1.cell
        replace hb := below_next hb D
        replace hww := below_next hww D
        clear D
        refine wp_region_held_drew (S := (fun w' => (∀ k_2 : Nat, w'.cell? ⟨b0, k_2, none⟩ = [.slice N.1 N.2.1 N.2.2, .slice B0.1 B0.2.1 B0.2.2, .slice V.1 V.2.1 V.2.2, .slice (some ⟨p1, o1, none⟩) sn sc][k_2]?) ∧ (∀ k_2 : Nat, w'.cell? ⟨b1, k_2, none⟩ = [.slice N'.1 N'.2.1 N'.2.2, .slice B0'.1 B0'.2.1 B0'.2.2, .slice V'.1 V'.2.1 V'.2.2, .slice (some ⟨p2, o2, none⟩) sn tc][k_2]?) ∧ w'.cell? ⟨p1, o1 + k * 4, none⟩ = some (.int .i64 x0) ∧ w'.cell? ⟨p1, o1 + k * 4 + 1, none⟩ = some (.int .i64 x1) ∧ w'.cell? ⟨p1, o1 + k * 4 + 2, none⟩ = some (.int .i64 x2) ∧ w'.cell? ⟨p1, o1 + k * 4 + 3, none⟩ = some (.int .i64 x3) ∧ w'.cell? ⟨p2, o2 + k * 4, none⟩ = some (.int .i64 y0) ∧ w'.cell? ⟨p2, o2 + k * 4 + 1, none⟩ = some (.int .i64 y1) ∧ w'.cell? ⟨p2, o2 + k * 4 + 2, none⟩ = some (.int .i64 y2) ∧ w'.cell? ⟨p2, o2 + k * 4 + 3, none⟩ = some (.int .i64 y3))) (by kernel_rfl) ⟨c0, c1, e0, e1, e2, e3, f0, f1, f2, f3⟩ (fun hHeld => ?_)
        refine wpAnyH_take (i := 0) (v := ?_) rfl (by kernel_rfl) (by kernel_rfl) (by kernel_rfl) (fun _ _ _ h => h) (Or.inl ⟨by rfl, ?_⟩) hHeld ?_
        rotate_left 1
        · intro w hSw
          try dsimp only at hSw
          first | (go_simp; done) | (go_simp; with_reducible rfl)
        simp only [Act.put, List.setIfInBounds_toArray, List.set_cons_zero, List.set_cons_succ, List.getElem_toArray, List.getElem_cons_zero]
        refine wpAnyH_take (i := 1) (v := ?_) rfl (by kernel_rfl) (by kernel_rfl) (by kernel_rfl) (fun _ _ _ h => h) (Or.inl ⟨by rfl, ?_⟩) hHeld ?_
        rotate_left 1
        · intro w hSw
          try dsimp only at hSw
          first | (go_simp; done) | (go_simp; with_reducible rfl)
        simp only [Act.put, List.setIfInBounds_toArray, List.set_cons_zero, List.set_cons_succ, List.getElem_toArray, List.getElem_cons_zero, List.getElem_cons_succ]
        refine wpAnyH_take (i := 2) (v := ?_) rfl (by kernel_rfl) (by kernel_rfl) (by kernel_rfl) (fun _ _ _ h => h) (Or.inl ⟨by rfl, ?_⟩) hHeld ?_
        rotate_left 1
        · intro w hSw
          try dsimp only at hSw
          first | (go_simp; done) | (go_simp; with_reducible rfl)
        simp only [Act.put, List.setIfInBounds_toArray, List.set_cons_zero, List.set_cons_succ, List.getElem_toArray, List.getElem_cons_zero, List.getElem_cons_succ]
        refine wpAnyH_take (i := 3) (v := ?_) rfl (by kernel_rfl) (by kernel_rfl) (by kernel_rfl) (fun _ _ _ h => h) (Or.inl ⟨by rfl, ?_⟩) hHeld ?_
        rotate_left 1
        · intro w hSw
          try dsimp only at hSw
          first | (go_simp; done) | (go_simp; with_reducible rfl)
        simp only [Act.put, List.setIfInBounds_toArray, List.set_cons_zero, List.set_cons_succ, List.getElem_toArray, List.getElem_cons_zero, List.getElem_cons_succ]
        refine wpAnyH_take (i := 4) (v := ?_) rfl (by kernel_rfl) (by kernel_rfl) (by kernel_rfl) (fun _ _ _ h => h) (Or.inl ⟨by rfl, ?_⟩) hHeld ?_
        rotate_left 1
        · intro w hSw
          try dsimp only at hSw
          first | (go_simp; done) | (go_simp; with_reducible rfl)
        simp only [Act.put, List.setIfInBounds_toArray, List.set_cons_zero, List.set_cons_succ, List.getElem_toArray, List.getElem_cons_zero, List.getElem_cons_succ]
        refine wpAnyH_take (i := 5) (v := ?_) rfl (by kernel_rfl) (by kernel_rfl) (by kernel_rfl) (fun _ _ _ h => h) (Or.inl ⟨by rfl, ?_⟩) hHeld ?_
        rotate_left 1
        · intro w hSw
          try dsimp only at hSw
          first | (go_simp; done) | (go_simp; with_reducible rfl)
        simp only [Act.put, List.setIfInBounds_toArray, List.set_cons_zero, List.set_cons_succ, List.getElem_toArray, List.getElem_cons_zero, List.getElem_cons_succ]
        refine wpAnyH_take (i := 6) (v := ?_) rfl (by kernel_rfl) (by kernel_rfl) (by kernel_rfl) (fun _ _ _ h => h) (Or.inl ⟨by rfl, ?_⟩) hHeld ?_
        rotate_left 1
        · intro w hSw
          try dsimp only at hSw
          first | (go_simp; done) | (go_simp; with_reducible rfl)
        simp only [Act.put, List.setIfInBounds_toArray, List.set_cons_zero, List.set_cons_succ, List.getElem_toArray, List.getElem_cons_zero, List.getElem_cons_succ]
        refine wpAnyH_take (i := 7) (v := ?_) rfl (by kernel_rfl) (by kernel_rfl) (by kernel_rfl) (fun _ _ _ h => h) (Or.inl ⟨by rfl, ?_⟩) hHeld ?_
        rotate_left 1
        · intro w hSw
          try dsimp only at hSw
          first | (go_simp; done) | (go_simp; with_reducible rfl)
        simp only [Act.put, List.setIfInBounds_toArray, List.set_cons_zero, List.set_cons_succ, List.getElem_toArray, List.getElem_cons_zero, List.getElem_cons_succ]
        refine wpAnyH_take (i := 8) (v := ?_) rfl (by kernel_rfl) (by kernel_rfl) (by kernel_rfl) (fun _ _ _ h => h) (Or.inl ⟨by rfl, ?_⟩) hHeld ?_
        rotate_left 1
        · intro w hSw
          try dsimp only at hSw
          first | (go_simp; done) | (go_simp; with_reducible rfl)
        simp only [Act.put, List.setIfInBounds_toArray, List.set_cons_zero, List.set_cons_succ, List.getElem_toArray, List.getElem_cons_zero, List.getElem_cons_succ]
        refine wpAnyH_take (i := 9) (v := ?_) rfl (by kernel_rfl) (by kernel_rfl) (by kernel_rfl) (fun _ _ _ h => h) (Or.inl ⟨by rfl, ?_⟩) hHeld ?_
        rotate_left 1
        · intro w hSw
          try dsimp only at hSw
          first | (go_simp; done) | (go_simp; with_reducible rfl)
        simp only [Act.put, List.setIfInBounds_toArray, List.set_cons_zero, List.set_cons_succ, List.getElem_toArray, List.getElem_cons_zero, List.getElem_cons_succ]
        refine wpAnyH_take (i := 10) (v := ?_) rfl (by kernel_rfl) (by kernel_rfl) (by kernel_rfl) (fun _ _ _ h => h) (Or.inl ⟨by rfl, ?_⟩) hHeld ?_
        rotate_left 1
        · intro w hSw
          try dsimp only at hSw
          first | (go_simp; done) | (go_simp; with_reducible rfl)
        simp only [Act.put, List.setIfInBounds_toArray, List.set_cons_zero, List.set_cons_succ, List.getElem_toArray, List.getElem_cons_zero, List.getElem_cons_succ]
        refine wpAnyH_done (by kernel_rfl) ?_ _
        clear e0 e1 e2 e3 f0 f1 f2 f3 R RG
        cases q with
        | true =>
          have HN2 : Hid _ := HN.out (of_decide_eq_true HQQ.out)
          have HW : Hid _ := hb
          clear HN HBn HQQ hb hww
          go_wp2
          go_roundw
          case rel => exact ⟨k + 1, by omega, by go_num, HN2, HW.out⟩
          case measure => simp [intOf]; omega
        | false =>
          have e := HBn.out (of_decide_eq_false HQQ.out)
          subst e
          clear HN HBn HQQ HQ
          go_wp2
          go_ret
          exact ⟨rfl, hww⟩
      · obtain rfl : k = sn := by omega
        have e : dq = true := by rw [← HQ.out]; exact decide_eq_true (list_eq_of se0 hx hy HA.out)
        subst e
        clear HQ
        go_wp2
        go_ret
        exact ⟨rfl, hww⟩

end Go.Proofs.Ytedgppggaceopaa

/- At any two machines the program's SameMachines answers as its model does and writes into no argument: the law FnExactSameMachines is true at every argument, with no condition. -/
namespace Go.Proofs.Ytedgppggaceopaa
open Go.RowKit

set_option maxRecDepth 20000 in
set_option maxHeartbeats 16000000 in
theorem lawSameMachines {own o2 : Bool} (h h' : MacH) (m m' : Mac) (w : World) (x : MacAt w own 0 w.heap.size h m) (x' : MacAt w o2 0 w.heap.size h' m') (hn : h.N.2.1 ≤ maxLen) (hb : h.B.2.1 ≤ maxLen) (hK : ∀ i, i < h.N.2.1 → (h.K i).2.1 ≤ maxLen) (hv : h.V.2.1 ≤ maxLen) (hs : h.S.2.1 ≤ maxLen) (hn' : h'.N.2.1 ≤ maxLen) (hb' : h'.B.2.1 ≤ maxLen) (hK' : ∀ i, i < h'.N.2.1 → (h'.K i).2.1 ≤ maxLen) (hv' : h'.V.2.1 ≤ maxLen) (hs' : h'.S.2.1 ≤ maxLen) : Calls Try.prog 6 #[.agg #[.slice h.N.1 h.N.2.1 h.N.2.2, .slice h.B.1 h.B.2.1 h.B.2.2, .slice h.V.1 h.V.2.1 h.V.2.2, .slice h.S.1 h.S.2.1 h.S.2.2], .agg #[.slice h'.N.1 h'.N.2.1 h'.N.2.2, .slice h'.B.1 h'.B.2.1 h'.B.2.2, .slice h'.V.1 h'.V.2.1 h'.V.2.2, .slice h'.S.1 h'.S.2.1 h'.S.2.2]] w fun e w' => e = .returned (.bool true) ∧ Below w.heap.size w w' := by
  obtain ⟨d, hd⟩ : ∃ d, samM m m' = d := ⟨_, rfl⟩
  have HD : Hid _ := hd
  clear hd
  have hdd : (d != d) = false := by simp
  go_enter Try.func6, Try.ntmps6
  go_wp2_with (first | ((have g := ob0); clear g; (with_reducible refine box_newX 31 [.slice h'.N.1 h'.N.2.1 h'.N.2.2, .slice h'.B.1 h'.B.2.1 h'.B.2.2, .slice h'.V.1 h'.V.2.1 h'.V.2.2, .slice h'.S.1 h'.S.2.1 h'.S.2.2] rfl ?_); intro b1 W1 N1; have ob1 : w.heap.size ≤ b1 := Nat.le_trans B.size N1.ge; have o0_b1 : b0 < b1 := Nat.lt_of_lt_of_le X0.lt N1.ge; replace X0 := X0.below N1.below; replace c0 := X0.cell; replace B := below_next B N1.below; have X1 := N1.bx; have c1 := X1.cell; clear N1) | ((with_reducible refine box_newX 31 [.slice h.N.1 h.N.2.1 h.N.2.2, .slice h.B.1 h.B.2.1 h.B.2.2, .slice h.V.1 h.V.2.1 h.V.2.2, .slice h.S.1 h.S.2.1 h.S.2.2] rfl ?_); intro b0 W0 N0; have ob0 : w.heap.size ≤ b0 := N0.ge; have B := N0.below; have X0 := N0.bx; have c0 := X0.cell; clear N0) | fail)
  refine (szMachine_lt h m _ (x.below B) hn hb hK hv hs 1048576 (by omega) (by omega)).mono ?_
  rintro e w1 ⟨q, rfl, BB, hq⟩
  replace X0 := X0.below BB
  replace c0 := X0.cell
  replace X1 := X1.below BB
  replace c1 := X1.cell
  replace B := below_next B BB
  clear BB
  rcases hq with hq | ⟨hq0, hq1, hz⟩
  · go_wp2
    go_ret
    exact ⟨rfl, B⟩
  have HZ : Hid _ := hz
  have hq' : ¬ q < 0 := by omega
  clear hz
  go_wp2_with fail
  refine (szMachine_lt h' m' _ (x'.below B) hn' hb' hK' hv' hs' q hq0 (by omega)).mono ?_
  rintro e w2 ⟨r, rfl, BB, hr⟩
  replace X0 := X0.below BB
  replace c0 := X0.cell
  replace X1 := X1.below BB
  replace c1 := X1.cell
  replace B := below_next B BB
  clear BB
  rcases hr with hr | ⟨hr0, hr1, hz⟩
  · go_wp2
    go_ret
    exact ⟨rfl, B⟩
  have HY : Hid _ := hz
  have hr' : ¬ r < 0 := by omega
  clear hz hq0 hq1 hr0 hr1
  go_wp2_with fail
  have DQ : Below w2.heap.size w2 w2.drew := (Below.refl _ _).drew
  replace X0 := X0.below DQ
  replace c0 := X0.cell
  replace X1 := X1.below DQ
  replace c1 := X1.cell
  replace B := below_next B DQ
  clear DQ
  refine wp_region_held_drew (S := (fun w' => (∀ k : Nat, w'.cell? ⟨b0, k, none⟩ = [.slice h.N.1 h.N.2.1 h.N.2.2, .slice h.B.1 h.B.2.1 h.B.2.2, .slice h.V.1 h.V.2.1 h.V.2.2, .slice h.S.1 h.S.2.1 h.S.2.2][k]?) ∧ (∀ k : Nat, w'.cell? ⟨b1, k, none⟩ = [.slice h'.N.1 h'.N.2.1 h'.N.2.2, .slice h'.B.1 h'.B.2.1 h'.B.2.2, .slice h'.V.1 h'.V.2.1 h'.V.2.2, .slice h'.S.1 h'.S.2.1 h'.S.2.2][k]?))) (by kernel_rfl) ⟨c0, c1⟩ (fun hHeld => ?_)
  refine wpAnyH_take (i := 0) (v := ?_) rfl (by kernel_rfl) (by kernel_rfl) (by kernel_rfl) (fun _ _ _ h => h) (Or.inl ⟨by rfl, ?_⟩) hHeld ?_
  rotate_left 1
  · intro w hSw
    try dsimp only at hSw
    first | (go_simp; done) | (go_simp; with_reducible rfl)
  simp only [Act.put, List.setIfInBounds_toArray, List.set_cons_zero, List.set_cons_succ, List.getElem_toArray, List.getElem_cons_zero]
  refine wpAnyH_take (i := 2) (v := ?_) rfl (by kernel_rfl) (by kernel_rfl) (by kernel_rfl) (fun _ _ _ h => h) (Or.inl ⟨by rfl, ?_⟩) hHeld ?_
  rotate_left 1
  · intro w hSw
    try dsimp only at hSw
    first | (go_simp; done) | (go_simp; with_reducible rfl)
  simp only [Act.put, List.setIfInBounds_toArray, List.set_cons_zero, List.set_cons_succ, List.getElem_toArray, List.getElem_cons_zero, List.getElem_cons_succ]
  refine wpAnyH_ready (rs := [1]) (by kernel_rfl) (by simp) ?_
  refine AllReadyH.cons rfl (fun KK hKK => ?_) AllReadyH.nil
  go_simp
  go_at_call 9
  refine (toMachine_any h m _ (x.below B) HZ.out).mono ?_
  rintro e v1 ⟨z9, u9, h9, rfl, _, _, y9, s9, BB⟩
  replace X0 := X0.below BB
  replace c0 := X0.cell
  replace X1 := X1.below BB
  replace c1 := X1.cell
  replace B := below_next B BB
  clear BB
  clear hHeld
  refine hKK _ _ ⟨c0, c1⟩ (fun hHeld => ?_)
  clear hKK KK
  refine wpAnyH_ready (rs := [3]) (by kernel_rfl) (by simp) ?_
  refine AllReadyH.cons rfl (fun KK hKK => ?_) AllReadyH.nil
  go_simp
  go_at_call 9
  refine (toMachine_any h' m' _ (x'.below B) HY.out).mono ?_
  rintro e v2 ⟨z8, u8, h8, rfl, _, _, y8, s8, BB⟩
  replace X0 := X0.below BB
  replace c0 := X0.cell
  replace X1 := X1.below BB
  replace c1 := X1.cell
  replace B := below_next B BB
  replace y9 := y9.below BB
  clear BB
  clear hHeld
  refine hKK _ _ ⟨c0, c1⟩ (fun hHeld => ?_)
  clear hKK KK
  refine wpAnyH_ready (rs := [4]) (by kernel_rfl) (by simp) ?_
  refine AllReadyH.cons rfl (fun KK hKK => ?_) AllReadyH.nil
  go_simp
  go_at_call 20
  refine (specSM_is h9 h8 m m' _ y9 y8 s9 s8 d HD.out).mono ?_
  rintro e v3 ⟨rfl, BB⟩
  replace X0 := X0.below BB
  replace c0 := X0.cell
  replace X1 := X1.below BB
  replace c1 := X1.cell
  replace B := below_next B BB
  clear y9 y8 s9 s8
  clear BB
  clear hHeld
  refine hKK _ _ ⟨c0, c1⟩ (fun hHeld => ?_)
  clear hKK KK
  refine wpAnyH_take (i := 5) (v := ?_) rfl (by kernel_rfl) (by kernel_rfl) (by kernel_rfl) (fun _ _ _ h => h) (Or.inl ⟨by rfl, ?_⟩) hHeld ?_
  rotate_left 1
  · intro w hSw
    try dsimp only at hSw
    first | (go_simp; done) | (go_simp; with_reducible rfl)
  simp only [Act.put, List.setIfInBounds_toArray, List.set_cons_zero, List.set_cons_succ, List.getElem_toArray, List.getElem_cons_zero, List.getElem_cons_succ]
  refine wpAnyH_done (by kernel_rfl) ?_ _
  go_wp2_with fail
  refine (toMachine_any h m _ (x.below B) HZ.out).mono ?_
  rintro e w4 ⟨zY, uY, h2, rfl, GzY, hy1, y1, z1', BB⟩
  have ozY : w.heap.size ≤ zY := Nat.le_trans B.size GzY
  have o0_zY : b0 < zY := Nat.lt_of_lt_of_le X0.lt GzY
  have o1_zY : b1 < zY := Nat.lt_of_lt_of_le X1.lt GzY
  clear GzY
  replace X0 := X0.below BB
  replace c0 := X0.cell
  replace X1 := X1.below BB
  replace c1 := X1.cell
  replace B := below_next B BB
  have HZ2 : Hid _ := z1'
  clear z1'
  clear BB
  go_wp2_with (first | ((with_reducible refine store_midX 43 X2 0 [.slice h2.N.1 h2.N.2.1 h2.N.2.2, .slice h2.B.1 h2.B.2.1 h2.B.2.2, .slice h2.V.1 h2.V.2.1 h2.V.2.2, .slice h2.S.1 h2.S.2.1 h2.S.2.2] (by simp) (by kernel_rfl) (by simp [Value.oneCell']) rfl rfl ?_); intro V1 S; replace X0 := X0.kept S.kept (by omega); replace c0 := X0.cell; replace X1 := X1.kept S.kept (by omega); replace c1 := X1.cell; replace X2 : Bx V1 b2 [.slice h2.N.1 h2.N.2.1 h2.N.2.2, .slice h2.B.1 h2.B.2.1 h2.B.2.2, .slice h2.V.1 h2.V.2.1 h2.V.2.2, .slice h2.S.1 h2.S.2.1 h2.S.2.2] := S.bx; replace c2 := X2.cell; replace f2 := X2.froz; replace y1 := y1.kept S.kept (by omega); replace hy1 := Nat.le_trans hy1 S.kept.size; replace B := B.trans (S.kept.below _ (by omega) B.size); clear S) | ((have g := ob1); clear g; (with_reducible refine alloc_newX 43 [.slice none 0 0, .slice none 0 0, .slice none 0 0, .slice none 0 0] (fun _ => by kernel_rfl) ?_); intro b2 W2 N2; have ob2 : w.heap.size ≤ b2 := Nat.le_trans B.size N2.ge; have o0_b2 : b0 < b2 := Nat.lt_of_lt_of_le X0.lt N2.ge; have o1_b2 : b1 < b2 := Nat.lt_of_lt_of_le X1.lt N2.ge; have oy1_b2 : uY ≤ b2 := Nat.le_trans hy1 N2.ge; replace X0 := X0.below N2.below; replace c0 := X0.cell; replace X1 := X1.below N2.below; replace c1 := X1.cell; replace y1 := y1.below N2.below; replace hy1 := Nat.le_trans hy1 N2.below.size; replace B := below_next B N2.below; have X2 := N2.bx; have c2 := X2.cell; have f2 := X2.froz; clear N2) | fail)
  refine (toMachine_any h' m' _ (x'.below B) HY.out).mono ?_
  rintro e w5 ⟨zX, uX, h3, rfl, GzX, hy2, y2, z2', BB⟩
  have ozX : w.heap.size ≤ zX := Nat.le_trans B.size GzX
  have o0_zX : b0 < zX := Nat.lt_of_lt_of_le X0.lt GzX
  have o1_zX : b1 < zX := Nat.lt_of_lt_of_le X1.lt GzX
  have o2_zX : b2 < zX := Nat.lt_of_lt_of_le X2.lt GzX
  have oy1_zX : uY ≤ zX := Nat.le_trans hy1 GzX
  clear GzX
  replace X0 := X0.below BB
  replace c0 := X0.cell
  replace X1 := X1.below BB
  replace c1 := X1.cell
  replace X2 := X2.below BB
  replace c2 := X2.cell
  replace f2 := X2.froz
  replace y1 := y1.below BB
  replace hy1 := Nat.le_trans hy1 BB.size
  replace B := below_next B BB
  have HY2 : Hid _ := z2'
  clear z2'
  clear BB
  go_wp2_with (first | ((with_reducible refine store_midX 43 X3 0 [.slice h3.N.1 h3.N.2.1 h3.N.2.2, .slice h3.B.1 h3.B.2.1 h3.B.2.2, .slice h3.V.1 h3.V.2.1 h3.V.2.2, .slice h3.S.1 h3.S.2.1 h3.S.2.2] (by simp) (by kernel_rfl) (by simp [Value.oneCell']) rfl rfl ?_); intro V2 S; replace X0 := X0.kept S.kept (by omega); replace c0 := X0.cell; replace X1 := X1.kept S.kept (by omega); replace c1 := X1.cell; replace X2 := X2.kept S.kept (by omega); replace c2 := X2.cell; replace f2 := X2.froz; replace X3 : Bx V2 b3 [.slice h3.N.1 h3.N.2.1 h3.N.2.2, .slice h3.B.1 h3.B.2.1 h3.B.2.2, .slice h3.V.1 h3.V.2.1 h3.V.2.2, .slice h3.S.1 h3.S.2.1 h3.S.2.2] := S.bx; replace c3 := X3.cell; replace f3 := X3.froz; replace y1 := y1.kept S.kept (by omega); replace hy1 := Nat.le_trans hy1 S.kept.size; replace y2 := y2.kept S.kept (by omega); replace hy2 := Nat.le_trans hy2 S.kept.size; replace B := B.trans (S.kept.below _ (by omega) B.size); clear S) | ((have g := ob2); clear g; (with_reducible refine alloc_newX 43 [.slice none 0 0, .slice none 0 0, .slice none 0 0, .slice none 0 0] (fun _ => by kernel_rfl) ?_); intro b3 W3 N3; have ob3 : w.heap.size ≤ b3 := Nat.le_trans B.size N3.ge; have o0_b3 : b0 < b3 := Nat.lt_of_lt_of_le X0.lt N3.ge; have o1_b3 : b1 < b3 := Nat.lt_of_lt_of_le X1.lt N3.ge; have o2_b3 : b2 < b3 := Nat.lt_of_lt_of_le X2.lt N3.ge; have oy1_b3 : uY ≤ b3 := Nat.le_trans hy1 N3.ge; have oy2_b3 : uX ≤ b3 := Nat.le_trans hy2 N3.ge; replace X0 := X0.below N3.below; replace c0 := X0.cell; replace X1 := X1.below N3.below; replace c1 := X1.cell; replace X2 := X2.below N3.below; replace c2 := X2.cell; replace f2 := X2.froz; replace y1 := y1.below N3.below; replace hy1 := Nat.le_trans hy1 N3.below.size; replace y2 := y2.below N3.below; replace hy2 := Nat.le_trans hy2 N3.below.size; replace B := below_next B N3.below; have X3 := N3.bx; have c3 := X3.cell; have f3 := X3.froz; clear N3) | fail)
  refine (implSM_is h2 h3 m m' _ y1 y2 HZ2.out HY2.out d HD.out).mono ?_
  rintro e w6 ⟨rfl, BB⟩
  replace X0 := X0.below BB
  replace c0 := X0.cell
  replace X1 := X1.below BB
  replace c1 := X1.cell
  replace X2 := X2.below BB
  replace c2 := X2.cell
  replace f2 := X2.froz
  replace X3 := X3.below BB
  replace c3 := X3.cell
  replace f3 := X3.froz
  replace y1 := y1.below BB
  replace hy1 := Nat.le_trans hy1 BB.size
  replace y2 := y2.below BB
  replace hy2 := Nat.le_trans hy2 BB.size
  replace B := below_next B BB
  clear BB
  go_wp2_with fail
  have DQ : Below w6.heap.size w6 w6.drew := (Below.refl _ _).drew
  replace X0 := X0.below DQ
  replace c0 := X0.cell
  replace X1 := X1.below DQ
  replace c1 := X1.cell
  replace X2 := X2.below DQ
  replace c2 := X2.cell
  replace f2 := X2.froz
  replace X3 := X3.below DQ
  replace c3 := X3.cell
  replace f3 := X3.froz
  replace y1 := y1.below DQ
  replace hy1 := Nat.le_trans hy1 DQ.size
  replace y2 := y2.below DQ
  replace hy2 := Nat.le_trans hy2 DQ.size
  replace B := below_next B DQ
  clear DQ
  refine wp_region_held_drew (S := (fun w' => (∀ k : Nat, w'.cell? ⟨b0, k, none⟩ = [.slice h.N.1 h.N.2.1 h.N.2.2, .slice h.B.1 h.B.2.1 h.B.2.2, .slice h.V.1 h.V.2.1 h.V.2.2, .slice h.S.1 h.S.2.1 h.S.2.2][k]?) ∧ (∀ k : Nat, w'.cell? ⟨b2, k, none⟩ = [.slice h2.N.1 h2.N.2.1 h2.N.2.2, .slice h2.B.1 h2.B.2.1 h2.B.2.2, .slice h2.V.1 h2.V.2.1 h2.V.2.2, .slice h2.S.1 h2.S.2.1 h2.S.2.2][k]?))) (by kernel_rfl) ⟨c0, c2⟩ (fun hHeld => ?_)
  refine wpAnyH_take (i := 0) (v := ?_) rfl (by kernel_rfl) (by kernel_rfl) (by kernel_rfl) (fun _ _ _ h => h) (Or.inl ⟨by rfl, ?_⟩) hHeld ?_
  rotate_left 1
  · intro w hSw
    try dsimp only at hSw
    first | (go_simp; done) | (go_simp; with_reducible rfl)
  simp only [Act.put, List.setIfInBounds_toArray, List.set_cons_zero, List.set_cons_succ, List.getElem_toArray, List.getElem_cons_zero]
  refine wpAnyH_take (i := 1) (v := ?_) rfl (by kernel_rfl) (by kernel_rfl) (by kernel_rfl) (fun _ _ _ h => h) (Or.inl ⟨by rfl, ?_⟩) hHeld ?_
  rotate_left 1
  · intro w hSw
    try dsimp only at hSw
    first | (go_simp; done) | (go_simp; with_reducible rfl)
  simp only [Act.put, List.setIfInBounds_toArray, List.set_cons_zero, List.set_cons_succ, List.getElem_toArray, List.getElem_cons_zero, List.getElem_cons_succ]
  refine wpAnyH_ready (rs := [2]) (by kernel_rfl) (by simp) ?_
  refine AllReadyH.cons rfl (fun KK hKK => ?_) AllReadyH.nil
  go_simp
  go_at_call 9
  refine (toMachine_any h m _ (x.below B) HZ.out).mono ?_
  rintro e v4 ⟨z9, u9, h9, rfl, _, _, y9, _, BB⟩
  replace X0 := X0.below BB
  replace c0 := X0.cell
  replace X1 := X1.below BB
  replace c1 := X1.cell
  replace X2 := X2.below BB
  replace c2 := X2.cell
  replace f2 := X2.froz
  replace X3 := X3.below BB
  replace c3 := X3.cell
  replace f3 := X3.froz
  replace y1 := y1.below BB
  replace hy1 := Nat.le_trans hy1 BB.size
  replace y2 := y2.below BB
  replace hy2 := Nat.le_trans hy2 BB.size
  replace B := below_next B BB
  clear BB
  clear hHeld
  refine hKK _ _ ⟨c0, c2⟩ (fun hHeld => ?_)
  clear hKK KK
  refine wpAnyH_ready (rs := [3]) (by kernel_rfl) (by simp) ?_
  refine AllReadyH.cons rfl (fun KK hKK => ?_) AllReadyH.nil
  go_simp
  go_at_call 11
  refine (eqMachine_yes h2 h9 m _ y1 y9 (HZ2.out.mono (by omega))).mono ?_
  rintro e v5 ⟨rfl, BB⟩
  replace X0 := X0.below BB
  replace c0 := X0.cell
  replace X1 := X1.below BB
  replace c1 := X1.cell
  replace X2 := X2.below BB
  replace c2 := X2.cell
  replace f2 := X2.froz
  replace X3 := X3.below BB
  replace c3 := X3.cell
  replace f3 := X3.froz
  replace y1 := y1.below BB
  replace hy1 := Nat.le_trans hy1 BB.size
  replace y2 := y2.below BB
  replace hy2 := Nat.le_trans hy2 BB.size
  replace B := below_next B BB
  clear y9
  clear BB
  clear hHeld
  refine hKK _ _ ⟨c0, c2⟩ (fun hHeld => ?_)
  clear hKK KK
  refine wpAnyH_take (i := 4) (v := ?_) rfl (by kernel_rfl) (by kernel_rfl) (by kernel_rfl) (fun _ _ _ h => h) (Or.inl ⟨by rfl, ?_⟩) hHeld ?_
  rotate_left 1
  · intro w hSw
    try dsimp only at hSw
    first | (go_simp; done) | (go_simp; with_reducible rfl)
  simp only [Act.put, List.setIfInBounds_toArray, List.set_cons_zero, List.set_cons_succ, List.getElem_toArray, List.getElem_cons_zero, List.getElem_cons_succ]
  refine wpAnyH_done (by kernel_rfl) ?_ _
  go_wp2_with fail
  have DQ : Below v5.heap.size v5 v5.drew := (Below.refl _ _).drew
  replace X0 := X0.below DQ
  replace c0 := X0.cell
  replace X1 := X1.below DQ
  replace c1 := X1.cell
  replace X2 := X2.below DQ
  replace c2 := X2.cell
  replace f2 := X2.froz
  replace X3 := X3.below DQ
  replace c3 := X3.cell
  replace f3 := X3.froz
  replace y1 := y1.below DQ
  replace hy1 := Nat.le_trans hy1 DQ.size
  replace y2 := y2.below DQ
  replace hy2 := Nat.le_trans hy2 DQ.size
  replace B := below_next B DQ
  clear DQ
  refine wp_region_held_drew (S := (fun w' => (∀ k : Nat, w'.cell? ⟨b1, k, none⟩ = [.slice h'.N.1 h'.N.2.1 h'.N.2.2, .slice h'.B.1 h'.B.2.1 h'.B.2.2, .slice h'.V.1 h'.V.2.1 h'.V.2.2, .slice h'.S.1 h'.S.2.1 h'.S.2.2][k]?) ∧ (∀ k : Nat, w'.cell? ⟨b3, k, none⟩ = [.slice h3.N.1 h3.N.2.1 h3.N.2.2, .slice h3.B.1 h3.B.2.1 h3.B.2.2, .slice h3.V.1 h3.V.2.1 h3.V.2.2, .slice h3.S.1 h3.S.2.1 h3.S.2.2][k]?))) (by kernel_rfl) ⟨c1, c3⟩ (fun hHeld => ?_)
  refine wpAnyH_take (i := 0) (v := ?_) rfl (by kernel_rfl) (by kernel_rfl) (by kernel_rfl) (fun _ _ _ h => h) (Or.inl ⟨by rfl, ?_⟩) hHeld ?_
  rotate_left 1
  · intro w hSw
    try dsimp only at hSw
    first | (go_simp; done) | (go_simp; with_reducible rfl)
  simp only [Act.put, List.setIfInBounds_toArray, List.set_cons_zero, List.set_cons_succ, List.getElem_toArray, List.getElem_cons_zero]
  refine wpAnyH_take (i := 1) (v := ?_) rfl (by kernel_rfl) (by kernel_rfl) (by kernel_rfl) (fun _ _ _ h => h) (Or.inl ⟨by rfl, ?_⟩) hHeld ?_
  rotate_left 1
  · intro w hSw
    try dsimp only at hSw
    first | (go_simp; done) | (go_simp; with_reducible rfl)
  simp only [Act.put, List.setIfInBounds_toArray, List.set_cons_zero, List.set_cons_succ, List.getElem_toArray, List.getElem_cons_zero, List.getElem_cons_succ]
  refine wpAnyH_ready (rs := [2]) (by kernel_rfl) (by simp) ?_
  refine AllReadyH.cons rfl (fun KK hKK => ?_) AllReadyH.nil
  go_simp
  go_at_call 9
  refine (toMachine_any h' m' _ (x'.below B) HY.out).mono ?_
  rintro e v6 ⟨z9, u9, h9, rfl, _, _, y9, _, BB⟩
  replace X0 := X0.below BB
  replace c0 := X0.cell
  replace X1 := X1.below BB
  replace c1 := X1.cell
  replace X2 := X2.below BB
  replace c2 := X2.cell
  replace f2 := X2.froz
  replace X3 := X3.below BB
  replace c3 := X3.cell
  replace f3 := X3.froz
  replace y1 := y1.below BB
  replace hy1 := Nat.le_trans hy1 BB.size
  replace y2 := y2.below BB
  replace hy2 := Nat.le_trans hy2 BB.size
  replace B := below_next B BB
  clear BB
  clear hHeld
  refine hKK _ _ ⟨c1, c3⟩ (fun hHeld => ?_)
  clear hKK KK
  refine wpAnyH_ready (rs := [3]) (by kernel_rfl) (by simp) ?_
  refine AllReadyH.cons rfl (fun KK hKK => ?_) AllReadyH.nil
  go_simp
  go_at_call 11
  refine (eqMachine_yes h3 h9 m' _ y2 y9 (HY2.out.mono (by omega))).mono ?_
  rintro e v7 ⟨rfl, BB⟩
  replace X0 := X0.below BB
  replace c0 := X0.cell
  replace X1 := X1.below BB
  replace c1 := X1.cell
  replace X2 := X2.below BB
  replace c2 := X2.cell
  replace f2 := X2.froz
  replace X3 := X3.below BB
  replace c3 := X3.cell
  replace f3 := X3.froz
  replace y1 := y1.below BB
  replace hy1 := Nat.le_trans hy1 BB.size
  replace y2 := y2.below BB
  replace hy2 := Nat.le_trans hy2 BB.size
  replace B := below_next B BB
  clear y9
  clear BB
  clear hHeld
  refine hKK _ _ ⟨c1, c3⟩ (fun hHeld => ?_)
  clear hKK KK
  refine wpAnyH_take (i := 4) (v := ?_) rfl (by kernel_rfl) (by kernel_rfl) (by kernel_rfl) (fun _ _ _ h => h) (Or.inl ⟨by rfl, ?_⟩) hHeld ?_
  rotate_left 1
  · intro w hSw
    try dsimp only at hSw
    first | (go_simp; done) | (go_simp; with_reducible rfl)
  simp only [Act.put, List.setIfInBounds_toArray, List.set_cons_zero, List.set_cons_succ, List.getElem_toArray, List.getElem_cons_zero, List.getElem_cons_succ]
  refine wpAnyH_done (by kernel_rfl) ?_ _
  go_wp2
  go_ret
  exact ⟨rfl, B⟩

open Go.ChangeShapes Go.WideShapes Go.ChangeAt Go.Joins

set_option maxRecDepth 100000 in
theorem liftedSameMachines (os : Os) (started : os.Started) (H : Type) (enc : TypeId × Value → H) :
    ReturnsInHanded {} Try.checked os 6 .any (Rows.fnExactSameMachinesSpec.pre6 enc Try.prog Try.f6 Rows.fnExactSameMachinesRow.domain false) (Rows.fnExactSameMachinesSpec.post enc Try.prog Try.f6 false true false false) := by
  refine returnsInHanded_of_change (C := Try.checked) Try.own started (by kernel_rfl) Try.func6
    (ChangeSpec.witness6 (enc := enc) (C := Try.checked) false ⟨#[], #[.agg #[.slice none 0 0, .slice none 0 0, .slice none 0 0, .slice none 0 0], .agg #[.slice none 0 0, .slice none 0 0, .slice none 0 0, .slice none 0 0]], []⟩ 8 (by kernel_rfl) (by kernel_rfl) (by kernel_rfl) (by kernel_rfl)) ?_
  intro W base args ds gs before hval0 hW hcnd _
  have hval : ∀ (j : Nat) t v, Try.f6.params[j]? = some t → args[j]? = some v → Value.okWide Try.prog W .any base t v := hval0
  have hW' := hW
  obtain ⟨p, q, hA0, hV, rfl, hfz, hnd⟩ := hW
  have hA : DataW.TrodAll enc Try.prog W 0 (fun _ => true) true Try.f6.params.toList args.toList ds p := hA0
  rw [Try.params6] at hA hval
  obtain ⟨v0, vs0, d0, ds0, p0, q0, hargs, rfl, rfl, h0, r0⟩ := trodAll_cons hA
  obtain ⟨v1, vs1, d1, ds1, p1, q1, rfl, rfl, rfl, h1, r1⟩ := trodAll_cons r0
  obtain ⟨rfl, rfl, rfl⟩ := trodAll_nil r1
  obtain rfl : args = #[v0, v1] := by cases args; simp_all
  obtain ⟨rfl, rfl⟩ := trodVars_none hV
  have lt0 : ∀ x ∈ p0, x.block < W.heap.size := by obtain ⟨m, hm⟩ := h0; exact DataW.trod_lt m _ _ _ hm
  have k0 := h0
  obtain ⟨e00, e10, e20, e30, y00, y10, y20, y30, m0, m'0, m''0, rfl, hy00, hy10, hy20, hy30⟩ := open_machine Try.underlying31 rfl rfl Try.cellsPool Try.cellsSessions Try.cellsMachine Try.underlying28 rfl rfl Try.cellsForest Try.cellsVols Try.underlying25 rfl rfl Try.cellsNodes Try.cellsBlocks (hval 0 31 v0 rfl rfl) h0
  obtain ⟨an0, nn0, cn0, Kf0, ns0, rfl, hnf0, hKf0, sn0⟩ := read_nodes Try.underlying22 Try.underlying140 Try.cellsNode rfl rfl rfl Try.underlying2 Try.underlying4 Try.underlying107 Try.underlying2 Try.cellsInt Try.cellsBool Try.cellsInts Try.cellsInt hy00
  obtain ⟨ab0, nb0, cb0, bs0, rfl, hmf0, sbk0⟩ := read_pairs Try.underlying23 Try.underlying146 Try.cellsBlock rfl rfl Try.underlying2 Try.underlying2 Try.cellsInt Try.cellsInt hy10
  obtain ⟨av0, nv0, cv0, vs0, rfl, hvf0, sv0⟩ := read_vols Try.underlying26 Try.underlying121 Try.cellsVol rfl rfl rfl Try.underlying2 Try.underlying2 Try.underlying2 Try.cellsInt Try.cellsInt Try.cellsInt hy20
  obtain ⟨aq0, nz0, cz0, ss0, rfl, hsf0, sz0⟩ := read_sessions Try.underlying29 Try.sesTy hy30
  have mx0 : MacAt W false 0 W.heap.size ⟨(an0, nn0, cn0), (ab0, nb0, cb0), (av0, nv0, cv0), (aq0, nz0, cz0), Kf0⟩ ((ns0, bs0), vs0, ss0) := ⟨⟨sn0, sbk0, fun hx => by cases hx⟩, sv0, sz0⟩
  have lt1 : ∀ x ∈ p1, x.block < W.heap.size := by obtain ⟨m, hm⟩ := h1; exact DataW.trod_lt m _ _ _ hm
  have k1 := h1
  obtain ⟨e01, e11, e21, e31, y01, y11, y21, y31, m1, m'1, m''1, rfl, hy01, hy11, hy21, hy31⟩ := open_machine Try.underlying31 rfl rfl Try.cellsPool Try.cellsSessions Try.cellsMachine Try.underlying28 rfl rfl Try.cellsForest Try.cellsVols Try.underlying25 rfl rfl Try.cellsNodes Try.cellsBlocks (hval 1 31 v1 rfl rfl) h1
  obtain ⟨an1, nn1, cn1, Kf1, ns1, rfl, hnf1, hKf1, sn1⟩ := read_nodes Try.underlying22 Try.underlying140 Try.cellsNode rfl rfl rfl Try.underlying2 Try.underlying4 Try.underlying107 Try.underlying2 Try.cellsInt Try.cellsBool Try.cellsInts Try.cellsInt hy01
  obtain ⟨ab1, nb1, cb1, bs1, rfl, hmf1, sbk1⟩ := read_pairs Try.underlying23 Try.underlying146 Try.cellsBlock rfl rfl Try.underlying2 Try.underlying2 Try.cellsInt Try.cellsInt hy11
  obtain ⟨av1, nv1, cv1, vs1, rfl, hvf1, sv1⟩ := read_vols Try.underlying26 Try.underlying121 Try.cellsVol rfl rfl rfl Try.underlying2 Try.underlying2 Try.underlying2 Try.cellsInt Try.cellsInt Try.cellsInt hy21
  obtain ⟨aq1, nz1, cz1, ss1, rfl, hsf1, sz1⟩ := read_sessions Try.underlying29 Try.sesTy hy31
  have mx1 : MacAt W false 0 W.heap.size ⟨(an1, nn1, cn1), (ab1, nb1, cb1), (av1, nv1, cv1), (aq1, nz1, cz1), Kf1⟩ ((ns1, bs1), vs1, ss1) := ⟨⟨sn1, sbk1, fun hx => by cases hx⟩, sv1, sz1⟩
  clear hA0 hval0
  refine (lawSameMachines ⟨(an0, nn0, cn0), (ab0, nb0, cb0), (av0, nv0, cv0), (aq0, nz0, cz0), Kf0⟩ ⟨(an1, nn1, cn1), (ab1, nb1, cb1), (av1, nv1, cv1), (aq1, nz1, cz1), Kf1⟩ ((ns0, bs0), vs0, ss0) ((ns1, bs1), vs1, ss1) W mx0 mx1 hnf0 hmf0 hKf0 hvf0 hsf0 hnf1 hmf1 hKf1 hvf1 hsf1).mono fun e W' ⟨he, bel⟩ => ?_
  subst he
  exact ⟨_, rfl, _, _, _, [], _, [], hW', trodAll_mk1 (shut_bool Try.underlying4 _), (trodAll_cons_mk (Below.trod Try.laidOut (by kernel_rfl) (of_decide_eq_true (by kernel_rfl)) k0 bel lt0) (trodAll_cons_mk (Below.trod Try.laidOut (by kernel_rfl) (of_decide_eq_true (by kernel_rfl)) k1 bel lt1) trodAll_mk0)), rfl, bel.frame _, fun h => by cases h⟩

set_option maxRecDepth 100000 in
set_option maxHeartbeats 0 in
theorem closedSameMachines : joinedFacts Try.prog 6 Try.f6 Rows.fnExactSameMachinesSpec Rows.fnExactSameMachinesRow = true := by
  have q1 : (Rows.fnExactSameMachinesRow.inPlace == Try.prog.inPlace 6) = true := by rw [inPlace_at leads_is inp_is]; kernel_rfl
  have q2 : (Rows.fnExactSameMachinesRow.unfollowed == Try.prog.unfollowed 6) = true := by rw [unfollowed_at leads_is unf_is]; kernel_rfl
  have q3 : (Rows.fnExactSameMachinesRow.recurses == Try.prog.recurses 6) = true := (by rw [recurses_unf leads_is (by rw [unfollowed_at leads_is unf_is]; kernel_rfl)]; rfl)
  have q4 : (Rows.fnExactSameMachinesRow.named == Try.prog.varsNamed 6) = true := by rw [varsNamed_at leads_is var_ok ent_is]; kernel_rfl
  have q5 : (Try.prog.make == some Rows.fnExactSameMachinesRow.make) = true := by rw [made_cut]; rfl
  have q6 : (Rows.fnExactSameMachinesRow.lifted == Try.prog.liftsFinal) = true := by rw [lifts_no]; rfl
  have q7 : Try.prog.mayEnter = true := may_enter
  have q8 : laidOutB Try.prog = true := Try.laidOut
  unfold joinedFacts
  repeat' (with_reducible refine Bool.and_eq_true_iff.2 ⟨?_, ?_⟩)
  all_goals (first | with_reducible exact q1 | with_reducible exact q2 | with_reducible exact q3 | with_reducible exact q4 | with_reducible exact q5 | with_reducible exact q6 | with_reducible exact q7 | with_reducible exact q8 | (as_aux_lemma => kernel_rfl))

theorem sameMachines_holds : Rows.FnExactSameMachinesSaid :=
  OpenClaim.holds_of_wide 6 Try.f6 rfl rfl rfl rfl rfl rfl rfl ⟨rfl, rfl, rfl, rfl, rfl⟩ rfl rfl rfl rfl rfl (by as_aux_lemma => kernel_rfl) Try.func6 closedSameMachines
    (of_decide_eq_true (by as_aux_lemma => kernel_rfl)) (by unfold Func.isWrapper; first | (rw [if_pos (by decide +kernel)]; kernel_rfl) | (rw [if_neg (by decide +kernel)]; exact ⟨rfl, rfl⟩))
    (fun os started H enc _ => liftedSameMachines os started H enc)

#print axioms sameMachines_holds

end Go.Proofs.Ytedgppggaceopaa

