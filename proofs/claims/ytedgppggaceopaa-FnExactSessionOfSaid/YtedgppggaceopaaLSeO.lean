/- At every machine and client the program's SessionOf answers as its model does, every field, and writes into no argument: the law FnExactSessionOf is true at every argument, with no condition. -/
import Derived.Test.YtedgppggaceopaaBase
import Derived.Test.YtedgppggaceopaaZT
import Derived.Test.YtedgppggaceopaaCopy
import Derived.Test.YtedgppggaceopaaMark
import Derived.Test.YtedgppggaceopaaEq
import Derived.Test.YtedgppggaceopaaMark2
import Derived.Test.YtedgppggaceopaaBC
import Derived.Test.YtedgppggaceopaaSm
import Derived.Test.YtedgppggaceopaaPutS
import Derived.Test.YtedgppggaceopaaFacts
import Derived.Test.YtedgppggaceopaaZM
import Derived.Test.YtedgppggaceopaaYE
import Derived.Test.YtedgppggaceopaaP1
import Derived.Test.YtedgppggaceopaaZU
import Derived.Test.YtedgppggaceopaaZW
import Derived.Test.YtedgppggaceopaaZX
import Derived.Test.YtedgppggaceopaaZZ
import Derived.Test.YtedgppggaceopaaZQ
import Derived.Test.YtedgppggaceopaaZV
import Derived.Test.YtedgppggaceopaaYP
import Derived.Test.YtedgppggaceopaaO1b
import Derived.Test.YtedgppggaceopaaXA
import Derived.Test.YtedgppggaceopaaZR
import Derived.Test.YtedgppggaceopaaBools
import Derived.Test.YtedgppggaceopaaWA
import Derived.Test.YtedgppggaceopaaMS0
import Derived.Test.YtedgppggaceopaaMS1
import Derived.Test.YtedgppggaceopaaPV2
import Derived.Test.YtedgppggaceopaaMS2
import Derived.Test.YtedgppggaceopaaFS0
import Derived.Test.YtedgppggaceopaaMS3
import Derived.Test.YtedgppggaceopaaMS4
import Derived.Test.YtedgppggaceopaaMS5
import Derived.Test.YtedgppggaceopaaOpenP
import Derived.Test.YtedgppggaceopaaRowP
import Derived.Test.YtedgppggaceopaaOpenM
import Derived.Test.YtedgppggaceopaaRowM
import Derived.Test.YtedgppggaceopaaLMcF
import Derived.WalkKit
import Derived.WalkSpells
import Derived.Deep.Draws
import Derived.Deep.MidRow
import Derived.Test.YtedgppggaceopaaChecked
import Derived.WalkLawsBesides
import Derived.Deep.QuietTactic
import Derived.BigQuiet
import Derived.Deep.RegionHeld3
import Derived.Deep.WholeRow
import Derived.Deep.AppendSrc
import Derived.Maps.AppendAt
import Derived.Deep.AppendLies
import Derived.Lib.AppendZeros
import Derived.Deep.RegionLaw
import Derived.Laws.ComplexArith
import Derived.Laws.StructEq
import Derived.Laws.Cover3
import Derived.Laws.Tables
import Derived.ProofKit
import Derived.OpenShut
import Derived.Lib.SmallJoins
import Derived.Deep.SlicePairs
import Derived.Test.YtedgppggaceopaaRows
/- What the two DiskFault answer: the same number, a plain function of the words and the cache. -/
namespace Go.Proofs.Ytedgppggaceopaa
open Go.RowKit

end Go.Proofs.Ytedgppggaceopaa

/- What the program's inner functions over its array of words answer. -/
namespace Go.Proofs.Ytedgppggaceopaa
open Go.RowKit

end Go.Proofs.Ytedgppggaceopaa

/- What the program's FlushDisk answers. -/
namespace Go.Proofs.Ytedgppggaceopaa
open Go.RowKit

end Go.Proofs.Ytedgppggaceopaa

/- What the model's inner functions of chapter 1 answer. -/
namespace Go.Proofs.Ytedgppggaceopaa
open Go.RowKit

end Go.Proofs.Ytedgppggaceopaa

/- What the model's FlushDisk answers: the same as the program's. -/
namespace Go.Proofs.Ytedgppggaceopaa
open Go.RowKit

end Go.Proofs.Ytedgppggaceopaa

/- What the program's and the model's AllWords answer, and the laws' helpers on an answer of a code and a list. -/
namespace Go.Proofs.Ytedgppggaceopaa
open Go.RowKit

end Go.Proofs.Ytedgppggaceopaa

/- Chapter 4: what is so when the model's SetTree gives nodes back. -/
namespace Go.Proofs.Ytedgppggaceopaa
open Go.RowKit

end Go.Proofs.Ytedgppggaceopaa

/- Chapter 3: blocks: what the model's functions answer. -/
namespace Go.Proofs.Ytedgppggaceopaa
open Go.RowKit

end Go.Proofs.Ytedgppggaceopaa

/- Chapter 3: new blocks: what the model answers. -/
namespace Go.Proofs.Ytedgppggaceopaa
open Go.RowKit

end Go.Proofs.Ytedgppggaceopaa

/- Chapter 3: blocks taken, shared and dropped: what the model answers. -/
namespace Go.Proofs.Ytedgppggaceopaa
open Go.RowKit

end Go.Proofs.Ytedgppggaceopaa

/- Chapter 3: the model's answers by what they are told to be; how long they are. -/
namespace Go.Proofs.Ytedgppggaceopaa
open Go.RowKit

section
variable {o : Bool} {l u : Nat} (ao : Option Addr) (n cap : Nat) (bs : List (Int × Int)) (w : World) (h : RowAt w o l u 2 ao n cap (pairs bs)) (hn : n ≤ 2097152)
include h hn
end
end Go.Proofs.Ytedgppggaceopaa

/- Chapter 4: what the functions answer is right, and not great. -/
namespace Go.Proofs.Ytedgppggaceopaa
open Go.RowKit

end Go.Proofs.Ytedgppggaceopaa

/- Chapter 5: the fault of an operation, of the model and of the program. -/
namespace Go.Proofs.Ytedgppggaceopaa
open Go.RowKit

end Go.Proofs.Ytedgppggaceopaa

namespace Go.Proofs.Ytedgppggaceopaa
open Go.RowKit

section
variable {P : Program} {tab : List (List Nat)} (h : P.funcs.toList.map P.leadsTo = tab)
include h
end
section
variable {P : Program} {tab : List (List Nat)} (h : P.funcs.toList.map P.leadsTo = tab)
include h
theorem recurses_unf {f : Nat} (hu : P.unfollowed f = true) : P.recurses f = true := by
  have _ := h
  unfold Program.recurses
  rw [hu, Bool.true_or]
end
section
variable {P : Program} {c : List Char} {X : List (List Char)} (h : behindMainWord (wordsSigns P.initOrder.toList) = c :: X) (hg : (c == "gc".toList) = false) (hs : (c == "spec".toList) = false) (hc : (c == "cut".toList) = true) (hr : (c == "carried".toList) = false) (hl : stripLifts liftWords (c :: X) = ([], c :: X))
include h hg hs hc hr hl
end

end Go.Proofs.Ytedgppggaceopaa

/- What the program's CrashDisk answers. -/
namespace Go.Proofs.Ytedgppggaceopaa
open Go.RowKit

end Go.Proofs.Ytedgppggaceopaa

/- Facts of disks behind a crash; the laws' own lwBig and lwNums. -/
namespace Go.Proofs.Ytedgppggaceopaa
open Go.RowKit

end Go.Proofs.Ytedgppggaceopaa

namespace Go.Proofs.Ytedgppggaceopaa

theorem fstF_all {f : Nat → Int} {n : Nat} (h : fstF f n = 0) : ∀ i, i < n → f i = 0 := by
  induction n with
  | zero => intro i hi; omega
  | succ n ih =>
    have h' : (if fstF f n = 0 then f n else fstF f n) = 0 := h
    by_cases e : fstF f n = 0
    · rw [if_pos e] at h'
      intro i hi
      rcases Nat.lt_succ_iff_lt_or_eq.1 hi with q | q
      · exact ih e i q
      · rw [q]; exact h'
    · rw [if_neg e] at h'; exact absurd h' e
end Go.Proofs.Ytedgppggaceopaa

namespace Go.Proofs.Ytedgppggaceopaa
open Go.RowKit

theorem sesOne_zero {a : Int} {s : Se} (h : sesOne a s = 0) : sesB s = true ∧ a < s.1 := by
  unfold sesOne at h
  split at h
  case isTrue hb =>
    split at h
    · exact absurd h (by decide)
    · exact ⟨hb, by omega⟩
  case isFalse => exact absurd h (by decide)
/-- what a machine without a fault has -/
theorem mc_ok {m : Mac} (h : mcF m = 0) : poFault m.1 m.2.1 = 0 ∧ m.2.2.length ≤ 40 ∧ ∀ i, i < m.2.2.length → sesB (m.2.2.getD i se0) = true ∧ sesAhead m.2.2 i < (m.2.2.getD i se0).1 := by
  unfold mcF at h
  by_cases q : poFault m.1 m.2.1 = 0
  · rw [if_pos q] at h
    by_cases q2 : 40 < m.2.2.length
    · rw [if_pos q2] at h; cases h
    · rw [if_neg q2] at h
      exact ⟨q, by omega, fun i hi => sesOne_zero (fstF_all h i hi)⟩
  · rw [if_neg q] at h; exact absurd h q
theorem ses_rise {ss : List Se} (h : ∀ i, i < ss.length → sesB (ss.getD i se0) = true ∧ sesAhead ss i < (ss.getD i se0).1) {i j : Nat} (hij : i < j) (hj : j < ss.length) : (ss.getD i se0).1 < (ss.getD j se0).1 := by
  induction j with
  | zero => omega
  | succ j ih =>
    have := (h (j + 1) hj).2
    have e : sesAhead ss (j + 1) = (ss.getD j se0).1 := rfl
    rw [e] at this
    rcases (by omega : i < j ∨ i = j) with c | c
    · exact Int.lt_trans (ih c (by omega)) this
    · rw [c]; exact this

end Go.Proofs.Ytedgppggaceopaa

/- Chapter 6: cells copied, compared and counted by the laws. -/
namespace Go.Proofs.Ytedgppggaceopaa
open Go.RowKit

end Go.Proofs.Ytedgppggaceopaa

/- Chapter 6: plain pools counted, copied and compared by the laws. -/
namespace Go.Proofs.Ytedgppggaceopaa
open Go.RowKit

/-- a plain pool's rows -/
structure PlAt (w : World) (o : Bool) (lo hi : Nat) (av : Option Addr) (nv cv : Nat) (ac : Option Addr) (nc cc : Nat) (ah : Option Addr) (nh ch : Nat) (vs ce : List Vo) (sh : List Int) : Prop where
  vol : RowAt w o lo hi 3 av nv cv (trips vs)
  cel : RowAt w o lo hi 3 ac nc cc (trips ce)
  sha : RowAt w o lo hi 1 ah nh ch (ints sh)
theorem PlAt.below {w w' : World} {o : Bool} {lo hi : Nat} {av : Option Addr} {nv cv : Nat} {ac : Option Addr} {nc cc : Nat} {ah : Option Addr} {nh ch : Nat} {vs ce : List Vo} {sh : List Int} (h : PlAt w o lo hi av nv cv ac nc cc ah nh ch vs ce sh) (B : Below w.heap.size w w') : PlAt w' o lo hi av nv cv ac nc cc ah nh ch vs ce sh :=
  ⟨h.vol.below B, h.cel.below B, h.sha.below B⟩
/-- one cell has been written -/
structure SetC (w W : World) (b k : Nat) (v : Value) : Prop where
  kept : Kept b (b + 1) w W
  cell : W.cell? ⟨b, k, none⟩ = some v
  fr : ∀ {q i : Nat}, w.frozen? ⟨q, i, none⟩ = false → W.frozen? ⟨q, i, none⟩ = false
  oth : ∀ {q i : Nat} {u : Value}, w.cell? ⟨q, i, none⟩ = some u → (q ≠ b ∨ i ≠ k) → W.cell? ⟨q, i, none⟩ = some u
end Go.Proofs.Ytedgppggaceopaa

/- Chapter 6, plain: the fault of a plain pool. -/
namespace Go.Proofs.Ytedgppggaceopaa
open Go.RowKit

end Go.Proofs.Ytedgppggaceopaa

/- Chapter 6: the program's fault of a plain pool. -/
namespace Go.Proofs.Ytedgppggaceopaa
open Go.RowKit

def cmpI (a b : Int) : Int := if a < b then -1 else if b < a then 1 else 0
theorem cmpI_is (a b : Int) : (cmpI a b = -1 ∧ a < b) ∨ (cmpI a b = 0 ∧ a = b) ∨ (cmpI a b = 1 ∧ b < a) := by
  unfold cmpI
  split
  · exact Or.inl ⟨rfl, by assumption⟩
  · split
    · exact Or.inr (Or.inr ⟨rfl, by assumption⟩)
    · exact Or.inr (Or.inl ⟨rfl, by omega⟩)
theorem isNaN64_is (x : Int) (w : World) : Calls Try.prog 98 #[.int .i64 x] w fun e w' => e = .returned (.bool false) ∧ w' = w := by
  have hx : (x != x) = false := by simp
  go_enter Try.func98, Try.ntmps98
  go_wp2
  go_ret
  exact ⟨rfl, rfl⟩
theorem cmp64_is (a b : Int) (w : World) (d : Int) (hd : cmpI a b = d) : Calls Try.prog 68 #[.int .i64 a, .int .i64 b] w fun e w' => e = .returned (.int .i64 d) ∧ w' = w := by
  have HD : Hid _ := hd
  clear hd
  go_enter Try.func68, Try.ntmps68
  go_wp2_with fail
  refine (isNaN64_is a _).mono ?_
  rintro e _ ⟨rfl, rfl⟩
  go_wp2_with fail
  refine (isNaN64_is b _).mono ?_
  rintro e _ ⟨rfl, rfl⟩
  rcases cmpI_is a b with ⟨e, h⟩ | ⟨e, h⟩ | ⟨e, h⟩
  · have HE : Hid _ := e
    clear e
    go_wp2
    go_ret
    exact ⟨ret_int (by rw [← HD.out, HE.out]), rfl⟩
  · have HE : Hid _ := e
    clear e
    have h1 : ¬ a < b := by omega
    have h2 : ¬ b < a := by omega
    clear h
    go_wp2
    go_ret
    exact ⟨ret_int (by rw [← HD.out, HE.out]), rfl⟩
  · have HE : Hid _ := e
    clear e
    have h1 : ¬ a < b := by omega
    go_wp2
    go_ret
    exact ⟨ret_int (by rw [← HD.out, HE.out]), rfl⟩
end Go.Proofs.Ytedgppggaceopaa

/- Chapter 12: where a client's session stands, of the program and of the model. -/
namespace Go.Proofs.Ytedgppggaceopaa
open Go.RowKit

/-- how many sessions stand ahead of a client's; whether the client has one -/
def sesPl (ss : List Se) (id : Int) : Nat := ss.findIdx (fun s => decide (id ≤ s.1))
def sesHas (ss : List Se) (id : Int) : Bool := decide (sesPl ss id < ss.length ∧ (ss.getD (sesPl ss id) se0).1 = id)
def Rise (ss : List Se) : Prop := ∀ i j, i < j → j < ss.length → (ss.getD i se0).1 < (ss.getD j se0).1
theorem getD_ses {ss : List Se} {i : Nat} (h : i < ss.length) : ss.getD i se0 = ss[i] := by simp [List.getD, h]
theorem sesPl_le (ss : List Se) (id : Int) : sesPl ss id ≤ ss.length := List.findIdx_le_length
theorem sesPl_lt {ss : List Se} {id : Int} {i : Nat} (h : i < sesPl ss id) : (ss.getD i se0).1 < id := by
  have hl : i < ss.length := Nat.lt_of_lt_of_le h (sesPl_le ss id)
  have := List.not_of_lt_findIdx (p := fun s : Se => decide (id ≤ s.1)) (xs := ss) (i := i) h
  rw [getD_ses hl]
  simp at this
  omega
theorem sesPl_ge {ss : List Se} {id : Int} (h : sesPl ss id < ss.length) : id ≤ (ss.getD (sesPl ss id) se0).1 := by
  have := List.findIdx_getElem (p := fun s : Se => decide (id ≤ s.1)) (xs := ss) (w := h)
  rw [getD_ses h]
  exact of_decide_eq_true this
theorem sesPl_up {ss : List Se} {id : Int} (hr : Rise ss) {i : Nat} (h : i < ss.length) (hi : (ss.getD i se0).1 < id) : i < sesPl ss id := by
  rcases Nat.lt_or_ge i (sesPl ss id) with c | c
  · exact c
  · have h1 : sesPl ss id < ss.length := by omega
    have h2 := sesPl_ge h1
    rcases Nat.lt_or_ge (sesPl ss id) i with e | e
    · have := hr _ _ e h; omega
    · have e2 : sesPl ss id = i := by omega
      rw [e2] at h2; omega
theorem sesPl_dn {ss : List Se} {id : Int} {i : Nat} (hi : id ≤ (ss.getD i se0).1) : sesPl ss id ≤ i := by
  rcases Nat.lt_or_ge i (sesPl ss id) with c | c
  · have := sesPl_lt c; omega
  · exact c
/-- what the model looks for: the first session of the client -/
def sesAtM (ss : List Se) (id : Int) : Int := if sesHas ss id then (sesPl ss id : Int) else -1
theorem sesHas_at {ss : List Se} {id : Int} {i : Nat} (hi : i < ss.length) (hr : Rise ss) (e : (ss.getD i se0).1 = id) : sesHas ss id = true ∧ sesPl ss id = i := by
  have h1 := sesPl_dn (ss := ss) (id := id) (i := i) (by omega)
  have h3 : sesPl ss id = i := by
    rcases Nat.lt_or_ge (sesPl ss id) i with c | c
    · have h2 := sesPl_ge (ss := ss) (id := id) (by omega)
      have := hr _ _ c hi; omega
    · omega
  exact ⟨decide_eq_true ⟨by omega, by rw [h3]; exact e⟩, h3⟩
theorem mc_rise {m : Mac} (h : mcF m = 0) : Rise m.2.2 := fun _ _ hij hj => ses_rise (mc_ok h).2.2 hij hj
set_option maxRecDepth 20000 in
set_option maxHeartbeats 2000000 in
theorem placeCmp_is (p q k v id : Int) (w : World) (d : Int) (hd : cmpI p id = d) : Calls Try.prog 67 #[.agg #[.int .i64 p, .int .i64 q, .int .i64 k, .int .i64 v], .int .i64 id] w fun e w' => e = .returned (.int .i64 d) ∧ Below w.heap.size w w' := by
  go_enter Try.func67, Try.ntmps67
  go_wp2_with (first | ((with_reducible refine box_newX 54 [.int .i64 p, .int .i64 q, .int .i64 k, .int .i64 v] rfl ?_); intro b0 W0 N0; have ob0 : w.heap.size ≤ b0 := N0.ge; have B := N0.below; have X0 := N0.bx; have c0 := X0.cell; clear N0) | fail)
  refine (cmp64_is p id _ d hd).mono ?_
  rintro e W9 ⟨rfl, rfl⟩
  go_wp2
  go_ret
  exact ⟨rfl, B⟩
set_option maxRecDepth 20000 in
set_option maxHeartbeats 4000000 in
theorem binSes_is {own : Bool} {lo hi : Nat} (ao : Option Addr) (n cap : Nat) (ss : List Se) (w : World) (x : RowAt w own lo hi 4 ao n cap (fours ss)) (hn : n ≤ 1048576) (hr : Rise ss) (id : Int) (pl : Nat) (hp : sesPl ss id = pl) (d : Bool) (hd : sesHas ss id = d) :
    Calls Try.prog 66 #[.slice ao n cap, .int .i64 id, .func (.func 67) #[] #[]] w fun e w' => e = .returned (.tuple #[.int .i64 pl, .bool d]) ∧ Below w.heap.size w w' := by
  have hl := x.nFours
  have HL : Hid _ := hl
  have HR : Hid _ := hr
  have HP : Hid _ := hp
  have HD : Hid _ := hd
  have HX : Hid _ := x
  have HPn : Hid (pl ≤ n) := by show pl ≤ n; rw [← hp, ← hl]; exact sesPl_le _ _
  clear hr hp hd x hl
  go_enter Try.func66, Try.ntmps66
  go_wp2
  go_loopw [9, 10] (fun a b wr => ∃ i j : Nat, i ≤ pl ∧ pl ≤ j ∧ j ≤ n ∧ a = .int .i64 i ∧ b = .int .i64 j ∧ Below w.heap.size w wr) (fun a b _ => (intOf b - intOf a).toNat)
  case atStart => exact ⟨0, n, Nat.zero_le _, HPn.out, Nat.le_refl _, rfl, rfl, Below.refl _ _⟩
  case round =>
    obtain ⟨i, j, h1, h2, h3, rfl, rfl, hb⟩ := hrel
    by_cases hlt : i < j
    · have hij : (i : Int) < (j : Int) := by omega
      obtain ⟨m, hm⟩ : ∃ m : Nat, m = (i + j) / 2 := ⟨_, rfl⟩
      have HM : Hid (i ≤ m ∧ m < j) := by show _ ∧ _; omega
      have w1' : IntKind.i64.wrap ((i : Int) + (j : Int)) = (i : Int) + (j : Int) := wrapI_same _ (by omega)
      have w2' : IntKind.u64.wrap ((i : Int) + (j : Int)) = (i : Int) + (j : Int) := by rw [IntKind.wrap_u64]; omega
      have w3' : IntKind.i64.wrap (((i : Int) + (j : Int)) / 2) = (m : Int) := by rw [wrapI_same _ (by omega)]; omega
      have hmn : (m : Int) < (n : Int) := by have := HM.out; omega
      have hm0 : (0 : Int) ≤ (m : Int) := by omega
      have w4' : IntKind.i64.wrap ((m : Int) + 1) = (m : Int) + 1 := wrapI_same _ (by have := HM.out; omega)
      obtain ⟨b, off, ea, _, _, hbs, e0, e1, e2, e3, _⟩ := (HX.out.below hb).four (i := m) (by have := HM.out; omega)
      subst ea
      have HM2 : Hid _ := hm
      clear hm
      have HUP : Hid ((ss.getD m se0).1 < id → m < pl) := fun h => by rw [← HP.out]; exact sesPl_up HR.out (by rw [HL.out]; have := HM.out; omega) h
      have HDN : Hid (id ≤ (ss.getD m se0).1 → pl ≤ m) := fun h => by rw [← HP.out]; exact sesPl_dn h
      obtain ⟨⟨p, q, r, v⟩, hs⟩ : ∃ s, ss.getD m se0 = s := ⟨_, rfl⟩
      rw [hs] at e0 e1 e2 e3 HUP HDN
      simp only at e0 e1 e2 e3 HUP HDN
      clear hs
      obtain ⟨c, hc⟩ : ∃ c, cmpI p id = c := ⟨_, rfl⟩
      have HC := cmpI_is p id
      rw [hc] at HC
      have HCc : Hid _ := hc
      have HC2 : Hid _ := HC
      clear hc HC
      go_wp2_with fail
      refine (placeCmp_is p q r v id _ c HCc.out).mono ?_
      rintro e w1 ⟨rfl, BB⟩
      replace hb := below_next hb BB
      clear BB e0 e1 e2 e3 w1' w2' w3' hmn hm0
      have HB : Hid _ := hb
      clear hb
      rcases HC2.out with ⟨hc, hx⟩ | ⟨hc, hx⟩ | ⟨hc, hx⟩
      · have HU : Hid _ := HUP.out hx
        subst hc
        clear hx HC2 HUP HDN HCc
        go_wp2
        go_roundw
        case rel => exact ⟨m + 1, j, HU.out, h2, h3, by go_num, rfl, HB.out⟩
        case measure => have := HM.out; simp [intOf]; omega
      · have HU : Hid _ := HDN.out (by omega)
        subst hc
        clear hx HC2 HUP HDN HCc
        go_wp2
        go_roundw
        case rel => exact ⟨i, m, h1, HU.out, by have := HM.out; omega, rfl, rfl, HB.out⟩
        case measure => have := HM.out; simp [intOf]; omega
      · have HU : Hid _ := HDN.out (by omega)
        subst hc
        clear hx HC2 HUP HDN HCc
        go_wp2
        go_roundw
        case rel => exact ⟨i, m, h1, HU.out, by have := HM.out; omega, rfl, rfl, HB.out⟩
        case measure => have := HM.out; simp [intOf]; omega
    · obtain rfl : i = j := by omega
      obtain rfl : pl = i := by omega
      clear h1 h2 hlt
      by_cases hin : pl < n
      · have hi2 : (pl : Int) < (n : Int) := by omega
        obtain ⟨b, off, ea, _, _, hbs, e0, e1, e2, e3, _⟩ := (HX.out.below hb).four hin
        subst ea
        have HDE : Hid (d = decide ((ss.getD pl se0).1 = id)) := by
          show _ = _
          rw [← HD.out]; unfold sesHas; rw [HP.out, HL.out]; simp [hin]
        obtain ⟨⟨p, q, r, v⟩, hs⟩ : ∃ s, ss.getD pl se0 = s := ⟨_, rfl⟩
        rw [hs] at e0 e1 e2 e3 HDE
        simp only at e0 e1 e2 e3 HDE
        clear hs
        obtain ⟨c, hc⟩ : ∃ c, cmpI p id = c := ⟨_, rfl⟩
        have HC := cmpI_is p id
        rw [hc] at HC
        have HCc : Hid _ := hc
        have HC2 : Hid _ := HC
        clear hc HC
        go_wp2_with fail
        refine (placeCmp_is p q r v id _ c HCc.out).mono ?_
        rintro e w1 ⟨rfl, BB⟩
        replace hb := below_next hb BB
        clear BB e0 e1 e2 e3
        rcases HC2.out with ⟨hc, hx⟩ | ⟨hc, hx⟩ | ⟨hc, hx⟩
        · have e : d = false := by rw [HDE.out]; exact decide_eq_false (by omega)
          subst hc e
          clear hx HC2 HCc HDE HD
          go_wp2
          refine bodyPost_ret (v := .tuple #[.int .i64 pl, .bool false]) (by simp [results, Try.results66, go_sem]) rfl ⟨rfl, hb⟩
        · have e : d = true := by rw [HDE.out]; exact decide_eq_true (by omega)
          subst hc e
          clear hx HC2 HCc HDE HD
          go_wp2
          refine bodyPost_ret (v := .tuple #[.int .i64 pl, .bool true]) (by simp [results, Try.results66, go_sem]) rfl ⟨rfl, hb⟩
        · have e : d = false := by rw [HDE.out]; exact decide_eq_false (by omega)
          subst hc e
          clear hx HC2 HCc HDE HD
          go_wp2
          refine bodyPost_ret (v := .tuple #[.int .i64 pl, .bool false]) (by simp [results, Try.results66, go_sem]) rfl ⟨rfl, hb⟩
      · have e : d = false := by rw [← HD.out]; unfold sesHas; rw [HP.out, HL.out]; exact decide_eq_false (fun z => hin z.1)
        subst e
        obtain rfl : pl = n := by omega
        clear HD
        go_wp2
        refine bodyPost_ret (v := .tuple #[.int .i64 pl, .bool false]) (by simp [results, Try.results66, go_sem]) rfl ⟨rfl, hb⟩
set_option maxRecDepth 20000 in
set_option maxHeartbeats 2000000 in
theorem sessionPlace_is {own : Bool} {lo hi : Nat} (ao : Option Addr) (n cap : Nat) (ss : List Se) (w : World) (x : RowAt w own lo hi 4 ao n cap (fours ss)) (hn : n ≤ 1048576) (hr : Rise ss) (id : Int) (pl : Nat) (hp : sesPl ss id = pl) (d : Bool) (hd : sesHas ss id = d) :
    Calls Try.prog 37 #[.slice ao n cap, .int .i64 id] w fun e w' => e = .returned (.tuple #[.int .i64 pl, .bool d]) ∧ Below w.heap.size w w' := by
  go_enter Try.func37, Try.ntmps37
  go_wp2_with fail
  refine (binSes_is ao n cap ss _ x hn hr id pl hp d hd).mono ?_
  rintro e w1 ⟨rfl, BB⟩
  go_wp2
  refine bodyPost_ret (v := .tuple #[.int .i64 pl, .bool d]) (by simp [results, Try.results37, go_sem]) rfl ⟨rfl, BB⟩

end Go.Proofs.Ytedgppggaceopaa

/- Chapter 12: SessionOf of both. -/
namespace Go.Proofs.Ytedgppggaceopaa
open Go.RowKit

/-- what SessionOf answers -/
def soC (m : Mac) (id : Int) : Int := if mcF m = 0 then (if sesHas m.2.2 id = true then 0 else 4) else mcF m
def soS (m : Mac) (id : Int) : Se := if mcF m = 0 then (if sesHas m.2.2 id = true then m.2.2.getD (sesPl m.2.2 id) se0 else se0) else se0
theorem soC_bad {m : Mac} {id c : Int} (h : mcF m = c) (hc : c ≠ 0) : soC m id = c ∧ soS m id = se0 := by unfold soC soS; rw [h, if_neg hc, if_neg hc]; exact ⟨rfl, rfl⟩
theorem soC_none {m : Mac} {id : Int} (h : mcF m = 0) (hh : sesHas m.2.2 id = false) : soC m id = 4 ∧ soS m id = se0 := by unfold soC soS; rw [if_pos h, if_pos h, hh]; exact ⟨rfl, rfl⟩
theorem soC_ok {m : Mac} {id : Int} (h : mcF m = 0) (hh : sesHas m.2.2 id = true) : soC m id = 0 ∧ soS m id = m.2.2.getD (sesPl m.2.2 id) se0 := by unfold soC soS; rw [if_pos h, if_pos h, hh]; exact ⟨rfl, rfl⟩
set_option maxRecDepth 20000 in
set_option maxHeartbeats 4000000 in
theorem l12At_is {own : Bool} {lo hi : Nat} (b0 : Nat) (v0 v1 v2 : Value) (sa : Option Addr) (sn sc : Nat) (ss : List Se) (w : World) (X0 : Bx w b0 [v0, v1, v2, .slice sa sn sc]) (x : RowAt w own lo hi 4 sa sn sc (fours ss)) (hsn : sn ≤ 1048576) (hr : Rise ss) (id : Int) (d : Int) (hd : sesAtM ss id = d) :
    Calls Try.prog 36 #[.pointer (some ⟨b0, 0, none⟩), .int .i64 id] w fun e w' => e = .returned (.int .i64 d) ∧ w' = w := by
  have hl := x.nFours
  have HL : Hid _ := hl
  have HR : Hid _ := hr
  have HD : Hid _ := hd
  have HX : Hid _ := x
  clear hr hd x hl
  have c0 := X0.cell
  go_enter Try.func36, Try.ntmps36
  go_wp2
  go_loopw [5] (fun i wr => ∃ k : Nat, k ≤ sn ∧ i = .int .i64 k ∧ Hid (∀ j, j < k → (ss.getD j se0).1 ≠ id) ∧ wr = w) (fun i _ => sn - (intOf i).toNat)
  case atStart => exact ⟨0, Nat.zero_le _, rfl, fun j hj => absurd hj (Nat.not_lt_zero _), rfl⟩
  case round =>
    obtain ⟨k, hk, rfl, H0, rfl⟩ := hrel
    by_cases hlt : k < sn
    · have hlk : (k : Int) < (sn : Int) := by omega
      obtain ⟨b, off, ea, _, _, hbs, e0, e1, e2, e3, _⟩ := HX.out.four hlt
      subst ea
      have HA : Hid ((ss.getD k se0).1 = id → d = k) := fun h => by
        have := sesHas_at (by rw [HL.out]; exact hlt) HR.out h
        rw [← HD.out]; unfold sesAtM; rw [if_pos this.1, this.2]
      have HN : Hid ((ss.getD k se0).1 ≠ id → ∀ j, j < k + 1 → (ss.getD j se0).1 ≠ id) := fun h j hj => by
        rcases (by omega : j < k ∨ j = k) with c | c
        · exact H0.out j c
        · rw [c]; exact h
      obtain ⟨⟨p, q, r, v⟩, hs⟩ : ∃ s, ss.getD k se0 = s := ⟨_, rfl⟩
      rw [hs] at e0 e1 e2 e3 HA HN
      simp only at e0 e1 e2 e3 HA HN
      clear hs
      by_cases y : p = id
      · have e := HA.out y
        subst y
        subst e
        clear HA HN HD
        go_wp2
        go_ret
        exact ⟨rfl, rfl⟩
      · have hy : (p == id) = false := by simp [y]
        have HN2 : Hid _ := HN.out y
        clear y HA HN
        go_wp2
        go_roundw
        case rel => exact ⟨k + 1, by omega, by go_num, HN2, by first | trivial | rfl⟩
        case measure => simp [intOf]; omega
    · obtain rfl : k = sn := by omega
      have e : d = -1 := by
        rw [← HD.out]; unfold sesAtM
        by_cases h : sesHas ss id = true
        · have h2 := of_decide_eq_true h
          exact absurd h2.2 (H0.out _ (by rw [← HL.out]; exact h2.1))
        · rw [if_neg h]
      subst e
      clear HD
      go_wp2
      go_ret
      exact ⟨rfl, rfl⟩
set_option maxRecDepth 20000 in
set_option maxHeartbeats 4000000 in
theorem specSO_is {own : Bool} {lo hi : Nat} (h : MacH) (m : Mac) (w : World) (x : MacAt w own lo hi h m) (hs : MacSz h m.1 1048576) (id : Int) (cd : Int) (s : Se) (hc : soC m id = cd) (hv : soS m id = s) :
    Calls Try.prog 17 #[.agg #[.slice h.N.1 h.N.2.1 h.N.2.2, .slice h.B.1 h.B.2.1 h.B.2.2, .slice h.V.1 h.V.2.1 h.V.2.2, .slice h.S.1 h.S.2.1 h.S.2.2], .int .i64 id] w fun e w' => e = .returned (.agg #[.int .i64 cd, .int .i64 s.1, .int .i64 s.2.1, .int .i64 s.2.2.1, .int .i64 s.2.2.2]) ∧ Below w.heap.size w w' := by
  have HC : Hid _ := hc
  have HV : Hid _ := hv
  have HZ : Hid _ := hs
  have hsn := hs.s
  clear hc hv hs
  obtain ⟨c, hq⟩ : ∃ c, mcF m = c := ⟨_, rfl⟩
  have HQ : Hid _ := hq
  clear hq
  go_enter Try.func17, Try.ntmps17
  go_wp2_with (first | ((have g := ob0); clear g; (with_reducible refine alloc_newX 56 [.int .i64 0, .int .i64 0, .int .i64 0, .int .i64 0, .int .i64 0] (fun _ => by kernel_rfl) ?_); intro b1 W1 N1; have ob1 : w.heap.size ≤ b1 := Nat.le_trans B.size N1.ge; have o0_b1 : b0 < b1 := Nat.lt_of_lt_of_le X0.lt N1.ge; replace X0 := X0.below N1.below; replace c0 := X0.cell; replace B := below_next B N1.below; have X1 := N1.bx; have c1 := X1.cell; have f1 := X1.froz; clear N1) | ((with_reducible refine box_newX 43 [.slice h.N.1 h.N.2.1 h.N.2.2, .slice h.B.1 h.B.2.1 h.B.2.2, .slice h.V.1 h.V.2.1 h.V.2.2, .slice h.S.1 h.S.2.1 h.S.2.2] rfl ?_); intro b0 W0 N0; have ob0 : w.heap.size ≤ b0 := N0.ge; have B := N0.below; have X0 := N0.bx; have c0 := X0.cell; clear N0) | fail)
  refine (l12Fault_is b0 h m _ X0 (x.below B) HZ.out c HQ.out).mono ?_
  rintro e w1 ⟨rfl, BB⟩
  replace X0 := X0.below BB
  replace c0 := X0.cell
  replace X1 := X1.below BB
  replace c1 := X1.cell
  replace f1 := X1.froz
  replace B := below_next B BB
  clear BB
  by_cases q2 : c = 0
  rotate_left 1
  · have q2' : (c != 0) = true := by simp [q2]
    obtain ⟨e1, e2⟩ := soC_bad (id := id) HQ.out q2
    have e3 : cd = c := HC.out.symm.trans e1
    have e4 : s = se0 := HV.out.symm.trans e2
    subst e3 e4
    clear HC HV e1 e2
    go_wp2_with (first | ((with_reducible refine store_midX 56 X1 0 [.int .i64 cd, .int .i64 0, .int .i64 0, .int .i64 0, .int .i64 0] (by simp) (by kernel_rfl) (by simp [Value.oneCell']) rfl rfl ?_); intro V1 S; replace X0 := X0.kept S.kept (by omega); replace c0 := X0.cell; replace X1 : Bx V1 b1 [.int .i64 cd, .int .i64 0, .int .i64 0, .int .i64 0, .int .i64 0] := S.bx; replace c1 := X1.cell; replace f1 := X1.froz; replace B := B.trans (S.kept.below _ (by omega) B.size); clear S))
    refine bodyPost_ret (v := .agg #[.int .i64 cd, .int .i64 0, .int .i64 0, .int .i64 0, .int .i64 0]) (by simp [results, Try.results17, go_sem, *]) rfl ⟨rfl, B⟩
  subst q2
  have HR : Hid (Rise m.2.2) := mc_rise HQ.out
  go_wp2_with fail
  obtain ⟨dd, hdd⟩ : ∃ dd, sesAtM m.2.2 id = dd := ⟨_, rfl⟩
  have HDD : Hid _ := hdd
  clear hdd
  refine (l12At_is b0 _ _ _ h.S.1 h.S.2.1 h.S.2.2 m.2.2 _ X0 (x.se.below B) hsn HR.out id dd HDD.out).mono ?_
  rintro e W9 ⟨rfl, rfl⟩
  have hh0 : ∃ b, sesHas m.2.2 id = b := ⟨_, rfl⟩
  obtain ⟨bb, hbb⟩ := hh0
  have HBB : Hid _ := hbb
  clear hbb
  cases bb with
  | false =>
    obtain ⟨e1, e2⟩ := soC_none HQ.out HBB.out
    have e3 : cd = 4 := HC.out.symm.trans e1
    have e4 : s = se0 := HV.out.symm.trans e2
    subst e3 e4
    clear HC HV e1 e2
    have e5 : dd = -1 := by rw [← HDD.out]; unfold sesAtM; rw [HBB.out]; rfl
    subst e5
    go_wp2_with (first | ((with_reducible refine store_midX 56 X1 0 [.int .i64 4, .int .i64 0, .int .i64 0, .int .i64 0, .int .i64 0] (by simp) (by kernel_rfl) (by simp [Value.oneCell']) rfl rfl ?_); intro V1 S; replace X0 := X0.kept S.kept (by omega); replace c0 := X0.cell; replace X1 : Bx V1 b1 [.int .i64 4, .int .i64 0, .int .i64 0, .int .i64 0, .int .i64 0] := S.bx; replace c1 := X1.cell; replace f1 := X1.froz; replace B := B.trans (S.kept.below _ (by omega) B.size); clear S))
    refine bodyPost_ret (v := .agg #[.int .i64 4, .int .i64 0, .int .i64 0, .int .i64 0, .int .i64 0]) (by simp [results, Try.results17, go_sem, *]) rfl ⟨rfl, B⟩
  | true =>
    obtain ⟨e1, e2⟩ := soC_ok HQ.out HBB.out
    have e3 : cd = 0 := HC.out.symm.trans e1
    have e4 : m.2.2.getD (sesPl m.2.2 id) se0 = s := e2.symm.trans HV.out
    subst e3
    have HN : Hid (sesPl m.2.2 id < h.S.2.1) := by show _ < _; rw [← x.se.nFours]; exact (of_decide_eq_true HBB.out).1
    clear HC HV e1 e2
    obtain ⟨pl, hpl⟩ : ∃ p, sesPl m.2.2 id = p := ⟨_, rfl⟩
    have e5 : dd = (pl : Int) := by rw [← HDD.out]; unfold sesAtM; rw [HBB.out, hpl]; rfl
    subst e5
    rw [hpl] at e4 HN
    clear hpl HDD
    have hp1 := HN.out
    obtain ⟨N, B0, V, ⟨sa, sn, sc⟩, K⟩ := h
    simp only at hp1 hsn
    have hp2 : (pl : Int) < (sn : Int) := by omega
    have hp3 : ¬ (pl : Int) < 0 := by omega
    obtain ⟨b, off, ea, _, _, hbs, d0, d1, d2, d3, _⟩ := (x.se.below B).four hp1
    simp only at ea
    subst ea
    rw [e4] at d0 d1 d2 d3
    clear e4
    go_wp2_with (first | ((with_reducible refine store_midX 56 X1 0 [.int .i64 0, .int .i64 s.1, .int .i64 s.2.1, .int .i64 s.2.2.1, .int .i64 s.2.2.2] (by simp) (by kernel_rfl) (by simp [Value.oneCell']) rfl rfl ?_); intro V1 S; replace X0 := X0.kept S.kept (by omega); replace c0 := X0.cell; replace X1 : Bx V1 b1 [.int .i64 0, .int .i64 s.1, .int .i64 s.2.1, .int .i64 s.2.2.1, .int .i64 s.2.2.2] := S.bx; replace c1 := X1.cell; replace f1 := X1.froz; replace B := B.trans (S.kept.below _ (by omega) B.size); clear S))
    refine bodyPost_ret (v := .agg #[.int .i64 0, .int .i64 s.1, .int .i64 s.2.1, .int .i64 s.2.2.1, .int .i64 s.2.2.2]) (by simp [results, Try.results17, go_sem, *]) rfl ⟨rfl, B⟩
set_option maxRecDepth 20000 in
set_option maxHeartbeats 4000000 in
theorem implSO_is {own : Bool} {lo hi : Nat} (h : MacH) (m : Mac) (w : World) (x : MacAt w own lo hi h m) (hs : MacSz h m.1 1048576) (id : Int) (cd : Int) (s : Se) (hc : soC m id = cd) (hv : soS m id = s) :
    Calls Try.prog 18 #[.agg #[.slice h.N.1 h.N.2.1 h.N.2.2, .slice h.B.1 h.B.2.1 h.B.2.2, .slice h.V.1 h.V.2.1 h.V.2.2, .slice h.S.1 h.S.2.1 h.S.2.2], .int .i64 id] w fun e w' => e = .returned (.agg #[.int .i64 cd, .int .i64 s.1, .int .i64 s.2.1, .int .i64 s.2.2.1, .int .i64 s.2.2.2]) ∧ Below w.heap.size w w' := by
  have HC : Hid _ := hc
  have HV : Hid _ := hv
  have HZ : Hid _ := hs
  have hsn := hs.s
  clear hc hv hs
  obtain ⟨c, hq⟩ : ∃ c, mcF m = c := ⟨_, rfl⟩
  have HQ : Hid _ := hq
  clear hq
  go_enter Try.func18, Try.ntmps18
  go_wp2_with (first | ((have g := ob0); clear g; (with_reducible refine alloc_newX 56 [.int .i64 0, .int .i64 0, .int .i64 0, .int .i64 0, .int .i64 0] (fun _ => by kernel_rfl) ?_); intro b1 W1 N1; have ob1 : w.heap.size ≤ b1 := Nat.le_trans B.size N1.ge; have o0_b1 : b0 < b1 := Nat.lt_of_lt_of_le X0.lt N1.ge; replace X0 := X0.below N1.below; replace c0 := X0.cell; replace B := below_next B N1.below; have X1 := N1.bx; have c1 := X1.cell; have f1 := X1.froz; clear N1) | ((with_reducible refine box_newX 43 [.slice h.N.1 h.N.2.1 h.N.2.2, .slice h.B.1 h.B.2.1 h.B.2.2, .slice h.V.1 h.V.2.1 h.V.2.2, .slice h.S.1 h.S.2.1 h.S.2.2] rfl ?_); intro b0 W0 N0; have ob0 : w.heap.size ≤ b0 := N0.ge; have B := N0.below; have X0 := N0.bx; have c0 := X0.cell; clear N0) | fail)
  refine (implMcF_is h m _ (x.below B) HZ.out c HQ.out).mono ?_
  rintro e w1 ⟨rfl, BB⟩
  replace X0 := X0.below BB
  replace c0 := X0.cell
  replace X1 := X1.below BB
  replace c1 := X1.cell
  replace f1 := X1.froz
  replace B := below_next B BB
  clear BB
  by_cases q2 : c = 0
  rotate_left 1
  · have q2' : (c != 0) = true := by simp [q2]
    obtain ⟨e1, e2⟩ := soC_bad (id := id) HQ.out q2
    have e3 : cd = c := HC.out.symm.trans e1
    have e4 : s = se0 := HV.out.symm.trans e2
    subst e3 e4
    clear HC HV e1 e2
    go_wp2_with (first | ((with_reducible refine store_midX 56 X1 0 [.int .i64 cd, .int .i64 0, .int .i64 0, .int .i64 0, .int .i64 0] (by simp) (by kernel_rfl) (by simp [Value.oneCell']) rfl rfl ?_); intro V1 S; replace X0 := X0.kept S.kept (by omega); replace c0 := X0.cell; replace X1 : Bx V1 b1 [.int .i64 cd, .int .i64 0, .int .i64 0, .int .i64 0, .int .i64 0] := S.bx; replace c1 := X1.cell; replace f1 := X1.froz; replace B := B.trans (S.kept.below _ (by omega) B.size); clear S))
    refine bodyPost_ret (v := .agg #[.int .i64 cd, .int .i64 0, .int .i64 0, .int .i64 0, .int .i64 0]) (by simp [results, Try.results18, go_sem, *]) rfl ⟨rfl, B⟩
  subst q2
  have HR : Hid (Rise m.2.2) := mc_rise HQ.out
  go_wp2_with fail
  obtain ⟨bb, hbb⟩ : ∃ b, sesHas m.2.2 id = b := ⟨_, rfl⟩
  have HBB : Hid _ := hbb
  clear hbb
  obtain ⟨pl, hpl⟩ : ∃ p, sesPl m.2.2 id = p := ⟨_, rfl⟩
  have HPL : Hid _ := hpl
  clear hpl
  refine (sessionPlace_is h.S.1 h.S.2.1 h.S.2.2 m.2.2 _ (x.se.below B) hsn HR.out id pl HPL.out bb HBB.out).mono ?_
  rintro e w2 ⟨rfl, BB⟩
  replace X0 := X0.below BB
  replace c0 := X0.cell
  replace X1 := X1.below BB
  replace c1 := X1.cell
  replace f1 := X1.froz
  replace B := below_next B BB
  clear BB
  cases bb with
  | false =>
    obtain ⟨e1, e2⟩ := soC_none HQ.out HBB.out
    have e3 : cd = 4 := HC.out.symm.trans e1
    have e4 : s = se0 := HV.out.symm.trans e2
    subst e3 e4
    clear HC HV e1 e2
    go_wp2_with (first | ((with_reducible refine store_midX 56 X1 0 [.int .i64 4, .int .i64 0, .int .i64 0, .int .i64 0, .int .i64 0] (by simp) (by kernel_rfl) (by simp [Value.oneCell']) rfl rfl ?_); intro V1 S; replace X0 := X0.kept S.kept (by omega); replace c0 := X0.cell; replace X1 : Bx V1 b1 [.int .i64 4, .int .i64 0, .int .i64 0, .int .i64 0, .int .i64 0] := S.bx; replace c1 := X1.cell; replace f1 := X1.froz; replace B := B.trans (S.kept.below _ (by omega) B.size); clear S))
    refine bodyPost_ret (v := .agg #[.int .i64 4, .int .i64 0, .int .i64 0, .int .i64 0, .int .i64 0]) (by simp [results, Try.results18, go_sem, *]) rfl ⟨rfl, B⟩
  | true =>
    obtain ⟨e1, e2⟩ := soC_ok HQ.out HBB.out
    have e3 : cd = 0 := HC.out.symm.trans e1
    have e4 : m.2.2.getD (sesPl m.2.2 id) se0 = s := e2.symm.trans HV.out
    subst e3
    have HN : Hid (sesPl m.2.2 id < h.S.2.1) := by show _ < _; rw [← x.se.nFours]; exact (of_decide_eq_true HBB.out).1
    clear HC HV e1 e2
    rw [HPL.out] at e4 HN
    clear HPL
    have hp1 := HN.out
    obtain ⟨N, B0, V, ⟨sa, sn, sc⟩, K⟩ := h
    simp only at hp1 hsn
    have hp2 : (pl : Int) < (sn : Int) := by omega
    have hp3 : ¬ (pl : Int) < 0 := by omega
    obtain ⟨b, off, ea, _, _, hbs, d0, d1, d2, d3, _⟩ := (x.se.below B).four hp1
    simp only at ea
    subst ea
    rw [e4] at d0 d1 d2 d3
    clear e4
    go_wp2_with (first | ((with_reducible refine store_midX 56 X1 0 [.int .i64 0, .int .i64 s.1, .int .i64 s.2.1, .int .i64 s.2.2.1, .int .i64 s.2.2.2] (by simp) (by kernel_rfl) (by simp [Value.oneCell']) rfl rfl ?_); intro V1 S; replace X0 := X0.kept S.kept (by omega); replace c0 := X0.cell; replace X1 : Bx V1 b1 [.int .i64 0, .int .i64 s.1, .int .i64 s.2.1, .int .i64 s.2.2.1, .int .i64 s.2.2.2] := S.bx; replace c1 := X1.cell; replace f1 := X1.froz; replace B := B.trans (S.kept.below _ (by omega) B.size); clear S))
    refine bodyPost_ret (v := .agg #[.int .i64 0, .int .i64 s.1, .int .i64 s.2.1, .int .i64 s.2.2.1, .int .i64 s.2.2.2]) (by simp [results, Try.results18, go_sem, *]) rfl ⟨rfl, B⟩
set_option maxRecDepth 20000 in
set_option maxHeartbeats 2000000 in
theorem eqSR_yes (cd : Int) (s : Se) (w : World) :
    Calls Try.prog 19 #[.agg #[.int .i64 cd, .int .i64 s.1, .int .i64 s.2.1, .int .i64 s.2.2.1, .int .i64 s.2.2.2], .agg #[.int .i64 cd, .int .i64 s.1, .int .i64 s.2.1, .int .i64 s.2.2.1, .int .i64 s.2.2.2]] w fun e w' => e = .returned (.bool true) ∧ Below w.heap.size w w' := by
  have e1 : (cd != cd) = false := by simp
  go_enter Try.func19, Try.ntmps19
  go_wp2_with (first | ((have g := ob0); clear g; (with_reducible refine box_newX 56 [.int .i64 cd, .int .i64 s.1, .int .i64 s.2.1, .int .i64 s.2.2.1, .int .i64 s.2.2.2] rfl ?_); intro b1 W1 N1; have ob1 : w.heap.size ≤ b1 := Nat.le_trans B.size N1.ge; have o0_b1 : b0 < b1 := Nat.lt_of_lt_of_le X0.lt N1.ge; replace X0 := X0.below N1.below; replace c0 := X0.cell; replace B := below_next B N1.below; have X1 := N1.bx; have c1 := X1.cell; clear N1) | ((with_reducible refine box_newX 56 [.int .i64 cd, .int .i64 s.1, .int .i64 s.2.1, .int .i64 s.2.2.1, .int .i64 s.2.2.2] rfl ?_); intro b0 W0 N0; have ob0 : w.heap.size ≤ b0 := N0.ge; have B := N0.below; have X0 := N0.bx; have c0 := X0.cell; clear N0) | fail)
  refine (eqSession_yes s.1 s.2.1 s.2.2.1 s.2.2.2 _).mono ?_
  rintro e w1 ⟨rfl, BB⟩
  replace X0 := X0.below BB
  replace c0 := X0.cell
  replace X1 := X1.below BB
  replace c1 := X1.cell
  replace B := below_next B BB
  clear BB
  go_wp2
  go_ret
  exact ⟨rfl, B⟩

end Go.Proofs.Ytedgppggaceopaa

/- At every machine and client the program's SessionOf answers as its model does, every field, and writes into no argument: the law FnExactSessionOf is true at every argument, with no condition. -/
namespace Go.Proofs.Ytedgppggaceopaa
open Go.RowKit

set_option maxRecDepth 20000 in
set_option maxHeartbeats 16000000 in
theorem lawSessionOf {own : Bool} (h : MacH) (m : Mac) (id : Int) (w : World) (x : MacAt w own 0 w.heap.size h m) (hn : h.N.2.1 ≤ maxLen) (hb : h.B.2.1 ≤ maxLen) (hK : ∀ i, i < h.N.2.1 → (h.K i).2.1 ≤ maxLen) (hv : h.V.2.1 ≤ maxLen) (hs : h.S.2.1 ≤ maxLen) : Calls Try.prog 5 #[.agg #[.slice h.N.1 h.N.2.1 h.N.2.2, .slice h.B.1 h.B.2.1 h.B.2.2, .slice h.V.1 h.V.2.1 h.V.2.2, .slice h.S.1 h.S.2.1 h.S.2.2], .int .i64 id] w fun e w' => e = .returned (.bool true) ∧ Below w.heap.size w w' := by
  obtain ⟨cd, hcd⟩ : ∃ cd, soC m id = cd := ⟨_, rfl⟩
  obtain ⟨s, hv⟩ : ∃ s, soS m id = s := ⟨_, rfl⟩
  have HC : Hid _ := hcd
  have HV : Hid _ := hv
  clear hcd hv
  go_enter Try.func5, Try.ntmps5
  go_wp2_with (first | ((with_reducible refine box_newX 31 [.slice h.N.1 h.N.2.1 h.N.2.2, .slice h.B.1 h.B.2.1 h.B.2.2, .slice h.V.1 h.V.2.1 h.V.2.2, .slice h.S.1 h.S.2.1 h.S.2.2] rfl ?_); intro b0 W0 N0; have ob0 : w.heap.size ≤ b0 := N0.ge; have B := N0.below; have X0 := N0.bx; have c0 := X0.cell; clear N0) | fail)
  refine (szMachine_lt h m _ (x.below B) hn hb hK hv hs 1048576 (by omega) (by omega)).mono ?_
  rintro e w1 ⟨q, rfl, BB, hq⟩
  replace X0 := X0.below BB
  replace c0 := X0.cell
  replace B := below_next B BB
  clear BB
  rcases hq with hq | ⟨hq0, hq1, hz⟩
  · go_wp2
    go_ret
    exact ⟨rfl, B⟩
  have HZ : Hid _ := hz
  have hq' : ¬ q < 0 := by omega
  clear hz hq0 hq1
  go_wp2_with fail
  refine (toMachine_any h m _ (x.below B) HZ.out).mono ?_
  rintro e w2 ⟨z1, u1, h1, rfl, _, _, y1, z1', BB⟩
  replace X0 := X0.below BB
  replace c0 := X0.cell
  replace B := below_next B BB
  clear BB
  go_wp2_with fail
  refine (specSO_is h1 m _ y1 z1' id cd s HC.out HV.out).mono ?_
  rintro e w3 ⟨rfl, BB⟩
  replace X0 := X0.below BB
  replace c0 := X0.cell
  replace B := below_next B BB
  clear BB
  clear y1 z1'
  go_wp2_with (first | ((with_reducible refine store_midX 56 X1 0 [.int .i64 cd, .int .i64 s.1, .int .i64 s.2.1, .int .i64 s.2.2.1, .int .i64 s.2.2.2] (by simp) (by kernel_rfl) (by simp [Value.oneCell']) rfl rfl ?_); intro V1 S; replace X0 := X0.kept S.kept (by omega); replace c0 := X0.cell; replace X1 : Bx V1 b1 [.int .i64 cd, .int .i64 s.1, .int .i64 s.2.1, .int .i64 s.2.2.1, .int .i64 s.2.2.2] := S.bx; replace c1 := X1.cell; replace f1 := X1.froz; replace B := B.trans (S.kept.below _ (by omega) B.size); clear S) | ((have g := ob0); clear g; (with_reducible refine alloc_newX 56 [.int .i64 0, .int .i64 0, .int .i64 0, .int .i64 0, .int .i64 0] (fun _ => by kernel_rfl) ?_); intro b1 W1 N1; have ob1 : w.heap.size ≤ b1 := Nat.le_trans B.size N1.ge; have o0_b1 : b0 < b1 := Nat.lt_of_lt_of_le X0.lt N1.ge; replace X0 := X0.below N1.below; replace c0 := X0.cell; replace B := below_next B N1.below; have X1 := N1.bx; have c1 := X1.cell; have f1 := X1.froz; clear N1) | fail)
  refine (toMachine_any h m _ (x.below B) HZ.out).mono ?_
  rintro e w4 ⟨zY, uY, h2, rfl, GzY, hy1, y1, z1', BB⟩
  have ozY : w.heap.size ≤ zY := Nat.le_trans B.size GzY
  have o0_zY : b0 < zY := Nat.lt_of_lt_of_le X0.lt GzY
  have o1_zY : b1 < zY := Nat.lt_of_lt_of_le X1.lt GzY
  clear GzY
  replace X0 := X0.below BB
  replace c0 := X0.cell
  replace X1 := X1.below BB
  replace c1 := X1.cell
  replace f1 := X1.froz
  replace B := below_next B BB
  have HZ2 : Hid _ := z1'
  clear z1'
  clear BB
  go_wp2_with (first | ((with_reducible refine store_midX 43 X2 0 [.slice h2.N.1 h2.N.2.1 h2.N.2.2, .slice h2.B.1 h2.B.2.1 h2.B.2.2, .slice h2.V.1 h2.V.2.1 h2.V.2.2, .slice h2.S.1 h2.S.2.1 h2.S.2.2] (by simp) (by kernel_rfl) (by simp [Value.oneCell']) rfl rfl ?_); intro V2 S; replace X0 := X0.kept S.kept (by omega); replace c0 := X0.cell; replace X1 := X1.kept S.kept (by omega); replace c1 := X1.cell; replace f1 := X1.froz; replace X2 : Bx V2 b2 [.slice h2.N.1 h2.N.2.1 h2.N.2.2, .slice h2.B.1 h2.B.2.1 h2.B.2.2, .slice h2.V.1 h2.V.2.1 h2.V.2.2, .slice h2.S.1 h2.S.2.1 h2.S.2.2] := S.bx; replace c2 := X2.cell; replace f2 := X2.froz; replace y1 := y1.kept S.kept (by omega); replace hy1 := Nat.le_trans hy1 S.kept.size; replace B := B.trans (S.kept.below _ (by omega) B.size); clear S) | ((have g := ob1); clear g; (with_reducible refine alloc_newX 43 [.slice none 0 0, .slice none 0 0, .slice none 0 0, .slice none 0 0] (fun _ => by kernel_rfl) ?_); intro b2 W2 N2; have ob2 : w.heap.size ≤ b2 := Nat.le_trans B.size N2.ge; have o0_b2 : b0 < b2 := Nat.lt_of_lt_of_le X0.lt N2.ge; have o1_b2 : b1 < b2 := Nat.lt_of_lt_of_le X1.lt N2.ge; have oy1_b2 : uY ≤ b2 := Nat.le_trans hy1 N2.ge; replace X0 := X0.below N2.below; replace c0 := X0.cell; replace X1 := X1.below N2.below; replace c1 := X1.cell; replace f1 := X1.froz; replace y1 := y1.below N2.below; replace hy1 := Nat.le_trans hy1 N2.below.size; replace B := below_next B N2.below; have X2 := N2.bx; have c2 := X2.cell; have f2 := X2.froz; clear N2) | fail)
  refine (implSO_is h2 m _ y1 HZ2.out id cd s HC.out HV.out).mono ?_
  rintro e w5 ⟨rfl, BB⟩
  replace X0 := X0.below BB
  replace c0 := X0.cell
  replace X1 := X1.below BB
  replace c1 := X1.cell
  replace f1 := X1.froz
  replace X2 := X2.below BB
  replace c2 := X2.cell
  replace f2 := X2.froz
  replace y1 := y1.below BB
  replace hy1 := Nat.le_trans hy1 BB.size
  replace B := below_next B BB
  clear BB
  go_wp2_with (first | ((with_reducible refine store_midX 56 X3 0 [.int .i64 cd, .int .i64 s.1, .int .i64 s.2.1, .int .i64 s.2.2.1, .int .i64 s.2.2.2] (by simp) (by kernel_rfl) (by simp [Value.oneCell']) rfl rfl ?_); intro V3 S; replace X0 := X0.kept S.kept (by omega); replace c0 := X0.cell; replace X1 := X1.kept S.kept (by omega); replace c1 := X1.cell; replace f1 := X1.froz; replace X2 := X2.kept S.kept (by omega); replace c2 := X2.cell; replace f2 := X2.froz; replace X3 : Bx V3 b3 [.int .i64 cd, .int .i64 s.1, .int .i64 s.2.1, .int .i64 s.2.2.1, .int .i64 s.2.2.2] := S.bx; replace c3 := X3.cell; replace f3 := X3.froz; replace y1 := y1.kept S.kept (by omega); replace hy1 := Nat.le_trans hy1 S.kept.size; replace B := B.trans (S.kept.below _ (by omega) B.size); clear S) | ((have g := ob2); clear g; (with_reducible refine alloc_newX 56 [.int .i64 0, .int .i64 0, .int .i64 0, .int .i64 0, .int .i64 0] (fun _ => by kernel_rfl) ?_); intro b3 W3 N3; have ob3 : w.heap.size ≤ b3 := Nat.le_trans B.size N3.ge; have o0_b3 : b0 < b3 := Nat.lt_of_lt_of_le X0.lt N3.ge; have o1_b3 : b1 < b3 := Nat.lt_of_lt_of_le X1.lt N3.ge; have o2_b3 : b2 < b3 := Nat.lt_of_lt_of_le X2.lt N3.ge; have oy1_b3 : uY ≤ b3 := Nat.le_trans hy1 N3.ge; replace X0 := X0.below N3.below; replace c0 := X0.cell; replace X1 := X1.below N3.below; replace c1 := X1.cell; replace f1 := X1.froz; replace X2 := X2.below N3.below; replace c2 := X2.cell; replace f2 := X2.froz; replace y1 := y1.below N3.below; replace hy1 := Nat.le_trans hy1 N3.below.size; replace B := below_next B N3.below; have X3 := N3.bx; have c3 := X3.cell; have f3 := X3.froz; clear N3) | fail)
  refine (eqSR_yes cd s _).mono ?_
  rintro e w6 ⟨rfl, BB⟩
  replace X0 := X0.below BB
  replace c0 := X0.cell
  replace X1 := X1.below BB
  replace c1 := X1.cell
  replace f1 := X1.froz
  replace X2 := X2.below BB
  replace c2 := X2.cell
  replace f2 := X2.froz
  replace X3 := X3.below BB
  replace c3 := X3.cell
  replace f3 := X3.froz
  replace y1 := y1.below BB
  replace hy1 := Nat.le_trans hy1 BB.size
  replace B := below_next B BB
  clear BB
  go_wp2_with fail
  have DQ : Below w6.heap.size w6 w6.drew := (Below.refl _ _).drew
  replace X0 := X0.below DQ
  replace c0 := X0.cell
  replace X1 := X1.below DQ
  replace c1 := X1.cell
  replace f1 := X1.froz
  replace X2 := X2.below DQ
  replace c2 := X2.cell
  replace f2 := X2.froz
  replace X3 := X3.below DQ
  replace c3 := X3.cell
  replace f3 := X3.froz
  replace y1 := y1.below DQ
  replace hy1 := Nat.le_trans hy1 DQ.size
  replace B := below_next B DQ
  clear DQ
  refine wp_region_held_drew (S := (fun w' => (∀ k : Nat, w'.cell? ⟨b0, k, none⟩ = [.slice h.N.1 h.N.2.1 h.N.2.2, .slice h.B.1 h.B.2.1 h.B.2.2, .slice h.V.1 h.V.2.1 h.V.2.2, .slice h.S.1 h.S.2.1 h.S.2.2][k]?) ∧ (∀ k : Nat, w'.cell? ⟨b2, k, none⟩ = [.slice h2.N.1 h2.N.2.1 h2.N.2.2, .slice h2.B.1 h2.B.2.1 h2.B.2.2, .slice h2.V.1 h2.V.2.1 h2.V.2.2, .slice h2.S.1 h2.S.2.1 h2.S.2.2][k]?))) (by kernel_rfl) ⟨c0, c2⟩ (fun hHeld => ?_)
  refine wpAnyH_take (i := 0) (v := ?_) rfl (by kernel_rfl) (by kernel_rfl) (by kernel_rfl) (fun _ _ _ h => h) (Or.inl ⟨by rfl, ?_⟩) hHeld ?_
  rotate_left 1
  · intro w hSw
    try dsimp only at hSw
    first | (go_simp; done) | (go_simp; with_reducible rfl)
  simp only [Act.put, List.setIfInBounds_toArray, List.set_cons_zero, List.set_cons_succ, List.getElem_toArray, List.getElem_cons_zero]
  refine wpAnyH_take (i := 1) (v := ?_) rfl (by kernel_rfl) (by kernel_rfl) (by kernel_rfl) (fun _ _ _ h => h) (Or.inl ⟨by rfl, ?_⟩) hHeld ?_
  rotate_left 1
  · intro w hSw
    try dsimp only at hSw
    first | (go_simp; done) | (go_simp; with_reducible rfl)
  simp only [Act.put, List.setIfInBounds_toArray, List.set_cons_zero, List.set_cons_succ, List.getElem_toArray, List.getElem_cons_zero, List.getElem_cons_succ]
  refine wpAnyH_ready (rs := [2]) (by kernel_rfl) (by simp) ?_
  refine AllReadyH.cons rfl (fun KK hKK => ?_) AllReadyH.nil
  go_simp
  go_at_call 9
  refine (toMachine_any h m _ (x.below B) HZ.out).mono ?_
  rintro e v1 ⟨z9, u9, h9, rfl, _, _, y9, _, BB⟩
  replace X0 := X0.below BB
  replace c0 := X0.cell
  replace X1 := X1.below BB
  replace c1 := X1.cell
  replace f1 := X1.froz
  replace X2 := X2.below BB
  replace c2 := X2.cell
  replace f2 := X2.froz
  replace X3 := X3.below BB
  replace c3 := X3.cell
  replace f3 := X3.froz
  replace y1 := y1.below BB
  replace hy1 := Nat.le_trans hy1 BB.size
  replace B := below_next B BB
  clear BB
  clear hHeld
  refine hKK _ _ ⟨c0, c2⟩ (fun hHeld => ?_)
  clear hKK KK
  refine wpAnyH_ready (rs := [3]) (by kernel_rfl) (by simp) ?_
  refine AllReadyH.cons rfl (fun KK hKK => ?_) AllReadyH.nil
  go_simp
  go_at_call 11
  refine (eqMachine_yes h2 h9 m _ y1 y9 (HZ2.out.mono (by omega))).mono ?_
  rintro e v2 ⟨rfl, BB⟩
  replace X0 := X0.below BB
  replace c0 := X0.cell
  replace X1 := X1.below BB
  replace c1 := X1.cell
  replace f1 := X1.froz
  replace X2 := X2.below BB
  replace c2 := X2.cell
  replace f2 := X2.froz
  replace X3 := X3.below BB
  replace c3 := X3.cell
  replace f3 := X3.froz
  replace y1 := y1.below BB
  replace hy1 := Nat.le_trans hy1 BB.size
  replace B := below_next B BB
  clear BB
  clear hHeld
  refine hKK _ _ ⟨c0, c2⟩ (fun hHeld => ?_)
  clear hKK KK
  refine wpAnyH_take (i := 4) (v := ?_) rfl (by kernel_rfl) (by kernel_rfl) (by kernel_rfl) (fun _ _ _ h => h) (Or.inl ⟨by rfl, ?_⟩) hHeld ?_
  rotate_left 1
  · intro w hSw
    try dsimp only at hSw
    first | (go_simp; done) | (go_simp; with_reducible rfl)
  simp only [Act.put, List.setIfInBounds_toArray, List.set_cons_zero, List.set_cons_succ, List.getElem_toArray, List.getElem_cons_zero, List.getElem_cons_succ]
  refine wpAnyH_done (by kernel_rfl) ?_ _
  go_wp2
  go_ret
  exact ⟨rfl, B⟩

open Go.ChangeShapes Go.WideShapes Go.ChangeAt Go.Joins

set_option maxRecDepth 100000 in
theorem liftedSessionOf (os : Os) (started : os.Started) (H : Type) (enc : TypeId × Value → H) :
    ReturnsInHanded {} Try.checked os 5 .any (Rows.fnExactSessionOfSpec.pre6 enc Try.prog Try.f5 Rows.fnExactSessionOfRow.domain false) (Rows.fnExactSessionOfSpec.post enc Try.prog Try.f5 false true false false) := by
  refine returnsInHanded_of_change (C := Try.checked) Try.own started (by kernel_rfl) Try.func5
    (ChangeSpec.witness6 (enc := enc) (C := Try.checked) false ⟨#[], #[.agg #[.slice none 0 0, .slice none 0 0, .slice none 0 0, .slice none 0 0], .int .i64 0], []⟩ 8 (by kernel_rfl) (by kernel_rfl) (by kernel_rfl) (by kernel_rfl)) ?_
  intro W base args ds gs before hval0 hW hcnd _
  have hval : ∀ (j : Nat) t v, Try.f5.params[j]? = some t → args[j]? = some v → Value.okWide Try.prog W .any base t v := hval0
  have hW' := hW
  obtain ⟨p, q, hA0, hV, rfl, hfz, hnd⟩ := hW
  have hA : DataW.TrodAll enc Try.prog W 0 (fun _ => true) true Try.f5.params.toList args.toList ds p := hA0
  rw [Try.params5] at hA hval
  obtain ⟨v0, vs0, d0, ds0, p0, q0, hargs, rfl, rfl, h0, r0⟩ := trodAll_cons hA
  obtain ⟨v1, vs1, d1, ds1, p1, q1, rfl, rfl, rfl, h1, r1⟩ := trodAll_cons r0
  obtain ⟨rfl, rfl, rfl⟩ := trodAll_nil r1
  obtain rfl : args = #[v0, v1] := by cases args; simp_all
  obtain ⟨rfl, rfl⟩ := trodVars_none hV
  have lt0 : ∀ x ∈ p0, x.block < W.heap.size := by obtain ⟨m, hm⟩ := h0; exact DataW.trod_lt m _ _ _ hm
  have k0 := h0
  obtain ⟨e0, e1, e2, e3, y0, y1, y2, y3, m, m', m'', rfl, hy0, hy1, hy2, hy3⟩ := open_machine Try.underlying31 rfl rfl Try.cellsPool Try.cellsSessions Try.cellsMachine Try.underlying28 rfl rfl Try.cellsForest Try.cellsVols Try.underlying25 rfl rfl Try.cellsNodes Try.cellsBlocks (hval 0 31 v0 rfl rfl) h0
  obtain ⟨an, nn, cn, Kf, ns, rfl, hnf, hKf, sn⟩ := read_nodes Try.underlying22 Try.underlying140 Try.cellsNode rfl rfl rfl Try.underlying2 Try.underlying4 Try.underlying107 Try.underlying2 Try.cellsInt Try.cellsBool Try.cellsInts Try.cellsInt hy0
  obtain ⟨ab, nb, cb, bs, rfl, hmf, sbk⟩ := read_pairs Try.underlying23 Try.underlying146 Try.cellsBlock rfl rfl Try.underlying2 Try.underlying2 Try.cellsInt Try.cellsInt hy1
  obtain ⟨av, nv, cv, vs, rfl, hvf, sv⟩ := read_vols Try.underlying26 Try.underlying121 Try.cellsVol rfl rfl rfl Try.underlying2 Try.underlying2 Try.underlying2 Try.cellsInt Try.cellsInt Try.cellsInt hy2
  obtain ⟨aq, nz, cz, ss, rfl, hsf, sz⟩ := read_sessions Try.underlying29 Try.sesTy hy3
  have mx : MacAt W false 0 W.heap.size ⟨(an, nn, cn), (ab, nb, cb), (av, nv, cv), (aq, nz, cz), Kf⟩ ((ns, bs), vs, ss) := ⟨⟨sn, sbk, fun hx => by cases hx⟩, sv, sz⟩
  obtain ⟨x1, rfl, rfl, rfl, wx1⟩ := open_int Try.underlying2 (hval 1 2 v1 rfl rfl) h1
  clear hA0 hval0
  refine (lawSessionOf ⟨(an, nn, cn), (ab, nb, cb), (av, nv, cv), (aq, nz, cz), Kf⟩ ((ns, bs), vs, ss) x1 W mx hnf hmf hKf hvf hsf).mono fun e W' ⟨he, bel⟩ => ?_
  subst he
  exact ⟨_, rfl, _, _, _, [], _, [], hW', trodAll_mk1 (shut_bool Try.underlying4 _), (trodAll_cons_mk (Below.trod Try.laidOut (by kernel_rfl) (of_decide_eq_true (by kernel_rfl)) k0 bel lt0) (trodAll_cons_mk (shut_int Try.underlying2 wx1) trodAll_mk0)), rfl, bel.frame _, fun h => by cases h⟩

set_option maxRecDepth 100000 in
set_option maxHeartbeats 0 in
theorem closedSessionOf : joinedFacts Try.prog 5 Try.f5 Rows.fnExactSessionOfSpec Rows.fnExactSessionOfRow = true := by
  have q1 : (Rows.fnExactSessionOfRow.inPlace == Try.prog.inPlace 5) = true := by rw [inPlace_at leads_is inp_is]; kernel_rfl
  have q2 : (Rows.fnExactSessionOfRow.unfollowed == Try.prog.unfollowed 5) = true := by rw [unfollowed_at leads_is unf_is]; kernel_rfl
  have q3 : (Rows.fnExactSessionOfRow.recurses == Try.prog.recurses 5) = true := (by rw [recurses_unf leads_is (by rw [unfollowed_at leads_is unf_is]; kernel_rfl)]; rfl)
  have q4 : (Rows.fnExactSessionOfRow.named == Try.prog.varsNamed 5) = true := by rw [varsNamed_at leads_is var_ok ent_is]; kernel_rfl
  have q5 : (Try.prog.make == some Rows.fnExactSessionOfRow.make) = true := by rw [made_cut]; rfl
  have q6 : (Rows.fnExactSessionOfRow.lifted == Try.prog.liftsFinal) = true := by rw [lifts_no]; rfl
  have q7 : Try.prog.mayEnter = true := may_enter
  have q8 : laidOutB Try.prog = true := Try.laidOut
  unfold joinedFacts
  repeat' (with_reducible refine Bool.and_eq_true_iff.2 ⟨?_, ?_⟩)
  all_goals (first | with_reducible exact q1 | with_reducible exact q2 | with_reducible exact q3 | with_reducible exact q4 | with_reducible exact q5 | with_reducible exact q6 | with_reducible exact q7 | with_reducible exact q8 | (as_aux_lemma => kernel_rfl))

theorem sessionOf_holds : Rows.FnExactSessionOfSaid :=
  OpenClaim.holds_of_wide 5 Try.f5 rfl rfl rfl rfl rfl rfl rfl ⟨rfl, rfl, rfl, rfl, rfl⟩ rfl rfl rfl rfl rfl (by as_aux_lemma => kernel_rfl) Try.func5 closedSessionOf
    (of_decide_eq_true (by as_aux_lemma => kernel_rfl)) (by unfold Func.isWrapper; first | (rw [if_pos (by decide +kernel)]; kernel_rfl) | (rw [if_neg (by decide +kernel)]; exact ⟨rfl, rfl⟩))
    (fun os started H enc _ => liftedSessionOf os started H enc)

#print axioms sessionOf_holds

end Go.Proofs.Ytedgppggaceopaa

