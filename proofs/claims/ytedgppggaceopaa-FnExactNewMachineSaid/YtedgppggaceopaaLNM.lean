/- At every number the program's NewMachine answers as its model does, every field, and its answer owns its memory: the law FnExactNewMachine is true at every argument, with no condition. -/
import Derived.Test.YtedgppggaceopaaBase
import Derived.Test.YtedgppggaceopaaZT
import Derived.Test.YtedgppggaceopaaCopy
import Derived.Test.YtedgppggaceopaaMark
import Derived.Test.YtedgppggaceopaaEq
import Derived.Test.YtedgppggaceopaaMark2
import Derived.Test.YtedgppggaceopaaBC
import Derived.Test.YtedgppggaceopaaSm
import Derived.Test.YtedgppggaceopaaPutS
import Derived.Test.YtedgppggaceopaaFacts
import Derived.Test.YtedgppggaceopaaZM
import Derived.Test.YtedgppggaceopaaYE
import Derived.Test.YtedgppggaceopaaP1
import Derived.Test.YtedgppggaceopaaZU
import Derived.Test.YtedgppggaceopaaZW
import Derived.Test.YtedgppggaceopaaZX
import Derived.Test.YtedgppggaceopaaZZ
import Derived.Test.YtedgppggaceopaaZQ
import Derived.Test.YtedgppggaceopaaZV
import Derived.Test.YtedgppggaceopaaYP
import Derived.Test.YtedgppggaceopaaO1b
import Derived.Test.YtedgppggaceopaaXA
import Derived.Test.YtedgppggaceopaaZR
import Derived.Test.YtedgppggaceopaaBools
import Derived.Test.YtedgppggaceopaaWA
import Derived.Test.YtedgppggaceopaaMS0
import Derived.Test.YtedgppggaceopaaMS1
import Derived.Test.YtedgppggaceopaaPV2
import Derived.Test.YtedgppggaceopaaMS2
import Derived.Test.YtedgppggaceopaaFS0
import Derived.Test.YtedgppggaceopaaMS3
import Derived.Test.YtedgppggaceopaaMS4
import Derived.Test.YtedgppggaceopaaMS5
import Derived.Test.YtedgppggaceopaaOpenP
import Derived.Test.YtedgppggaceopaaRowP
import Derived.Test.YtedgppggaceopaaOpenM
import Derived.Test.YtedgppggaceopaaRowM
import Derived.Test.YtedgppggaceopaaLMcF
import Derived.WalkKit
import Derived.WalkSpells
import Derived.Deep.Draws
import Derived.Deep.MidRow
import Derived.Test.YtedgppggaceopaaChecked
import Derived.WalkLawsBesides
import Derived.Deep.QuietTactic
import Derived.BigQuiet
import Derived.Deep.RegionHeld3
import Derived.Deep.WholeRow
import Derived.Deep.AppendSrc
import Derived.Maps.AppendAt
import Derived.ProofKit
import Derived.OpenShut
import Derived.Lib.SmallJoins
import Derived.Deep.SlicePairs
import Derived.Test.YtedgppggaceopaaRows
import Derived.Deep.AppendLies
import Derived.Lib.AppendZeros
import Derived.Deep.RegionLaw
import Derived.Laws.ComplexArith
import Derived.Laws.StructEq
import Derived.Laws.Cover3
namespace Go.Proofs.Ytedgppggaceopaa
open Go.RowKit

/-- an answer with blocks -/
def BlkRes (w w' : World) (e : Ending) (code : Int) (at' : Int) (bs : List (Int × Int)) : Prop :=
  ∃ a n c, e = .returned (.agg #[.int .i64 code, .int .i64 at', .slice a n c]) ∧ RowAt w' true w.heap.size w'.heap.size 2 a n c (pairs bs) ∧ Below w.heap.size w w'

end Go.Proofs.Ytedgppggaceopaa

namespace Go.Proofs.Ytedgppggaceopaa
open Go.RowKit

def newFoList (n : Int) : Fo := ([], newBList n)
end Go.Proofs.Ytedgppggaceopaa

namespace Go.Proofs.Ytedgppggaceopaa
open Go.RowKit

def marks (k : Int) (n : Nat) : List Int := (List.range n).map fun (i : Nat) => k + (i : Int)
def marks2 (k : Int) (n : Nat) : List (Int × Int) := (List.range n).map fun (i : Nat) => (k + 2 * (i : Int), k + 2 * (i : Int) + 1)
theorem marks_len (k : Int) (n : Nat) : (marks k n).length = n := by simp [marks]
theorem marks2_len (k : Int) (n : Nat) : (marks2 k n).length = n := by simp [marks2]
theorem marks_getD (k : Int) (n i : Nat) (h : i < n) : (marks k n).getD i 0 = k + i := by simp [marks, List.getD, h]
theorem marks2_getD (k : Int) (n i : Nat) (h : i < n) : (marks2 k n).getD i (0, 0) = (k + 2 * i, k + 2 * i + 1) := by simp [marks2, List.getD, h]

/-- What has been marked so far. -/
def mk1 (xs : List Int) (k : Int) (i : Nat) : List Int := marks k i ++ xs.drop i
theorem mk1_set (xs : List Int) (k : Int) (i : Nat) (h : i < xs.length) : (ints (mk1 xs k i)).set i (.int .i64 (k + i)) = ints (mk1 xs k (i + 1)) := by
  unfold ints mk1
  rw [← List.map_set, List.set_append, if_neg (by rw [marks_len]; omega), marks_len, Nat.sub_self, List.drop_eq_getElem_cons h, List.set_cons_zero]
  simp [marks, List.range_succ]
theorem mk1_all (xs : List Int) (k : Int) : mk1 xs k xs.length = marks k xs.length := by simp [mk1]
theorem mk1_zero (xs : List Int) (k : Int) : mk1 xs k 0 = xs := by simp [mk1, marks]

set_option maxHeartbeats 400000 in
theorem markInts_any {lo hi : Nat} (ao : Option Addr) (n cap : Nat) (xs : List Int) (k : Int) (w : World) (h : RowAt w true lo hi 1 ao n cap (ints xs)) (hn : n ≤ 4194304) (hk0 : 0 ≤ k) (hk1 : k ≤ 16777216) :
    Calls Try.prog 130 #[.slice ao n cap, .int .i64 k] w fun e w' => e = .returned (.int .i64 (k + n)) ∧ RowAt w' true lo hi 1 ao n cap (ints (marks k n)) ∧ Kept lo hi w w' := by
  have hx := h.nInts
  go_enter Try.func130, Try.ntmps130
  go_wp2
  go_loopw [1, 5] (fun v i wr => ∃ j : Nat, j ≤ n ∧ i = .int .i64 j ∧ v = .int .i64 (k + j) ∧ RowAt wr true lo hi 1 ao n cap (ints (mk1 xs k j)) ∧ Kept lo hi w wr) (fun _ i _ => n - (intOf i).toNat)
  case atStart => exact ⟨0, Nat.zero_le _, rfl, by simp, by rw [mk1_zero]; exact h, Kept.refl _ _ _⟩
  case round =>
    obtain ⟨j, hj, rfl, rfl, R, hK⟩ := hrel
    by_cases hlt : j < n
    · obtain ⟨b, off, rfl, hlo, hhi, hbs, hc, hf0⟩ := R.int hlt
      have hf := hf0 rfl
      have R2 := R.stored (i := j) (by omega) (.int .i64 (k + j))
      rw [mk1_set xs k j (by omega)] at R2
      have K2 : Kept lo hi w (wr.setCell ⟨b, off + j, none⟩ (.int .i64 (k + j))) := hK.setCell (p := ⟨b, off + j, none⟩) hlo hhi _
      have hl : (j : Int) < n := by omega
      clear R hf0 hK
      generalize (mk1 xs k j).getD j 0 = old at *
      go_wp2
      go_roundw
      case rel => exact ⟨j + 1, by omega, by go_num, by simp; omega, R2, K2⟩
      case measure => simp [intOf]; omega
    · have hjn : j = n := by omega
      subst hjn
      rw [← hx, mk1_all] at R
      go_wp2
      go_ret
      exact ⟨rfl, by rw [← hx]; exact R, hK⟩

theorem pairs_append (a b : List (Int × Int)) : pairs (a ++ b) = pairs a ++ pairs b := by simp [pairs]
def mk2 (ys : List (Int × Int)) (k : Int) (i : Nat) : List (Int × Int) := marks2 k i ++ ys.drop i
theorem mk2_set (ys : List (Int × Int)) (k : Int) (i : Nat) (h : i < ys.length) : ((pairs (mk2 ys k i)).set (i * 2) (.int .i64 (k + 2 * i))).set (i * 2 + 1) (.int .i64 (k + 2 * i + 1)) = pairs (mk2 ys k (i + 1)) := by
  unfold mk2
  have hl : (pairs (marks2 k i)).length = i * 2 := by rw [pairs_length, marks2_len]
  rw [pairs_append, List.set_append, if_neg (by omega), hl, Nat.sub_self, List.set_append, if_neg (by omega), hl, show i * 2 + 1 - i * 2 = 1 by omega, List.drop_eq_getElem_cons h]
  generalize ys.drop (i + 1) = r
  generalize ys[i] = p
  simp [pairs, marks2, List.range_succ]
theorem mk2_all (ys : List (Int × Int)) (k : Int) : mk2 ys k ys.length = marks2 k ys.length := by simp [mk2]
theorem mk2_zero (ys : List (Int × Int)) (k : Int) : mk2 ys k 0 = ys := by simp [mk2, marks2]

set_option maxHeartbeats 400000 in
theorem heldInts_any {o : Bool} {lo hi : Nat} (ao : Option Addr) (n cap : Nat) (k : Int) (w : World) (h : RowAt w o lo hi 1 ao n cap (ints (marks k n))) (hn : n ≤ 4194304) (hk0 : 0 ≤ k) (hk1 : k ≤ 16777216) :
    Calls Try.prog 131 #[.slice ao n cap, .int .i64 k] w fun e w' => e = .returned (.int .i64 (k + n)) ∧ w' = w := by
  go_enter Try.func131, Try.ntmps131
  go_wp2
  go_loop [1, 5] (fun v i => ∃ j : Nat, j ≤ n ∧ i = .int .i64 j ∧ v = .int .i64 (k + j)) (fun _ i => n - (intOf i).toNat)
  case atStart => exact ⟨0, Nat.zero_le _, rfl, by simp⟩
  case round =>
    obtain ⟨j, hj, rfl, rfl⟩ := hrel
    by_cases hlt : j < n
    · obtain ⟨b, off, rfl, hlo, hhi, hbs, hc, hf0⟩ := h.int hlt
      rw [marks_getD k n j hlt] at hc
      have he : ((k + (j : Int)) != (k + (j : Int))) = false := by simp
      have hl : (j : Int) < n := by omega
      clear hf0
      go_wp2
      go_round
      case rel => exact ⟨j + 1, by omega, by go_num, by simp; omega⟩
      case measure => simp [intOf]; omega
    · have hjn : j = n := by omega
      subst hjn
      go_wp2
      go_ret
      exact ⟨rfl, rfl⟩

end Go.Proofs.Ytedgppggaceopaa

namespace Go.Proofs.Ytedgppggaceopaa
open Go.RowKit

set_option maxHeartbeats 400000 in
theorem markBlocks_any {lo hi : Nat} (ao : Option Addr) (n cap : Nat) (ys : List (Int × Int)) (k : Int) (w : World) (h : RowAt w true lo hi 2 ao n cap (pairs ys)) (hn : n ≤ 4194304) (hk0 : 0 ≤ k) (hk1 : k ≤ 33554432) :
    Calls Try.prog 119 #[.slice ao n cap, .int .i64 k] w fun e w' => e = .returned (.int .i64 (k + 2 * n)) ∧ RowAt w' true lo hi 2 ao n cap (pairs (marks2 k n)) ∧ Kept lo hi w w' := by
  have hx := h.nPairs
  go_enter Try.func119, Try.ntmps119
  go_wp2
  go_loopw [1, 5] (fun v i wr => ∃ j : Nat, j ≤ n ∧ i = .int .i64 j ∧ v = .int .i64 (k + 2 * j) ∧ RowAt wr true lo hi 2 ao n cap (pairs (mk2 ys k j)) ∧ Kept lo hi w wr) (fun _ i _ => n - (intOf i).toNat)
  case atStart => exact ⟨0, Nat.zero_le _, rfl, by simp, by rw [mk2_zero]; exact h, Kept.refl _ _ _⟩
  case round =>
    obtain ⟨j, hj, rfl, rfl, R, hK⟩ := hrel
    by_cases hlt : j < n
    · obtain ⟨b, off, rfl, hlo, hhi, hbs, hc, hc', hf0⟩ := R.pair hlt
      obtain ⟨hf, hf'⟩ := hf0 rfl
      have R2 := (R.stored (i := j * 2) (by omega) (.int .i64 (k + 2 * j))).stored (i := j * 2 + 1) (by omega) (.int .i64 (k + 2 * j + 1))
      rw [mk2_set ys k j (by omega), ← Nat.add_assoc] at R2
      have K2 : Kept lo hi w ((wr.setCell ⟨b, off + j * 2, none⟩ (.int .i64 (k + 2 * j))).setCell ⟨b, off + j * 2 + 1, none⟩ (.int .i64 (k + 2 * j + 1))) := (hK.setCell (p := ⟨b, off + j * 2, none⟩) hlo hhi _).setCell (p := ⟨b, off + j * 2 + 1, none⟩) hlo hhi _
      have hl : (j : Int) < n := by omega
      clear R hf0 hK
      generalize ((mk2 ys k j).getD j (0, 0)).1 = old at *
      generalize ((mk2 ys k j).getD j (0, 0)).2 = old2 at *
      go_wp2
      go_roundw
      case rel => exact ⟨j + 1, by omega, by go_num, by simp; omega, R2, K2⟩
      case measure => simp [intOf]; omega
    · have hjn : j = n := by omega
      subst hjn
      rw [← hx, mk2_all] at R
      go_wp2
      go_ret
      exact ⟨rfl, by rw [← hx]; exact R, hK⟩

set_option maxHeartbeats 400000 in
theorem heldBlocks_any {o : Bool} {lo hi : Nat} (ao : Option Addr) (n cap : Nat) (k : Int) (w : World) (h : RowAt w o lo hi 2 ao n cap (pairs (marks2 k n))) (hn : n ≤ 4194304) (hk0 : 0 ≤ k) (hk1 : k ≤ 33554432) :
    Calls Try.prog 121 #[.slice ao n cap, .int .i64 k] w fun e w' => e = .returned (.int .i64 (k + 2 * n)) ∧ w' = w := by
  go_enter Try.func121, Try.ntmps121
  go_wp2
  go_loop [1, 5] (fun v i => ∃ j : Nat, j ≤ n ∧ i = .int .i64 j ∧ v = .int .i64 (k + 2 * j)) (fun _ i => n - (intOf i).toNat)
  case atStart => exact ⟨0, Nat.zero_le _, rfl, by simp⟩
  case round =>
    obtain ⟨j, hj, rfl, rfl⟩ := hrel
    by_cases hlt : j < n
    · obtain ⟨b, off, rfl, hlo, hhi, hbs, hc, hc', hf0⟩ := h.pair hlt
      rw [marks2_getD k n j hlt] at hc hc'
      have he : ((k + 2 * (j : Int)) != (k + 2 * (j : Int))) = false := by simp
      have he' : ((k + 2 * (j : Int) + 1) != (k + 2 * (j : Int) + 1)) = false := by simp
      have hl : (j : Int) < n := by omega
      clear hf0
      go_wp2
      go_round
      case rel => exact ⟨j + 1, by omega, by go_num, by simp; omega⟩
      case measure => simp [intOf]; omega
    · have hjn : j = n := by omega
      subst hjn
      go_wp2
      go_ret
      exact ⟨rfl, rfl⟩

section
variable (cd u : Int)
end

end Go.Proofs.Ytedgppggaceopaa

/- What the two DiskFault answer: the same number, a plain function of the words and the cache. -/
namespace Go.Proofs.Ytedgppggaceopaa
open Go.RowKit

end Go.Proofs.Ytedgppggaceopaa

/- What the program's inner functions over its array of words answer. -/
namespace Go.Proofs.Ytedgppggaceopaa
open Go.RowKit

end Go.Proofs.Ytedgppggaceopaa

/- What the program's FlushDisk answers. -/
namespace Go.Proofs.Ytedgppggaceopaa
open Go.RowKit

end Go.Proofs.Ytedgppggaceopaa

/- What the model's inner functions of chapter 1 answer. -/
namespace Go.Proofs.Ytedgppggaceopaa
open Go.RowKit

end Go.Proofs.Ytedgppggaceopaa

/- What the model's FlushDisk answers: the same as the program's. -/
namespace Go.Proofs.Ytedgppggaceopaa
open Go.RowKit

end Go.Proofs.Ytedgppggaceopaa

/- What the program's and the model's AllWords answer, and the laws' helpers on an answer of a code and a list. -/
namespace Go.Proofs.Ytedgppggaceopaa
open Go.RowKit

end Go.Proofs.Ytedgppggaceopaa

namespace Go.Proofs.Ytedgppggaceopaa
open Go.RowKit

theorem made_pairs (n : Nat) : (madeCells (Value.agg #[.int .i64 0, .int .i64 0]).cells (n * 2)).toList = pairs (List.replicate n (0, 0)) := by
  apply List.ext_getElem?
  intro j
  by_cases hj : j < n * 2
  · have e1 := pairs_length (List.replicate n ((0 : Int), (0 : Int)))
    rw [List.length_replicate] at e1
    rcases (show j % 2 = 0 ∨ j % 2 = 1 by omega) with e | e
    · have := pairs_getD0 (List.replicate n (0, 0)) (j / 2) (by simp; omega)
      rw [show j / 2 * 2 = j by omega] at this
      simp [List.getD, show j < (pairs (List.replicate n ((0 : Int), (0 : Int)))).length by omega, show j / 2 < n by omega] at this
      simp [madeCells, hj, e, Value.cells, this, show j < (pairs (List.replicate n ((0 : Int), (0 : Int)))).length by omega]
    · have := pairs_getD1 (List.replicate n (0, 0)) (j / 2) (by simp; omega)
      rw [show j / 2 * 2 + 1 = j by omega] at this
      simp [List.getD, show j < (pairs (List.replicate n ((0 : Int), (0 : Int)))).length by omega, show j / 2 < n by omega] at this
      simp [madeCells, hj, e, Value.cells, this, show j < (pairs (List.replicate n ((0 : Int), (0 : Int)))).length by omega]
  · rw [List.getElem?_eq_none (by simp [madeCells]; omega), List.getElem?_eq_none (by rw [pairs_length]; simp; omega)]

end Go.Proofs.Ytedgppggaceopaa

namespace Go.Proofs.Ytedgppggaceopaa
open Go.RowKit

theorem flat3_set2 {n : Nat} {g0 g1 g2 : Nat → Value} {i : Nat} (a b : Value) : ((flat3 n g0 g1 g2).set (i * 3) a).set (i * 3 + 1) b = flat3 n (fun j => if j = i then a else g0 j) (fun j => if j = i then b else g1 j) g2 := by
  apply List.ext_getElem (by simp [flat3])
  intro j h1 h2
  simp only [List.getElem_set, flat3, List.getElem_map, List.getElem_range]
  simp [flat3] at h2
  by_cases e1 : i * 3 + 1 = j
  · subst e1; rw [if_pos rfl, if_neg (by omega), if_pos (by omega), if_pos (by omega)]
  · rw [if_neg e1]
    by_cases e0 : i * 3 = j
    · subst e0; rw [if_pos rfl, if_pos (by omega), if_pos (by omega)]
    · rw [if_neg e0]
      by_cases m0 : j % 3 = 0
      · rw [if_pos m0, if_pos m0, if_neg (by omega)]
      · rw [if_neg m0, if_neg m0]
        by_cases m1 : j % 3 = 1
        · rw [if_pos m1, if_pos m1, if_neg (by omega)]
        · rw [if_neg m1, if_neg m1]
theorem ncells_set2 {K : Nat → KS} {ns : List Nd} {i : Nat} (h : i < ns.length) (nd : Nd) : ((ncells K ns).set (i * 3) (.int .i64 nd.1)).set (i * 3 + 1) (.bool nd.2.1) = ncells K (ns.set i nd) := by
  unfold ncells
  rw [flat3_set2, List.length_set]
  refine flat3_congr fun j _ => ?_
  rw [set_getN _ _ _ _ h]
  by_cases e : j = i
  · simp [e]
  · simp [e]
/-- the call's own nodes: one's count and kind are written anew -/
theorem NodesAt.refs {w : World} {lo hi : Nat} {b off n cap : Nat} {K : Nat → KS} {ns : List Nd} (h : NodesAt w true lo hi (some ⟨b, off, none⟩) n cap K ns) {i : Nat} (hi' : i < n) (r : Int) (lf : Bool) :
    NodesAt ((w.setCell ⟨b, off + i * 3, none⟩ (.int .i64 r)).setCell ⟨b, off + i * 3 + 1, none⟩ (.bool lf)) true lo hi (some ⟨b, off, none⟩) n cap K (ns.set i (r, lf, (ns.getD i nd0).2.2)) := by
  have hl := h.len
  have R := (h.row.stored (i := i * 3) (by omega) (.int .i64 r)).stored (i := i * 3 + 1) (by omega) (.bool lf)
  rw [ncells_set2 (by omega) (r, lf, (ns.getD i nd0).2.2), ← Nat.add_assoc] at R
  have KS1 : KeptS (fun x => x = b) w ((w.setCell ⟨b, off + i * 3, none⟩ (.int .i64 r)).setCell ⟨b, off + i * 3 + 1, none⟩ (.bool lf)) := by
    refine KeptS.setCell (KeptS.setCell (KeptS.refl _ _) ?_ _) ?_ _ <;> rfl
  refine ⟨by rw [List.length_set]; exact hl, R, fun j hj => ?_, h.sep⟩
  rw [set_getN _ _ _ _ (by omega)]
  have hk := (h.kids j hj).keptS KS1 fun a hn ea => by have := (h.sep rfl j hj hn).1; rw [ea] at this; exact this
  by_cases e : j = i
  · subst e; rw [if_pos rfl]; exact hk
  · rw [if_neg e]; exact hk
theorem RowAt.pinS {w : World} {o : Bool} {lo hi size : Nat} {ao : Option Addr} {n cap : Nat} {cs : List Value} (h : RowAt w o lo hi size ao n cap cs) : RowAt w o (sb ao) (if n = 0 then sb ao else sb ao + 1) size ao n cap cs := by
  refine ⟨h.len, h.le, fun hn => ?_⟩
  obtain ⟨b, off, rfl, _, _, r⟩ := h.cells hn
  exact ⟨b, off, rfl, Nat.le_refl _, by rw [if_neg hn]; exact Nat.lt_succ_self _, r⟩
theorem Kept.pinS {k : KS} {w w' : World} (h : Kept (sb k.1) (if k.2.1 = 0 then sb k.1 else sb k.1 + 1) w w') : KeptS (inK k) w w' := h.toS fun x h1 h2 => by
  by_cases e : k.2.1 = 0
  · rw [if_pos e] at h2; omega
  · rw [if_neg e] at h2; exact ⟨e, by omega⟩
def kOf (ns : List Nd) (k0 : Int) (i : Nat) : Int := k0 + 2 * i + kl ns i
def mkNd (ns : List Nd) (k0 : Int) (i : Nat) : Nd := (kOf ns k0 i, (kOf ns k0 i + 1) % 3 == 0, marks (kOf ns k0 i + 2) (ns.getD i nd0).2.2.length)
def mkN (ns : List Nd) (k0 : Int) (j : Nat) : List Nd := (List.range ns.length).map fun i => if i < j then mkNd ns k0 i else ns.getD i nd0
theorem mkN_len (ns : List Nd) (k0 : Int) (j : Nat) : (mkN ns k0 j).length = ns.length := by simp [mkN]
theorem mkN_get (ns : List Nd) (k0 : Int) (j i : Nat) (h : i < ns.length) : (mkN ns k0 j).getD i nd0 = if i < j then mkNd ns k0 i else ns.getD i nd0 := by simp [mkN, List.getD, h]
theorem mkN_zero (ns : List Nd) (k0 : Int) : mkN ns k0 0 = ns := by
  refine List.ext_getElem (by simp [mkN]) fun i h1 h2 => ?_
  simp [mkN, List.getD, h2]
theorem mkN_set (ns : List Nd) (k0 : Int) (j : Nat) (_ : j < ns.length) : (mkN ns k0 j).set j (mkNd ns k0 j) = mkN ns k0 (j + 1) := by
  refine List.ext_getElem (by simp [mkN]) fun i h1 h2 => ?_
  rw [List.getElem_set]
  simp only [mkN, List.getElem_map, List.getElem_range]
  by_cases e : j = i
  · subst e; rw [if_pos rfl, if_pos (by omega)]
  · rw [if_neg e]
    by_cases e2 : i < j
    · rw [if_pos e2, if_pos (by omega)]
    · rw [if_neg e2, if_neg (by omega)]
theorem kOf_succ {ns : List Nd} {k0 : Int} {i : Nat} (h : i < ns.length) : kOf ns k0 (i + 1) = kOf ns k0 i + 2 + (ns.getD i nd0).2.2.length := by
  unfold kOf; rw [kl_succ h]; omega
theorem kOf_le {ns : List Nd} {k0 : Int} {i : Nat} (h : i ≤ ns.length) : kOf ns k0 i ≤ kOf ns k0 ns.length := by
  unfold kOf; have := kl_mono (ns := ns) h; omega

set_option maxRecDepth 20000 in
set_option maxHeartbeats 2000000 in
theorem markNodes_any {lo hi : Nat} (ao : Option Addr) (n cap : Nat) (K : Nat → KS) (ns : List Nd) (k0 : Int) (w : World) (h : NodesAt w true lo hi ao n cap K ns) (hk0 : 0 ≤ k0) (hk1 : kOf ns k0 n ≤ 4194304) :
    Calls Try.prog 118 #[.slice ao n cap, .int .i64 k0] w fun e w' => e = .returned (.int .i64 (kOf ns k0 n)) ∧ NodesAt w' true lo hi ao n cap K (mkN ns k0 n) ∧ KeptS (inN ao n K) w w' := by
  have hl := h.len
  have hn : n ≤ 4194304 := by unfold kOf at hk1; omega
  go_enter Try.func118, Try.ntmps118
  go_wp2
  go_loopw [1, 5] (fun v i wr => ∃ j : Nat, j ≤ n ∧ i = .int .i64 j ∧ v = .int .i64 (kOf ns k0 j) ∧ NodesAt wr true lo hi ao n cap K (mkN ns k0 j) ∧ KeptS (inN ao n K) w wr) (fun _ i _ => n - (intOf i).toNat)
  case atStart => exact ⟨0, Nat.zero_le _, rfl, by simp [kOf, kl], by rw [mkN_zero]; exact h, KeptS.refl _ _⟩
  case round =>
    obtain ⟨j, hj, rfl, rfl, D, hS⟩ := hrel
    by_cases hlt : j < n
    · obtain ⟨b, f, rfl, hlo, hhi, hbs, e1, e2, e3, ff⟩ := D.node hlt
      obtain ⟨f1, f2, f3⟩ := ff rfl
      have hlk : (j : Int) < (n : Int) := by omega
      have HS : Hid _ := kOf_succ (ns := ns) (k0 := k0) (i := j) (by omega)
      have hkle := kOf_le (ns := ns) (k0 := k0) (i := j + 1) (by omega)
      rw [hl] at hkle
      have hkl : (ns.getD j nd0).2.2.length = (K j).2.1 := by have := D.nKids hlt; rwa [mkN_get _ _ _ _ (by omega), if_neg (Nat.lt_irrefl _)] at this
      have hkp : 0 ≤ kOf ns k0 j := by unfold kOf; omega
      have hks : kOf ns k0 j + 2 + (K j).2.1 ≤ 4194304 := by have := HS.out; rw [hkl] at this; omega
      have hD1 := D.refs hlt (kOf ns k0 j) ((kOf ns k0 j + 1) % 3 == 0)
      have hsame : (mkN ns k0 j).getD j nd0 = ns.getD j nd0 := by rw [mkN_get _ _ _ _ (by omega), if_neg (Nat.lt_irrefl _)]
      have HST : Hid ((((mkN ns k0 j).set j (kOf ns k0 j, (kOf ns k0 j + 1) % 3 == 0, (ns.getD j nd0).2.2)).set j (kOf ns k0 j, (kOf ns k0 j + 1) % 3 == 0, marks (kOf ns k0 j + 2) (K j).2.1)) = mkN ns k0 (j + 1)) := by
        show _ = _
        rw [List.set_set, ← hkl, ← mkN_set ns k0 j (by omega)]; rfl
      rw [hsame] at hD1
      have hg1 : ((mkN ns k0 j).set j (kOf ns k0 j, (kOf ns k0 j + 1) % 3 == 0, (ns.getD j nd0).2.2)).getD j nd0 = (kOf ns k0 j, (kOf ns k0 j + 1) % 3 == 0, (ns.getD j nd0).2.2) := by
        rw [set_getN _ _ _ _ (by rw [mkN_len]; omega), if_pos rfl]
      have hkr := hD1.kids j hlt
      rw [hg1] at hkr
      simp only at hkr
      have HD : Hid (∀ w', KeptS (inK (K j)) ((wr.setCell ⟨b, f + j * 3, none⟩ (.int .i64 (kOf ns k0 j))).setCell ⟨b, f + j * 3 + 1, none⟩ (.bool ((kOf ns k0 j + 1) % 3 == 0))) w' → RowAt w' true lo hi 1 (K j).1 (K j).2.1 (K j).2.2 (ints (marks (kOf ns k0 j + 2) (K j).2.1)) → NodesAt w' true lo hi (some ⟨b, f, none⟩) n cap K (mkN ns k0 (j + 1)) ∧ KeptS (inN (some ⟨b, f, none⟩) n K) w w') := by
        intro w' hk hr
        have := hD1.kid hlt (marks (kOf ns k0 j + 2) (K j).2.1) hk hr
        rw [hg1] at this
        simp only at this
        rw [HST.out] at this
        refine ⟨this, hS.trans (KeptS.trans ?_ (hk.mono fun x hx => Or.inr ⟨j, hlt, hx.1, hx.2⟩))⟩
        refine KeptS.setCell (KeptS.setCell (KeptS.refl _ _) ?_ _) ?_ _ <;> exact Or.inl ⟨by omega, rfl⟩
      have hrng : (K j).2.1 ≠ 0 → lo ≤ sb (K j).1 ∧ sb (K j).1 < hi := fun hne => by have := hkr.block_lt hne; exact ⟨this.1, this.2.1⟩
      have HP : Hid _ := hkr.pinS
      rw [hkl] at HS
      clear hD1 hsame HST hg1 hkr hkl D ff hkle
      generalize kOf ns k0 j = q at *
      obtain ⟨⟨ka, kn, kc⟩, hks'⟩ : ∃ p, K j = p := ⟨_, rfl⟩
      rw [hks'] at e3 HP HD hrng hks HS
      simp only at e3 HP HD hrng hks HS
      clear hks'
      go_wp2_with fail
      refine (markInts_any ka kn kc (ns.getD j nd0).2.2 _ _ HP.out (by omega) (by omega) (by omega)).mono ?_
      rintro e w1 ⟨rfl, r1, hk1⟩
      obtain ⟨D2, S2⟩ := HD.out w1 (Kept.pinS (k := (ka, kn, kc)) (by simpa using hk1)) (by
        have := r1.unpin hrng
        rwa [show q + 1 + 1 = q + 2 by omega] at this)
      clear HD HP r1 hk1 e1 e2 e3 f1 f2 f3
      go_wp2
      go_roundw
      case rel => exact ⟨j + 1, by omega, by go_num, by rw [HS.out]; congr 1; omega, D2, S2⟩
      case measure => simp [intOf]; omega
    · obtain rfl : j = n := by omega
      go_wp2
      go_ret
      exact ⟨rfl, D, hS⟩

end Go.Proofs.Ytedgppggaceopaa

namespace Go.Proofs.Ytedgppggaceopaa
open Go.RowKit

set_option maxRecDepth 20000 in
set_option maxHeartbeats 2000000 in
theorem heldNodes_any {o : Bool} {lo hi : Nat} (ao : Option Addr) (n cap : Nat) (K : Nat → KS) (ns : List Nd) (k0 : Int) (w : World) (h : NodesAt w o lo hi ao n cap K (mkN ns k0 n)) (hk0 : 0 ≤ k0) (hk1 : kOf ns k0 n ≤ 4194304) :
    Calls Try.prog 120 #[.slice ao n cap, .int .i64 k0] w fun e w' => e = .returned (.int .i64 (kOf ns k0 n)) ∧ w' = w := by
  have hl := h.len
  rw [mkN_len] at hl
  have hn : n ≤ 4194304 := by unfold kOf at hk1; omega
  go_enter Try.func120, Try.ntmps120
  go_wp2
  go_loop [1, 5] (fun v i => ∃ j : Nat, j ≤ n ∧ i = .int .i64 j ∧ v = .int .i64 (kOf ns k0 j)) (fun _ i => n - (intOf i).toNat)
  case atStart => exact ⟨0, Nat.zero_le _, rfl, by simp [kOf, kl]⟩
  case round =>
    obtain ⟨j, hj, rfl, rfl⟩ := hrel
    by_cases hlt : j < n
    · have hg : (mkN ns k0 n).getD j nd0 = mkNd ns k0 j := by rw [mkN_get _ _ _ _ (by omega), if_pos hlt]
      have hkr := h.kids j hlt
      have hkn := h.nKids hlt
      rw [hg] at hkr hkn
      obtain ⟨b, f, rfl, _, _, hbs, e1, e2, e3, _⟩ := h.node hlt
      rw [hg] at e1 e2
      simp only [mkNd] at e1 e2 hkr hkn
      rw [marks_len] at hkn
      rw [hkn] at hkr
      have hlk : (j : Int) < (n : Int) := by omega
      have HS : Hid _ := kOf_succ (ns := ns) (k0 := k0) (i := j) (by omega)
      rw [hkn] at HS
      have hkle := kOf_le (ns := ns) (k0 := k0) (i := j + 1) (by omega)
      rw [hl] at hkle
      have hkp : 0 ≤ kOf ns k0 j := by unfold kOf; omega
      have hks : kOf ns k0 j + 2 + (K j).2.1 ≤ 4194304 := by have := HS.out; omega
      have HK : Hid _ := hkr
      clear hg hkn hkr hkle
      generalize kOf ns k0 j = q at *
      obtain ⟨⟨ka, kn, kc⟩, hks'⟩ : ∃ p, K j = p := ⟨_, rfl⟩
      rw [hks'] at e3 HK hks HS
      simp only at e3 HK hks HS
      clear hks'
      have d1 : (q != q) = false := by simp
      have d2 : (((q + 1) % 3 == 0) != ((q + 1) % 3 == 0)) = false := by simp
      go_wp2_with fail
      refine (heldInts_any ka kn kc _ _ (by have := HK.out; rwa [show q + 2 = q + 1 + 1 by omega] at this) (by omega) (by omega) (by omega)).mono ?_
      rintro e w1 ⟨rfl, rfl⟩
      have d3 : ¬ (q + 1 + 1 + (kn : Int) < 0) := by omega
      go_wp2
      go_round
      case rel => exact ⟨j + 1, by omega, by go_num, by rw [HS.out]; congr 1; omega⟩
      case measure => simp [intOf]; omega
    · obtain rfl : j = n := by omega
      go_wp2
      go_ret
      exact ⟨rfl, rfl⟩

def mkF (f : Fo) (nn nb : Nat) : Fo := (mkN f.1 1 nn, marks2 (kOf f.1 1 nn) nb)
def endF (f : Fo) (nn nb : Nat) : Int := kOf f.1 1 nn + 2 * nb

set_option maxRecDepth 20000 in
set_option maxHeartbeats 1000000 in
theorem markForest_any {lo hi : Nat} (an : Option Addr) (nn cn : Nat) (ab : Option Addr) (nb cb : Nat) (K : Nat → KS) (f : Fo) (w : World) (h : FoAt w true lo hi an nn cn ab nb cb K f) (hk1 : kOf f.1 1 nn ≤ 4194304) (hnb : nb ≤ 4194304) :
    Calls Try.prog 94 #[.agg #[.slice an nn cn, .slice ab nb cb], .int .i64 1] w fun e w' => e = .returned (.int .i64 (endF f nn nb)) ∧ FoAt w' true lo hi an nn cn ab nb cb K (mkF f nn nb) ∧ Kept lo hi w w' := by
  have A : Below w.heap.size w (w.alloc (.cells #[.slice an nn cn, .slice ab nb cb] 37)) := (Below.refl _ _).alloc (Nat.le_refl _) _
  have z1 : (w.alloc (.cells #[.slice an nn cn, .slice ab nb cb] 37)).cell? ⟨w.heap.size, 1, none⟩ = some (.slice ab nb cb) := by simp
  have hkp : 0 ≤ kOf f.1 1 nn := by unfold kOf; omega
  have F := h.below A
  have hz : w.heap.size < (w.alloc (.cells #[.slice an nn cn, .slice ab nb cb] 37)).heap.size := by simp
  have hbx : nb ≠ 0 → lo ≤ sb ab ∧ sb ab < hi := fun hne => by have := h.blocks.block_lt hne; exact ⟨this.1, this.2.1⟩
  go_enter Try.func94, Try.ntmps94
  go_wp2_with fail
  refine (markNodes_any an nn cn K f.1 1 _ (by exact F.nodes) (by omega) hk1).mono ?_
  rintro e w1 ⟨rfl, D, S⟩
  have z1' := S.cell z1 hz (fun hin => by have := (h.nodes.within hin).2.2; omega)
  have R1 := F.blocks.keptS S fun a hne ea hin => by have := h.sep rfl hne; rw [ea] at this; exact this hin
  have K1 : Kept lo hi w w1 := (Kept.of_below A).trans (S.kept fun k hk => by have := h.nodes.within hk; exact ⟨this.1, this.2.1⟩)
  clear S z1 A F
  have HE : Hid (endF f nn nb = kOf f.1 1 nn + 2 * nb) := rfl
  have HF : Hid _ := R1.pinS
  have HN : Hid (∀ x, inN an nn K x → nb ≠ 0 → x ≠ sb ab) := fun x hx hne e => h.sep rfl hne (e ▸ hx)
  generalize hq : kOf f.1 1 nn = q at *
  go_wp2_with fail
  refine (markBlocks_any ab nb cb f.2 q _ HF.out (by omega) (by omega) (by omega)).mono ?_
  rintro e w2 ⟨rfl, R2, K2⟩
  have S2 : KeptS (inK (ab, nb, cb)) w1 w2 := Kept.pinS (k := (ab, nb, cb)) (by simpa using K2)
  have R3 := R2.unpin hbx
  have D2 := D.keptS S2 fun x hx hin => HN.out x hx hin.1 hin.2
  have K3 : Kept lo hi w w2 := K1.trans (S2.kept fun x hx => by have := hbx hx.1; rw [hx.2]; exact this)
  clear K2 S2 R2 D K1 R1 z1' HF HN
  go_wp2
  go_ret
  refine ⟨ret_int HE.out.symm, ⟨D2, ?_, h.sep⟩, K3⟩
  show RowAt w2 true lo hi 2 ab nb cb (pairs (marks2 (kOf f.1 1 nn) nb))
  rw [hq]; exact R3
set_option maxRecDepth 20000 in
set_option maxHeartbeats 1000000 in
theorem heldForest_any {o : Bool} {lo hi : Nat} (an : Option Addr) (nn cn : Nat) (ab : Option Addr) (nb cb : Nat) (K : Nat → KS) (f : Fo) (w : World) (h : FoAt w o lo hi an nn cn ab nb cb K (mkF f nn nb)) (hk1 : kOf f.1 1 nn ≤ 4194304) (hnb : nb ≤ 4194304) :
    Calls Try.prog 96 #[.agg #[.slice an nn cn, .slice ab nb cb], .int .i64 1] w fun e w' => e = .returned (.int .i64 (endF f nn nb)) ∧ Below w.heap.size w w' := by
  have A : Below w.heap.size w (w.alloc (.cells #[.slice an nn cn, .slice ab nb cb] 37)) := (Below.refl _ _).alloc (Nat.le_refl _) _
  have hkp : 0 ≤ kOf f.1 1 nn := by unfold kOf; omega
  have F := h.below A
  have HN : Hid _ := F.nodes
  have HB : Hid (RowAt (w.alloc (.cells #[.slice an nn cn, .slice ab nb cb] 37)) o lo hi 2 ab nb cb (pairs (marks2 (kOf f.1 1 nn) nb))) := F.blocks
  have HE : Hid (endF f nn nb = kOf f.1 1 nn + 2 * nb) := rfl
  clear F
  go_enter Try.func96, Try.ntmps96
  go_wp2_with fail
  refine (heldNodes_any an nn cn K f.1 1 _ (by exact HN.out) (by omega) hk1).mono ?_
  rintro e w1 ⟨rfl, rfl⟩
  clear HN
  generalize kOf f.1 1 nn = q at *
  have d1 : ¬ q < 0 := by omega
  go_wp2_with fail
  refine (heldBlocks_any ab nb cb q _ HB.out (by omega) (by omega) (by omega)).mono ?_
  rintro e w2 ⟨rfl, rfl⟩
  have d2 : ¬ (q + 2 * (nb : Int) < 0) := by omega
  go_wp2
  go_ret
  exact ⟨ret_int HE.out.symm, A⟩
end Go.Proofs.Ytedgppggaceopaa

namespace Go.Proofs.Ytedgppggaceopaa
open Go.RowKit

abbrev En := Int × Int × Int × Int × Int × Int
def en0 : En := (0, 0, 0, 0, 0, 0)
def enF (x : En) (j : Nat) : Int := if j = 0 then x.1 else if j = 1 then x.2.1 else if j = 2 then x.2.2.1 else if j = 3 then x.2.2.2.1 else if j = 4 then x.2.2.2.2.1 else x.2.2.2.2.2
def sixs (xs : List En) : List Value := (List.range (xs.length * 6)).map fun j => .int .i64 (enF (xs.getD (j / 6) en0) (j % 6))
end Go.Proofs.Ytedgppggaceopaa

namespace Go.Proofs.Ytedgppggaceopaa
open Go.RowKit

def flatF (sz n : Nat) (F : Nat → Nat → Value) : List Value := (List.range (n * sz)).map fun j => F (j / sz) (j % sz)
theorem at_lt {sz n i j : Nat} (hi : i < n) (hj : j < sz) : i * sz + j < n * sz := by
  have : (i + 1) * sz ≤ n * sz := Nat.mul_le_mul_right _ hi
  rw [Nat.succ_mul] at this; omega
theorem at_div {sz i j : Nat} (hj : j < sz) : (i * sz + j) / sz = i := by rw [Nat.mul_comm, Nat.mul_add_div (by omega), Nat.div_eq_of_lt hj, Nat.add_zero]
theorem at_mod {sz i j : Nat} (hj : j < sz) : (i * sz + j) % sz = j := by rw [Nat.mul_comm, Nat.mul_add_mod, Nat.mod_eq_of_lt hj]
theorem flatF_get {sz n : Nat} (F : Nat → Nat → Value) {i j : Nat} (hi : i < n) (hj : j < sz) : (flatF sz n F).getD (i * sz + j) default = F i j := by
  have h := at_lt (sz := sz) hi hj
  have : (flatF sz n F).getD (i * sz + j) default = F ((i * sz + j) / sz) ((i * sz + j) % sz) := by simp [flatF, List.getD, h]
  rw [this, at_div hj, at_mod hj]
def updF (F : Nat → Nat → Value) (i j : Nat) (v : Value) : Nat → Nat → Value := fun a b => if a = i ∧ b = j then v else F a b
theorem flatF_set {sz n : Nat} (F : Nat → Nat → Value) {i j : Nat} (hj : j < sz) (v : Value) : (flatF sz n F).set (i * sz + j) v = flatF sz n (updF F i j v) := by
  apply List.ext_getElem (by simp [flatF])
  intro q h1 h2
  simp only [List.getElem_set, flatF, List.getElem_map, List.getElem_range, updF]
  by_cases e : i * sz + j = q
  · subst e; rw [if_pos rfl, if_pos ⟨at_div hj, at_mod hj⟩]
  · rw [if_neg e, if_neg]
    rintro ⟨rfl, rfl⟩
    exact e (by rw [Nat.mul_comm]; exact Nat.div_add_mod q sz)
theorem flatF_congr {sz n : Nat} {F G : Nat → Nat → Value} (h : ∀ i j, i < n → j < sz → F i j = G i j) : flatF sz n F = flatF sz n G := by
  refine List.map_congr_left fun q hq => ?_
  have hq' := List.mem_range.1 hq
  have hs : 0 < sz := by
    rcases Nat.eq_zero_or_pos sz with e | e
    · rw [e, Nat.mul_zero] at hq'; omega
    · exact e
  exact h _ _ (Nat.div_lt_of_lt_mul (by rwa [Nat.mul_comm])) (Nat.mod_lt _ hs)
theorem flatF_zero (sz : Nat) (F : Nat → Nat → Value) : flatF sz 0 F = [] := by simp [flatF]

/-- a list of elements of sz cells each, with a log each: their row (cell j of element i is F i j), the rows of their logs; where they are the call's own, each in a block of its own -/
structure ElsAt (sz : Nat) (w : World) (own : Bool) (lo hi : Nat) (ao : Option Addr) (n cap : Nat) (F : Nat → Nat → Value) (K : Nat → Hd) (L : Nat → List En) : Prop where
  row : RowAt w own lo hi sz ao n cap (flatF sz n F)
  logs : ∀ i, i < n → RowAt w own lo hi 6 (K i).1 (K i).2.1 (K i).2.2 (sixs (L i))
  sep : own = true → ∀ i, i < n → (K i).2.1 ≠ 0 → sb (K i).1 ≠ sb ao ∧ ∀ j, j < n → j ≠ i → (K j).2.1 ≠ 0 → sb (K j).1 ≠ sb (K i).1
section
variable {sz : Nat} {w w' : World} {own : Bool} {lo hi : Nat} {ao : Option Addr} {n cap : Nat} {F : Nat → Nat → Value} {K : Nat → Hd} {L : Nat → List En}
theorem ElsAt.below (h : ElsAt sz w own lo hi ao n cap F K L) (hb : Below w.heap.size w w') : ElsAt sz w' own lo hi ao n cap F K L := ⟨h.row.below hb, fun i hi => (h.logs i hi).below hb, h.sep⟩
theorem ElsAt.kept (h : ElsAt sz w own lo hi ao n cap F K L) {l u : Nat} (hk : Kept l u w w') (hd : hi ≤ l ∨ u ≤ lo) : ElsAt sz w' own lo hi ao n cap F K L := ⟨h.row.kept hk hd, fun i hi => (h.logs i hi).kept hk hd, h.sep⟩
theorem ElsAt.widen (h : ElsAt sz w own lo hi ao n cap F K L) {lo' hi' : Nat} (h1 : lo' ≤ lo) (h2 : hi ≤ hi') : ElsAt sz w own lo' hi' ao n cap F K L := ⟨h.row.widen h1 h2, fun i hi => (h.logs i hi).widen h1 h2, h.sep⟩
/-- the blocks that the list lies in -/
def inE (ao : Option Addr) (n : Nat) (K : Nat → Hd) (k : Nat) : Prop := (n ≠ 0 ∧ k = sb ao) ∨ ∃ i, i < n ∧ (K i).2.1 ≠ 0 ∧ k = sb (K i).1
/-- the block of one row -/
def inR (ao : Option Addr) (n k : Nat) : Prop := n ≠ 0 ∧ k = sb ao
theorem RowAt.keptR {cs : List Value} {size : Nat} (h : RowAt w own lo hi size ao n cap cs) {S : Nat → Prop} (hk : KeptS S w w') (hd : ∀ k, inR ao n k → ¬ S k) : RowAt w' own lo hi size ao n cap cs :=
  h.keptS hk fun a hn e => by have := hd (sb ao) ⟨hn, rfl⟩; rwa [e] at this
theorem ElsAt.keptS (h : ElsAt sz w own lo hi ao n cap F K L) {S : Nat → Prop} (hk : KeptS S w w') (hd : ∀ k, inE ao n K k → ¬ S k) : ElsAt sz w' own lo hi ao n cap F K L :=
  ⟨h.row.keptR hk fun k hk => hd k (Or.inl hk), fun i hi => (h.logs i hi).keptR hk fun k hk => hd k (Or.inr ⟨i, hi, hk⟩), h.sep⟩
theorem ElsAt.congr (h : ElsAt sz w own lo hi ao n cap F K L) {G : Nat → Nat → Value} {M : Nat → List En} (hF : ∀ i j, i < n → j < sz → F i j = G i j) (hL : ∀ i, i < n → L i = M i) : ElsAt sz w own lo hi ao n cap G K M :=
  ⟨by rw [← flatF_congr hF]; exact h.row, fun i hi => by rw [← hL i hi]; exact h.logs i hi, h.sep⟩
/-- what is the call's own may be read -/
theorem RowAt.ro {cs : List Value} {size : Nat} (h : RowAt w own lo hi size ao n cap cs) : RowAt w false lo hi size ao n cap cs := by
  refine ⟨h.len, h.le, fun hn => ?_⟩
  obtain ⟨b, off, e, h1, h2, h3, h4, _⟩ := h.cells hn
  exact ⟨b, off, e, h1, h2, h3, h4, fun q => by cases q⟩
theorem ElsAt.ro (h : ElsAt sz w own lo hi ao n cap F K L) : ElsAt sz w false lo hi ao n cap F K L := ⟨h.row.ro, fun i hi => (h.logs i hi).ro, fun q => by cases q⟩
/-- the cells of one element -/
theorem ElsAt.el (h : ElsAt sz w own lo hi ao n cap F K L) {i : Nat} (hi' : i < n) (_ : 0 < sz) :
    ∃ b off, ao = some ⟨b, off, none⟩ ∧ lo ≤ b ∧ b < hi ∧ b < w.heap.size ∧ (∀ j, j < sz → w.cell? ⟨b, off + (i * sz + j), none⟩ = some (F i j)) ∧ (own = true → ∀ j, j < sz → w.frozen? ⟨b, off + (i * sz + j), none⟩ = false) := by
  obtain ⟨b, off, rfl, h1, h2, h3, h4, h5⟩ := h.row.cells (by omega)
  exact ⟨b, off, rfl, h1, h2, h3, fun j hj => by rw [h4 _ (at_lt hi' hj), flatF_get F hi' hj], fun ho j hj => h5 ho _ (at_lt hi' hj)⟩
/-- one cell of an element is written -/
theorem ElsAt.store {b off : Nat} (h : ElsAt sz w true lo hi (some ⟨b, off, none⟩) n cap F K L) {i j : Nat} (hi' : i < n) (hj : j < sz) (v : Value) :
    ElsAt sz (w.setCell ⟨b, off + (i * sz + j), none⟩ v) true lo hi (some ⟨b, off, none⟩) n cap (updF F i j v) K L := by
  have R := h.row.stored (i := i * sz + j) (at_lt hi' hj) v
  rw [flatF_set F hj] at R
  have KS1 : KeptS (fun x => x = b) w (w.setCell ⟨b, off + (i * sz + j), none⟩ v) := by
    refine KeptS.setCell (KeptS.refl _ _) ?_ _; rfl
  exact ⟨R, fun q hq => (h.logs q hq).keptR KS1 fun k hk e => (h.sep rfl q hq hk.1).1 (by rw [← hk.2]; exact e), h.sep⟩
/-- the log of an element is written -/
theorem ElsAt.log (h : ElsAt sz w true lo hi ao n cap F K L) {i : Nat} (hi' : i < n) (xs : List En) (hk : KeptS (inR (K i).1 (K i).2.1) w w') (hr : RowAt w' true lo hi 6 (K i).1 (K i).2.1 (K i).2.2 (sixs xs)) :
    ElsAt sz w' true lo hi ao n cap F K (fun q => if q = i then xs else L q) := by
  refine ⟨h.row.keptR hk fun k h1 h2 => (h.sep rfl i hi' h2.1).1 (by rw [← h2.2]; exact h1.2), fun q hq => ?_, h.sep⟩
  by_cases e : q = i
  · subst e; rw [if_pos rfl]; exact hr
  · rw [if_neg e]
    exact (h.logs q hq).keptR hk fun k h1 h2 => (h.sep rfl i hi' h2.1).2 q hq e h1.1 (by rw [← h1.2, ← h2.2])
end
theorem RowAt.nilR (w : World) (own : Bool) (lo hi size : Nat) (ao : Option Addr) (c : Nat) : RowAt w own lo hi size ao 0 c [] := ⟨by simp, Nat.zero_le _, fun h => absurd rfl h⟩
theorem ElsAt.nil (sz : Nat) (w : World) (own : Bool) (lo hi : Nat) (ao : Option Addr) (c : Nat) (F : Nat → Nat → Value) (K : Nat → Hd) (L : Nat → List En) : ElsAt sz w own lo hi ao 0 c F K L :=
  ⟨by rw [flatF_zero]; exact RowAt.nilR _ _ _ _ _ _ _, fun i hi => absurd hi (Nat.not_lt_zero _), fun _ i hi => absurd hi (Nat.not_lt_zero _)⟩

/-- a doer: is it known, its last view, its log, what it knows to be agreed -/
abbrev Dr := Bool × Int × List En × Int
def dr0 : Dr := (false, 0, [], 0)
def drF (K : Nat → Hd) (ds : List Dr) (i j : Nat) : Value := if j = 0 then .bool (ds.getD i dr0).1 else if j = 1 then .int .i64 (ds.getD i dr0).2.1 else if j = 2 then hv (K i) else .int .i64 (ds.getD i dr0).2.2.2
def drL (ds : List Dr) (i : Nat) : List En := (ds.getD i dr0).2.2.1
structure DoersAt (w : World) (own : Bool) (lo hi : Nat) (ao : Option Addr) (n cap : Nat) (K : Nat → Hd) (ds : List Dr) : Prop where
  len : ds.length = n
  els : ElsAt 4 w own lo hi ao n cap (drF K ds) K (drL ds)
structure Ml where
  kind : Int
  fr : Int
  to : Int
  view : Int
  at_ : Int
  has : Bool
  en : En
  last : Int
  log : List En
  commit : Int
def ml0 : Ml := ⟨0, 0, 0, 0, 0, false, en0, 0, [], 0⟩
def mlV (h : Hd) (m : Ml) : List Value := [.int .i64 m.kind, .int .i64 m.fr, .int .i64 m.to, .int .i64 m.view, .int .i64 m.at_, .bool m.has, .int .i64 m.en.1, .int .i64 m.en.2.1, .int .i64 m.en.2.2.1, .int .i64 m.en.2.2.2.1, .int .i64 m.en.2.2.2.2.1, .int .i64 m.en.2.2.2.2.2, .int .i64 m.last, hv h, .int .i64 m.commit]
def mlF (K : Nat → Hd) (ms : List Ml) (i j : Nat) : Value := (mlV (K i) (ms.getD i ml0)).getD j default
def mlL (ms : List Ml) (i : Nat) : List En := (ms.getD i ml0).log
structure MailsAt (w : World) (own : Bool) (lo hi : Nat) (ao : Option Addr) (n cap : Nat) (K : Nat → Hd) (ms : List Ml) : Prop where
  len : ms.length = n
  els : ElsAt 15 w own lo hi ao n cap (mlF K ms) K (mlL ms)
structure Rep where
  id : Int
  size : Int
  view : Int
  normal : Bool
  last : Int
  log : List En
  commit : Int
  oks : List Int
  asks : List Bool
  doers : List Dr
/-- where a replica's lists lie -/
structure RH where
  L : Hd
  O : Hd
  A : Hd
  D : Hd
  K : Nat → Hd
def Sep (S T : Nat → Prop) : Prop := ∀ x, S x → ¬ T x
def hR (h : Hd) : Nat → Prop := inR h.1 h.2.1
/-- a replica's lists in memory -/
structure RepAt (w : World) (own : Bool) (lo hi : Nat) (h : RH) (r : Rep) : Prop where
  log : RowAt w own lo hi 6 h.L.1 h.L.2.1 h.L.2.2 (sixs r.log)
  oks : RowAt w own lo hi 1 h.O.1 h.O.2.1 h.O.2.2 (ints r.oks)
  asks : RowAt w own lo hi 1 h.A.1 h.A.2.1 h.A.2.2 (bls r.asks)
  doers : DoersAt w own lo hi h.D.1 h.D.2.1 h.D.2.2 h.K r.doers
  sep : own = true → Sep (hR h.L) (hR h.O) ∧ Sep (hR h.L) (hR h.A) ∧ Sep (hR h.L) (inE h.D.1 h.D.2.1 h.K) ∧ Sep (hR h.O) (hR h.A) ∧ Sep (hR h.O) (inE h.D.1 h.D.2.1 h.K) ∧ Sep (hR h.A) (inE h.D.1 h.D.2.1 h.K)
def inRep (h : RH) (k : Nat) : Prop := hR h.L k ∨ hR h.O k ∨ hR h.A k ∨ inE h.D.1 h.D.2.1 h.K k
section
variable {w w' : World} {own : Bool} {lo hi : Nat} {h : RH} {r : Rep} {ao : Option Addr} {n cap : Nat} {K : Nat → Hd} {ds : List Dr} {ms : List Ml}
theorem DoersAt.below (h : DoersAt w own lo hi ao n cap K ds) (hb : Below w.heap.size w w') : DoersAt w' own lo hi ao n cap K ds := ⟨h.len, h.els.below hb⟩
theorem DoersAt.kept (h : DoersAt w own lo hi ao n cap K ds) {l u : Nat} (hk : Kept l u w w') (hd : hi ≤ l ∨ u ≤ lo) : DoersAt w' own lo hi ao n cap K ds := ⟨h.len, h.els.kept hk hd⟩
theorem DoersAt.widen (h : DoersAt w own lo hi ao n cap K ds) {lo' hi' : Nat} (h1 : lo' ≤ lo) (h2 : hi ≤ hi') : DoersAt w own lo' hi' ao n cap K ds := ⟨h.len, h.els.widen h1 h2⟩
theorem DoersAt.keptS (h : DoersAt w own lo hi ao n cap K ds) {S : Nat → Prop} (hk : KeptS S w w') (hd : Sep (inE ao n K) S) : DoersAt w' own lo hi ao n cap K ds := ⟨h.len, h.els.keptS hk hd⟩
theorem DoersAt.ro (h : DoersAt w own lo hi ao n cap K ds) : DoersAt w false lo hi ao n cap K ds := ⟨h.len, h.els.ro⟩
theorem MailsAt.below (h : MailsAt w own lo hi ao n cap K ms) (hb : Below w.heap.size w w') : MailsAt w' own lo hi ao n cap K ms := ⟨h.len, h.els.below hb⟩
theorem MailsAt.kept (h : MailsAt w own lo hi ao n cap K ms) {l u : Nat} (hk : Kept l u w w') (hd : hi ≤ l ∨ u ≤ lo) : MailsAt w' own lo hi ao n cap K ms := ⟨h.len, h.els.kept hk hd⟩
theorem MailsAt.widen (h : MailsAt w own lo hi ao n cap K ms) {lo' hi' : Nat} (h1 : lo' ≤ lo) (h2 : hi ≤ hi') : MailsAt w own lo' hi' ao n cap K ms := ⟨h.len, h.els.widen h1 h2⟩
theorem MailsAt.keptS (h : MailsAt w own lo hi ao n cap K ms) {S : Nat → Prop} (hk : KeptS S w w') (hd : Sep (inE ao n K) S) : MailsAt w' own lo hi ao n cap K ms := ⟨h.len, h.els.keptS hk hd⟩
theorem RepAt.below (x : RepAt w own lo hi h r) (hb : Below w.heap.size w w') : RepAt w' own lo hi h r := ⟨x.log.below hb, x.oks.below hb, x.asks.below hb, x.doers.below hb, x.sep⟩
theorem RepAt.kept (x : RepAt w own lo hi h r) {l u : Nat} (hk : Kept l u w w') (hd : hi ≤ l ∨ u ≤ lo) : RepAt w' own lo hi h r := ⟨x.log.kept hk hd, x.oks.kept hk hd, x.asks.kept hk hd, x.doers.kept hk hd, x.sep⟩
theorem RepAt.widen (x : RepAt w own lo hi h r) {lo' hi' : Nat} (h1 : lo' ≤ lo) (h2 : hi ≤ hi') : RepAt w own lo' hi' h r := ⟨x.log.widen h1 h2, x.oks.widen h1 h2, x.asks.widen h1 h2, x.doers.widen h1 h2, x.sep⟩
theorem RepAt.ro (x : RepAt w own lo hi h r) : RepAt w false lo hi h r := ⟨x.log.ro, x.oks.ro, x.asks.ro, x.doers.ro, fun q => by cases q⟩
theorem RepAt.keptS (x : RepAt w own lo hi h r) {S : Nat → Prop} (hk : KeptS S w w') (hd : Sep (inRep h) S) : RepAt w' own lo hi h r :=
  ⟨x.log.keptR hk fun k q => hd k (Or.inl q), x.oks.keptR hk fun k q => hd k (Or.inr (Or.inl q)), x.asks.keptR hk fun k q => hd k (Or.inr (Or.inr (Or.inl q))), x.doers.keptS hk fun k q => hd k (Or.inr (Or.inr (Or.inr q))), x.sep⟩
end

end Go.Proofs.Ytedgppggaceopaa

/- Chapter 4: what is so when the model's SetTree gives nodes back. -/
namespace Go.Proofs.Ytedgppggaceopaa
open Go.RowKit

end Go.Proofs.Ytedgppggaceopaa

/- Chapter 3: blocks: what the model's functions answer. -/
namespace Go.Proofs.Ytedgppggaceopaa
open Go.RowKit

theorem l3Bad_any (c : Int) (w : World) : Calls Try.prog 116 #[.int .i64 c] w fun e w' => e = .returned (.agg #[.int .i64 c, .int .i64 0, .slice none 0 0]) ∧ Below w.heap.size w w' := by
  go_enter Try.func116, Try.ntmps116
  go_wp2
  refine bodyPost_ret (v := .agg #[.int .i64 c, .int .i64 0, .slice none 0 0]) (by simp [results, Try.results116, go_sem]) rfl ⟨rfl, ?_⟩
  exact (Below.refl _ _).alloc (Nat.le_refl _) _

end Go.Proofs.Ytedgppggaceopaa

/- Chapter 3: new blocks: what the model answers. -/
namespace Go.Proofs.Ytedgppggaceopaa
open Go.RowKit

set_option maxRecDepth 20000 in
set_option maxHeartbeats 2000000 in
theorem specNewB_any (x : Int) (w : World) :
    Calls Try.prog 91 #[.int .i64 x] w fun e w' => BlkRes w w' e (newBCode x) 0 (newBList x) := by
  have B : Below w.heap.size w (w.alloc (.cells #[.int .i64 0, .int .i64 0, .slice none 0 0] 132)) := (Below.refl _ _).alloc (Nat.le_refl _) _
  by_cases hx : 0 ≤ x ∧ x ≤ 24
  · obtain ⟨n, rfl⟩ : ∃ n : Nat, x = n := ⟨x.toNat, by omega⟩
    have hc : newBCode (n : Int) = 0 := if_pos hx
    have e2 : newBList (n : Int) = List.replicate n (0, 0) := by rw [newBList, if_pos hc, Int.toNat_natCast]
    rw [hc, e2]
    have HD : Hid _ := decide_eq_true hx
    have hn24 : n ≤ 24 := by omega
    clear hc e2 hx
    go_enter Try.func91, Try.ntmps91
    go_wp2_with fail
    refine (l1In_bool _ 0 24 _ true HD.out).mono ?_
    rintro e w1 ⟨rfl, rfl⟩
    have z0 : (w.alloc (.cells #[.int .i64 0, .int .i64 0, .slice none 0 0] 132)).cell? ⟨w.heap.size, 0, none⟩ = some (.int .i64 0) := by simp
    have z1 : (w.alloc (.cells #[.int .i64 0, .int .i64 0, .slice none 0 0] 132)).cell? ⟨w.heap.size, 1, none⟩ = some (.int .i64 0) := by simp
    have z2 : (w.alloc (.cells #[.int .i64 0, .int .i64 0, .slice none 0 0] 132)).cell? ⟨w.heap.size, 2, none⟩ = some (.slice none 0 0) := by simp
    have y0 : (w.alloc (.cells #[.int .i64 0, .int .i64 0, .slice none 0 0] 132)).frozen? ⟨w.heap.size, 0, none⟩ = false := by simp
    have y1 : (w.alloc (.cells #[.int .i64 0, .int .i64 0, .slice none 0 0] 132)).frozen? ⟨w.heap.size, 1, none⟩ = false := by simp
    have y2 : (w.alloc (.cells #[.int .i64 0, .int .i64 0, .slice none 0 0] 132)).frozen? ⟨w.heap.size, 2, none⟩ = false := by simp
    have hz : w.heap.size < (w.alloc (.cells #[.int .i64 0, .int .i64 0, .slice none 0 0] 132)).heap.size := by simp
    obtain ⟨j0, hj0, hq0, hq1, hq2⟩ := info_parts Try.infoBlk
    go_wp2_with (first | (at_make; refine wpList_make_full _ rfl _ _ 35 rfl (w.heap.size + 1) 105 j0 (.agg #[.int .i64 0, .int .i64 0]) 2 Try.underlying35 hj0 hq0 hq1 _ _ _ _ n rfl rfl rfl rfl ?b1 ?b2 ?b3 ?_))
    case b1 => rw [hq2]; omega
    case b2 => unfold maxLen; omega
    case b3 => simp
    intro w2 hown hgrow
    have hb : Below (w.alloc (.cells #[.int .i64 0, .int .i64 0, .slice none 0 0] 132)).heap.size (w.alloc (.cells #[.int .i64 0, .int .i64 0, .slice none 0 0] 132)) w2 := (Below.refl _ _).grown hgrow (Nat.le_refl _) (fun k hk => by cases hk)
    replace z0 := cell_later hb z0
    replace z1 := cell_later hb z1
    replace z2 := cell_later hb z2
    replace y0 := frozen_later hb hz y0
    replace y1 := frozen_later hb hz y1
    replace y2 := frozen_later hb hz y2
    replace hz := Nat.lt_of_lt_of_le hz hb.size
    replace B := below_next B hb
    replace hown : w2.ownsRow (w.heap.size + 1) 105 2 (.slice (some ⟨w.heap.size + 1, 0, none⟩) n n) n (pairs (List.replicate n (0, 0))) := by rw [← made_pairs]; exact hown
    obtain ⟨_, _, e', RS⟩ := RowAt.of_owned hown
    cases e'
    have hs2 := hb.size
    have hsz : (w.alloc (.cells #[.int .i64 0, .int .i64 0, .slice none 0 0] 132)).heap.size = w.heap.size + 1 := by simp
    rw [hsz] at hs2
    clear hgrow hown hb hsz
    go_wp2
    refine bodyPost_ret (v := .agg #[.int .i64 0, .int .i64 0, .slice (some ⟨w.heap.size + 1, 0, none⟩) n n]) (by simp [results, Try.results91, go_sem, z0, z1, z2]) rfl ⟨_, _, _, rfl, ?_, ?_⟩
    · refine RowAt.widen (RowAt.kept RS (l := w.heap.size) (u := w.heap.size + 1) ?_ (by omega)) (by omega) ?_
      · refine Kept.setCell (Kept.setCell (Kept.setCell (Kept.refl _ _ _) ?_ ?_ _) ?_ ?_ _) ?_ ?_ _ <;> simp
      · simp
    · refine Below.setCell (Below.setCell (Below.setCell B ?_ _) ?_ _) ?_ _ <;> simp
  · have hc : newBCode x = 3 := if_neg hx
    have e2 : newBList x = [] := by rw [newBList, hc]; rfl
    rw [hc, e2]
    have HD : Hid _ := decide_eq_false hx
    clear hc e2 hx
    go_enter Try.func91, Try.ntmps91
    go_wp2_with fail
    refine (l1In_bool _ 0 24 _ false HD.out).mono ?_
    rintro e w1 ⟨rfl, rfl⟩
    have z0 : (w.alloc (.cells #[.int .i64 0, .int .i64 0, .slice none 0 0] 132)).cell? ⟨w.heap.size, 0, none⟩ = some (.int .i64 0) := by simp
    have z1 : (w.alloc (.cells #[.int .i64 0, .int .i64 0, .slice none 0 0] 132)).cell? ⟨w.heap.size, 1, none⟩ = some (.int .i64 0) := by simp
    have z2 : (w.alloc (.cells #[.int .i64 0, .int .i64 0, .slice none 0 0] 132)).cell? ⟨w.heap.size, 2, none⟩ = some (.slice none 0 0) := by simp
    have y0 : (w.alloc (.cells #[.int .i64 0, .int .i64 0, .slice none 0 0] 132)).frozen? ⟨w.heap.size, 0, none⟩ = false := by simp
    have y1 : (w.alloc (.cells #[.int .i64 0, .int .i64 0, .slice none 0 0] 132)).frozen? ⟨w.heap.size, 1, none⟩ = false := by simp
    have y2 : (w.alloc (.cells #[.int .i64 0, .int .i64 0, .slice none 0 0] 132)).frozen? ⟨w.heap.size, 2, none⟩ = false := by simp
    have hz : w.heap.size < (w.alloc (.cells #[.int .i64 0, .int .i64 0, .slice none 0 0] 132)).heap.size := by simp
    go_wp2_with fail
    refine (l3Bad_any 3 _).mono ?_
    rintro e w2 ⟨rfl, hb⟩
    replace z0 := cell_later hb z0
    replace z1 := cell_later hb z1
    replace z2 := cell_later hb z2
    replace y0 := frozen_later hb hz y0
    replace y1 := frozen_later hb hz y1
    replace y2 := frozen_later hb hz y2
    replace hz := Nat.lt_of_lt_of_le hz hb.size
    replace B := below_next B hb
    clear hb
    go_wp2
    refine bodyPost_ret (v := .agg #[.int .i64 3, .int .i64 0, .slice none 0 0]) (by simp [results, Try.results91, go_sem, z0, z1, z2]) rfl ⟨_, _, _, rfl, RowAt.nil _ _ _ _ _, ?_⟩
    refine Below.setCell (Below.setCell (Below.setCell B ?_ _) ?_ _) ?_ _ <;> simp

end Go.Proofs.Ytedgppggaceopaa

/- Chapter 3: blocks taken, shared and dropped: what the model answers. -/
namespace Go.Proofs.Ytedgppggaceopaa
open Go.RowKit

end Go.Proofs.Ytedgppggaceopaa

/- Chapter 3: the model's answers by what they are told to be; how long they are. -/
namespace Go.Proofs.Ytedgppggaceopaa
open Go.RowKit

section
variable {o : Bool} {l u : Nat} (ao : Option Addr) (n cap : Nat) (bs : List (Int × Int)) (w : World) (h : RowAt w o l u 2 ao n cap (pairs bs)) (hn : n ≤ 2097152)
include h hn
end
theorem specNewBlocks_is (x : Int) (w : World) (cd : Int) (bl : List (Int × Int)) (hc : newBCode x = cd) (hb : newBList x = bl) :
    Calls Try.prog 91 #[.int .i64 x] w fun e w' => BlkRes w w' e cd 0 bl := by subst hc; subst hb; exact specNewB_any x w
end Go.Proofs.Ytedgppggaceopaa

namespace Go.Proofs.Ytedgppggaceopaa
open Go.RowKit

theorem RowAt.weak {w : World} {own : Bool} {lo hi size : Nat} {ao : Option Addr} {n cap : Nat} {cs : List Value} (h : RowAt w own lo hi size ao n cap cs) : RowAt w false lo hi size ao n cap cs := by
  refine ⟨h.len, h.le, fun hn => ?_⟩
  obtain ⟨b, off, e, h1, h2, h3, h4, _⟩ := h.cells hn
  exact ⟨b, off, e, h1, h2, h3, h4, fun hx => by cases hx⟩
/-- an answer with a forest -/
def FoRes (own : Bool) (w w' : World) (e : Ending) (code root : Int) (f : Fo) : Prop :=
  ∃ an nn cn ab nb cb K, e = .returned (.agg #[.int .i64 code, .int .i64 root, .slice an nn cn, .slice ab nb cb]) ∧ FoAt w' own w.heap.size w'.heap.size an nn cn ab nb cb K f ∧ Below w.heap.size w w'
theorem l4Bad_any (c : Int) (w : World) : Calls Try.prog 92 #[.int .i64 c] w fun e w' => e = .returned (.agg #[.int .i64 c, .int .i64 0, .slice none 0 0, .slice none 0 0]) ∧ Below w.heap.size w w' := by
  go_enter Try.func92, Try.ntmps92
  go_wp2
  refine bodyPost_ret (v := .agg #[.int .i64 c, .int .i64 0, .slice none 0 0, .slice none 0 0]) (by simp [results, Try.results92, go_sem]) rfl ⟨rfl, ?_⟩
  exact (Below.refl _ _).alloc (Nat.le_refl _) _
section
variable {o : Bool} {l u : Nat} (an : Option Addr) (nn cn : Nat) (ab : Option Addr) (nb cb : Nat) (K : Nat → KS) (f : Fo) (w : World) (h : FoAt w o l u an nn cn ab nb cb K f) (hn : nn ≤ 2097152) (hb : nb ≤ 2097152) (hK : ∀ i, i < nn → (K i).2.1 ≤ 2097152)
include h hn hb hK

end

set_option maxRecDepth 20000 in
set_option maxHeartbeats 2000000 in
theorem specNewF_is (x : Int) (w : World) (cd rt : Int) (f : Fo) (hc : newBCode x = cd) (hr : (if newBCode x = 0 then (-1 : Int) else 0) = rt) (hf : newFoList x = f) : Calls Try.prog 60 #[.int .i64 x] w fun e w' => FoRes false w w' e cd rt f := by
  have B : Below w.heap.size w (w.alloc (.cells #[.int .i64 0, .int .i64 0, .slice none 0 0, .slice none 0 0] 97)) := (Below.refl _ _).alloc (Nat.le_refl _) _
  have z0 : (w.alloc (.cells #[.int .i64 0, .int .i64 0, .slice none 0 0, .slice none 0 0] 97)).cell? ⟨w.heap.size, 0, none⟩ = some (.int .i64 0) := by simp
  have z1 : (w.alloc (.cells #[.int .i64 0, .int .i64 0, .slice none 0 0, .slice none 0 0] 97)).cell? ⟨w.heap.size, 1, none⟩ = some (.int .i64 0) := by simp
  have z2 : (w.alloc (.cells #[.int .i64 0, .int .i64 0, .slice none 0 0, .slice none 0 0] 97)).cell? ⟨w.heap.size, 2, none⟩ = some (.slice none 0 0) := by simp
  have z3 : (w.alloc (.cells #[.int .i64 0, .int .i64 0, .slice none 0 0, .slice none 0 0] 97)).cell? ⟨w.heap.size, 3, none⟩ = some (.slice none 0 0) := by simp
  have y0 : (w.alloc (.cells #[.int .i64 0, .int .i64 0, .slice none 0 0, .slice none 0 0] 97)).frozen? ⟨w.heap.size, 0, none⟩ = false := by simp
  have y1 : (w.alloc (.cells #[.int .i64 0, .int .i64 0, .slice none 0 0, .slice none 0 0] 97)).frozen? ⟨w.heap.size, 1, none⟩ = false := by simp
  have y2 : (w.alloc (.cells #[.int .i64 0, .int .i64 0, .slice none 0 0, .slice none 0 0] 97)).frozen? ⟨w.heap.size, 2, none⟩ = false := by simp
  have y3 : (w.alloc (.cells #[.int .i64 0, .int .i64 0, .slice none 0 0, .slice none 0 0] 97)).frozen? ⟨w.heap.size, 3, none⟩ = false := by simp
  have hz : w.heap.size < (w.alloc (.cells #[.int .i64 0, .int .i64 0, .slice none 0 0, .slice none 0 0] 97)).heap.size := by simp
  obtain ⟨bl, hbl⟩ : ∃ bl, newBList x = bl := ⟨_, rfl⟩
  unfold newFoList at hf
  rw [hbl] at hf
  subst hf
  have HC : Hid _ := hc
  have HB : Hid _ := hbl
  rw [hc] at hr
  have HL : Hid (cd ≠ 0 → bl = []) := fun h0 => by rw [← hbl, newBList, hc, if_neg h0]
  clear hc hbl
  go_enter Try.func60, Try.ntmps60
  go_wp2_with fail
  refine (specNewBlocks_is x _ cd bl HC.out HB.out).mono ?_
  rintro e w1 ⟨ra, rn, rc, rfl, RR, hb1⟩
  have hz0 := hz
  replace RR := RR.widen (lo' := w.heap.size + 1) hz0 (Nat.le_refl _)
  replace z0 := cell_later hb1 z0
  replace z1 := cell_later hb1 z1
  replace z2 := cell_later hb1 z2
  replace z3 := cell_later hb1 z3
  replace y0 := frozen_later hb1 hz y0
  replace y1 := frozen_later hb1 hz y1
  replace y2 := frozen_later hb1 hz y2
  replace y3 := frozen_later hb1 hz y3
  replace hz := Nat.lt_of_lt_of_le hz hb1.size
  replace B := below_next B hb1
  clear hb1 hz0
  have A : Below w1.heap.size w1 (w1.alloc (.cells #[.int .i64 cd, .int .i64 0, .slice ra rn rc] 132)) := (Below.refl _ _).alloc (Nat.le_refl _) _
  have g0 : (w1.alloc (.cells #[.int .i64 cd, .int .i64 0, .slice ra rn rc] 132)).cell? ⟨w1.heap.size, 0, none⟩ = some (.int .i64 cd) := by simp
  have g2 : (w1.alloc (.cells #[.int .i64 cd, .int .i64 0, .slice ra rn rc] 132)).cell? ⟨w1.heap.size, 2, none⟩ = some (.slice ra rn rc) := by simp
  replace z0 := cell_later A z0
  replace z1 := cell_later A z1
  replace z2 := cell_later A z2
  replace z3 := cell_later A z3
  replace y0 := frozen_later A hz y0
  replace y1 := frozen_later A hz y1
  replace y2 := frozen_later A hz y2
  replace y3 := frozen_later A hz y3
  replace hz := Nat.lt_of_lt_of_le hz A.size
  have RA := RR.below A
  replace B := below_next B A
  clear A
  by_cases h0 : cd = 0
  · subst h0
    rw [if_pos rfl] at hr
    subst hr
    go_wp2
    refine bodyPost_ret (v := .agg #[.int .i64 0, .int .i64 (-1), .slice none 0 0, .slice ra rn rc]) (by simp [results, Try.results60, go_sem, z0, z1, z2, z3]) rfl ⟨_, _, _, _, _, _, fun _ => (none, 0, 0), rfl, ⟨⟨rfl, RowAt.nil _ _ _ _ _, fun i hi => absurd hi (by omega), fun hx => by cases hx⟩, ?_, fun hx => by cases hx⟩, ?_⟩
    · refine RowAt.widen (RowAt.kept RA.weak (l := w.heap.size) (u := w.heap.size + 1) ?_ (by omega)) (by omega) ?_
      · refine Kept.setCell (Kept.setCell (Kept.setCell (Kept.setCell (Kept.refl _ _ _) ?_ ?_ _) ?_ ?_ _) ?_ ?_ _) ?_ ?_ _ <;> simp
      · simp
    · refine Below.setCell (Below.setCell (Below.setCell (Below.setCell B ?_ _) ?_ _) ?_ _) ?_ _ <;> simp
  · rw [if_neg h0] at hr
    subst hr
    have hne : (cd != 0) = true := by simp [h0]
    have HE : Hid _ := HL.out h0
    clear h0
    go_wp2_with fail
    refine (l4Bad_any cd _).mono ?_
    rintro e w2 ⟨rfl, hb1⟩
    replace z0 := cell_later hb1 z0
    replace z1 := cell_later hb1 z1
    replace z2 := cell_later hb1 z2
    replace z3 := cell_later hb1 z3
    replace y0 := frozen_later hb1 hz y0
    replace y1 := frozen_later hb1 hz y1
    replace y2 := frozen_later hb1 hz y2
    replace y3 := frozen_later hb1 hz y3
    replace B := below_next B hb1
    clear hb1 g0 g2
    go_wp2
    rw [HE.out]
    refine bodyPost_ret (v := .agg #[.int .i64 cd, .int .i64 0, .slice none 0 0, .slice none 0 0]) (by simp [results, Try.results60, go_sem, z0, z1, z2, z3]) rfl ⟨_, _, _, _, _, _, _, rfl, FoAt.nil _ _ _ _, ?_⟩
    refine Below.setCell (Below.setCell (Below.setCell (Below.setCell B ?_ _) ?_ _) ?_ _) ?_ _ <;> simp

end Go.Proofs.Ytedgppggaceopaa

/- Chapter 4: what the functions answer is right, and not great. -/
namespace Go.Proofs.Ytedgppggaceopaa
open Go.RowKit

/-- the answer is not great -/
def Lesser (g : Fo) : Prop := g.1.length ≤ 60 ∧ g.2.length ≤ 24 ∧ kl g.1 g.1.length ≤ 1048576
theorem newF_size (x : Int) : Lesser (newFoList x) := by
  refine ⟨by simp [newFoList], ?_, by simp [newFoList, kl]⟩
  show (newBList x).length ≤ 24
  unfold newBList newBCode
  by_cases h : 0 ≤ x ∧ x ≤ 24
  · rw [if_pos (if_pos h)]; simp; omega
  · rw [if_neg (by rw [if_neg h]; decide)]; simp

end Go.Proofs.Ytedgppggaceopaa

namespace Go.Proofs.Ytedgppggaceopaa
open Go.RowKit

section
variable {w w' : World} {lo P : Nat} {vn : Value} {ab : Option Addr} {nb cb : Nat} {K : Nat → KS} {f : Fo}
theorem flat3_one0 {n : Nat} {g0 g1 g2 : Nat → Value} {i : Nat} (a : Value) : (flat3 n g0 g1 g2).set (i * 3) a = flat3 n (fun j => if j = i then a else g0 j) g1 g2 := by
  apply List.ext_getElem (by simp [flat3])
  intro j h1 h2
  simp only [List.getElem_set, flat3, List.getElem_map, List.getElem_range]
  by_cases e : i * 3 = j
  · subst e; rw [if_pos rfl, if_pos (by omega), if_pos (by omega)]
  · rw [if_neg e]
    by_cases m0 : j % 3 = 0
    · rw [if_pos m0, if_pos m0, if_neg (by omega)]
    · rw [if_neg m0, if_neg m0]
/-- a node's count is written -/
theorem OutAt.refs {g n cap : Nat} (h : OutAt w lo P (.slice (some ⟨g, 0, none⟩) n cap) ab nb cb K f) (hnn : n = f.1.length) {i : Nat} (hi : i < f.1.length) (r : Int) :
    OutAt (w.setCell ⟨g, i * 3, none⟩ (.int .i64 r)) lo P (.slice (some ⟨g, 0, none⟩) n cap) ab nb cb K (f.1.set i (r, (f.1.getD i nd0).2), f.2) := by
  refine h.setN hnn (by simp) ?_ (fun m hm => ?_) h.sepK
  · unfold ncells
    rw [flat3_one0, List.length_set]
    refine flat3_congr fun m _ => ?_
    rw [set_getN _ _ _ _ hi]
    by_cases e : m = i <;> simp [e]
  · rw [set_getN _ _ _ _ hi]
    have := h.kid m hm
    by_cases e : m = i
    · subst e; rw [if_pos rfl]; exact this
    · rw [if_neg e]; exact this
end

end Go.Proofs.Ytedgppggaceopaa

/- Chapter 5: volumes marked and held by the laws. -/
namespace Go.Proofs.Ytedgppggaceopaa
open Go.RowKit

theorem list_eq3 {xs ys : List Vo} (hl : xs.length = ys.length) (h : ∀ j, j < xs.length → xs.getD j vo0 = ys.getD j vo0) : xs = ys := by
  apply List.ext_getElem hl
  intro j h1 h2
  have := h j h1
  simpa [List.getD, h1, h2] using this
def mark3 (k : Int) (j : Nat) : Vo := (k + 3 * (j : Int), k + 3 * (j : Int) + 1, k + 3 * (j : Int) + 2)
def marks3 (k : Int) (n : Nat) : List Vo := (List.range n).map (mark3 k)
def mk3 (vs : List Vo) (k : Int) (i : Nat) : List Vo := (List.range vs.length).map fun j => if j < i then mark3 k j else vs.getD j vo0
theorem mk3_len (vs : List Vo) (k : Int) (i : Nat) : (mk3 vs k i).length = vs.length := by simp [mk3]
theorem mk3_get (vs : List Vo) (k : Int) (i j : Nat) (h : j < vs.length) : (mk3 vs k i).getD j vo0 = if j < i then mark3 k j else vs.getD j vo0 := by simp [mk3, List.getD, h]
theorem marks3_get (k : Int) (n j : Nat) (h : j < n) : (marks3 k n).getD j vo0 = mark3 k j := by simp [marks3, List.getD, h]
theorem mk3_zero (vs : List Vo) (k : Int) : mk3 vs k 0 = vs := list_eq3 (by rw [mk3_len]) fun j hj => by rw [mk3_get _ _ _ _ (by rwa [mk3_len] at hj), if_neg (Nat.not_lt_zero _)]
theorem mk3_all (vs : List Vo) (k : Int) : mk3 vs k vs.length = marks3 k vs.length := list_eq3 (by rw [mk3_len]; simp [marks3]) fun j hj => by rw [mk3_len] at hj; rw [mk3_get _ _ _ _ hj, if_pos hj, marks3_get _ _ _ hj]
theorem mk3_set (vs : List Vo) (k : Int) (i : Nat) (h : i < vs.length) : (((trips (mk3 vs k i)).set (i * 3) (.int .i64 (k + 3 * i))).set (i * 3 + 1) (.int .i64 (k + 3 * i + 1))).set (i * 3 + 2) (.int .i64 (k + 3 * i + 2)) = trips (mk3 vs k (i + 1)) := by
  unfold trips
  rw [flat3_set (by rw [mk3_len]; exact h), mk3_len, mk3_len]
  refine flat3_congr fun j hj => ?_
  rw [mk3_get _ _ _ _ hj, mk3_get _ _ _ _ hj]
  by_cases e : j = i
  · subst e
    rw [if_pos rfl, if_pos rfl, if_pos rfl, if_pos (by omega)]
    exact ⟨rfl, rfl, rfl⟩
  · rw [if_neg e, if_neg e, if_neg e]
    by_cases e2 : j < i
    · rw [if_pos e2, if_pos (by omega)]; exact ⟨rfl, rfl, rfl⟩
    · rw [if_neg e2, if_neg (by omega)]; exact ⟨rfl, rfl, rfl⟩

set_option maxRecDepth 20000 in
set_option maxHeartbeats 800000 in
theorem markVols_any {lo hi : Nat} (ao : Option Addr) (n cap : Nat) (vs : List Vo) (k : Int) (w : World) (h : RowAt w true lo hi 3 ao n cap (trips vs)) (hn : n ≤ 4194304) (hk0 : 0 ≤ k) (hk1 : k ≤ 33554432) :
    Calls Try.prog 95 #[.slice ao n cap, .int .i64 k] w fun e w' => e = .returned (.int .i64 (k + 3 * n)) ∧ RowAt w' true lo hi 3 ao n cap (trips (marks3 k n)) ∧ Kept lo hi w w' := by
  have hx := h.nTrips
  go_enter Try.func95, Try.ntmps95
  go_wp2
  go_loopw [1, 5] (fun v i wr => ∃ j : Nat, j ≤ n ∧ i = .int .i64 j ∧ v = .int .i64 (k + 3 * j) ∧ RowAt wr true lo hi 3 ao n cap (trips (mk3 vs k j)) ∧ Kept lo hi w wr) (fun _ i _ => n - (intOf i).toNat)
  case atStart => exact ⟨0, Nat.zero_le _, rfl, by simp, by rw [mk3_zero]; exact h, Kept.refl _ _ _⟩
  case round =>
    obtain ⟨j, hj, rfl, rfl, R, hK⟩ := hrel
    by_cases hlt : j < n
    · obtain ⟨b, off, rfl, hlo, hhi, hbs, hc, hc', hc'', hf0⟩ := R.trip hlt
      obtain ⟨hf, hf', hf''⟩ := hf0 rfl
      have R2 := ((R.stored (i := j * 3) (by omega) (.int .i64 (k + 3 * j))).stored (i := j * 3 + 1) (by omega) (.int .i64 (k + 3 * j + 1))).stored (i := j * 3 + 2) (by omega) (.int .i64 (k + 3 * j + 2))
      rw [mk3_set vs k j (by omega), ← Nat.add_assoc, ← Nat.add_assoc] at R2
      have K2 : Kept lo hi w (((wr.setCell ⟨b, off + j * 3, none⟩ (.int .i64 (k + 3 * j))).setCell ⟨b, off + j * 3 + 1, none⟩ (.int .i64 (k + 3 * j + 1))).setCell ⟨b, off + j * 3 + 2, none⟩ (.int .i64 (k + 3 * j + 2))) := ((hK.setCell (p := ⟨b, off + j * 3, none⟩) hlo hhi _).setCell (p := ⟨b, off + j * 3 + 1, none⟩) hlo hhi _).setCell (p := ⟨b, off + j * 3 + 2, none⟩) hlo hhi _
      have hl : (j : Int) < n := by omega
      clear R hf0 hK
      generalize ((mk3 vs k j).getD j vo0).1 = old at *
      generalize ((mk3 vs k j).getD j vo0).2.1 = old2 at *
      generalize ((mk3 vs k j).getD j vo0).2.2 = old3 at *
      have e2 : k + 3 * (j : Int) + 1 + 1 = k + 3 * (j : Int) + 2 := by omega
      go_wp2
      go_roundw
      case rel => exact ⟨j + 1, by omega, by go_num, by simp; omega, R2, K2⟩
      case measure => simp [intOf]; omega
    · have hjn : j = n := by omega
      subst hjn
      rw [← hx, mk3_all] at R
      go_wp2
      go_ret
      exact ⟨rfl, by rw [← hx]; exact R, hK⟩

set_option maxRecDepth 20000 in
set_option maxHeartbeats 800000 in
theorem heldVols_any {o : Bool} {lo hi : Nat} (ao : Option Addr) (n cap : Nat) (k : Int) (w : World) (h : RowAt w o lo hi 3 ao n cap (trips (marks3 k n))) (hn : n ≤ 4194304) (hk0 : 0 ≤ k) (hk1 : k ≤ 33554432) :
    Calls Try.prog 97 #[.slice ao n cap, .int .i64 k] w fun e w' => e = .returned (.int .i64 (k + 3 * n)) ∧ w' = w := by
  go_enter Try.func97, Try.ntmps97
  go_wp2
  go_loop [1, 5] (fun v i => ∃ j : Nat, j ≤ n ∧ i = .int .i64 j ∧ v = .int .i64 (k + 3 * j)) (fun _ i => n - (intOf i).toNat)
  case atStart => exact ⟨0, Nat.zero_le _, rfl, by simp⟩
  case round =>
    obtain ⟨j, hj, rfl, rfl⟩ := hrel
    by_cases hlt : j < n
    · obtain ⟨b, off, rfl, hlo, hhi, hbs, hc, hc', hc'', hf0⟩ := h.trip hlt
      rw [marks3_get k n j hlt] at hc hc' hc''
      simp only [mark3] at hc hc' hc''
      have e2 : k + 3 * (j : Int) + 1 + 1 = k + 3 * (j : Int) + 2 := by omega
      have he : ((k + 3 * (j : Int)) != (k + 3 * (j : Int))) = false := by simp
      have he' : ((k + 3 * (j : Int) + 1) != (k + 3 * (j : Int) + 1)) = false := by simp
      have he'' : ((k + 3 * (j : Int) + 2) != (k + 3 * (j : Int) + 2)) = false := by simp
      have hl : (j : Int) < n := by omega
      clear hf0
      go_wp2
      go_round
      case rel => exact ⟨j + 1, by omega, by go_num, by simp; omega⟩
      case measure => simp [intOf]; omega
    · have hjn : j = n := by omega
      subst hjn
      go_wp2
      go_ret
      exact ⟨rfl, rfl⟩

end Go.Proofs.Ytedgppggaceopaa

namespace Go.Proofs.Ytedgppggaceopaa
open Go.RowKit

def numOf (p : Int × Int) : Value := .complex .f64 (floatOfInt .f64 p.1) (floatOfInt .f64 p.2)
def nums (bs : List (Int × Int)) : List Value := bs.map numOf
theorem fb_zero : floatOfInt .f64 0 = 0 := by decide +kernel
theorem back_all : (List.range 257).all (fun n => decide (floatToIntVal .f64 (floatOfInt .f64 n) .i64 = some (n : Int))) = true := by decide +kernel
theorem of_all {p : Nat → Bool} (h : (List.range 257).all p = true) {x : Int} (h0 : 0 ≤ x) (h1 : x ≤ 256) : p x.toNat = true := List.all_eq_true.1 h _ (List.mem_range.2 (by omega))
section
variable {x : Int} (h0 : 0 ≤ x) (h1 : x ≤ 256)
include h0 h1
theorem fb_back : floatToIntVal .f64 (floatOfInt .f64 x) .i64 = some x := by
  have := of_decide_eq_true (of_all back_all h0 h1)
  rwa [Int.toNat_of_nonneg h0] at this
end
theorem nums_len (bs : List (Int × Int)) : (nums bs).length = bs.length := by simp [nums]
theorem nums_getD (bs : List (Int × Int)) (k : Nat) (h : k < bs.length) : (nums bs).getD k default = numOf (bs.getD k (0, 0)) := by
  simp [nums, List.getD, h]
end Go.Proofs.Ytedgppggaceopaa

namespace Go.Proofs.Ytedgppggaceopaa
open Go.RowKit

theorem conv_back (b : Nat) (x : Int) (h : floatToIntVal .f64 b .i64 = some x) (w : World) : (convert 165 2 (.float .f64 b)).run Try.prog w = .ok (.int .i64 x) w :=
  run_convert_float_int w 165 2 .f64 .i64 b x (by rw [Try.underlying165]; rfl) Try.underlying2 h
theorem refs_is (a b : Nat) (x : Int) (w : World) (h : floatToIntVal .f64 a .i64 = some x) : Calls Try.prog 128 #[.complex .f64 a b] w fun e w' => e = .returned (.int .i64 x) ∧ w' = w := by
  have hc := conv_back a x h
  go_enter Try.func128, Try.ntmps128
  go_wp2_with (simp only [hc])
  all_goals (go_ret; exact ⟨rfl, rfl⟩)
theorem data_is (a b : Nat) (x : Int) (w : World) (h : floatToIntVal .f64 b .i64 = some x) : Calls Try.prog 129 #[.complex .f64 a b] w fun e w' => e = .returned (.int .i64 x) ∧ w' = w := by
  have hc := conv_back b x h
  go_enter Try.func129, Try.ntmps129
  go_wp2_with (simp only [hc])
  all_goals (go_ret; exact ⟨rfl, rfl⟩)
end Go.Proofs.Ytedgppggaceopaa

namespace Go.Proofs.Ytedgppggaceopaa
open Go.RowKit

theorem RowAt.one {w : World} {own : Bool} {lo hi : Nat} {ao : Option Addr} {n cap : Nat} {cs : List Value} (h : RowAt w own lo hi 1 ao n cap cs) {k : Nat} (hk : k < n) :
    ∃ b off, ao = some ⟨b, off, none⟩ ∧ lo ≤ b ∧ b < hi ∧ b < w.heap.size ∧ w.cell? ⟨b, off + k, none⟩ = some (cs.getD k default) ∧ (own = true → w.frozen? ⟨b, off + k, none⟩ = false) := by
  obtain ⟨b, off, rfl, g1, g2, g3, g4, g5⟩ := h.cells (by omega)
  exact ⟨b, off, rfl, g1, g2, g3, g4 k (by omega), fun ho => g5 ho k (by omega)⟩
theorem RowAt.nNums {w : World} {own : Bool} {lo hi : Nat} {ao : Option Addr} {n cap : Nat} {bs : List (Int × Int)} (h : RowAt w own lo hi 1 ao n cap (nums bs)) : bs.length = n := by
  have hl := h.len; rw [nums_len, Nat.mul_one] at hl; exact hl
theorem made_nums (n : Nat) : (madeCells #[Value.complex .f64 0 0] n).toList = List.replicate n (.complex .f64 0 0) := by
  apply List.ext_getElem?
  intro j
  by_cases hj : j < n
  · simp [madeCells, hj, Nat.mod_one]
  · simp [madeCells, hj]
theorem Try.infoNum : (Try.prog.info? 163).map (fun i => (i.zero, i.size, i.bytes)) = some (some (.complex .f64 0 0), 1, 16) := by kernel_rfl

end Go.Proofs.Ytedgppggaceopaa

namespace Go.Proofs.Ytedgppggaceopaa
open Go.RowKit

set_option maxRecDepth 20000 in
set_option maxHeartbeats 2000000 in
theorem blocksAnswer_any {o : Bool} {l u : Nat} (x : Int) (ao : Option Addr) (n cap : Nat) (bs : List (Int × Int)) (w : World) (h : RowAt w o l u 1 ao n cap (nums bs)) (hs : ∀ p ∈ bs, Small p) (hn : n ≤ 24) :
    Calls Try.prog 117 #[.int .i64 x, .slice ao n cap] w fun e w' => BlkRes w w' e 0 x bs := by
  have hl := h.nNums
  have hpl := pairs_length bs
  have B : Below w.heap.size w (w.alloc (.cells #[.int .i64 0, .int .i64 0, .slice none 0 0] 132)) := (Below.refl _ _).alloc (Nat.le_refl _) _
  have z0 : (w.alloc (.cells #[.int .i64 0, .int .i64 0, .slice none 0 0] 132)).cell? ⟨w.heap.size, 0, none⟩ = some (.int .i64 0) := by simp
  have z1 : (w.alloc (.cells #[.int .i64 0, .int .i64 0, .slice none 0 0] 132)).cell? ⟨w.heap.size, 1, none⟩ = some (.int .i64 0) := by simp
  have z2 : (w.alloc (.cells #[.int .i64 0, .int .i64 0, .slice none 0 0] 132)).cell? ⟨w.heap.size, 2, none⟩ = some (.slice none 0 0) := by simp
  have y0 : (w.alloc (.cells #[.int .i64 0, .int .i64 0, .slice none 0 0] 132)).frozen? ⟨w.heap.size, 0, none⟩ = false := by simp
  have y1 : (w.alloc (.cells #[.int .i64 0, .int .i64 0, .slice none 0 0] 132)).frozen? ⟨w.heap.size, 1, none⟩ = false := by simp
  have y2 : (w.alloc (.cells #[.int .i64 0, .int .i64 0, .slice none 0 0] 132)).frozen? ⟨w.heap.size, 2, none⟩ = false := by simp
  have hz : w.heap.size < (w.alloc (.cells #[.int .i64 0, .int .i64 0, .slice none 0 0] 132)).heap.size := by simp
  obtain ⟨j0, hj0, hq0, hq1, hq2⟩ := info_parts Try.infoBlk
  go_enter Try.func117, Try.ntmps117
  go_wp2_with (first | (at_make; refine wpList_make_full _ rfl _ _ 35 rfl (w.heap.size + 1) 105 j0 (.agg #[.int .i64 0, .int .i64 0]) 2 Try.underlying35 hj0 hq0 hq1 _ _ _ _ n rfl rfl rfl rfl ?b1 ?b2 ?b3 ?_))
  case b1 => rw [hq2]; omega
  case b2 => unfold maxLen; omega
  case b3 => simp
  intro w2 hown hgrow
  have hb : Below (w.alloc (.cells #[.int .i64 0, .int .i64 0, .slice none 0 0] 132)).heap.size (w.alloc (.cells #[.int .i64 0, .int .i64 0, .slice none 0 0] 132)) w2 := (Below.refl _ _).grown hgrow (Nat.le_refl _) (fun k hk => by cases hk)
  replace z0 := cell_later hb z0
  replace z1 := cell_later hb z1
  replace z2 := cell_later hb z2
  replace y0 := frozen_later hb hz y0
  replace y1 := frozen_later hb hz y1
  replace y2 := frozen_later hb hz y2
  replace hz := Nat.lt_of_lt_of_le hz hb.size
  replace B := below_next B hb
  have hs1 : (w.alloc (.cells #[.int .i64 0, .int .i64 0, .slice none 0 0] 132)).heap.size = w.heap.size + 1 := by simp
  replace hown : w2.ownsRow (w.heap.size + 1) 105 2 (.slice (some ⟨w.heap.size + 1, 0, none⟩) n n) n (cop (pairs bs) (.int .i64 0) (0 * 2)) := by
    rw [Nat.zero_mul, cop_zero, hpl, hl]; simpa [Value.cells, made2] using hown
  have hlt2 : w.heap.size + 1 < w2.heap.size := (owns_lt hown).2
  have R0 : RowAt w2 true (w.heap.size + 1) (w.heap.size + 2) 2 (some ⟨w.heap.size + 1, 0, none⟩) n n (cop (pairs bs) (.int .i64 0) (0 * 2)) := (RowAt.of_owns hown (Nat.le_refl _)).pin
  clear hgrow hown hb hs1
  go_wp2
  go_loopw [13] (fun i wr => ∃ k : Nat, k ≤ n ∧ i = .int .i64 k ∧ RowAt wr true (w.heap.size + 1) (w.heap.size + 2) 2 (some ⟨w.heap.size + 1, 0, none⟩) n n (cop (pairs bs) (.int .i64 0) (k * 2)) ∧ Kept (w.heap.size + 1) (w.heap.size + 2) w2 wr) (fun i _ => n - (intOf i).toNat)
  case atStart => exact ⟨0, Nat.zero_le _, rfl, R0, Kept.refl _ _ _⟩
  case round =>
    obtain ⟨k, hk, rfl, R, K⟩ := hrel
    clear R0
    by_cases hlt : k < n
    · obtain ⟨b, f, rfl, _, _, hbs, e1, _⟩ := h.one hlt
      replace e1 := K.cell ((B.cell (p := ⟨b, f + k, none⟩) hbs).trans e1) (by omega)
      have hlk : (k : Int) < (n : Int) := by omega
      have hsm := hs (bs.getD k (0, 0)) (by rw [List.getD_eq_getElem?_getD, List.getElem?_eq_getElem (by omega)]; exact List.getElem_mem (by omega))
      have hg0 := pairs_getD0 bs k (by omega)
      have hg1 := pairs_getD1 bs k (by omega)
      rw [nums_getD bs k (by omega), numOf] at e1
      obtain ⟨⟨p, q⟩, hxy⟩ : ∃ p, bs.getD k (0, 0) = p := ⟨_, rfl⟩
      rw [hxy] at e1 hsm hg0 hg1
      simp only at e1 hg0 hg1
      have HP : Hid _ := fb_back hsm.1.1 hsm.1.2
      have HQ : Hid _ := fb_back hsm.2.1 hsm.2.2
      simp only at HP HQ
      obtain ⟨_, _, e', _, _, _, gc, gf⟩ := R.cells (by omega)
      cases e'
      have c0 := gc (k * 2) (by omega)
      have c1 := gc (k * 2 + 1) (by omega)
      have f0 := gf rfl (k * 2) (by omega)
      have f1 := gf rfl (k * 2 + 1) (by omega)
      have R2 := (R.stored (i := k * 2) (by omega) (.int .i64 p)).stored (i := k * 2 + 1) (by omega) (.int .i64 q)
      rw [cop_set _ _ _ (k * 2) (by omega) hg0, cop_set _ _ _ (k * 2 + 1) (by omega) hg1, show k * 2 + 1 + 1 = (k + 1) * 2 by omega] at R2
      rw [Nat.zero_add] at c0 c1 f0 f1
      rw [Nat.zero_add, Nat.zero_add] at R2
      have K2 : Kept (w.heap.size + 1) (w.heap.size + 2) w2 ((wr.setCell ⟨w.heap.size + 1, k * 2, none⟩ (.int .i64 p)).setCell ⟨w.heap.size + 1, k * 2 + 1, none⟩ (.int .i64 q)) := by
        refine Kept.setCell (Kept.setCell K ?_ ?_ _) ?_ ?_ _ <;> simp
      clear hxy hsm hg0 hg1 R K gc gf
      go_wp2_with fail
      refine (refs_is _ _ p _ HP.out).mono ?_
      rintro e w1 ⟨rfl, rfl⟩
      go_wp2_with fail
      refine (data_is _ _ q _ HQ.out).mono ?_
      rintro e w1 ⟨rfl, rfl⟩
      go_wp2
      go_roundw
      case rel => exact ⟨k + 1, by omega, by go_num, R2, K2⟩
      case measure => simp [intOf]; omega
    · obtain rfl : k = n := by omega
      rw [show cop (pairs bs) (.int .i64 0) (k * 2) = pairs bs by rw [← hl, ← hpl, cop_all]] at R
      replace z0 := K.cell z0 (by simp)
      replace z1 := K.cell z1 (by simp)
      replace z2 := K.cell z2 (by simp)
      replace y0 := K.frozen hz (by omega) y0
      replace y1 := K.frozen hz (by omega) y1
      replace y2 := K.frozen hz (by omega) y2
      replace B := B.trans (K.below _ (by omega) (by omega))
      have hs2 := K.size
      clear K
      go_wp2
      refine bodyPost_ret (v := .agg #[.int .i64 0, .int .i64 x, .slice (some ⟨w.heap.size + 1, 0, none⟩) k k]) (by simp [results, Try.results117, go_sem, z0, z1, z2]) rfl ⟨_, _, _, rfl, ?_, ?_⟩
      · refine RowAt.widen (RowAt.kept R (l := w.heap.size) (u := w.heap.size + 1) ?_ (by omega)) (by omega) ?_
        · refine Kept.setCell (Kept.setCell (Kept.setCell (Kept.refl _ _ _) ?_ ?_ _) ?_ ?_ _) ?_ ?_ _ <;> simp
        · simp; omega
      · refine Below.setCell (Below.setCell (Below.setCell B ?_ _) ?_ _) ?_ _ <;> simp

end Go.Proofs.Ytedgppggaceopaa

namespace Go.Proofs.Ytedgppggaceopaa
open Go.RowKit

theorem nums_zero (n : Nat) : nums (List.replicate n (0, 0)) = List.replicate n (.complex .f64 0 0) := by
  unfold nums
  rw [List.map_replicate, numOf]
  simp only [fb_zero]
theorem small_zero (n : Nat) : ∀ p ∈ List.replicate n ((0 : Int), (0 : Int)), Small p := fun p hp => by
  rw [(List.mem_replicate.1 hp).2]; exact ⟨by decide, by decide⟩
set_option maxRecDepth 20000 in
set_option maxHeartbeats 2000000 in
theorem implNewBlocks_is (x : Int) (w : World) (cd : Int) (bl : List (Int × Int)) (hc : newBCode x = cd) (hb : newBList x = bl) :
    Calls Try.prog 93 #[.int .i64 x] w fun e w' => BlkRes w w' e cd 0 bl := by
  have B : Below w.heap.size w (w.alloc (.cells #[.int .i64 0, .int .i64 0, .slice none 0 0] 132)) := (Below.refl _ _).alloc (Nat.le_refl _) _
  have z0 : (w.alloc (.cells #[.int .i64 0, .int .i64 0, .slice none 0 0] 132)).cell? ⟨w.heap.size, 0, none⟩ = some (.int .i64 0) := by simp
  have z1 : (w.alloc (.cells #[.int .i64 0, .int .i64 0, .slice none 0 0] 132)).cell? ⟨w.heap.size, 1, none⟩ = some (.int .i64 0) := by simp
  have z2 : (w.alloc (.cells #[.int .i64 0, .int .i64 0, .slice none 0 0] 132)).cell? ⟨w.heap.size, 2, none⟩ = some (.slice none 0 0) := by simp
  have y0 : (w.alloc (.cells #[.int .i64 0, .int .i64 0, .slice none 0 0] 132)).frozen? ⟨w.heap.size, 0, none⟩ = false := by simp
  have y1 : (w.alloc (.cells #[.int .i64 0, .int .i64 0, .slice none 0 0] 132)).frozen? ⟨w.heap.size, 1, none⟩ = false := by simp
  have y2 : (w.alloc (.cells #[.int .i64 0, .int .i64 0, .slice none 0 0] 132)).frozen? ⟨w.heap.size, 2, none⟩ = false := by simp
  have hz : w.heap.size < (w.alloc (.cells #[.int .i64 0, .int .i64 0, .slice none 0 0] 132)).heap.size := by simp
  by_cases hx : 0 ≤ x ∧ x ≤ 24
  · obtain ⟨n, rfl⟩ : ∃ n : Nat, x = n := ⟨x.toNat, by omega⟩
    have e1 : newBCode (n : Int) = 0 := if_pos hx
    have e2 : newBList (n : Int) = List.replicate n (0, 0) := by rw [newBList, if_pos e1, Int.toNat_natCast]
    rw [e1] at hc
    rw [e2] at hb
    subst hc
    subst hb
    have hn24 : n ≤ 24 := by omega
    have hi1 : ¬ (n : Int) < 0 := by omega
    have hi2 : ¬ (24 : Int) < n := by omega
    clear e1 e2 hx
    obtain ⟨j0, hj0, hq0, hq1, hq2⟩ := info_parts Try.infoNum
    go_enter Try.func93, Try.ntmps93
    go_wp2_with (first | (at_make; refine wpList_make_full _ rfl _ _ 155 rfl (w.heap.size + 1) 163 j0 (.complex .f64 0 0) 1 Try.underlying155 hj0 hq0 hq1 _ _ _ _ n rfl rfl rfl rfl ?b1 ?b2 ?b3 ?_))
    case b1 => omega
    case b2 => unfold maxLen; omega
    intro w2 hown hgrow
    have hb : Below (w.alloc (.cells #[.int .i64 0, .int .i64 0, .slice none 0 0] 132)).heap.size (w.alloc (.cells #[.int .i64 0, .int .i64 0, .slice none 0 0] 132)) w2 := (Below.refl _ _).grown hgrow (Nat.le_refl _) (fun k hk => by cases hk)
    replace z0 := cell_later hb z0
    replace z1 := cell_later hb z1
    replace z2 := cell_later hb z2
    replace y0 := frozen_later hb hz y0
    replace y1 := frozen_later hb hz y1
    replace y2 := frozen_later hb hz y2
    replace hz := Nat.lt_of_lt_of_le hz hb.size
    replace B := below_next B hb
    clear hb
    have RN : RowAt w2 true (w.heap.size + 1) (w.heap.size + 2) 1 (some ⟨w.heap.size + 1, 0, none⟩) n n (nums (List.replicate n (0, 0))) := by
      rw [nums_zero, ← made_nums]; exact (RowAt.of_owns hown (Nat.le_refl _)).pin
    clear hown hgrow
    go_wp2_with fail
    refine (blocksAnswer_any 0 _ n _ (List.replicate n (0, 0)) _ RN (small_zero n) (by omega)).mono ?_
    rintro e w8 ⟨ra, rn, rc, rfl, RR, hb⟩
    replace RR := RR.widen (lo' := w.heap.size + 1) (by first | exact hz | (simp [World.setCell] at hz ⊢; omega)) (Nat.le_refl _)
    replace z0 := cell_later hb z0
    replace z1 := cell_later hb z1
    replace z2 := cell_later hb z2
    replace y0 := frozen_later hb hz y0
    replace y1 := frozen_later hb hz y1
    replace y2 := frozen_later hb hz y2
    replace hz := Nat.lt_of_lt_of_le hz hb.size
    replace B := below_next B hb
    clear hb
    go_wp2
    refine bodyPost_ret (v := .agg #[.int .i64 0, .int .i64 0, .slice ra rn rc]) (by simp [results, Try.results93, go_sem, z0, z1, z2]) rfl ⟨_, _, _, rfl, ?_, ?_⟩
    · refine RowAt.widen (RowAt.kept RR (l := w.heap.size) (u := w.heap.size + 1) ?_ (by omega)) (by omega) ?_
      · refine Kept.setCell (Kept.setCell (Kept.setCell (Kept.refl _ _ _) ?_ ?_ _) ?_ ?_ _) ?_ ?_ _ <;> simp
      · simp
    · refine Below.setCell (Below.setCell (Below.setCell B ?_ _) ?_ _) ?_ _ <;> simp
  · have e1 : newBCode x = 3 := if_neg hx
    have e2 : newBList x = [] := by rw [newBList, e1]; rfl
    rw [e1] at hc
    rw [e2] at hb
    subst hc
    subst hb
    clear e1 e2
    by_cases hx0 : x < 0
    · clear hx
      go_enter Try.func93, Try.ntmps93
      go_wp2
      refine bodyPost_ret (v := .agg #[.int .i64 3, .int .i64 0, .slice none 0 0]) (by simp [results, Try.results93, go_sem]) rfl ⟨_, _, _, rfl, RowAt.nil _ _ _ _ _, ?_⟩
      exact (Below.refl _ _).alloc (Nat.le_refl _) _
    · have hx1 : (24 : Int) < x := by omega
      clear hx
      go_enter Try.func93, Try.ntmps93
      go_wp2
      refine bodyPost_ret (v := .agg #[.int .i64 3, .int .i64 0, .slice none 0 0]) (by simp [results, Try.results93, go_sem]) rfl ⟨_, _, _, rfl, RowAt.nil _ _ _ _ _, ?_⟩
      exact (Below.refl _ _).alloc (Nat.le_refl _) _

end Go.Proofs.Ytedgppggaceopaa

namespace Go.Proofs.Ytedgppggaceopaa
open Go.RowKit

set_option maxRecDepth 20000 in
set_option maxHeartbeats 2000000 in
theorem implNewF_is (x : Int) (w : World) (cd rt : Int) (f : Fo) (hc : newBCode x = cd) (hr : (if newBCode x = 0 then (-1 : Int) else 0) = rt) (hf : newFoList x = f) : Calls Try.prog 61 #[.int .i64 x] w fun e w' => FoRes true w w' e cd rt f := by
  have B : Below w.heap.size w (w.alloc (.cells #[.int .i64 0, .int .i64 0, .slice none 0 0, .slice none 0 0] 97)) := (Below.refl _ _).alloc (Nat.le_refl _) _
  have z0 : (w.alloc (.cells #[.int .i64 0, .int .i64 0, .slice none 0 0, .slice none 0 0] 97)).cell? ⟨w.heap.size, 0, none⟩ = some (.int .i64 0) := by simp
  have z1 : (w.alloc (.cells #[.int .i64 0, .int .i64 0, .slice none 0 0, .slice none 0 0] 97)).cell? ⟨w.heap.size, 1, none⟩ = some (.int .i64 0) := by simp
  have z2 : (w.alloc (.cells #[.int .i64 0, .int .i64 0, .slice none 0 0, .slice none 0 0] 97)).cell? ⟨w.heap.size, 2, none⟩ = some (.slice none 0 0) := by simp
  have z3 : (w.alloc (.cells #[.int .i64 0, .int .i64 0, .slice none 0 0, .slice none 0 0] 97)).cell? ⟨w.heap.size, 3, none⟩ = some (.slice none 0 0) := by simp
  have y0 : (w.alloc (.cells #[.int .i64 0, .int .i64 0, .slice none 0 0, .slice none 0 0] 97)).frozen? ⟨w.heap.size, 0, none⟩ = false := by simp
  have y1 : (w.alloc (.cells #[.int .i64 0, .int .i64 0, .slice none 0 0, .slice none 0 0] 97)).frozen? ⟨w.heap.size, 1, none⟩ = false := by simp
  have y2 : (w.alloc (.cells #[.int .i64 0, .int .i64 0, .slice none 0 0, .slice none 0 0] 97)).frozen? ⟨w.heap.size, 2, none⟩ = false := by simp
  have y3 : (w.alloc (.cells #[.int .i64 0, .int .i64 0, .slice none 0 0, .slice none 0 0] 97)).frozen? ⟨w.heap.size, 3, none⟩ = false := by simp
  have hz : w.heap.size < (w.alloc (.cells #[.int .i64 0, .int .i64 0, .slice none 0 0, .slice none 0 0] 97)).heap.size := by simp
  obtain ⟨bl, hbl⟩ : ∃ bl, newBList x = bl := ⟨_, rfl⟩
  unfold newFoList at hf
  rw [hbl] at hf
  subst hf
  have HC : Hid _ := hc
  have HB : Hid _ := hbl
  rw [hc] at hr
  have HL : Hid (cd ≠ 0 → bl = []) := fun h0 => by rw [← hbl, newBList, hc, if_neg h0]
  clear hc hbl
  go_enter Try.func61, Try.ntmps61
  go_wp2_with fail
  refine (implNewBlocks_is x _ cd bl HC.out HB.out).mono ?_
  rintro e w1 ⟨ra, rn, rc, rfl, RR, hb1⟩
  have hz0 := hz
  replace RR := RR.widen (lo' := w.heap.size + 1) hz0 (Nat.le_refl _)
  replace z0 := cell_later hb1 z0
  replace z1 := cell_later hb1 z1
  replace z2 := cell_later hb1 z2
  replace z3 := cell_later hb1 z3
  replace y0 := frozen_later hb1 hz y0
  replace y1 := frozen_later hb1 hz y1
  replace y2 := frozen_later hb1 hz y2
  replace y3 := frozen_later hb1 hz y3
  replace hz := Nat.lt_of_lt_of_le hz hb1.size
  replace B := below_next B hb1
  clear hb1 hz0
  have A : Below w1.heap.size w1 (w1.alloc (.cells #[.int .i64 cd, .int .i64 0, .slice ra rn rc] 132)) := (Below.refl _ _).alloc (Nat.le_refl _) _
  have g0 : (w1.alloc (.cells #[.int .i64 cd, .int .i64 0, .slice ra rn rc] 132)).cell? ⟨w1.heap.size, 0, none⟩ = some (.int .i64 cd) := by simp
  have g2 : (w1.alloc (.cells #[.int .i64 cd, .int .i64 0, .slice ra rn rc] 132)).cell? ⟨w1.heap.size, 2, none⟩ = some (.slice ra rn rc) := by simp
  replace z0 := cell_later A z0
  replace z1 := cell_later A z1
  replace z2 := cell_later A z2
  replace z3 := cell_later A z3
  replace y0 := frozen_later A hz y0
  replace y1 := frozen_later A hz y1
  replace y2 := frozen_later A hz y2
  replace y3 := frozen_later A hz y3
  replace hz := Nat.lt_of_lt_of_le hz A.size
  have RA := RR.below A
  replace B := below_next B A
  clear A
  by_cases h0 : cd = 0
  · subst h0
    rw [if_pos rfl] at hr
    subst hr
    go_wp2
    refine bodyPost_ret (v := .agg #[.int .i64 0, .int .i64 (-1), .slice none 0 0, .slice ra rn rc]) (by simp [results, Try.results61, go_sem, z0, z1, z2, z3]) rfl ⟨_, _, _, _, _, _, fun _ => (none, 0, 0), rfl, ⟨⟨rfl, RowAt.nil _ _ _ _ _, fun i hi => absurd hi (by omega), fun _ i hi => absurd hi (by omega)⟩, ?_, fun _ _ hx => by rcases hx with ⟨hx, _⟩ | ⟨_, hx, _⟩ <;> omega⟩, ?_⟩
    · refine RowAt.widen (RowAt.kept RA (l := w.heap.size) (u := w.heap.size + 1) ?_ (by omega)) (by omega) ?_
      · refine Kept.setCell (Kept.setCell (Kept.setCell (Kept.setCell (Kept.refl _ _ _) ?_ ?_ _) ?_ ?_ _) ?_ ?_ _) ?_ ?_ _ <;> simp
      · simp
    · refine Below.setCell (Below.setCell (Below.setCell (Below.setCell B ?_ _) ?_ _) ?_ _) ?_ _ <;> simp
  · rw [if_neg h0] at hr
    subst hr
    have hne : (cd != 0) = true := by simp [h0]
    have HE : Hid _ := HL.out h0
    clear h0
    clear g2
    go_wp2
    rw [HE.out]
    refine bodyPost_ret (v := .agg #[.int .i64 cd, .int .i64 0, .slice none 0 0, .slice none 0 0]) (by simp [results, Try.results61, go_sem, z0, z1, z2, z3]) rfl ⟨_, _, _, _, _, _, _, rfl, FoAt.nil _ _ _ _, ?_⟩
    refine Below.setCell (Below.setCell (Below.setCell (Below.setCell B ?_ _) ?_ _) ?_ _) ?_ _ <;> simp

end Go.Proofs.Ytedgppggaceopaa

/- Chapter 5: new pools; the answers of pools compared, marked and held. -/
namespace Go.Proofs.Ytedgppggaceopaa
open Go.RowKit

def PoRes0 (o : Bool) (w w' : World) (e : Ending) (code : Int) (f : Fo) : Prop :=
  ∃ an nn cn ab nb cb lo mid K, e = .returned (.agg #[.int .i64 code, .int .i64 0, .int .i64 0, .slice an nn cn, .slice ab nb cb, .slice none 0 0]) ∧ FoAt w' o lo mid an nn cn ab nb cb K f ∧ w.heap.size ≤ lo ∧ mid ≤ w'.heap.size ∧ Below w.heap.size w w'
theorem fo_nil (o : Bool) (w : World) (lo hi : Nat) : FoAt w o lo hi none 0 0 none 0 0 (fun _ => (none, 0, 0)) ([], []) := ⟨⟨rfl, RowAt.nil _ _ _ _ _, fun i hi => absurd hi (by omega), fun _ i hi => absurd hi (by omega)⟩, RowAt.nil _ _ _ _ _, fun _ h => absurd rfl h⟩

set_option maxRecDepth 20000 in
set_option maxHeartbeats 1000000 in
theorem specNewP_is (x : Int) (w : World) (cd : Int) (g : Fo) (hc : newBCode x = cd) (hf : newFoList x = g) : Calls Try.prog 31 #[.int .i64 x] w fun e w' => PoRes0 false w w' e cd g := by
  have A : Below w.heap.size w (w.alloc (.cells #[.int .i64 0, .int .i64 0, .int .i64 0, .slice none 0 0, .slice none 0 0, .slice none 0 0] 72)) := (Below.refl _ _).alloc (Nat.le_refl _) _
  have z0 : (w.alloc (.cells #[.int .i64 0, .int .i64 0, .int .i64 0, .slice none 0 0, .slice none 0 0, .slice none 0 0] 72)).cell? ⟨w.heap.size, 0, none⟩ = some (.int .i64 0) := by simp
  have y0 : (w.alloc (.cells #[.int .i64 0, .int .i64 0, .int .i64 0, .slice none 0 0, .slice none 0 0, .slice none 0 0] 72)).frozen? ⟨w.heap.size, 0, none⟩ = false := by simp
  have z1 : (w.alloc (.cells #[.int .i64 0, .int .i64 0, .int .i64 0, .slice none 0 0, .slice none 0 0, .slice none 0 0] 72)).cell? ⟨w.heap.size, 1, none⟩ = some (.int .i64 0) := by simp
  have y1 : (w.alloc (.cells #[.int .i64 0, .int .i64 0, .int .i64 0, .slice none 0 0, .slice none 0 0, .slice none 0 0] 72)).frozen? ⟨w.heap.size, 1, none⟩ = false := by simp
  have z2 : (w.alloc (.cells #[.int .i64 0, .int .i64 0, .int .i64 0, .slice none 0 0, .slice none 0 0, .slice none 0 0] 72)).cell? ⟨w.heap.size, 2, none⟩ = some (.int .i64 0) := by simp
  have y2 : (w.alloc (.cells #[.int .i64 0, .int .i64 0, .int .i64 0, .slice none 0 0, .slice none 0 0, .slice none 0 0] 72)).frozen? ⟨w.heap.size, 2, none⟩ = false := by simp
  have z3 : (w.alloc (.cells #[.int .i64 0, .int .i64 0, .int .i64 0, .slice none 0 0, .slice none 0 0, .slice none 0 0] 72)).cell? ⟨w.heap.size, 3, none⟩ = some (.slice none 0 0) := by simp
  have y3 : (w.alloc (.cells #[.int .i64 0, .int .i64 0, .int .i64 0, .slice none 0 0, .slice none 0 0, .slice none 0 0] 72)).frozen? ⟨w.heap.size, 3, none⟩ = false := by simp
  have z4 : (w.alloc (.cells #[.int .i64 0, .int .i64 0, .int .i64 0, .slice none 0 0, .slice none 0 0, .slice none 0 0] 72)).cell? ⟨w.heap.size, 4, none⟩ = some (.slice none 0 0) := by simp
  have y4 : (w.alloc (.cells #[.int .i64 0, .int .i64 0, .int .i64 0, .slice none 0 0, .slice none 0 0, .slice none 0 0] 72)).frozen? ⟨w.heap.size, 4, none⟩ = false := by simp
  have z5 : (w.alloc (.cells #[.int .i64 0, .int .i64 0, .int .i64 0, .slice none 0 0, .slice none 0 0, .slice none 0 0] 72)).cell? ⟨w.heap.size, 5, none⟩ = some (.slice none 0 0) := by simp
  have y5 : (w.alloc (.cells #[.int .i64 0, .int .i64 0, .int .i64 0, .slice none 0 0, .slice none 0 0, .slice none 0 0] 72)).frozen? ⟨w.heap.size, 5, none⟩ = false := by simp
  have hz : w.heap.size < (w.alloc (.cells #[.int .i64 0, .int .i64 0, .int .i64 0, .slice none 0 0, .slice none 0 0, .slice none 0 0] 72)).heap.size := by simp
  have hs0 : (w.alloc (.cells #[.int .i64 0, .int .i64 0, .int .i64 0, .slice none 0 0, .slice none 0 0, .slice none 0 0] 72)).heap.size = w.heap.size + 1 := by simp
  obtain ⟨rt, hrt⟩ : ∃ rt, (if newBCode x = 0 then (-1 : Int) else 0) = rt := ⟨_, rfl⟩
  have HC : Hid _ := hc
  have HF : Hid _ := hf
  have HR : Hid _ := hrt
  clear hc hf hrt
  go_enter Try.func31, Try.ntmps31
  go_wp2_with fail
  refine (specNewF_is x _ cd rt g HC.out HR.out HF.out).mono ?_
  rintro e w1 ⟨an, nn, cn, ab, nb, cb, K, rfl, D, B⟩
  rw [hs0] at D
  replace z0 := cell_later B z0
  replace y0 := frozen_later B hz y0
  replace z1 := cell_later B z1
  replace y1 := frozen_later B hz y1
  replace z2 := cell_later B z2
  replace y2 := frozen_later B hz y2
  replace z3 := cell_later B z3
  replace y3 := frozen_later B hz y3
  replace z4 := cell_later B z4
  replace y4 := frozen_later B hz y4
  replace z5 := cell_later B z5
  replace y5 := frozen_later B hz y5
  have s1 : w.heap.size + 1 ≤ w1.heap.size := by have := B.size; omega
  replace hz := Nat.lt_of_lt_of_le hz B.size
  replace B := below_next A B
  clear A
  have A2 : Below w1.heap.size w1 (w1.alloc (.cells #[.int .i64 cd, .int .i64 rt, .slice an nn cn, .slice ab nb cb] 97)) := (Below.refl _ _).alloc (Nat.le_refl _) _
  have x0 : (w1.alloc (.cells #[.int .i64 cd, .int .i64 rt, .slice an nn cn, .slice ab nb cb] 97)).cell? ⟨w1.heap.size, 0, none⟩ = some (.int .i64 cd) := by simp
  have x2 : (w1.alloc (.cells #[.int .i64 cd, .int .i64 rt, .slice an nn cn, .slice ab nb cb] 97)).cell? ⟨w1.heap.size, 2, none⟩ = some (.slice an nn cn) := by simp
  have x3 : (w1.alloc (.cells #[.int .i64 cd, .int .i64 rt, .slice an nn cn, .slice ab nb cb] 97)).cell? ⟨w1.heap.size, 3, none⟩ = some (.slice ab nb cb) := by simp
  replace z0 := cell_later A2 z0
  replace y0 := frozen_later A2 hz y0
  replace z1 := cell_later A2 z1
  replace y1 := frozen_later A2 hz y1
  replace z2 := cell_later A2 z2
  replace y2 := frozen_later A2 hz y2
  replace z3 := cell_later A2 z3
  replace y3 := frozen_later A2 hz y3
  replace z4 := cell_later A2 z4
  replace y4 := frozen_later A2 hz y4
  replace z5 := cell_later A2 z5
  replace y5 := frozen_later A2 hz y5
  replace D := D.below A2
  have s2 := A2.size
  replace hz := Nat.lt_of_lt_of_le hz A2.size
  replace B := below_step B B.size A2
  clear A2 hz
  by_cases hc0 : cd = 0
  · subst hc0
    clear HC HF HR
    go_wp2
    refine bodyPost_ret (v := .agg #[.int .i64 0, .int .i64 0, .int .i64 0, .slice an nn cn, .slice ab nb cb, .slice none 0 0]) (by simp [results, Try.results31, go_sem, z0, z1, z2, z3, z4, z5]) rfl ?_
    refine ⟨an, nn, cn, ab, nb, cb, w.heap.size + 1, w1.heap.size, K, rfl, FoAt.kept (l := w.heap.size) (u := w.heap.size + 1) D ?_ (by omega), by omega, ?_, ?_⟩
    · refine Kept.setCell (Kept.setCell (Kept.setCell (Kept.setCell (Kept.setCell (Kept.setCell (Kept.refl _ _ _) ?_ ?_ _) ?_ ?_ _) ?_ ?_ _) ?_ ?_ _) ?_ ?_ _) ?_ ?_ _ <;> simp
    · simp
    · refine Below.setCell (Below.setCell (Below.setCell (Below.setCell (Below.setCell (Below.setCell B ?_ _) ?_ _) ?_ _) ?_ _) ?_ _) ?_ _ <;> simp
  · have hne : (cd != 0) = true := by simp [hc0]
    have hg : g = ([], []) := by
      rw [← HF.out]
      unfold newFoList newBList
      rw [if_neg (by rw [HC.out]; exact hc0)]
    subst hg
    clear HC HF HR hc0
    go_wp2
    refine bodyPost_ret (v := .agg #[.int .i64 cd, .int .i64 0, .int .i64 0, .slice none 0 0, .slice none 0 0, .slice none 0 0]) (by simp [results, Try.results31, go_sem, z0, z1, z2, z3, z4, z5]) rfl ?_
    refine ⟨none, 0, 0, none, 0, 0, w.heap.size + 1, w.heap.size + 1, fun _ => (none, 0, 0), rfl, fo_nil _ _ _ _, by omega, ?_, ?_⟩
    · have := Nat.le_trans s1 s2; simpa using this
    · refine Below.setCell (Below.setCell (Below.setCell (Below.setCell (Below.setCell (Below.setCell B ?_ _) ?_ _) ?_ _) ?_ _) ?_ _) ?_ _ <;> simp

set_option maxRecDepth 20000 in
set_option maxHeartbeats 1000000 in
theorem implNewP_is (x : Int) (w : World) (cd : Int) (g : Fo) (hc : newBCode x = cd) (hf : newFoList x = g) : Calls Try.prog 33 #[.int .i64 x] w fun e w' => PoRes0 true w w' e cd g := by
  have A : Below w.heap.size w (w.alloc (.cells #[.int .i64 0, .int .i64 0, .int .i64 0, .slice none 0 0, .slice none 0 0, .slice none 0 0] 72)) := (Below.refl _ _).alloc (Nat.le_refl _) _
  have z0 : (w.alloc (.cells #[.int .i64 0, .int .i64 0, .int .i64 0, .slice none 0 0, .slice none 0 0, .slice none 0 0] 72)).cell? ⟨w.heap.size, 0, none⟩ = some (.int .i64 0) := by simp
  have y0 : (w.alloc (.cells #[.int .i64 0, .int .i64 0, .int .i64 0, .slice none 0 0, .slice none 0 0, .slice none 0 0] 72)).frozen? ⟨w.heap.size, 0, none⟩ = false := by simp
  have z1 : (w.alloc (.cells #[.int .i64 0, .int .i64 0, .int .i64 0, .slice none 0 0, .slice none 0 0, .slice none 0 0] 72)).cell? ⟨w.heap.size, 1, none⟩ = some (.int .i64 0) := by simp
  have y1 : (w.alloc (.cells #[.int .i64 0, .int .i64 0, .int .i64 0, .slice none 0 0, .slice none 0 0, .slice none 0 0] 72)).frozen? ⟨w.heap.size, 1, none⟩ = false := by simp
  have z2 : (w.alloc (.cells #[.int .i64 0, .int .i64 0, .int .i64 0, .slice none 0 0, .slice none 0 0, .slice none 0 0] 72)).cell? ⟨w.heap.size, 2, none⟩ = some (.int .i64 0) := by simp
  have y2 : (w.alloc (.cells #[.int .i64 0, .int .i64 0, .int .i64 0, .slice none 0 0, .slice none 0 0, .slice none 0 0] 72)).frozen? ⟨w.heap.size, 2, none⟩ = false := by simp
  have z3 : (w.alloc (.cells #[.int .i64 0, .int .i64 0, .int .i64 0, .slice none 0 0, .slice none 0 0, .slice none 0 0] 72)).cell? ⟨w.heap.size, 3, none⟩ = some (.slice none 0 0) := by simp
  have y3 : (w.alloc (.cells #[.int .i64 0, .int .i64 0, .int .i64 0, .slice none 0 0, .slice none 0 0, .slice none 0 0] 72)).frozen? ⟨w.heap.size, 3, none⟩ = false := by simp
  have z4 : (w.alloc (.cells #[.int .i64 0, .int .i64 0, .int .i64 0, .slice none 0 0, .slice none 0 0, .slice none 0 0] 72)).cell? ⟨w.heap.size, 4, none⟩ = some (.slice none 0 0) := by simp
  have y4 : (w.alloc (.cells #[.int .i64 0, .int .i64 0, .int .i64 0, .slice none 0 0, .slice none 0 0, .slice none 0 0] 72)).frozen? ⟨w.heap.size, 4, none⟩ = false := by simp
  have z5 : (w.alloc (.cells #[.int .i64 0, .int .i64 0, .int .i64 0, .slice none 0 0, .slice none 0 0, .slice none 0 0] 72)).cell? ⟨w.heap.size, 5, none⟩ = some (.slice none 0 0) := by simp
  have y5 : (w.alloc (.cells #[.int .i64 0, .int .i64 0, .int .i64 0, .slice none 0 0, .slice none 0 0, .slice none 0 0] 72)).frozen? ⟨w.heap.size, 5, none⟩ = false := by simp
  have hz : w.heap.size < (w.alloc (.cells #[.int .i64 0, .int .i64 0, .int .i64 0, .slice none 0 0, .slice none 0 0, .slice none 0 0] 72)).heap.size := by simp
  have hs0 : (w.alloc (.cells #[.int .i64 0, .int .i64 0, .int .i64 0, .slice none 0 0, .slice none 0 0, .slice none 0 0] 72)).heap.size = w.heap.size + 1 := by simp
  obtain ⟨rt, hrt⟩ : ∃ rt, (if newBCode x = 0 then (-1 : Int) else 0) = rt := ⟨_, rfl⟩
  have HC : Hid _ := hc
  have HF : Hid _ := hf
  have HR : Hid _ := hrt
  clear hc hf hrt
  go_enter Try.func33, Try.ntmps33
  go_wp2_with fail
  refine (implNewF_is x _ cd rt g HC.out HR.out HF.out).mono ?_
  rintro e w1 ⟨an, nn, cn, ab, nb, cb, K, rfl, D, B⟩
  rw [hs0] at D
  replace z0 := cell_later B z0
  replace y0 := frozen_later B hz y0
  replace z1 := cell_later B z1
  replace y1 := frozen_later B hz y1
  replace z2 := cell_later B z2
  replace y2 := frozen_later B hz y2
  replace z3 := cell_later B z3
  replace y3 := frozen_later B hz y3
  replace z4 := cell_later B z4
  replace y4 := frozen_later B hz y4
  replace z5 := cell_later B z5
  replace y5 := frozen_later B hz y5
  have s1 : w.heap.size + 1 ≤ w1.heap.size := by have := B.size; omega
  replace hz := Nat.lt_of_lt_of_le hz B.size
  replace B := below_next A B
  clear A
  have A2 : Below w1.heap.size w1 (w1.alloc (.cells #[.int .i64 cd, .int .i64 rt, .slice an nn cn, .slice ab nb cb] 97)) := (Below.refl _ _).alloc (Nat.le_refl _) _
  have x0 : (w1.alloc (.cells #[.int .i64 cd, .int .i64 rt, .slice an nn cn, .slice ab nb cb] 97)).cell? ⟨w1.heap.size, 0, none⟩ = some (.int .i64 cd) := by simp
  have x2 : (w1.alloc (.cells #[.int .i64 cd, .int .i64 rt, .slice an nn cn, .slice ab nb cb] 97)).cell? ⟨w1.heap.size, 2, none⟩ = some (.slice an nn cn) := by simp
  have x3 : (w1.alloc (.cells #[.int .i64 cd, .int .i64 rt, .slice an nn cn, .slice ab nb cb] 97)).cell? ⟨w1.heap.size, 3, none⟩ = some (.slice ab nb cb) := by simp
  replace z0 := cell_later A2 z0
  replace y0 := frozen_later A2 hz y0
  replace z1 := cell_later A2 z1
  replace y1 := frozen_later A2 hz y1
  replace z2 := cell_later A2 z2
  replace y2 := frozen_later A2 hz y2
  replace z3 := cell_later A2 z3
  replace y3 := frozen_later A2 hz y3
  replace z4 := cell_later A2 z4
  replace y4 := frozen_later A2 hz y4
  replace z5 := cell_later A2 z5
  replace y5 := frozen_later A2 hz y5
  replace D := D.below A2
  have s2 := A2.size
  replace hz := Nat.lt_of_lt_of_le hz A2.size
  replace B := below_step B B.size A2
  clear A2 hz
  by_cases hc0 : cd = 0
  · subst hc0
    clear HC HF HR
    go_wp2
    refine bodyPost_ret (v := .agg #[.int .i64 0, .int .i64 0, .int .i64 0, .slice an nn cn, .slice ab nb cb, .slice none 0 0]) (by simp [results, Try.results33, go_sem, z0, z1, z2, z3, z4, z5]) rfl ?_
    refine ⟨an, nn, cn, ab, nb, cb, w.heap.size + 1, w1.heap.size, K, rfl, FoAt.kept (l := w.heap.size) (u := w.heap.size + 1) D ?_ (by omega), by omega, ?_, ?_⟩
    · refine Kept.setCell (Kept.setCell (Kept.setCell (Kept.setCell (Kept.setCell (Kept.setCell (Kept.refl _ _ _) ?_ ?_ _) ?_ ?_ _) ?_ ?_ _) ?_ ?_ _) ?_ ?_ _) ?_ ?_ _ <;> simp
    · simp
    · refine Below.setCell (Below.setCell (Below.setCell (Below.setCell (Below.setCell (Below.setCell B ?_ _) ?_ _) ?_ _) ?_ _) ?_ _) ?_ _ <;> simp
  · have hne : (cd != 0) = true := by simp [hc0]
    have hg : g = ([], []) := by
      rw [← HF.out]
      unfold newFoList newBList
      rw [if_neg (by rw [HC.out]; exact hc0)]
    subst hg
    clear HC HF HR hc0
    go_wp2
    refine bodyPost_ret (v := .agg #[.int .i64 cd, .int .i64 0, .int .i64 0, .slice none 0 0, .slice none 0 0, .slice none 0 0]) (by simp [results, Try.results33, go_sem, z0, z1, z2, z3, z4, z5]) rfl ?_
    refine ⟨none, 0, 0, none, 0, 0, w.heap.size + 1, w.heap.size + 1, fun _ => (none, 0, 0), rfl, fo_nil _ _ _ _, by omega, ?_, ?_⟩
    · have := Nat.le_trans s1 s2; simpa using this
    · refine Below.setCell (Below.setCell (Below.setCell (Below.setCell (Below.setCell (Below.setCell B ?_ _) ?_ _) ?_ _) ?_ _) ?_ _) ?_ _ <;> simp

end Go.Proofs.Ytedgppggaceopaa

/- A pool, and what an operation answers, marked and held. -/
namespace Go.Proofs.Ytedgppggaceopaa
open Go.RowKit

theorem endF_in {f : Fo} {nn nb : Nat} (hk1 : kOf f.1 1 nn ≤ 4194304) (hnb : nb ≤ 4194304) : 0 ≤ endF f nn nb ∧ endF f nn nb ≤ 33554432 := by unfold endF; have : 0 ≤ kOf f.1 1 nn := by { unfold kOf; omega }; omega
set_option maxRecDepth 20000 in
set_option maxHeartbeats 1000000 in
theorem markPool_any {lo hi l2 u2 : Nat} (an : Option Addr) (nn cn : Nat) (ab : Option Addr) (nb cb : Nat) (av : Option Addr) (nv cv : Nat) (K : Nat → KS) (f : Fo) (vs : List Vo) (w : World) (h : FoAt w true lo hi an nn cn ab nb cb K f) (hv : RowAt w true l2 u2 3 av nv cv (trips vs)) (hhi : hi ≤ w.heap.size) (far : hi ≤ l2 ∨ u2 ≤ lo) (hk1 : kOf f.1 1 nn ≤ 4194304) (hnb : nb ≤ 4194304) (hnv : nv ≤ 4194304) (LO HI : Nat) (h1 : LO ≤ lo) (h2 : LO ≤ l2) (h3 : hi ≤ HI) (h4 : u2 ≤ HI) :
    Calls Try.prog 62 #[.agg #[.slice an nn cn, .slice ab nb cb, .slice av nv cv], .int .i64 1] w fun e w' => e = .returned (.int .i64 (endF f nn nb + 3 * nv)) ∧ FoAt w' true lo hi an nn cn ab nb cb K (mkF f nn nb) ∧ RowAt w' true l2 u2 3 av nv cv (trips (marks3 (endF f nn nb) nv)) ∧ Kept LO HI w w' := by
  have A : Below w.heap.size w (w.alloc (.cells #[.slice an nn cn, .slice ab nb cb, .slice av nv cv] 40)) := (Below.refl _ _).alloc (Nat.le_refl _) _
  have z2 : (w.alloc (.cells #[.slice an nn cn, .slice ab nb cb, .slice av nv cv] 40)).cell? ⟨w.heap.size, 2, none⟩ = some (.slice av nv cv) := by simp
  have E := endF_in hk1 hnb
  have E0 : Hid _ := E.1
  have E1 : Hid _ := E.2
  clear E
  go_enter Try.func62, Try.ntmps62
  go_wp2_with fail
  refine (markForest_any an nn cn ab nb cb K f _ (by exact h.below A) hk1 hnb).mono ?_
  rintro e w1 ⟨rfl, D, K1⟩
  replace z2 := K1.cell z2 (Or.inr hhi)
  have R2 := (hv.below A).kept K1 (by omega)
  have K2 : Kept LO HI w w1 := ((Kept.of_below A).trans K1).mono h1 h3
  clear K1 A
  go_wp2_with fail
  refine (markVols_any av nv cv vs _ _ R2 hnv E0.out E1.out).mono ?_
  rintro e w2 ⟨rfl, R3, K3⟩
  have K4 : Kept LO HI w w2 := K2.trans (K3.mono h2 h4)
  replace D := D.kept K3 (by omega)
  clear K2 K3 R2
  go_wp2
  go_ret
  exact ⟨rfl, D, R3, K4⟩
end Go.Proofs.Ytedgppggaceopaa

/- Chapter 12: sessions and machines marked and held by the laws; answers compared. -/
namespace Go.Proofs.Ytedgppggaceopaa
open Go.RowKit

theorem fours_flat (xs : List Se) : fours xs = flatF 4 xs.length (fun i j => .int .i64 (seF (xs.getD i se0) j)) := rfl
def mark4 (k : Int) (j : Nat) : Se := (k + 4 * (j : Int), k + 4 * (j : Int) + 1, k + 4 * (j : Int) + 2, k + 4 * (j : Int) + 3)
def marks4 (k : Int) (n : Nat) : List Se := (List.range n).map (mark4 k)
def mk4 (vs : List Se) (k : Int) (i : Nat) : List Se := (List.range vs.length).map fun j => if j < i then mark4 k j else vs.getD j se0
theorem mk4_len (vs : List Se) (k : Int) (i : Nat) : (mk4 vs k i).length = vs.length := by simp [mk4]
theorem mk4_get (vs : List Se) (k : Int) (i j : Nat) (h : j < vs.length) : (mk4 vs k i).getD j se0 = if j < i then mark4 k j else vs.getD j se0 := by simp [mk4, List.getD, h]
theorem marks4_get (k : Int) (n j : Nat) (h : j < n) : (marks4 k n).getD j se0 = mark4 k j := by simp [marks4, List.getD, h]
theorem list_eq4 {xs ys : List Se} (hl : xs.length = ys.length) (h : ∀ j, j < xs.length → xs.getD j se0 = ys.getD j se0) : xs = ys := by
  apply List.ext_getElem hl
  intro j h1 h2
  have := h j h1
  simpa [List.getD, h1, h2] using this
theorem mk4_zero (vs : List Se) (k : Int) : mk4 vs k 0 = vs := list_eq4 (by rw [mk4_len]) fun j hj => by rw [mk4_get _ _ _ _ (by rwa [mk4_len] at hj), if_neg (Nat.not_lt_zero _)]
theorem mk4_all (vs : List Se) (k : Int) : mk4 vs k vs.length = marks4 k vs.length := list_eq4 (by rw [mk4_len]; simp [marks4]) fun j hj => by rw [mk4_len] at hj; rw [mk4_get _ _ _ _ hj, if_pos hj, marks4_get _ _ _ hj]
theorem fours_sets (vs : List Se) (k : Int) (i : Nat) (h : i < vs.length) : ((((fours (mk4 vs k i)).set (i * 4 + 0) (.int .i64 (mark4 k i).1)).set (i * 4 + 1) (.int .i64 (mark4 k i).2.1)).set (i * 4 + 2) (.int .i64 (mark4 k i).2.2.1)).set (i * 4 + 3) (.int .i64 (mark4 k i).2.2.2) = fours (mk4 vs k (i + 1)) := by
  rw [fours_flat, fours_flat, mk4_len, mk4_len, flatF_set _ (by omega), flatF_set _ (by omega), flatF_set _ (by omega), flatF_set _ (by omega)]
  refine flatF_congr fun a b ha hb => ?_
  rw [mk4_get _ _ _ _ ha]
  by_cases e : a = i
  · subst e
    rw [if_pos (by omega)]
    rcases (by omega : b = 0 ∨ b = 1 ∨ b = 2 ∨ b = 3) with rfl | rfl | rfl | rfl <;> simp [updF, seF]
  · have : (a < i + 1) = (a < i) := by simp; omega
    simp only [updF, e, false_and, if_false]
    rw [mk4_get _ _ _ _ ha]
    simp only [this]
set_option maxRecDepth 20000 in
set_option maxHeartbeats 4000000 in
theorem markSessions_any {lo hi : Nat} (ao : Option Addr) (n cap : Nat) (vs : List Se) (k : Int) (w : World) (h : RowAt w true lo hi 4 ao n cap (fours vs)) (hn : n ≤ 4194304) (hk0 : 0 ≤ k) (hk1 : k ≤ 1000000000000000) :
    Calls Try.prog 63 #[.slice ao n cap, .int .i64 k] w fun e w' => e = .returned (.int .i64 (k + 4 * n)) ∧ RowAt w' true lo hi 4 ao n cap (fours (marks4 k n)) ∧ Kept lo hi w w' := by
  have hx := h.nFours
  go_enter Try.func63, Try.ntmps63
  go_wp2
  go_loopw [1, 5] (fun v i wr => ∃ j : Nat, j ≤ n ∧ i = .int .i64 j ∧ v = .int .i64 (k + 4 * (j : Int)) ∧ RowAt wr true lo hi 4 ao n cap (fours (mk4 vs k j)) ∧ Kept lo hi w wr) (fun _ i _ => n - (intOf i).toNat)
  case atStart => exact ⟨0, Nat.zero_le _, rfl, by simp, by rw [mk4_zero]; exact h, Kept.refl _ _ _⟩
  case round =>
    obtain ⟨j, hj, rfl, rfl, R, hK⟩ := hrel
    by_cases hlt : j < n
    · obtain ⟨b, off, rfl, hlo, hhi, hbs, c0, c1, c2, c3, fz⟩ := R.four hlt
      have f0 := fz rfl 0 (by omega)
      have f1 := fz rfl 1 (by omega)
      have f2 := fz rfl 2 (by omega)
      have f3 := fz rfl 3 (by omega)
      simp only [Nat.add_zero, ← Nat.add_assoc] at f0 f1 f2 f3
      clear fz
      have hq0 : 0 ≤ k + 4 * (j : Int) := by omega
      have hq1 : k + 4 * (j : Int) ≤ 2000000000000000 := by omega
      have R2 := ((((R.stored (i := j * 4 + 0) (by omega) (.int .i64 (mark4 k j).1)).stored (i := j * 4 + 1) (by omega) (.int .i64 (mark4 k j).2.1)).stored (i := j * 4 + 2) (by omega) (.int .i64 (mark4 k j).2.2.1)).stored (i := j * 4 + 3) (by omega) (.int .i64 (mark4 k j).2.2.2))
      rw [fours_sets vs k j (by omega)] at R2
      have K2 := ((((hK.setCell (p := ⟨b, off + (j * 4 + 0), none⟩) hlo hhi (.int .i64 (mark4 k j).1)).setCell (p := ⟨b, off + (j * 4 + 1), none⟩) hlo hhi (.int .i64 (mark4 k j).2.1)).setCell (p := ⟨b, off + (j * 4 + 2), none⟩) hlo hhi (.int .i64 (mark4 k j).2.2.1)).setCell (p := ⟨b, off + (j * 4 + 3), none⟩) hlo hhi (.int .i64 (mark4 k j).2.2.2))
      simp only [mark4, Nat.add_zero, ← Nat.add_assoc] at R2 K2
      have hl : (j : Int) < n := by omega
      clear R hK
      generalize ((mk4 vs k j).getD j se0).1 = old0 at *
      generalize ((mk4 vs k j).getD j se0).2.1 = old1 at *
      generalize ((mk4 vs k j).getD j se0).2.2.1 = old2 at *
      generalize ((mk4 vs k j).getD j se0).2.2.2 = old3 at *
      have e4 : k + 4 * (j : Int) + 4 = k + 4 * ((j + 1 : Nat) : Int) := by omega
      have HR2 : Hid _ := R2
      have HK2 : Hid _ := K2
      clear R2 K2
      have HE4 : Hid _ := e4
      clear e4
      generalize hq : k + 4 * (j : Int) = q at *
      clear hq
      have v1 : IntKind.i64.wrap (q + 1) = q + 1 := wrapI_same _ (by omega)
      have v2 : IntKind.i64.wrap (q + 2) = q + 2 := wrapI_same _ (by omega)
      have v3 : IntKind.i64.wrap (q + 3) = q + 3 := wrapI_same _ (by omega)
      have v4 : IntKind.i64.wrap (q + 4) = q + 4 := wrapI_same _ (by omega)
      have a2 : q + 1 + 1 = q + 2 := by omega
      have a3 : q + 2 + 1 = q + 3 := by omega
      have a4 : q + 3 + 1 = q + 4 := by omega
      go_wp2
      go_roundw
      case rel => exact ⟨j + 1, by omega, by go_num, by rw [← HE4.out], HR2.out, HK2.out⟩
      case measure => simp [intOf]; omega
    · have hjn : j = n := by omega
      subst hjn
      rw [← hx, mk4_all] at R
      go_wp2
      go_ret
      exact ⟨rfl, by rw [← hx]; exact R, hK⟩
set_option maxRecDepth 20000 in
set_option maxHeartbeats 4000000 in
theorem heldSessions_any {o : Bool} {lo hi : Nat} (ao : Option Addr) (n cap : Nat) (k : Int) (w : World) (h : RowAt w o lo hi 4 ao n cap (fours (marks4 k n))) (hn : n ≤ 4194304) (hk0 : 0 ≤ k) (hk1 : k ≤ 1000000000000000) :
    Calls Try.prog 65 #[.slice ao n cap, .int .i64 k] w fun e w' => e = .returned (.int .i64 (k + 4 * n)) ∧ w' = w := by
  go_enter Try.func65, Try.ntmps65
  go_wp2
  go_loop [1, 5] (fun v i => ∃ j : Nat, j ≤ n ∧ i = .int .i64 j ∧ v = .int .i64 (k + 4 * (j : Int))) (fun _ i => n - (intOf i).toNat)
  case atStart => exact ⟨0, Nat.zero_le _, rfl, by simp⟩
  case round =>
    obtain ⟨j, hj, rfl, rfl⟩ := hrel
    by_cases hlt : j < n
    · obtain ⟨b, off, rfl, hlo, hhi, hbs, c0, c1, c2, c3, _⟩ := h.four hlt
      rw [marks4_get k n j hlt] at c0 c1 c2 c3
      simp only [mark4] at c0 c1 c2 c3
      have hq0 : 0 ≤ k + 4 * (j : Int) := by omega
      have hq1 : k + 4 * (j : Int) ≤ 2000000000000000 := by omega
      have e4 : k + 4 * (j : Int) + 4 = k + 4 * ((j + 1 : Nat) : Int) := by omega
      have HE4 : Hid _ := e4
      clear e4
      have hl : (j : Int) < n := by omega
      generalize hq : k + 4 * (j : Int) = q at *
      clear hq
      have v1 : IntKind.i64.wrap (q + 1) = q + 1 := wrapI_same _ (by omega)
      have v2 : IntKind.i64.wrap (q + 2) = q + 2 := wrapI_same _ (by omega)
      have v3 : IntKind.i64.wrap (q + 3) = q + 3 := wrapI_same _ (by omega)
      have v4 : IntKind.i64.wrap (q + 4) = q + 4 := wrapI_same _ (by omega)
      have a2 : q + 1 + 1 = q + 2 := by omega
      have a3 : q + 2 + 1 = q + 3 := by omega
      have a4 : q + 3 + 1 = q + 4 := by omega
      have e0 : ((q) != (q)) = false := by simp
      have e1 : ((q + 1) != (q + 1)) = false := by simp
      have e2 : ((q + 2) != (q + 2)) = false := by simp
      have e3 : ((q + 3) != (q + 3)) = false := by simp
      go_wp2
      go_round
      case rel => exact ⟨j + 1, by omega, by go_num, by rw [← HE4.out]⟩
      case measure => simp [intOf]; omega
    · have hjn : j = n := by omega
      subst hjn
      go_wp2
      go_ret
      exact ⟨rfl, rfl⟩
/-- a machine's lists apart from one another, from lo to hi -/
structure MacS (w : World) (lo hi : Nat) (h : MacH) (m : Mac) : Prop where
  ex : ∃ l u l2 u2 LO HI l3 u3, FoAt w true l u h.N.1 h.N.2.1 h.N.2.2 h.B.1 h.B.2.1 h.B.2.2 h.K m.1 ∧ RowAt w true l2 u2 3 h.V.1 h.V.2.1 h.V.2.2 (trips m.2.1) ∧ RowAt w true l3 u3 4 h.S.1 h.S.2.1 h.S.2.2 (fours m.2.2) ∧ (u ≤ l2 ∨ u2 ≤ l) ∧ (LO ≤ l ∧ LO ≤ l2 ∧ u ≤ HI ∧ u2 ≤ HI) ∧ (HI ≤ l3 ∨ u3 ≤ LO) ∧ (lo ≤ LO ∧ lo ≤ l3 ∧ HI ≤ hi ∧ u3 ≤ hi)
  hs : hi ≤ w.heap.size
theorem MacS.below {w w' : World} {lo hi : Nat} {h : MacH} {m : Mac} (x : MacS w lo hi h m) (hb : Below w.heap.size w w') : MacS w' lo hi h m := by
  obtain ⟨l, u, l2, u2, LO, HI, l3, u3, F, V, S, a, b, c, d⟩ := x.ex
  exact ⟨⟨l, u, l2, u2, LO, HI, l3, u3, F.below hb, V.below hb, S.below hb, a, b, c, d⟩, Nat.le_trans x.hs hb.size⟩
theorem MacS.kept {w w' : World} {lo hi : Nat} {h : MacH} {m : Mac} (x : MacS w lo hi h m) {l0 u0 : Nat} (hk : Kept l0 u0 w w') (hd : hi ≤ l0 ∨ u0 ≤ lo) : MacS w' lo hi h m := by
  obtain ⟨l, u, l2, u2, LO, HI, l3, u3, F, V, S, a, b, c, d⟩ := x.ex
  exact ⟨⟨l, u, l2, u2, LO, HI, l3, u3, F.kept hk (by omega), V.kept hk (by omega), S.kept hk (by omega), a, b, c, d⟩, Nat.le_trans x.hs hk.size⟩
theorem MacS.at {w : World} {lo hi : Nat} {h : MacH} {m : Mac} (x : MacS w lo hi h m) : MacAt w true lo hi h m := by
  obtain ⟨l, u, l2, u2, LO, HI, l3, u3, F, V, S, a, b, c, d⟩ := x.ex
  exact ⟨F.widen (by omega) (by omega), V.widen (by omega) (by omega), S.widen (by omega) (by omega)⟩
def macEnd (h : MacH) (m : Mac) : Int := endF m.1 h.N.2.1 h.B.2.1 + 3 * (h.V.2.1 : Int) + 4 * (h.S.2.1 : Int)
def macMk (h : MacH) (m : Mac) : Mac := (mkF m.1 h.N.2.1 h.B.2.1, marks3 (endF m.1 h.N.2.1 h.B.2.1) h.V.2.1, marks4 (endF m.1 h.N.2.1 h.B.2.1 + 3 * (h.V.2.1 : Int)) h.S.2.1)
structure MacMS (h : MacH) (m : Mac) : Prop where
  k : kOf m.1.1 1 h.N.2.1 ≤ 4194304
  b : h.B.2.1 ≤ 4194304
  v : h.V.2.1 ≤ 4194304
  s : h.S.2.1 ≤ 4194304
theorem macEnd_in {h : MacH} {m : Mac} (z : MacMS h m) : 0 ≤ macEnd h m := by have := endF_in z.k z.b; unfold macEnd; omega
set_option maxRecDepth 20000 in
set_option maxHeartbeats 2000000 in
theorem markMachine_any {lo hi : Nat} (h : MacH) (m : Mac) (w : World) (x : MacS w lo hi h m) (z : MacMS h m) :
    Calls Try.prog 34 #[.agg #[.slice h.N.1 h.N.2.1 h.N.2.2, .slice h.B.1 h.B.2.1 h.B.2.2, .slice h.V.1 h.V.2.1 h.V.2.2, .slice h.S.1 h.S.2.1 h.S.2.2], .int .i64 1] w fun e w' => e = .returned (.int .i64 (macEnd h m)) ∧ MacS w' lo hi h (macMk h m) ∧ Kept lo hi w w' := by
  obtain ⟨l, u, l2, u2, LO, HI, l3, u3, F, V, S, far, ⟨q1, q2, q3, q4⟩, far2, ⟨q5, q6, q7, q8⟩⟩ := x.ex
  have hsz := x.hs
  have E := endF_in z.k z.b
  have HE : Hid _ := E
  have HZ : Hid _ := z
  have zs := z.s
  clear x E z
  go_enter Try.func34, Try.ntmps34
  go_wp2_with (first | ((with_reducible refine box_newX 43 [.slice h.N.1 h.N.2.1 h.N.2.2, .slice h.B.1 h.B.2.1 h.B.2.2, .slice h.V.1 h.V.2.1 h.V.2.2, .slice h.S.1 h.S.2.1 h.S.2.2] rfl ?_); intro b0 W0 N0; have ob0 : w.heap.size ≤ b0 := N0.ge; have B := N0.below; have X0 := N0.bx; have c0 := X0.cell; clear N0) | fail)
  refine (markPool_any h.N.1 h.N.2.1 h.N.2.2 h.B.1 h.B.2.1 h.B.2.2 h.V.1 h.V.2.1 h.V.2.2 h.K m.1 m.2.1 _ (F.below B) (V.below B) (by have := B.size; omega) far HZ.out.k HZ.out.b HZ.out.v LO HI q1 q2 q3 q4).mono ?_
  rintro e w1 ⟨rfl, F1, V1, K1⟩
  replace S := (S.below B).kept K1 (by omega)
  replace X0 := X0.kept K1 (by omega)
  replace c0 := X0.cell
  have K2 : Kept lo hi w w1 := ((Kept.of_below B).trans K1).mono q5 q7
  clear K1 B F V
  obtain ⟨q, hq⟩ : ∃ q, endF m.1 h.N.2.1 h.B.2.1 + 3 * (h.V.2.1 : Int) = q := ⟨_, rfl⟩
  have HQ : Hid _ := hq
  have hq0 : 0 ≤ q ∧ q ≤ 1000000000000000 := by have := HE.out; have := HZ.out.v; omega
  rw [hq]
  clear hq
  go_wp2_with fail
  refine (markSessions_any h.S.1 h.S.2.1 h.S.2.2 m.2.2 q _ S zs hq0.1 hq0.2).mono ?_
  rintro e w2 ⟨rfl, S2, K3⟩
  replace F1 := F1.kept K3 (by omega)
  replace V1 := V1.kept K3 (by omega)
  have K4 : Kept lo hi w w2 := K2.trans (K3.mono q6 q8)
  have hs2 : hi ≤ w2.heap.size := Nat.le_trans hsz K4.size
  clear K2 K3 X0 c0
  go_wp2
  go_ret
  have hq := HQ.out
  subst hq
  exact ⟨rfl, ⟨⟨l, u, l2, u2, LO, HI, l3, u3, F1, V1, S2, far, ⟨q1, q2, q3, q4⟩, far2, ⟨q5, q6, q7, q8⟩⟩, hs2⟩, K4⟩
set_option maxRecDepth 20000 in
set_option maxHeartbeats 2000000 in
theorem heldPool_any {o o2 : Bool} {lo hi l2 u2 : Nat} (an : Option Addr) (nn cn : Nat) (ab : Option Addr) (nb cb : Nat) (av : Option Addr) (nv cv : Nat) (K : Nat → KS) (f : Fo) (W : World) (hW : FoAt W o lo hi an nn cn ab nb cb K (mkF f nn nb)) (hV : RowAt W o2 l2 u2 3 av nv cv (trips (marks3 (endF f nn nb) nv))) (hk1 : kOf f.1 1 nn ≤ 4194304) (hnb : nb ≤ 4194304) (hnv : nv ≤ 4194304) :
    Calls Try.prog 64 #[.agg #[.slice an nn cn, .slice ab nb cb, .slice av nv cv], .int .i64 1] W fun e w' => e = .returned (.int .i64 (endF f nn nb + 3 * nv)) ∧ Below W.heap.size W w' := by
  have E := endF_in hk1 hnb
  have d1 : ¬ (endF f nn nb < 0) := by omega
  have d2 : ¬ (endF f nn nb + 3 * (nv : Int) < 0) := by omega
  have HE : Hid _ := E
  clear E
  go_enter Try.func64, Try.ntmps64
  go_wp2_with (first | ((with_reducible refine box_newX 40 [.slice an nn cn, .slice ab nb cb, .slice av nv cv] rfl ?_); intro b0 W0 N0; have ob0 : W.heap.size ≤ b0 := N0.ge; have B := N0.below; have X0 := N0.bx; have c0 := X0.cell; clear N0) | fail)
  refine (heldForest_any an nn cn ab nb cb K f _ (hW.below B) hk1 hnb).mono ?_
  rintro e w1 ⟨rfl, BB⟩
  replace X0 := X0.below BB
  replace c0 := X0.cell
  replace B := below_next B BB
  clear BB
  go_wp2_with fail
  refine (heldVols_any av nv cv (endF f nn nb) _ (hV.below B) hnv HE.out.1 HE.out.2).mono ?_
  rintro e W9 ⟨rfl, rfl⟩
  go_wp2
  go_ret
  exact ⟨rfl, B⟩
set_option maxRecDepth 20000 in
set_option maxHeartbeats 2000000 in
theorem heldMachine_any {own : Bool} {lo hi : Nat} (h : MacH) (m : Mac) (w : World) (x : MacAt w own lo hi h (macMk h m)) (z : MacMS h m) :
    Calls Try.prog 35 #[.agg #[.slice h.N.1 h.N.2.1 h.N.2.2, .slice h.B.1 h.B.2.1 h.B.2.2, .slice h.V.1 h.V.2.1 h.V.2.2, .slice h.S.1 h.S.2.1 h.S.2.2], .int .i64 1] w fun e w' => e = .returned (.int .i64 (macEnd h m)) ∧ Below w.heap.size w w' := by
  have F : FoAt w own lo hi h.N.1 h.N.2.1 h.N.2.2 h.B.1 h.B.2.1 h.B.2.2 h.K (mkF m.1 h.N.2.1 h.B.2.1) := x.fo
  have V : RowAt w own lo hi 3 h.V.1 h.V.2.1 h.V.2.2 (trips (marks3 (endF m.1 h.N.2.1 h.B.2.1) h.V.2.1)) := x.vo
  have S : RowAt w own lo hi 4 h.S.1 h.S.2.1 h.S.2.2 (fours (marks4 (endF m.1 h.N.2.1 h.B.2.1 + 3 * (h.V.2.1 : Int)) h.S.2.1)) := x.se
  have E := endF_in z.k z.b
  have HE : Hid _ := E
  have HZ : Hid _ := z
  have zs := z.s
  clear x E z
  go_enter Try.func35, Try.ntmps35
  go_wp2_with (first | ((with_reducible refine box_newX 43 [.slice h.N.1 h.N.2.1 h.N.2.2, .slice h.B.1 h.B.2.1 h.B.2.2, .slice h.V.1 h.V.2.1 h.V.2.2, .slice h.S.1 h.S.2.1 h.S.2.2] rfl ?_); intro b0 W0 N0; have ob0 : w.heap.size ≤ b0 := N0.ge; have B := N0.below; have X0 := N0.bx; have c0 := X0.cell; clear N0) | fail)
  refine (heldPool_any h.N.1 h.N.2.1 h.N.2.2 h.B.1 h.B.2.1 h.B.2.2 h.V.1 h.V.2.1 h.V.2.2 h.K m.1 _ (F.below B) (V.below B) HZ.out.k HZ.out.b HZ.out.v).mono ?_
  rintro e w1 ⟨rfl, BB⟩
  replace X0 := X0.below BB
  replace c0 := X0.cell
  replace B := below_next B BB
  clear BB
  obtain ⟨q, hq⟩ : ∃ q, endF m.1 h.N.2.1 h.B.2.1 + 3 * (h.V.2.1 : Int) = q := ⟨_, rfl⟩
  have HQ : Hid _ := hq
  have hq0 : 0 ≤ q ∧ q ≤ 1000000000000000 := by have := HE.out; have := HZ.out.v; omega
  have hqn : ¬ q < 0 := by omega
  have hqn2 : ¬ (q + 4 * (h.S.2.1 : Int) < 0) := by omega
  rw [hq] at S ⊢
  clear hq
  go_wp2_with fail
  refine (heldSessions_any h.S.1 h.S.2.1 h.S.2.2 q _ (S.below B) zs hq0.1 hq0.2).mono ?_
  rintro e W9 ⟨rfl, rfl⟩
  go_wp2
  go_ret
  have hq := HQ.out
  subst hq
  exact ⟨rfl, B⟩
set_option maxRecDepth 20000 in
set_option maxHeartbeats 2000000 in
theorem markMcRes_any {lo hi : Nat} (cd rp vl : Int) (fr : Bool) (h : MacH) (m : Mac) (w : World) (x : MacS w lo hi h m) (z : MacMS h m) :
    Calls Try.prog 15 #[.agg #[.int .i64 cd, .int .i64 rp, .int .i64 vl, .bool fr, .slice h.N.1 h.N.2.1 h.N.2.2, .slice h.B.1 h.B.2.1 h.B.2.2, .slice h.V.1 h.V.2.1 h.V.2.2, .slice h.S.1 h.S.2.1 h.S.2.2], .int .i64 1] w fun e w' => e = .returned (.int .i64 (macEnd h m)) ∧ MacS w' lo hi h (macMk h m) ∧ Kept lo hi w w' := by
  go_enter Try.func15, Try.ntmps15
  go_wp2_with (first | ((with_reducible refine box_newX 48 [.int .i64 cd, .int .i64 rp, .int .i64 vl, .bool fr, .slice h.N.1 h.N.2.1 h.N.2.2, .slice h.B.1 h.B.2.1 h.B.2.2, .slice h.V.1 h.V.2.1 h.V.2.2, .slice h.S.1 h.S.2.1 h.S.2.2] rfl ?_); intro b0 W0 N0; have ob0 : w.heap.size ≤ b0 := N0.ge; have B := N0.below; have X0 := N0.bx; have c0 := X0.cell; clear N0) | fail)
  refine (markMachine_any h m _ (x.below B) z).mono ?_
  rintro e w1 ⟨rfl, Y, K1⟩
  have K2 : Kept lo hi w w1 := (Kept.of_below B).trans K1
  clear K1 B
  go_wp2
  go_ret
  exact ⟨rfl, Y, K2⟩
set_option maxRecDepth 20000 in
set_option maxHeartbeats 2000000 in
theorem heldMcRes_any {lo hi : Nat} (cd rp vl : Int) (fr : Bool) (h : MacH) (m : Mac) (w : World) {own : Bool} (x : MacAt w own lo hi h (macMk h m)) (z : MacMS h m) :
    Calls Try.prog 16 #[.agg #[.int .i64 cd, .int .i64 rp, .int .i64 vl, .bool fr, .slice h.N.1 h.N.2.1 h.N.2.2, .slice h.B.1 h.B.2.1 h.B.2.2, .slice h.V.1 h.V.2.1 h.V.2.2, .slice h.S.1 h.S.2.1 h.S.2.2], .int .i64 1] w fun e w' => e = .returned (.int .i64 (macEnd h m)) ∧ Below w.heap.size w w' := by
  have hpos : ¬ macEnd h m < 0 := by have := macEnd_in z; omega
  go_enter Try.func16, Try.ntmps16
  go_wp2_with (first | ((with_reducible refine box_newX 48 [.int .i64 cd, .int .i64 rp, .int .i64 vl, .bool fr, .slice h.N.1 h.N.2.1 h.N.2.2, .slice h.B.1 h.B.2.1 h.B.2.2, .slice h.V.1 h.V.2.1 h.V.2.2, .slice h.S.1 h.S.2.1 h.S.2.2] rfl ?_); intro b0 W0 N0; have ob0 : w.heap.size ≤ b0 := N0.ge; have B := N0.below; have X0 := N0.bx; have c0 := X0.cell; clear N0) | fail)
  refine (heldMachine_any h m _ (x.below B) z).mono ?_
  rintro e w1 ⟨rfl, BB⟩
  replace X0 := X0.below BB
  replace c0 := X0.cell
  replace B := below_next B BB
  clear BB
  go_wp2
  go_ret
  exact ⟨rfl, B⟩
set_option maxRecDepth 20000 in
set_option maxHeartbeats 2000000 in
theorem eqMcRes_yes {o1 o2 : Bool} {l1 u1 l2 u2 : Nat} (cd rp vl : Int) (fr : Bool) (h h' : MacH) (m : Mac) (w : World) (x : MacAt w o1 l1 u1 h m) (y : MacAt w o2 l2 u2 h' m) (hs : MacSz h m.1 2097152) :
    Calls Try.prog 14 #[.agg #[.int .i64 cd, .int .i64 rp, .int .i64 vl, .bool fr, .slice h.N.1 h.N.2.1 h.N.2.2, .slice h.B.1 h.B.2.1 h.B.2.2, .slice h.V.1 h.V.2.1 h.V.2.2, .slice h.S.1 h.S.2.1 h.S.2.2], .agg #[.int .i64 cd, .int .i64 rp, .int .i64 vl, .bool fr, .slice h'.N.1 h'.N.2.1 h'.N.2.2, .slice h'.B.1 h'.B.2.1 h'.B.2.2, .slice h'.V.1 h'.V.2.1 h'.V.2.2, .slice h'.S.1 h'.S.2.1 h'.S.2.2]] w fun e w' => e = .returned (.bool true) ∧ Below w.heap.size w w' := by
  have e1 : (cd != cd) = false := by simp
  have e2 : (rp != rp) = false := by simp
  have e3 : (vl != vl) = false := by simp
  have e4 : (fr != fr) = false := by simp
  go_enter Try.func14, Try.ntmps14
  go_wp2_with (first | ((have g := ob0); clear g; (with_reducible refine box_newX 48 [.int .i64 cd, .int .i64 rp, .int .i64 vl, .bool fr, .slice h'.N.1 h'.N.2.1 h'.N.2.2, .slice h'.B.1 h'.B.2.1 h'.B.2.2, .slice h'.V.1 h'.V.2.1 h'.V.2.2, .slice h'.S.1 h'.S.2.1 h'.S.2.2] rfl ?_); intro b1 W1 N1; have ob1 : w.heap.size ≤ b1 := Nat.le_trans B.size N1.ge; have o0_b1 : b0 < b1 := Nat.lt_of_lt_of_le X0.lt N1.ge; replace X0 := X0.below N1.below; replace c0 := X0.cell; replace B := below_next B N1.below; have X1 := N1.bx; have c1 := X1.cell; clear N1) | ((with_reducible refine box_newX 48 [.int .i64 cd, .int .i64 rp, .int .i64 vl, .bool fr, .slice h.N.1 h.N.2.1 h.N.2.2, .slice h.B.1 h.B.2.1 h.B.2.2, .slice h.V.1 h.V.2.1 h.V.2.2, .slice h.S.1 h.S.2.1 h.S.2.2] rfl ?_); intro b0 W0 N0; have ob0 : w.heap.size ≤ b0 := N0.ge; have B := N0.below; have X0 := N0.bx; have c0 := X0.cell; clear N0) | fail)
  refine (eqMachine_yes h h' m _ (x.below B) (y.below B) hs).mono ?_
  rintro e w1 ⟨rfl, BB⟩
  replace X0 := X0.below BB
  replace c0 := X0.cell
  replace X1 := X1.below BB
  replace c1 := X1.cell
  replace B := below_next B BB
  clear BB
  go_wp2
  go_ret
  exact ⟨rfl, B⟩

end Go.Proofs.Ytedgppggaceopaa

/- Chapter 12: NewMachine of both. -/
namespace Go.Proofs.Ytedgppggaceopaa
open Go.RowKit

/-- what NewMachine answers -/
def McRes0 (w w' : World) (e : Ending) (cd : Int) (f : Fo) : Prop := ∃ (h : MacH), e = .returned (.agg #[.int .i64 cd, .int .i64 0, .int .i64 0, .bool false, .slice h.N.1 h.N.2.1 h.N.2.2, .slice h.B.1 h.B.2.1 h.B.2.2, .slice h.V.1 h.V.2.1 h.V.2.2, .slice h.S.1 h.S.2.1 h.S.2.2]) ∧ MacS w' w.heap.size w'.heap.size h (f, [], []) ∧ Below w.heap.size w w'
def McResM (w w' : World) (e : Ending) (cd : Int) (f : Fo) : Prop := ∃ (h : MacH), e = .returned (.agg #[.int .i64 cd, .int .i64 0, .int .i64 0, .bool false, .slice h.N.1 h.N.2.1 h.N.2.2, .slice h.B.1 h.B.2.1 h.B.2.2, .slice h.V.1 h.V.2.1 h.V.2.2, .slice h.S.1 h.S.2.1 h.S.2.2]) ∧ MacAt w' false w.heap.size w'.heap.size h (f, [], []) ∧ Below w.heap.size w w'
set_option maxRecDepth 20000 in
set_option maxHeartbeats 2000000 in
theorem l12Bad_is (cd : Int) (w : World) : Calls Try.prog 32 #[.int .i64 cd] w fun e w' => e = .returned (.agg #[.int .i64 cd, .int .i64 0, .int .i64 0, .bool false, .slice none 0 0, .slice none 0 0, .slice none 0 0, .slice none 0 0]) ∧ Below w.heap.size w w' := by
  go_enter Try.func32, Try.ntmps32
  go_wp2_with (first | ((with_reducible refine store_midX 48 X0 0 [.int .i64 cd, .int .i64 0, .int .i64 0, .bool false, .slice none 0 0, .slice none 0 0, .slice none 0 0, .slice none 0 0] (by simp) (by kernel_rfl) (by simp [Value.oneCell']) rfl rfl ?_); intro V1 S; replace X0 : Bx V1 b0 [.int .i64 cd, .int .i64 0, .int .i64 0, .bool false, .slice none 0 0, .slice none 0 0, .slice none 0 0, .slice none 0 0] := S.bx; replace c0 := X0.cell; replace f0 := X0.froz; replace B := B.trans (S.kept.below _ (by omega) B.size); clear S) | ((with_reducible refine alloc_newX 48 [.int .i64 0, .int .i64 0, .int .i64 0, .bool false, .slice none 0 0, .slice none 0 0, .slice none 0 0, .slice none 0 0] (fun _ => by kernel_rfl) ?_); intro b0 W0 N0; have ob0 : w.heap.size ≤ b0 := N0.ge; have B := N0.below; have X0 := N0.bx; have c0 := X0.cell; have f0 := X0.froz; clear N0))
  refine bodyPost_ret (v := .agg #[.int .i64 cd, .int .i64 0, .int .i64 0, .bool false, .slice none 0 0, .slice none 0 0, .slice none 0 0, .slice none 0 0]) (by simp [results, Try.results32, go_sem, *]) rfl ⟨rfl, B⟩
set_option maxRecDepth 20000 in
set_option maxHeartbeats 4000000 in
theorem specNewM_is (x : Int) (w : World) (cd : Int) (f : Fo) (hc : newBCode x = cd) (hf : newFoList x = f) : Calls Try.prog 12 #[.int .i64 x] w fun e w' => McResM w w' e cd f := by
  have HC : Hid _ := hc
  have HF : Hid _ := hf
  clear hc hf
  go_enter Try.func12, Try.ntmps12
  go_wp2_with (first | ((with_reducible refine alloc_newX 48 [.int .i64 0, .int .i64 0, .int .i64 0, .bool false, .slice none 0 0, .slice none 0 0, .slice none 0 0, .slice none 0 0] (fun _ => by kernel_rfl) ?_); intro b0 W0 N0; have ob0 : w.heap.size ≤ b0 := N0.ge; have B := N0.below; have X0 := N0.bx; have c0 := X0.cell; have f0 := X0.froz; clear N0) | fail)
  refine (specNewP_is x _ cd f HC.out HF.out).mono ?_
  rintro e w1 ⟨an, nn, cn, ab, nb, cb, zp, up, K, rfl, P, Gzp, hP, BB⟩
  have ozp : w.heap.size ≤ zp := Nat.le_trans B.size Gzp
  have o0_zp : b0 < zp := Nat.lt_of_lt_of_le X0.lt Gzp
  clear Gzp
  replace X0 := X0.below BB
  replace c0 := X0.cell
  replace f0 := X0.froz
  replace B := below_next B BB
  clear BB
  by_cases hc0 : cd = 0
  · subst hc0
    clear HC HF
    go_wp2_with (first | ((with_reducible refine store_midX 48 X0 0 [.int .i64 0, .int .i64 0, .int .i64 0, .bool false, .slice an nn cn, .slice ab nb cb, .slice none 0 0, .slice none 0 0] (by simp) (by kernel_rfl) (by simp [Value.oneCell']) rfl rfl ?_); intro V2 S; replace X0 : Bx V2 b0 [.int .i64 0, .int .i64 0, .int .i64 0, .bool false, .slice an nn cn, .slice ab nb cb, .slice none 0 0, .slice none 0 0] := S.bx; replace c0 := X0.cell; replace f0 := X0.froz; replace X1 := X1.kept S.kept (by omega); replace c1 := X1.cell; replace f1 := X1.froz; replace P := P.kept S.kept (by omega); replace hP := Nat.le_trans hP S.kept.size; replace B := B.trans (S.kept.below _ (by omega) B.size); clear S) | ((with_reducible refine store_midX 72 X1 0 [.int .i64 0, .int .i64 0, .int .i64 0, .slice an nn cn, .slice ab nb cb, .slice none 0 0] (by simp) (by kernel_rfl) (by simp [Value.oneCell']) rfl rfl ?_); intro V1 S; replace X0 := X0.kept S.kept (by omega); replace c0 := X0.cell; replace f0 := X0.froz; replace X1 : Bx V1 b1 [.int .i64 0, .int .i64 0, .int .i64 0, .slice an nn cn, .slice ab nb cb, .slice none 0 0] := S.bx; replace c1 := X1.cell; replace f1 := X1.froz; replace P := P.kept S.kept (by omega); replace hP := Nat.le_trans hP S.kept.size; replace B := B.trans (S.kept.below _ (by omega) B.size); clear S) | ((have g := ob0); clear g; (with_reducible refine alloc_newX 72 [.int .i64 0, .int .i64 0, .int .i64 0, .slice none 0 0, .slice none 0 0, .slice none 0 0] (fun _ => by kernel_rfl) ?_); intro b1 W1 N1; have ob1 : w.heap.size ≤ b1 := Nat.le_trans B.size N1.ge; have o0_b1 : b0 < b1 := Nat.lt_of_lt_of_le X0.lt N1.ge; have oP_b1 : up ≤ b1 := Nat.le_trans hP N1.ge; replace X0 := X0.below N1.below; replace c0 := X0.cell; replace f0 := X0.froz; replace P := P.below N1.below; replace hP := Nat.le_trans hP N1.below.size; replace B := below_next B N1.below; have X1 := N1.bx; have c1 := X1.cell; have f1 := X1.froz; clear N1))
    refine bodyPost_ret (v := .agg #[.int .i64 0, .int .i64 0, .int .i64 0, .bool false, .slice an nn cn, .slice ab nb cb, .slice none 0 0, .slice none 0 0]) (by simp [results, Try.results12, go_sem, *]) rfl ?_
    have hs0 : w.heap.size ≤ zp := by omega
    exact ⟨⟨(an, nn, cn), (ab, nb, cb), (none, 0, 0), (none, 0, 0), K⟩, rfl, ⟨P.widen (by omega) hP, RowAt.nil _ _ _ _ _, RowAt.nil _ _ _ _ _⟩, B⟩
  · have hne : (cd != 0) = true := by simp [hc0]
    have hg : f = ([], []) := by
      rw [← HF.out]
      unfold newFoList newBList
      rw [if_neg (by rw [HC.out]; exact hc0)]
    subst hg
    clear HC HF
    go_wp2_with (first | ((with_reducible refine store_midX 72 X1 0 [.int .i64 cd, .int .i64 0, .int .i64 0, .slice an nn cn, .slice ab nb cb, .slice none 0 0] (by simp) (by kernel_rfl) (by simp [Value.oneCell']) rfl rfl ?_); intro V1 S; replace X0 := X0.kept S.kept (by omega); replace c0 := X0.cell; replace f0 := X0.froz; replace X1 : Bx V1 b1 [.int .i64 cd, .int .i64 0, .int .i64 0, .slice an nn cn, .slice ab nb cb, .slice none 0 0] := S.bx; replace c1 := X1.cell; replace f1 := X1.froz; replace P := P.kept S.kept (by omega); replace hP := Nat.le_trans hP S.kept.size; replace B := B.trans (S.kept.below _ (by omega) B.size); clear S) | ((have g := ob0); clear g; (with_reducible refine alloc_newX 72 [.int .i64 0, .int .i64 0, .int .i64 0, .slice none 0 0, .slice none 0 0, .slice none 0 0] (fun _ => by kernel_rfl) ?_); intro b1 W1 N1; have ob1 : w.heap.size ≤ b1 := Nat.le_trans B.size N1.ge; have o0_b1 : b0 < b1 := Nat.lt_of_lt_of_le X0.lt N1.ge; have oP_b1 : up ≤ b1 := Nat.le_trans hP N1.ge; replace X0 := X0.below N1.below; replace c0 := X0.cell; replace f0 := X0.froz; replace P := P.below N1.below; replace hP := Nat.le_trans hP N1.below.size; replace B := below_next B N1.below; have X1 := N1.bx; have c1 := X1.cell; have f1 := X1.froz; clear N1) | fail)
    refine (l12Bad_is cd _).mono ?_
    rintro e w2 ⟨rfl, BB⟩
    replace X0 := X0.below BB
    replace c0 := X0.cell
    replace f0 := X0.froz
    replace X1 := X1.below BB
    replace c1 := X1.cell
    replace f1 := X1.froz
    replace P := P.below BB
    replace hP := Nat.le_trans hP BB.size
    replace B := below_next B BB
    clear BB
    go_wp2_with (first | ((with_reducible refine store_midX 48 X0 0 [.int .i64 cd, .int .i64 0, .int .i64 0, .bool false, .slice none 0 0, .slice none 0 0, .slice none 0 0, .slice none 0 0] (by simp) (by kernel_rfl) (by simp [Value.oneCell']) rfl rfl ?_); intro V2 S; replace X0 : Bx V2 b0 [.int .i64 cd, .int .i64 0, .int .i64 0, .bool false, .slice none 0 0, .slice none 0 0, .slice none 0 0, .slice none 0 0] := S.bx; replace c0 := X0.cell; replace f0 := X0.froz; replace X1 := X1.kept S.kept (by omega); replace c1 := X1.cell; replace f1 := X1.froz; replace P := P.kept S.kept (by omega); replace hP := Nat.le_trans hP S.kept.size; replace B := B.trans (S.kept.below _ (by omega) B.size); clear S))
    refine bodyPost_ret (v := .agg #[.int .i64 cd, .int .i64 0, .int .i64 0, .bool false, .slice none 0 0, .slice none 0 0, .slice none 0 0, .slice none 0 0]) (by simp [results, Try.results12, go_sem, *]) rfl ?_
    exact ⟨⟨(none, 0, 0), (none, 0, 0), (none, 0, 0), (none, 0, 0), fun _ => (none, 0, 0)⟩, rfl, ⟨fo_nil _ _ _ _, RowAt.nil _ _ _ _ _, RowAt.nil _ _ _ _ _⟩, B⟩
set_option maxRecDepth 20000 in
set_option maxHeartbeats 4000000 in
theorem implNewM_is (x : Int) (w : World) (cd : Int) (f : Fo) (hc : newBCode x = cd) (hf : newFoList x = f) : Calls Try.prog 13 #[.int .i64 x] w fun e w' => McRes0 w w' e cd f := by
  have HC : Hid _ := hc
  have HF : Hid _ := hf
  clear hc hf
  go_enter Try.func13, Try.ntmps13
  go_wp2_with (first | ((with_reducible refine alloc_newX 48 [.int .i64 0, .int .i64 0, .int .i64 0, .bool false, .slice none 0 0, .slice none 0 0, .slice none 0 0, .slice none 0 0] (fun _ => by kernel_rfl) ?_); intro b0 W0 N0; have ob0 : w.heap.size ≤ b0 := N0.ge; have B := N0.below; have X0 := N0.bx; have c0 := X0.cell; have f0 := X0.froz; clear N0) | fail)
  refine (implNewP_is x _ cd f HC.out HF.out).mono ?_
  rintro e w1 ⟨an, nn, cn, ab, nb, cb, zp, up, K, rfl, P, Gzp, hP, BB⟩
  have ozp : w.heap.size ≤ zp := Nat.le_trans B.size Gzp
  have o0_zp : b0 < zp := Nat.lt_of_lt_of_le X0.lt Gzp
  clear Gzp
  replace X0 := X0.below BB
  replace c0 := X0.cell
  replace f0 := X0.froz
  replace B := below_next B BB
  clear BB
  by_cases hc0 : cd = 0
  · subst hc0
    clear HC HF
    go_wp2_with (first | ((with_reducible refine store_midX 48 X0 0 [.int .i64 0, .int .i64 0, .int .i64 0, .bool false, .slice an nn cn, .slice ab nb cb, .slice none 0 0, .slice none 0 0] (by simp) (by kernel_rfl) (by simp [Value.oneCell']) rfl rfl ?_); intro V2 S; replace X0 : Bx V2 b0 [.int .i64 0, .int .i64 0, .int .i64 0, .bool false, .slice an nn cn, .slice ab nb cb, .slice none 0 0, .slice none 0 0] := S.bx; replace c0 := X0.cell; replace f0 := X0.froz; replace X1 := X1.kept S.kept (by omega); replace c1 := X1.cell; replace f1 := X1.froz; replace P := P.kept S.kept (by omega); replace hP := Nat.le_trans hP S.kept.size; replace B := B.trans (S.kept.below _ (by omega) B.size); clear S) | ((with_reducible refine store_midX 72 X1 0 [.int .i64 0, .int .i64 0, .int .i64 0, .slice an nn cn, .slice ab nb cb, .slice none 0 0] (by simp) (by kernel_rfl) (by simp [Value.oneCell']) rfl rfl ?_); intro V1 S; replace X0 := X0.kept S.kept (by omega); replace c0 := X0.cell; replace f0 := X0.froz; replace X1 : Bx V1 b1 [.int .i64 0, .int .i64 0, .int .i64 0, .slice an nn cn, .slice ab nb cb, .slice none 0 0] := S.bx; replace c1 := X1.cell; replace f1 := X1.froz; replace P := P.kept S.kept (by omega); replace hP := Nat.le_trans hP S.kept.size; replace B := B.trans (S.kept.below _ (by omega) B.size); clear S) | ((have g := ob0); clear g; (with_reducible refine alloc_newX 72 [.int .i64 0, .int .i64 0, .int .i64 0, .slice none 0 0, .slice none 0 0, .slice none 0 0] (fun _ => by kernel_rfl) ?_); intro b1 W1 N1; have ob1 : w.heap.size ≤ b1 := Nat.le_trans B.size N1.ge; have o0_b1 : b0 < b1 := Nat.lt_of_lt_of_le X0.lt N1.ge; have oP_b1 : up ≤ b1 := Nat.le_trans hP N1.ge; replace X0 := X0.below N1.below; replace c0 := X0.cell; replace f0 := X0.froz; replace P := P.below N1.below; replace hP := Nat.le_trans hP N1.below.size; replace B := below_next B N1.below; have X1 := N1.bx; have c1 := X1.cell; have f1 := X1.froz; clear N1))
    refine bodyPost_ret (v := .agg #[.int .i64 0, .int .i64 0, .int .i64 0, .bool false, .slice an nn cn, .slice ab nb cb, .slice none 0 0, .slice none 0 0]) (by simp [results, Try.results13, go_sem, *]) rfl ?_
    have hs0 : w.heap.size ≤ zp := by omega
    exact ⟨⟨(an, nn, cn), (ab, nb, cb), (none, 0, 0), (none, 0, 0), K⟩, rfl, ⟨⟨zp, up, w.heap.size, w.heap.size, w.heap.size, _, w.heap.size, w.heap.size, P, RowAt.nil _ _ _ _ _, RowAt.nil _ _ _ _ _, Or.inr hs0, ⟨hs0, Nat.le_refl _, hP, B.size⟩, Or.inr (Nat.le_refl _), ⟨Nat.le_refl _, Nat.le_refl _, Nat.le_refl _, B.size⟩⟩, Nat.le_refl _⟩, B⟩
  · have hne : (cd != 0) = true := by simp [hc0]
    have hg : f = ([], []) := by
      rw [← HF.out]
      unfold newFoList newBList
      rw [if_neg (by rw [HC.out]; exact hc0)]
    subst hg
    clear HC HF
    go_wp2_with (first | ((with_reducible refine store_midX 48 X0 0 [.int .i64 cd, .int .i64 0, .int .i64 0, .bool false, .slice none 0 0, .slice none 0 0, .slice none 0 0, .slice none 0 0] (by simp) (by kernel_rfl) (by simp [Value.oneCell']) rfl rfl ?_); intro V2 S; replace X0 : Bx V2 b0 [.int .i64 cd, .int .i64 0, .int .i64 0, .bool false, .slice none 0 0, .slice none 0 0, .slice none 0 0, .slice none 0 0] := S.bx; replace c0 := X0.cell; replace f0 := X0.froz; replace X1 := X1.kept S.kept (by omega); replace c1 := X1.cell; replace f1 := X1.froz; replace P := P.kept S.kept (by omega); replace hP := Nat.le_trans hP S.kept.size; replace B := B.trans (S.kept.below _ (by omega) B.size); clear S) | ((with_reducible refine store_midX 72 X1 0 [.int .i64 cd, .int .i64 0, .int .i64 0, .slice an nn cn, .slice ab nb cb, .slice none 0 0] (by simp) (by kernel_rfl) (by simp [Value.oneCell']) rfl rfl ?_); intro V1 S; replace X0 := X0.kept S.kept (by omega); replace c0 := X0.cell; replace f0 := X0.froz; replace X1 : Bx V1 b1 [.int .i64 cd, .int .i64 0, .int .i64 0, .slice an nn cn, .slice ab nb cb, .slice none 0 0] := S.bx; replace c1 := X1.cell; replace f1 := X1.froz; replace P := P.kept S.kept (by omega); replace hP := Nat.le_trans hP S.kept.size; replace B := B.trans (S.kept.below _ (by omega) B.size); clear S) | ((have g := ob0); clear g; (with_reducible refine alloc_newX 72 [.int .i64 0, .int .i64 0, .int .i64 0, .slice none 0 0, .slice none 0 0, .slice none 0 0] (fun _ => by kernel_rfl) ?_); intro b1 W1 N1; have ob1 : w.heap.size ≤ b1 := Nat.le_trans B.size N1.ge; have o0_b1 : b0 < b1 := Nat.lt_of_lt_of_le X0.lt N1.ge; have oP_b1 : up ≤ b1 := Nat.le_trans hP N1.ge; replace X0 := X0.below N1.below; replace c0 := X0.cell; replace f0 := X0.froz; replace P := P.below N1.below; replace hP := Nat.le_trans hP N1.below.size; replace B := below_next B N1.below; have X1 := N1.bx; have c1 := X1.cell; have f1 := X1.froz; clear N1))
    refine bodyPost_ret (v := .agg #[.int .i64 cd, .int .i64 0, .int .i64 0, .bool false, .slice none 0 0, .slice none 0 0, .slice none 0 0, .slice none 0 0]) (by simp [results, Try.results13, go_sem, *]) rfl ?_
    have hb := B.size
    exact ⟨⟨(none, 0, 0), (none, 0, 0), (none, 0, 0), (none, 0, 0), fun _ => (none, 0, 0)⟩, rfl, ⟨⟨w.heap.size, w.heap.size, w.heap.size, w.heap.size, w.heap.size, w.heap.size, w.heap.size, w.heap.size, fo_nil _ _ _ _, RowAt.nil _ _ _ _ _, RowAt.nil _ _ _ _ _, Or.inl (Nat.le_refl _), by omega, Or.inl (Nat.le_refl _), by omega⟩, Nat.le_refl _⟩, B⟩

end Go.Proofs.Ytedgppggaceopaa

/- At every number the program's NewMachine answers as its model does, every field, and its answer owns its memory: the law FnExactNewMachine is true at every argument, with no condition. -/
namespace Go.Proofs.Ytedgppggaceopaa
open Go.RowKit

theorem McSz_of {w : World} {own : Bool} {lo hi : Nat} {h : MacH} {f : Fo} (x : MacAt w own lo hi h (f, [], [])) (hl : Lesser f) : MacSz h f 1048576 ∧ MacMS h (f, [], []) := by
  obtain ⟨a, b, c⟩ := hl
  have e1 : f.1.length = h.N.2.1 := x.fo.nodes.len
  have e2 : f.2.length = h.B.2.1 := x.fo.blocks.nPairs
  have e3 : ([] : List Vo).length = h.V.2.1 := x.vo.nTrips
  have e4 : ([] : List Se).length = h.S.2.1 := x.se.nFours
  simp only [List.length_nil] at e3 e4
  have e5 : kl f.1 h.N.2.1 ≤ 1048576 := by rw [← e1]; omega
  exact ⟨⟨by omega, by omega, by omega, by omega, e5⟩, ⟨by unfold kOf; simp only; omega, by omega, by omega, by omega⟩⟩
set_option maxRecDepth 20000 in
set_option maxHeartbeats 16000000 in
theorem lawNewMachine (x : Int) (w : World) : Calls Try.prog 4 #[.int .i64 x] w fun e w' => e = .returned (.bool true) ∧ Below w.heap.size w w' := by
  obtain ⟨cd, hcd⟩ : ∃ cd, newBCode x = cd := ⟨_, rfl⟩
  obtain ⟨f, hf⟩ : ∃ g, newFoList x = g := ⟨_, rfl⟩
  have HL : Hid (Lesser f) := by show Lesser f; rw [← hf]; exact newF_size x
  have HC : Hid _ := hcd
  have HF : Hid _ := hf
  clear hcd hf
  go_enter Try.func4, Try.ntmps4
  go_wp2_with fail
  refine (specNewM_is x _ cd f HC.out HF.out).mono ?_
  rintro e w1 ⟨h0, rfl, P, BB⟩
  have B := BB
  have P0 : Hid _ := P
  clear P
  clear BB
  obtain ⟨zP, hzP⟩ : ∃ z, z = w.heap.size := ⟨_, rfl⟩
  obtain ⟨uP, huP⟩ : ∃ z, z = w1.heap.size := ⟨_, rfl⟩
  have P := P0.out
  rw [← hzP, ← huP] at P
  have hP : uP ≤ w1.heap.size := Nat.le_of_eq huP
  have ZP : Hid _ := (McSz_of P HL.out).1
  clear P0 huP hzP
  go_wp2_with (first | ((with_reducible refine store_midX 48 X0 0 [.int .i64 cd, .int .i64 0, .int .i64 0, .bool false, .slice h0.N.1 h0.N.2.1 h0.N.2.2, .slice h0.B.1 h0.B.2.1 h0.B.2.2, .slice h0.V.1 h0.V.2.1 h0.V.2.2, .slice h0.S.1 h0.S.2.1 h0.S.2.2] (by simp) (by kernel_rfl) (by simp [Value.oneCell']) rfl rfl ?_); intro V1 S; replace X0 : Bx V1 b0 [.int .i64 cd, .int .i64 0, .int .i64 0, .bool false, .slice h0.N.1 h0.N.2.1 h0.N.2.2, .slice h0.B.1 h0.B.2.1 h0.B.2.2, .slice h0.V.1 h0.V.2.1 h0.V.2.2, .slice h0.S.1 h0.S.2.1 h0.S.2.2] := S.bx; replace c0 := X0.cell; replace f0 := X0.froz; replace P := P.kept S.kept (by omega); replace hP := Nat.le_trans hP S.kept.size; replace B := B.trans (S.kept.below _ (by omega) B.size); clear S) | ((with_reducible refine alloc_newX 48 [.int .i64 0, .int .i64 0, .int .i64 0, .bool false, .slice none 0 0, .slice none 0 0, .slice none 0 0, .slice none 0 0] (fun _ => by kernel_rfl) ?_); intro b0 W0 N0; have ob0 : w.heap.size ≤ b0 := Nat.le_trans B.size N0.ge; have oP_b0 : uP ≤ b0 := Nat.le_trans hP N0.ge; replace P := P.below N0.below; replace hP := Nat.le_trans hP N0.below.size; replace B := below_next B N0.below; have X0 := N0.bx; have c0 := X0.cell; have f0 := X0.froz; clear N0) | fail)
  refine (implNewM_is x _ cd f HC.out HF.out).mono ?_
  rintro e w2 ⟨h1, rfl, Y, BB⟩
  obtain ⟨zY, hzY⟩ : ∃ z, z = V1.heap.size := ⟨_, rfl⟩
  obtain ⟨uY, huY⟩ : ∃ z, z = w2.heap.size := ⟨_, rfl⟩
  rw [← hzY, ← huY] at Y
  have GzY : V1.heap.size ≤ zY := Nat.le_of_eq hzY.symm
  have hY : uY ≤ w2.heap.size := Nat.le_of_eq huY
  have HYu : Hid (zY ≤ uY) := by rw [hzY, huY]; exact BB.size
  have ozY : w.heap.size ≤ zY := Nat.le_trans B.size GzY
  have o0_zY : b0 < zY := Nat.lt_of_lt_of_le X0.lt GzY
  have oP_zY : uP ≤ zY := Nat.le_trans hP GzY
  replace X0 := X0.below BB
  replace c0 := X0.cell
  replace f0 := X0.froz
  replace P := P.below BB
  replace hP := Nat.le_trans hP BB.size
  replace B := below_next B BB
  clear BB GzY hzY huY
  have ZY : Hid _ := (McSz_of Y.at HL.out).1
  have MY : Hid _ := (McSz_of Y.at HL.out).2
  go_wp2_with (first | ((with_reducible refine store_midX 48 X1 0 [.int .i64 cd, .int .i64 0, .int .i64 0, .bool false, .slice h1.N.1 h1.N.2.1 h1.N.2.2, .slice h1.B.1 h1.B.2.1 h1.B.2.2, .slice h1.V.1 h1.V.2.1 h1.V.2.2, .slice h1.S.1 h1.S.2.1 h1.S.2.2] (by simp) (by kernel_rfl) (by simp [Value.oneCell']) rfl rfl ?_); intro V2 S; replace X0 := X0.kept S.kept (by omega); replace c0 := X0.cell; replace f0 := X0.froz; replace X1 : Bx V2 b1 [.int .i64 cd, .int .i64 0, .int .i64 0, .bool false, .slice h1.N.1 h1.N.2.1 h1.N.2.2, .slice h1.B.1 h1.B.2.1 h1.B.2.2, .slice h1.V.1 h1.V.2.1 h1.V.2.2, .slice h1.S.1 h1.S.2.1 h1.S.2.2] := S.bx; replace c1 := X1.cell; replace f1 := X1.froz; replace P := P.kept S.kept (by omega); replace hP := Nat.le_trans hP S.kept.size; replace Y := Y.kept S.kept (by omega); replace hY := Nat.le_trans hY S.kept.size; replace B := B.trans (S.kept.below _ (by omega) B.size); clear S) | ((have g := ob0); clear g; (with_reducible refine alloc_newX 48 [.int .i64 0, .int .i64 0, .int .i64 0, .bool false, .slice none 0 0, .slice none 0 0, .slice none 0 0, .slice none 0 0] (fun _ => by kernel_rfl) ?_); intro b1 W1 N1; have ob1 : w.heap.size ≤ b1 := Nat.le_trans B.size N1.ge; have o0_b1 : b0 < b1 := Nat.lt_of_lt_of_le X0.lt N1.ge; have oP_b1 : uP ≤ b1 := Nat.le_trans hP N1.ge; have oY_b1 : uY ≤ b1 := Nat.le_trans hY N1.ge; replace X0 := X0.below N1.below; replace c0 := X0.cell; replace f0 := X0.froz; replace P := P.below N1.below; replace hP := Nat.le_trans hP N1.below.size; replace Y := Y.below N1.below; replace hY := Nat.le_trans hY N1.below.size; replace B := below_next B N1.below; have X1 := N1.bx; have c1 := X1.cell; have f1 := X1.froz; clear N1) | fail)
  refine (eqMcRes_yes cd 0 0 false h1 h0 (f, [], []) _ Y.at P (ZY.out.mono (by omega))).mono ?_
  rintro e w3 ⟨rfl, BB⟩
  replace X0 := X0.below BB
  replace c0 := X0.cell
  replace f0 := X0.froz
  replace X1 := X1.below BB
  replace c1 := X1.cell
  replace f1 := X1.froz
  replace P := P.below BB
  replace hP := Nat.le_trans hP BB.size
  replace Y := Y.below BB
  replace hY := Nat.le_trans hY BB.size
  replace B := below_next B BB
  clear BB
  go_wp2_with fail
  refine (markMcRes_any cd 0 0 false h1 (f, [], []) _ Y MY.out).mono ?_
  rintro e w4 ⟨rfl, Y2, KK⟩
  replace X0 := X0.kept KK (by omega)
  replace c0 := X0.cell
  replace f0 := X0.froz
  replace X1 := X1.kept KK (by omega)
  replace c1 := X1.cell
  replace f1 := X1.froz
  replace P := P.kept KK (by omega)
  replace hP := Nat.le_trans hP KK.size
  replace hY := Nat.le_trans hY KK.size
  replace B := B.trans (KK.below _ (by omega) B.size)
  clear KK
  clear Y
  have Y := Y2
  clear Y2
  have EE : Hid (0 ≤ macEnd h1 (f, [], [])) := macEnd_in MY.out
  obtain ⟨en, hen⟩ : ∃ q, macEnd h1 (f, [], []) = q := ⟨_, rfl⟩
  have HEN : Hid _ := hen
  rw [hen]
  have hen1 : ¬ en < 0 := by have := EE.out; omega
  have hen2 : (en != en) = false := by simp
  clear hen
  go_wp2_with fail
  refine (heldMcRes_any cd 0 0 false h1 (f, [], []) _ Y.at MY.out).mono ?_
  rintro e w5 ⟨rfl, BB⟩
  rw [HEN.out]
  replace X0 := X0.below BB
  replace c0 := X0.cell
  replace f0 := X0.froz
  replace X1 := X1.below BB
  replace c1 := X1.cell
  replace f1 := X1.froz
  replace P := P.below BB
  replace hP := Nat.le_trans hP BB.size
  replace Y := Y.below BB
  replace hY := Nat.le_trans hY BB.size
  replace B := below_next B BB
  clear BB
  go_wp2_with fail
  refine (implNewM_is x _ cd f HC.out HF.out).mono ?_
  rintro e w6 ⟨h2, rfl, U, BB⟩
  obtain ⟨zU, hzU⟩ : ∃ z, z = w5.heap.size := ⟨_, rfl⟩
  obtain ⟨uU, huU⟩ : ∃ z, z = w6.heap.size := ⟨_, rfl⟩
  rw [← hzU, ← huU] at U
  have GzU : w5.heap.size ≤ zU := Nat.le_of_eq hzU.symm
  have hU : uU ≤ w6.heap.size := Nat.le_of_eq huU
  have ozU : w.heap.size ≤ zU := Nat.le_trans B.size GzU
  have o0_zU : b0 < zU := Nat.lt_of_lt_of_le X0.lt GzU
  have o1_zU : b1 < zU := Nat.lt_of_lt_of_le X1.lt GzU
  have oP_zU : uP ≤ zU := Nat.le_trans hP GzU
  have oY_zU : uY ≤ zU := Nat.le_trans hY GzU
  replace X0 := X0.below BB
  replace c0 := X0.cell
  replace f0 := X0.froz
  replace X1 := X1.below BB
  replace c1 := X1.cell
  replace f1 := X1.froz
  replace P := P.below BB
  replace hP := Nat.le_trans hP BB.size
  replace Y := Y.below BB
  replace hY := Nat.le_trans hY BB.size
  replace B := below_next B BB
  clear BB GzU hzU huU
  have ZU : Hid _ := (McSz_of U.at HL.out).1
  go_wp2_with (first | ((with_reducible refine store_midX 48 X2 0 [.int .i64 cd, .int .i64 0, .int .i64 0, .bool false, .slice h2.N.1 h2.N.2.1 h2.N.2.2, .slice h2.B.1 h2.B.2.1 h2.B.2.2, .slice h2.V.1 h2.V.2.1 h2.V.2.2, .slice h2.S.1 h2.S.2.1 h2.S.2.2] (by simp) (by kernel_rfl) (by simp [Value.oneCell']) rfl rfl ?_); intro V3 S; replace X0 := X0.kept S.kept (by omega); replace c0 := X0.cell; replace f0 := X0.froz; replace X1 := X1.kept S.kept (by omega); replace c1 := X1.cell; replace f1 := X1.froz; replace X2 : Bx V3 b2 [.int .i64 cd, .int .i64 0, .int .i64 0, .bool false, .slice h2.N.1 h2.N.2.1 h2.N.2.2, .slice h2.B.1 h2.B.2.1 h2.B.2.2, .slice h2.V.1 h2.V.2.1 h2.V.2.2, .slice h2.S.1 h2.S.2.1 h2.S.2.2] := S.bx; replace c2 := X2.cell; replace f2 := X2.froz; replace P := P.kept S.kept (by omega); replace hP := Nat.le_trans hP S.kept.size; replace Y := Y.kept S.kept (by omega); replace hY := Nat.le_trans hY S.kept.size; replace U := U.kept S.kept (by omega); replace hU := Nat.le_trans hU S.kept.size; replace B := B.trans (S.kept.below _ (by omega) B.size); clear S) | ((have g := ob1); clear g; (with_reducible refine alloc_newX 48 [.int .i64 0, .int .i64 0, .int .i64 0, .bool false, .slice none 0 0, .slice none 0 0, .slice none 0 0, .slice none 0 0] (fun _ => by kernel_rfl) ?_); intro b2 W2 N2; have ob2 : w.heap.size ≤ b2 := Nat.le_trans B.size N2.ge; have o0_b2 : b0 < b2 := Nat.lt_of_lt_of_le X0.lt N2.ge; have o1_b2 : b1 < b2 := Nat.lt_of_lt_of_le X1.lt N2.ge; have oP_b2 : uP ≤ b2 := Nat.le_trans hP N2.ge; have oY_b2 : uY ≤ b2 := Nat.le_trans hY N2.ge; have oU_b2 : uU ≤ b2 := Nat.le_trans hU N2.ge; replace X0 := X0.below N2.below; replace c0 := X0.cell; replace f0 := X0.froz; replace X1 := X1.below N2.below; replace c1 := X1.cell; replace f1 := X1.froz; replace P := P.below N2.below; replace hP := Nat.le_trans hP N2.below.size; replace Y := Y.below N2.below; replace hY := Nat.le_trans hY N2.below.size; replace U := U.below N2.below; replace hU := Nat.le_trans hU N2.below.size; replace B := below_next B N2.below; have X2 := N2.bx; have c2 := X2.cell; have f2 := X2.froz; clear N2) | fail)
  refine (eqMcRes_yes cd 0 0 false h2 h0 (f, [], []) _ U.at P (ZU.out.mono (by omega))).mono ?_
  rintro e w7 ⟨rfl, BB⟩
  replace X0 := X0.below BB
  replace c0 := X0.cell
  replace f0 := X0.froz
  replace X1 := X1.below BB
  replace c1 := X1.cell
  replace f1 := X1.froz
  replace X2 := X2.below BB
  replace c2 := X2.cell
  replace f2 := X2.froz
  replace P := P.below BB
  replace hP := Nat.le_trans hP BB.size
  replace Y := Y.below BB
  replace hY := Nat.le_trans hY BB.size
  replace U := U.below BB
  replace hU := Nat.le_trans hU BB.size
  replace B := below_next B BB
  clear BB
  go_wp2_with fail
  refine (heldMcRes_any cd 0 0 false h1 (f, [], []) _ Y.at MY.out).mono ?_
  rintro e w8 ⟨rfl, BB⟩
  rw [HEN.out]
  replace X0 := X0.below BB
  replace c0 := X0.cell
  replace f0 := X0.froz
  replace X1 := X1.below BB
  replace c1 := X1.cell
  replace f1 := X1.froz
  replace X2 := X2.below BB
  replace c2 := X2.cell
  replace f2 := X2.froz
  replace P := P.below BB
  replace hP := Nat.le_trans hP BB.size
  replace Y := Y.below BB
  replace hY := Nat.le_trans hY BB.size
  replace U := U.below BB
  replace hU := Nat.le_trans hU BB.size
  replace B := below_next B BB
  clear BB
  go_wp2
  go_ret
  exact ⟨rfl, B⟩

open Go.ChangeShapes Go.WideShapes Go.ChangeAt Go.Joins

set_option maxRecDepth 100000 in
theorem liftedNewMachine (os : Os) (started : os.Started) (H : Type) (enc : TypeId × Value → H) :
    ReturnsInHanded {} Try.checked os 4 .any (Rows.fnExactNewMachineSpec.pre6 enc Try.prog Try.f4 Rows.fnExactNewMachineRow.domain false) (Rows.fnExactNewMachineSpec.post enc Try.prog Try.f4 false true false false) := by
  refine returnsInHanded_of_change (C := Try.checked) Try.own started (by kernel_rfl) Try.func4
    (ChangeSpec.witness6 (enc := enc) (C := Try.checked) false ⟨#[], #[.int .i64 0], []⟩ 8 (by kernel_rfl) (by kernel_rfl) (by kernel_rfl) (by kernel_rfl)) ?_
  intro W base args ds gs before hval0 hW hcnd _
  have hval : ∀ (j : Nat) t v, Try.f4.params[j]? = some t → args[j]? = some v → Value.okWide Try.prog W .any base t v := hval0
  have hW' := hW
  obtain ⟨p, q, hA0, hV, rfl, hfz, hnd⟩ := hW
  have hA : DataW.TrodAll enc Try.prog W 0 (fun _ => true) true Try.f4.params.toList args.toList ds p := hA0
  rw [Try.params4] at hA hval
  obtain ⟨v0, vs0, d0, ds0, p0, q0, hargs, rfl, rfl, h0, r0⟩ := trodAll_cons hA
  obtain ⟨rfl, rfl, rfl⟩ := trodAll_nil r0
  obtain rfl : args = #[v0] := by cases args; simp_all
  obtain ⟨rfl, rfl⟩ := trodVars_none hV
  obtain ⟨x0, rfl, rfl, rfl, wx0⟩ := open_int Try.underlying2 (hval 0 2 v0 rfl rfl) h0
  clear hA0 hval0
  refine (lawNewMachine x0 W).mono fun e W' ⟨he, bel⟩ => ?_
  subst he
  exact ⟨_, rfl, _, _, _, [], _, [], hW', trodAll_mk1 (shut_bool Try.underlying4 _), (trodAll_cons_mk (shut_int Try.underlying2 wx0) trodAll_mk0), rfl, bel.frame _, fun h => by cases h⟩

set_option maxRecDepth 100000 in
set_option maxHeartbeats 0 in
theorem closedNewMachine : joinedFacts Try.prog 4 Try.f4 Rows.fnExactNewMachineSpec Rows.fnExactNewMachineRow = true := by
  have q1 : (Rows.fnExactNewMachineRow.inPlace == Try.prog.inPlace 4) = true := by rw [inPlace_at leads_is inp_is]; kernel_rfl
  have q2 : (Rows.fnExactNewMachineRow.unfollowed == Try.prog.unfollowed 4) = true := by rw [unfollowed_at leads_is unf_is]; kernel_rfl
  have q3 : (Rows.fnExactNewMachineRow.recurses == Try.prog.recurses 4) = true := (by rw [recurses_no leads_is (by rw [unfollowed_at leads_is unf_is]; kernel_rfl) ranks_ok (by kernel_rfl)]; rfl)
  have q4 : (Rows.fnExactNewMachineRow.named == Try.prog.varsNamed 4) = true := by rw [varsNamed_at leads_is var_ok ent_is]; kernel_rfl
  have q5 : (Try.prog.make == some Rows.fnExactNewMachineRow.make) = true := by rw [made_cut]; rfl
  have q6 : (Rows.fnExactNewMachineRow.lifted == Try.prog.liftsFinal) = true := by rw [lifts_no]; rfl
  have q7 : Try.prog.mayEnter = true := may_enter
  have q8 : laidOutB Try.prog = true := Try.laidOut
  unfold joinedFacts
  repeat' (with_reducible refine Bool.and_eq_true_iff.2 ⟨?_, ?_⟩)
  all_goals (first | with_reducible exact q1 | with_reducible exact q2 | with_reducible exact q3 | with_reducible exact q4 | with_reducible exact q5 | with_reducible exact q6 | with_reducible exact q7 | with_reducible exact q8 | (as_aux_lemma => kernel_rfl))

theorem newMachine_holds : Rows.FnExactNewMachineSaid :=
  OpenClaim.holds_of_wide 4 Try.f4 rfl rfl rfl rfl rfl rfl rfl ⟨rfl, rfl, rfl, rfl, rfl⟩ rfl rfl rfl rfl rfl (by as_aux_lemma => kernel_rfl) Try.func4 closedNewMachine
    (of_decide_eq_true (by as_aux_lemma => kernel_rfl)) (by unfold Func.isWrapper; first | (rw [if_pos (by decide +kernel)]; kernel_rfl) | (rw [if_neg (by decide +kernel)]; exact ⟨rfl, rfl⟩))
    (fun os started H enc _ => liftedNewMachine os started H enc)

#print axioms newMachine_holds

end Go.Proofs.Ytedgppggaceopaa

