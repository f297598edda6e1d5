/- From the reading of an argument to the rows that the walks ask: a slice of numbers, a slice of pairs. No program is named. -/
import Derived.Test.YtjefmhjlaibbkaaQABR
import Derived.ProofKit
import Derived.OpenShut
import Derived.Lib.SmallJoins
import Derived.Deep.SlicePairs
import Derived.Test.YtjefmhjlaibbkaaRows
set_option maxRecDepth 20000
set_option maxHeartbeats 16000000
namespace Go.Proofs.Ytjefmhjlaibbkaa
open Go.RowKit Go.ChangeShapes Go.WideShapes Go.Deep
theorem addr_add (b off i : Nat) : (⟨b, off, none⟩ : Addr).add i = ⟨b, off + i, none⟩ := by
 simp [Addr.add]
section
variable {H : Type} {enc : TypeId × Value → H} {P : Program} {w : World}
theorem read_ints {t e : TypeId} {fuel : Nat} {v : Value} {x : DataW H × List MemPlace} (ht : P.underlying t = some (.slice e)) (he : P.underlying e = some (.int .i64)) (hc : P.cellsOf e = 1)
  (h : DataW.trod enc P w 0 (fun _ => true) true fuel t [v] = some x) :
  ∃ ao n cap xs, v = .slice ao n cap ∧ n ≤ maxLen ∧ RowAt w false 0 w.heap.size 1 ao n cap (ints xs) := by
 rcases open_ints ht he hc h with ⟨hcs, _⟩ | ⟨a, len, cap, zs, hcs, _, hl, hm, hz, _, hcell, _⟩
 ·simp only [List.cons.injEq, and_true] at hcs
  exact ⟨none, 0, 0, [], hcs, Nat.zero_le _, rfl, Nat.le_refl _, fun h => absurd rfl h⟩
 ·simp only [List.cons.injEq, and_true] at hcs
  simp only [if_true] at hz
  refine ⟨some a, len, cap, zs.take len, hcs, Nat.le_trans hl hm, ?_, hl, fun hn => ?_⟩
  ·rw [ints_length]; simp; omega
  ·have h0 := hcell 0 (by omega)
   obtain ⟨b, off, spot⟩ := a
   have hspot : spot = none := by simpa [Addr.add] using World.cell?_spot h0
   subst hspot
   refine ⟨b, off, rfl, Nat.zero_le _, ?_, ?_, fun i hi => ?_, fun h => by cases h⟩
   ·exact World.block_lt_of_cell? w _ h0
   ·exact World.block_lt_of_cell? w _ h0
   ·rw [← addr_add, hcell i (by omega), ints_getD _ _ (by simp; omega)]
    simp [List.getD, show i < len by omega]
end
end Go.Proofs.Ytjefmhjlaibbkaa
namespace Go.Proofs.Ytjefmhjlaibbkaa
open Go.RowKit Go.ChangeShapes Go.WideShapes Go.Deep
section
variable {H : Type} {enc : TypeId × Value → H} {P : Program} {w : World}
end
theorem Try.own : ownKnob Try.prog.godebug = none := by kernel_rfl
theorem Try.laidOut : laidOutB Try.prog = true := by kernel_rfl
theorem Try.cellsInt : Try.prog.cellsOf 2 = 1 := by kernel_rfl
theorem Try.cellsBool : Try.prog.cellsOf 4 = 1 := by kernel_rfl
def clT (tab : List (List Nat)) : Nat → List Nat → List Nat → List Nat
 | 0, _, seen => seen.reverse
 | _, [], seen => seen.reverse
 | n + 1, f :: todo, seen => if seen.contains f then clT tab n todo seen else clT tab n (tab.getD f [] ++ todo) (f :: seen)
def fuelT (tab : List (List Nat)) : Nat := 1 + (tab.map fun l => l.length + 1).sum
section
variable {P : Program} {tab : List (List Nat)} (h : P.funcs.toList.map P.leadsTo = tab)
include h
theorem lead_is (f : Nat) : (P.funcs[f]?).elim [] P.leadsTo = tab.getD f [] := by
 rw [← h, List.getD_eq_getElem?_getD, List.getElem?_map, Array.getElem?_toList]
 cases P.funcs[f]? <;> rfl
theorem clT_is : ∀ (n : Nat) (todo seen : List Nat), P.closureVia n todo seen = clT tab n todo seen
 | 0, _, _ => rfl
 | n + 1, [], _ => rfl
 | n + 1, f :: todo, seen => by
  unfold Program.closureVia clT
  rw [lead_is h]
  by_cases hs : seen.contains f = true
  ·rw [if_pos hs, if_pos hs]; exact clT_is n _ _
  ·rw [if_neg hs, if_neg hs]; exact clT_is n _ _
theorem closure_is (f : Nat) : P.closure f = clT tab (fuelT tab) [f] [] := by
 unfold Program.closure fuelT
 rw [clT_is h, ← h, List.map_map]
 rfl
end
theorem getD_map {α β : Type} (a : Array α) (g : α → β) (d : β) (i : Nat) : (a.toList.map g).getD i d = (a[i]?).elim d g := by
 rw [List.getD_eq_getElem?_getD, List.getElem?_map, Array.getElem?_toList]
 cases a[i]? <;> rfl
section
variable {P : Program} {tab : List (List Nat)} (h : P.funcs.toList.map P.leadsTo = tab)
include h
theorem unfollowed_at {us : List Bool} (hu : P.funcs.toList.map (fun fn => fn.body.elim (entryCalls fn) Code.unfollowed) = us) (f : Nat) : P.unfollowed f = (clT tab (fuelT tab) [f] []).any fun g => us.getD g false := by
 unfold Program.unfollowed
 rw [closure_is h]
 congr 1
 funext g
 rw [← hu, getD_map]
 cases P.funcs[g]? with
 | none => rfl
 | some fn =>
  rw [Option.any_some]
  show _ = fn.body.elim (entryCalls fn) Code.unfollowed
  cases fn.body <;> rfl
theorem inPlace_at {ip : List (Option String)} (hi : P.funcs.toList.map (fun fn => if fn.ours || fn.body.isNone || fn.name == "runtime.NumGoroutine" then some fn.name else none) = ip) (f : Nat) : P.inPlace f = (clT tab (fuelT tab) [f] []).filterMap fun g => ip.getD g none := by
 unfold Program.inPlace
 rw [closure_is h]
 congr 1
 funext g
 rw [← hi, getD_map]
 cases P.funcs[g]? <;> rfl
theorem varsNamed_at {er : List (Option String)} (hv : (P.funcs.toList.all fun fn => (fn.body.elim [] Code.globalsNamed).isEmpty) = true) (he : P.funcs.toList.map (fun fn => if fn.body.isNone then entryReads.lookup fn.name else none) = er) (f : Nat) : P.varsNamed f = ((clT tab (fuelT tab) [f] []).filterMap fun g => er.getD g none).eraseDups := by
 have key : ∀ g fn, P.funcs[g]? = some fn → fn ∈ P.funcs.toList := fun g fn hg => by
  obtain ⟨hlt, e⟩ := Array.getElem?_eq_some_iff.1 hg
  rw [← e]; exact Array.getElem_mem_toList _
 have e1 : ((P.closure f).flatMap fun g => ((P.funcs[g]?).bind (·.body)).elim [] Code.globalsNamed) = [] := by
  rw [List.flatMap_eq_nil_iff]
  intro g _
  cases hg : P.funcs[g]? with
  | none => rfl
  | some fn =>
   have := List.all_eq_true.1 hv fn (key g fn hg)
   simpa using this
 have e2 : ((P.closure f).filterMap fun g => (P.funcs[g]?).bind fun fn => if fn.body.isNone then entryReads.lookup fn.name else none) = (clT tab (fuelT tab) [f] []).filterMap fun g => er.getD g none := by
  rw [closure_is h]
  congr 1
  funext g
  rw [← he, getD_map]
  cases P.funcs[g]? <;> rfl
 unfold Program.varsNamed
 rw [e1, e2]
 rfl
theorem recurses_unf {f : Nat} (hu : P.unfollowed f = true) : P.recurses f = true := by
 have _ := h
 unfold Program.recurses
 rw [hu, Bool.true_or]
end
theorem ws_app (pre rest : List Char) (h : (pre.all fun c => c != Char.ofNat 32) = true) : wordsSigns (pre ++ Char.ofNat 32 :: rest) = pre :: wordsSigns rest := by
 induction pre with
 | nil => rfl
 | cons c r ih =>
  rw [List.all_cons, Bool.and_eq_true] at h
  have hc : c = Char.ofNat 32 → False := fun e => by rw [e] at h; exact absurd h.1 (by decide)
  rw [List.cons_append, wordsSigns.eq_3 _ _ hc, ih h.2]
theorem signs_of {s : String} {l : List Char} (h : s = String.ofList l) : s.toList = l := by rw [h, String.toList_ofList]
section
variable {P : Program} {c : List Char} {X : List (List Char)} (h : behindMainWord (wordsSigns P.initOrder.toList) = c :: X) (hg : (c == "gc".toList) = false) (hs : (c == "spec".toList) = false) (hc : (c == "cut".toList) = true) (hr : (c == "carried".toList) = false) (hl : stripLifts liftWords (c :: X) = ([], c :: X))
include h hg hs hc hr hl
theorem make_of : P.make = some .cut := by
 have _ := hr; have _ := hl
 unfold Program.make
 rw [h]
 simp only [hg, hs, hc, Bool.or_false, Bool.true_or, Bool.false_eq_true, if_false, if_true]
theorem lifts_of (hn : (some c == some "carried".toList) = false) : P.liftsFinal = false := by
 have _ := hg; have _ := hs; have _ := hc; have _ := hr
 unfold Program.liftsFinal Program.headLifts
 simp only [h, hl, List.head?_cons, hn, Bool.false_and, Bool.false_or]
 split <;> rfl
theorem enter_of (h1 : P.laysLater = false) (h2 : P.bearsReflect = false) (h3 : P.doorFits [] = true) (hn : (some c == some "cut".toList) = true) : P.mayEnter = true := by
 have _ := hc
 unfold Program.mayEnter
 rw [h]
 simp only [hl, List.head?_cons, hg, hs, hr, h1, h2, h3, hn, List.contains_nil, Bool.or_false, Bool.false_and, Bool.and_true, Bool.not_false, Bool.or_true]
end
def leadsT : List (List Nat) := [[], [], [1], [5, 6, 7, 8, 9, 10, 11, 12, 11, 10], [13, 15, 14, 15, 16, 17, 15, 18], [], [19], [20, 21, 22, 23], [20, 21, 24], [20, 21, 25], [26, 27, 28], [26, 29], [26, 30], [31, 32, 33], [34, 35], [36, 37, 38], [39, 40], [], [41, 42, 43], [44, 45, 45, 46, 47], [48, 49, 50, 51, 52, 53, 54, 55], [56], [57], [24, 58, 59], [], [57, 61, 60], [62, 62, 63, 62, 64, 62, 65, 62, 66], [], [67], [], [27, 68], [69], [70], [], [26, 71, 72, 64], [], [73], [74], [75], [48, 76, 77, 78], [], [79], [80], [81], [], [82, 83, 84, 84, 84, 84], [83], [], [], [51], [51], [], [78, 51], [85], [51], [86], [61, 87, 88, 89], [], [], [90], [91], [], [], [62], [92], [27], [63, 64, 62], [], [], [33, 93, 94, 95], [33], [62], [62, 96, 64, 62, 92, 97], [38, 98, 99, 100], [75, 38], [101], [20], [102, 103], [104, 105], [43, 106, 107, 108], [81, 43], [109], [84, 83, 83, 46, 110, 83, 83, 46, 27, 83, 46, 46, 83, 110, 83], [], [83], [57], [50, 52], [], [], [111, 61], [113, 114, 112], [], [62, 62, 115], [], [], [116], [62, 63, 62, 62, 62], [], [], [], [117], [], [], [118, 49, 50, 119, 120, 105, 121], [], [122, 123, 124], [], [], [125], [], [83, 126], [], [], [127, 127], [128, 128], [62, 129, 130, 62, 131, 129], [33], [38], [], [51, 51], [52, 51], [], [], [], [132, 133, 134], [43], [83, 83, 135], [], [], [62], [62], [62], [], [], [], [83, 83, 83, 83, 83, 83, 46, 83, 83], [], [], [], [], [], [], [], [], [], [], [], [], [], [], [], [], [], []]
theorem leads_is : Try.prog.funcs.toList.map Try.prog.leadsTo = leadsT := by kernel_rfl
def unfT : List Bool := [false, false, false, false, false, false, false, false, false, false, false, false, false, false, false, false, false, false, false, false, false, false, false, false, false, false, false, false, false, false, false, false, false, false, false, false, false, false, false, false, false, false, false, false, false, false, false, false, false, false, false, false, false, false, false, false, false, false, false, false, false, false, false, false, false, false, false, false, false, false, false, false, false, false, false, false, false, false, false, false, false, false, false, false, false, false, false, false, false, false, false, false, false, false, false, false, false, false, false, false, false, false, false, false, true, false, false, false, false, false, false, false, false, false, false, false, false, false, false, false, false, false, false, false, false, false, false, false, false, false, false, false, false, false, false, false, false, false, false, false, false, false, false, false, false, false, false, false, false, false, false, false, false, false]
theorem unf_is : Try.prog.funcs.toList.map (fun fn => fn.body.elim (entryCalls fn) Code.unfollowed) = unfT := by kernel_rfl
def inpT : List (Option String) := [some "main.main", some "gosem.cut", none, none, none, none, none, none, none, none, none, none, none, none, none, none, none, none, none, none, none, none, none, none, none, none, none, none, none, none, none, none, none, none, none, none, none, none, none, none, none, none, none, none, none, none, none, none, none, none, none, none, none, none, none, none, none, none, none, none, none, none, none, none, none, none, none, none, none, none, none, none, none, none, none, none, none, none, none, none, none, none, none, none, none, none, none, none, none, none, none, none, none, none, none, none, none, none, none, none, none, none, none, none, none, none, none, none, none, none, none, none, none, none, none, none, none, none, none, none, none, none, none, none, none, none, none, none, none, none, none, none, none, none, none, none, some "(runtime.boundsError).Error", some "(runtime.boundsError).RuntimeError", some "(runtime.errorString).Error", some "(runtime.errorString).RuntimeError", some "(runtime.plainError).Error", some "(runtime.plainError).RuntimeError", some "(runtime.errorAddressString).Error", some "(runtime.errorAddressString).RuntimeError", some "(*runtime.TypeAssertionError).Error", some "(*runtime.TypeAssertionError).RuntimeError", some "(*runtime.PanicNilError).Error", some "(*runtime.PanicNilError).RuntimeError", some "(*internal/abi.Type).Align", some "(internal/runtime/maps.unhashableTypeError).Error", some "(internal/runtime/maps.unhashableTypeError).RuntimeError", some "(*loop.example/g00277/impl.liveNode).becomeNormal", some "(loop.example/g00277/impl.ordered[loop.example/g00277/impl.Entry]).begins", some "(internal/abi.Kind).String"]
theorem inp_is : Try.prog.funcs.toList.map (fun fn => if fn.ours || fn.body.isNone || fn.name == "runtime.NumGoroutine" then some fn.name else none) = inpT := by kernel_rfl
theorem var_ok : (Try.prog.funcs.toList.all fun fn => (fn.body.elim [] Code.globalsNamed).isEmpty) = true := by kernel_rfl
def entT : List (Option String) := [none, none, none, none, none, none, none, none, none, none, none, none, none, none, none, none, none, none, none, none, none, none, none, none, none, none, none, none, none, none, none, none, none, none, none, none, none, none, none, none, none, none, none, none, none, none, none, none, none, none, none, none, none, none, none, none, none, none, none, none, none, none, none, none, none, none, none, none, none, none, none, none, none, none, none, none, none, none, none, none, none, none, none, none, none, none, none, none, none, none, none, none, none, none, none, none, none, none, none, none, none, none, none, none, none, none, none, none, none, none, none, none, none, none, none, none, none, none, none, none, none, none, none, none, none, none, none, none, none, none, none, none, none, none, none, none, none, none, none, none, none, none, none, none, none, none, none, none, none, none, none, none, none, none]
theorem ent_is : Try.prog.funcs.toList.map (fun fn => if fn.body.isNone then entryReads.lookup fn.name else none) = entT := by kernel_rfl
def headH : List Char := [104, 97, 114, 110, 101, 115, 115].map Char.ofNat
def headS : List Char := [99, 48, 52, 53, 99, 100, 100, 98, 100, 56, 50, 100, 57, 57, 51, 97, 97, 97, 98, 55, 101, 98, 99, 54, 53, 51, 48, 102, 100, 97, 50, 98, 48, 54, 101, 49, 57, 57, 101, 56, 100, 57, 97, 55, 99, 98, 51, 48, 54, 51, 55, 52, 97, 53, 55, 52, 100, 55, 55, 56, 55, 51, 101, 50].map Char.ofNat
def headC : List Char := [99, 117, 116].map Char.ofNat
def headR : List Char := [97, 116, 32, 108, 111, 111, 112, 46, 101, 120, 97, 109, 112, 108, 101, 47, 103, 48, 48, 50, 55, 55, 47, 108, 97, 119, 115, 46, 70, 110, 67, 104, 111, 105, 99, 101, 115, 32, 108, 111, 111, 112, 46, 101, 120, 97, 109, 112, 108, 101, 47, 103, 48, 48, 50, 55, 55, 47, 108, 97, 119, 115, 46, 70, 110, 69, 120, 97, 99, 116, 82, 111, 117, 110, 100, 115, 70, 111, 114].map Char.ofNat
theorem init_is : Try.prog.initOrder = String.ofList (headH ++ Char.ofNat 32 :: (headS ++ Char.ofNat 32 :: (headC ++ Char.ofNat 32 :: headR))) := by kernel_rfl
theorem init_words : ∃ X, wordsSigns Try.prog.initOrder.toList = headH :: headS :: headC :: X := by
 rw [signs_of init_is, ws_app headH _ (by kernel_rfl), ws_app headS _ (by kernel_rfl), ws_app headC _ (by kernel_rfl)]
 exact ⟨_, rfl⟩
theorem behind_is (X : List (List Char)) : behindMainWord (headH :: headS :: headC :: X) = headC :: X := by kernel_rfl
theorem head_gc : (headC == "gc".toList) = false := by kernel_rfl
theorem head_spec : (headC == "spec".toList) = false := by kernel_rfl
theorem head_cut : (headC == "cut".toList) = true := by kernel_rfl
theorem head_carried : (headC == "carried".toList) = false := by kernel_rfl
theorem strip_is (X : List (List Char)) : stripLifts liftWords (headC :: X) = ([], headC :: X) := by kernel_rfl
theorem lays_no : Try.prog.laysLater = false := by kernel_rfl
theorem bears_no : Try.prog.bearsReflect = false := by kernel_rfl
theorem door_ok : Try.prog.doorFits [] = true := by kernel_rfl
theorem head_carried' : (some headC == some "carried".toList) = false := by kernel_rfl
theorem head_cut' : (some headC == some "cut".toList) = true := by kernel_rfl
theorem words_is : ∃ X, behindMainWord (wordsSigns Try.prog.initOrder.toList) = headC :: X := by
 obtain ⟨X, hX⟩ := init_words
 exact ⟨X, by rw [hX, behind_is]⟩
theorem made_cut : Try.prog.make = some .cut := by
 obtain ⟨X, hX⟩ := words_is
 exact make_of hX head_gc head_spec head_cut head_carried (strip_is X)
theorem lifts_no : Try.prog.liftsFinal = false := by
 obtain ⟨X, hX⟩ := words_is
 exact lifts_of hX head_gc head_spec head_cut head_carried (strip_is X) head_carried'
theorem may_enter : Try.prog.mayEnter = true := by
 obtain ⟨X, hX⟩ := words_is
 exact enter_of hX head_gc head_spec head_cut head_carried (strip_is X) lays_no bears_no door_ok head_cut'
end Go.Proofs.Ytjefmhjlaibbkaa
namespace Go.Proofs.Ytjefmhjlaibbkaa
open Go.RowKit Go.ChangeShapes Go.WideShapes Go.Deep
def bls (bs : List Bool) : List Value := bs.map Value.bool
theorem bls_length (bs : List Bool) : (bls bs).length = bs.length := by simp [bls]
theorem bls_getD (bs : List Bool) (i : Nat) (h : i < bs.length) : (bls bs).getD i default = .bool (bs.getD i false) := by simp [bls, List.getD, h]
theorem RowAt.nBools {w : World} {own : Bool} {lo hi : Nat} {ao : Option Addr} {n cap : Nat} {bs : List Bool} (h : RowAt w own lo hi 1 ao n cap (bls bs)) : bs.length = n := by
 have hl := h.len; rw [bls_length, Nat.mul_one] at hl; exact hl
theorem RowAt.bool {w : World} {own : Bool} {lo hi : Nat} {ao : Option Addr} {n cap : Nat} {bs : List Bool} (h : RowAt w own lo hi 1 ao n cap (bls bs)) {k : Nat} (hk : k < n) :
  ∃ b off, ao = some ⟨b, off, none⟩ ∧ lo ≤ b ∧ b < hi ∧ b < w.heap.size ∧ w.cell? ⟨b, off + k, none⟩ = some (.bool (bs.getD k false)) ∧ (own = true → w.frozen? ⟨b, off + k, none⟩ = false) := by
 obtain ⟨b, off, rfl, g1, g2, g3, g4, g5⟩ := h.cells (by omega)
 have hl := h.nBools
 refine ⟨b, off, rfl, g1, g2, g3, ?_, fun ho => g5 ho k (by omega)⟩
 rw [g4 k (by omega), bls_getD bs k (by omega)]
theorem read_bools {H : Type} {enc : TypeId × Value → H} {P : Program} {w : World} {t e : TypeId} {fuel : Nat} {v : Value} {x : DataW H × List MemPlace} (ht : P.underlying t = some (.slice e)) (he : P.underlying e = some .bool) (hc : P.cellsOf e = 1)
  (h : DataW.trod enc P w 0 (fun _ => true) true fuel t [v] = some x) :
  ∃ ao n cap bs, v = .slice ao n cap ∧ n ≤ maxLen ∧ RowAt w false 0 w.heap.size 1 ao n cap (bls bs) := by
 rcases open_slice1 ht hc h with ⟨hcs, _⟩ | ⟨a, len, cap, m, fu, V, D, Pl, hcs, _, hl, hm, hz, _, hcell⟩
 ·simp only [List.cons.injEq, and_true] at hcs
  exact ⟨none, 0, 0, [], hcs, Nat.zero_le _, rfl, Nat.le_refl _, fun h => absurd rfl h⟩
 ·simp only [List.cons.injEq, and_true] at hcs
  simp only [if_true] at hz
  subst hz
  have each : ∀ i, i < m → ∃ b : Bool, w.cell? (a.add i) = some (.bool b) := fun i hi => by
   obtain ⟨e0, t0⟩ := hcell i hi
   obtain ⟨b, g0, _⟩ := DataW.trod_bool he t0
   simp only [List.cons.injEq, and_true] at g0
   exact ⟨b, by rw [e0, g0]⟩
  obtain ⟨q, hq⟩ := choose_lt each
  have hlen : ((List.range len).map q).length = len := by simp
  refine ⟨some a, len, m, (List.range len).map q, hcs, Nat.le_trans hl hm, ?_, hl, fun hn => ?_⟩
  ·rw [bls_length, hlen, Nat.mul_one]
  ·have h0 := hq 0 (by omega)
   obtain ⟨b, off, spot⟩ := a
   have hspot : spot = none := by simpa [Addr.add] using World.cell?_spot h0
   subst hspot
   refine ⟨b, off, rfl, Nat.zero_le _, World.block_lt_of_cell? w _ h0, World.block_lt_of_cell? w _ h0, fun i hi => ?_, fun h => by cases h⟩
   have hi2 : i < len := by omega
   rw [← addr_add, hq i (by omega), bls_getD _ _ (by omega)]
   simp [List.getD, hi2]
theorem Try.info4' : (Try.prog.info? 4).map (fun i => (i.zero, i.size, i.bytes)) = some (some (.bool false), 1, 1) := by kernel_rfl
theorem eqBools_yes {o1 o2 : Bool} {l1 u1 l2 u2 : Nat} (a1 a2 : Option Addr) (n1 c1 n2 c2 : Nat) (bs : List Bool) (w : World) (h1 : RowAt w o1 l1 u1 1 a1 n1 c1 (bls bs)) (h2 : RowAt w o2 l2 u2 1 a2 n2 c2 (bls bs)) (hn : n1 ≤ 2097152) :
  Calls Try.prog 107 #[.slice a1 n1 c1, .slice a2 n2 c2] w fun e w' => e = .returned (.bool true) ∧ Below w.heap.size w w' := by
 have hne : n2 = n1 := by rw [← h1.nBools, ← h2.nBools]
 subst hne
 have hb0 : ((n2 : Int) != (n2 : Int)) = false := by simp
 go_enter Try.func107, Try.ntmps107
 go_wp2
 go_loopw [5] (fun i wr => ∃ k : Nat, k ≤ n2 ∧ i = .int .i64 k ∧ Below w.heap.size w wr) (fun i _ => n2 - (intOf i).toNat)
 case atStart => exact ⟨0, Nat.zero_le _, rfl, Below.refl _ _⟩
 case round =>
  obtain ⟨k, hk, rfl, hb⟩ := hrel
  by_cases hlt : k < n2
  ·obtain ⟨b1, o1, rfl, _, _, hs1, e1, _⟩ := h1.bool hlt
   obtain ⟨b2, o2, rfl, _, _, hs2, e2, _⟩ := h2.bool hlt
   have g1 : wr.cell? ⟨b1, o1 + k, none⟩ = some (.bool (bs.getD k false)) := (hb.cell (p := ⟨b1, o1 + k, none⟩) hs1).trans e1
   have g2 : wr.cell? ⟨b2, o2 + k, none⟩ = some (.bool (bs.getD k false)) := (hb.cell (p := ⟨b2, o2 + k, none⟩) hs2).trans e2
   clear e1 e2
   have hl : (k : Int) < (n2 : Int) := by omega
   generalize bs.getD k false = y at g1 g2
   have hyy : (y != y) = false := by simp
   go_wp2_with fail
   go_quiet (fail)
   go_wp2
   go_roundw
   case rel => exact ⟨k + 1, by omega, by go_num, below_drewN hb _⟩
   case measure => simp [intOf]; omega
  ·go_wp2
   go_ret
   exact ⟨rfl, hb⟩
end Go.Proofs.Ytjefmhjlaibbkaa
