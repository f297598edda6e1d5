/- From the reading of an argument to the rows that the walks ask: a slice of numbers, a slice of pairs. No program is named. -/
import Derived.Test.YtcpmdcegcpgahaaQAB
import Derived.ProofKit
import Derived.OpenShut
import Derived.Lib.SmallJoins
import Derived.Deep.SlicePairs
import Derived.Test.YtcpmdcegcpgahaaQAC
import Derived.Test.YtcpmdcegcpgahaaRows
import Derived.Laws.CopyRow
import Derived.Lib.SliceRun
import Derived.Lib.Overlaps
import Derived.Lib.AppendZeros
import Derived.Laws.Externs
import Derived.Deep.AppendSrc
import Derived.BigQuiet
import Derived.Deep.AppendLies
import Derived.Deep.RegionLaw
set_option maxRecDepth 20000
set_option maxHeartbeats 16000000
namespace Go.Proofs.Ytcpmdcegcpgahaa
open Go.RowKit Go.ChangeShapes Go.WideShapes Go.Deep
theorem addr_add (b off i : Nat) : (⟨b, off, none⟩ : Addr).add i = ⟨b, off + i, none⟩ := by
 simp [Addr.add]
section
variable {H : Type} {enc : TypeId × Value → H} {P : Program} {w : World}
theorem read_ints {t e : TypeId} {fuel : Nat} {v : Value} {x : DataW H × List MemPlace} (ht : P.underlying t = some (.slice e)) (he : P.underlying e = some (.int .i64)) (hc : P.cellsOf e = 1)
  (h : DataW.trod enc P w 0 (fun _ => true) true fuel t [v] = some x) :
  ∃ ao n cap xs, v = .slice ao n cap ∧ n ≤ maxLen ∧ RowAt w false 0 w.heap.size 1 ao n cap (ints xs) := by
 rcases open_ints ht he hc h with ⟨hcs, _⟩ | ⟨a, len, cap, zs, hcs, _, hl, hm, hz, _, hcell, _⟩
 ·simp only [List.cons.injEq, and_true] at hcs
  exact ⟨none, 0, 0, [], hcs, Nat.zero_le _, rfl, Nat.le_refl _, fun h => absurd rfl h⟩
 ·simp only [List.cons.injEq, and_true] at hcs
  simp only [if_true] at hz
  refine ⟨some a, len, cap, zs.take len, hcs, Nat.le_trans hl hm, ?_, hl, fun hn => ?_⟩
  ·rw [ints_length]; simp; omega
  ·have h0 := hcell 0 (by omega)
   obtain ⟨b, off, spot⟩ := a
   have hspot : spot = none := by simpa [Addr.add] using World.cell?_spot h0
   subst hspot
   refine ⟨b, off, rfl, Nat.zero_le _, ?_, ?_, fun i hi => ?_, fun h => by cases h⟩
   ·exact World.block_lt_of_cell? w _ h0
   ·exact World.block_lt_of_cell? w _ h0
   ·rw [← addr_add, hcell i (by omega), ints_getD _ _ (by simp; omega)]
    simp [List.getD, show i < len by omega]
end
end Go.Proofs.Ytcpmdcegcpgahaa
namespace Go.Proofs.Ytcpmdcegcpgahaa
open Go.RowKit Go.ChangeShapes Go.WideShapes Go.Deep
section
variable {H : Type} {enc : TypeId × Value → H} {P : Program} {w : World}
end
theorem Try.own : ownKnob Try.prog.godebug = none := by kernel_rfl
theorem Try.laidOut : laidOutB Try.prog = true := by kernel_rfl
theorem Try.cellsInt : Try.prog.cellsOf 2 = 1 := by kernel_rfl
def clT (tab : List (List Nat)) : Nat → List Nat → List Nat → List Nat
 | 0, _, seen => seen.reverse
 | _, [], seen => seen.reverse
 | n + 1, f :: todo, seen => if seen.contains f then clT tab n todo seen else clT tab n (tab.getD f [] ++ todo) (f :: seen)
def fuelT (tab : List (List Nat)) : Nat := 1 + (tab.map fun l => l.length + 1).sum
theorem clT_in {tab : List (List Nat)} {C : Nat → Bool} {rk : Nat → Nat} (hC : ∀ g, C g = true → ∀ x ∈ tab.getD g [], C x = true ∧ rk x < rk g) (m : Nat) : ∀ (n : Nat) (todo seen : List Nat), (∀ x ∈ todo, C x = true ∧ rk x ≤ m) → (∀ x ∈ seen, C x = true ∧ rk x ≤ m) → ∀ x ∈ clT tab n todo seen, C x = true ∧ rk x ≤ m
 | 0, _, seen, _, h2 => fun x hx => h2 x (by simpa [clT] using hx)
 | n + 1, [], seen, _, h2 => fun x hx => h2 x (by simpa [clT] using hx)
 | n + 1, f :: todo, seen, h1, h2 => fun x hx => by
  unfold clT at hx
  have hf := h1 f (by simp)
  by_cases hs : seen.contains f = true
  ·rw [if_pos hs] at hx
   exact clT_in hC m n todo seen (fun y hy => h1 y (by simp [hy])) h2 x hx
  ·rw [if_neg hs] at hx
   refine clT_in hC m n _ _ (fun y hy => ?_) (fun y hy => ?_) x hx
   ·rcases List.mem_append.1 hy with e | e
    ·have := hC f hf.1 y e; exact ⟨this.1, by omega⟩
    ·exact h1 y (by simp [e])
   ·rcases List.mem_cons.1 hy with e | e
    ·rw [e]; exact hf
    ·exact h2 y e
section
variable {P : Program} {tab : List (List Nat)} (h : P.funcs.toList.map P.leadsTo = tab)
include h
theorem lead_is (f : Nat) : (P.funcs[f]?).elim [] P.leadsTo = tab.getD f [] := by
 rw [← h, List.getD_eq_getElem?_getD, List.getElem?_map, Array.getElem?_toList]
 cases P.funcs[f]? <;> rfl
theorem clT_is : ∀ (n : Nat) (todo seen : List Nat), P.closureVia n todo seen = clT tab n todo seen
 | 0, _, _ => rfl
 | n + 1, [], _ => rfl
 | n + 1, f :: todo, seen => by
  unfold Program.closureVia clT
  rw [lead_is h]
  by_cases hs : seen.contains f = true
  ·rw [if_pos hs, if_pos hs]; exact clT_is n _ _
  ·rw [if_neg hs, if_neg hs]; exact clT_is n _ _
theorem closure_is (f : Nat) : P.closure f = clT tab (fuelT tab) [f] [] := by
 unfold Program.closure fuelT
 rw [clT_is h, ← h, List.map_map]
 rfl
end
theorem getD_map {α β : Type} (a : Array α) (g : α → β) (d : β) (i : Nat) : (a.toList.map g).getD i d = (a[i]?).elim d g := by
 rw [List.getD_eq_getElem?_getD, List.getElem?_map, Array.getElem?_toList]
 cases a[i]? <;> rfl
section
variable {P : Program} {tab : List (List Nat)} (h : P.funcs.toList.map P.leadsTo = tab)
include h
theorem unfollowed_at {us : List Bool} (hu : P.funcs.toList.map (fun fn => fn.body.elim (entryCalls fn) Code.unfollowed) = us) (f : Nat) : P.unfollowed f = (clT tab (fuelT tab) [f] []).any fun g => us.getD g false := by
 unfold Program.unfollowed
 rw [closure_is h]
 congr 1
 funext g
 rw [← hu, getD_map]
 cases P.funcs[g]? with
 | none => rfl
 | some fn =>
  rw [Option.any_some]
  show _ = fn.body.elim (entryCalls fn) Code.unfollowed
  cases fn.body <;> rfl
theorem inPlace_at {ip : List (Option String)} (hi : P.funcs.toList.map (fun fn => if fn.ours || fn.body.isNone || fn.name == "runtime.NumGoroutine" then some fn.name else none) = ip) (f : Nat) : P.inPlace f = (clT tab (fuelT tab) [f] []).filterMap fun g => ip.getD g none := by
 unfold Program.inPlace
 rw [closure_is h]
 congr 1
 funext g
 rw [← hi, getD_map]
 cases P.funcs[g]? <;> rfl
theorem varsNamed_at {er : List (Option String)} (hv : (P.funcs.toList.all fun fn => (fn.body.elim [] Code.globalsNamed).isEmpty) = true) (he : P.funcs.toList.map (fun fn => if fn.body.isNone then entryReads.lookup fn.name else none) = er) (f : Nat) : P.varsNamed f = ((clT tab (fuelT tab) [f] []).filterMap fun g => er.getD g none).eraseDups := by
 have key : ∀ g fn, P.funcs[g]? = some fn → fn ∈ P.funcs.toList := fun g fn hg => by
  obtain ⟨hlt, e⟩ := Array.getElem?_eq_some_iff.1 hg
  rw [← e]; exact Array.getElem_mem_toList _
 have e1 : ((P.closure f).flatMap fun g => ((P.funcs[g]?).bind (·.body)).elim [] Code.globalsNamed) = [] := by
  rw [List.flatMap_eq_nil_iff]
  intro g _
  cases hg : P.funcs[g]? with
  | none => rfl
  | some fn =>
   have := List.all_eq_true.1 hv fn (key g fn hg)
   simpa using this
 have e2 : ((P.closure f).filterMap fun g => (P.funcs[g]?).bind fun fn => if fn.body.isNone then entryReads.lookup fn.name else none) = (clT tab (fuelT tab) [f] []).filterMap fun g => er.getD g none := by
  rw [closure_is h]
  congr 1
  funext g
  rw [← he, getD_map]
  cases P.funcs[g]? <;> rfl
 unfold Program.varsNamed
 rw [e1, e2]
 rfl
theorem recurses_no {f : Nat} (hu : P.unfollowed f = false) {C : Nat → Bool} {rk : Nat → Nat} (hC : ∀ g, C g = true → ∀ x ∈ tab.getD g [], C x = true ∧ rk x < rk g) (hf : C f = true) : P.recurses f = false := by
 unfold Program.recurses
 rw [hu, Bool.false_or, List.any_eq_false]
 intro g hg
 rw [closure_is h] at hg
 have hg' := clT_in hC (rk f) _ [f] [] (fun x hx => by simp at hx; rw [hx]; exact ⟨hf, Nat.le_refl _⟩) (fun x hx => by cases hx) g hg
 rw [lead_is h, Bool.not_eq_true, List.any_eq_false]
 intro x hx
 have hx' := hC g hg'.1 x hx
 rw [Bool.not_eq_true, Bool.eq_false_iff]
 intro hc
 rw [closure_is h] at hc
 have := clT_in hC (rk x) _ [x] [] (fun y hy => by simp at hy; rw [hy]; exact ⟨hx'.1, Nat.le_refl _⟩) (fun y hy => by cases hy) g (by simpa using hc)
 omega
end
theorem ranks_of {tab : List (List Nat)} {rks : List Nat} (h : ((List.range tab.length).all fun g => decide (rks.getD g 0 = 0) || (tab.getD g []).all fun x => decide (rks.getD x 0 ≠ 0) && decide (rks.getD x 0 < rks.getD g 0)) = true) : ∀ g, (fun g => decide (rks.getD g 0 ≠ 0)) g = true → ∀ x ∈ tab.getD g [], (fun g => decide (rks.getD g 0 ≠ 0)) x = true ∧ rks.getD x 0 < rks.getD g 0 := fun g hg x hx => by
 have hg' := of_decide_eq_true hg
 by_cases hl : g < tab.length
 ·have := List.all_eq_true.1 h g (List.mem_range.2 hl)
  rw [Bool.or_eq_true] at this
  rcases this with e | e
  ·exact absurd (of_decide_eq_true e) hg'
  ·have := List.all_eq_true.1 e x hx
   rw [Bool.and_eq_true] at this
   exact ⟨this.1, of_decide_eq_true this.2⟩
 ·rw [List.getD_eq_getElem?_getD, List.getElem?_eq_none (by omega)] at hx; cases hx
theorem ws_app (pre rest : List Char) (h : (pre.all fun c => c != Char.ofNat 32) = true) : wordsSigns (pre ++ Char.ofNat 32 :: rest) = pre :: wordsSigns rest := by
 induction pre with
 | nil => rfl
 | cons c r ih =>
  rw [List.all_cons, Bool.and_eq_true] at h
  have hc : c = Char.ofNat 32 → False := fun e => by rw [e] at h; exact absurd h.1 (by decide)
  rw [List.cons_append, wordsSigns.eq_3 _ _ hc, ih h.2]
theorem signs_of {s : String} {l : List Char} (h : s = String.ofList l) : s.toList = l := by rw [h, String.toList_ofList]
section
variable {P : Program} {c : List Char} {X : List (List Char)} (h : behindMainWord (wordsSigns P.initOrder.toList) = c :: X) (hg : (c == "gc".toList) = false) (hs : (c == "spec".toList) = false) (hc : (c == "cut".toList) = true) (hr : (c == "carried".toList) = false) (hl : stripLifts liftWords (c :: X) = ([], c :: X))
include h hg hs hc hr hl
theorem make_of : P.make = some .cut := by
 have _ := hr; have _ := hl
 unfold Program.make
 rw [h]
 simp only [hg, hs, hc, Bool.or_false, Bool.true_or, Bool.false_eq_true, if_false, if_true]
theorem lifts_of (hn : (some c == some "carried".toList) = false) : P.liftsFinal = false := by
 have _ := hg; have _ := hs; have _ := hc; have _ := hr
 unfold Program.liftsFinal Program.headLifts
 simp only [h, hl, List.head?_cons, hn, Bool.false_and, Bool.false_or]
 split <;> rfl
theorem enter_of (h1 : P.laysLater = false) (h2 : P.bearsReflect = false) (h3 : P.doorFits [] = true) (hn : (some c == some "cut".toList) = true) : P.mayEnter = true := by
 have _ := hc
 unfold Program.mayEnter
 rw [h]
 simp only [hl, List.head?_cons, hg, hs, hr, h1, h2, h3, hn, List.contains_nil, Bool.or_false, Bool.false_and, Bool.and_true, Bool.not_false, Bool.or_true]
end
def leadsT : List (List Nat) := [[], [], [1], [8, 10, 9, 10, 11, 12, 10, 13, 14, 12, 15, 16, 10, 11, 12, 16], [17, 19, 18, 19, 20, 21, 19, 22, 23, 21, 24, 25, 19, 20, 21, 25], [26, 28, 29, 27, 28, 29, 30, 21, 28, 31, 32, 21, 24, 25, 28, 29, 30, 21, 25], [26, 26, 28, 28, 33, 28, 28, 34, 35, 28, 31, 28, 31, 32, 32, 35, 36, 37, 28, 28, 34, 35, 37], [26, 38, 28, 40, 39, 28, 40, 41, 21, 28, 31, 40, 42, 32, 43, 21, 24, 25, 28, 40, 41, 21, 25], [44], [], [45], [46, 47], [48], [48], [49], [49], [50], [51, 52], [53, 54], [55, 56], [57, 58, 59, 60], [31], [61, 62], [63, 64], [32], [65], [52, 66, 44], [67, 68, 69], [56, 70, 45], [], [71, 72, 73, 74, 59, 75], [62, 76, 48], [64, 77, 49], [67, 67, 78, 78, 79], [71, 71, 80, 80, 81, 82], [42], [43], [83], [52, 84], [67, 85, 78, 86, 87, 88, 67, 78], [56, 89], [71, 90, 80, 81, 91, 71, 80], [62, 92], [64, 93], [], [], [], [46], [], [], [], [94, 95], [], [96, 97, 98, 99, 100, 101], [102, 103], [104, 105], [106], [107, 108, 109, 110], [81, 111], [112], [113, 114], [115, 116], [117], [118, 119], [], [120, 121, 50], [], [98, 122, 123, 124, 98], [98, 97, 125, 98, 126, 97], [127, 86, 128, 129, 124, 128, 128, 130, 87, 128, 88, 128, 130, 127, 88], [131], [132, 133, 134, 135], [136, 137, 138], [81, 139], [140, 141, 142, 143, 144, 145, 146], [], [147], [], [148], [129, 129], [149, 149, 149, 149, 150], [], [151], [120, 152], [], [98, 98, 122, 97, 125, 126, 153], [], [154], [130], [155], [156, 156, 132, 157], [159, 160, 158, 161], [162], [], [163], [], [164, 165, 166, 166], [98], [], [98], [102], [166], [167], [], [168], [169], [], [113, 170, 171], [137, 172], [111], [173], [], [], [174], [], [175], [176], [], [49], [], [], [], [97, 98], [125, 126, 86, 154], [], [98], [98], [86, 128, 128, 130, 177, 87], [130], [], [], [], [108], [138, 178, 141, 139, 139, 179], [], [], [], [], [], [], [180, 181], [183, 182], [144, 112], [144], [], [140, 112], [112, 139, 185, 184], [], [], [], [186], [73, 73, 144, 144], [], [], [], [], [], [137, 138, 178, 187, 187, 179], [188], [], [141], [187, 189, 190, 192, 193], [], [44], [98, 126], [98, 194], [], [195], [45], [], [196, 197, 198], [173], [199], [], [196, 178], [48], [], [], [], [191], [141], [81, 200], [], [], [182], [], [], [], [], [], [139, 191], [202, 202, 201], [], [203, 204], [98, 98], [], [], [], [199, 199], [], [205, 206], [], [207, 207], [], [208], [], [209], [], [210, 210, 210], [211, 211, 211], [], [], [], [], [], [], [], [], [], [], [], [], [], [], [], [], [], [], []]
theorem leads_is : Try.prog.funcs.toList.map Try.prog.leadsTo = leadsT := by kernel_rfl
def unfT : List Bool := [false, false, false, false, false, false, false, false, false, false, false, false, false, false, false, false, false, false, false, false, false, false, false, false, false, false, false, false, false, false, false, false, false, false, true, false, false, false, false, false, false, false, false, false, false, false, false, false, false, false, false, false, false, false, false, false, false, false, false, false, false, false, false, false, false, false, false, false, false, false, false, false, false, false, false, false, false, false, false, false, false, false, false, false, false, false, false, false, false, false, false, false, false, false, false, false, false, false, false, false, false, false, false, false, false, false, false, false, false, false, false, false, false, false, false, false, false, false, false, false, false, false, false, false, false, false, false, false, false, false, false, false, false, false, false, false, false, false, false, false, false, false, false, false, false, false, false, false, false, false, false, true, false, false, false, false, false, false, true, false, false, false, false, false, false, false, false, false, false, false, false, false, false, false, false, false, false, false, false, false, false, false, true, false, true, false, false, false, true, true, false, false, false, false, false, false, false, false, false, false, false, false, false, false, false, false, false, false, false, false, false, false, false, false, false, false, false, false, false, false, false, false, false, false, false, false, false, false, false]
theorem unf_is : Try.prog.funcs.toList.map (fun fn => fn.body.elim (entryCalls fn) Code.unfollowed) = unfT := by kernel_rfl
def inpT : List (Option String) := [some "main.main", some "gosem.cut", none, none, none, none, none, none, none, none, none, none, none, none, none, none, none, none, none, none, none, none, none, none, none, none, none, none, none, none, none, none, none, none, none, none, none, none, none, none, none, none, none, none, none, none, none, none, none, none, none, none, none, none, none, none, none, none, none, none, none, none, none, none, none, none, none, none, none, none, none, none, none, none, none, none, none, none, none, none, none, none, none, none, none, none, none, none, none, none, none, none, none, none, none, none, none, none, none, none, none, none, none, none, none, none, none, none, none, none, none, none, none, none, none, none, none, none, none, none, none, none, none, none, none, none, none, none, none, none, none, none, none, none, none, none, none, none, none, none, none, none, none, none, none, none, none, none, none, none, none, none, none, none, none, none, none, none, none, none, none, none, none, none, none, none, none, none, none, none, none, none, none, none, none, none, none, none, none, none, none, none, none, none, none, none, none, none, none, none, none, none, none, none, none, none, none, none, none, none, none, none, none, some "slices.overlaps[loop.example/g00277/impl.Cell]", none, some "slices.overlaps[loop.example/g00277/impl.Vol]", none, none, none, none, none, none, some "(runtime.boundsError).Error", some "(runtime.boundsError).RuntimeError", some "(runtime.errorString).Error", some "(runtime.errorString).RuntimeError", some "(runtime.plainError).Error", some "(runtime.plainError).RuntimeError", some "(runtime.errorAddressString).Error", some "(runtime.errorAddressString).RuntimeError", some "(*runtime.TypeAssertionError).Error", some "(*runtime.TypeAssertionError).RuntimeError", some "(*runtime.PanicNilError).Error", some "(*runtime.PanicNilError).RuntimeError", some "(*internal/abi.Type).Align", some "(internal/runtime/maps.unhashableTypeError).Error", some "(internal/runtime/maps.unhashableTypeError).RuntimeError", some "(loop.example/g00277/impl.blockNumber).data", some "(internal/abi.Kind).String"]
theorem inp_is : Try.prog.funcs.toList.map (fun fn => if fn.ours || fn.body.isNone || fn.name == "runtime.NumGoroutine" then some fn.name else none) = inpT := by kernel_rfl
theorem var_ok : (Try.prog.funcs.toList.all fun fn => (fn.body.elim [] Code.globalsNamed).isEmpty) = true := by kernel_rfl
def entT : List (Option String) := [none, none, none, none, none, none, none, none, none, none, none, none, none, none, none, none, none, none, none, none, none, none, none, none, none, none, none, none, none, none, none, none, none, none, none, none, none, none, none, none, none, none, none, none, none, none, none, none, none, none, none, none, none, none, none, none, none, none, none, none, none, none, none, none, none, none, none, none, none, none, none, none, none, none, none, none, none, none, none, none, none, none, none, none, none, none, none, none, none, none, none, none, none, none, none, none, none, none, none, none, none, none, none, none, none, none, none, none, none, none, none, none, none, none, none, none, none, none, none, none, none, none, none, none, none, none, none, none, none, none, none, none, none, none, none, none, none, none, none, none, none, none, none, none, none, none, none, none, none, none, none, none, none, none, none, none, none, none, none, none, none, none, none, none, none, none, none, none, none, none, none, none, none, none, none, none, none, none, none, none, none, none, none, none, none, none, none, none, none, none, none, none, none, none, none, none, none, none, none, none, none, none, none, none, none, none, none, none, none, none, none, none, none, none, none, none, none, none, none, none, none, none, none, none, none, none, none, none, none]
theorem ent_is : Try.prog.funcs.toList.map (fun fn => if fn.body.isNone then entryReads.lookup fn.name else none) = entT := by kernel_rfl
def ranksT : List Nat := [1, 1, 2, 4, 7, 10, 8, 8, 2, 1, 2, 3, 2, 2, 2, 2, 2, 5, 6, 5, 6, 4, 5, 4, 3, 3, 2, 5, 3, 1, 9, 3, 2, 5, 7, 4, 3, 3, 2, 5, 3, 7, 3, 2, 1, 1, 1, 2, 1, 1, 1, 4, 1, 5, 4, 4, 2, 5, 2, 2, 4, 4, 2, 3, 1, 2, 1, 4, 3, 4, 2, 6, 2, 2, 8, 1, 2, 1, 2, 2, 3, 1, 4, 2, 1, 4, 1, 2, 2, 2, 6, 6, 2, 1, 3, 1, 4, 2, 1, 2, 4, 2, 3, 1, 3, 2, 1, 4, 3, 2, 2, 1, 1, 3, 1, 3, 2, 1, 2, 1, 1, 1, 3, 3, 1, 2, 2, 3, 2, 1, 1, 1, 4, 5, 1, 1, 1, 1, 1, 1, 6, 2, 2, 2, 1, 7, 3, 1, 1, 1, 2, 3, 1, 1, 1, 1, 1, 5, 2, 1, 3, 5, 1, 2, 3, 3, 1, 2, 2, 1, 3, 2, 2, 1, 2, 2, 1, 1, 1, 4, 3, 5, 1, 1, 2, 1, 1, 1, 1, 1, 4, 3, 1, 4, 2, 1, 1, 1, 2, 1, 4, 1, 2, 1, 3, 1, 3, 1, 2, 2, 1, 1, 1, 1, 1, 1, 1, 1, 1, 1, 1, 1, 1, 1, 1, 1, 1, 1, 1]
theorem ranks_ok : ∀ g, (fun g => decide (ranksT.getD g 0 ≠ 0)) g = true → ∀ x ∈ leadsT.getD g [], (fun g => decide (ranksT.getD g 0 ≠ 0)) x = true ∧ ranksT.getD x 0 < ranksT.getD g 0 := ranks_of (by kernel_rfl)
def headH : List Char := [104, 97, 114, 110, 101, 115, 115].map Char.ofNat
def headS : List Char := [48, 48, 55, 51, 51, 102, 57, 57, 97, 57, 50, 48, 98, 97, 54, 99, 99, 100, 98, 100, 50, 97, 48, 97, 53, 55, 56, 50, 48, 102, 100, 57, 54, 98, 55, 57, 97, 98, 100, 52, 56, 99, 52, 50, 55, 98, 99, 54, 48, 52, 98, 56, 98, 97, 97, 53, 102, 99, 55, 51, 54, 101, 54, 52].map Char.ofNat
def headC : List Char := [99, 117, 116].map Char.ofNat
def headR : List Char := [97, 116, 32, 108, 111, 111, 112, 46, 101, 120, 97, 109, 112, 108, 101, 47, 103, 48, 48, 50, 55, 55, 47, 108, 97, 119, 115, 46, 70, 110, 69, 120, 97, 99, 116, 74, 111, 105, 110, 67, 104, 117, 110, 107, 115, 32, 108, 111, 111, 112, 46, 101, 120, 97, 109, 112, 108, 101, 47, 103, 48, 48, 50, 55, 55, 47, 108, 97, 119, 115, 46, 70, 110, 69, 120, 97, 99, 116, 80, 108, 97, 105, 110, 79, 102, 32, 108, 111, 111, 112, 46, 101, 120, 97, 109, 112, 108, 101, 47, 103, 48, 48, 50, 55, 55, 47, 108, 97, 119, 115, 46, 70, 110, 69, 120, 97, 99, 116, 65, 112, 112, 108, 121, 80, 108, 97, 105, 110, 32, 108, 111, 111, 112, 46, 101, 120, 97, 109, 112, 108, 101, 47, 103, 48, 48, 50, 55, 55, 47, 108, 97, 119, 115, 46, 70, 110, 69, 120, 97, 99, 116, 68, 101, 108, 116, 97, 79, 102, 32, 108, 111, 111, 112, 46, 101, 120, 97, 109, 112, 108, 101, 47, 103, 48, 48, 50, 55, 55, 47, 108, 97, 119, 115, 46, 70, 110, 69, 120, 97, 99, 116, 84, 97, 107, 101, 68, 101, 108, 116, 97].map Char.ofNat
theorem init_is : Try.prog.initOrder = String.ofList (headH ++ Char.ofNat 32 :: (headS ++ Char.ofNat 32 :: (headC ++ Char.ofNat 32 :: headR))) := by kernel_rfl
theorem init_words : ∃ X, wordsSigns Try.prog.initOrder.toList = headH :: headS :: headC :: X := by
 rw [signs_of init_is, ws_app headH _ (by kernel_rfl), ws_app headS _ (by kernel_rfl), ws_app headC _ (by kernel_rfl)]
 exact ⟨_, rfl⟩
theorem behind_is (X : List (List Char)) : behindMainWord (headH :: headS :: headC :: X) = headC :: X := by kernel_rfl
theorem head_gc : (headC == "gc".toList) = false := by kernel_rfl
theorem head_spec : (headC == "spec".toList) = false := by kernel_rfl
theorem head_cut : (headC == "cut".toList) = true := by kernel_rfl
theorem head_carried : (headC == "carried".toList) = false := by kernel_rfl
theorem strip_is (X : List (List Char)) : stripLifts liftWords (headC :: X) = ([], headC :: X) := by kernel_rfl
theorem lays_no : Try.prog.laysLater = false := by kernel_rfl
theorem bears_no : Try.prog.bearsReflect = false := by kernel_rfl
theorem door_ok : Try.prog.doorFits [] = true := by kernel_rfl
theorem head_carried' : (some headC == some "carried".toList) = false := by kernel_rfl
theorem head_cut' : (some headC == some "cut".toList) = true := by kernel_rfl
theorem words_is : ∃ X, behindMainWord (wordsSigns Try.prog.initOrder.toList) = headC :: X := by
 obtain ⟨X, hX⟩ := init_words
 exact ⟨X, by rw [hX, behind_is]⟩
theorem made_cut : Try.prog.make = some .cut := by
 obtain ⟨X, hX⟩ := words_is
 exact make_of hX head_gc head_spec head_cut head_carried (strip_is X)
theorem lifts_no : Try.prog.liftsFinal = false := by
 obtain ⟨X, hX⟩ := words_is
 exact lifts_of hX head_gc head_spec head_cut head_carried (strip_is X) head_carried'
theorem may_enter : Try.prog.mayEnter = true := by
 obtain ⟨X, hX⟩ := words_is
 exact enter_of hX head_gc head_spec head_cut head_carried (strip_is X) lays_no bears_no door_ok head_cut'
end Go.Proofs.Ytcpmdcegcpgahaa
namespace Go.Proofs.Ytcpmdcegcpgahaa
open Go.RowKit Go.ChangeShapes Go.WideShapes Go.Deep
def bls (bs : List Bool) : List Value := bs.map Value.bool
structure NewB (w W : World) (b : Nat) (cs : Array Value) : Prop where
 bl : b = w.heap.size
 sz : W.heap.size = w.heap.size + 1
 below : Below w.heap.size w W
 cell : ∀ (k : Nat) (v : Value), cs[k]? = some v → W.cell? ⟨b, k, none⟩ = some v
 froz : ∀ k : Nat, W.frozen? ⟨b, k, none⟩ = false
theorem size_setCells' (b : Nat) : ∀ (vs : List Value) (o : Nat) (w : World), (w.setCells b o vs).heap.size = w.heap.size
 | [], _, _ => rfl
 | v :: r, o, w => by rw [World.setCells, size_setCells' b r (o + 1)]; simp
structure SetB (w W : World) (b : Nat) (cs : List Value) : Prop where
 kept : Kept b (b + 1) w W
 cell : ∀ (k : Nat) (v : Value), cs[k]? = some v → W.cell? ⟨b, k, none⟩ = some v
 froz : ∀ q k : Nat, W.frozen? ⟨q, k, none⟩ = w.frozen? ⟨q, k, none⟩
 size : W.heap.size = w.heap.size
def Blk (w : World) (b : Nat) (e : TypeId) (L : List Value) : Prop := w.heap[b]? = some (.cells L.toArray e (0, 0))
theorem Blk.lt {w : World} {b : Nat} {e : TypeId} {L : List Value} (h : Blk w b e L) : b < w.heap.size := by
 rcases Nat.lt_or_ge b w.heap.size with h' | h'
 ·exact h'
 ·unfold Blk at h; rw [Array.getElem?_eq_none h'] at h; cases h
theorem Blk.cell {w : World} {b : Nat} {e : TypeId} {L : List Value} (h : Blk w b e L) {k : Nat} {v : Value} (hk : L[k]? = some v) : w.cell? ⟨b, k, none⟩ = some v := by
 unfold Blk at h
 simp [World.cell?, h, hk]
theorem Blk.froz {w : World} {b : Nat} {e : TypeId} {L : List Value} (h : Blk w b e L) (k : Nat) : w.frozen? ⟨b, k, none⟩ = false := by
 unfold Blk at h
 simp [World.frozen?, h]
theorem Blk.set {w : World} {b : Nat} {e : TypeId} {L M : List Value} (h : Blk w b e L) : Blk (w.setRow b M.toArray) b e M := setRow_heap w b _ _ e _ h
theorem run_copy_wide {P : Program} (w : World) (dT sT ty elem : TypeId) (size : Nat) (g o dLen dCap : Nat) (a : Addr) (sLen sCap : Nat) (L : List Value) (t : TypeId) (cs : List Value)
  (hu : P.underlying dT = some (.slice elem)) (hs : (P.info? elem).map (·.size) = some size)
  (hg : Blk w g t L) (hn : Nat.min sLen dLen * size = cs.length)
  (hsrc : ∀ j v, cs[j]? = some v → w.cell? (a.add j) = some v) (hfit : o + cs.length ≤ L.length) (h1 : ∀ v ∈ cs, v.oneCell' = true) :
  (Builtin.copy_ #[dT, sT] ty #[.slice (some ⟨g, o, none⟩) dLen dCap, .slice (some a) sLen sCap]).run P w =
   .ok (goInt (Nat.min sLen dLen)) (w.setRow g (L.take o ++ cs ++ L.drop (o + cs.length)).toArray) := by
 have hl := run_loadCells_list (P := P) w a cs hsrc
 have hst := run_storeCells_at P g o t cs 0 L.toArray w hg (by simpa using hfit) h1
 cases hq : P.info? elem with
 | none => simp [hq] at hs
 | some i =>
  have hi : i.size = size := by simpa [hq] using hs
  simp [Builtin.copy_, run_underlying hu, Builtin.lenOf, Builtin.firstCells, sizeOf, typeInfo, hq, hi, hn, hl, hst]
theorem step_append_run {P : Program} {ops : Array Oper} {o : Oper} {a : Act} {w : World} {K : Act → World → Prop} {Q : Exit → Act → World → Prop} {E : Prop}
  (hg : o.guard = none) (s x : Operand) (t tn : TypeId) (ho : o.op = .call { callee := .builtin .append, args := #[s, x], argTypes := #[t, tn] })
  (vs vx : Value) (hs : a.eval s = vs) (hx : a.eval x = vx) (v' : Value) (w' : World) (hr : (Builtin.append_ #[t, tn] o.type #[vs, vx]).run P w = .ok v' w') (hK : K (a.put o.dst v') w') :
  if Region.wanted o (yielded ops a.tmps) = true then Oper.wp P o a w K Q else E := by
 have hw : Region.wanted o (yielded ops a.tmps) = true := by simp [Region.wanted, hg]
 rw [if_pos hw]
 exact Lib.wp_append_run w s x t tn ho vs vx hs hx v' w' hr hK
section
variable {o : Bool} {l u : Nat} (p : Nat) (an : Option Addr) (nn cn : Nat) (ab : Option Addr) (nb cb : Nat) (K : Nat → KS) (f : Fo) (w : World) (h : FoAt w o l u an nn cn ab nb cb K f) (hp0 : w.cell? ⟨p, 0, none⟩ = some (.slice an nn cn)) (hp1 : w.cell? ⟨p, 1, none⟩ = some (.slice ab nb cb)) (hn : nn ≤ 2097152) (hb : nb ≤ 2097152)
include h hp0 hp1 hn hb
end
section
variable {o : Bool} {l u : Nat} (p : Nat) (an : Option Addr) (nn cn : Nat) (ab : Option Addr) (nb cb : Nat) (K : Nat → KS) (f : Fo) (w : World) (h : FoAt w o l u an nn cn ab nb cb K f) (hp0 : w.cell? ⟨p, 0, none⟩ = some (.slice an nn cn)) (hp1 : w.cell? ⟨p, 1, none⟩ = some (.slice ab nb cb)) (hn : nn ≤ 2097152) (hb : nb ≤ 2097152)
include h hp0 hp1 hn hb
end
section
variable {o : Bool} {l u : Nat} (p : Nat) (an : Option Addr) (nn cn : Nat) (ab : Option Addr) (nb cb : Nat) (K : Nat → KS) (f : Fo) (w : World) (h : FoAt w o l u an nn cn ab nb cb K f) (hp0 : w.cell? ⟨p, 0, none⟩ = some (.slice an nn cn)) (hn : nn ≤ 60)
include h hp0 hn
end
section
variable {o : Bool} {l u : Nat} (p : Nat) (an : Option Addr) (nn cn : Nat) (ab : Option Addr) (nb cb : Nat) (K : Nat → KS) (f : Fo) (w : World) (h : FoAt w o l u an nn cn ab nb cb K f) (hp0 : w.cell? ⟨p, 0, none⟩ = some (.slice an nn cn)) (hp1 : w.cell? ⟨p, 1, none⟩ = some (.slice ab nb cb)) (hn : nn ≤ 2097152) (hb : nb ≤ 2097152) (hK : ∀ i, i < nn → (K i).2.1 ≤ 2097152)
include h hp0 hp1 hn hb hK
end
section
variable {o : Bool} {l u : Nat} (p : Nat) (an : Option Addr) (nn cn : Nat) (ab : Option Addr) (nb cb : Nat) (K : Nat → KS) (f : Fo) (w : World) (h : FoAt w o l u an nn cn ab nb cb K f) (hp0 : w.cell? ⟨p, 0, none⟩ = some (.slice an nn cn)) (hn : nn ≤ 2097152)
include h hp0 hn
end
section
variable {o : Bool} {l u : Nat} (p : Nat) (an : Option Addr) (nn cn : Nat) (ab : Option Addr) (nb cb : Nat) (K : Nat → KS) (f : Fo) (w : World) (h : FoAt w o l u an nn cn ab nb cb K f) (hp0 : w.cell? ⟨p, 0, none⟩ = some (.slice an nn cn)) (hp1 : w.cell? ⟨p, 1, none⟩ = some (.slice ab nb cb)) (hn : nn ≤ 2097152) (hb : nb ≤ 2097152) (hK : ∀ i, i < nn → (K i).2.1 ≤ 2097152)
include h hp0 hp1 hn hb hK
end
section
variable {o : Bool} {l u : Nat} (an : Option Addr) (nn cn : Nat) (ab : Option Addr) (nb cb : Nat) (K : Nat → KS) (f : Fo) (w : World) (h : FoAt w o l u an nn cn ab nb cb K f) (hn : nn ≤ 2097152) (hb : nb ≤ 2097152) (hK : ∀ i, i < nn → (K i).2.1 ≤ 2097152)
include h hn hb hK
end
section
variable {o : Bool} {l u : Nat} (p : Nat) (an : Option Addr) (nn cn : Nat) (ab : Option Addr) (nb cb : Nat) (K : Nat → KS) (f : Fo) (w : World) (h : FoAt w o l u an nn cn ab nb cb K f) (hp0 : w.cell? ⟨p, 0, none⟩ = some (.slice an nn cn)) (hp1 : w.cell? ⟨p, 1, none⟩ = some (.slice ab nb cb)) (hn : nn ≤ 2097152)
include h hp0 hp1 hn
end
section
variable {o : Bool} {l u : Nat} (an : Option Addr) (nn cn : Nat) (ab : Option Addr) (nb cb : Nat) (K : Nat → KS) (f : Fo) (w : World) (h : FoAt w o l u an nn cn ab nb cb K f) (hn : nn ≤ 2097152) (hb : nb ≤ 2097152) (hK : ∀ i, i < nn → (K i).2.1 ≤ 2097152)
include h hn hb hK
end
structure OutAt (w : World) (lo P : Nat) (vn : Value) (ab : Option Addr) (nb cb : Nat) (K : Nat → KS) (f : Fo) : Prop where
 c0 : w.cell? ⟨P, 0, none⟩ = some vn
 c1 : w.cell? ⟨P, 1, none⟩ = some (.slice ab nb cb)
 z0 : w.frozen? ⟨P, 0, none⟩ = false
 z1 : w.frozen? ⟨P, 1, none⟩ = false
 hP : lo ≤ P ∧ P < w.heap.size
 own : w.ownsRow lo 218 3 vn f.1.length (ncells K f.1)
 blk : RowAt w true lo w.heap.size 2 ab nb cb (pairs f.2)
 kid : ∀ i, i < f.1.length → RowAt w true lo w.heap.size 1 (K i).1 (K i).2.1 (K i).2.2 (ints (f.1.getD i nd0).2.2)
 bf : nb ≠ 0 → ∃ g, ab = some ⟨g, 0, none⟩
 sV : vn.ownBlock ≠ some P
 sB : nb ≠ 0 → sb ab ≠ P ∧ vn.ownBlock ≠ some (sb ab)
 sK : ∀ i, i < f.1.length → (K i).2.1 ≠ 0 → sb (K i).1 ≠ P ∧ vn.ownBlock ≠ some (sb (K i).1) ∧ (nb ≠ 0 → sb (K i).1 ≠ sb ab)
section
variable {w w' : World} {lo P : Nat} {vn : Value} {ab : Option Addr} {nb cb : Nat} {K : Nat → KS} {f : Fo}
end
def inO (vn : Value) (ab : Option Addr) (nb : Nat) (x : Nat) : Prop := vn.ownBlock = some x ∨ (nb ≠ 0 ∧ x = sb ab)
def LeafRes (w w' : World) (e : Ending) (lo P : Nat) (ab : Option Addr) (nb cb : Nat) (r : Int × Int × Fo) : Prop :=
 (r.2.1 ≠ 0 ∧ e = .returned (.tuple #[.int .i64 (-1), .int .i64 r.2.1]) ∧ Below lo w w') ∨
 (r.2.1 = 0 ∧ e = .returned (.tuple #[.int .i64 r.1, .int .i64 0]) ∧ (∃ vn' K', OutAt w' lo P vn' ab nb cb K' r.2.2) ∧ Below lo w w')
structure Stays (f D : Fo) (root : Int) : Prop where
 right : Right D
 ro : RootIs D root
 pl : ∀ k : Int, 0 ≤ k → k ≤ 15 → blockAt D root k = blockAt f root k
 dt : ∀ k : Int, 0 ≤ k → k ≤ 15 → 0 ≤ blockAt f root k → (blockOf D (blockAt f root k).toNat).2 = (blockOf f (blockAt f root k).toNat).2
end Go.Proofs.Ytcpmdcegcpgahaa
