/- From the reading of an argument to the rows that the walks ask: a slice of numbers, a slice of pairs. No program is named. -/
import Derived.Test.YtgldocaohcoleaaGreatQABN
import Derived.ProofKit
import Derived.OpenShut
import Derived.Lib.SmallJoins
import Derived.Deep.SlicePairs
import Derived.Test.YtgldocaohcoleaaGreatQACN
import Derived.Test.YtgldocaohcoleaaGreatRows
set_option maxRecDepth 20000
set_option maxHeartbeats 16000000
namespace Go.Proofs.YtgldocaohcoleaaGreat
open Go.RowKit Go.ChangeShapes Go.WideShapes Go.Deep
theorem addr_add (b off i : Nat) : (⟨b, off, none⟩ : Addr).add i = ⟨b, off + i, none⟩ := by
 simp [Addr.add]
section
variable {H : Type} {enc : TypeId × Value → H} {P : Program} {w : World}
end
end Go.Proofs.YtgldocaohcoleaaGreat
namespace Go.Proofs.YtgldocaohcoleaaGreat
open Go.RowKit Go.ChangeShapes Go.WideShapes Go.Deep
section
variable {H : Type} {enc : TypeId × Value → H} {P : Program} {w : World}
end
theorem Tryz.own : ownKnob Tryz.prog.godebug = none := by kernel_rfl
theorem Tryz.laidOut : laidOutB Tryz.prog = true := by kernel_rfl
def clT (tab : List (List Nat)) : Nat → List Nat → List Nat → List Nat
 | 0, _, seen => seen.reverse
 | _, [], seen => seen.reverse
 | n + 1, f :: todo, seen => if seen.contains f then clT tab n todo seen else clT tab n (tab.getD f [] ++ todo) (f :: seen)
def fuelT (tab : List (List Nat)) : Nat := 1 + (tab.map fun l => l.length + 1).sum
section
variable {P : Program} {tab : List (List Nat)} (h : P.funcs.toList.map P.leadsTo = tab)
include h
theorem lead_is (f : Nat) : (P.funcs[f]?).elim [] P.leadsTo = tab.getD f [] := by
 rw [← h, List.getD_eq_getElem?_getD, List.getElem?_map, Array.getElem?_toList]
 cases P.funcs[f]? <;> rfl
theorem clT_is : ∀ (n : Nat) (todo seen : List Nat), P.closureVia n todo seen = clT tab n todo seen
 | 0, _, _ => rfl
 | n + 1, [], _ => rfl
 | n + 1, f :: todo, seen => by
  unfold Program.closureVia clT
  rw [lead_is h]
  by_cases hs : seen.contains f = true
  ·rw [if_pos hs, if_pos hs]; exact clT_is n _ _
  ·rw [if_neg hs, if_neg hs]; exact clT_is n _ _
theorem closure_is (f : Nat) : P.closure f = clT tab (fuelT tab) [f] [] := by
 unfold Program.closure fuelT
 rw [clT_is h, ← h, List.map_map]
 rfl
end
theorem getD_map {α β : Type} (a : Array α) (g : α → β) (d : β) (i : Nat) : (a.toList.map g).getD i d = (a[i]?).elim d g := by
 rw [List.getD_eq_getElem?_getD, List.getElem?_map, Array.getElem?_toList]
 cases a[i]? <;> rfl
section
variable {P : Program} {tab : List (List Nat)} (h : P.funcs.toList.map P.leadsTo = tab)
include h
theorem unfollowed_at {us : List Bool} (hu : P.funcs.toList.map (fun fn => fn.body.elim (entryCalls fn) Code.unfollowed) = us) (f : Nat) : P.unfollowed f = (clT tab (fuelT tab) [f] []).any fun g => us.getD g false := by
 unfold Program.unfollowed
 rw [closure_is h]
 congr 1
 funext g
 rw [← hu, getD_map]
 cases P.funcs[g]? with
 | none => rfl
 | some fn =>
  rw [Option.any_some]
  show _ = fn.body.elim (entryCalls fn) Code.unfollowed
  cases fn.body <;> rfl
theorem inPlace_at {ip : List (Option String)} (hi : P.funcs.toList.map (fun fn => if fn.ours || fn.body.isNone || fn.name == "runtime.NumGoroutine" then some fn.name else none) = ip) (f : Nat) : P.inPlace f = (clT tab (fuelT tab) [f] []).filterMap fun g => ip.getD g none := by
 unfold Program.inPlace
 rw [closure_is h]
 congr 1
 funext g
 rw [← hi, getD_map]
 cases P.funcs[g]? <;> rfl
theorem varsNamed_at {er : List (Option String)} (hv : (P.funcs.toList.all fun fn => (fn.body.elim [] Code.globalsNamed).isEmpty) = true) (he : P.funcs.toList.map (fun fn => if fn.body.isNone then entryReads.lookup fn.name else none) = er) (f : Nat) : P.varsNamed f = ((clT tab (fuelT tab) [f] []).filterMap fun g => er.getD g none).eraseDups := by
 have key : ∀ g fn, P.funcs[g]? = some fn → fn ∈ P.funcs.toList := fun g fn hg => by
  obtain ⟨hlt, e⟩ := Array.getElem?_eq_some_iff.1 hg
  rw [← e]; exact Array.getElem_mem_toList _
 have e1 : ((P.closure f).flatMap fun g => ((P.funcs[g]?).bind (·.body)).elim [] Code.globalsNamed) = [] := by
  rw [List.flatMap_eq_nil_iff]
  intro g _
  cases hg : P.funcs[g]? with
  | none => rfl
  | some fn =>
   have := List.all_eq_true.1 hv fn (key g fn hg)
   simpa using this
 have e2 : ((P.closure f).filterMap fun g => (P.funcs[g]?).bind fun fn => if fn.body.isNone then entryReads.lookup fn.name else none) = (clT tab (fuelT tab) [f] []).filterMap fun g => er.getD g none := by
  rw [closure_is h]
  congr 1
  funext g
  rw [← he, getD_map]
  cases P.funcs[g]? <;> rfl
 unfold Program.varsNamed
 rw [e1, e2]
 rfl
theorem recurses_unf {f : Nat} (hu : P.unfollowed f = true) : P.recurses f = true := by
 have _ := h
 unfold Program.recurses
 rw [hu, Bool.true_or]
end
theorem ws_app (pre rest : List Char) (h : (pre.all fun c => c != Char.ofNat 32) = true) : wordsSigns (pre ++ Char.ofNat 32 :: rest) = pre :: wordsSigns rest := by
 induction pre with
 | nil => rfl
 | cons c r ih =>
  rw [List.all_cons, Bool.and_eq_true] at h
  have hc : c = Char.ofNat 32 → False := fun e => by rw [e] at h; exact absurd h.1 (by decide)
  rw [List.cons_append, wordsSigns.eq_3 _ _ hc, ih h.2]
theorem signs_of {s : String} {l : List Char} (h : s = String.ofList l) : s.toList = l := by rw [h, String.toList_ofList]
section
variable {P : Program} {c : List Char} {X : List (List Char)} (h : behindMainWord (wordsSigns P.initOrder.toList) = c :: X) (hg : (c == "gc".toList) = false) (hs : (c == "spec".toList) = false) (hc : (c == "cut".toList) = true) (hr : (c == "carried".toList) = false) (hl : stripLifts liftWords (c :: X) = ([], c :: X))
include h hg hs hc hr hl
theorem make_of : P.make = some .cut := by
 have _ := hr; have _ := hl
 unfold Program.make
 rw [h]
 simp only [hg, hs, hc, Bool.or_false, Bool.true_or, Bool.false_eq_true, if_false, if_true]
theorem lifts_of (hn : (some c == some "carried".toList) = false) : P.liftsFinal = false := by
 have _ := hg; have _ := hs; have _ := hc; have _ := hr
 unfold Program.liftsFinal Program.headLifts
 simp only [h, hl, List.head?_cons, hn, Bool.false_and, Bool.false_or]
 split <;> rfl
theorem enter_of (h1 : P.laysLater = false) (h2 : P.bearsReflect = false) (h3 : P.doorFits [] = true) (hn : (some c == some "cut".toList) = true) : P.mayEnter = true := by
 have _ := hc
 unfold Program.mayEnter
 rw [h]
 simp only [hl, List.head?_cons, hg, hs, hr, h1, h2, h3, hn, List.contains_nil, Bool.or_false, Bool.false_and, Bool.and_true, Bool.not_false, Bool.or_true]
end
def leadsT : List (List Nat) := [[], [], [1], [14, 16, 15, 16, 17, 18, 16, 19, 20, 18, 21, 22, 16, 17, 18, 22], [14, 16, 23, 16, 24, 18, 16, 19, 20, 18, 21, 22, 16, 24, 18, 22], [14, 16, 25, 16, 26, 18, 16, 19, 20, 18, 21, 22, 16, 26, 18, 22], [14, 16, 28, 27, 16, 28, 29, 18, 16, 19, 20, 18, 21, 22, 16, 28, 29, 18, 22], [14, 16, 30, 16, 31, 18, 16, 19, 20, 18, 21, 22, 16, 31, 18, 22], [32, 33, 34, 35, 36, 37, 26, 24, 37, 17, 38, 39, 38, 38], [32, 40, 41, 42, 43, 44, 45, 46, 47, 44, 48, 49], [32, 50, 46, 49, 51, 52, 49, 44], [53, 54, 56, 57, 55, 56, 57, 58, 59, 56, 60, 57, 61, 62, 63, 59, 64, 65, 56, 57, 58, 59, 65], [14, 16, 66, 16, 67, 18, 16, 19, 20, 18, 21, 22, 16, 67, 18, 22], [32, 68, 58, 55, 44, 52, 45, 45], [69, 70, 71], [72, 73, 75, 74], [76, 77, 78], [79, 42], [19], [80, 81, 82], [83, 84, 85], [20], [86], [72, 73, 49, 74], [79, 46], [72, 73, 87, 74], [79, 41], [72, 73, 88, 74], [89], [90, 79], [92, 73, 93], [94, 95, 96, 97], [], [98, 99], [100, 51], [101, 73, 102], [103, 104], [], [105, 106], [105, 107], [98, 108], [44, 109, 110, 111], [44, 109, 112, 114, 113, 115, 116, 111], [117], [100, 118, 119, 120, 121, 122, 123, 124], [125], [44, 104, 126, 127, 111, 109, 116, 114, 113, 128, 111], [44, 109, 114], [117], [117, 129, 130, 131, 132, 133, 134, 136, 135], [98, 108], [100, 118, 115, 111], [44, 137], [71, 138, 139, 140], [71], [117, 129, 141, 129, 130, 142, 129], [78, 143, 144, 145], [28, 78], [52, 109, 147, 146, 111], [60, 81], [82, 148, 149, 150], [151, 82], [85, 152, 153, 154], [85], [62, 84], [155, 156], [92, 73, 157], [94, 95, 96, 159, 158, 96, 97], [160], [53], [54], [], [161, 162], [], [73, 163, 164, 165], [117, 129, 129, 130, 166, 167, 131], [56], [57], [28], [168, 95, 158, 97], [60], [61], [151], [85, 152, 153, 154], [85], [], [169, 156, 170], [117, 129, 130], [171, 129, 172, 129, 129, 130, 136, 135], [], [91], [173, 174, 126, 175, 111], [161, 101], [163], [103, 176], [177, 178, 179], [180], [], [], [], [], [], [101, 101, 129], [100, 181, 182, 183], [184], [103], [186, 185], [188, 189, 190], [191, 99, 192, 192, 192, 192], [193], [], [], [], [], [], [104], [194, 195], [101, 101, 196, 101, 197, 101, 198, 101, 199], [120], [120], [], [183, 120], [104], [120], [200], [201], [109], [202, 194, 203], [184, 179, 195], [], [165, 165], [], [204], [134, 165], [], [], [204], [205, 118, 119, 206, 207, 174, 208], [], [], [209], [101, 210, 197, 101, 172, 211], [212, 213, 214, 215, 216, 134, 217], [], [], [218], [219, 220, 221, 222, 223, 224], [179, 179], [], [], [225], [226], [], [], [85], [170, 227, 228, 229], [170], [93, 55, 74, 93], [230, 232], [58], [98, 108, 233], [117, 162, 141, 197], [101], [165, 130, 164], [165], [], [], [134], [103, 176], [170, 227, 228, 229], [], [117, 134], [101, 101, 234], [44, 104], [235, 236, 237], [202, 194, 203], [], [238, 193], [239, 179], [], [], [44], [176, 137], [240, 174], [], [], [187], [], [241, 185], [242], [243, 244, 185], [192, 99, 99, 245, 246, 99, 99, 245, 134, 99, 245, 245, 99, 246, 99], [99], [179, 247, 248, 249], [], [250], [101], [172], [134], [196, 197, 101], [119, 121], [], [251], [195], [], [], [120, 120], [121, 120], [], [71], [101, 196, 101, 101, 101], [], [252, 134, 252, 253, 135, 254], [134, 253, 135, 136, 135], [166, 131, 132, 133, 134, 255], [166, 131, 165, 255], [165, 167, 256, 165, 135, 253, 254], [165], [78], [257, 104, 258, 257, 258, 258, 258, 259], [104, 258, 202], [260, 261], [262, 260, 261], [184, 115, 45, 258, 259], [104, 263], [82], [], [], [], [170], [231], [], [179], [99, 192, 135, 135, 99, 135, 192, 253, 135, 245, 264, 99, 99, 165, 245, 264, 245, 246, 99, 99, 99, 192, 192, 192, 192, 192, 265], [101, 266, 267, 101, 268, 266], [], [], [269, 270, 271], [], [], [], [45], [45, 45], [], [104, 45], [99], [99, 264], [], [], [272, 179], [], [247, 273], [], [], [], [274, 204, 275, 165, 135, 165, 253, 167, 217, 136, 135], [276], [250], [], [258, 195], [112, 116], [114, 113, 128, 277], [184], [179, 195], [99, 99, 278], [264, 99, 192, 192, 279], [101], [101], [101], [], [], [], [], [281, 280], [], [282], [], [262, 283, 113, 284, 286, 285, 258, 115, 194, 263, 202], [99, 99, 99, 99, 99, 99, 245, 99, 99], [278, 99, 192, 192, 192, 192], [287, 288, 289, 290, 291, 292, 293, 294, 295, 280, 280], [296, 297], [], [], [283, 285], [], [283, 285, 298], [293], [299, 299], [300, 301], [302, 302, 302, 303], [], [293, 293, 293], [304, 304], [293, 293], [293, 293, 293, 293], [], [], [305], [293, 293], [281], [], [303], [306, 306, 306], [], [308, 309, 307], [293], [], [304, 304], [310, 310], [], [], [], [], [], [], [], [], [], [], [], [], [], [], [], [], [], []]
theorem leads_is : Tryz.prog.funcs.toList.map Tryz.prog.leadsTo = leadsT := by kernel_rfl
def unfT : List Bool := [false, false, false, false, false, false, false, false, false, false, false, false, false, false, false, false, false, false, false, false, false, false, false, false, false, false, false, false, false, false, false, false, false, false, false, false, false, false, false, false, false, false, false, false, false, false, false, false, false, false, false, false, false, false, false, false, false, false, false, false, false, false, false, false, false, false, false, false, false, false, false, false, false, false, false, false, false, false, false, false, false, false, false, false, false, false, false, false, false, false, false, false, false, false, false, false, false, false, false, false, false, false, false, false, false, true, false, false, false, false, false, false, false, false, false, false, false, false, false, false, false, false, false, false, false, false, false, false, false, false, false, false, false, false, false, false, false, false, false, false, false, false, false, false, false, false, true, false, false, false, false, false, false, false, false, false, false, false, true, false, false, false, false, false, false, false, false, false, false, false, false, false, false, false, false, false, false, false, false, false, false, false, false, false, false, true, false, false, false, false, false, false, false, false, false, false, false, false, false, false, false, false, false, false, false, false, false, false, false, false, false, false, false, false, false, false, false, false, false, false, false, false, false, false, false, false, false, false, false, false, false, false, false, false, false, false, false, false, false, false, true, false, false, false, false, false, false, false, false, false, false, false, false, false, false, false, false, false, false, false, false, false, false, false, false, false, false, false, false, false, false, false, false, false, false, false, false, false, false, false, false, false, false, false, false, false, false, false, false, false, false, false, false, false, false, false, false, false, false, false, false, false, false, false, false, false, false, false, false, false, false, false, false, false, false, false, false, false, false, false, false, false, false, false, false, false, false, false]
theorem unf_is : Tryz.prog.funcs.toList.map (fun fn => fn.body.elim (entryCalls fn) Code.unfollowed) = unfT := by kernel_rfl
def inpT : List (Option String) := [some "main.main", some "gosem.cut", none, none, none, none, none, none, none, none, none, none, none, none, none, none, none, none, none, none, none, none, none, none, none, none, none, none, none, none, none, none, none, none, none, none, none, none, none, none, none, none, none, none, none, none, none, none, none, none, none, none, none, none, none, none, none, none, none, none, none, none, none, none, none, none, none, none, none, none, none, none, none, none, none, none, none, none, none, none, none, none, none, none, none, none, none, none, none, none, none, none, none, none, none, none, none, none, none, none, none, none, none, none, none, none, none, none, none, none, none, none, none, none, none, none, none, none, none, none, none, none, none, none, none, none, none, none, none, none, none, none, none, none, none, none, none, none, none, none, none, none, none, none, none, none, none, none, none, none, none, none, none, none, none, none, none, none, none, none, none, none, none, none, none, none, none, none, none, none, none, none, none, none, none, none, none, none, none, none, none, none, none, none, none, none, none, none, none, none, none, none, none, none, none, none, none, none, none, none, none, none, none, none, none, none, none, none, none, none, none, none, none, none, none, none, none, none, none, none, none, none, none, none, none, none, none, none, none, none, none, none, none, none, none, none, none, none, none, none, none, none, none, none, none, none, none, none, none, none, none, none, none, none, none, none, none, none, none, none, none, none, none, none, none, none, none, none, none, none, none, none, none, none, none, none, none, none, none, none, none, none, none, none, none, none, none, none, none, none, none, none, none, none, none, none, none, none, none, none, none, none, none, none, none, none, none, none, none, none, none, some "(runtime.boundsError).Error", some "(runtime.boundsError).RuntimeError", some "(runtime.errorString).Error", some "(runtime.errorString).RuntimeError", some "(runtime.plainError).Error", some "(runtime.plainError).RuntimeError", some "(runtime.errorAddressString).Error", some "(runtime.errorAddressString).RuntimeError", some "(*runtime.TypeAssertionError).Error", some "(*runtime.TypeAssertionError).RuntimeError", some "(*runtime.PanicNilError).Error", some "(*runtime.PanicNilError).RuntimeError", some "(*internal/abi.Type).Align", some "(internal/runtime/maps.unhashableTypeError).Error", some "(internal/runtime/maps.unhashableTypeError).RuntimeError", none, some "(internal/abi.Kind).String"]
theorem inp_is : Tryz.prog.funcs.toList.map (fun fn => if fn.ours || fn.body.isNone || fn.name == "runtime.NumGoroutine" then some fn.name else none) = inpT := by kernel_rfl
theorem var_ok : (Tryz.prog.funcs.toList.all fun fn => (fn.body.elim [] Code.globalsNamed).isEmpty) = true := by kernel_rfl
def entT : List (Option String) := [none, none, none, none, none, none, none, none, none, none, none, none, none, none, none, none, none, none, none, none, none, none, none, none, none, none, none, none, none, none, none, none, none, none, none, none, none, none, none, none, none, none, none, none, none, none, none, none, none, none, none, none, none, none, none, none, none, none, none, none, none, none, none, none, none, none, none, none, none, none, none, none, none, none, none, none, none, none, none, none, none, none, none, none, none, none, none, none, none, none, none, none, none, none, none, none, none, none, none, none, none, none, none, none, none, none, none, none, none, none, none, none, none, none, none, none, none, none, none, none, none, none, none, none, none, none, none, none, none, none, none, none, none, none, none, none, none, none, none, none, none, none, none, none, none, none, none, none, none, none, none, none, none, none, none, none, none, none, none, none, none, none, none, none, none, none, none, none, none, none, none, none, none, none, none, none, none, none, none, none, none, none, none, none, none, none, none, none, none, none, none, none, none, none, none, none, none, none, none, none, none, none, none, none, none, none, none, none, none, none, none, none, none, none, none, none, none, none, none, none, none, none, none, none, none, none, none, none, none, none, none, none, none, none, none, none, none, none, none, none, none, none, none, none, none, none, none, none, none, none, none, none, none, none, none, none, none, none, none, none, none, none, none, none, none, none, none, none, none, none, none, none, none, none, none, none, none, none, none, none, none, none, none, none, none, none, none, none, none, none, none, none, none, none, none, none, none, none, none, none, none, none, none, none, none, none, none, none, none, none, none, none, none, none, none, none, none, none, none, none, none, none, none, none, none, none, none, none]
theorem ent_is : Tryz.prog.funcs.toList.map (fun fn => if fn.body.isNone then entryReads.lookup fn.name else none) = entT := by kernel_rfl
def headH : List Char := [104, 97, 114, 110, 101, 115, 115].map Char.ofNat
def headS : List Char := [98, 56, 57, 100, 48, 53, 99, 99, 98, 57, 56, 99, 50, 55, 102, 50, 50, 100, 49, 53, 49, 102, 50, 52, 49, 54, 100, 99, 53, 55, 52, 102, 98, 98, 56, 101, 97, 102, 56, 50, 101, 53, 102, 56, 102, 54, 56, 49, 54, 49, 57, 52, 98, 50, 100, 52, 100, 56, 97, 97, 54, 97, 97, 98].map Char.ofNat
def headC : List Char := [99, 117, 116].map Char.ofNat
def headR : List Char := [97, 116, 32, 108, 111, 111, 112, 46, 101, 120, 97, 109, 112, 108, 101, 47, 103, 48, 48, 50, 55, 55, 47, 108, 97, 119, 115, 46, 70, 110, 69, 120, 97, 99, 116, 84, 105, 109, 101, 111, 117, 116, 65, 116, 32, 108, 111, 111, 112, 46, 101, 120, 97, 109, 112, 108, 101, 47, 103, 48, 48, 50, 55, 55, 47, 108, 97, 119, 115, 46, 70, 110, 69, 120, 97, 99, 116, 66, 101, 97, 116, 65, 116, 32, 108, 111, 111, 112, 46, 101, 120, 97, 109, 112, 108, 101, 47, 103, 48, 48, 50, 55, 55, 47, 108, 97, 119, 115, 46, 70, 110, 69, 120, 97, 99, 116, 67, 114, 97, 115, 104, 65, 116, 32, 108, 111, 111, 112, 46, 101, 120, 97, 109, 112, 108, 101, 47, 103, 48, 48, 50, 55, 55, 47, 108, 97, 119, 115, 46, 70, 110, 69, 120, 97, 99, 116, 65, 115, 107, 65, 116, 32, 108, 111, 111, 112, 46, 101, 120, 97, 109, 112, 108, 101, 47, 103, 48, 48, 50, 55, 55, 47, 108, 97, 119, 115, 46, 70, 110, 69, 120, 97, 99, 116, 76, 111, 115, 101, 77, 97, 105, 108, 32, 108, 111, 111, 112, 46, 101, 120, 97, 109, 112, 108, 101, 47, 103, 48, 48, 50, 55, 55, 47, 108, 97, 119, 115, 46, 70, 110, 78, 101, 119, 115, 32, 108, 111, 111, 112, 46, 101, 120, 97, 109, 112, 108, 101, 47, 103, 48, 48, 50, 55, 55, 47, 108, 97, 119, 115, 46, 70, 110, 76, 97, 115, 116, 105, 110, 103, 32, 108, 111, 111, 112, 46, 101, 120, 97, 109, 112, 108, 101, 47, 103, 48, 48, 50, 55, 55, 47, 108, 97, 119, 115, 46, 70, 110, 66, 101, 97, 116, 115, 32, 108, 111, 111, 112, 46, 101, 120, 97, 109, 112, 108, 101, 47, 103, 48, 48, 50, 55, 55, 47, 108, 97, 119, 115, 46, 70, 110, 69, 120, 97, 99, 116, 72, 101, 97, 114, 82, 101, 112, 108, 105, 99, 97, 32, 108, 111, 111, 112, 46, 101, 120, 97, 109, 112, 108, 101, 47, 103, 48, 48, 50, 55, 55, 47, 108, 97, 119, 115, 46, 70, 110, 69, 120, 97, 99, 116, 68, 101, 108, 105, 118, 101, 114, 77, 97, 105, 108, 32, 108, 111, 111, 112, 46, 101, 120, 97, 109, 112, 108, 101, 47, 103, 48, 48, 50, 55, 55, 47, 108, 97, 119, 115, 46, 70, 110, 72, 101, 97, 114, 115].map Char.ofNat
theorem init_is : Tryz.prog.initOrder = String.ofList (headH ++ Char.ofNat 32 :: (headS ++ Char.ofNat 32 :: (headC ++ Char.ofNat 32 :: headR))) := by kernel_rfl
theorem init_words : ∃ X, wordsSigns Tryz.prog.initOrder.toList = headH :: headS :: headC :: X := by
 rw [signs_of init_is, ws_app headH _ (by kernel_rfl), ws_app headS _ (by kernel_rfl), ws_app headC _ (by kernel_rfl)]
 exact ⟨_, rfl⟩
theorem behind_is (X : List (List Char)) : behindMainWord (headH :: headS :: headC :: X) = headC :: X := by kernel_rfl
theorem head_gc : (headC == "gc".toList) = false := by kernel_rfl
theorem head_spec : (headC == "spec".toList) = false := by kernel_rfl
theorem head_cut : (headC == "cut".toList) = true := by kernel_rfl
theorem head_carried : (headC == "carried".toList) = false := by kernel_rfl
theorem strip_is (X : List (List Char)) : stripLifts liftWords (headC :: X) = ([], headC :: X) := by kernel_rfl
theorem lays_no : Tryz.prog.laysLater = false := by kernel_rfl
theorem bears_no : Tryz.prog.bearsReflect = false := by kernel_rfl
theorem door_ok : Tryz.prog.doorFits [] = true := by kernel_rfl
theorem head_carried' : (some headC == some "carried".toList) = false := by kernel_rfl
theorem head_cut' : (some headC == some "cut".toList) = true := by kernel_rfl
theorem words_is : ∃ X, behindMainWord (wordsSigns Tryz.prog.initOrder.toList) = headC :: X := by
 obtain ⟨X, hX⟩ := init_words
 exact ⟨X, by rw [hX, behind_is]⟩
theorem made_cut : Tryz.prog.make = some .cut := by
 obtain ⟨X, hX⟩ := words_is
 exact make_of hX head_gc head_spec head_cut head_carried (strip_is X)
theorem lifts_no : Tryz.prog.liftsFinal = false := by
 obtain ⟨X, hX⟩ := words_is
 exact lifts_of hX head_gc head_spec head_cut head_carried (strip_is X) head_carried'
theorem may_enter : Tryz.prog.mayEnter = true := by
 obtain ⟨X, hX⟩ := words_is
 exact enter_of hX head_gc head_spec head_cut head_carried (strip_is X) lays_no bears_no door_ok head_cut'
end Go.Proofs.YtgldocaohcoleaaGreat
namespace Go.Proofs.YtgldocaohcoleaaGreat
open Go.RowKit Go.ChangeShapes Go.WideShapes Go.Deep
def bls (bs : List Bool) : List Value := bs.map Value.bool
theorem bls_length (bs : List Bool) : (bls bs).length = bs.length := by simp [bls]
theorem bls_getD (bs : List Bool) (i : Nat) (h : i < bs.length) : (bls bs).getD i default = .bool (bs.getD i false) := by simp [bls, List.getD, h]
theorem RowAt.nBools {w : World} {own : Bool} {lo hi : Nat} {ao : Option Addr} {n cap : Nat} {bs : List Bool} (h : RowAt w own lo hi 1 ao n cap (bls bs)) : bs.length = n := by
 have hl := h.len; rw [bls_length, Nat.mul_one] at hl; exact hl
theorem RowAt.bool {w : World} {own : Bool} {lo hi : Nat} {ao : Option Addr} {n cap : Nat} {bs : List Bool} (h : RowAt w own lo hi 1 ao n cap (bls bs)) {k : Nat} (hk : k < n) :
  ∃ b off, ao = some ⟨b, off, none⟩ ∧ lo ≤ b ∧ b < hi ∧ b < w.heap.size ∧ w.cell? ⟨b, off + k, none⟩ = some (.bool (bs.getD k false)) ∧ (own = true → w.frozen? ⟨b, off + k, none⟩ = false) := by
 obtain ⟨b, off, rfl, g1, g2, g3, g4, g5⟩ := h.cells (by omega)
 have hl := h.nBools
 refine ⟨b, off, rfl, g1, g2, g3, ?_, fun ho => g5 ho k (by omega)⟩
 rw [g4 k (by omega), bls_getD bs k (by omega)]
theorem Tryz.info4' : (Tryz.prog.info? 4).map (fun i => (i.zero, i.size, i.bytes)) = some (some (.bool false), 1, 1) := by kernel_rfl
theorem RowAt.boolSet {w : World} {lo hi b off n cap : Nat} {bs : List Bool} (h : RowAt w true lo hi 1 (some ⟨b, off, none⟩) n cap (bls bs)) {i : Nat} (hi' : i < n) (x : Bool) : RowAt (w.setCell ⟨b, off + i, none⟩ (.bool x)) true lo hi 1 (some ⟨b, off, none⟩) n cap (bls (bs.set i x)) := by
 have := h.stored (i := i) (by omega) (.bool x)
 rwa [show (bls bs).set i (.bool x) = bls (bs.set i x) by simp [bls, List.map_set]] at this
end Go.Proofs.YtgldocaohcoleaaGreat
