/- From the reading of an argument to the rows that the walks ask: a slice of numbers, a slice of pairs. No program is named. -/
import Derived.Test.YtikplcpgocgogaaBase
import Derived.ProofKit
import Derived.OpenShut
import Derived.Lib.SmallJoins
import Derived.Deep.SlicePairs
import Derived.Test.YtikplcpgocgogaaZM
import Derived.Test.YtikplcpgocgogaaRows
namespace Go.Proofs.Ytikplcpgocgogaa
open Go.RowKit Go.ChangeShapes Go.WideShapes Go.Deep

theorem addr_add (b off i : Nat) : (⟨b, off, none⟩ : Addr).add i = ⟨b, off + i, none⟩ := by
  simp [Addr.add]

section
variable {H : Type} {enc : TypeId × Value → H} {P : Program} {w : World}

end
end Go.Proofs.Ytikplcpgocgogaa

/- From the reading of an argument to nodes. No program is named. -/
namespace Go.Proofs.Ytikplcpgocgogaa
open Go.RowKit Go.ChangeShapes Go.WideShapes Go.Deep

section
variable {H : Type} {enc : TypeId × Value → H} {P : Program} {w : World}

end
end Go.Proofs.Ytikplcpgocgogaa

/- Closed facts of the program's tables that every row of this seat asks. -/
namespace Go.Proofs.Ytikplcpgocgogaa
theorem Try.own : ownKnob Try.prog.godebug = none := by kernel_rfl
theorem Try.laidOut : laidOutB Try.prog = true := by kernel_rfl
end Go.Proofs.Ytikplcpgocgogaa

/- What a row asks of the functions that a function comes to, told of a table of who calls whom. No program is named. -/
namespace Go.Proofs.Ytikplcpgocgogaa
open Go.RowKit

def clT (tab : List (List Nat)) : Nat → List Nat → List Nat → List Nat
  | 0, _, seen => seen.reverse
  | _, [], seen => seen.reverse
  | n + 1, f :: todo, seen => if seen.contains f then clT tab n todo seen else clT tab n (tab.getD f [] ++ todo) (f :: seen)
def fuelT (tab : List (List Nat)) : Nat := 1 + (tab.map fun l => l.length + 1).sum
section
variable {P : Program} {tab : List (List Nat)} (h : P.funcs.toList.map P.leadsTo = tab)
include h
theorem lead_is (f : Nat) : (P.funcs[f]?).elim [] P.leadsTo = tab.getD f [] := by
  rw [← h, List.getD_eq_getElem?_getD, List.getElem?_map, Array.getElem?_toList]
  cases P.funcs[f]? <;> rfl
theorem clT_is : ∀ (n : Nat) (todo seen : List Nat), P.closureVia n todo seen = clT tab n todo seen
  | 0, _, _ => rfl
  | n + 1, [], _ => rfl
  | n + 1, f :: todo, seen => by
    unfold Program.closureVia clT
    rw [lead_is h]
    by_cases hs : seen.contains f = true
    · rw [if_pos hs, if_pos hs]; exact clT_is n _ _
    · rw [if_neg hs, if_neg hs]; exact clT_is n _ _
theorem closure_is (f : Nat) : P.closure f = clT tab (fuelT tab) [f] [] := by
  unfold Program.closure fuelT
  rw [clT_is h, ← h, List.map_map]
  rfl
end
theorem getD_map {α β : Type} (a : Array α) (g : α → β) (d : β) (i : Nat) : (a.toList.map g).getD i d = (a[i]?).elim d g := by
  rw [List.getD_eq_getElem?_getD, List.getElem?_map, Array.getElem?_toList]
  cases a[i]? <;> rfl
section
variable {P : Program} {tab : List (List Nat)} (h : P.funcs.toList.map P.leadsTo = tab)
include h
theorem unfollowed_at {us : List Bool} (hu : P.funcs.toList.map (fun fn => fn.body.elim (entryCalls fn) Code.unfollowed) = us) (f : Nat) : P.unfollowed f = (clT tab (fuelT tab) [f] []).any fun g => us.getD g false := by
  unfold Program.unfollowed
  rw [closure_is h]
  congr 1
  funext g
  rw [← hu, getD_map]
  cases P.funcs[g]? with
  | none => rfl
  | some fn =>
    rw [Option.any_some]
    show _ = fn.body.elim (entryCalls fn) Code.unfollowed
    cases fn.body <;> rfl
theorem inPlace_at {ip : List (Option String)} (hi : P.funcs.toList.map (fun fn => if fn.ours || fn.body.isNone || fn.name == "runtime.NumGoroutine" then some fn.name else none) = ip) (f : Nat) : P.inPlace f = (clT tab (fuelT tab) [f] []).filterMap fun g => ip.getD g none := by
  unfold Program.inPlace
  rw [closure_is h]
  congr 1
  funext g
  rw [← hi, getD_map]
  cases P.funcs[g]? <;> rfl
theorem varsNamed_at {er : List (Option String)} (hv : (P.funcs.toList.all fun fn => (fn.body.elim [] Code.globalsNamed).isEmpty) = true) (he : P.funcs.toList.map (fun fn => if fn.body.isNone then entryReads.lookup fn.name else none) = er) (f : Nat) : P.varsNamed f = ((clT tab (fuelT tab) [f] []).filterMap fun g => er.getD g none).eraseDups := by
  have key : ∀ g fn, P.funcs[g]? = some fn → fn ∈ P.funcs.toList := fun g fn hg => by
    obtain ⟨hlt, e⟩ := Array.getElem?_eq_some_iff.1 hg
    rw [← e]; exact Array.getElem_mem_toList _
  have e1 : ((P.closure f).flatMap fun g => ((P.funcs[g]?).bind (·.body)).elim [] Code.globalsNamed) = [] := by
    rw [List.flatMap_eq_nil_iff]
    intro g _
    cases hg : P.funcs[g]? with
    | none => rfl
    | some fn =>
      have := List.all_eq_true.1 hv fn (key g fn hg)
      simpa using this
  have e2 : ((P.closure f).filterMap fun g => (P.funcs[g]?).bind fun fn => if fn.body.isNone then entryReads.lookup fn.name else none) = (clT tab (fuelT tab) [f] []).filterMap fun g => er.getD g none := by
    rw [closure_is h]
    congr 1
    funext g
    rw [← he, getD_map]
    cases P.funcs[g]? <;> rfl
  unfold Program.varsNamed
  rw [e1, e2]
  rfl
theorem recurses_unf {f : Nat} (hu : P.unfollowed f = true) : P.recurses f = true := by
  have _ := h
  unfold Program.recurses
  rw [hu, Bool.true_or]
end
theorem ws_app (pre rest : List Char) (h : (pre.all fun c => c != Char.ofNat 32) = true) : wordsSigns (pre ++ Char.ofNat 32 :: rest) = pre :: wordsSigns rest := by
  induction pre with
  | nil => rfl
  | cons c r ih =>
    rw [List.all_cons, Bool.and_eq_true] at h
    have hc : c = Char.ofNat 32 → False := fun e => by rw [e] at h; exact absurd h.1 (by decide)
    rw [List.cons_append, wordsSigns.eq_3 _ _ hc, ih h.2]
theorem signs_of {s : String} {l : List Char} (h : s = String.ofList l) : s.toList = l := by rw [h, String.toList_ofList]

section
variable {P : Program} {c : List Char} {X : List (List Char)} (h : behindMainWord (wordsSigns P.initOrder.toList) = c :: X) (hg : (c == "gc".toList) = false) (hs : (c == "spec".toList) = false) (hc : (c == "cut".toList) = true) (hr : (c == "carried".toList) = false) (hl : stripLifts liftWords (c :: X) = ([], c :: X))
include h hg hs hc hr hl
theorem make_of : P.make = some .cut := by
  have _ := hr; have _ := hl
  unfold Program.make
  rw [h]
  simp only [hg, hs, hc, Bool.or_false, Bool.true_or, Bool.false_eq_true, if_false, if_true]
theorem lifts_of (hn : (some c == some "carried".toList) = false) : P.liftsFinal = false := by
  have _ := hg; have _ := hs; have _ := hc; have _ := hr
  unfold Program.liftsFinal Program.headLifts
  simp only [h, hl, List.head?_cons, hn, Bool.false_and, Bool.false_or]
  split <;> rfl
theorem enter_of (h1 : P.laysLater = false) (h2 : P.bearsReflect = false) (h3 : P.doorFits [] = true) (hn : (some c == some "cut".toList) = true) : P.mayEnter = true := by
  have _ := hc
  unfold Program.mayEnter
  rw [h]
  simp only [hl, List.head?_cons, hg, hs, hr, h1, h2, h3, hn, List.contains_nil, Bool.or_false, Bool.false_and, Bool.and_true, Bool.not_false, Bool.or_true]
end

end Go.Proofs.Ytikplcpgocgogaa

/- Who calls whom in the program; what every row asks of it. -/
namespace Go.Proofs.Ytikplcpgocgogaa
open Go.RowKit

def leadsT : List (List Nat) := [[], [], [1], [8, 9, 10, 11, 12, 13, 14], [8, 15, 16, 17, 18, 19, 20, 21, 20, 19], [22, 23, 25, 26, 24, 25, 26, 27, 25, 28, 26, 29], [30, 32, 31, 32, 33, 32, 34], [35, 36, 37, 38, 39, 36, 37, 39], [], [40, 41, 42, 43, 44, 45], [46, 47, 48, 49, 50], [51, 52, 53, 52, 52, 54, 56, 55], [57, 58, 59], [46, 48, 60], [58, 61, 57, 62, 63, 64, 65, 66], [67], [14, 68, 69, 70], [14, 68, 71], [14, 68, 72], [73, 74, 75], [73, 76], [73, 77], [78, 79, 80, 81], [78], [73, 82], [83, 84, 85, 86], [87, 83], [14, 88], [89, 90, 91, 92], [93, 89], [94, 95, 78], [96], [97, 98, 83], [58, 99, 100, 101], [102, 103, 89], [104, 105, 43], [58, 106], [34], [107], [108], [], [109, 110, 111, 111, 111, 111], [110], [104, 104, 52], [110, 112], [112, 110, 111, 111, 113], [14, 114], [115, 116, 117], [68], [118, 119, 120], [], [73, 74], [], [104, 104, 121], [122, 122], [], [123], [62], [], [], [124, 125], [62], [], [101, 62], [114], [62], [126], [40, 41, 41, 42, 55], [127], [59], [71, 128, 129], [], [59, 131, 130], [104, 104, 132, 104, 133, 104, 134, 104, 135], [], [136], [], [74, 122], [], [], [], [137], [104, 138, 133, 104, 53, 139], [87], [], [], [140], [141], [142, 61, 57, 143, 144, 47, 145], [93], [], [], [146], [147], [22], [23], [73, 148, 82, 133], [25], [26], [14], [149, 88], [150, 47], [28], [29], [], [], [58, 61, 151, 50], [152, 153, 154], [155, 156, 157], [111, 110, 110, 42, 44, 110, 110, 42, 74, 110, 42, 42, 110, 44, 110], [], [110], [110, 110, 158], [158, 110, 111, 111, 111, 111], [59], [], [], [159, 160, 161], [60], [], [130], [104, 162, 163, 104, 164, 162], [], [], [], [166, 165], [57, 63], [131, 124, 167, 168], [], [169], [170], [], [104], [53], [74], [132, 133, 104], [], [78], [104, 132, 104, 104, 104], [], [83], [], [], [62, 62], [63, 62], [], [89], [], [104], [], [], [114], [154, 171, 172, 173], [154], [], [157, 174, 175, 176], [157], [], [110, 110, 110, 110, 110, 110, 42, 110, 110], [], [], [], [104], [104], [104], [177, 178, 179, 180, 181, 182, 183, 184, 185, 165, 165], [186, 187], [], [188, 131], [190, 191, 189], [], [], [], [154], [], [], [157], [183], [192, 192], [193, 194], [195, 195, 195, 196], [], [183, 183, 183], [197, 197], [183, 183], [183, 183, 183, 183], [], [], [], [], [197, 197], [198, 198], [183, 183], [166], [], [196], [199, 199, 199], [], [], [183], [], [], [], [], [], [], [], [], [], [], [], [], [], [], [], [], []]
theorem leads_is : Try.prog.funcs.toList.map Try.prog.leadsTo = leadsT := by kernel_rfl
def unfT : List Bool := [false, false, false, false, false, false, false, false, false, false, false, false, false, false, false, false, false, false, false, false, false, false, false, false, false, false, false, false, false, false, false, false, false, false, false, false, false, false, false, false, false, false, false, false, false, false, false, false, false, false, false, false, false, false, false, false, false, false, false, false, false, false, false, false, false, false, false, false, false, false, false, false, false, false, false, false, false, false, false, false, false, false, false, false, false, false, false, false, false, false, false, false, false, false, false, false, false, false, false, false, false, false, false, false, false, false, false, false, false, false, false, false, false, false, false, false, false, false, false, false, false, false, false, false, false, false, false, false, false, false, false, false, false, false, false, false, false, false, false, false, false, false, false, false, false, false, false, false, false, false, true, false, false, false, false, false, false, false, false, false, false, false, false, false, false, false, false, false, false, false, false, false, false, false, false, false, false, false, false, false, false, false, false, false, false, false, false, false, false, false, false, false, false, false, false, false, false, false, false, false, false, false, false, false, false, false, false, false, false, false, false, false, false, false, false, false, false]
theorem unf_is : Try.prog.funcs.toList.map (fun fn => fn.body.elim (entryCalls fn) Code.unfollowed) = unfT := by kernel_rfl
def inpT : List (Option String) := [some "main.main", some "gosem.cut", none, none, none, none, none, none, none, none, none, none, none, none, none, none, none, none, none, none, none, none, none, none, none, none, none, none, none, none, none, none, none, none, none, none, none, none, none, none, none, none, none, none, none, none, none, none, none, none, none, none, none, none, none, none, none, none, none, none, none, none, none, none, none, none, none, none, none, none, none, none, none, none, none, none, none, none, none, none, none, none, none, none, none, none, none, none, none, none, none, none, none, none, none, none, none, none, none, none, none, none, none, none, none, none, none, none, none, none, none, none, none, none, none, none, none, none, none, none, none, none, none, none, none, none, none, none, none, none, none, none, none, none, none, none, none, none, none, none, none, none, none, none, none, none, none, none, none, none, none, none, none, none, none, none, none, none, none, none, none, none, none, none, none, none, none, none, none, none, none, none, none, none, none, none, none, none, none, none, none, none, none, none, none, none, none, none, none, none, none, none, none, none, none, none, none, none, none, none, some "(runtime.boundsError).Error", some "(runtime.boundsError).RuntimeError", some "(runtime.errorString).Error", some "(runtime.errorString).RuntimeError", some "(runtime.plainError).Error", some "(runtime.plainError).RuntimeError", some "(runtime.errorAddressString).Error", some "(runtime.errorAddressString).RuntimeError", some "(*runtime.TypeAssertionError).Error", some "(*runtime.TypeAssertionError).RuntimeError", some "(*runtime.PanicNilError).Error", some "(*runtime.PanicNilError).RuntimeError", some "(*internal/abi.Type).Align", some "(internal/runtime/maps.unhashableTypeError).Error", some "(internal/runtime/maps.unhashableTypeError).RuntimeError", some "(loop.example/g00277/impl.ordered[loop.example/g00277/impl.Entry]).begins", some "(internal/abi.Kind).String"]
theorem inp_is : Try.prog.funcs.toList.map (fun fn => if fn.ours || fn.body.isNone || fn.name == "runtime.NumGoroutine" then some fn.name else none) = inpT := by kernel_rfl
theorem var_ok : (Try.prog.funcs.toList.all fun fn => (fn.body.elim [] Code.globalsNamed).isEmpty) = true := by kernel_rfl
def entT : List (Option String) := [none, none, none, none, none, none, none, none, none, none, none, none, none, none, none, none, none, none, none, none, none, none, none, none, none, none, none, none, none, none, none, none, none, none, none, none, none, none, none, none, none, none, none, none, none, none, none, none, none, none, none, none, none, none, none, none, none, none, none, none, none, none, none, none, none, none, none, none, none, none, none, none, none, none, none, none, none, none, none, none, none, none, none, none, none, none, none, none, none, none, none, none, none, none, none, none, none, none, none, none, none, none, none, none, none, none, none, none, none, none, none, none, none, none, none, none, none, none, none, none, none, none, none, none, none, none, none, none, none, none, none, none, none, none, none, none, none, none, none, none, none, none, none, none, none, none, none, none, none, none, none, none, none, none, none, none, none, none, none, none, none, none, none, none, none, none, none, none, none, none, none, none, none, none, none, none, none, none, none, none, none, none, none, none, none, none, none, none, none, none, none, none, none, none, none, none, none, none, none, none, none, none, none, none, none, none, none, none, none, none, none, none, none, none, none, none, none]
theorem ent_is : Try.prog.funcs.toList.map (fun fn => if fn.body.isNone then entryReads.lookup fn.name else none) = entT := by kernel_rfl
def headH : List Char := [104, 97, 114, 110, 101, 115, 115].map Char.ofNat
def headS : List Char := [57, 97, 55, 54, 54, 49, 49, 56, 55, 101, 98, 54, 53, 51, 50, 102, 97, 48, 51, 49, 50, 52, 48, 54, 52, 48, 48, 98, 50, 53, 55, 49, 53, 54, 53, 99, 102, 49, 102, 101, 53, 54, 54, 97, 49, 51, 56, 102, 100, 48, 102, 56, 50, 53, 99, 98, 52, 55, 55, 56, 99, 98, 98, 49].map Char.ofNat
def headC : List Char := [99, 117, 116].map Char.ofNat
def headR : List Char := [97, 116, 32, 108, 111, 111, 112, 46, 101, 120, 97, 109, 112, 108, 101, 47, 103, 48, 48, 50, 55, 55, 47, 108, 97, 119, 115, 46, 70, 110, 80, 114, 105, 109, 97, 114, 105, 101, 115, 32, 108, 111, 111, 112, 46, 101, 120, 97, 109, 112, 108, 101, 47, 103, 48, 48, 50, 55, 55, 47, 108, 97, 119, 115, 46, 70, 110, 67, 104, 111, 105, 99, 101, 115, 32, 108, 111, 111, 112, 46, 101, 120, 97, 109, 112, 108, 101, 47, 103, 48, 48, 50, 55, 55, 47, 108, 97, 119, 115, 46, 70, 110, 69, 120, 97, 99, 116, 77, 97, 105, 108, 70, 97, 117, 108, 116, 32, 108, 111, 111, 112, 46, 101, 120, 97, 109, 112, 108, 101, 47, 103, 48, 48, 50, 55, 55, 47, 108, 97, 119, 115, 46, 70, 110, 69, 120, 97, 99, 116, 67, 108, 117, 115, 116, 101, 114, 70, 97, 117, 108, 116, 32, 108, 111, 111, 112, 46, 101, 120, 97, 109, 112, 108, 101, 47, 103, 48, 48, 50, 55, 55, 47, 108, 97, 119, 115, 46, 70, 110, 69, 120, 97, 99, 116, 78, 101, 119, 67, 108, 117, 115, 116, 101, 114].map Char.ofNat
theorem init_is : Try.prog.initOrder = String.ofList (headH ++ Char.ofNat 32 :: (headS ++ Char.ofNat 32 :: (headC ++ Char.ofNat 32 :: headR))) := by kernel_rfl
theorem init_words : ∃ X, wordsSigns Try.prog.initOrder.toList = headH :: headS :: headC :: X := by
  rw [signs_of init_is, ws_app headH _ (by kernel_rfl), ws_app headS _ (by kernel_rfl), ws_app headC _ (by kernel_rfl)]
  exact ⟨_, rfl⟩
theorem behind_is (X : List (List Char)) : behindMainWord (headH :: headS :: headC :: X) = headC :: X := by kernel_rfl
theorem head_gc : (headC == "gc".toList) = false := by kernel_rfl
theorem head_spec : (headC == "spec".toList) = false := by kernel_rfl
theorem head_cut : (headC == "cut".toList) = true := by kernel_rfl
theorem head_carried : (headC == "carried".toList) = false := by kernel_rfl
theorem strip_is (X : List (List Char)) : stripLifts liftWords (headC :: X) = ([], headC :: X) := by kernel_rfl
theorem lays_no : Try.prog.laysLater = false := by kernel_rfl
theorem bears_no : Try.prog.bearsReflect = false := by kernel_rfl
theorem door_ok : Try.prog.doorFits [] = true := by kernel_rfl
theorem head_carried' : (some headC == some "carried".toList) = false := by kernel_rfl
theorem head_cut' : (some headC == some "cut".toList) = true := by kernel_rfl
theorem words_is : ∃ X, behindMainWord (wordsSigns Try.prog.initOrder.toList) = headC :: X := by
  obtain ⟨X, hX⟩ := init_words
  exact ⟨X, by rw [hX, behind_is]⟩
theorem made_cut : Try.prog.make = some .cut := by
  obtain ⟨X, hX⟩ := words_is
  exact make_of hX head_gc head_spec head_cut head_carried (strip_is X)
theorem lifts_no : Try.prog.liftsFinal = false := by
  obtain ⟨X, hX⟩ := words_is
  exact lifts_of hX head_gc head_spec head_cut head_carried (strip_is X) head_carried'
theorem may_enter : Try.prog.mayEnter = true := by
  obtain ⟨X, hX⟩ := words_is
  exact enter_of hX head_gc head_spec head_cut head_carried (strip_is X) lays_no bears_no door_ok head_cut'

end Go.Proofs.Ytikplcpgocgogaa

/- Closed facts of the program's tables that the rows over forests ask. -/
namespace Go.Proofs.Ytikplcpgocgogaa
end Go.Proofs.Ytikplcpgocgogaa
