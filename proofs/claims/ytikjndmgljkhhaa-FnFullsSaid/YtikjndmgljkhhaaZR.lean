/- From the reading of an argument to the rows that the walks ask: a slice of numbers, a slice of pairs. No program is named. -/
import Derived.Test.YtikjndmgljkhhaaBase
import Derived.ProofKit
import Derived.OpenShut
import Derived.Lib.SmallJoins
import Derived.Deep.SlicePairs
import Derived.Test.YtikjndmgljkhhaaZM
import Derived.Test.YtikjndmgljkhhaaRows
namespace Go.Proofs.Ytikjndmgljkhhaa
open Go.RowKit Go.ChangeShapes Go.WideShapes Go.Deep

theorem addr_add (b off i : Nat) : (⟨b, off, none⟩ : Addr).add i = ⟨b, off + i, none⟩ := by
  simp [Addr.add]

section
variable {H : Type} {enc : TypeId × Value → H} {P : Program} {w : World}

end
end Go.Proofs.Ytikjndmgljkhhaa

/- From the reading of an argument to nodes. No program is named. -/
namespace Go.Proofs.Ytikjndmgljkhhaa
open Go.RowKit Go.ChangeShapes Go.WideShapes Go.Deep

section
variable {H : Type} {enc : TypeId × Value → H} {P : Program} {w : World}

end
end Go.Proofs.Ytikjndmgljkhhaa

/- Closed facts of the program's tables that every row of this seat asks. -/
namespace Go.Proofs.Ytikjndmgljkhhaa
theorem Try.own : ownKnob Try.prog.godebug = none := by kernel_rfl
theorem Try.laidOut : laidOutB Try.prog = true := by kernel_rfl
end Go.Proofs.Ytikjndmgljkhhaa

/- What a row asks of the functions that a function comes to, told of a table of who calls whom. No program is named. -/
namespace Go.Proofs.Ytikjndmgljkhhaa
open Go.RowKit

def clT (tab : List (List Nat)) : Nat → List Nat → List Nat → List Nat
  | 0, _, seen => seen.reverse
  | _, [], seen => seen.reverse
  | n + 1, f :: todo, seen => if seen.contains f then clT tab n todo seen else clT tab n (tab.getD f [] ++ todo) (f :: seen)
def fuelT (tab : List (List Nat)) : Nat := 1 + (tab.map fun l => l.length + 1).sum
section
variable {P : Program} {tab : List (List Nat)} (h : P.funcs.toList.map P.leadsTo = tab)
include h
theorem lead_is (f : Nat) : (P.funcs[f]?).elim [] P.leadsTo = tab.getD f [] := by
  rw [← h, List.getD_eq_getElem?_getD, List.getElem?_map, Array.getElem?_toList]
  cases P.funcs[f]? <;> rfl
theorem clT_is : ∀ (n : Nat) (todo seen : List Nat), P.closureVia n todo seen = clT tab n todo seen
  | 0, _, _ => rfl
  | n + 1, [], _ => rfl
  | n + 1, f :: todo, seen => by
    unfold Program.closureVia clT
    rw [lead_is h]
    by_cases hs : seen.contains f = true
    · rw [if_pos hs, if_pos hs]; exact clT_is n _ _
    · rw [if_neg hs, if_neg hs]; exact clT_is n _ _
theorem closure_is (f : Nat) : P.closure f = clT tab (fuelT tab) [f] [] := by
  unfold Program.closure fuelT
  rw [clT_is h, ← h, List.map_map]
  rfl
end
theorem getD_map {α β : Type} (a : Array α) (g : α → β) (d : β) (i : Nat) : (a.toList.map g).getD i d = (a[i]?).elim d g := by
  rw [List.getD_eq_getElem?_getD, List.getElem?_map, Array.getElem?_toList]
  cases a[i]? <;> rfl
section
variable {P : Program} {tab : List (List Nat)} (h : P.funcs.toList.map P.leadsTo = tab)
include h
theorem unfollowed_at {us : List Bool} (hu : P.funcs.toList.map (fun fn => fn.body.elim (entryCalls fn) Code.unfollowed) = us) (f : Nat) : P.unfollowed f = (clT tab (fuelT tab) [f] []).any fun g => us.getD g false := by
  unfold Program.unfollowed
  rw [closure_is h]
  congr 1
  funext g
  rw [← hu, getD_map]
  cases P.funcs[g]? with
  | none => rfl
  | some fn =>
    rw [Option.any_some]
    show _ = fn.body.elim (entryCalls fn) Code.unfollowed
    cases fn.body <;> rfl
theorem inPlace_at {ip : List (Option String)} (hi : P.funcs.toList.map (fun fn => if fn.ours || fn.body.isNone || fn.name == "runtime.NumGoroutine" then some fn.name else none) = ip) (f : Nat) : P.inPlace f = (clT tab (fuelT tab) [f] []).filterMap fun g => ip.getD g none := by
  unfold Program.inPlace
  rw [closure_is h]
  congr 1
  funext g
  rw [← hi, getD_map]
  cases P.funcs[g]? <;> rfl
theorem varsNamed_at {er : List (Option String)} (hv : (P.funcs.toList.all fun fn => (fn.body.elim [] Code.globalsNamed).isEmpty) = true) (he : P.funcs.toList.map (fun fn => if fn.body.isNone then entryReads.lookup fn.name else none) = er) (f : Nat) : P.varsNamed f = ((clT tab (fuelT tab) [f] []).filterMap fun g => er.getD g none).eraseDups := by
  have key : ∀ g fn, P.funcs[g]? = some fn → fn ∈ P.funcs.toList := fun g fn hg => by
    obtain ⟨hlt, e⟩ := Array.getElem?_eq_some_iff.1 hg
    rw [← e]; exact Array.getElem_mem_toList _
  have e1 : ((P.closure f).flatMap fun g => ((P.funcs[g]?).bind (·.body)).elim [] Code.globalsNamed) = [] := by
    rw [List.flatMap_eq_nil_iff]
    intro g _
    cases hg : P.funcs[g]? with
    | none => rfl
    | some fn =>
      have := List.all_eq_true.1 hv fn (key g fn hg)
      simpa using this
  have e2 : ((P.closure f).filterMap fun g => (P.funcs[g]?).bind fun fn => if fn.body.isNone then entryReads.lookup fn.name else none) = (clT tab (fuelT tab) [f] []).filterMap fun g => er.getD g none := by
    rw [closure_is h]
    congr 1
    funext g
    rw [← he, getD_map]
    cases P.funcs[g]? <;> rfl
  unfold Program.varsNamed
  rw [e1, e2]
  rfl
theorem recurses_unf {f : Nat} (hu : P.unfollowed f = true) : P.recurses f = true := by
  have _ := h
  unfold Program.recurses
  rw [hu, Bool.true_or]
end
theorem ws_app (pre rest : List Char) (h : (pre.all fun c => c != Char.ofNat 32) = true) : wordsSigns (pre ++ Char.ofNat 32 :: rest) = pre :: wordsSigns rest := by
  induction pre with
  | nil => rfl
  | cons c r ih =>
    rw [List.all_cons, Bool.and_eq_true] at h
    have hc : c = Char.ofNat 32 → False := fun e => by rw [e] at h; exact absurd h.1 (by decide)
    rw [List.cons_append, wordsSigns.eq_3 _ _ hc, ih h.2]
theorem signs_of {s : String} {l : List Char} (h : s = String.ofList l) : s.toList = l := by rw [h, String.toList_ofList]

section
variable {P : Program} {c : List Char} {X : List (List Char)} (h : behindMainWord (wordsSigns P.initOrder.toList) = c :: X) (hg : (c == "gc".toList) = false) (hs : (c == "spec".toList) = false) (hc : (c == "cut".toList) = true) (hr : (c == "carried".toList) = false) (hl : stripLifts liftWords (c :: X) = ([], c :: X))
include h hg hs hc hr hl
theorem make_of : P.make = some .cut := by
  have _ := hr; have _ := hl
  unfold Program.make
  rw [h]
  simp only [hg, hs, hc, Bool.or_false, Bool.true_or, Bool.false_eq_true, if_false, if_true]
theorem lifts_of (hn : (some c == some "carried".toList) = false) : P.liftsFinal = false := by
  have _ := hg; have _ := hs; have _ := hc; have _ := hr
  unfold Program.liftsFinal Program.headLifts
  simp only [h, hl, List.head?_cons, hn, Bool.false_and, Bool.false_or]
  split <;> rfl
theorem enter_of (h1 : P.laysLater = false) (h2 : P.bearsReflect = false) (h3 : P.doorFits [] = true) (hn : (some c == some "cut".toList) = true) : P.mayEnter = true := by
  have _ := hc
  unfold Program.mayEnter
  rw [h]
  simp only [hl, List.head?_cons, hg, hs, hr, h1, h2, h3, hn, List.contains_nil, Bool.or_false, Bool.false_and, Bool.and_true, Bool.not_false, Bool.or_true]
end

end Go.Proofs.Ytikjndmgljkhhaa

/- Who calls whom in the program; what every row asks of it. -/
namespace Go.Proofs.Ytikjndmgljkhhaa
open Go.RowKit

def leadsT : List (List Nat) := [[], [], [1], [10, 11, 13, 12, 11, 12, 11, 12, 11, 12, 12, 14, 15], [10, 11, 13, 12, 12, 11, 12, 11, 12, 16, 14], [17, 19, 18, 19, 20, 21, 19, 22, 23, 21, 24, 25, 19, 20, 21, 25], [26, 28, 27, 28, 29, 28, 30], [26, 28, 31, 28, 32, 33, 28, 30], [26, 28, 35, 34, 28, 35, 36, 21, 28, 30, 37, 21, 24, 25, 28, 35, 36, 21, 25], [26, 26, 28, 28, 38, 28, 28, 39, 28, 30, 28, 30], [], [], [40, 41, 42, 43, 44], [45], [46], [47, 48], [49, 50], [51, 52], [53, 54], [55, 56], [40, 57, 58, 15], [30], [59, 60], [61, 62], [37], [63], [52, 64, 65], [66], [56, 67, 68], [69, 70, 71, 72], [60, 73, 74], [66, 75], [29, 76, 77], [], [66, 78, 79], [], [29, 41, 76, 80, 58, 81], [62, 82, 83], [], [84, 85], [86, 87, 50, 88], [89, 90, 91], [93, 92], [94], [95, 96, 97, 98, 99, 100], [101], [102, 103, 104], [105], [], [40, 42], [106], [107, 108], [], [109, 110, 111, 112, 113, 114], [115, 116], [117, 118], [119], [120, 106], [121], [122, 123], [124], [125, 126], [], [127, 128, 129], [], [], [111, 130, 131, 132, 111], [133], [], [87], [91, 134, 42, 135, 135, 136], [], [], [137], [], [], [120, 135], [], [111, 110, 138, 111, 139, 110], [140, 141, 142, 75, 132, 142, 142, 143, 144, 142, 145, 142, 143, 140, 145], [146, 42, 147, 148, 77, 149, 150], [], [], [], [], [], [47, 151, 152], [90, 153], [154], [], [], [], [], [], [155, 120], [156, 43, 157, 155], [106, 50, 43, 159, 158], [160, 158], [161, 94], [156, 43, 162, 43, 157], [163, 120, 164], [165], [], [166], [], [167, 134], [], [168], [], [169, 170, 171, 171], [111], [], [111], [115], [171], [172], [], [173], [174], [], [], [], [175], [176], [], [83], [], [], [], [], [110, 111], [138, 139, 141, 177], [], [], [], [], [179, 179, 178], [], [111], [111], [141, 142, 142, 143, 180, 144], [], [143], [], [177], [143], [156, 157], [77, 121], [77], [146, 121], [121, 135, 182, 181], [167, 183, 184], [154], [185], [], [186, 81, 187], [42], [120, 188], [43, 120], [189, 190, 191, 192], [189, 106, 191, 192], [189, 106], [193, 191, 194, 195], [193, 191, 196, 195], [], [197, 198], [], [], [65], [111, 139], [111, 199], [], [200], [68], [], [74], [], [], [], [201, 201], [], [92], [], [], [185, 185], [], [], [], [202, 203], [193, 91], [47, 134, 48, 204, 205, 165], [187], [206, 207, 195], [86, 153], [], [81], [208], [], [], [111, 111], [], [], [], [209], [], [], [210, 210, 183, 211, 211, 208, 212], [210, 183, 196, 211, 196, 212, 196], [196, 213], [214, 214, 214], [183], [], [215, 216], [217, 48, 218, 165], [], [], [194, 219], [47], [197], [217, 48, 165], [], [], [], [], [], [], [], [], [], [], [], [], [], [], [], []]
theorem leads_is : Try.prog.funcs.toList.map Try.prog.leadsTo = leadsT := by kernel_rfl
def unfT : List Bool := [false, false, false, false, false, false, false, false, false, false, false, false, true, false, false, false, false, false, false, false, false, false, false, false, false, false, false, false, false, false, false, false, false, false, false, false, false, false, false, false, false, false, false, false, false, false, false, false, false, false, false, false, false, false, false, false, false, false, false, false, false, false, false, false, false, false, false, false, false, false, false, false, false, false, false, false, false, false, false, false, false, false, false, false, false, false, false, false, false, false, false, false, true, false, false, false, false, false, false, false, false, false, true, false, false, false, false, false, false, false, false, false, false, false, false, false, false, false, false, false, false, false, false, false, false, false, false, false, false, false, false, false, false, false, false, false, false, false, false, false, false, false, false, false, false, false, false, false, false, false, false, false, false, false, false, false, false, false, false, false, false, false, false, false, false, false, false, false, false, false, false, false, false, false, false, false, false, false, false, false, false, true, false, false, false, false, false, false, false, false, false, false, false, false, false, false, false, false, false, false, false, false, false, false, false, false, false, false, false, false, false, false, false, false, false, false, false, false, false, false, false, false, false, false, false, false, false, false, false, false, false, false, false, false, false, false]
theorem unf_is : Try.prog.funcs.toList.map (fun fn => fn.body.elim (entryCalls fn) Code.unfollowed) = unfT := by kernel_rfl
def inpT : List (Option String) := [some "main.main", some "gosem.cut", none, none, none, none, none, none, none, none, none, none, none, none, none, none, none, none, none, none, none, none, none, none, none, none, none, none, none, none, none, none, none, none, none, none, none, none, none, none, none, none, none, none, none, none, none, none, none, none, none, none, none, none, none, none, none, none, none, none, none, none, none, none, none, none, none, none, none, none, none, none, none, none, none, none, none, none, none, none, none, none, none, none, none, none, none, none, none, none, none, none, none, none, none, none, none, none, none, none, none, none, none, none, none, none, none, none, none, none, none, none, none, none, none, none, none, none, none, none, none, none, none, none, none, none, none, none, none, none, none, none, none, none, none, none, none, none, none, none, none, none, none, none, none, none, none, none, none, none, none, none, none, none, none, none, none, none, none, none, none, none, none, none, none, none, none, none, none, none, none, none, none, none, none, none, none, none, none, none, none, none, none, none, none, none, none, none, none, none, none, none, none, none, none, none, none, none, none, none, none, none, some "slices.overlaps[loop.example/g00277/impl.Vol]", none, none, none, none, none, none, none, none, none, none, none, none, none, none, none, none, none, some "(runtime.boundsError).Error", some "(runtime.boundsError).RuntimeError", some "(runtime.errorString).Error", some "(runtime.errorString).RuntimeError", some "(runtime.plainError).Error", some "(runtime.plainError).RuntimeError", some "(runtime.errorAddressString).Error", some "(runtime.errorAddressString).RuntimeError", some "(*runtime.TypeAssertionError).Error", some "(*runtime.TypeAssertionError).RuntimeError", some "(*runtime.PanicNilError).Error", some "(*runtime.PanicNilError).RuntimeError", some "(*internal/abi.Type).Align", some "(internal/runtime/maps.unhashableTypeError).Error", some "(internal/runtime/maps.unhashableTypeError).RuntimeError", some "(internal/abi.Kind).String"]
theorem inp_is : Try.prog.funcs.toList.map (fun fn => if fn.ours || fn.body.isNone || fn.name == "runtime.NumGoroutine" then some fn.name else none) = inpT := by kernel_rfl
theorem var_ok : (Try.prog.funcs.toList.all fun fn => (fn.body.elim [] Code.globalsNamed).isEmpty) = true := by kernel_rfl
def entT : List (Option String) := [none, none, none, none, none, none, none, none, none, none, none, none, none, none, none, none, none, none, none, none, none, none, none, none, none, none, none, none, none, none, none, none, none, none, none, none, none, none, none, none, none, none, none, none, none, none, none, none, none, none, none, none, none, none, none, none, none, none, none, none, none, none, none, none, none, none, none, none, none, none, none, none, none, none, none, none, none, none, none, none, none, none, none, none, none, none, none, none, none, none, none, none, none, none, none, none, none, none, none, none, none, none, none, none, none, none, none, none, none, none, none, none, none, none, none, none, none, none, none, none, none, none, none, none, none, none, none, none, none, none, none, none, none, none, none, none, none, none, none, none, none, none, none, none, none, none, none, none, none, none, none, none, none, none, none, none, none, none, none, none, none, none, none, none, none, none, none, none, none, none, none, none, none, none, none, none, none, none, none, none, none, none, none, none, none, none, none, none, none, none, none, none, none, none, none, none, none, none, none, none, none, none, none, none, none, none, none, none, none, none, none, none, none, none, none, none, none, none, none, none, none, none, none, none, none, none, none, none, none, none, none, none, none, none, none, none]
theorem ent_is : Try.prog.funcs.toList.map (fun fn => if fn.body.isNone then entryReads.lookup fn.name else none) = entT := by kernel_rfl
def headH : List Char := [104, 97, 114, 110, 101, 115, 115].map Char.ofNat
def headS : List Char := [101, 49, 101, 99, 54, 52, 50, 53, 98, 100, 50, 57, 52, 99, 102, 51, 100, 100, 55, 102, 99, 52, 56, 98, 49, 100, 49, 101, 101, 48, 97, 48, 57, 56, 57, 56, 52, 54, 56, 55, 98, 98, 56, 48, 52, 53, 52, 53, 49, 99, 54, 48, 53, 52, 100, 99, 101, 100, 54, 57, 53, 49, 97, 52].map Char.ofNat
def headC : List Char := [99, 117, 116].map Char.ofNat
def headR : List Char := [97, 116, 32, 108, 111, 111, 112, 46, 101, 120, 97, 109, 112, 108, 101, 47, 103, 48, 48, 50, 55, 55, 47, 108, 97, 119, 115, 46, 70, 110, 70, 117, 108, 108, 115, 32, 108, 111, 111, 112, 46, 101, 120, 97, 109, 112, 108, 101, 47, 103, 48, 48, 50, 55, 55, 47, 108, 97, 119, 115, 46, 70, 110, 81, 117, 111, 116, 97, 115, 32, 108, 111, 111, 112, 46, 101, 120, 97, 109, 112, 108, 101, 47, 103, 48, 48, 50, 55, 55, 47, 108, 97, 119, 115, 46, 70, 110, 69, 120, 97, 99, 116, 80, 108, 97, 105, 110, 79, 102, 32, 108, 111, 111, 112, 46, 101, 120, 97, 109, 112, 108, 101, 47, 103, 48, 48, 50, 55, 55, 47, 108, 97, 119, 115, 46, 70, 110, 69, 120, 97, 99, 116, 80, 108, 97, 105, 110, 70, 97, 117, 108, 116, 32, 108, 111, 111, 112, 46, 101, 120, 97, 109, 112, 108, 101, 47, 103, 48, 48, 50, 55, 55, 47, 108, 97, 119, 115, 46, 70, 110, 69, 120, 97, 99, 116, 67, 101, 108, 108, 73, 110, 32, 108, 111, 111, 112, 46, 101, 120, 97, 109, 112, 108, 101, 47, 103, 48, 48, 50, 55, 55, 47, 108, 97, 119, 115, 46, 70, 110, 69, 120, 97, 99, 116, 65, 112, 112, 108, 121, 80, 108, 97, 105, 110, 32, 108, 111, 111, 112, 46, 101, 120, 97, 109, 112, 108, 101, 47, 103, 48, 48, 50, 55, 55, 47, 108, 97, 119, 115, 46, 70, 110, 69, 120, 97, 99, 116, 83, 97, 109, 101, 80, 108, 97, 105, 110, 115].map Char.ofNat
theorem init_is : Try.prog.initOrder = String.ofList (headH ++ Char.ofNat 32 :: (headS ++ Char.ofNat 32 :: (headC ++ Char.ofNat 32 :: headR))) := by kernel_rfl
theorem init_words : ∃ X, wordsSigns Try.prog.initOrder.toList = headH :: headS :: headC :: X := by
  rw [signs_of init_is, ws_app headH _ (by kernel_rfl), ws_app headS _ (by kernel_rfl), ws_app headC _ (by kernel_rfl)]
  exact ⟨_, rfl⟩
theorem behind_is (X : List (List Char)) : behindMainWord (headH :: headS :: headC :: X) = headC :: X := by kernel_rfl
theorem head_gc : (headC == "gc".toList) = false := by kernel_rfl
theorem head_spec : (headC == "spec".toList) = false := by kernel_rfl
theorem head_cut : (headC == "cut".toList) = true := by kernel_rfl
theorem head_carried : (headC == "carried".toList) = false := by kernel_rfl
theorem strip_is (X : List (List Char)) : stripLifts liftWords (headC :: X) = ([], headC :: X) := by kernel_rfl
theorem lays_no : Try.prog.laysLater = false := by kernel_rfl
theorem bears_no : Try.prog.bearsReflect = false := by kernel_rfl
theorem door_ok : Try.prog.doorFits [] = true := by kernel_rfl
theorem head_carried' : (some headC == some "carried".toList) = false := by kernel_rfl
theorem head_cut' : (some headC == some "cut".toList) = true := by kernel_rfl
theorem words_is : ∃ X, behindMainWord (wordsSigns Try.prog.initOrder.toList) = headC :: X := by
  obtain ⟨X, hX⟩ := init_words
  exact ⟨X, by rw [hX, behind_is]⟩
theorem made_cut : Try.prog.make = some .cut := by
  obtain ⟨X, hX⟩ := words_is
  exact make_of hX head_gc head_spec head_cut head_carried (strip_is X)
theorem lifts_no : Try.prog.liftsFinal = false := by
  obtain ⟨X, hX⟩ := words_is
  exact lifts_of hX head_gc head_spec head_cut head_carried (strip_is X) head_carried'
theorem may_enter : Try.prog.mayEnter = true := by
  obtain ⟨X, hX⟩ := words_is
  exact enter_of hX head_gc head_spec head_cut head_carried (strip_is X) lays_no bears_no door_ok head_cut'

end Go.Proofs.Ytikjndmgljkhhaa

/- Closed facts of the program's tables that the rows over forests ask. -/
namespace Go.Proofs.Ytikjndmgljkhhaa
end Go.Proofs.Ytikjndmgljkhhaa
