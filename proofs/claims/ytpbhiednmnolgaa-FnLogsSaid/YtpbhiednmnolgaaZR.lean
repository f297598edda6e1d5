/- From the reading of an argument to the rows that the walks ask: a slice of numbers, a slice of pairs. No program is named. -/
import Derived.Test.YtpbhiednmnolgaaBase
import Derived.ProofKit
import Derived.OpenShut
import Derived.Lib.SmallJoins
import Derived.Deep.SlicePairs
import Derived.Test.YtpbhiednmnolgaaZM
import Derived.Test.YtpbhiednmnolgaaRows
namespace Go.Proofs.Ytpbhiednmnolgaa
open Go.RowKit Go.ChangeShapes Go.WideShapes Go.Deep

section
variable {H : Type} {enc : TypeId × Value → H} {P : Program} {w : World}

end
end Go.Proofs.Ytpbhiednmnolgaa

/- From the reading of an argument to nodes. No program is named. -/
namespace Go.Proofs.Ytpbhiednmnolgaa
open Go.RowKit Go.ChangeShapes Go.WideShapes Go.Deep

section
variable {H : Type} {enc : TypeId × Value → H} {P : Program} {w : World}

end
end Go.Proofs.Ytpbhiednmnolgaa

/- Closed facts of the program's tables that every row of this seat asks. -/
namespace Go.Proofs.Ytpbhiednmnolgaa
theorem Try.own : ownKnob Try.prog.godebug = none := by kernel_rfl
theorem Try.laidOut : laidOutB Try.prog = true := by kernel_rfl
end Go.Proofs.Ytpbhiednmnolgaa

/- What a row asks of the functions that a function comes to, told of a table of who calls whom. No program is named. -/
namespace Go.Proofs.Ytpbhiednmnolgaa
open Go.RowKit

def clT (tab : List (List Nat)) : Nat → List Nat → List Nat → List Nat
  | 0, _, seen => seen.reverse
  | _, [], seen => seen.reverse
  | n + 1, f :: todo, seen => if seen.contains f then clT tab n todo seen else clT tab n (tab.getD f [] ++ todo) (f :: seen)
def fuelT (tab : List (List Nat)) : Nat := 1 + (tab.map fun l => l.length + 1).sum
/-- all that is come to lies in a set that calls lead not out of, and is no higher than where one began -/
theorem clT_in {tab : List (List Nat)} {C : Nat → Bool} {rk : Nat → Nat} (hC : ∀ g, C g = true → ∀ x ∈ tab.getD g [], C x = true ∧ rk x < rk g) (m : Nat) : ∀ (n : Nat) (todo seen : List Nat), (∀ x ∈ todo, C x = true ∧ rk x ≤ m) → (∀ x ∈ seen, C x = true ∧ rk x ≤ m) → ∀ x ∈ clT tab n todo seen, C x = true ∧ rk x ≤ m
  | 0, _, seen, _, h2 => fun x hx => h2 x (by simpa [clT] using hx)
  | n + 1, [], seen, _, h2 => fun x hx => h2 x (by simpa [clT] using hx)
  | n + 1, f :: todo, seen, h1, h2 => fun x hx => by
    unfold clT at hx
    have hf := h1 f (by simp)
    by_cases hs : seen.contains f = true
    · rw [if_pos hs] at hx
      exact clT_in hC m n todo seen (fun y hy => h1 y (by simp [hy])) h2 x hx
    · rw [if_neg hs] at hx
      refine clT_in hC m n _ _ (fun y hy => ?_) (fun y hy => ?_) x hx
      · rcases List.mem_append.1 hy with e | e
        · have := hC f hf.1 y e; exact ⟨this.1, by omega⟩
        · exact h1 y (by simp [e])
      · rcases List.mem_cons.1 hy with e | e
        · rw [e]; exact hf
        · exact h2 y e
section
variable {P : Program} {tab : List (List Nat)} (h : P.funcs.toList.map P.leadsTo = tab)
include h
theorem lead_is (f : Nat) : (P.funcs[f]?).elim [] P.leadsTo = tab.getD f [] := by
  rw [← h, List.getD_eq_getElem?_getD, List.getElem?_map, Array.getElem?_toList]
  cases P.funcs[f]? <;> rfl
theorem clT_is : ∀ (n : Nat) (todo seen : List Nat), P.closureVia n todo seen = clT tab n todo seen
  | 0, _, _ => rfl
  | n + 1, [], _ => rfl
  | n + 1, f :: todo, seen => by
    unfold Program.closureVia clT
    rw [lead_is h]
    by_cases hs : seen.contains f = true
    · rw [if_pos hs, if_pos hs]; exact clT_is n _ _
    · rw [if_neg hs, if_neg hs]; exact clT_is n _ _
theorem closure_is (f : Nat) : P.closure f = clT tab (fuelT tab) [f] [] := by
  unfold Program.closure fuelT
  rw [clT_is h, ← h, List.map_map]
  rfl
end
theorem getD_map {α β : Type} (a : Array α) (g : α → β) (d : β) (i : Nat) : (a.toList.map g).getD i d = (a[i]?).elim d g := by
  rw [List.getD_eq_getElem?_getD, List.getElem?_map, Array.getElem?_toList]
  cases a[i]? <;> rfl
section
variable {P : Program} {tab : List (List Nat)} (h : P.funcs.toList.map P.leadsTo = tab)
include h
theorem unfollowed_at {us : List Bool} (hu : P.funcs.toList.map (fun fn => fn.body.elim (entryCalls fn) Code.unfollowed) = us) (f : Nat) : P.unfollowed f = (clT tab (fuelT tab) [f] []).any fun g => us.getD g false := by
  unfold Program.unfollowed
  rw [closure_is h]
  congr 1
  funext g
  rw [← hu, getD_map]
  cases P.funcs[g]? with
  | none => rfl
  | some fn =>
    rw [Option.any_some]
    show _ = fn.body.elim (entryCalls fn) Code.unfollowed
    cases fn.body <;> rfl
theorem inPlace_at {ip : List (Option String)} (hi : P.funcs.toList.map (fun fn => if fn.ours || fn.body.isNone || fn.name == "runtime.NumGoroutine" then some fn.name else none) = ip) (f : Nat) : P.inPlace f = (clT tab (fuelT tab) [f] []).filterMap fun g => ip.getD g none := by
  unfold Program.inPlace
  rw [closure_is h]
  congr 1
  funext g
  rw [← hi, getD_map]
  cases P.funcs[g]? <;> rfl
theorem varsNamed_at {er : List (Option String)} (hv : (P.funcs.toList.all fun fn => (fn.body.elim [] Code.globalsNamed).isEmpty) = true) (he : P.funcs.toList.map (fun fn => if fn.body.isNone then entryReads.lookup fn.name else none) = er) (f : Nat) : P.varsNamed f = ((clT tab (fuelT tab) [f] []).filterMap fun g => er.getD g none).eraseDups := by
  have key : ∀ g fn, P.funcs[g]? = some fn → fn ∈ P.funcs.toList := fun g fn hg => by
    obtain ⟨hlt, e⟩ := Array.getElem?_eq_some_iff.1 hg
    rw [← e]; exact Array.getElem_mem_toList _
  have e1 : ((P.closure f).flatMap fun g => ((P.funcs[g]?).bind (·.body)).elim [] Code.globalsNamed) = [] := by
    rw [List.flatMap_eq_nil_iff]
    intro g _
    cases hg : P.funcs[g]? with
    | none => rfl
    | some fn =>
      have := List.all_eq_true.1 hv fn (key g fn hg)
      simpa using this
  have e2 : ((P.closure f).filterMap fun g => (P.funcs[g]?).bind fun fn => if fn.body.isNone then entryReads.lookup fn.name else none) = (clT tab (fuelT tab) [f] []).filterMap fun g => er.getD g none := by
    rw [closure_is h]
    congr 1
    funext g
    rw [← he, getD_map]
    cases P.funcs[g]? <;> rfl
  unfold Program.varsNamed
  rw [e1, e2]
  rfl
theorem recurses_no {f : Nat} (hu : P.unfollowed f = false) {C : Nat → Bool} {rk : Nat → Nat} (hC : ∀ g, C g = true → ∀ x ∈ tab.getD g [], C x = true ∧ rk x < rk g) (hf : C f = true) : P.recurses f = false := by
  unfold Program.recurses
  rw [hu, Bool.false_or, List.any_eq_false]
  intro g hg
  rw [closure_is h] at hg
  have hg' := clT_in hC (rk f) _ [f] [] (fun x hx => by simp at hx; rw [hx]; exact ⟨hf, Nat.le_refl _⟩) (fun x hx => by cases hx) g hg
  rw [lead_is h, Bool.not_eq_true, List.any_eq_false]
  intro x hx
  have hx' := hC g hg'.1 x hx
  rw [Bool.not_eq_true, Bool.eq_false_iff]
  intro hc
  rw [closure_is h] at hc
  have := clT_in hC (rk x) _ [x] [] (fun y hy => by simp at hy; rw [hy]; exact ⟨hx'.1, Nat.le_refl _⟩) (fun y hy => by cases hy) g (by simpa using hc)
  omega
end
theorem ranks_of {tab : List (List Nat)} {rks : List Nat} (h : ((List.range tab.length).all fun g => decide (rks.getD g 0 = 0) || (tab.getD g []).all fun x => decide (rks.getD x 0 ≠ 0) && decide (rks.getD x 0 < rks.getD g 0)) = true) : ∀ g, (fun g => decide (rks.getD g 0 ≠ 0)) g = true → ∀ x ∈ tab.getD g [], (fun g => decide (rks.getD g 0 ≠ 0)) x = true ∧ rks.getD x 0 < rks.getD g 0 := fun g hg x hx => by
  have hg' := of_decide_eq_true hg
  by_cases hl : g < tab.length
  · have := List.all_eq_true.1 h g (List.mem_range.2 hl)
    rw [Bool.or_eq_true] at this
    rcases this with e | e
    · exact absurd (of_decide_eq_true e) hg'
    · have := List.all_eq_true.1 e x hx
      rw [Bool.and_eq_true] at this
      exact ⟨this.1, of_decide_eq_true this.2⟩
  · rw [List.getD_eq_getElem?_getD, List.getElem?_eq_none (by omega)] at hx; cases hx
theorem ws_app (pre rest : List Char) (h : (pre.all fun c => c != Char.ofNat 32) = true) : wordsSigns (pre ++ Char.ofNat 32 :: rest) = pre :: wordsSigns rest := by
  induction pre with
  | nil => rfl
  | cons c r ih =>
    rw [List.all_cons, Bool.and_eq_true] at h
    have hc : c = Char.ofNat 32 → False := fun e => by rw [e] at h; exact absurd h.1 (by decide)
    rw [List.cons_append, wordsSigns.eq_3 _ _ hc, ih h.2]
theorem signs_of {s : String} {l : List Char} (h : s = String.ofList l) : s.toList = l := by rw [h, String.toList_ofList]

section
variable {P : Program} {c : List Char} {X : List (List Char)} (h : behindMainWord (wordsSigns P.initOrder.toList) = c :: X) (hg : (c == "gc".toList) = false) (hs : (c == "spec".toList) = false) (hc : (c == "cut".toList) = true) (hr : (c == "carried".toList) = false) (hl : stripLifts liftWords (c :: X) = ([], c :: X))
include h hg hs hc hr hl
theorem make_of : P.make = some .cut := by
  have _ := hr; have _ := hl
  unfold Program.make
  rw [h]
  simp only [hg, hs, hc, Bool.or_false, Bool.true_or, Bool.false_eq_true, if_false, if_true]
theorem lifts_of (hn : (some c == some "carried".toList) = false) : P.liftsFinal = false := by
  have _ := hg; have _ := hs; have _ := hc; have _ := hr
  unfold Program.liftsFinal Program.headLifts
  simp only [h, hl, List.head?_cons, hn, Bool.false_and, Bool.false_or]
  split <;> rfl
theorem enter_of (h1 : P.laysLater = false) (h2 : P.bearsReflect = false) (h3 : P.doorFits [] = true) (hn : (some c == some "cut".toList) = true) : P.mayEnter = true := by
  have _ := hc
  unfold Program.mayEnter
  rw [h]
  simp only [hl, List.head?_cons, hg, hs, hr, h1, h2, h3, hn, List.contains_nil, Bool.or_false, Bool.false_and, Bool.and_true, Bool.not_false, Bool.or_true]
end

end Go.Proofs.Ytpbhiednmnolgaa

/- Who calls whom in the program; what every row asks of it. -/
namespace Go.Proofs.Ytpbhiednmnolgaa
open Go.RowKit

def leadsT : List (List Nat) := [[], [], [1], [12, 13, 14, 16, 15, 17, 18, 16, 19, 20, 14, 21], [12, 22, 23, 24, 25, 25, 25, 26, 27, 28, 29, 30], [31, 19, 31, 20], [32, 33, 30, 33, 29, 33, 34], [31, 35, 31, 16, 36, 37, 38, 31, 16, 36, 38], [39, 17, 39, 14, 40, 39, 41], [32, 32, 33, 33, 24, 33, 33, 23, 33, 34, 33, 34], [32, 32, 33, 33, 42, 33, 33, 25, 33, 34, 33, 34], [43, 39, 44, 28, 39, 44, 27, 45, 39, 41, 44, 46], [], [47, 49, 48, 50, 50, 51, 50], [52, 53], [], [20, 54], [55, 19], [47, 56], [57, 57, 58], [59, 60, 21], [61, 62, 63], [64], [65], [], [66], [47, 50, 50, 67, 68], [69], [], [70, 20], [19], [71], [], [31], [72], [19, 48], [41], [73], [74], [], [72], [], [24], [32], [33], [], [34], [], [], [50, 50, 75], [], [50], [], [76, 77, 76, 20, 76], [], [57], [49, 50, 51, 51, 78], [], [57, 79, 80, 57, 81, 79], [], [], [], [], [], [47, 67, 82, 68, 50, 68, 49], [], [65], [50, 49], [50], [84, 85, 83], [], [], [86], [], [], [50, 50, 50, 50, 50, 50, 68, 50, 50], [], [], [75, 50, 51, 51, 51, 51], [57], [57], [57], [], [], [87, 87], [88, 88], [], [], [], [], [], [], [], [], [], [], [], [], [], [], [], [], [], [], []]
theorem leads_is : Try.prog.funcs.toList.map Try.prog.leadsTo = leadsT := by kernel_rfl
def unfT : List Bool := [false, false, false, false, false, false, false, false, false, false, false, false, false, false, true, false, false, false, false, false, false, false, false, false, false, false, false, false, false, false, false, false, false, false, false, false, false, false, false, false, false, false, false, false, false, false, false, false, false, false, false, false, false, false, false, false, false, false, false, false, false, false, false, false, false, false, false, false, false, false, true, false, false, false, false, false, false, false, false, false, false, false, false, false, false, false, false, false, false, false, false, false, false, false, false, false, false, false, false, false, false, false, false, false, false]
theorem unf_is : Try.prog.funcs.toList.map (fun fn => fn.body.elim (entryCalls fn) Code.unfollowed) = unfT := by kernel_rfl
def inpT : List (Option String) := [some "main.main", some "gosem.cut", none, none, none, none, none, none, none, none, none, none, none, none, none, none, none, none, none, none, none, none, none, none, none, none, none, none, none, none, none, none, none, none, none, none, none, none, none, none, none, none, none, none, none, none, none, none, none, none, none, none, none, none, none, none, none, none, none, none, none, none, none, none, none, none, none, none, none, none, none, none, none, none, none, none, none, none, none, none, none, none, none, none, none, none, none, none, none, some "(runtime.boundsError).Error", some "(runtime.boundsError).RuntimeError", some "(runtime.errorString).Error", some "(runtime.errorString).RuntimeError", some "(runtime.plainError).Error", some "(runtime.plainError).RuntimeError", some "(runtime.errorAddressString).Error", some "(runtime.errorAddressString).RuntimeError", some "(*runtime.TypeAssertionError).Error", some "(*runtime.TypeAssertionError).RuntimeError", some "(*runtime.PanicNilError).Error", some "(*runtime.PanicNilError).RuntimeError", some "(*internal/abi.Type).Align", some "(internal/runtime/maps.unhashableTypeError).Error", some "(internal/runtime/maps.unhashableTypeError).RuntimeError", some "(internal/abi.Kind).String"]
theorem inp_is : Try.prog.funcs.toList.map (fun fn => if fn.ours || fn.body.isNone || fn.name == "runtime.NumGoroutine" then some fn.name else none) = inpT := by kernel_rfl
theorem var_ok : (Try.prog.funcs.toList.all fun fn => (fn.body.elim [] Code.globalsNamed).isEmpty) = true := by kernel_rfl
def entT : List (Option String) := [none, none, none, none, none, none, none, none, none, none, none, none, none, none, none, none, none, none, none, none, none, none, none, none, none, none, none, none, none, none, none, none, none, none, none, none, none, none, none, none, none, none, none, none, none, none, none, none, none, none, none, none, none, none, none, none, none, none, none, none, none, none, none, none, none, none, none, none, none, none, none, none, none, none, none, none, none, none, none, none, none, none, none, none, none, none, none, none, none, none, none, none, none, none, none, none, none, none, none, none, none, none, none, none, none]
theorem ent_is : Try.prog.funcs.toList.map (fun fn => if fn.body.isNone then entryReads.lookup fn.name else none) = entT := by kernel_rfl
def ranksT : List Nat := [1, 1, 2, 7, 8, 5, 6, 6, 6, 4, 4, 5, 1, 5, 5, 1, 4, 5, 6, 4, 3, 2, 7, 2, 1, 3, 6, 4, 1, 4, 5, 2, 1, 3, 3, 5, 2, 2, 2, 1, 3, 1, 2, 2, 4, 1, 4, 1, 1, 4, 1, 2, 1, 4, 1, 2, 5, 1, 3, 1, 1, 1, 1, 1, 6, 1, 2, 5, 2, 3, 1, 1, 2, 1, 1, 3, 1, 1, 4, 2, 2, 2, 1, 1, 2, 2, 1, 1, 1, 1, 1, 1, 1, 1, 1, 1, 1, 1, 1, 1, 1, 1, 1, 1, 1]
theorem ranks_ok : ∀ g, (fun g => decide (ranksT.getD g 0 ≠ 0)) g = true → ∀ x ∈ leadsT.getD g [], (fun g => decide (ranksT.getD g 0 ≠ 0)) x = true ∧ ranksT.getD x 0 < ranksT.getD g 0 := ranks_of (by kernel_rfl)
def headH : List Char := [104, 97, 114, 110, 101, 115, 115].map Char.ofNat
def headS : List Char := [54, 48, 56, 52, 102, 55, 55, 50, 55, 56, 101, 48, 57, 55, 102, 49, 102, 97, 102, 97, 99, 51, 100, 56, 102, 102, 98, 49, 98, 99, 100, 101, 101, 54, 49, 51, 50, 55, 100, 52, 49, 52, 48, 98, 56, 55, 102, 52, 101, 55, 50, 48, 55, 56, 51, 50, 102, 52, 49, 48, 48, 101, 55, 98].map Char.ofNat
def headC : List Char := [99, 117, 116].map Char.ofNat
def headR : List Char := [97, 116, 32, 108, 111, 111, 112, 46, 101, 120, 97, 109, 112, 108, 101, 47, 103, 48, 48, 50, 55, 55, 47, 108, 97, 119, 115, 46, 70, 110, 69, 110, 116, 114, 105, 101, 115, 32, 108, 111, 111, 112, 46, 101, 120, 97, 109, 112, 108, 101, 47, 103, 48, 48, 50, 55, 55, 47, 108, 97, 119, 115, 46, 70, 110, 76, 111, 103, 115, 32, 108, 111, 111, 112, 46, 101, 120, 97, 109, 112, 108, 101, 47, 103, 48, 48, 50, 55, 55, 47, 108, 97, 119, 115, 46, 70, 110, 69, 120, 97, 99, 116, 69, 110, 116, 114, 121, 70, 97, 117, 108, 116, 32, 108, 111, 111, 112, 46, 101, 120, 97, 109, 112, 108, 101, 47, 103, 48, 48, 50, 55, 55, 47, 108, 97, 119, 115, 46, 70, 110, 69, 120, 97, 99, 116, 76, 111, 103, 70, 97, 117, 108, 116, 32, 108, 111, 111, 112, 46, 101, 120, 97, 109, 112, 108, 101, 47, 103, 48, 48, 50, 55, 55, 47, 108, 97, 119, 115, 46, 70, 110, 69, 120, 97, 99, 116, 80, 97, 99, 107, 69, 110, 116, 114, 121, 32, 108, 111, 111, 112, 46, 101, 120, 97, 109, 112, 108, 101, 47, 103, 48, 48, 50, 55, 55, 47, 108, 97, 119, 115, 46, 70, 110, 69, 120, 97, 99, 116, 85, 110, 112, 97, 99, 107, 69, 110, 116, 114, 121, 32, 108, 111, 111, 112, 46, 101, 120, 97, 109, 112, 108, 101, 47, 103, 48, 48, 50, 55, 55, 47, 108, 97, 119, 115, 46, 70, 110, 69, 120, 97, 99, 116, 67, 111, 109, 109, 111, 110, 79, 102, 32, 108, 111, 111, 112, 46, 101, 120, 97, 109, 112, 108, 101, 47, 103, 48, 48, 50, 55, 55, 47, 108, 97, 119, 115, 46, 70, 110, 69, 120, 97, 99, 116, 73, 115, 66, 101, 103, 105, 110, 110, 105, 110, 103, 32, 108, 111, 111, 112, 46, 101, 120, 97, 109, 112, 108, 101, 47, 103, 48, 48, 50, 55, 55, 47, 108, 97, 119, 115, 46, 70, 110, 69, 120, 97, 99, 116, 66, 101, 115, 116, 76, 111, 103].map Char.ofNat
theorem init_is : Try.prog.initOrder = String.ofList (headH ++ Char.ofNat 32 :: (headS ++ Char.ofNat 32 :: (headC ++ Char.ofNat 32 :: headR))) := by kernel_rfl
theorem init_words : ∃ X, wordsSigns Try.prog.initOrder.toList = headH :: headS :: headC :: X := by
  rw [signs_of init_is, ws_app headH _ (by kernel_rfl), ws_app headS _ (by kernel_rfl), ws_app headC _ (by kernel_rfl)]
  exact ⟨_, rfl⟩
theorem behind_is (X : List (List Char)) : behindMainWord (headH :: headS :: headC :: X) = headC :: X := by kernel_rfl
theorem head_gc : (headC == "gc".toList) = false := by kernel_rfl
theorem head_spec : (headC == "spec".toList) = false := by kernel_rfl
theorem head_cut : (headC == "cut".toList) = true := by kernel_rfl
theorem head_carried : (headC == "carried".toList) = false := by kernel_rfl
theorem strip_is (X : List (List Char)) : stripLifts liftWords (headC :: X) = ([], headC :: X) := by kernel_rfl
theorem lays_no : Try.prog.laysLater = false := by kernel_rfl
theorem bears_no : Try.prog.bearsReflect = false := by kernel_rfl
theorem door_ok : Try.prog.doorFits [] = true := by kernel_rfl
theorem head_carried' : (some headC == some "carried".toList) = false := by kernel_rfl
theorem head_cut' : (some headC == some "cut".toList) = true := by kernel_rfl
theorem words_is : ∃ X, behindMainWord (wordsSigns Try.prog.initOrder.toList) = headC :: X := by
  obtain ⟨X, hX⟩ := init_words
  exact ⟨X, by rw [hX, behind_is]⟩
theorem made_cut : Try.prog.make = some .cut := by
  obtain ⟨X, hX⟩ := words_is
  exact make_of hX head_gc head_spec head_cut head_carried (strip_is X)
theorem lifts_no : Try.prog.liftsFinal = false := by
  obtain ⟨X, hX⟩ := words_is
  exact lifts_of hX head_gc head_spec head_cut head_carried (strip_is X) head_carried'
theorem may_enter : Try.prog.mayEnter = true := by
  obtain ⟨X, hX⟩ := words_is
  exact enter_of hX head_gc head_spec head_cut head_carried (strip_is X) lays_no bears_no door_ok head_cut'

end Go.Proofs.Ytpbhiednmnolgaa

/- Closed facts of the program's tables that the rows over forests ask. -/
namespace Go.Proofs.Ytpbhiednmnolgaa
end Go.Proofs.Ytpbhiednmnolgaa
