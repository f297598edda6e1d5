/- Chapter 8: entries in memory: rows of six cells. -/
import Derived.Test.YtonclmbihhdkpaaGreatQAC
import Derived.Test.YtonclmbihhdkpaaGreatZO
import Derived.Test.YtonclmbihhdkpaaGreatQAB
import Derived.ProofKit
import Derived.OpenShut
import Derived.Lib.SmallJoins
import Derived.Deep.SlicePairs
import Derived.Test.YtonclmbihhdkpaaGreatRows
set_option maxRecDepth 20000
set_option maxHeartbeats 16000000
namespace Go.Proofs.YtonclmbihhdkpaaGreat
open Go.RowKit
abbrev En := Int × Int × Int × Int × Int × Int
def en0 : En := (0, 0, 0, 0, 0, 0)
def enF (x : En) (j : Nat) : Int := if j = 0 then x.1 else if j = 1 then x.2.1 else if j = 2 then x.2.2.1 else if j = 3 then x.2.2.2.1 else if j = 4 then x.2.2.2.2.1 else x.2.2.2.2.2
def sixs (xs : List En) : List Value := (List.range (xs.length * 6)).map fun j => .int .i64 (enF (xs.getD (j / 6) en0) (j % 6))
theorem sixs_len (xs : List En) : (sixs xs).length = xs.length * 6 := by simp [sixs]
theorem sixs_get (xs : List En) (k j : Nat) (h : k < xs.length) (hj : j < 6) : (sixs xs).getD (k * 6 + j) default = .int .i64 (enF (xs.getD k en0) j) := by
 have h1 : k * 6 + j < xs.length * 6 := by omega
 have h2 : (k * 6 + j) / 6 = k := by omega
 have h3 : (k * 6 + j) % 6 = j := by omega
 have : (sixs xs).getD (k * 6 + j) default = .int .i64 (enF (xs.getD ((k * 6 + j) / 6) en0) ((k * 6 + j) % 6)) := by simp [sixs, List.getD, h1]
 rw [this, h2, h3]
theorem RowAt.nSixs {w : World} {own : Bool} {lo hi : Nat} {ao : Option Addr} {n cap : Nat} {vs : List En} (h : RowAt w own lo hi 6 ao n cap (sixs vs)) : vs.length = n := by
 have hl := h.len; rw [sixs_len] at hl; omega
theorem RowAt.six {w : World} {own : Bool} {lo hi : Nat} {ao : Option Addr} {n cap : Nat} {vs : List En} (h : RowAt w own lo hi 6 ao n cap (sixs vs)) {i : Nat} (hi' : i < n) :
  ∃ b off, ao = some ⟨b, off, none⟩ ∧ lo ≤ b ∧ b < hi ∧ b < w.heap.size ∧ w.cell? ⟨b, off + i * 6, none⟩ = some (.int .i64 (vs.getD i en0).1) ∧ w.cell? ⟨b, off + i * 6 + 1, none⟩ = some (.int .i64 (vs.getD i en0).2.1) ∧ w.cell? ⟨b, off + i * 6 + 2, none⟩ = some (.int .i64 (vs.getD i en0).2.2.1) ∧ w.cell? ⟨b, off + i * 6 + 3, none⟩ = some (.int .i64 (vs.getD i en0).2.2.2.1) ∧ w.cell? ⟨b, off + i * 6 + 4, none⟩ = some (.int .i64 (vs.getD i en0).2.2.2.2.1) ∧ w.cell? ⟨b, off + i * 6 + 5, none⟩ = some (.int .i64 (vs.getD i en0).2.2.2.2.2) ∧ (own = true → ∀ j, j < 6 → w.frozen? ⟨b, off + (i * 6 + j), none⟩ = false) := by
 obtain ⟨b, off, rfl, g1, g2, g3, g4, g5⟩ := h.cells (by omega)
 have hl := h.nSixs
 have G : ∀ j, j < 6 → w.cell? ⟨b, off + (i * 6 + j), none⟩ = some (.int .i64 (enF (vs.getD i en0) j)) := fun j hj => by
  rw [g4 (i * 6 + j) (by omega), sixs_get vs i j (by omega) hj]
 exact ⟨b, off, rfl, g1, g2, g3, G 0 (by omega), G 1 (by omega), G 2 (by omega), G 3 (by omega), G 4 (by omega), G 5 (by omega), fun ho j hj => g5 ho _ (by omega)⟩
theorem Tryz.infoEntry : (Tryz.prog.info? 44).map (fun i => (i.zero, i.size, i.bytes)) = some (some (.agg #[.int .i64 0, .int .i64 0, .int .i64 0, .int .i64 0, .int .i64 0, .int .i64 0]), 6, 48) := by kernel_rfl
def enFault (x : En) : Int := if (1 ≤ x.1 ∧ x.1 ≤ 99) ∧ (1 ≤ x.2.1 ∧ x.2.1 ≤ 999) then opF x.2.2.1 x.2.2.2.1 x.2.2.2.2.1 x.2.2.2.2.2 else 3
theorem decide_eq_false_eq {q : Prop} [Decidable q] : (decide q = false) = ¬ q := by simp
theorem isClient_is (x : Int) (w : World) (d : Bool) (h : decide (1 ≤ x ∧ x ≤ 99) = d) : Calls Tryz.prog 189 #[.int .i64 x] w fun e w' => e = .returned (.bool d) ∧ w' = w := by
 by_cases h1 : 1 ≤ x
 ·by_cases h2 : x ≤ 99
  ·have e : d = true := by rw [← h]; exact decide_eq_true ⟨h1, h2⟩
   subst e
   clear h
   go_enter Tryz.func189, Tryz.ntmps189
   go_wp2
   go_ret
   exact ⟨rfl, rfl⟩
  ·have e : d = false := by rw [← h]; exact decide_eq_false (by omega)
   subst e
   clear h
   go_enter Tryz.func189, Tryz.ntmps189
   go_wp2
   go_ret
   exact ⟨rfl, rfl⟩
 ·have e : d = false := by rw [← h]; exact decide_eq_false (by omega)
  subst e
  clear h
  go_enter Tryz.func189, Tryz.ntmps189
  go_wp2
  go_ret
  exact ⟨rfl, rfl⟩
theorem isSeq_is (x : Int) (w : World) (d : Bool) (h : decide (1 ≤ x ∧ x ≤ 999) = d) : Calls Tryz.prog 190 #[.int .i64 x] w fun e w' => e = .returned (.bool d) ∧ w' = w := by
 by_cases h1 : 1 ≤ x
 ·by_cases h2 : x ≤ 999
  ·have e : d = true := by rw [← h]; exact decide_eq_true ⟨h1, h2⟩
   subst e
   clear h
   go_enter Tryz.func190, Tryz.ntmps190
   go_wp2
   go_ret
   exact ⟨rfl, rfl⟩
  ·have e : d = false := by rw [← h]; exact decide_eq_false (by omega)
   subst e
   clear h
   go_enter Tryz.func190, Tryz.ntmps190
   go_wp2
   go_ret
   exact ⟨rfl, rfl⟩
 ·have e : d = false := by rw [← h]; exact decide_eq_false (by omega)
  subst e
  clear h
  go_enter Tryz.func190, Tryz.ntmps190
  go_wp2
  go_ret
  exact ⟨rfl, rfl⟩
theorem specEF_is (p q k v a x : Int) (w : World) (d : Int) (hd : enFault (p, q, k, v, a, x) = d) : Calls Tryz.prog 147 #[.agg #[.int .i64 p, .int .i64 q, .int .i64 k, .int .i64 v, .int .i64 a, .int .i64 x]] w fun e w' => e = .returned (.int .i64 d) ∧ Below w.heap.size w w' := by
 have HD : Hid _ := hd
 clear hd
 have B : Below w.heap.size w (w.alloc (.cells #[.int .i64 p, .int .i64 q, .int .i64 k, .int .i64 v, .int .i64 a, .int .i64 x] 44)) := (Below.refl _ _).alloc (Nat.le_refl _) _
 have c0 : (w.alloc (.cells #[.int .i64 p, .int .i64 q, .int .i64 k, .int .i64 v, .int .i64 a, .int .i64 x] 44)).cell? ⟨w.heap.size, 0, none⟩ = some (.int .i64 p) := by simp
 have c1 : (w.alloc (.cells #[.int .i64 p, .int .i64 q, .int .i64 k, .int .i64 v, .int .i64 a, .int .i64 x] 44)).cell? ⟨w.heap.size, 1, none⟩ = some (.int .i64 q) := by simp
 have c2 : (w.alloc (.cells #[.int .i64 p, .int .i64 q, .int .i64 k, .int .i64 v, .int .i64 a, .int .i64 x] 44)).cell? ⟨w.heap.size, 2, none⟩ = some (.int .i64 k) := by simp
 have c3 : (w.alloc (.cells #[.int .i64 p, .int .i64 q, .int .i64 k, .int .i64 v, .int .i64 a, .int .i64 x] 44)).cell? ⟨w.heap.size, 3, none⟩ = some (.int .i64 v) := by simp
 have c4 : (w.alloc (.cells #[.int .i64 p, .int .i64 q, .int .i64 k, .int .i64 v, .int .i64 a, .int .i64 x] 44)).cell? ⟨w.heap.size, 4, none⟩ = some (.int .i64 a) := by simp
 have c5 : (w.alloc (.cells #[.int .i64 p, .int .i64 q, .int .i64 k, .int .i64 v, .int .i64 a, .int .i64 x] 44)).cell? ⟨w.heap.size, 5, none⟩ = some (.int .i64 x) := by simp
 go_enter Tryz.func147, Tryz.ntmps147
 by_cases h1 : 1 ≤ p ∧ p ≤ 99
 ·by_cases h2 : 1 ≤ q ∧ q ≤ 999
  ·have H : Hid (opF k v a x = d) := by show _ = _; rw [← HD.out]; unfold enFault; rw [if_pos ⟨h1, h2⟩]
   go_wp2_with fail
   refine (l1In_is' p 1 99 _ true (by simp only [decide_eq_true_eq]; omega)).mono ?_
   rintro e1 W ⟨rfl, rfl⟩
   go_wp2_with fail
   refine (l1In_is' q 1 999 _ true (by simp only [decide_eq_true_eq]; omega)).mono ?_
   rintro e1 W ⟨rfl, rfl⟩
   clear HD
   go_wp2_with fail
   refine (specOpF_is k v a x _ d H.out).mono ?_
   rintro e2 w2 ⟨rfl, hb⟩
   replace B := below_next B hb
   clear hb c0 c1 c2 c3 c4 c5
   go_wp2
   go_ret
   exact ⟨rfl, B⟩
  ·have H : d = 3 := by rw [← HD.out]; unfold enFault; rw [if_neg (fun h => h2 h.2)]
   subst H
   go_wp2_with fail
   refine (l1In_is' p 1 99 _ true (by simp only [decide_eq_true_eq]; omega)).mono ?_
   rintro e1 W ⟨rfl, rfl⟩
   go_wp2_with fail
   refine (l1In_is' q 1 999 _ false (by simp only [decide_eq_false_eq]; omega)).mono ?_
   rintro e1 W ⟨rfl, rfl⟩
   go_wp2
   go_ret
   exact ⟨rfl, B⟩
 ·have H : d = 3 := by rw [← HD.out]; unfold enFault; rw [if_neg (fun h => h1 h.1)]
  subst H
  go_wp2_with fail
  refine (l1In_is' p 1 99 _ false (by simp only [decide_eq_false_eq]; omega)).mono ?_
  rintro e1 W ⟨rfl, rfl⟩
  go_wp2
  go_ret
  exact ⟨rfl, B⟩
theorem implEF_is (p q k v a x : Int) (w : World) (d : Int) (hd : enFault (p, q, k, v, a, x) = d) : Calls Tryz.prog 143 #[.agg #[.int .i64 p, .int .i64 q, .int .i64 k, .int .i64 v, .int .i64 a, .int .i64 x]] w fun e w' => e = .returned (.int .i64 d) ∧ Below w.heap.size w w' := by
 have HD : Hid _ := hd
 clear hd
 have B : Below w.heap.size w (w.alloc (.cells #[.int .i64 p, .int .i64 q, .int .i64 k, .int .i64 v, .int .i64 a, .int .i64 x] 44)) := (Below.refl _ _).alloc (Nat.le_refl _) _
 have c0 : (w.alloc (.cells #[.int .i64 p, .int .i64 q, .int .i64 k, .int .i64 v, .int .i64 a, .int .i64 x] 44)).cell? ⟨w.heap.size, 0, none⟩ = some (.int .i64 p) := by simp
 have c1 : (w.alloc (.cells #[.int .i64 p, .int .i64 q, .int .i64 k, .int .i64 v, .int .i64 a, .int .i64 x] 44)).cell? ⟨w.heap.size, 1, none⟩ = some (.int .i64 q) := by simp
 have c2 : (w.alloc (.cells #[.int .i64 p, .int .i64 q, .int .i64 k, .int .i64 v, .int .i64 a, .int .i64 x] 44)).cell? ⟨w.heap.size, 2, none⟩ = some (.int .i64 k) := by simp
 have c3 : (w.alloc (.cells #[.int .i64 p, .int .i64 q, .int .i64 k, .int .i64 v, .int .i64 a, .int .i64 x] 44)).cell? ⟨w.heap.size, 3, none⟩ = some (.int .i64 v) := by simp
 have c4 : (w.alloc (.cells #[.int .i64 p, .int .i64 q, .int .i64 k, .int .i64 v, .int .i64 a, .int .i64 x] 44)).cell? ⟨w.heap.size, 4, none⟩ = some (.int .i64 a) := by simp
 have c5 : (w.alloc (.cells #[.int .i64 p, .int .i64 q, .int .i64 k, .int .i64 v, .int .i64 a, .int .i64 x] 44)).cell? ⟨w.heap.size, 5, none⟩ = some (.int .i64 x) := by simp
 go_enter Tryz.func143, Tryz.ntmps143
 by_cases h1 : 1 ≤ p ∧ p ≤ 99
 ·by_cases h2 : 1 ≤ q ∧ q ≤ 999
  ·have H : Hid (opF k v a x = d) := by show _ = _; rw [← HD.out]; unfold enFault; rw [if_pos ⟨h1, h2⟩]
   go_wp2_with fail
   refine (isClient_is p _ true (by simp only [decide_eq_true_eq]; omega)).mono ?_
   rintro e1 W ⟨rfl, rfl⟩
   go_wp2_with fail
   refine (isSeq_is q _ true (by simp only [decide_eq_true_eq]; omega)).mono ?_
   rintro e1 W ⟨rfl, rfl⟩
   clear HD
   go_wp2_with fail
   refine (implOpF_is k v a x _ d H.out).mono ?_
   rintro e2 w2 ⟨rfl, hb⟩
   replace B := below_next B hb
   clear hb c0 c1 c2 c3 c4 c5
   go_wp2
   go_ret
   exact ⟨rfl, B⟩
  ·have H : d = 3 := by rw [← HD.out]; unfold enFault; rw [if_neg (fun h => h2 h.2)]
   subst H
   go_wp2_with fail
   refine (isClient_is p _ true (by simp only [decide_eq_true_eq]; omega)).mono ?_
   rintro e1 W ⟨rfl, rfl⟩
   go_wp2_with fail
   refine (isSeq_is q _ false (by simp only [decide_eq_false_eq]; omega)).mono ?_
   rintro e1 W ⟨rfl, rfl⟩
   go_wp2
   go_ret
   exact ⟨rfl, B⟩
 ·have H : d = 3 := by rw [← HD.out]; unfold enFault; rw [if_neg (fun h => h1 h.1)]
  subst H
  go_wp2_with fail
  refine (isClient_is p _ false (by simp only [decide_eq_false_eq]; omega)).mono ?_
  rintro e1 W ⟨rfl, rfl⟩
  go_wp2
  go_ret
  exact ⟨rfl, B⟩
end Go.Proofs.YtonclmbihhdkpaaGreat
namespace Go.Proofs.YtonclmbihhdkpaaGreat
open Go.RowKit Go.ChangeShapes Go.WideShapes Go.Deep
theorem addr_add (b off i : Nat) : (⟨b, off, none⟩ : Addr).add i = ⟨b, off + i, none⟩ := by
 simp [Addr.add]
section
variable {H : Type} {enc : TypeId × Value → H} {P : Program} {w : World}
end
end Go.Proofs.YtonclmbihhdkpaaGreat
namespace Go.Proofs.YtonclmbihhdkpaaGreat
open Go.RowKit Go.ChangeShapes Go.WideShapes Go.Deep
section
variable {H : Type} {enc : TypeId × Value → H} {P : Program} {w : World}
end
theorem Tryz.own : ownKnob Tryz.prog.godebug = none := by kernel_rfl
theorem Tryz.laidOut : laidOutB Tryz.prog = true := by kernel_rfl
def clT (tab : List (List Nat)) : Nat → List Nat → List Nat → List Nat
 | 0, _, seen => seen.reverse
 | _, [], seen => seen.reverse
 | n + 1, f :: todo, seen => if seen.contains f then clT tab n todo seen else clT tab n (tab.getD f [] ++ todo) (f :: seen)
def fuelT (tab : List (List Nat)) : Nat := 1 + (tab.map fun l => l.length + 1).sum
section
variable {P : Program} {tab : List (List Nat)} (h : P.funcs.toList.map P.leadsTo = tab)
include h
theorem lead_is (f : Nat) : (P.funcs[f]?).elim [] P.leadsTo = tab.getD f [] := by
 rw [← h, List.getD_eq_getElem?_getD, List.getElem?_map, Array.getElem?_toList]
 cases P.funcs[f]? <;> rfl
theorem clT_is : ∀ (n : Nat) (todo seen : List Nat), P.closureVia n todo seen = clT tab n todo seen
 | 0, _, _ => rfl
 | n + 1, [], _ => rfl
 | n + 1, f :: todo, seen => by
  unfold Program.closureVia clT
  rw [lead_is h]
  by_cases hs : seen.contains f = true
  ·rw [if_pos hs, if_pos hs]; exact clT_is n _ _
  ·rw [if_neg hs, if_neg hs]; exact clT_is n _ _
theorem closure_is (f : Nat) : P.closure f = clT tab (fuelT tab) [f] [] := by
 unfold Program.closure fuelT
 rw [clT_is h, ← h, List.map_map]
 rfl
end
theorem getD_map {α β : Type} (a : Array α) (g : α → β) (d : β) (i : Nat) : (a.toList.map g).getD i d = (a[i]?).elim d g := by
 rw [List.getD_eq_getElem?_getD, List.getElem?_map, Array.getElem?_toList]
 cases a[i]? <;> rfl
section
variable {P : Program} {tab : List (List Nat)} (h : P.funcs.toList.map P.leadsTo = tab)
include h
theorem unfollowed_at {us : List Bool} (hu : P.funcs.toList.map (fun fn => fn.body.elim (entryCalls fn) Code.unfollowed) = us) (f : Nat) : P.unfollowed f = (clT tab (fuelT tab) [f] []).any fun g => us.getD g false := by
 unfold Program.unfollowed
 rw [closure_is h]
 congr 1
 funext g
 rw [← hu, getD_map]
 cases P.funcs[g]? with
 | none => rfl
 | some fn =>
  rw [Option.any_some]
  show _ = fn.body.elim (entryCalls fn) Code.unfollowed
  cases fn.body <;> rfl
theorem inPlace_at {ip : List (Option String)} (hi : P.funcs.toList.map (fun fn => if fn.ours || fn.body.isNone || fn.name == "runtime.NumGoroutine" then some fn.name else none) = ip) (f : Nat) : P.inPlace f = (clT tab (fuelT tab) [f] []).filterMap fun g => ip.getD g none := by
 unfold Program.inPlace
 rw [closure_is h]
 congr 1
 funext g
 rw [← hi, getD_map]
 cases P.funcs[g]? <;> rfl
theorem varsNamed_at {er : List (Option String)} (hv : (P.funcs.toList.all fun fn => (fn.body.elim [] Code.globalsNamed).isEmpty) = true) (he : P.funcs.toList.map (fun fn => if fn.body.isNone then entryReads.lookup fn.name else none) = er) (f : Nat) : P.varsNamed f = ((clT tab (fuelT tab) [f] []).filterMap fun g => er.getD g none).eraseDups := by
 have key : ∀ g fn, P.funcs[g]? = some fn → fn ∈ P.funcs.toList := fun g fn hg => by
  obtain ⟨hlt, e⟩ := Array.getElem?_eq_some_iff.1 hg
  rw [← e]; exact Array.getElem_mem_toList _
 have e1 : ((P.closure f).flatMap fun g => ((P.funcs[g]?).bind (·.body)).elim [] Code.globalsNamed) = [] := by
  rw [List.flatMap_eq_nil_iff]
  intro g _
  cases hg : P.funcs[g]? with
  | none => rfl
  | some fn =>
   have := List.all_eq_true.1 hv fn (key g fn hg)
   simpa using this
 have e2 : ((P.closure f).filterMap fun g => (P.funcs[g]?).bind fun fn => if fn.body.isNone then entryReads.lookup fn.name else none) = (clT tab (fuelT tab) [f] []).filterMap fun g => er.getD g none := by
  rw [closure_is h]
  congr 1
  funext g
  rw [← he, getD_map]
  cases P.funcs[g]? <;> rfl
 unfold Program.varsNamed
 rw [e1, e2]
 rfl
theorem recurses_unf {f : Nat} (hu : P.unfollowed f = true) : P.recurses f = true := by
 have _ := h
 unfold Program.recurses
 rw [hu, Bool.true_or]
end
theorem ws_app (pre rest : List Char) (h : (pre.all fun c => c != Char.ofNat 32) = true) : wordsSigns (pre ++ Char.ofNat 32 :: rest) = pre :: wordsSigns rest := by
 induction pre with
 | nil => rfl
 | cons c r ih =>
  rw [List.all_cons, Bool.and_eq_true] at h
  have hc : c = Char.ofNat 32 → False := fun e => by rw [e] at h; exact absurd h.1 (by decide)
  rw [List.cons_append, wordsSigns.eq_3 _ _ hc, ih h.2]
theorem signs_of {s : String} {l : List Char} (h : s = String.ofList l) : s.toList = l := by rw [h, String.toList_ofList]
section
variable {P : Program} {c : List Char} {X : List (List Char)} (h : behindMainWord (wordsSigns P.initOrder.toList) = c :: X) (hg : (c == "gc".toList) = false) (hs : (c == "spec".toList) = false) (hc : (c == "cut".toList) = true) (hr : (c == "carried".toList) = false) (hl : stripLifts liftWords (c :: X) = ([], c :: X))
include h hg hs hc hr hl
theorem make_of : P.make = some .cut := by
 have _ := hr; have _ := hl
 unfold Program.make
 rw [h]
 simp only [hg, hs, hc, Bool.or_false, Bool.true_or, Bool.false_eq_true, if_false, if_true]
theorem lifts_of (hn : (some c == some "carried".toList) = false) : P.liftsFinal = false := by
 have _ := hg; have _ := hs; have _ := hc; have _ := hr
 unfold Program.liftsFinal Program.headLifts
 simp only [h, hl, List.head?_cons, hn, Bool.false_and, Bool.false_or]
 split <;> rfl
theorem enter_of (h1 : P.laysLater = false) (h2 : P.bearsReflect = false) (h3 : P.doorFits [] = true) (hn : (some c == some "cut".toList) = true) : P.mayEnter = true := by
 have _ := hc
 unfold Program.mayEnter
 rw [h]
 simp only [hl, List.head?_cons, hg, hs, hr, h1, h2, h3, hn, List.contains_nil, Bool.or_false, Bool.false_and, Bool.and_true, Bool.not_false, Bool.or_true]
end
def leadsT : List (List Nat) := [[], [], [1], [8, 9, 10, 11, 12, 13, 14, 15, 16, 13, 17, 18], [8, 19, 15, 18, 20, 21, 18, 13], [22, 23, 25, 26, 24, 25, 26, 27, 28, 25, 29, 26, 30, 31, 32, 28, 33, 34, 25, 26, 27, 28, 34], [35, 37, 36, 37, 38, 39, 37, 40, 41, 39, 42, 43, 37, 38, 39, 43], [8, 44, 27, 24, 13, 21, 14, 14], [], [46, 45], [13, 47, 48, 49], [13, 47, 50, 52, 51, 53, 54, 49], [55], [56, 57, 58, 59, 60, 61, 62, 63], [64], [13, 65, 66, 67, 49, 47, 54, 52, 51, 68, 49], [13, 47, 52], [55], [55, 69, 70, 71, 72, 73, 74, 76, 75], [46, 45], [56, 57, 53, 49], [13, 77], [78, 79, 80, 81], [78], [55, 69, 82, 69, 70, 83, 69], [84, 85, 86, 87], [88, 84], [21, 47, 90, 89, 49], [29, 91], [92, 93, 94, 95], [96, 92], [97, 98, 99, 100], [97], [31, 101], [102, 103], [104, 105, 78], [106, 107, 108], [109, 110, 84], [111, 112, 113, 114, 113, 115], [40], [116, 91, 92], [117, 101, 97], [41], [118], [119], [120, 121, 122, 122, 122, 122], [], [123], [], [], [], [], [], [65], [124, 125], [126, 126, 127, 126, 128, 126, 129, 126, 130], [], [59], [59], [], [131, 59], [65], [59], [132], [133], [134], [47], [135, 124, 136], [134, 137, 125], [], [138, 138], [], [139], [74, 138], [], [], [139], [140, 57, 58, 141, 142, 143, 144], [], [], [], [145], [126, 146, 128, 126, 147, 148], [149, 150, 151, 152, 153, 74, 154], [88], [], [], [155], [156], [157, 158, 159, 160, 161, 162], [137, 137], [30], [96], [], [], [163], [164], [], [], [], [97], [97], [165, 166, 167, 168], [165], [22], [23], [169, 126], [], [170, 24, 171, 170], [25], [26], [172, 173], [174, 175, 137], [176], [178, 177], [], [29], [97, 98, 99, 100], [179, 103, 165], [46, 45, 180], [122, 121, 121, 181, 182, 121, 121, 181, 74, 121, 181, 181, 121, 182, 121], [], [121], [137, 183, 184, 185], [], [186], [], [126], [147], [74], [127, 128, 126], [187, 143], [58, 60], [], [], [188], [125], [], [], [], [], [59, 59], [60, 59], [189, 190, 191], [], [78], [126, 127, 126, 126, 126], [126, 126, 192], [], [193, 74, 193, 194, 75, 195], [74, 194, 75, 76, 75], [196, 71, 72, 73, 74, 197], [196, 71, 138, 197], [138, 198, 199, 138, 75, 194, 195], [138], [84], [], [200, 65, 201, 200, 201, 201, 201, 202], [65, 201, 135], [203, 204], [205, 203, 204], [134, 53, 14, 201, 202], [65, 206], [92], [], [], [], [], [165], [55, 207, 82, 128], [208], [107, 208, 209, 138], [56, 210, 211, 131], [], [212, 123], [213, 137], [], [214, 216], [27], [165, 166, 167, 168], [121, 122, 75, 75, 121, 75, 122, 194, 75, 181, 217, 121, 121, 138, 181, 217, 181, 182, 121, 121, 121, 122, 122, 122, 122, 122, 218], [121], [121, 217], [], [], [219, 137], [], [], [183, 220], [], [], [221, 222, 223], [126, 224, 225, 126, 226, 224], [], [], [], [], [227, 139, 228, 138, 75, 138, 194, 198, 154, 76, 75], [74], [229], [186], [], [201, 125], [50, 54], [52, 51, 68, 230], [134], [137, 125], [126], [138, 70, 209], [138], [13], [173, 77], [], [], [215], [], [137], [121, 121, 231], [217, 121, 122, 122, 232], [], [234, 233], [], [], [], [126], [126], [126], [], [235], [], [205, 236, 51, 237, 239, 238, 201, 53, 124, 206, 135], [121, 121, 121, 121, 121, 121, 181, 121, 121], [231, 121, 122, 122, 122, 122], [240, 241, 242, 243, 244, 245, 246, 247, 248, 233, 233], [249, 250], [], [], [236, 238], [], [236, 238, 251], [246], [252, 252], [253, 254], [255, 255, 255, 256], [], [246, 246, 246], [257, 257], [246, 246], [246, 246, 246, 246], [], [], [258], [246, 246], [234], [], [256], [259, 259, 259], [], [261, 262, 260], [246], [], [257, 257], [263, 263], [], [], [], [], [], [], [], [], [], [], [], [], [], [], [], [], [], []]
theorem leads_is : Tryz.prog.funcs.toList.map Tryz.prog.leadsTo = leadsT := by kernel_rfl
def unfT : List Bool := [false, false, false, false, false, false, false, false, false, false, false, false, false, false, false, false, false, false, false, false, false, false, false, false, false, false, false, false, false, false, false, false, false, false, false, false, false, false, false, false, false, false, false, false, false, false, false, false, false, false, false, false, false, false, false, false, false, false, false, false, false, false, false, false, false, false, false, false, false, false, false, false, false, false, false, false, false, false, false, false, false, false, false, false, false, false, false, false, false, true, false, false, false, false, false, false, false, false, false, false, false, false, false, false, false, false, false, false, false, false, false, false, false, false, false, false, false, false, false, false, false, false, false, false, false, false, false, false, false, false, false, false, false, false, false, false, false, false, false, false, false, false, false, false, false, false, false, false, false, false, false, false, false, false, false, false, false, false, false, false, false, false, false, false, false, false, false, false, false, false, false, false, false, false, false, false, false, true, false, false, false, false, false, false, false, false, false, true, false, false, false, false, false, false, false, false, false, false, false, false, false, false, false, false, false, false, false, false, false, false, false, false, false, false, false, false, false, false, false, false, false, false, false, false, false, false, false, false, false, false, false, false, false, false, false, false, false, false, false, false, false, false, false, false, false, false, false, false, false, false, false, false, false, false, false, false, false, false, false, false, false, false, false, false, false, false, false, false, false, false, false, false, false, false, false, false, false, false, false, false, false]
theorem unf_is : Tryz.prog.funcs.toList.map (fun fn => fn.body.elim (entryCalls fn) Code.unfollowed) = unfT := by kernel_rfl
def inpT : List (Option String) := [some "main.main", some "gosem.cut", none, none, none, none, none, none, none, none, none, none, none, none, none, none, none, none, none, none, none, none, none, none, none, none, none, none, none, none, none, none, none, none, none, none, none, none, none, none, none, none, none, none, none, none, none, none, none, none, none, none, none, none, none, none, none, none, none, none, none, none, none, none, none, none, none, none, none, none, none, none, none, none, none, none, none, none, none, none, none, none, none, none, none, none, none, none, none, none, none, none, none, none, none, none, none, none, none, none, none, none, none, none, none, none, none, none, none, none, none, none, none, none, none, none, none, none, none, none, none, none, none, none, none, none, none, none, none, none, none, none, none, none, none, none, none, none, none, none, none, none, none, none, none, none, none, none, none, none, none, none, none, none, none, none, none, none, none, none, none, none, none, none, none, none, none, none, none, none, none, none, none, none, none, none, none, none, none, none, none, none, none, none, none, none, none, none, none, none, none, none, none, none, none, none, none, none, none, none, none, none, none, none, none, none, none, none, none, none, none, none, none, none, none, none, none, none, none, none, none, none, none, none, none, none, none, none, none, none, none, none, none, none, none, none, none, none, none, none, none, none, none, none, none, none, none, none, none, none, none, none, none, none, none, none, none, none, none, none, none, none, none, none, some "(runtime.boundsError).Error", some "(runtime.boundsError).RuntimeError", some "(runtime.errorString).Error", some "(runtime.errorString).RuntimeError", some "(runtime.plainError).Error", some "(runtime.plainError).RuntimeError", some "(runtime.errorAddressString).Error", some "(runtime.errorAddressString).RuntimeError", some "(*runtime.TypeAssertionError).Error", some "(*runtime.TypeAssertionError).RuntimeError", some "(*runtime.PanicNilError).Error", some "(*runtime.PanicNilError).RuntimeError", some "(*internal/abi.Type).Align", some "(internal/runtime/maps.unhashableTypeError).Error", some "(internal/runtime/maps.unhashableTypeError).RuntimeError", none, some "(internal/abi.Kind).String"]
theorem inp_is : Tryz.prog.funcs.toList.map (fun fn => if fn.ours || fn.body.isNone || fn.name == "runtime.NumGoroutine" then some fn.name else none) = inpT := by kernel_rfl
theorem var_ok : (Tryz.prog.funcs.toList.all fun fn => (fn.body.elim [] Code.globalsNamed).isEmpty) = true := by kernel_rfl
def entT : List (Option String) := [none, none, none, none, none, none, none, none, none, none, none, none, none, none, none, none, none, none, none, none, none, none, none, none, none, none, none, none, none, none, none, none, none, none, none, none, none, none, none, none, none, none, none, none, none, none, none, none, none, none, none, none, none, none, none, none, none, none, none, none, none, none, none, none, none, none, none, none, none, none, none, none, none, none, none, none, none, none, none, none, none, none, none, none, none, none, none, none, none, none, none, none, none, none, none, none, none, none, none, none, none, none, none, none, none, none, none, none, none, none, none, none, none, none, none, none, none, none, none, none, none, none, none, none, none, none, none, none, none, none, none, none, none, none, none, none, none, none, none, none, none, none, none, none, none, none, none, none, none, none, none, none, none, none, none, none, none, none, none, none, none, none, none, none, none, none, none, none, none, none, none, none, none, none, none, none, none, none, none, none, none, none, none, none, none, none, none, none, none, none, none, none, none, none, none, none, none, none, none, none, none, none, none, none, none, none, none, none, none, none, none, none, none, none, none, none, none, none, none, none, none, none, none, none, none, none, none, none, none, none, none, none, none, none, none, none, none, none, none, none, none, none, none, none, none, none, none, none, none, none, none, none, none, none, none, none, none, none, none, none, none, none, none, none, none, none, none, none, none, none, none, none, none, none, none, none, none, none, none, none, none]
theorem ent_is : Tryz.prog.funcs.toList.map (fun fn => if fn.body.isNone then entryReads.lookup fn.name else none) = entT := by kernel_rfl
def headH : List Char := [104, 97, 114, 110, 101, 115, 115].map Char.ofNat
def headS : List Char := [101, 54, 102, 56, 57, 100, 56, 49, 102, 97, 57, 99, 52, 101, 98, 99, 50, 99, 49, 49, 50, 97, 51, 54, 54, 50, 97, 49, 49, 98, 99, 53, 102, 50, 99, 98, 101, 100, 56, 50, 51, 98, 48, 101, 54, 49, 97, 101, 50, 100, 99, 48, 51, 48, 52, 48, 57, 48, 54, 98, 54, 53, 49, 54].map Char.ofNat
def headC : List Char := [99, 117, 116].map Char.ofNat
def headR : List Char := [97, 116, 32, 108, 111, 111, 112, 46, 101, 120, 97, 109, 112, 108, 101, 47, 103, 48, 48, 50, 55, 55, 47, 108, 97, 119, 115, 46, 70, 110, 76, 97, 115, 116, 105, 110, 103, 32, 108, 111, 111, 112, 46, 101, 120, 97, 109, 112, 108, 101, 47, 103, 48, 48, 50, 55, 55, 47, 108, 97, 119, 115, 46, 70, 110, 66, 101, 97, 116, 115, 32, 108, 111, 111, 112, 46, 101, 120, 97, 109, 112, 108, 101, 47, 103, 48, 48, 50, 55, 55, 47, 108, 97, 119, 115, 46, 70, 110, 69, 120, 97, 99, 116, 72, 101, 97, 114, 82, 101, 112, 108, 105, 99, 97, 32, 108, 111, 111, 112, 46, 101, 120, 97, 109, 112, 108, 101, 47, 103, 48, 48, 50, 55, 55, 47, 108, 97, 119, 115, 46, 70, 110, 69, 120, 97, 99, 116, 68, 101, 108, 105, 118, 101, 114, 77, 97, 105, 108, 32, 108, 111, 111, 112, 46, 101, 120, 97, 109, 112, 108, 101, 47, 103, 48, 48, 50, 55, 55, 47, 108, 97, 119, 115, 46, 70, 110, 72, 101, 97, 114, 115].map Char.ofNat
theorem init_is : Tryz.prog.initOrder = String.ofList (headH ++ Char.ofNat 32 :: (headS ++ Char.ofNat 32 :: (headC ++ Char.ofNat 32 :: headR))) := by kernel_rfl
theorem init_words : ∃ X, wordsSigns Tryz.prog.initOrder.toList = headH :: headS :: headC :: X := by
 rw [signs_of init_is, ws_app headH _ (by kernel_rfl), ws_app headS _ (by kernel_rfl), ws_app headC _ (by kernel_rfl)]
 exact ⟨_, rfl⟩
theorem behind_is (X : List (List Char)) : behindMainWord (headH :: headS :: headC :: X) = headC :: X := by kernel_rfl
theorem head_gc : (headC == "gc".toList) = false := by kernel_rfl
theorem head_spec : (headC == "spec".toList) = false := by kernel_rfl
theorem head_cut : (headC == "cut".toList) = true := by kernel_rfl
theorem head_carried : (headC == "carried".toList) = false := by kernel_rfl
theorem strip_is (X : List (List Char)) : stripLifts liftWords (headC :: X) = ([], headC :: X) := by kernel_rfl
theorem lays_no : Tryz.prog.laysLater = false := by kernel_rfl
theorem bears_no : Tryz.prog.bearsReflect = false := by kernel_rfl
theorem door_ok : Tryz.prog.doorFits [] = true := by kernel_rfl
theorem head_carried' : (some headC == some "carried".toList) = false := by kernel_rfl
theorem head_cut' : (some headC == some "cut".toList) = true := by kernel_rfl
theorem words_is : ∃ X, behindMainWord (wordsSigns Tryz.prog.initOrder.toList) = headC :: X := by
 obtain ⟨X, hX⟩ := init_words
 exact ⟨X, by rw [hX, behind_is]⟩
theorem made_cut : Tryz.prog.make = some .cut := by
 obtain ⟨X, hX⟩ := words_is
 exact make_of hX head_gc head_spec head_cut head_carried (strip_is X)
theorem lifts_no : Tryz.prog.liftsFinal = false := by
 obtain ⟨X, hX⟩ := words_is
 exact lifts_of hX head_gc head_spec head_cut head_carried (strip_is X) head_carried'
theorem may_enter : Tryz.prog.mayEnter = true := by
 obtain ⟨X, hX⟩ := words_is
 exact enter_of hX head_gc head_spec head_cut head_carried (strip_is X) lays_no bears_no door_ok head_cut'
end Go.Proofs.YtonclmbihhdkpaaGreat
namespace Go.Proofs.YtonclmbihhdkpaaGreat
open Go.RowKit Go.ChangeShapes Go.WideShapes Go.Deep
def bls (bs : List Bool) : List Value := bs.map Value.bool
theorem bls_length (bs : List Bool) : (bls bs).length = bs.length := by simp [bls]
theorem bls_getD (bs : List Bool) (i : Nat) (h : i < bs.length) : (bls bs).getD i default = .bool (bs.getD i false) := by simp [bls, List.getD, h]
theorem RowAt.nBools {w : World} {own : Bool} {lo hi : Nat} {ao : Option Addr} {n cap : Nat} {bs : List Bool} (h : RowAt w own lo hi 1 ao n cap (bls bs)) : bs.length = n := by
 have hl := h.len; rw [bls_length, Nat.mul_one] at hl; exact hl
theorem RowAt.bool {w : World} {own : Bool} {lo hi : Nat} {ao : Option Addr} {n cap : Nat} {bs : List Bool} (h : RowAt w own lo hi 1 ao n cap (bls bs)) {k : Nat} (hk : k < n) :
  ∃ b off, ao = some ⟨b, off, none⟩ ∧ lo ≤ b ∧ b < hi ∧ b < w.heap.size ∧ w.cell? ⟨b, off + k, none⟩ = some (.bool (bs.getD k false)) ∧ (own = true → w.frozen? ⟨b, off + k, none⟩ = false) := by
 obtain ⟨b, off, rfl, g1, g2, g3, g4, g5⟩ := h.cells (by omega)
 have hl := h.nBools
 refine ⟨b, off, rfl, g1, g2, g3, ?_, fun ho => g5 ho k (by omega)⟩
 rw [g4 k (by omega), bls_getD bs k (by omega)]
theorem Tryz.info4' : (Tryz.prog.info? 4).map (fun i => (i.zero, i.size, i.bytes)) = some (some (.bool false), 1, 1) := by kernel_rfl
end Go.Proofs.YtonclmbihhdkpaaGreat
