/- What this law needs of the texts before it beyond what stands in them. -/
import Derived.Test.YtcbfmjanjciodaaBase
import Derived.Test.YtcbfmjanjciodaaZT
import Derived.Test.YtcbfmjanjciodaaCopy
import Derived.Test.YtcbfmjanjciodaaMark
import Derived.Test.YtcbfmjanjciodaaEq
import Derived.Test.YtcbfmjanjciodaaMark2
import Derived.Test.YtcbfmjanjciodaaBC
import Derived.Test.YtcbfmjanjciodaaSm
import Derived.Test.YtcbfmjanjciodaaFault
import Derived.Test.YtcbfmjanjciodaaArr
import Derived.Test.YtcbfmjanjciodaaFlush
import Derived.Test.YtcbfmjanjciodaaSpec1
import Derived.Test.YtcbfmjanjciodaaSFlush
import Derived.Test.YtcbfmjanjciodaaAll
import Derived.Test.YtcbfmjanjciodaaPutS
import Derived.Test.YtcbfmjanjciodaaFacts
import Derived.Test.YtcbfmjanjciodaaZM
import Derived.Test.YtcbfmjanjciodaaZY
import Derived.Test.YtcbfmjanjciodaaP1
import Derived.Test.YtcbfmjanjciodaaP2
import Derived.Test.YtcbfmjanjciodaaP4
import Derived.Test.YtcbfmjanjciodaaP3
import Derived.Test.YtcbfmjanjciodaaQ0
import Derived.Test.YtcbfmjanjciodaaZU
import Derived.Test.YtcbfmjanjciodaaT8
import Derived.Test.YtcbfmjanjciodaaZW
import Derived.Test.YtcbfmjanjciodaaZX
import Derived.Test.YtcbfmjanjciodaaZZ
import Derived.Test.YtcbfmjanjciodaaZQ
import Derived.Test.YtcbfmjanjciodaaZV
import Derived.Test.YtcbfmjanjciodaaYP
import Derived.Test.YtcbfmjanjciodaaPC
import Derived.Test.YtcbfmjanjciodaaYE
import Derived.Test.YtcbfmjanjciodaaPPl
import Derived.Test.YtcbfmjanjciodaaYL
import Derived.Test.YtcbfmjanjciodaaZR
namespace Go.Proofs.Ytcbfmjanjciodaa
open Go.RowKit

theorem Kept.next {lo hi : Nat} {a w w' : World} (h : Kept lo hi a w) (hb : Below w.heap.size w w') : Kept lo hi a w' := h.trans (Kept.of_below hb)

theorem RowAt.of_owned {w : World} {base : Nat} {e : TypeId} {size : Nat} {v : Value} {n : Nat} {cs : List Value} (h : w.ownsRow base e size v n cs) : ∃ ao cap, v = .slice ao n cap ∧ RowAt w true base w.heap.size size ao n cap cs := by
  rcases h.2 with ⟨rfl, rfl⟩ | ⟨g, cap, cur, rfl, hg, hh, hc, r⟩
  · exact ⟨none, 0, rfl, h.1, Nat.le_refl _, fun h => absurd rfl h⟩
  · exact ⟨_, _, rfl, RowAt.of_owns h hc⟩

end Go.Proofs.Ytcbfmjanjciodaa

namespace Go.Proofs.Ytcbfmjanjciodaa
open Go.RowKit

theorem nodeOf_append (ns : List Nd) (bs : List (Int × Int)) (j : Nat) (nd : Nd) : nodeOf (ns ++ [nd], bs) j = if j = ns.length then nd else ns.getD j nd0 := by
  unfold nodeOf
  by_cases e : j = ns.length
  · subst e; simp [List.getD]
  · rw [if_neg e]
    by_cases h : j < ns.length
    · rw [List.getD_eq_getElem?_getD, List.getElem?_append_left h, ← List.getD_eq_getElem?_getD]
    · rw [List.getD_eq_getElem?_getD, List.getElem?_eq_none (by simp; omega), List.getD_eq_getElem?_getD, List.getElem?_eq_none (by omega)]
theorem Inv.append {f : Fo} (h : Inv f) (hl : f.1.length < 60) {nd : Nd} (hn : NdOk (f.1 ++ [nd], f.2) nd) : Inv (f.1 ++ [nd], f.2) := by
  refine ⟨h.nb, by simp; omega, fun m => ?_, h.bk⟩
  rw [nodeOf_append]
  by_cases e : m = f.1.length
  · rw [if_pos e]; exact hn
  · rw [if_neg e]
    have hm := h.nd m
    refine ⟨hm.r0, hm.r1, hm.z, hm.kl, fun h0 k hk' => ?_, hm.so⟩
    rcases hm.ks h0 k hk' with e1 | ⟨h1, h2⟩
    · exact Or.inl e1
    · refine Or.inr ⟨h1, ?_⟩
      cases hl : (nodeOf f m).2.1 with
      | true => rw [show (f.1.getD m nd0).2.1 = true from hl, if_pos rfl]; rw [hl, if_pos rfl] at h2; exact h2
      | false =>
        rw [show (f.1.getD m nd0).2.1 = false from hl]
        rw [hl, if_neg (by decide)] at h2
        rw [if_neg (by decide), nodeOf_append, if_neg (by omega)]
        exact ⟨by simp; omega, h2.2⟩
end Go.Proofs.Ytcbfmjanjciodaa

namespace Go.Proofs.Ytcbfmjanjciodaa
open Go.RowKit

def marks (k : Int) (n : Nat) : List Int := (List.range n).map fun (i : Nat) => k + (i : Int)
theorem marks_len (k : Int) (n : Nat) : (marks k n).length = n := by simp [marks]
/-- What has been marked so far. -/
def mk1 (xs : List Int) (k : Int) (i : Nat) : List Int := marks k i ++ xs.drop i
theorem mk1_set (xs : List Int) (k : Int) (i : Nat) (h : i < xs.length) : (ints (mk1 xs k i)).set i (.int .i64 (k + i)) = ints (mk1 xs k (i + 1)) := by
  unfold ints mk1
  rw [← List.map_set, List.set_append, if_neg (by rw [marks_len]; omega), marks_len, Nat.sub_self, List.drop_eq_getElem_cons h, List.set_cons_zero]
  simp [marks, List.range_succ]
theorem mk1_all (xs : List Int) (k : Int) : mk1 xs k xs.length = marks k xs.length := by simp [mk1]
theorem mk1_zero (xs : List Int) (k : Int) : mk1 xs k 0 = xs := by simp [mk1, marks]

set_option maxHeartbeats 400000 in
theorem markInts_any {lo hi : Nat} (ao : Option Addr) (n cap : Nat) (xs : List Int) (k : Int) (w : World) (h : RowAt w true lo hi 1 ao n cap (ints xs)) (hn : n ≤ 4194304) (hk0 : 0 ≤ k) (hk1 : k ≤ 16777216) :
    Calls Try.prog 59 #[.slice ao n cap, .int .i64 k] w fun e w' => e = .returned (.int .i64 (k + n)) ∧ RowAt w' true lo hi 1 ao n cap (ints (marks k n)) ∧ Kept lo hi w w' := by
  have hx := h.nInts
  go_enter Try.func59, Try.ntmps59
  go_wp2
  go_loopw [1, 5] (fun v i wr => ∃ j : Nat, j ≤ n ∧ i = .int .i64 j ∧ v = .int .i64 (k + j) ∧ RowAt wr true lo hi 1 ao n cap (ints (mk1 xs k j)) ∧ Kept lo hi w wr) (fun _ i _ => n - (intOf i).toNat)
  case atStart => exact ⟨0, Nat.zero_le _, rfl, by simp, by rw [mk1_zero]; exact h, Kept.refl _ _ _⟩
  case round =>
    obtain ⟨j, hj, rfl, rfl, R, hK⟩ := hrel
    by_cases hlt : j < n
    · obtain ⟨b, off, rfl, hlo, hhi, hbs, hc, hf0⟩ := R.int hlt
      have hf := hf0 rfl
      have R2 := R.stored (i := j) (by omega) (.int .i64 (k + j))
      rw [mk1_set xs k j (by omega)] at R2
      have K2 : Kept lo hi w (wr.setCell ⟨b, off + j, none⟩ (.int .i64 (k + j))) := hK.setCell (p := ⟨b, off + j, none⟩) hlo hhi _
      have hl : (j : Int) < n := by omega
      clear R hf0 hK
      generalize (mk1 xs k j).getD j 0 = old at *
      go_wp2
      go_roundw
      case rel => exact ⟨j + 1, by omega, by go_num, by simp; omega, R2, K2⟩
      case measure => simp [intOf]; omega
    · have hjn : j = n := by omega
      subst hjn
      rw [← hx, mk1_all] at R
      go_wp2
      go_ret
      exact ⟨rfl, by rw [← hx]; exact R, hK⟩

end Go.Proofs.Ytcbfmjanjciodaa

namespace Go.Proofs.Ytcbfmjanjciodaa
open Go.RowKit

def wordB (x : Int) : Bool := decide (0 ≤ x ∧ x ≤ 65535)
theorem isWord_any (x : Int) (w : World) : Calls Try.prog 126 #[.int .i64 x] w fun e w' => e = .returned (.bool (wordB x)) ∧ w' = w := by
  by_cases h : 0 ≤ x <;> by_cases h2 : x ≤ 65535
  all_goals
    go_enter Try.func126, Try.ntmps126
    go_wp2
    go_ret
    exact ⟨by simp [wordB, h, h2], rfl⟩

theorem l1Word_any (x : Int) (w : World) : Calls Try.prog 122 #[.int .i64 x] w fun e w' => e = .returned (.bool (wordB x)) ∧ w' = w := by
  go_enter Try.func122, Try.ntmps122
  go_wp2_with fail
  refine (l1In_any _ _ _ _).mono ?_
  rintro e w' ⟨rfl, rfl⟩
  go_wp2
  go_ret
  exact ⟨ret_bool (by simp [wordB]), rfl⟩

end Go.Proofs.Ytcbfmjanjciodaa

namespace Go.Proofs.Ytcbfmjanjciodaa
open Go.RowKit

theorem isWord_is (x : Int) (w : World) (d : Bool) (h : wordB x = d) : Calls Try.prog 126 #[.int .i64 x] w fun e w' => e = .returned (.bool d) ∧ w' = w := by rw [← h]; exact isWord_any x w
theorem l1Word_is (x : Int) (w : World) (d : Bool) (h : wordB x = d) : Calls Try.prog 122 #[.int .i64 x] w fun e w' => e = .returned (.bool d) ∧ w' = w := by rw [← h]; exact l1Word_any x w
end Go.Proofs.Ytcbfmjanjciodaa

namespace Go.Proofs.Ytcbfmjanjciodaa
open Go.RowKit

theorem RowAt.of_front {w : World} {g n cap size : Nat} {cs : List Value} {rest : Array Value} {t : TypeId} (h : w.heap[g]? = some (.cells (cs.toArray ++ rest) t (0, 0))) (hn : cs.length = n * size) (hc : n ≤ cap) : RowAt w true g (g + 1) size (some ⟨g, 0, none⟩) n cap cs := by
  have hlt : g < w.heap.size := (Array.getElem?_eq_some_iff.1 h).1
  refine ⟨hn, hc, fun _ => ⟨g, 0, rfl, Nat.le_refl _, by omega, hlt, fun i hi => ?_, fun _ i _ => frozen_of_row w g _ _ t h⟩⟩
  rw [cell_of_row w g _ _ t (0, 0) h]
  have : i < cs.length := by omega
  simp [List.getD, Array.getElem?_append, this]

end Go.Proofs.Ytcbfmjanjciodaa

namespace Go.Proofs.Ytcbfmjanjciodaa
open Go.RowKit

theorem row_lit (W : World) (cs : List Value) (t : TypeId) (n size : Nat) (h : cs.length = n * size) : RowAt (W.alloc (.cells cs.toArray t)) true W.heap.size (W.heap.size + 1) size (some ⟨W.heap.size, 0, none⟩) n n cs :=
  RowAt.of_front (rest := #[]) (by simpa using heap_alloc_new W (.cells cs.toArray t)) h (Nat.le_refl _)

end Go.Proofs.Ytcbfmjanjciodaa

namespace Go.Proofs.Ytcbfmjanjciodaa
open Go.RowKit

theorem flat3_snoc (n : Nat) (g0 g1 g2 : Nat → Value) : flat3 (n + 1) g0 g1 g2 = flat3 n g0 g1 g2 ++ [g0 n, g1 n, g2 n] := by
  apply List.ext_getElem (by simp [flat3]; omega)
  intro j h1 h2
  simp [flat3] at h1
  by_cases hj : j < n * 3
  · rw [List.getElem_append_left (by rw [flat3_len]; exact hj)]; simp [flat3]
  · rw [List.getElem_append_right (by rw [flat3_len]; omega)]
    simp only [flat3, List.getElem_map, List.getElem_range, List.length_map, List.length_range]
    rcases (show j = n * 3 ∨ j = n * 3 + 1 ∨ j = n * 3 + 2 by omega) with rfl | rfl | rfl
    · rw [if_pos (by omega)]; simp
    · rw [if_neg (by omega), if_pos (by omega)]; simp; congr 1; omega
    · rw [if_neg (by omega), if_neg (by omega)]; simp; congr 1; omega
end Go.Proofs.Ytcbfmjanjciodaa

namespace Go.Proofs.Ytcbfmjanjciodaa
open Go.RowKit

theorem there2 {w : World} {b : Nat} {v0 v1 : Value} (c0 : w.cell? ⟨b, 0, none⟩ = some v0) (c1 : w.cell? ⟨b, 1, none⟩ = some v1) (y0 : w.frozen? ⟨b, 0, none⟩ = false) (y1 : w.frozen? ⟨b, 1, none⟩ = false) : w.there b 0 2 := fun j hj => by
  rcases (by omega : j = 0 ∨ j = 1) with rfl | rfl
  · exact ⟨by rw [c0]; rfl, y0⟩
  · exact ⟨by rw [c1]; rfl, y1⟩
end Go.Proofs.Ytcbfmjanjciodaa

namespace Go.Proofs.Ytcbfmjanjciodaa
open Go.RowKit

/-- a whole block -/
def Blk (w : World) (b : Nat) (e : TypeId) (L : List Value) : Prop := w.heap[b]? = some (.cells L.toArray e (0, 0))
theorem Blk.lt {w : World} {b : Nat} {e : TypeId} {L : List Value} (h : Blk w b e L) : b < w.heap.size := by
  rcases Nat.lt_or_ge b w.heap.size with h' | h'
  · exact h'
  · unfold Blk at h; rw [Array.getElem?_eq_none h'] at h; cases h
theorem Blk.cell {w : World} {b : Nat} {e : TypeId} {L : List Value} (h : Blk w b e L) {k : Nat} {v : Value} (hk : L[k]? = some v) : w.cell? ⟨b, k, none⟩ = some v := by
  unfold Blk at h
  simp [World.cell?, h, hk]
theorem Blk.froz {w : World} {b : Nat} {e : TypeId} {L : List Value} (h : Blk w b e L) (k : Nat) : w.frozen? ⟨b, k, none⟩ = false := by
  unfold Blk at h
  simp [World.frozen?, h]
theorem Blk.set {w : World} {b : Nat} {e : TypeId} {L M : List Value} (h : Blk w b e L) : Blk (w.setRow b M.toArray) b e M := setRow_heap w b _ _ e _ h
theorem Blk.drew {w : World} {b : Nat} {e : TypeId} {L : List Value} (h : Blk w b e L) : Blk w.drew b e L := h
theorem step_append_run {P : Program} {ops : Array Oper} {o : Oper} {a : Act} {w : World} {K : Act → World → Prop} {Q : Exit → Act → World → Prop} {E : Prop}
    (hg : o.guard = none) (s x : Operand) (t tn : TypeId) (ho : o.op = .call { callee := .builtin .append, args := #[s, x], argTypes := #[t, tn] })
    (vs vx : Value) (hs : a.eval s = vs) (hx : a.eval x = vx) (v' : Value) (w' : World) (hr : (Builtin.append_ #[t, tn] o.type #[vs, vx]).run P w = .ok v' w') (hK : K (a.put o.dst v') w') :
    if Region.wanted o (yielded ops a.tmps) = true then Oper.wp P o a w K Q else E := by
  have hw : Region.wanted o (yielded ops a.tmps) = true := by simp [Region.wanted, hg]
  rw [if_pos hw]
  exact Lib.wp_append_run w s x t tn ho vs vx hs hx v' w' hr hK

end Go.Proofs.Ytcbfmjanjciodaa

namespace Go.Proofs.Ytcbfmjanjciodaa
open Go.RowKit

/-- what a plain pool without a fault has -/
theorem pvOne_ok {a : Int} {v : Vo} (h : pvOne a v = 0) : (1 ≤ v.1 ∧ v.1 ≤ 99) ∧ (1 ≤ v.2.1 ∧ v.2.1 ≤ 16) ∧ v.2.2 = -1 ∧ a < v.1 := by
  unfold pvOne at h
  split at h
  case isTrue hc =>
    simp [volIdB, quotaB] at hc
    split at h
    · exact absurd h (by decide)
    · exact ⟨hc.1.1, hc.1.2, hc.2, by omega⟩
  case isFalse => exact absurd h (by decide)
theorem pvFrom_ok {vs : List Vo} {n k : Nat} (h : pvFrom vs n k = 0) : ∀ i, k ≤ i → i < k + n → pvOne (idAhead vs i) (vs.getD i vo0) = 0 := by
  induction n generalizing k with
  | zero => intro i h1 h2; omega
  | succ n ih =>
    unfold pvFrom at h
    split at h
    case isTrue hc =>
      intro i h1 h2
      by_cases e : i = k
      · subst e; exact hc
      · exact ih h i (by omega) (by omega)
    case isFalse hc => exact absurd h hc
theorem pv_ok {vs : List Vo} (h : pvFault vs = 0) : ∀ i, i < vs.length → pvOne (idAhead vs i) (vs.getD i vo0) = 0 := fun i hi => pvFrom_ok h i (Nat.zero_le _) (by omega)
end Go.Proofs.Ytcbfmjanjciodaa

namespace Go.Proofs.Ytcbfmjanjciodaa
open Go.RowKit

/-- all that is come to lies in a set that calls lead not out of, and is no higher than where one began -/
theorem clT_in {tab : List (List Nat)} {C : Nat → Bool} {rk : Nat → Nat} (hC : ∀ g, C g = true → ∀ x ∈ tab.getD g [], C x = true ∧ rk x < rk g) (m : Nat) : ∀ (n : Nat) (todo seen : List Nat), (∀ x ∈ todo, C x = true ∧ rk x ≤ m) → (∀ x ∈ seen, C x = true ∧ rk x ≤ m) → ∀ x ∈ clT tab n todo seen, C x = true ∧ rk x ≤ m
  | 0, _, seen, _, h2 => fun x hx => h2 x (by simpa [clT] using hx)
  | n + 1, [], seen, _, h2 => fun x hx => h2 x (by simpa [clT] using hx)
  | n + 1, f :: todo, seen, h1, h2 => fun x hx => by
    unfold clT at hx
    have hf := h1 f (by simp)
    by_cases hs : seen.contains f = true
    · rw [if_pos hs] at hx
      exact clT_in hC m n todo seen (fun y hy => h1 y (by simp [hy])) h2 x hx
    · rw [if_neg hs] at hx
      refine clT_in hC m n _ _ (fun y hy => ?_) (fun y hy => ?_) x hx
      · rcases List.mem_append.1 hy with e | e
        · have := hC f hf.1 y e; exact ⟨this.1, by omega⟩
        · exact h1 y (by simp [e])
      · rcases List.mem_cons.1 hy with e | e
        · rw [e]; exact hf
        · exact h2 y e
section
variable {P : Program} {tab : List (List Nat)} (h : P.funcs.toList.map P.leadsTo = tab)
include h
end
section
variable {P : Program} {tab : List (List Nat)} (h : P.funcs.toList.map P.leadsTo = tab)
include h
theorem recurses_no {f : Nat} (hu : P.unfollowed f = false) {C : Nat → Bool} {rk : Nat → Nat} (hC : ∀ g, C g = true → ∀ x ∈ tab.getD g [], C x = true ∧ rk x < rk g) (hf : C f = true) : P.recurses f = false := by
  unfold Program.recurses
  rw [hu, Bool.false_or, List.any_eq_false]
  intro g hg
  rw [closure_is h] at hg
  have hg' := clT_in hC (rk f) _ [f] [] (fun x hx => by simp at hx; rw [hx]; exact ⟨hf, Nat.le_refl _⟩) (fun x hx => by cases hx) g hg
  rw [lead_is h, Bool.not_eq_true, List.any_eq_false]
  intro x hx
  have hx' := hC g hg'.1 x hx
  rw [Bool.not_eq_true, Bool.eq_false_iff]
  intro hc
  rw [closure_is h] at hc
  have := clT_in hC (rk x) _ [x] [] (fun y hy => by simp at hy; rw [hy]; exact ⟨hx'.1, Nat.le_refl _⟩) (fun y hy => by cases hy) g (by simpa using hc)
  omega
end
theorem ranks_of {tab : List (List Nat)} {rks : List Nat} (h : ((List.range tab.length).all fun g => decide (rks.getD g 0 = 0) || (tab.getD g []).all fun x => decide (rks.getD x 0 ≠ 0) && decide (rks.getD x 0 < rks.getD g 0)) = true) : ∀ g, (fun g => decide (rks.getD g 0 ≠ 0)) g = true → ∀ x ∈ tab.getD g [], (fun g => decide (rks.getD g 0 ≠ 0)) x = true ∧ rks.getD x 0 < rks.getD g 0 := fun g hg x hx => by
  have hg' := of_decide_eq_true hg
  by_cases hl : g < tab.length
  · have := List.all_eq_true.1 h g (List.mem_range.2 hl)
    rw [Bool.or_eq_true] at this
    rcases this with e | e
    · exact absurd (of_decide_eq_true e) hg'
    · have := List.all_eq_true.1 e x hx
      rw [Bool.and_eq_true] at this
      exact ⟨this.1, of_decide_eq_true this.2⟩
  · rw [List.getD_eq_getElem?_getD, List.getElem?_eq_none (by omega)] at hx; cases hx
section
variable {P : Program} {c : List Char} {X : List (List Char)} (h : behindMainWord (wordsSigns P.initOrder.toList) = c :: X) (hg : (c == "gc".toList) = false) (hs : (c == "spec".toList) = false) (hc : (c == "cut".toList) = true) (hr : (c == "carried".toList) = false) (hl : stripLifts liftWords (c :: X) = ([], c :: X))
include h hg hs hc hr hl
end

end Go.Proofs.Ytcbfmjanjciodaa

namespace Go.Proofs.Ytcbfmjanjciodaa
open Go.RowKit

def ranksT : List Nat := [1, 1, 2, 7, 7, 8, 10, 8, 7, 8, 8, 8, 9, 3, 5, 6, 5, 6, 4, 5, 4, 3, 3, 2, 5, 3, 6, 3, 5, 7, 1, 5, 1, 9, 2, 5, 7, 2, 4, 3, 6, 3, 5, 7, 4, 3, 3, 5, 7, 2, 5, 7, 2, 2, 2, 5, 1, 8, 1, 1, 2, 2, 4, 1, 5, 4, 4, 2, 5, 2, 2, 4, 4, 2, 3, 1, 2, 1, 1, 4, 2, 4, 5, 1, 1, 2, 1, 2, 1, 3, 4, 2, 8, 1, 1, 2, 3, 1, 1, 3, 2, 2, 2, 1, 2, 1, 5, 2, 2, 1, 4, 2, 1, 2, 2, 6, 1, 1, 1, 1, 1, 1, 2, 1, 1, 1, 1, 2, 1, 3, 1, 4, 2, 4, 2, 3, 1, 3, 2, 1, 4, 3, 2, 2, 1, 1, 3, 1, 3, 2, 1, 2, 1, 1, 1, 3, 1, 1, 1, 1, 2, 1, 4, 1, 3, 2, 1, 1, 1, 6, 2, 2, 7, 3, 1, 2, 1, 1, 1, 3, 1, 1, 2, 1, 3, 5, 1, 1, 1, 2, 3, 3, 1, 2, 2, 1, 3, 2, 2, 1, 2, 2, 1, 1, 1, 3, 1, 3, 5, 2, 1, 1, 1, 1, 4, 1, 4, 2, 1, 1, 1, 2, 1, 1, 2, 4, 1, 3, 1, 1, 3, 2, 2, 1, 1, 1, 1, 1, 1, 1, 1, 1, 1, 1, 1, 1, 1, 1, 1, 1, 1, 1]
theorem ranks_ok : ∀ g, (fun g => decide (ranksT.getD g 0 ≠ 0)) g = true → ∀ x ∈ leadsT.getD g [], (fun g => decide (ranksT.getD g 0 ≠ 0)) x = true ∧ ranksT.getD x 0 < ranksT.getD g 0 := ranks_of (by kernel_rfl)
end Go.Proofs.Ytcbfmjanjciodaa

