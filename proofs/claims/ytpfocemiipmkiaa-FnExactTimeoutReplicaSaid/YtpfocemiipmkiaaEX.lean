/- What this law needs of the texts before it beyond what stands in them. -/
import Derived.Test.YtpfocemiipmkiaaBase
import Derived.Test.YtpfocemiipmkiaaZT
import Derived.Test.YtpfocemiipmkiaaCopy
import Derived.Test.YtpfocemiipmkiaaMark
import Derived.Test.YtpfocemiipmkiaaEq
import Derived.Test.YtpfocemiipmkiaaMark2
import Derived.Test.YtpfocemiipmkiaaBC
import Derived.Test.YtpfocemiipmkiaaSm
import Derived.Test.YtpfocemiipmkiaaFault
import Derived.Test.YtpfocemiipmkiaaArr
import Derived.Test.YtpfocemiipmkiaaFlush
import Derived.Test.YtpfocemiipmkiaaSpec1
import Derived.Test.YtpfocemiipmkiaaSFlush
import Derived.Test.YtpfocemiipmkiaaAll
import Derived.Test.YtpfocemiipmkiaaPutS
import Derived.Test.YtpfocemiipmkiaaFacts
import Derived.Test.YtpfocemiipmkiaaZM
import Derived.Test.YtpfocemiipmkiaaYE
import Derived.Test.YtpfocemiipmkiaaZY
import Derived.Test.YtpfocemiipmkiaaP1
import Derived.Test.YtpfocemiipmkiaaP2
import Derived.Test.YtpfocemiipmkiaaP4
import Derived.Test.YtpfocemiipmkiaaP3
import Derived.Test.YtpfocemiipmkiaaQ0
import Derived.Test.YtpfocemiipmkiaaZU
import Derived.Test.YtpfocemiipmkiaaT8
import Derived.Test.YtpfocemiipmkiaaZW
import Derived.Test.YtpfocemiipmkiaaZX
import Derived.Test.YtpfocemiipmkiaaZZ
import Derived.Test.YtpfocemiipmkiaaZQ
import Derived.Test.YtpfocemiipmkiaaZV
import Derived.Test.YtpfocemiipmkiaaYP
import Derived.Test.YtpfocemiipmkiaaO1b
import Derived.Test.YtpfocemiipmkiaaO1
import Derived.Test.YtpfocemiipmkiaaXA
import Derived.Test.YtpfocemiipmkiaaZR
import Derived.Test.YtpfocemiipmkiaaBools
import Derived.Test.YtpfocemiipmkiaaWA
import Derived.Test.YtpfocemiipmkiaaWB
import Derived.Test.YtpfocemiipmkiaaXH
import Derived.Test.YtpfocemiipmkiaaWC
import Derived.Test.YtpfocemiipmkiaaI5a
import Derived.Test.YtpfocemiipmkiaaI5s
import Derived.Test.YtpfocemiipmkiaaXB
import Derived.Test.YtpfocemiipmkiaaWG
namespace Go.Proofs.Ytpfocemiipmkiaa
open Go.RowKit

theorem nodeOf_append (ns : List Nd) (bs : List (Int × Int)) (j : Nat) (nd : Nd) : nodeOf (ns ++ [nd], bs) j = if j = ns.length then nd else ns.getD j nd0 := by
  unfold nodeOf
  by_cases e : j = ns.length
  · subst e; simp [List.getD]
  · rw [if_neg e]
    by_cases h : j < ns.length
    · rw [List.getD_eq_getElem?_getD, List.getElem?_append_left h, ← List.getD_eq_getElem?_getD]
    · rw [List.getD_eq_getElem?_getD, List.getElem?_eq_none (by simp; omega), List.getD_eq_getElem?_getD, List.getElem?_eq_none (by omega)]
theorem Inv.append {f : Fo} (h : Inv f) (hl : f.1.length < 60) {nd : Nd} (hn : NdOk (f.1 ++ [nd], f.2) nd) : Inv (f.1 ++ [nd], f.2) := by
  refine ⟨h.nb, by simp; omega, fun m => ?_, h.bk⟩
  rw [nodeOf_append]
  by_cases e : m = f.1.length
  · rw [if_pos e]; exact hn
  · rw [if_neg e]
    have hm := h.nd m
    refine ⟨hm.r0, hm.r1, hm.z, hm.kl, fun h0 k hk' => ?_, hm.so⟩
    rcases hm.ks h0 k hk' with e1 | ⟨h1, h2⟩
    · exact Or.inl e1
    · refine Or.inr ⟨h1, ?_⟩
      cases hl : (nodeOf f m).2.1 with
      | true => rw [show (f.1.getD m nd0).2.1 = true from hl, if_pos rfl]; rw [hl, if_pos rfl] at h2; exact h2
      | false =>
        rw [show (f.1.getD m nd0).2.1 = false from hl]
        rw [hl, if_neg (by decide)] at h2
        rw [if_neg (by decide), nodeOf_append, if_neg (by omega)]
        exact ⟨by simp; omega, h2.2⟩
end Go.Proofs.Ytpfocemiipmkiaa

namespace Go.Proofs.Ytpfocemiipmkiaa
open Go.RowKit

def marks (k : Int) (n : Nat) : List Int := (List.range n).map fun (i : Nat) => k + (i : Int)
theorem marks_len (k : Int) (n : Nat) : (marks k n).length = n := by simp [marks]
theorem marks_getD (k : Int) (n i : Nat) (h : i < n) : (marks k n).getD i 0 = k + i := by simp [marks, List.getD, h]
/-- What has been marked so far. -/
def mk1 (xs : List Int) (k : Int) (i : Nat) : List Int := marks k i ++ xs.drop i
theorem mk1_set (xs : List Int) (k : Int) (i : Nat) (h : i < xs.length) : (ints (mk1 xs k i)).set i (.int .i64 (k + i)) = ints (mk1 xs k (i + 1)) := by
  unfold ints mk1
  rw [← List.map_set, List.set_append, if_neg (by rw [marks_len]; omega), marks_len, Nat.sub_self, List.drop_eq_getElem_cons h, List.set_cons_zero]
  simp [marks, List.range_succ]
theorem mk1_all (xs : List Int) (k : Int) : mk1 xs k xs.length = marks k xs.length := by simp [mk1]
theorem mk1_zero (xs : List Int) (k : Int) : mk1 xs k 0 = xs := by simp [mk1, marks]

set_option maxHeartbeats 400000 in
theorem markInts_any {lo hi : Nat} (ao : Option Addr) (n cap : Nat) (xs : List Int) (k : Int) (w : World) (h : RowAt w true lo hi 1 ao n cap (ints xs)) (hn : n ≤ 4194304) (hk0 : 0 ≤ k) (hk1 : k ≤ 16777216) :
    Calls Try.prog 102 #[.slice ao n cap, .int .i64 k] w fun e w' => e = .returned (.int .i64 (k + n)) ∧ RowAt w' true lo hi 1 ao n cap (ints (marks k n)) ∧ Kept lo hi w w' := by
  have hx := h.nInts
  go_enter Try.func102, Try.ntmps102
  go_wp2
  go_loopw [1, 5] (fun v i wr => ∃ j : Nat, j ≤ n ∧ i = .int .i64 j ∧ v = .int .i64 (k + j) ∧ RowAt wr true lo hi 1 ao n cap (ints (mk1 xs k j)) ∧ Kept lo hi w wr) (fun _ i _ => n - (intOf i).toNat)
  case atStart => exact ⟨0, Nat.zero_le _, rfl, by simp, by rw [mk1_zero]; exact h, Kept.refl _ _ _⟩
  case round =>
    obtain ⟨j, hj, rfl, rfl, R, hK⟩ := hrel
    by_cases hlt : j < n
    · obtain ⟨b, off, rfl, hlo, hhi, hbs, hc, hf0⟩ := R.int hlt
      have hf := hf0 rfl
      have R2 := R.stored (i := j) (by omega) (.int .i64 (k + j))
      rw [mk1_set xs k j (by omega)] at R2
      have K2 : Kept lo hi w (wr.setCell ⟨b, off + j, none⟩ (.int .i64 (k + j))) := hK.setCell (p := ⟨b, off + j, none⟩) hlo hhi _
      have hl : (j : Int) < n := by omega
      clear R hf0 hK
      generalize (mk1 xs k j).getD j 0 = old at *
      go_wp2
      go_roundw
      case rel => exact ⟨j + 1, by omega, by go_num, by simp; omega, R2, K2⟩
      case measure => simp [intOf]; omega
    · have hjn : j = n := by omega
      subst hjn
      rw [← hx, mk1_all] at R
      go_wp2
      go_ret
      exact ⟨rfl, by rw [← hx]; exact R, hK⟩

set_option maxHeartbeats 400000 in
theorem heldInts_any {o : Bool} {lo hi : Nat} (ao : Option Addr) (n cap : Nat) (k : Int) (w : World) (h : RowAt w o lo hi 1 ao n cap (ints (marks k n))) (hn : n ≤ 4194304) (hk0 : 0 ≤ k) (hk1 : k ≤ 16777216) :
    Calls Try.prog 137 #[.slice ao n cap, .int .i64 k] w fun e w' => e = .returned (.int .i64 (k + n)) ∧ w' = w := by
  go_enter Try.func137, Try.ntmps137
  go_wp2
  go_loop [1, 5] (fun v i => ∃ j : Nat, j ≤ n ∧ i = .int .i64 j ∧ v = .int .i64 (k + j)) (fun _ i => n - (intOf i).toNat)
  case atStart => exact ⟨0, Nat.zero_le _, rfl, by simp⟩
  case round =>
    obtain ⟨j, hj, rfl, rfl⟩ := hrel
    by_cases hlt : j < n
    · obtain ⟨b, off, rfl, hlo, hhi, hbs, hc, hf0⟩ := h.int hlt
      rw [marks_getD k n j hlt] at hc
      have he : ((k + (j : Int)) != (k + (j : Int))) = false := by simp
      have hl : (j : Int) < n := by omega
      clear hf0
      go_wp2
      go_round
      case rel => exact ⟨j + 1, by omega, by go_num, by simp; omega⟩
      case measure => simp [intOf]; omega
    · have hjn : j = n := by omega
      subst hjn
      go_wp2
      go_ret
      exact ⟨rfl, rfl⟩

end Go.Proofs.Ytpfocemiipmkiaa

namespace Go.Proofs.Ytpfocemiipmkiaa
open Go.RowKit

theorem row_src {P : Program} {w : World} {o : Bool} {l u size : Nat} {ao : Option Addr} {m c : Nat} {news : List Value} {t e : TypeId} (hk : P.underlying t = some (.slice e)) (h : RowAt w o l u size ao m c news) (h1 : ∀ x ∈ news, x.oneCell' = true) : Src P size t (.slice ao m c) m news w := by
  by_cases hm : m = 0
  · subst hm
    have hn : news = [] := List.eq_nil_of_length_eq_zero (by have := h.len; omega)
    subst hn
    cases ao with
    | none => exact Src.ofNil w hk c
    | some a => exact Src.ofSlice w hk a 0 c [] (by simp) (fun j u hj => by simp at hj) (fun _ h => by cases h)
  · obtain ⟨b, off, rfl, _, _, _, hc, _⟩ := h.cells hm
    refine Src.ofSlice w hk ⟨b, off, none⟩ m c news h.len (fun j u hj => ?_) h1
    have hj' := (List.getElem?_eq_some_iff.1 hj).1
    rw [show (⟨b, off, none⟩ : Addr).add j = ⟨b, off + j, none⟩ by simp [Addr.add], hc j (by have := h.len; omega)]
    simp [List.getD, hj]

theorem RowAt.of_front {w : World} {g n cap size : Nat} {cs : List Value} {rest : Array Value} {t : TypeId} (h : w.heap[g]? = some (.cells (cs.toArray ++ rest) t (0, 0))) (hn : cs.length = n * size) (hc : n ≤ cap) : RowAt w true g (g + 1) size (some ⟨g, 0, none⟩) n cap cs := by
  have hlt : g < w.heap.size := (Array.getElem?_eq_some_iff.1 h).1
  refine ⟨hn, hc, fun _ => ⟨g, 0, rfl, Nat.le_refl _, by omega, hlt, fun i hi => ?_, fun _ i _ => frozen_of_row w g _ _ t h⟩⟩
  rw [cell_of_row w g _ _ t (0, 0) h]
  have : i < cs.length := by omega
  simp [List.getD, Array.getElem?_append, this]

/-- 'append(s, src...)' where s, a slice that is nil or owns no room, is of length 0. -/
theorem run_append_fresh {P : Program} (w : World) (t ty e : TypeId) (i : TypeInfo) (z : Value) (size bytes : Nat) (ht : P.underlying t = some (.slice e)) (hi : P.info? e = some i) (hz : i.zero = some z) (hsize : i.size = size) (hby : i.bytes = bytes) (hzs0 : z.cells.size = i.size)
    (g : Nat) {o : Bool} {l u : Nat} (ao : Option Addr) (m c : Nat) (news : List Value) (hsrc : RowAt w o l u size ao m c news) (h1 : ∀ x ∈ news, x.oneCell' = true) (h63 : m ≤ 1048576) (hb : bytes ≤ 1048576) :
    ∃ ad' cap' w', (Builtin.append_ #[t, t] ty #[.slice (some ⟨g, 0, none⟩) 0 0, .slice ao m c]).run P w = .ok (.slice (some ad') m cap') w' ∧ RowAt w' true w.heap.size w'.heap.size size (some ad') m cap' news ∧ Below w.heap.size w w' ∧ Fresh w' w.heap.size w'.heap.size e size (.slice (some ad') m cap') m news := by
  subst hsize
  subst hby
  have hs := row_src ht hsrc h1
  by_cases hm : m = 0
  · subst hm
    have hn : news = [] := List.eq_nil_of_length_eq_zero (by have := hsrc.len; omega)
    subst hn
    refine ⟨⟨g, 0, none⟩, 0, w, ?_, ⟨by simp, Nat.le_refl _, fun h => absurd rfl h⟩, Below.refl _ _, Or.inl ⟨rfl, rfl, _, rfl⟩⟩
    have := run_append_room_src (P := P) w t t ty e i ht hi g 0 0 0 (.slice ao 0 c) 0 [] hs (by omega) (fun j hj => by simp at hj) (fun j hj => by simp at hj)
    simpa [World.setCells] using this
  · have hold : (Builtin.firstCells i.size 0 (.slice (some ⟨g, 0, none⟩) 0 0)).run P w.drew = .ok ([] : List Value).toArray w.drew := run_firstCells_some w.drew i.size 0 ⟨g, 0, none⟩ 0 0 [] (by simp) (fun j v hj => by simp at hj)
    have hmb : m * i.bytes ≤ 140737488355328 := Nat.le_trans (Nat.mul_le_mul h63 hb) (by decide)
    have := run_append_grow_src (P := P) w t t ty e i z ht hi hz (some ⟨g, 0, none⟩) 0 0 [] hold (.slice ao m c) m news hs (by omega) (by omega) (by rw [Nat.zero_add]; exact growslice_fits (by omega) hmb)
    rw [Nat.zero_add] at this
    have hzs : z.cells.size = i.size := hzs0
    refine ⟨_, _, _, this, ?_, (Below.refl _ _).drew.alloc (Nat.le_refl _) _, Or.inr ⟨⟨hsrc.len, Or.inr ⟨w.heap.size, _, _, rfl, Nat.le_refl _, heap_alloc_new w.drew _, grownCap_ge w m 0 e, grownCap_le_maxLen w m 0 e (by unfold maxLen; omega), ?_, ?_⟩⟩, fun k hk => by simp [Value.ownBlock] at hk; subst hk; simp⟩⟩
    rotate_left 1
    · rw [Array.size_append, size_zeroCells, hzs]
      have := grownCap_ge w m 0 e
      have hl := hsrc.len
      simp only [List.nil_append, List.size_toArray, hl]
      rw [← Nat.add_mul]
      congr 1
      omega
    · simp [hsrc.len]
    have hh : (w.drew.alloc (.cells (([] ++ news).toArray ++ Builtin.zeroCells z.cells (grownCap w m 0 e - m)) e)).heap[w.heap.size]? = some (.cells (news.toArray ++ Builtin.zeroCells z.cells (grownCap w m 0 e - m)) e (0, 0)) := heap_alloc_new w.drew _
    exact (RowAt.of_front hh hsrc.len (grownCap_ge w m 0 e)).widen (Nat.le_refl _) (by simp)

end Go.Proofs.Ytpfocemiipmkiaa

namespace Go.Proofs.Ytpfocemiipmkiaa
open Go.RowKit

theorem RowAt.news {w : World} {o : Bool} {l u size : Nat} {ad : Addr} {m c : Nat} {news : List Value} (h : RowAt w o l u size (some ad) m c news) (hm : m ≠ 0) : ∀ j x, news[j]? = some x → w.cell? (ad.add j) = some x := by
  intro j x hj
  have hj' := (List.getElem?_eq_some_iff.1 hj).1
  obtain ⟨b, off, e', _, _, _, hc, _⟩ := h.cells hm
  cases e'
  rw [show (⟨b, off, none⟩ : Addr).add j = ⟨b, off + j, none⟩ by simp [Addr.add], hc j (by have := h.len; omega)]
  simp [List.getD, hj]
end Go.Proofs.Ytpfocemiipmkiaa

namespace Go.Proofs.Ytpfocemiipmkiaa
open Go.RowKit

theorem Kept.toS {lo hi : Nat} {S : Nat → Prop} {w w' : World} (h : Kept lo hi w w') (hs : ∀ k, lo ≤ k → k < hi → S k) : KeptS S w w' := ⟨h.os, h.tape, h.output, h.size, fun k hk ho => h.block k hk (by
  by_cases h1 : k < lo
  · exact Or.inl h1
  · by_cases h2 : hi ≤ k
    · exact Or.inr h2
    · exact absurd (hs k (by omega) (by omega)) ho)⟩
end Go.Proofs.Ytpfocemiipmkiaa

namespace Go.Proofs.Ytpfocemiipmkiaa
open Go.RowKit

/-- a whole block -/
def Blk (w : World) (b : Nat) (e : TypeId) (L : List Value) : Prop := w.heap[b]? = some (.cells L.toArray e (0, 0))
theorem Blk.lt {w : World} {b : Nat} {e : TypeId} {L : List Value} (h : Blk w b e L) : b < w.heap.size := by
  rcases Nat.lt_or_ge b w.heap.size with h' | h'
  · exact h'
  · unfold Blk at h; rw [Array.getElem?_eq_none h'] at h; cases h
theorem Blk.cell {w : World} {b : Nat} {e : TypeId} {L : List Value} (h : Blk w b e L) {k : Nat} {v : Value} (hk : L[k]? = some v) : w.cell? ⟨b, k, none⟩ = some v := by
  unfold Blk at h
  simp [World.cell?, h, hk]
theorem Blk.froz {w : World} {b : Nat} {e : TypeId} {L : List Value} (h : Blk w b e L) (k : Nat) : w.frozen? ⟨b, k, none⟩ = false := by
  unfold Blk at h
  simp [World.frozen?, h]
theorem Blk.set {w : World} {b : Nat} {e : TypeId} {L M : List Value} (h : Blk w b e L) : Blk (w.setRow b M.toArray) b e M := setRow_heap w b _ _ e _ h
theorem Blk.drew {w : World} {b : Nat} {e : TypeId} {L : List Value} (h : Blk w b e L) : Blk w.drew b e L := h
theorem step_append_run {P : Program} {ops : Array Oper} {o : Oper} {a : Act} {w : World} {K : Act → World → Prop} {Q : Exit → Act → World → Prop} {E : Prop}
    (hg : o.guard = none) (s x : Operand) (t tn : TypeId) (ho : o.op = .call { callee := .builtin .append, args := #[s, x], argTypes := #[t, tn] })
    (vs vx : Value) (hs : a.eval s = vs) (hx : a.eval x = vx) (v' : Value) (w' : World) (hr : (Builtin.append_ #[t, tn] o.type #[vs, vx]).run P w = .ok v' w') (hK : K (a.put o.dst v') w') :
    if Region.wanted o (yielded ops a.tmps) = true then Oper.wp P o a w K Q else E := by
  have hw : Region.wanted o (yielded ops a.tmps) = true := by simp [Region.wanted, hg]
  rw [if_pos hw]
  exact Lib.wp_append_run w s x t tn ho vs vx hs hx v' w' hr hK

end Go.Proofs.Ytpfocemiipmkiaa

namespace Go.Proofs.Ytpfocemiipmkiaa
open Go.RowKit Go.ChangeShapes Go.WideShapes Go.Deep

/-- What has been marked so far (which bools they are does not matter). -/
theorem RowAt.boolSet {w : World} {lo hi b off n cap : Nat} {bs : List Bool} (h : RowAt w true lo hi 1 (some ⟨b, off, none⟩) n cap (bls bs)) {i : Nat} (hi' : i < n) (x : Bool) : RowAt (w.setCell ⟨b, off + i, none⟩ (.bool x)) true lo hi 1 (some ⟨b, off, none⟩) n cap (bls (bs.set i x)) := by
  have := h.stored (i := i) (by omega) (.bool x)
  rwa [show (bls bs).set i (.bool x) = bls (bs.set i x) by simp [bls, List.map_set]] at this

end Go.Proofs.Ytpfocemiipmkiaa

namespace Go.Proofs.Ytpfocemiipmkiaa
open Go.RowKit

theorem bx_alloc (w : World) (vs : List Value) (t : TypeId) : Bx (w.alloc (.cells vs.toArray t)) w.heap.size vs :=
  ⟨by simp, fun k => by simp, fun k => by simp⟩
end Go.Proofs.Ytpfocemiipmkiaa

namespace Go.Proofs.Ytpfocemiipmkiaa
open Go.RowKit

/-- the same in a region that draws its order -/
theorem step_midX {P : Program} {ops : Array Oper} {dst : Option Tmp} {type : TypeId} {pos : String} {after : Array Edge} {a : Act} {w : World} {K : Act → World → Prop} {Q : Exit → Act → World → Prop} {E : Prop} (ty : TypeId) {x y : Operand} {b : Nat} {vs : List Value} (X : Bx w b vs) (k : Nat) (us : List Value) (hk : k + us.length ≤ vs.length) (hi : (P.info? ty).map (·.size) = some us.length) (h1 : ∀ v ∈ us, v.oneCell' = true) (hx : a.eval x = .pointer (some ⟨b, k, none⟩)) (hy : a.eval y = .agg us.toArray)
    (h : ∀ W : World, PutX w W b (vs.take k ++ us ++ vs.drop (k + us.length)) → K (a.put dst undef) W) : if Region.wanted ⟨dst, .store ty x y, type, pos, after, none⟩ (yielded ops a.tmps) = true then Oper.wp P ⟨dst, .store ty x y, type, pos, after, none⟩ a w K Q else E := by
  have hw : Region.wanted ⟨dst, .store ty x y, type, pos, after, none⟩ (yielded ops a.tmps) = true := by simp [Region.wanted]
  rw [if_pos hw]
  refine wp_store_mid ty x y rfl b k us.toArray hx hy (by rw [List.size_toArray]; exact fun j hj => ⟨by rw [X.cell, List.getElem?_eq_getElem (by omega)]; rfl, X.froz _⟩) (by rw [List.size_toArray]; exact hi) (all_oneCell_toArray h1) (h _ ?_)
  simpa using X.setMid (us := us) k hk
end Go.Proofs.Ytpfocemiipmkiaa

namespace Go.Proofs.Ytpfocemiipmkiaa
open Go.RowKit

theorem flatF_snoc (sz n : Nat) (F : Nat → Nat → Value) : flatF sz (n + 1) F = flatF sz n F ++ (List.range sz).map (F n) := by
  apply List.ext_getElem (by simp [flatF, Nat.succ_mul])
  intro j h1 h2
  simp [flatF, Nat.succ_mul] at h1
  by_cases hj : j < n * sz
  · rw [List.getElem_append_left (by rw [flatF_len]; exact hj)]; simp [flatF]
  · rw [List.getElem_append_right (by rw [flatF_len]; omega)]
    simp only [flatF, List.getElem_map, List.getElem_range, List.length_map, List.length_range]
    have e : j = n * sz + (j - n * sz) := by omega
    have h3 : j - n * sz < sz := by omega
    conv => lhs; rw [e]
    rw [at_div h3, at_mod h3]
section
variable {sz : Nat} {w w' : World} {own : Bool} {lo hi : Nat} {ao : Option Addr} {n cap : Nat} {F : Nat → Nat → Value} {K : Nat → Hd} {L : Nat → List En}
end
def rep0 : Rep := ⟨0, 0, 0, false, 0, [], 0, [], [], []⟩
section
variable {w w' : World} {own : Bool} {lo hi : Nat} {h : RH} {r : Rep} {ao : Option Addr} {n cap : Nat} {K : Nat → Hd} {ds : List Dr} {ms : List Ml}
end

end Go.Proofs.Ytpfocemiipmkiaa

