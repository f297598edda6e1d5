/- What this law needs of the texts before it beyond what stands in them. -/
import Derived.Test.YtpbhiednmnolgaaBase
import Derived.Test.YtpbhiednmnolgaaZT
import Derived.Test.YtpbhiednmnolgaaCopy
import Derived.Test.YtpbhiednmnolgaaMark
import Derived.Test.YtpbhiednmnolgaaEq
import Derived.Test.YtpbhiednmnolgaaMark2
import Derived.Test.YtpbhiednmnolgaaBC
import Derived.Test.YtpbhiednmnolgaaSm
import Derived.Test.YtpbhiednmnolgaaFault
import Derived.Test.YtpbhiednmnolgaaArr
import Derived.Test.YtpbhiednmnolgaaFlush
import Derived.Test.YtpbhiednmnolgaaSpec1
import Derived.Test.YtpbhiednmnolgaaSFlush
import Derived.Test.YtpbhiednmnolgaaAll
import Derived.Test.YtpbhiednmnolgaaPutS
import Derived.Test.YtpbhiednmnolgaaFacts
import Derived.Test.YtpbhiednmnolgaaZM
import Derived.Test.YtpbhiednmnolgaaYE
import Derived.Test.YtpbhiednmnolgaaZY
import Derived.Test.YtpbhiednmnolgaaP1
import Derived.Test.YtpbhiednmnolgaaP2
import Derived.Test.YtpbhiednmnolgaaP4
import Derived.Test.YtpbhiednmnolgaaP3
import Derived.Test.YtpbhiednmnolgaaQ0
import Derived.Test.YtpbhiednmnolgaaZU
import Derived.Test.YtpbhiednmnolgaaT8
import Derived.Test.YtpbhiednmnolgaaZW
import Derived.Test.YtpbhiednmnolgaaZX
import Derived.Test.YtpbhiednmnolgaaZZ
import Derived.Test.YtpbhiednmnolgaaZQ
import Derived.Test.YtpbhiednmnolgaaZV
import Derived.Test.YtpbhiednmnolgaaYP
import Derived.Test.YtpbhiednmnolgaaO1b
import Derived.Test.YtpbhiednmnolgaaO1
import Derived.Test.YtpbhiednmnolgaaXA
import Derived.Test.YtpbhiednmnolgaaZR
import Derived.Test.YtpbhiednmnolgaaXB
namespace Go.Proofs.Ytpbhiednmnolgaa
open Go.RowKit

theorem RowAt.widen {w : World} {own : Bool} {lo hi size : Nat} {ao : Option Addr} {n cap : Nat} {cs : List Value} (h : RowAt w own lo hi size ao n cap cs) {lo' hi' : Nat} (h1 : lo' ≤ lo) (h2 : hi ≤ hi') : RowAt w own lo' hi' size ao n cap cs := by
  refine ⟨h.len, h.le, fun hn => ?_⟩
  obtain ⟨b, off, rfl, g1, g2, g3, g4, g5⟩ := h.cells hn
  exact ⟨b, off, rfl, by omega, by omega, g3, g4, g5⟩

theorem RowAt.nInts {w : World} {own : Bool} {lo hi : Nat} {ao : Option Addr} {n cap : Nat} {xs : List Int} (h : RowAt w own lo hi 1 ao n cap (ints xs)) : xs.length = n := by
  have hl := h.len; rw [ints_length, Nat.mul_one] at hl; exact hl
/-- A row that the call itself made, as 'ownsRow' tells it. -/
theorem RowAt.of_owns {w : World} {base : Nat} {e : TypeId} {size : Nat} {g n cap : Nat} {cs : List Value} (h : w.ownsRow base e size (.slice (some ⟨g, 0, none⟩) n cap) n cs) (hc : n ≤ cap) : RowAt w true base w.heap.size size (some ⟨g, 0, none⟩) n cap cs := by
  have hlt := h.lt g rfl
  refine ⟨h.1, hc, fun _ => ⟨g, 0, rfl, hlt.1, hlt.2, hlt.2, fun i hi => ?_, fun _ i _ => ?_⟩⟩
  · rw [Nat.zero_add, h.cellAt i hi]
    have : i < cs.length := by rw [h.1]; exact hi
    simp [List.getD, this]
  · rw [Nat.zero_add]
    exact h.frozenAt i

theorem owns_below {w w' : World} {base : Nat} {e : TypeId} {size : Nat} {v : Value} {n : Nat} {xs : List Value} (h : w.ownsRow base e size v n xs) (hb : Below w.heap.size w w') : w'.ownsRow base e size v n xs := by
  refine ⟨h.1, ?_⟩
  rcases h.2 with h2 | ⟨g, cap, cur, hv, hg, hh, r⟩
  · exact Or.inl h2
  · have hlt : g < w.heap.size := by
      by_cases hlt : g < w.heap.size
      · exact hlt
      · rw [Array.getElem?_eq_none (by omega)] at hh; cases hh
    exact Or.inr ⟨g, cap, cur, hv, hg, by rw [hb.block g hlt]; exact hh, r⟩
theorem owns_lt {w : World} {base : Nat} {e : TypeId} {size : Nat} {g n cap m : Nat} {xs : List Value} (h : w.ownsRow base e size (.slice (some ⟨g, 0, none⟩) n cap) m xs) : base ≤ g ∧ g < w.heap.size := h.lt g rfl
theorem below_step {B : Nat} {w a b : World} (h : Below B w a) (hB : B ≤ a.heap.size) (k : Below a.heap.size a b) : Below B w b := h.trans (k.mono hB)

theorem below_drewN {B : Nat} {a w : World} (h : Below B a w) (n : Nat) : Below B a (w.drewN n) := ⟨h.os, h.tape, h.output, h.size, h.block⟩
theorem Kept.next {lo hi : Nat} {a w w' : World} (h : Kept lo hi a w) (hb : Below w.heap.size w w') : Kept lo hi a w' := h.trans (Kept.of_below hb)

theorem Kept.setCells {lo hi : Nat} {a w : World} (h : Kept lo hi a w) {b : Nat} (h1 : lo ≤ b) (h2 : b < hi) : ∀ (vs : List Value) (o : Nat), Kept lo hi a (w.setCells b o vs) := by
  intro vs
  induction vs generalizing w with
  | nil => intro o; exact h
  | cons v r ih =>
    intro o
    rw [World.setCells]
    exact ih (h.setCell (p := ⟨b, o, none⟩) h1 h2 v) (o + 1)
theorem RowAt.of_owned {w : World} {base : Nat} {e : TypeId} {size : Nat} {v : Value} {n : Nat} {cs : List Value} (h : w.ownsRow base e size v n cs) : ∃ ao cap, v = .slice ao n cap ∧ RowAt w true base w.heap.size size ao n cap cs := by
  rcases h.2 with ⟨rfl, rfl⟩ | ⟨g, cap, cur, rfl, hg, hh, hc, r⟩
  · exact ⟨none, 0, rfl, h.1, Nat.le_refl _, fun h => absurd rfl h⟩
  · exact ⟨_, _, rfl, RowAt.of_owns h hc⟩

end Go.Proofs.Ytpbhiednmnolgaa

namespace Go.Proofs.Ytpbhiednmnolgaa
open Go.RowKit

theorem nodeOf_append (ns : List Nd) (bs : List (Int × Int)) (j : Nat) (nd : Nd) : nodeOf (ns ++ [nd], bs) j = if j = ns.length then nd else ns.getD j nd0 := by
  unfold nodeOf
  by_cases e : j = ns.length
  · subst e; simp [List.getD]
  · rw [if_neg e]
    by_cases h : j < ns.length
    · rw [List.getD_eq_getElem?_getD, List.getElem?_append_left h, ← List.getD_eq_getElem?_getD]
    · rw [List.getD_eq_getElem?_getD, List.getElem?_eq_none (by simp; omega), List.getD_eq_getElem?_getD, List.getElem?_eq_none (by omega)]
theorem Inv.append {f : Fo} (h : Inv f) (hl : f.1.length < 60) {nd : Nd} (hn : NdOk (f.1 ++ [nd], f.2) nd) : Inv (f.1 ++ [nd], f.2) := by
  refine ⟨h.nb, by simp; omega, fun m => ?_, h.bk⟩
  rw [nodeOf_append]
  by_cases e : m = f.1.length
  · rw [if_pos e]; exact hn
  · rw [if_neg e]
    have hm := h.nd m
    refine ⟨hm.r0, hm.r1, hm.z, hm.kl, fun h0 k hk' => ?_, hm.so⟩
    rcases hm.ks h0 k hk' with e1 | ⟨h1, h2⟩
    · exact Or.inl e1
    · refine Or.inr ⟨h1, ?_⟩
      cases hl : (nodeOf f m).2.1 with
      | true => rw [show (f.1.getD m nd0).2.1 = true from hl, if_pos rfl]; rw [hl, if_pos rfl] at h2; exact h2
      | false =>
        rw [show (f.1.getD m nd0).2.1 = false from hl]
        rw [hl, if_neg (by decide)] at h2
        rw [if_neg (by decide), nodeOf_append, if_neg (by omega)]
        exact ⟨by simp; omega, h2.2⟩
end Go.Proofs.Ytpbhiednmnolgaa

namespace Go.Proofs.Ytpbhiednmnolgaa
open Go.RowKit

theorem Try.info2' : (Try.prog.info? 2).map (fun i => (i.zero, i.size, i.bytes)) = some (some (.int .i64 0), 1, 8) := by kernel_rfl

end Go.Proofs.Ytpbhiednmnolgaa

namespace Go.Proofs.Ytpbhiednmnolgaa
open Go.RowKit

theorem RowAt.of_front {w : World} {g n cap size : Nat} {cs : List Value} {rest : Array Value} {t : TypeId} (h : w.heap[g]? = some (.cells (cs.toArray ++ rest) t (0, 0))) (hn : cs.length = n * size) (hc : n ≤ cap) : RowAt w true g (g + 1) size (some ⟨g, 0, none⟩) n cap cs := by
  have hlt : g < w.heap.size := (Array.getElem?_eq_some_iff.1 h).1
  refine ⟨hn, hc, fun _ => ⟨g, 0, rfl, Nat.le_refl _, by omega, hlt, fun i hi => ?_, fun _ i _ => frozen_of_row w g _ _ t h⟩⟩
  rw [cell_of_row w g _ _ t (0, 0) h]
  have : i < cs.length := by omega
  simp [List.getD, Array.getElem?_append, this]

theorem Fresh.widen {w : World} {lo lo' hi hi' : Nat} {e : TypeId} {size : Nat} {v : Value} {n : Nat} {cs : List Value} (h : Fresh w lo hi e size v n cs) (hl : lo' ≤ lo) (hh : hi ≤ hi') : Fresh w lo' hi' e size v n cs := by
  rcases h with h | ⟨⟨h1, h2⟩, h3⟩
  · exact Or.inl h
  · refine Or.inr ⟨⟨h1, ?_⟩, fun k hk => Nat.lt_of_lt_of_le (h3 k hk) hh⟩
    rcases h2 with h2 | ⟨g, cap, cur, a, b, c⟩
    · exact Or.inl h2
    · exact Or.inr ⟨g, cap, cur, a, Nat.le_trans hl b, c⟩
end Go.Proofs.Ytpbhiednmnolgaa

namespace Go.Proofs.Ytpbhiednmnolgaa
open Go.RowKit

theorem DiskAt.widen {w : World} {lo hi lo' hi' : Nat} {a0 : Option Addr} {n0 c0 : Nat} {a1 : Option Addr} {n1 c1 : Nat} {xs : List Int} {ys : List (Int × Int)} (h : DiskAt w lo hi a0 n0 c0 a1 n1 c1 xs ys) (h1 : lo' ≤ lo) (h2 : hi ≤ hi') : DiskAt w lo' hi' a0 n0 c0 a1 n1 c1 xs ys := by
  obtain ⟨mid, m1, m2, r0, r1⟩ := h.parts
  exact ⟨mid, by omega, by omega, r0.widen h1 (Nat.le_refl _), r1.widen (Nat.le_refl _) h2⟩

theorem wrapI_same (n : Int) (h : -9223372036854775808 ≤ n ∧ n ≤ 9223372036854775807) : IntKind.i64.wrap n = n := by rw [IntKind.wrap_i64]; omega
theorem row_lit (W : World) (cs : List Value) (t : TypeId) (n size : Nat) (h : cs.length = n * size) : RowAt (W.alloc (.cells cs.toArray t)) true W.heap.size (W.heap.size + 1) size (some ⟨W.heap.size, 0, none⟩) n n cs :=
  RowAt.of_front (rest := #[]) (by simpa using heap_alloc_new W (.cells cs.toArray t)) h (Nat.le_refl _)

end Go.Proofs.Ytpbhiednmnolgaa

namespace Go.Proofs.Ytpbhiednmnolgaa
open Go.RowKit

theorem NodesAt.widen {w : World} {own : Bool} {lo hi : Nat} {ao : Option Addr} {n cap : Nat} {K : Nat → KS} {ns : List Nd} (h : NodesAt w own lo hi ao n cap K ns) {lo' hi' : Nat} (h1 : lo' ≤ lo) (h2 : hi ≤ hi') : NodesAt w own lo' hi' ao n cap K ns :=
  ⟨h.len, h.row.widen h1 h2, fun i hi => (h.kids i hi).widen h1 h2, h.sep⟩
end Go.Proofs.Ytpbhiednmnolgaa

namespace Go.Proofs.Ytpbhiednmnolgaa
open Go.RowKit

theorem FoAt.widen {w : World} {own : Bool} {lo hi : Nat} {an : Option Addr} {nn cn : Nat} {ab : Option Addr} {nb cb : Nat} {K : Nat → KS} {f : Fo} (h : FoAt w own lo hi an nn cn ab nb cb K f) {lo' hi' : Nat} (h1 : lo' ≤ lo) (h2 : hi ≤ hi') : FoAt w own lo' hi' an nn cn ab nb cb K f :=
  ⟨h.nodes.widen h1 h2, h.blocks.widen h1 h2, h.sep⟩

end Go.Proofs.Ytpbhiednmnolgaa

namespace Go.Proofs.Ytpbhiednmnolgaa
open Go.RowKit

theorem NewB.ge {w W : World} {b : Nat} {cs : Array Value} (h : NewB w W b cs) : w.heap.size ≤ b := Nat.le_of_eq h.bl.symm
theorem newB_mk (w : World) (cs : Array Value) (t : TypeId) : NewB w (w.alloc (.cells cs t)) w.heap.size cs :=
  ⟨rfl, by simp, (Below.refl _ _).alloc (Nat.le_refl _) _, fun k v h => by simpa using h, fun k => by simp⟩
/-- a new variable of a type: its zero cells -/
theorem alloc_new {P : Program} {ops : Array Oper} {rest : List Oper} {dst : Option Tmp} {type : TypeId} {pos : String} {after : Array Edge} {a : Act} {w : World} {Q : Exit → Act → World → Prop} (ty : TypeId) (cs : Array Value) (hz : ∀ w, (zeroValue ty).run P w = .ok (.agg cs) w)
    (h : ∀ (b : Nat) (W : World), NewB w W b cs → wpList P ops Q rest (a.put dst (.pointer (some ⟨b, 0, none⟩))) W) : wpList P ops Q (⟨dst, .alloc ty, type, pos, after, none⟩ :: rest) a w := by
  refine wpList_plain rfl fun K hK => ?_
  unfold Oper.wp execOp
  go_simp
  exact hK _ _ (h _ _ (newB_mk _ _ _))

theorem size_setCells' (b : Nat) : ∀ (vs : List Value) (o : Nat) (w : World), (w.setCells b o vs).heap.size = w.heap.size
  | [], _, _ => rfl
  | v :: r, o, w => by rw [World.setCells, size_setCells' b r (o + 1)]; simp
theorem there6 {w : World} {b : Nat} {v0 v1 v2 v3 v4 v5 : Value} (c0 : w.cell? ⟨b, 0, none⟩ = some v0) (c1 : w.cell? ⟨b, 1, none⟩ = some v1) (c2 : w.cell? ⟨b, 2, none⟩ = some v2) (c3 : w.cell? ⟨b, 3, none⟩ = some v3) (c4 : w.cell? ⟨b, 4, none⟩ = some v4) (c5 : w.cell? ⟨b, 5, none⟩ = some v5) (y0 : w.frozen? ⟨b, 0, none⟩ = false) (y1 : w.frozen? ⟨b, 1, none⟩ = false) (y2 : w.frozen? ⟨b, 2, none⟩ = false) (y3 : w.frozen? ⟨b, 3, none⟩ = false) (y4 : w.frozen? ⟨b, 4, none⟩ = false) (y5 : w.frozen? ⟨b, 5, none⟩ = false) : w.there b 0 6 := fun j hj => by
  rcases (by omega : j = 0 ∨ j = 1 ∨ j = 2 ∨ j = 3 ∨ j = 4 ∨ j = 5) with rfl | rfl | rfl | rfl | rfl | rfl
  · exact ⟨by rw [c0]; rfl, y0⟩
  · exact ⟨by rw [c1]; rfl, y1⟩
  · exact ⟨by rw [c2]; rfl, y2⟩
  · exact ⟨by rw [c3]; rfl, y3⟩
  · exact ⟨by rw [c4]; rfl, y4⟩
  · exact ⟨by rw [c5]; rfl, y5⟩
theorem setB_cells {w : World} {b : Nat} {cs : List Value} {n : Nat} (hn : cs.length = n) (ht : w.there b 0 n) : SetB w (w.setCells b 0 cs) b cs := by
  refine ⟨?_, ?_, ?_, ?_⟩
  · exact (Kept.refl _ _ _).setCells (Nat.le_refl _) (Nat.lt_succ_self _) _ _
  · intro k v hv
    have hk : k < cs.length := by
      rcases Nat.lt_or_ge k cs.length with h' | h'
      · exact h'
      · rw [List.getElem?_eq_none h'] at hv; cases hv
    have := World.cell?_setCells_in b cs 0 w (fun j hj => (ht j (by omega)).1) k hk
    rw [Nat.zero_add] at this
    simpa [List.getElem?_eq_getElem hk] using this.trans (by rw [← hv, List.getElem?_eq_getElem hk])
  · intro q k; simp [World.frozen?_setCells]
  · exact size_setCells' b cs 0 w
theorem store_box {P : Program} {ops : Array Oper} {rest : List Oper} {dst : Option Tmp} {type : TypeId} {pos : String} {after : Array Edge} {a : Act} {w : World} {Q : Exit → Act → World → Prop} (ty : TypeId) {x y : Operand} (b : Nat) (cs : List Value) {n : Nat} (hn : cs.length = n) (ht : w.there b 0 n) (hi : (P.info? ty).map (·.size) = some n) (h1 : ∀ v ∈ cs, v.oneCell' = true) (hx : a.eval x = .pointer (some ⟨b, 0, none⟩)) (hy : a.eval y = .agg cs.toArray)
    (h : ∀ W : World, SetB w W b cs → wpList P ops Q rest (a.put dst undef) W) : wpList P ops Q (⟨dst, .store ty x y, type, pos, after, none⟩ :: rest) a w := by
  refine wpList_plain rfl fun K hK => ?_
  refine wp_store_mid ty x y rfl b 0 cs.toArray hx hy (by rw [List.size_toArray, hn]; exact ht) (by rw [List.size_toArray, hn]; exact hi) (all_oneCell_toArray h1) (hK _ _ (h _ (setB_cells hn ht)))
end Go.Proofs.Ytpbhiednmnolgaa

namespace Go.Proofs.Ytpbhiednmnolgaa
open Go.RowKit

/-- a whole block -/
def Blk (w : World) (b : Nat) (e : TypeId) (L : List Value) : Prop := w.heap[b]? = some (.cells L.toArray e (0, 0))
theorem Blk.lt {w : World} {b : Nat} {e : TypeId} {L : List Value} (h : Blk w b e L) : b < w.heap.size := by
  rcases Nat.lt_or_ge b w.heap.size with h' | h'
  · exact h'
  · unfold Blk at h; rw [Array.getElem?_eq_none h'] at h; cases h
theorem Blk.cell {w : World} {b : Nat} {e : TypeId} {L : List Value} (h : Blk w b e L) {k : Nat} {v : Value} (hk : L[k]? = some v) : w.cell? ⟨b, k, none⟩ = some v := by
  unfold Blk at h
  simp [World.cell?, h, hk]
theorem Blk.froz {w : World} {b : Nat} {e : TypeId} {L : List Value} (h : Blk w b e L) (k : Nat) : w.frozen? ⟨b, k, none⟩ = false := by
  unfold Blk at h
  simp [World.frozen?, h]
theorem Blk.set {w : World} {b : Nat} {e : TypeId} {L M : List Value} (h : Blk w b e L) : Blk (w.setRow b M.toArray) b e M := setRow_heap w b _ _ e _ h
theorem Blk.drew {w : World} {b : Nat} {e : TypeId} {L : List Value} (h : Blk w b e L) : Blk w.drew b e L := h
end Go.Proofs.Ytpbhiednmnolgaa

namespace Go.Proofs.Ytpbhiednmnolgaa
open Go.RowKit

section
variable {x : Int} (h0 : 0 ≤ x) (h1 : x ≤ 256)
include h0 h1
end
/-- within what a float tells exactly -/
def Small (p : Int × Int) : Prop := (0 ≤ p.1 ∧ p.1 ≤ 256) ∧ 0 ≤ p.2 ∧ p.2 ≤ 256
end Go.Proofs.Ytpbhiednmnolgaa

namespace Go.Proofs.Ytpbhiednmnolgaa
open Go.RowKit

def Fine (bs : List (Int × Int)) : Prop := ∀ p ∈ bs, Small p ∧ (p.1 = 0 → p.2 = 0)
theorem Fine.at {bs : List (Int × Int)} (h : Fine bs) {k : Nat} (hk : k < bs.length) : Small (bs.getD k (0, 0)) ∧ ((bs.getD k (0, 0)).1 = 0 → (bs.getD k (0, 0)).2 = 0) :=
  h _ (by rw [List.getD_eq_getElem?_getD, List.getElem?_eq_getElem hk]; exact List.getElem_mem hk)

end Go.Proofs.Ytpbhiednmnolgaa

namespace Go.Proofs.Ytpbhiednmnolgaa
open Go.RowKit

def fn (n : Nat) (g : Nat → Int) : List Int := (List.range n).map g
section
variable {o : Bool} {l u : Nat} (an : Option Addr) (nn cn : Nat) (ab : Option Addr) (nb cb : Nat) (K : Nat → KS) (f : Fo) (w : World) (h : FoAt w o l u an nn cn ab nb cb K f)
include h

end

end Go.Proofs.Ytpbhiednmnolgaa

namespace Go.Proofs.Ytpbhiednmnolgaa
open Go.RowKit

abbrev Vo := Int × Int × Int
def vo0 : Vo := (0, 0, 0)
def trips (vs : List Vo) : List Value := flat3 vs.length (fun i => .int .i64 (vs.getD i vo0).1) (fun i => .int .i64 (vs.getD i vo0).2.1) (fun i => .int .i64 (vs.getD i vo0).2.2)
end Go.Proofs.Ytpbhiednmnolgaa

namespace Go.Proofs.Ytpbhiednmnolgaa
open Go.RowKit

def en0 : En := (0, 0, 0, 0, 0, 0)
def enF (x : En) (j : Nat) : Int := if j = 0 then x.1 else if j = 1 then x.2.1 else if j = 2 then x.2.2.1 else if j = 3 then x.2.2.2.1 else if j = 4 then x.2.2.2.2.1 else x.2.2.2.2.2
def sixs (xs : List En) : List Value := (List.range (xs.length * 6)).map fun j => .int .i64 (enF (xs.getD (j / 6) en0) (j % 6))
theorem sixs_len (xs : List En) : (sixs xs).length = xs.length * 6 := by simp [sixs]
theorem sixs_get (xs : List En) (k j : Nat) (h : k < xs.length) (hj : j < 6) : (sixs xs).getD (k * 6 + j) default = .int .i64 (enF (xs.getD k en0) j) := by
  have h1 : k * 6 + j < xs.length * 6 := by omega
  have h2 : (k * 6 + j) / 6 = k := by omega
  have h3 : (k * 6 + j) % 6 = j := by omega
  have : (sixs xs).getD (k * 6 + j) default = .int .i64 (enF (xs.getD ((k * 6 + j) / 6) en0) ((k * 6 + j) % 6)) := by simp [sixs, List.getD, h1]
  rw [this, h2, h3]
theorem RowAt.nSixs {w : World} {own : Bool} {lo hi : Nat} {ao : Option Addr} {n cap : Nat} {vs : List En} (h : RowAt w own lo hi 6 ao n cap (sixs vs)) : vs.length = n := by
  have hl := h.len; rw [sixs_len] at hl; omega
theorem RowAt.six {w : World} {own : Bool} {lo hi : Nat} {ao : Option Addr} {n cap : Nat} {vs : List En} (h : RowAt w own lo hi 6 ao n cap (sixs vs)) {i : Nat} (hi' : i < n) :
    ∃ b off, ao = some ⟨b, off, none⟩ ∧ lo ≤ b ∧ b < hi ∧ b < w.heap.size ∧ w.cell? ⟨b, off + i * 6, none⟩ = some (.int .i64 (vs.getD i en0).1) ∧ w.cell? ⟨b, off + i * 6 + 1, none⟩ = some (.int .i64 (vs.getD i en0).2.1) ∧ w.cell? ⟨b, off + i * 6 + 2, none⟩ = some (.int .i64 (vs.getD i en0).2.2.1) ∧ w.cell? ⟨b, off + i * 6 + 3, none⟩ = some (.int .i64 (vs.getD i en0).2.2.2.1) ∧ w.cell? ⟨b, off + i * 6 + 4, none⟩ = some (.int .i64 (vs.getD i en0).2.2.2.2.1) ∧ w.cell? ⟨b, off + i * 6 + 5, none⟩ = some (.int .i64 (vs.getD i en0).2.2.2.2.2) ∧ (own = true → ∀ j, j < 6 → w.frozen? ⟨b, off + (i * 6 + j), none⟩ = false) := by
  obtain ⟨b, off, rfl, g1, g2, g3, g4, g5⟩ := h.cells (by omega)
  have hl := h.nSixs
  have G : ∀ j, j < 6 → w.cell? ⟨b, off + (i * 6 + j), none⟩ = some (.int .i64 (enF (vs.getD i en0) j)) := fun j hj => by
    rw [g4 (i * 6 + j) (by omega), sixs_get vs i j (by omega) hj]
  exact ⟨b, off, rfl, g1, g2, g3, G 0 (by omega), G 1 (by omega), G 2 (by omega), G 3 (by omega), G 4 (by omega), G 5 (by omega), fun ho j hj => g5 ho _ (by omega)⟩

end Go.Proofs.Ytpbhiednmnolgaa

namespace Go.Proofs.Ytpbhiednmnolgaa
open Go.RowKit

theorem Try.infoEntry : (Try.prog.info? 29).map (fun i => (i.zero, i.size, i.bytes)) = some (some (.agg #[.int .i64 0, .int .i64 0, .int .i64 0, .int .i64 0, .int .i64 0, .int .i64 0]), 6, 48) := by kernel_rfl
end Go.Proofs.Ytpbhiednmnolgaa

namespace Go.Proofs.Ytpbhiednmnolgaa
open Go.RowKit Go.ChangeShapes Go.WideShapes Go.Deep

theorem addr_add (b off i : Nat) : (⟨b, off, none⟩ : Addr).add i = ⟨b, off + i, none⟩ := by
  simp [Addr.add]

section
variable {H : Type} {enc : TypeId × Value → H} {P : Program} {w : World}

end
end Go.Proofs.Ytpbhiednmnolgaa

namespace Go.Proofs.Ytpbhiednmnolgaa
open Go.RowKit

section
variable {P : Program} {tab : List (List Nat)} (h : P.funcs.toList.map P.leadsTo = tab)
include h
end
section
variable {P : Program} {tab : List (List Nat)} (h : P.funcs.toList.map P.leadsTo = tab)
include h
theorem recurses_unf {f : Nat} (hu : P.unfollowed f = true) : P.recurses f = true := by
  have _ := h
  unfold Program.recurses
  rw [hu, Bool.true_or]
end
section
variable {P : Program} {c : List Char} {X : List (List Char)} (h : behindMainWord (wordsSigns P.initOrder.toList) = c :: X) (hg : (c == "gc".toList) = false) (hs : (c == "spec".toList) = false) (hc : (c == "cut".toList) = true) (hr : (c == "carried".toList) = false) (hl : stripLifts liftWords (c :: X) = ([], c :: X))
include h hg hs hc hr hl
end

end Go.Proofs.Ytpbhiednmnolgaa

