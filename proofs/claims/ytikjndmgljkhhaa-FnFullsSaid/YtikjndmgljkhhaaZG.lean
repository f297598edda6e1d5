/- Chapter 4: a forest whose nodes are pointed at, while the program changes it. -/
import Derived.Test.YtikjndmgljkhhaaZM
import Derived.Test.YtikjndmgljkhhaaMark
import Derived.Test.YtikjndmgljkhhaaZT
import Derived.Test.YtikjndmgljkhhaaZV
import Derived.Test.YtikjndmgljkhhaaZQ
import Derived.Lib.SliceRun
import Derived.Test.YtikjndmgljkhhaaZW
namespace Go.Proofs.Ytikjndmgljkhhaa
open Go.RowKit

def ptrV : Option Nat → Value
  | none => .pointer none
  | some b => .pointer (some ⟨b, 0, none⟩)
def ptrs (P : Nat → Option Nat) (n : Nat) : List Value := (List.range n).map fun i => ptrV (P i)
theorem ptrs_get {P : Nat → Option Nat} {n i : Nat} (h : i < n) : (ptrs P n).getD i default = ptrV (P i) := by simp [ptrs, List.getD, h]
def updP (P : Nat → Option Nat) (i : Nat) (p : Option Nat) : Nat → Option Nat := fun j => if j = i then p else P j
theorem ptrs_set {P : Nat → Option Nat} {n i : Nat} (_ : i < n) (p : Option Nat) : (ptrs P n).set i (ptrV p) = ptrs (updP P i p) n := by
  apply List.ext_getElem (by simp [ptrs])
  intro j h1 h2
  simp only [List.getElem_set, ptrs, List.getElem_map, List.getElem_range, updP]
  by_cases e : i = j
  · rw [if_pos e, if_pos e.symm]
  · rw [if_neg e, if_neg (Ne.symm e)]
theorem ptrs_snoc (P : Nat → Option Nat) (n : Nat) (p : Option Nat) : ptrs (updP P n p) (n + 1) = ptrs P n ++ [ptrV p] := by
  unfold ptrs
  rw [List.range_succ, List.map_append]
  congr 1
  · refine List.map_congr_left fun j hj => ?_
    have := List.mem_range.1 hj
    simp [updP, Nat.ne_of_lt this]
  · simp [updP]
/-- the cells of a node that is pointed at -/
def ndc (nd : Nd) : List Value := .int .i64 nd.1 :: .bool nd.2.1 :: ints nd.2.2
def BoxAt (w : World) (b : Nat) (nd : Nd) : Prop := RowAt w true b (b + 1) 1 (some ⟨b, 0, none⟩) 6 6 (ndc nd)
theorem BoxAt.four {w : World} {b : Nat} {nd : Nd} (h : BoxAt w b nd) : nd.2.2.length = 4 := by
  have := h.len; simp [ndc, ints] at this; omega
theorem BoxAt.lt {w : World} {b : Nat} {nd : Nd} (h : BoxAt w b nd) : b < w.heap.size := by
  obtain ⟨_, _, e, _, _, h3, _⟩ := h.cells (by decide)
  cases e; exact h3
theorem BoxAt.keptS {w w' : World} {b : Nat} {nd : Nd} (h : BoxAt w b nd) {S : Nat → Prop} (hk : KeptS S w w') (hs : ¬ S b) : BoxAt w' b nd := RowAt.keptS h hk fun a _ e => by cases e; exact hs
theorem BoxAt.cell {w : World} {b : Nat} {nd : Nd} (h : BoxAt w b nd) : w.cell? ⟨b, 0, none⟩ = some (.int .i64 nd.1) ∧ w.cell? ⟨b, 1, none⟩ = some (.bool nd.2.1) ∧ (∀ j, j < 4 → w.cell? ⟨b, 2 + j, none⟩ = some (.int .i64 (nd.2.2.getD j 0))) ∧ ∀ j, j < 6 → w.frozen? ⟨b, j, none⟩ = false := by
  have h4 := h.four
  obtain ⟨_, _, e, _, _, _, g4, g5⟩ := h.cells (by decide)
  cases e
  refine ⟨by simpa [ndc] using g4 0 (by decide), by simpa [ndc] using g4 1 (by decide), fun j hj => ?_, fun j hj => by simpa using g5 rfl j (by omega)⟩
  have := g4 (2 + j) (by omega)
  rw [Nat.zero_add] at this
  rw [this, show 2 + j = (j + 1) + 1 by omega]
  simp [ndc, ints, List.getD, show j < nd.2.2.length by omega]

structure GAt (w : World) (S H : Nat → Prop) (base g : Nat) (vn : Value) (ab : Option Addr) (nb cb : Nat) (P : Nat → Option Nat) (f : Fo) : Prop where
  c0 : w.cell? ⟨g, 0, none⟩ = some vn
  c1 : w.cell? ⟨g, 1, none⟩ = some (.slice ab nb cb)
  z0 : w.frozen? ⟨g, 0, none⟩ = false
  z1 : w.frozen? ⟨g, 1, none⟩ = false
  hg : S g ∧ g < w.heap.size
  own : w.ownsRow base 243 1 vn f.1.length (ptrs P f.1.length)
  ownS : ∀ x, vn.ownBlock = some x → S x ∧ x ≠ g
  blk : RowAt w true base w.heap.size 2 ab nb cb (pairs f.2)
  blkS : nb ≠ 0 → S (sb ab) ∧ sb ab ≠ g ∧ vn.ownBlock ≠ some (sb ab)
  no : ∀ i, i < f.1.length → ¬ H i → P i = none → f.1.getD i nd0 = nd0
  yes : ∀ i, i < f.1.length → ¬ H i → ∀ b, P i = some b → BoxAt w b (f.1.getD i nd0) ∧ (f.1.getD i nd0).1 ≠ 0 ∧ S b ∧ b ≠ g ∧ vn.ownBlock ≠ some b ∧ (nb ≠ 0 → sb ab ≠ b)
  inj : ∀ i j b, i < f.1.length → j < f.1.length → ¬ H i → ¬ H j → P i = some b → P j = some b → i = j
theorem owns_keptS {w w' : World} {base : Nat} {e : TypeId} {size : Nat} {v : Value} {n : Nat} {xs : List Value} (h : w.ownsRow base e size v n xs) {S : Nat → Prop} (hk : KeptS S w w') (hd : ∀ k, v.ownBlock = some k → ¬ S k) : w'.ownsRow base e size v n xs := by
  refine ⟨h.1, ?_⟩
  rcases h.2 with h2 | ⟨g, cap, cur, rfl, hg, hh, r⟩
  · exact Or.inl h2
  · exact Or.inr ⟨g, cap, cur, rfl, hg, by rw [hk.block g (Array.getElem?_eq_some_iff.1 hh).1 (hd g rfl)]; exact hh, r⟩
section
variable {w w' : World} {S H : Nat → Prop} {base g : Nat} {vn : Value} {ab : Option Addr} {nb cb : Nat} {P : Nat → Option Nat} {f : Fo}
/-- what lies elsewhere may change -/
theorem GAt.frame (h : GAt w S H base g vn ab nb cb P f) {T : Nat → Prop} (hk : KeptS T w w') (hd : ∀ k, S k → ¬ T k) : GAt w' S H base g vn ab nb cb P f := by
  have hn := hd g h.hg.1
  refine ⟨hk.cell h.c0 h.hg.2 hn, hk.cell h.c1 h.hg.2 hn, hk.frozen h.z0 h.hg.2 hn, hk.frozen h.z1 h.hg.2 hn, ⟨h.hg.1, Nat.lt_of_lt_of_le h.hg.2 hk.size⟩, owns_keptS h.own hk fun k e => hd k (h.ownS k e).1, h.ownS, (h.blk.keptS hk fun a hne e => ?_).widen (Nat.le_refl _) hk.size, h.blkS, h.no, fun i hi hH b hb => ?_, h.inj⟩
  · have := hd _ (h.blkS hne).1; rw [e] at this; exact this
  · obtain ⟨y1, y2, y3, y4⟩ := h.yes i hi hH b hb
    exact ⟨y1.keptS hk (hd b y3), y2, y3, y4⟩
theorem GAt.below (h : GAt w S H base g vn ab nb cb P f) (hb : Below w.heap.size w w') : GAt w' S H base g vn ab nb cb P f := h.frame (T := fun _ => False) (KeptS.below hb) fun _ _ => id
/-- its blocks lie in another set too -/
theorem GAt.into (h : GAt w S H base g vn ab nb cb P f) {T : Nat → Prop} (ht : ∀ k, S k → k < w.heap.size → T k) : GAt w T H base g vn ab nb cb P f := by
  refine ⟨h.c0, h.c1, h.z0, h.z1, ⟨ht g h.hg.1 h.hg.2, h.hg.2⟩, h.own, fun x e => ⟨ht x (h.ownS x e).1 (h.own.lt x e).2, (h.ownS x e).2⟩, h.blk, fun hne => ⟨ht _ (h.blkS hne).1 (h.blk.block_lt hne).2.2, (h.blkS hne).2⟩, h.no, fun i hi hH b hb => ?_, h.inj⟩
  obtain ⟨y1, y2, y3, y4⟩ := h.yes i hi hH b hb
  exact ⟨y1, y2, ht b y3 y1.lt, y4⟩
/-- a node is held aside -/
theorem GAt.hole (h : GAt w S H base g vn ab nb cb P f) {i b : Nat} (hi : i < f.1.length) (hH : ¬ H i) (hb : P i = some b) (nd : Nd) : GAt w (fun k => S k ∧ k ≠ b) (fun j => H j ∨ j = i) base g vn ab nb cb P (f.1.set i nd, f.2) := by
  obtain ⟨y1, y2, y3, y4, y5, y6⟩ := h.yes i hi hH b hb
  have hl : (f.1.set i nd).length = f.1.length := List.length_set ..
  refine ⟨h.c0, h.c1, h.z0, h.z1, ⟨⟨h.hg.1, Ne.symm y4⟩, h.hg.2⟩, ?_, fun x e => ⟨⟨(h.ownS x e).1, fun e2 => y5 (by rw [e, e2])⟩, (h.ownS x e).2⟩, h.blk, fun hne => ⟨⟨(h.blkS hne).1, y6 hne⟩, (h.blkS hne).2⟩, fun j hj hJ hp => ?_, fun j hj hJ c hc => ?_, fun j m c hj hm hJ hM hc hd => ?_⟩
  · show World.ownsRow _ _ _ _ _ (f.1.set i nd).length (ptrs P (f.1.set i nd).length)
    rw [hl]; exact h.own
  · have hji : j ≠ i := fun e => hJ (Or.inr e)
    show (f.1.set i nd).getD j nd0 = nd0
    rw [set_getN _ _ _ _ hi, if_neg hji]
    exact h.no j (hl ▸ hj) (fun e => hJ (Or.inl e)) hp
  · have hji : j ≠ i := fun e => hJ (Or.inr e)
    have hj' : j < f.1.length := hl ▸ hj
    obtain ⟨u1, u2, u3, u4⟩ := h.yes j hj' (fun e => hJ (Or.inl e)) c hc
    have hcb : c ≠ b := fun e => hji (h.inj j i b hj' hi (fun e => hJ (Or.inl e)) hH (e ▸ hc) hb)
    show BoxAt w c ((f.1.set i nd).getD j nd0) ∧ ((f.1.set i nd).getD j nd0).1 ≠ 0 ∧ _
    rw [set_getN _ _ _ _ hi, if_neg hji]
    exact ⟨u1, u2, ⟨u3, hcb⟩, u4⟩
  · exact h.inj j m c (hl ▸ hj) (hl ▸ hm) (fun e => hJ (Or.inl e)) (fun e => hM (Or.inl e)) hc hd
/-- the pointers' row -/
theorem GAt.ptr (h : GAt w S H base g vn ab nb cb P f) {i : Nat} (hi : i < f.1.length) : ∃ r cap, vn = .slice (some ⟨r, 0, none⟩) f.1.length cap ∧ r < w.heap.size ∧ S r ∧ r ≠ g ∧ w.cell? ⟨r, i, none⟩ = some (ptrV (P i)) ∧ w.frozen? ⟨r, i, none⟩ = false := by
  obtain ⟨r, cap, rfl, _, h2, R⟩ := own_block h.own (by omega)
  obtain ⟨_, _, e, _, _, _, g4, g5⟩ := R.cells (by omega)
  cases e
  have q4 := g4 i (by omega)
  have q5 := g5 rfl i (by omega)
  rw [Nat.zero_add] at q4 q5
  rw [ptrs_get hi] at q4
  exact ⟨_, cap, rfl, h2, (h.ownS _ rfl).1, (h.ownS _ rfl).2, q4, q5⟩
/-- a pointer is written: to nothing, or to a node that nobody else points at -/
theorem GAt.put {r n cap : Nat} {H' : Nat → Prop} (h : GAt w S H' base g (.slice (some ⟨r, 0, none⟩) n cap) ab nb cb P f) (hn : n = f.1.length) {i : Nat} (hi : i < f.1.length) (p : Option Nat) (nd : Nd) (hH : ∀ j, j ≠ i → ¬ H j → ¬ H' j)
    (h0 : p = none → nd = nd0) (h1 : ∀ b, p = some b → BoxAt w b nd ∧ nd.1 ≠ 0 ∧ S b ∧ b ≠ g ∧ r ≠ b ∧ (nb ≠ 0 → sb ab ≠ b) ∧ ∀ j, j < f.1.length → j ≠ i → ¬ H j → P j ≠ some b) :
    GAt (w.setCell ⟨r, i, none⟩ (ptrV p)) S H base g (.slice (some ⟨r, 0, none⟩) n cap) ab nb cb (updP P i p) (f.1.set i nd, f.2) := by
  have hl : (f.1.set i nd).length = f.1.length := List.length_set ..
  have hrg : r ≠ g := (h.ownS r rfl).2
  have SP : KeptS (fun x => x = r) w (w.setCell ⟨r, i, none⟩ (ptrV p)) := by
    refine KeptS.setCell (KeptS.refl _ _) ?_ _; rfl
  have hsz : (w.setCell ⟨r, i, none⟩ (ptrV p)).heap.size = w.heap.size := by simp
  refine ⟨SP.cell h.c0 h.hg.2 (Ne.symm hrg), SP.cell h.c1 h.hg.2 (Ne.symm hrg), SP.frozen h.z0 h.hg.2 (Ne.symm hrg), SP.frozen h.z1 h.hg.2 (Ne.symm hrg), ⟨h.hg.1, by rw [hsz]; exact h.hg.2⟩, ?_, h.ownS, ?_, h.blkS, fun j hj hJ hp => ?_, fun j hj hJ c hc => ?_, fun j m c hj hm hJ hM hc hd => ?_⟩
  · show World.ownsRow _ _ _ _ _ (f.1.set i nd).length (ptrs (updP P i p) (f.1.set i nd).length)
    rw [hl]
    subst hn
    have := (h.own.stored i (ptrV p)).1
    rw [ptrs_set hi] at this
    exact this
  · rw [hsz]; exact h.blk.keptS SP fun a hne e e2 => (h.blkS hne).2.2 (by rw [e]; simp [Value.ownBlock, sb, e2])
  · show (f.1.set i nd).getD j nd0 = nd0
    rw [set_getN _ _ _ _ hi]
    by_cases e : j = i
    · rw [if_pos e]; simp only [updP, if_pos e] at hp; exact h0 hp
    · rw [if_neg e]; simp only [updP, if_neg e] at hp; exact h.no j (hl ▸ hj) (hH j e hJ) hp
  · show BoxAt _ c ((f.1.set i nd).getD j nd0) ∧ ((f.1.set i nd).getD j nd0).1 ≠ 0 ∧ _
    rw [set_getN _ _ _ _ hi]
    by_cases e : j = i
    · rw [if_pos e]
      simp only [updP, if_pos e] at hc
      obtain ⟨y1, y2, y3, y4, y5, y6, _⟩ := h1 c hc
      exact ⟨y1.keptS SP (Ne.symm y5), y2, y3, y4, fun e2 => y5 (by simpa [Value.ownBlock] using e2), y6⟩
    · rw [if_neg e]
      simp only [updP, if_neg e] at hc
      obtain ⟨y1, y2, y3, y4, y5, y6⟩ := h.yes j (hl ▸ hj) (hH j e hJ) c hc
      exact ⟨y1.keptS SP (fun e2 => y5 (by simp [Value.ownBlock, e2])), y2, y3, y4, y5, y6⟩
  · have hj' : j < f.1.length := hl ▸ hj
    have hm' : m < f.1.length := hl ▸ hm
    simp only [updP] at hc hd
    by_cases e1 : j = i
    · by_cases e2 : m = i
      · omega
      · rw [if_pos e1] at hc; rw [if_neg e2] at hd
        exact absurd hd ((h1 c hc).2.2.2.2.2.2 m hm' e2 hM)
    · by_cases e2 : m = i
      · rw [if_neg e1] at hc; rw [if_pos e2] at hd
        exact absurd hc ((h1 c hd).2.2.2.2.2.2 j hj' e1 hJ)
      · rw [if_neg e1] at hc; rw [if_neg e2] at hd
        exact h.inj j m c hj' hm' (hH j e1 hJ) (hH m e2 hM) hc hd
/-- a node is changed where it is -/
theorem GAt.box (h : GAt w S H base g vn ab nb cb P f) {i b : Nat} (hi : i < f.1.length) (hH : ¬ H i) (hb : P i = some b) {nd : Nd} (hk : KeptS (fun x => x = b) w w') (hw : w'.heap.size = w.heap.size) (hB : BoxAt w' b nd) (h0 : nd.1 ≠ 0) : GAt w' S H base g vn ab nb cb P (f.1.set i nd, f.2) := by
  obtain ⟨y1, y2, y3, y4, y5, y6⟩ := h.yes i hi hH b hb
  have hl : (f.1.set i nd).length = f.1.length := List.length_set ..
  refine ⟨hk.cell h.c0 h.hg.2 (Ne.symm y4), hk.cell h.c1 h.hg.2 (Ne.symm y4), hk.frozen h.z0 h.hg.2 (Ne.symm y4), hk.frozen h.z1 h.hg.2 (Ne.symm y4), ⟨h.hg.1, by rw [hw]; exact h.hg.2⟩, ?_, h.ownS, ?_, h.blkS, fun j hj hJ hp => ?_, fun j hj hJ c hc => ?_, fun j m c hj hm hJ hM hc hd => h.inj j m c (hl ▸ hj) (hl ▸ hm) hJ hM hc hd⟩
  · show World.ownsRow _ _ _ _ _ (f.1.set i nd).length (ptrs P (f.1.set i nd).length)
    rw [hl]
    exact owns_keptS h.own hk fun k e e2 => y5 (by rw [e, e2])
  · rw [hw]; exact h.blk.keptS hk fun a hne e e2 => y6 hne (by rw [e]; exact e2)
  · show (f.1.set i nd).getD j nd0 = nd0
    rw [set_getN _ _ _ _ hi]
    by_cases e : j = i
    · rw [e, hb] at hp; cases hp
    · rw [if_neg e]; exact h.no j (hl ▸ hj) hJ hp
  · show BoxAt _ c ((f.1.set i nd).getD j nd0) ∧ ((f.1.set i nd).getD j nd0).1 ≠ 0 ∧ _
    rw [set_getN _ _ _ _ hi]
    by_cases e : j = i
    · rw [if_pos e]
      rw [e, hb] at hc
      cases hc
      exact ⟨hB, h0, y3, y4, y5, y6⟩
    · rw [if_neg e]
      have hj' : j < f.1.length := hl ▸ hj
      obtain ⟨u1, u2, u3, u4⟩ := h.yes j hj' hJ c hc
      exact ⟨u1.keptS hk fun e2 => e (h.inj j i b hj' hi hJ hH (e2 ▸ hc) hb), u2, u3, u4⟩
/-- it has other blocks -/
theorem GAt.blocks (h : GAt w S H base g vn ab nb cb P f) (hb : Below w.heap.size w w') {ab' : Option Addr} {nb' cb' : Nat} {bs : List (Int × Int)} (hr : RowAt w' true w.heap.size w'.heap.size 2 ab' nb' cb' (pairs bs)) (hS : ∀ k, w.heap.size ≤ k → S k) (hbase : base ≤ w.heap.size) :
    GAt (w'.setCell ⟨g, 1, none⟩ (.slice ab' nb' cb')) S H base g vn ab' nb' cb' P (f.1, bs) := by
  have h' := h.below hb
  have SP : KeptS (fun x => x = g) w' (w'.setCell ⟨g, 1, none⟩ (.slice ab' nb' cb')) := by
    refine KeptS.setCell (KeptS.refl _ _) ?_ _; rfl
  have hsz : (w'.setCell ⟨g, 1, none⟩ (.slice ab' nb' cb')).heap.size = w'.heap.size := by simp
  have hlt := h.hg.2
  refine ⟨?_, World.cell?_setCell_same _ _ _ h'.c1, by simpa using h'.z0, by simpa using h'.z1, ⟨h.hg.1, by rw [hsz]; exact h'.hg.2⟩, owns_keptS h'.own SP fun k e e2 => (h.ownS k e).2 e2, h.ownS, ?_, fun hne => ?_, h.no, fun j hj hJ c hc => ?_, h.inj⟩
  · rw [World.cell?_setCell_other _ _ _ _ (by intro e; simp at e)]; exact h'.c0
  · rw [hsz]
    exact (hr.keptS SP fun a hne e e2 => by have := (hr.block_lt hne).1; rw [e] at this; simp [sb] at this; omega).widen hbase (Nat.le_refl _)
  · have := (hr.block_lt hne).1
    exact ⟨hS _ this, by omega, fun e => by have := (h.own.lt _ e).2; omega⟩
  · obtain ⟨y1, y2, y3, y4, y5, y6⟩ := h'.yes j hj hJ c hc
    obtain ⟨x1, _⟩ := h.yes j hj hJ c hc
    refine ⟨y1.keptS SP y4, y2, y3, y4, y5, fun hne e => ?_⟩
    have := (hr.block_lt hne).1
    have := x1.lt
    omega
end

/-- what a call leaves of it -/
def GRes (S H : Nat → Prop) (base g : Nat) (w w' : World) (f : Fo) : Prop := (∃ vn ab nb cb P, GAt w' S H base g vn ab nb cb P f) ∧ KeptS S w w'

end Go.Proofs.Ytikjndmgljkhhaa

/- Chapter 4: what the program asks and changes of a node that is pointed at. -/
namespace Go.Proofs.Ytikjndmgljkhhaa
open Go.RowKit

theorem noFault_of {bs : List (Int × Int)} (h1 : bs.length ≤ 24) (h2 : ∀ m, blkOne (bs.getD m (0, 0)) = 0) : blkFault bs = 0 := by
  unfold blkFault
  rw [if_neg (by omega)]
  exact blkGo_zero bs fun j _ => h2 j
section
variable {w w' : World} {S H : Nat → Prop} {base g : Nat} {vn : Value} {ab : Option Addr} {nb cb : Nat} {P : Nat → Option Nat} {f : Fo}
/-- a node that somebody has -/
theorem GAt.live (h : GAt w S H base g vn ab nb cb P f) {i : Nat} (hi : i < f.1.length) (hH : ¬ H i) (h0 : (nodeOf f i).1 ≠ 0) : ∃ r cap b, vn = .slice (some ⟨r, 0, none⟩) f.1.length cap ∧ P i = some b ∧ w.cell? ⟨r, i, none⟩ = some (.pointer (some ⟨b, 0, none⟩)) ∧ r < w.heap.size ∧ b < w.heap.size ∧ BoxAt w b (nodeOf f i) ∧ r ≠ g ∧ b ≠ g ∧ r ≠ b ∧ S r ∧ S b := by
  obtain ⟨r, cap, rfl, r1, r2, r3, r4, r5⟩ := h.ptr hi
  cases hp : P i with
  | none =>
    have := h.no i hi hH hp
    unfold nodeOf at h0
    rw [this] at h0
    exact absurd rfl h0
  | some b =>
    obtain ⟨y1, y2, y3, y4, y5, y6⟩ := h.yes i hi hH b hp
    rw [hp] at r4
    exact ⟨r, cap, b, rfl, rfl, r4, r1, y1.lt, y1, r3, y4, fun e => y5 (by simp [Value.ownBlock, e]), r2, y3⟩
end

theorem kidsAt_none (g : Nat) (w : World) : Calls Try.prog 210 #[.pointer (some ⟨g, 0, none⟩), .int .i64 (-1)] w fun e w' => e = .returned (four (-1) (-1) (-1) (-1)) ∧ Below w.heap.size w w' := by
  have A : Below w.heap.size w (w.alloc (.cells #[.int .i64 0, .int .i64 0, .int .i64 0, .int .i64 0] 221)) := (Below.refl _ _).alloc (Nat.le_refl _) _
  have z0 : (w.alloc (.cells #[.int .i64 0, .int .i64 0, .int .i64 0, .int .i64 0] 221)).cell? ⟨w.heap.size, 0, none⟩ = some (.int .i64 0) := by simp
  have z1 : (w.alloc (.cells #[.int .i64 0, .int .i64 0, .int .i64 0, .int .i64 0] 221)).cell? ⟨w.heap.size, 1, none⟩ = some (.int .i64 0) := by simp
  have z2 : (w.alloc (.cells #[.int .i64 0, .int .i64 0, .int .i64 0, .int .i64 0] 221)).cell? ⟨w.heap.size, 2, none⟩ = some (.int .i64 0) := by simp
  have z3 : (w.alloc (.cells #[.int .i64 0, .int .i64 0, .int .i64 0, .int .i64 0] 221)).cell? ⟨w.heap.size, 3, none⟩ = some (.int .i64 0) := by simp
  have y0 : (w.alloc (.cells #[.int .i64 0, .int .i64 0, .int .i64 0, .int .i64 0] 221)).frozen? ⟨w.heap.size, 0, none⟩ = false := by simp
  have y1 : (w.alloc (.cells #[.int .i64 0, .int .i64 0, .int .i64 0, .int .i64 0] 221)).frozen? ⟨w.heap.size, 1, none⟩ = false := by simp
  have y2 : (w.alloc (.cells #[.int .i64 0, .int .i64 0, .int .i64 0, .int .i64 0] 221)).frozen? ⟨w.heap.size, 2, none⟩ = false := by simp
  have y3 : (w.alloc (.cells #[.int .i64 0, .int .i64 0, .int .i64 0, .int .i64 0] 221)).frozen? ⟨w.heap.size, 3, none⟩ = false := by simp
  have hz : w.heap.size < (w.alloc (.cells #[.int .i64 0, .int .i64 0, .int .i64 0, .int .i64 0] 221)).heap.size := by simp
  go_enter Try.func210, Try.ntmps210
  go_wp2_with fail
  refine (noKids_is _).mono ?_
  rintro e w1 ⟨rfl, hb1⟩
  replace z0 := cell_later hb1 z0
  replace z1 := cell_later hb1 z1
  replace z2 := cell_later hb1 z2
  replace z3 := cell_later hb1 z3
  replace y0 := frozen_later hb1 hz y0
  replace y1 := frozen_later hb1 hz y1
  replace y2 := frozen_later hb1 hz y2
  replace y3 := frozen_later hb1 hz y3
  replace A := below_next A hb1
  clear hb1 hz
  go_wp2
  refine bodyPost_ret (v := four (-1) (-1) (-1) (-1)) (by simp [results, Try.results210, go_sem, four, z0, z1, z2, z3]) rfl ⟨rfl, ?_⟩
  refine Below.setCell (Below.setCell (Below.setCell (Below.setCell A ?_ _) ?_ _) ?_ _) ?_ _ <;> simp

section
variable {w : World} {S H : Nat → Prop} {base g : Nat} {vn : Value} {ab : Option Addr} {nb cb : Nat} {P : Nat → Option Nat} {f : Fo} (I : GAt w S H base g vn ab nb cb P f)
include I

set_option maxRecDepth 20000 in
set_option maxHeartbeats 1000000 in
theorem kidsAt_is {i : Nat} (hi : i < f.1.length) (hH : ¬ H i) (h0 : (nodeOf f i).1 ≠ 0) (k0 k1 k2 k3 : Int) (hk : (nodeOf f i).2.2 = [k0, k1, k2, k3]) :
    Calls Try.prog 210 #[.pointer (some ⟨g, 0, none⟩), .int .i64 (i : Int)] w fun e w' => e = .returned (four k0 k1 k2 k3) ∧ Below w.heap.size w w' := by
  obtain ⟨r, cap, b, rfl, hp, e1, hr, hb, B, -⟩ := I.live hi hH h0
  obtain ⟨-, -, kc, -⟩ := B.cell
  rw [hk] at kc
  have x0 := kc 0 (by omega)
  have x1 := kc 1 (by omega)
  have x2 := kc 2 (by omega)
  have x3 := kc 3 (by omega)
  simp only [List.getD_cons_zero, List.getD_cons_succ, Nat.add_zero, Nat.reduceAdd] at x0 x1 x2 x3
  have c0 := I.c0
  obtain ⟨m, hm⟩ : ∃ m, f.1.length = m := ⟨_, rfl⟩
  rw [hm] at c0 hi
  have hlm : (i : Int) < m := by omega
  have hi1 : ((i : Int) == -1) = false := by simp
  have A : Below w.heap.size w (w.alloc (.cells #[.int .i64 0, .int .i64 0, .int .i64 0, .int .i64 0] 221)) := (Below.refl _ _).alloc (Nat.le_refl _) _
  replace c0 := cell_later A c0
  replace e1 := cell_later A e1
  replace x0 := cell_later A x0
  replace x1 := cell_later A x1
  replace x2 := cell_later A x2
  replace x3 := cell_later A x3
  clear kc hk B I hm hp h0
  go_enter Try.func210, Try.ntmps210
  go_wp2
  refine bodyPost_ret (v := four k0 k1 k2 k3) (by simp [results, Try.results210, go_sem, four]) rfl ⟨rfl, ?_⟩
  exact (Below.refl _ _).alloc (Nat.le_refl _) _

set_option maxRecDepth 20000 in
set_option maxHeartbeats 1000000 in
theorem isOwn_is (at' : Int) (hv : at' = -1 ∨ (0 ≤ at' ∧ at'.toNat < f.1.length ∧ ¬ H at'.toNat ∧ (nodeOf f at'.toNat).1 ≠ 0)) (d : Bool) (hd : decide (0 ≤ at' ∧ (nodeOf f at'.toNat).1 = 1) = d) :
    Calls Try.prog 211 #[.pointer (some ⟨g, 0, none⟩), .int .i64 at'] w fun e w' => e = .returned (.bool d) ∧ w' = w := by
  rcases hv with rfl | ⟨ha, hi, hH, h0⟩
  · rw [decide_eq_false (by omega)] at hd
    subst hd
    go_enter Try.func211, Try.ntmps211
    go_wp2
    go_ret
    exact ⟨rfl, rfl⟩
  · obtain ⟨i, rfl⟩ : ∃ i : Nat, at' = i := ⟨at'.toNat, by omega⟩
    rw [Int.toNat_natCast] at hi hH h0 hd
    obtain ⟨r, cap, b, rfl, hp, e1, hr, hb, B, -⟩ := I.live hi hH h0
    obtain ⟨kr, -, -, -⟩ := B.cell
    obtain ⟨q, hq⟩ : ∃ q, (nodeOf f i).1 = q := ⟨_, rfl⟩
    rw [hq] at kr hd
    have c0 := I.c0
    obtain ⟨m, hm⟩ : ∃ m, f.1.length = m := ⟨_, rfl⟩
    rw [hm] at c0 hi
    have hlm : (i : Int) < m := by omega
    have hi1 : ((i : Int) != -1) = true := by simp
    clear I hp B h0 hq hm
    by_cases hq1 : q = 1
    · rw [decide_eq_true ⟨ha, hq1⟩] at hd
      subst hd
      subst hq1
      go_enter Try.func211, Try.ntmps211
      go_wp2
      go_ret
      exact ⟨rfl, rfl⟩
    · rw [decide_eq_false (fun e => hq1 e.2)] at hd
      subst hd
      have hqq : (q == 1) = false := by simp [hq1]
      go_enter Try.func211, Try.ntmps211
      go_wp2
      go_ret
      exact ⟨rfl, rfl⟩

set_option maxRecDepth 20000 in
set_option maxHeartbeats 1000000 in
theorem share_many {i : Nat} (hi : i < f.1.length) (hH : ¬ H i) (hq : (nodeOf f i).1 = 200) :
    Calls Try.prog 194 #[.pointer (some ⟨g, 0, none⟩), .int .i64 (i : Int)] w fun e w' => e = .returned (.int .i64 2) ∧ w' = w := by
  obtain ⟨r, cap, b, rfl, hp, e1, hr, hb, B, -⟩ := I.live hi hH (by omega)
  obtain ⟨kr, -, -, -⟩ := B.cell
  rw [hq] at kr
  have c0 := I.c0
  obtain ⟨m, hm⟩ : ∃ m, f.1.length = m := ⟨_, rfl⟩
  rw [hm] at c0 hi
  have hlm : (i : Int) < m := by omega
  clear I hp B hq hm
  go_enter Try.func194, Try.ntmps194
  go_wp2
  go_ret
  exact ⟨rfl, rfl⟩

set_option maxRecDepth 20000 in
set_option maxHeartbeats 1000000 in
theorem share_is {i : Nat} (hi : i < f.1.length) (hH : ¬ H i) (h0 : 0 < (nodeOf f i).1) (hq : (nodeOf f i).1 < 200) :
    Calls Try.prog 194 #[.pointer (some ⟨g, 0, none⟩), .int .i64 (i : Int)] w fun e w' => e = .returned (.int .i64 0) ∧ GRes S H base g w w' (moreAt f i) := by
  obtain ⟨r, cap, b, rfl, hp, e1, hr, hb, B, r1, r2, r3, r4, r5⟩ := I.live hi hH (by omega)
  obtain ⟨kr, -, -, kf⟩ := B.cell
  have kf0 := kf 0 (by omega)
  obtain ⟨q, hqq⟩ : ∃ q, (nodeOf f i).1 = q := ⟨_, rfl⟩
  rw [hqq] at kr hq h0
  have c0 := I.c0
  have BX : BoxAt (w.setCell ⟨b, 0, none⟩ (.int .i64 (q + 1))) b (moreNd (nodeOf f i)) := by
    have := RowAt.stored B (i := 0) (by decide) (.int .i64 (q + 1))
    rw [Nat.add_zero] at this
    have e : (ndc (nodeOf f i)).set 0 (.int .i64 (q + 1)) = ndc (moreNd (nodeOf f i)) := by
      simp [ndc, moreNd, hqq]
    rw [e] at this
    exact this
  have KS : KeptS (fun x => x = b) w (w.setCell ⟨b, 0, none⟩ (.int .i64 (q + 1))) := by
    refine KeptS.setCell (KeptS.refl _ _) ?_ _; rfl
  have J := I.box hi hH hp KS (by simp) BX (by simp [moreNd, hqq]; omega)
  have HJ : Hid (GRes S H base g w (w.setCell ⟨b, 0, none⟩ (.int .i64 (q + 1))) (moreAt f i)) := ⟨⟨_, _, _, _, _, J⟩, KS.mono fun k e => e ▸ r5⟩
  obtain ⟨m, hm⟩ : ∃ m, f.1.length = m := ⟨_, rfl⟩
  rw [hm] at c0 hi
  have hlm : (i : Int) < m := by omega
  have hq2 : (q == 200) = false := by simp; omega
  have hw1 : IntKind.i64.wrap (q + 1) = q + 1 := wrapI_same _ (by omega)
  clear I hp B hm J KS BX kf hqq
  go_enter Try.func194, Try.ntmps194
  go_wp2
  go_ret
  exact ⟨rfl, HJ.out⟩

end

section
variable {w : World} {S H : Nat → Prop} {base g : Nat} {vn : Value} {ab : Option Addr} {nb cb : Nat} {P : Nat → Option Nat} {f : Fo} (I : GAt w S H base g vn ab nb cb P f) (hS : ∀ k, w.heap.size ≤ k → S k) (hbase : base ≤ w.heap.size) (h24 : f.2.length ≤ 24) (hbo : ∀ m, blkOne (f.2.getD m (0, 0)) = 0)
include I hS hbase h24 hbo

set_option maxRecDepth 20000 in
set_option maxHeartbeats 1000000 in
theorem dropKid_block (k : Nat) (hk : k < f.2.length) (h0 : (f.2.getD k (0, 0)).1 ≠ 0) :
    Calls Try.prog 208 #[.pointer (some ⟨g, 0, none⟩), .bool true, .int .i64 (k : Int)] w fun e w' => (∃ v, e = .returned v) ∧ GRes S H base g w w' (f.1, lessB f.2 k) := by
  have hbl := I.blk.nPairs
  have hbf : blkFault f.2 = 0 := noFault_of h24 hbo
  have ha : askCode f.2 (k : Int) = 0 := by
    unfold askCode
    rw [if_pos hbf, if_pos (by omega), Int.toNat_natCast, if_neg h0]
  have hd : dropList f.2 (k : Int) = lessB f.2 k := by
    unfold dropList lessB
    rw [if_pos ha, Int.toNat_natCast]
  have HA : Hid _ := ha
  have HD : Hid _ := hd
  have HT : Hid (atIf (askCode f.2 (k : Int)) (k : Int) = k) := by show _ = _; rw [ha]; rfl
  have HI : Hid _ := I
  have c1 := I.c1
  have hgl := I.hg.2
  have hk1 : ((k : Int) == -1) = false := by simp
  have hfl : ∀ (ra : Option Addr) (rn rc : Nat) (W : World), (Instr.field 144 (.agg #[.int .i64 0, .int .i64 (k : Int), .slice ra rn rc]) 2).run Try.prog W = .ok (.slice ra rn rc) W := fun ra rn rc W => by kernel_rfl
  clear ha hd hbf
  go_enter Try.func208, Try.ntmps208
  go_wp2_with fail
  refine (implDropBlock_is ab nb cb f.2 _ I.blk (by omega) (k : Int) 0 (k : Int) (lessB f.2 k) HA.out HT.out HD.out).mono ?_
  rintro e w1 ⟨ra, rn, rc, rfl, RR, hb1⟩
  have J := HI.out.blocks hb1 RR hS hbase
  have z1 := (HI.out.below hb1).z1
  replace c1 := cell_later hb1 c1
  have K1 : KeptS S w (w1.setCell ⟨g, 1, none⟩ (.slice ra rn rc)) := (KeptS.below hb1).setCell (p := ⟨g, 1, none⟩) HI.out.hg.1 _
  have HJ : Hid (GRes S H base g w (w1.setCell ⟨g, 1, none⟩ (.slice ra rn rc)) (f.1, lessB f.2 k)) := ⟨⟨_, _, _, _, _, J⟩, K1⟩
  clear hb1 RR J K1
  go_wp2
  exact bodyPost_end (v := .tuple #[]) (by simp [results, Try.results208, go_sem]) rfl ⟨⟨_, rfl⟩, HJ.out⟩
end

end Go.Proofs.Ytikjndmgljkhhaa

/- Chapter 4: one less refers to a leaf that is pointed at. -/
namespace Go.Proofs.Ytikjndmgljkhhaa
open Go.RowKit

theorem idx_run (a b c d : Int) (j : Nat) (hj : j < 4) (W : World) : (Instr.index 221 (.agg #[.int .i64 a, .int .i64 b, .int .i64 c, .int .i64 d]) (.int .i64 (j : Int))).run Try.prog W = .ok (.int .i64 ([a, b, c, d].getD j 0)) W := by
  rcases (show j = 0 ∨ j = 1 ∨ j = 2 ∨ j = 3 by omega) with rfl | rfl | rfl | rfl <;> kernel_rfl
theorem slice_run (r n cap i : Nat) (h : i < n) (hc : n ≤ cap) (W : World) : (Instr.sliceAt 240 (.slice (some ⟨r, 0, none⟩) n cap) (some (.int .i64 (i : Int))) (some (.int .i64 ((i : Int) + 1))) none).run Try.prog W = .ok (.slice (some ⟨r, i, none⟩) 1 (cap - i)) W := by
  have h1 : (0 : Int) ≤ (i : Int) + 1 := by omega
  have h2 : (i : Int) + 1 ≤ cap := by omega
  have h4 : ¬ cap = i := by omega
  simp [Instr.sliceAt, Instr.slice, go_sem, h1, h2, h4]
theorem zero_ptr (W : World) : (zeroValue 243).run Try.prog W = .ok (.pointer none) W := by kernel_rfl
theorem clear_run {W : World} {r i c : Nat} {v : Value} (hc : W.cell? ⟨r, i, none⟩ = some v) (hf : W.frozen? ⟨r, i, none⟩ = false) (ty : TypeId) : (Builtin.clear_ #[240] ty #[.slice (some ⟨r, i, none⟩) 1 c]).run Try.prog W = .ok (.tuple #[]) (W.setCell ⟨r, i, none⟩ (.pointer none)) :=
  Lib.run_clear_slice W 240 243 ty (.pointer none) Try.underlying240 zero_ptr rfl rfl r i 1 c (by omega)
    (fun j hj => by
      have e : j = 0 := by omega
      rw [e, Nat.add_zero, hc]; rfl)
    (fun j hj => by
      have e : j = 0 := by omega
      rw [e, Nat.add_zero]; exact hf)
theorem dropKid_none (g : Nat) (lf : Bool) (w : World) : Calls Try.prog 208 #[.pointer (some ⟨g, 0, none⟩), .bool lf, .int .i64 (-1)] w fun e w' => (∃ v, e = .returned v) ∧ w' = w := by
  go_enter Try.func208, Try.ntmps208
  go_wp2
  exact bodyPost_ret (v := .tuple #[]) (by simp [results, Try.results208, go_sem]) rfl ⟨⟨_, rfl⟩, rfl⟩
/-- the row of pointers has room for what it has -/
theorem GAt.room {w : World} {S H : Nat → Prop} {base g : Nat} {vn : Value} {ab : Option Addr} {nb cb : Nat} {P : Nat → Option Nat} {f : Fo} (h : GAt w S H base g vn ab nb cb P f) {r n cap : Nat} (e : vn = .slice (some ⟨r, 0, none⟩) n cap) : n ≤ cap := by
  obtain ⟨ao, c, e2, R⟩ := RowAt.of_owned h.own
  rw [e2] at e
  cases e
  exact R.le
theorem GAt.small {w : World} {S H : Nat → Prop} {base g : Nat} {vn : Value} {ab : Option Addr} {nb cb : Nat} {P : Nat → Option Nat} {f : Fo} (h : GAt w S H base g vn ab nb cb P f) : f.1.length ≤ maxLen := by
  rcases h.own.2 with ⟨_, e⟩ | ⟨_, cap, _, _, _, _, h1, h2, _⟩
  · rw [e]; exact Nat.zero_le _
  · exact Nat.le_trans h1 h2

set_option maxRecDepth 20000 in
set_option maxHeartbeats 4000000 in
theorem drop_leaf {w : World} {S H : Nat → Prop} {base g : Nat} {vn : Value} {ab : Option Addr} {nb cb : Nat} {P : Nat → Option Nat} {f : Fo} (I : GAt w S H base g vn ab nb cb P f) (hS : ∀ k, w.heap.size ≤ k → S k) (hbase : base ≤ w.heap.size) {i : Nat} (hH : ¬ H i) (hp : LeafP f i) (L : Fo) (hL : lessLeaf f i = L) :
    Calls Try.prog 196 #[.pointer (some ⟨g, 0, none⟩), .int .i64 (i : Int)] w fun e w' => (∃ v, e = .returned v) ∧ GRes S H base g w w' L := by
  have hi := hp.lt
  have hr1 := hp.r1
  have hr2 := hp.r2
  obtain ⟨r, cap, b, rfl, hpb, e1, hr, hb, B, r1, r2, r3, r4, r5⟩ := I.live hi hH (by omega)
  have hcap := I.room rfl
  obtain ⟨kr, kl, kc, kf⟩ := B.cell
  have kf0 := kf 0 (by omega)
  have c0 := I.c0
  have hgl := I.hg.2
  have hlf := hp.lf
  obtain ⟨m, hm⟩ : ∃ m, f.1.length = m := ⟨_, rfl⟩
  obtain ⟨q, hq⟩ : ∃ q, (nodeOf f i).1 = q := ⟨_, rfl⟩
  have hlm : (i : Int) < m := by omega
  have him : i < m := by omega
  rw [hlf] at kl
  have KS : KeptS (fun x => x = b) w (w.setCell ⟨b, 0, none⟩ (.int .i64 (q - 1))) := by
    refine KeptS.setCell (KeptS.refl _ _) ?_ _; rfl
  have hsz : (w.setCell ⟨b, 0, none⟩ (.int .i64 (q - 1))).heap.size = w.heap.size := by simp
  rw [hq] at kr hr1 hr2
  rw [hm] at c0 hcap
  have hw1 : IntKind.i64.wrap (q - 1) = q - 1 := wrapI_same _ (by omega)
  unfold lessLeaf at hL
  rw [hq] at hL
  by_cases hq1 : 0 < q - 1
  · rw [if_pos hq1] at hL
    subst hL
    have BX : BoxAt (w.setCell ⟨b, 0, none⟩ (.int .i64 (q - 1))) b (q - 1, (nodeOf f i).2) := by
      have := RowAt.stored B (i := 0) (by decide) (.int .i64 (q - 1))
      rw [Nat.add_zero] at this
      have e : (ndc (nodeOf f i)).set 0 (.int .i64 (q - 1)) = ndc (q - 1, (nodeOf f i).2) := by simp [ndc]
      rw [e] at this
      exact this
    have J := I.box hi hH hpb KS hsz BX (by show q - 1 ≠ 0; omega)
    have HJ : Hid (GRes S H base g w (w.setCell ⟨b, 0, none⟩ (.int .i64 (q - 1))) (f.1.set i (q - 1, (nodeOf f i).2), f.2)) := ⟨⟨_, _, _, _, _, J⟩, KS.mono fun k e => e ▸ r5⟩
    clear I hpb B hm J KS BX kf kc hsz hp hq
    go_enter Try.func196, Try.ntmps196
    go_wp2
    exact bodyPost_ret (v := .tuple #[]) (by simp [results, Try.results196, go_sem]) rfl ⟨⟨_, rfl⟩, HJ.out⟩
  · rw [if_neg hq1] at hL
    obtain rfl : q = 1 := by omega
    have hk4 := hp.kl
    obtain ⟨k0, k1, k2, k3, hks⟩ := list4 hk4
    rw [hks] at kc
    have x0 := kc 0 (by omega)
    have x1 := kc 1 (by omega)
    have x2 := kc 2 (by omega)
    have x3 := kc 3 (by omega)
    simp only [List.getD_cons_zero, List.getD_cons_succ, Nat.add_zero, Nat.reduceAdd] at x0 x1 x2 x3
    have hzz : (1 : Int) - 1 = 0 := rfl
    rw [hzz] at hL KS hsz hw1
    have J0 := (I.hole hi hH hpb (0, false, [])).frame KS (fun k hk e => hk.2 e)
    generalize hW : w.setCell ⟨b, 0, none⟩ (.int .i64 0) = W at *
    have d0 : W.cell? ⟨b, 0, none⟩ = some (.int .i64 0) := by rw [← hW]; exact World.cell?_setCell_same _ _ _ kr
    have d1 : W.cell? ⟨b, 1, none⟩ = some (.bool true) := by rw [← hW, World.cell?_setCell_other _ _ _ _ (by intro e; simp at e)]; exact kl
    have y0 : W.cell? ⟨b, 2, none⟩ = some (.int .i64 k0) := by rw [← hW, World.cell?_setCell_other _ _ _ _ (by intro e; simp at e)]; exact x0
    have y1 : W.cell? ⟨b, 3, none⟩ = some (.int .i64 k1) := by rw [← hW, World.cell?_setCell_other _ _ _ _ (by intro e; simp at e)]; exact x1
    have y2 : W.cell? ⟨b, 4, none⟩ = some (.int .i64 k2) := by rw [← hW, World.cell?_setCell_other _ _ _ _ (by intro e; simp at e)]; exact x2
    have y3 : W.cell? ⟨b, 5, none⟩ = some (.int .i64 k3) := by rw [← hW, World.cell?_setCell_other _ _ _ _ (by intro e; simp at e)]; exact x3
    have HI : Hid _ := I
    have HP : Hid _ := hp
    have HKS : Hid _ := KS
    have HL : Hid _ := hL
    have HKK : Hid _ := hks
    have HM : Hid _ := hm
    have HQ : Hid _ := hq
    have HW : Hid _ := hW
    have hbW : b < W.heap.size := by omega
    clear I hp KS hL hks kc x0 x1 x2 x3 B hm hq kf hk4
    go_enter Try.func196, Try.ntmps196
    go_wp2_with (simp only [HW.out])
    go_loopw [30] (fun x wr => ∃ j : Nat, j ≤ 4 ∧ x = .int .i64 j ∧ (∃ vn ab nb cb P, GAt wr (fun k => S k ∧ k ≠ b) (fun k => H k ∨ k = i) base g vn ab nb cb P (f.1.set i (0, false, []), lessKids f.2 ((nodeOf f i).2.2.take j))) ∧ KeptS (fun k => S k ∧ k ≠ b) W wr) (fun x _ => 4 - (intOf x).toNat)
    case atStart => exact ⟨0, by omega, rfl, ⟨_, _, _, _, _, J0⟩, KeptS.refl _ _⟩
    case round =>
      clear J0
      obtain ⟨j, hj, rfl, ⟨vn', ab', nb', cb', P', J⟩, K⟩ := hrel
      have hsW := K.size
      have e0 := K.cell d0 hbW (fun e => e.2 rfl)
      have e2 := K.cell d1 hbW (fun e => e.2 rfl)
      have hS2 : ∀ k, wr.heap.size ≤ k → S k ∧ k ≠ b := fun k hk => ⟨hS k (by omega), by omega⟩
      by_cases hlt : j < 4
      · have hlj : (j : Int) < 4 := by omega
        have hix := idx_run k0 k1 k2 k3 j hlt
        have hqe : [k0, k1, k2, k3].getD j 0 = (nodeOf f i).2.2.getD j 0 := by rw [HKK.out]
        have hlv := HP.out.lv HQ.out j hlt
        have hng := HP.out.ng _ (getD_four HP.out.kl hlt)
        have hkd := HP.out.kd _ (getD_four HP.out.kl hlt)
        have HT : Hid _ := lessKids_take f.2 (nodeOf f i).2.2 j (by rw [HP.out.kl]; exact hlt)
        have hbl := HP.out.bl HQ.out j
        have hln := lessKids_len ((nodeOf f i).2.2.take j) f.2
        have h24 := HP.out.l24
        rw [hqe] at hix
        obtain ⟨y, hy⟩ : ∃ y, (nodeOf f i).2.2.getD j 0 = y := ⟨_, rfl⟩
        rw [hy] at hix hlv hng hkd HT
        clear hqe hy
        by_cases hy0 : y < 0
        · obtain rfl : y = -1 := hng hy0
          rw [if_pos (by omega)] at HT
          have HJ : Hid _ := J
          clear J hlv hng hkd hbl hln h24 hy0
          go_wp2_with (first | (simp only [hix]; done) | fail)
          refine (dropKid_none g true _).mono ?_
          rintro e w3 ⟨⟨v, rfl⟩, rfl⟩
          go_wp2
          go_roundw
          case rel => exact ⟨j + 1, by omega, by go_num, ⟨_, _, _, _, _, by rw [HT.out]; exact HJ.out⟩, K⟩
          case measure => simp [intOf]; omega
        · obtain ⟨n, rfl⟩ : ∃ n : Nat, y = n := ⟨y.toNat, by omega⟩
          rw [Int.toNat_natCast] at hlv hkd HT
          rw [if_neg hy0] at HT
          have HJ : Hid _ := J
          have hlv' := hlv.resolve_left hy0
          have hkd' := hkd.resolve_left hy0
          clear J hlv hkd hng hy0
          go_wp2_with (first | (simp only [hix]; done) | fail)
          refine (dropKid_block HJ.out hS2 (by omega) (by simp only; omega) (by simpa using hbl) n (by simp only; omega) hlv').mono ?_
          rintro e w3 ⟨⟨v, rfl⟩, ⟨vn2, ab2, nb2, cb2, P2, J2⟩, K2⟩
          have HJ2 : Hid _ := J2
          replace K := K.trans K2
          clear J2 K2 e0 e2 hS2 hsW hbl
          go_wp2
          go_roundw
          case rel => exact ⟨j + 1, by omega, by go_num, ⟨_, _, _, _, _, by rw [HT.out]; exact HJ2.out⟩, K⟩
          case measure => simp [intOf]; omega
      · obtain rfl : j = 4 := by omega
        have htk : (nodeOf f i).2.2.take 4 = (nodeOf f i).2.2 := List.take_of_length_le (by have := HP.out.kl; omega)
        rw [htk] at J
        have hlen : (f.1.set i (0, false, [])).length = m := by rw [List.length_set]; exact HM.out
        have hset : ((f.1.set i (0, false, []), lessKids f.2 (nodeOf f i).2.2).1.set i nd0, (f.1.set i (0, false, []), lessKids f.2 (nodeOf f i).2.2).2) = L := by
          rw [← HL.out]
          show ((f.1.set i (0, false, [])).set i nd0, _) = _
          rw [List.set_set]
          rfl
        obtain ⟨F, hF⟩ : ∃ F, (f.1.set i (0, false, []), lessKids f.2 (nodeOf f i).2.2) = F := ⟨_, rfl⟩
        have hFl : F.1.length = m := by rw [← hF]; exact hlen
        rw [hF] at J hset
        have hiF : i < F.1.length := by omega
        obtain ⟨r', cap', hv, hr', s1, s2, s3, s4⟩ := J.ptr hiF
        subst hv
        have hroom := J.room rfl
        rw [hFl] at hroom
        have C0 := J.c0
        rw [hFl] at C0
        have J3 := J.put (H := H) rfl hiF none nd0 (fun a ha hA e => e.elim hA ha) (fun _ => rfl) (fun _ e => by cases e)
        rw [hset] at J3
        have J4 := J3.into (T := S) (fun k hk _ => hk.1)
        have K4 : KeptS S w (wr.setCell ⟨r', i, none⟩ (.pointer none)) := by
          refine KeptS.setCell ((HKS.out.mono fun k e => e ▸ r5).trans (K.mono fun k hk => hk.1)) ?_ _
          exact s1.1
        have HJ : Hid (GRes S H base g w (wr.setCell ⟨r', i, none⟩ (.pointer none)) L) := ⟨⟨_, _, _, _, _, J4⟩, K4⟩
        have hsl := slice_run r' m cap' i (by omega) hroom
        have hcl := fun c ty => clear_run (c := c) s3 s4 ty
        have hw2 : IntKind.i64.wrap ((i : Int) + 1) = (i : Int) + 1 := wrapI_same _ (by have := HI.out.small; unfold maxLen at this; omega)
        clear J J3 J4 K4 hset K
        go_wp2_with (first | (simp only [hsl]; done) | (simp only [hcl]; done) | fail)
        exact bodyPost_end (v := .tuple #[]) (by simp [results, Try.results196, go_sem]) rfl ⟨⟨_, rfl⟩, HJ.out⟩

end Go.Proofs.Ytikjndmgljkhhaa

/- Chapter 4: one less refers to a root that is pointed at. -/
namespace Go.Proofs.Ytikjndmgljkhhaa
open Go.RowKit

theorem lessLeaf_len (f : Fo) (i : Nat) : (lessLeaf f i).1.length = f.1.length := by unfold lessLeaf; split <;> simp
theorem lessLeaves_len (ks : List Int) : ∀ f : Fo, (lessLeaves f ks).1.length = f.1.length := by
  induction ks with
  | nil => intro f; rfl
  | cons k r ih =>
    intro f
    rw [lessLeaves_cons, ih]
    by_cases h : k < 0
    · rw [if_pos h]
    · rw [if_neg h, lessLeaf_len]
set_option maxRecDepth 20000 in
set_option maxHeartbeats 1000000 in
theorem dropKid_leaf {w : World} {S H : Nat → Prop} {base g : Nat} {vn : Value} {ab : Option Addr} {nb cb : Nat} {P : Nat → Option Nat} {f : Fo} (I : GAt w S H base g vn ab nb cb P f) (hS : ∀ k, w.heap.size ≤ k → S k) (hbase : base ≤ w.heap.size) {i : Nat} (hH : ¬ H i) (hp : LeafP f i) (L : Fo) (hL : lessLeaf f i = L) :
    Calls Try.prog 208 #[.pointer (some ⟨g, 0, none⟩), .bool false, .int .i64 (i : Int)] w fun e w' => (∃ v, e = .returned v) ∧ GRes S H base g w w' L := by
  have HI : Hid _ := I
  have HP : Hid _ := hp
  have HL : Hid _ := hL
  have hi1 : ((i : Int) == -1) = false := by simp
  clear I hp hL
  go_enter Try.func208, Try.ntmps208
  go_wp2_with fail
  refine (drop_leaf HI.out hS hbase hH HP.out L HL.out).mono ?_
  rintro e w1 ⟨⟨v, rfl⟩, hr⟩
  have HR : Hid _ := hr
  clear hr
  go_wp2
  exact bodyPost_ret (v := .tuple #[]) (by simp [results, Try.results208, go_sem]) rfl ⟨⟨_, rfl⟩, HR.out⟩

set_option maxRecDepth 20000 in
set_option maxHeartbeats 4000000 in
theorem drop_root {w : World} {S : Nat → Prop} {base g : Nat} {vn : Value} {ab : Option Addr} {nb cb : Nat} {P : Nat → Option Nat} {f : Fo} (I : GAt w S (fun _ => False) base g vn ab nb cb P f) (hS : ∀ k, w.heap.size ≤ k → S k) (hbase : base ≤ w.heap.size) {i : Nat} (hp : RootP f i) (L : Fo) (hL : lessRoot f i = L) :
    Calls Try.prog 196 #[.pointer (some ⟨g, 0, none⟩), .int .i64 (i : Int)] w fun e w' => (∃ v, e = .returned v) ∧ GRes S (fun _ => False) base g w w' L := by
  have hi := hp.lt
  have hr1 := hp.r1
  have hr2 := hp.r2
  have hH : ¬ (fun _ : Nat => False) i := fun e => e
  obtain ⟨r, cap, b, rfl, hpb, e1, hr, hb, B, r1, r2, r3, r4, r5⟩ := I.live hi hH (by omega)
  have hcap := I.room rfl
  obtain ⟨kr, kl, kc, kf⟩ := B.cell
  have kf0 := kf 0 (by omega)
  have c0 := I.c0
  have hgl := I.hg.2
  have hlf := hp.lf
  obtain ⟨m, hm⟩ : ∃ m, f.1.length = m := ⟨_, rfl⟩
  obtain ⟨q, hq⟩ : ∃ q, (nodeOf f i).1 = q := ⟨_, rfl⟩
  have hlm : (i : Int) < m := by omega
  have him : i < m := by omega
  rw [hlf] at kl
  have KS : KeptS (fun x => x = b) w (w.setCell ⟨b, 0, none⟩ (.int .i64 (q - 1))) := by
    refine KeptS.setCell (KeptS.refl _ _) ?_ _; rfl
  have hsz : (w.setCell ⟨b, 0, none⟩ (.int .i64 (q - 1))).heap.size = w.heap.size := by simp
  rw [hq] at kr hr1 hr2
  rw [hm] at c0 hcap
  have hw1 : IntKind.i64.wrap (q - 1) = q - 1 := wrapI_same _ (by omega)
  unfold lessRoot at hL
  rw [hq] at hL
  by_cases hq1 : 0 < q - 1
  · rw [if_pos hq1] at hL
    subst hL
    have BX : BoxAt (w.setCell ⟨b, 0, none⟩ (.int .i64 (q - 1))) b (q - 1, (nodeOf f i).2) := by
      have := RowAt.stored B (i := 0) (by decide) (.int .i64 (q - 1))
      rw [Nat.add_zero] at this
      have e : (ndc (nodeOf f i)).set 0 (.int .i64 (q - 1)) = ndc (q - 1, (nodeOf f i).2) := by simp [ndc]
      rw [e] at this
      exact this
    have J := I.box hi hH hpb KS hsz BX (by show q - 1 ≠ 0; omega)
    have HJ : Hid (GRes S (fun _ => False) base g w (w.setCell ⟨b, 0, none⟩ (.int .i64 (q - 1))) (f.1.set i (q - 1, (nodeOf f i).2), f.2)) := ⟨⟨_, _, _, _, _, J⟩, KS.mono fun k e => e ▸ r5⟩
    clear I hpb B hm J KS BX kf kc hsz hp hq
    go_enter Try.func196, Try.ntmps196
    go_wp2
    exact bodyPost_ret (v := .tuple #[]) (by simp [results, Try.results196, go_sem]) rfl ⟨⟨_, rfl⟩, HJ.out⟩
  · rw [if_neg hq1] at hL
    obtain rfl : q = 1 := by omega
    have hk4 := hp.kl
    obtain ⟨k0, k1, k2, k3, hks⟩ := list4 hk4
    rw [hks] at kc
    have x0 := kc 0 (by omega)
    have x1 := kc 1 (by omega)
    have x2 := kc 2 (by omega)
    have x3 := kc 3 (by omega)
    simp only [List.getD_cons_zero, List.getD_cons_succ, Nat.add_zero, Nat.reduceAdd] at x0 x1 x2 x3
    have hzz : (1 : Int) - 1 = 0 := rfl
    rw [hzz] at hL KS hsz hw1
    have J0 := (I.hole hi hH hpb (0, false, [])).frame KS (fun k hk e => hk.2 e)
    generalize hW : w.setCell ⟨b, 0, none⟩ (.int .i64 0) = W at *
    have d0 : W.cell? ⟨b, 0, none⟩ = some (.int .i64 0) := by rw [← hW]; exact World.cell?_setCell_same _ _ _ kr
    have d1 : W.cell? ⟨b, 1, none⟩ = some (.bool false) := by rw [← hW, World.cell?_setCell_other _ _ _ _ (by intro e; simp at e)]; exact kl
    have y0 : W.cell? ⟨b, 2, none⟩ = some (.int .i64 k0) := by rw [← hW, World.cell?_setCell_other _ _ _ _ (by intro e; simp at e)]; exact x0
    have y1 : W.cell? ⟨b, 3, none⟩ = some (.int .i64 k1) := by rw [← hW, World.cell?_setCell_other _ _ _ _ (by intro e; simp at e)]; exact x1
    have y2 : W.cell? ⟨b, 4, none⟩ = some (.int .i64 k2) := by rw [← hW, World.cell?_setCell_other _ _ _ _ (by intro e; simp at e)]; exact x2
    have y3 : W.cell? ⟨b, 5, none⟩ = some (.int .i64 k3) := by rw [← hW, World.cell?_setCell_other _ _ _ _ (by intro e; simp at e)]; exact x3
    have HI : Hid _ := I
    have HP : Hid _ := hp
    have HKS : Hid _ := KS
    have HL : Hid _ := hL
    have HKK : Hid _ := hks
    have HM : Hid _ := hm
    have HQ : Hid _ := hq
    have HW : Hid _ := hW
    have hbW : b < W.heap.size := by omega
    clear I hp KS hL hks kc x0 x1 x2 x3 B hm hq kf hk4
    go_enter Try.func196, Try.ntmps196
    go_wp2_with (simp only [HW.out])
    go_loopw [30] (fun x wr => ∃ j : Nat, j ≤ 4 ∧ x = .int .i64 j ∧ (∃ vn ab nb cb P, GAt wr (fun k => S k ∧ k ≠ b) (fun k => False ∨ k = i) base g vn ab nb cb P (lessLeaves (f.1.set i (0, false, []), f.2) ((nodeOf f i).2.2.take j))) ∧ KeptS (fun k => S k ∧ k ≠ b) W wr ∧ (lessLeaves (f.1.set i (0, false, []), f.2) ((nodeOf f i).2.2.take j)).1.getD i nd0 = nd0) (fun x _ => 4 - (intOf x).toNat)
    case atStart => exact ⟨0, by omega, rfl, ⟨_, _, _, _, _, J0⟩, KeptS.refl _ _, by show (f.1.set i (0, false, [])).getD i nd0 = nd0; rw [set_getN _ _ _ _ hi, if_pos rfl]; rfl⟩
    case round =>
      clear J0
      obtain ⟨j, hj, rfl, ⟨vn', ab', nb', cb', P', J⟩, K, hi0⟩ := hrel
      have hsW := K.size
      have e0 := K.cell d0 hbW (fun e => e.2 rfl)
      have e2 := K.cell d1 hbW (fun e => e.2 rfl)
      have hS2 : ∀ k, wr.heap.size ≤ k → S k ∧ k ≠ b := fun k hk => ⟨hS k (by omega), by omega⟩
      by_cases hlt : j < 4
      · have hlj : (j : Int) < 4 := by omega
        have hix := idx_run k0 k1 k2 k3 j hlt
        have hqe : [k0, k1, k2, k3].getD j 0 = (nodeOf f i).2.2.getD j 0 := by rw [HKK.out]
        obtain ⟨hln, hl1, hl2⟩ := HP.out.ln HQ.out j hlt
        have hng := HP.out.ng _ (getD_four HP.out.kl hlt)
        have HT : Hid _ := lessLeaves_take (f.1.set i (0, false, []), f.2) (nodeOf f i).2.2 j (by rw [HP.out.kl]; exact hlt)
        rw [hqe] at hix
        obtain ⟨y, hy⟩ : ∃ y, (nodeOf f i).2.2.getD j 0 = y := ⟨_, rfl⟩
        rw [hy] at hix hln hng HT
        clear hqe hy
        obtain ⟨F, hF⟩ : ∃ F, lessLeaves (f.1.set i (0, false, []), f.2) ((nodeOf f i).2.2.take j) = F := ⟨_, rfl⟩
        rw [hF] at J hi0 hln HT
        clear hl1 hl2 hF
        by_cases hy0 : y < 0
        · obtain rfl : y = -1 := hng hy0
          rw [if_pos (by omega)] at HT
          have HJ : Hid _ := J
          have HI0 : Hid _ := hi0
          clear J hln hng hy0 hi0
          go_wp2_with (first | (simp only [hix]; done) | fail)
          refine (dropKid_none g false _).mono ?_
          rintro e w3 ⟨⟨v, rfl⟩, rfl⟩
          go_wp2
          go_roundw
          case rel => exact ⟨j + 1, by omega, by go_num, ⟨_, _, _, _, _, by rw [HT.out]; exact HJ.out⟩, K, by rw [HT.out]; exact HI0.out⟩
          case measure => simp [intOf]; omega
        · obtain ⟨n, rfl⟩ : ∃ n : Nat, y = n := ⟨y.toNat, by omega⟩
          rw [Int.toNat_natCast] at hln HT
          rw [if_neg hy0] at HT
          have hlp := hln.resolve_left hy0
          have hni : n ≠ i := fun e => by
            have := hlp.lf
            unfold nodeOf at this
            rw [e, hi0] at this
            cases this
          have HI0 : Hid ((lessLeaf F n).1.getD i nd0 = nd0) := by
            show _ = _
            have hnl := hlp.lt
            unfold lessLeaf
            split
            · show (F.1.set n _).getD i nd0 = nd0
              rw [set_getN _ _ _ _ hnl, if_neg (Ne.symm hni)]; exact hi0
            · show (F.1.set n _).getD i nd0 = nd0
              rw [set_getN _ _ _ _ hnl, if_neg (Ne.symm hni)]; exact hi0
          have HJ : Hid _ := J
          have HLP : Hid _ := hlp
          clear J hln hng hy0 hi0 hlp
          go_wp2_with (first | (simp only [hix]; done) | fail)
          refine (dropKid_leaf HJ.out hS2 (by omega) (i := n) (fun e => e.elim id hni) HLP.out (lessLeaf F n) rfl).mono ?_
          rintro e w3 ⟨⟨v, rfl⟩, ⟨vn2, ab2, nb2, cb2, P2, J2⟩, K2⟩
          have HJ2 : Hid _ := J2
          replace K := K.trans K2
          clear J2 K2 e0 e2 hS2 hsW
          go_wp2
          go_roundw
          case rel => exact ⟨j + 1, by omega, by go_num, ⟨_, _, _, _, _, by rw [HT.out]; exact HJ2.out⟩, K, by rw [HT.out]; exact HI0.out⟩
          case measure => simp [intOf]; omega
      · obtain rfl : j = 4 := by omega
        have htk : (nodeOf f i).2.2.take 4 = (nodeOf f i).2.2 := List.take_of_length_le (by have := HP.out.kl; omega)
        rw [htk] at J hi0
        obtain ⟨F, hF⟩ : ∃ F, lessLeaves (f.1.set i (0, false, []), f.2) (nodeOf f i).2.2 = F := ⟨_, rfl⟩
        rw [hF] at J hi0
        have hFl : F.1.length = m := by
          obtain ⟨_, h3, _⟩ := HP.out.ln HQ.out 3 (by omega)
          rw [← hF, ← HM.out, lessLeaves_len]
          exact List.length_set ..
        have hset : (F.1.set i nd0, F.2) = L := by
          rw [← HL.out]
          have : F.1.set i nd0 = F.1 := by
            apply List.ext_getElem (by simp)
            intro a h1 h2
            rw [List.getElem_set]
            by_cases e : i = a
            · subst e
              rw [if_pos rfl]
              rw [List.getD_eq_getElem?_getD, List.getElem?_eq_getElem h2] at hi0
              exact hi0.symm
            · rw [if_neg e]
          rw [this]
          show F = _
          rw [← hF]
        have hiF : i < F.1.length := by omega
        obtain ⟨r', cap', hv, hr', s1, s2, s3, s4⟩ := J.ptr hiF
        subst hv
        have hroom := J.room rfl
        rw [hFl] at hroom
        have C0 := J.c0
        rw [hFl] at C0
        have J3 := J.put (H := fun _ => False) rfl hiF none nd0 (fun a ha hA e => e.elim hA ha) (fun _ => rfl) (fun _ e => by cases e)
        rw [hset] at J3
        have J4 := J3.into (T := S) (fun k hk _ => hk.1)
        have K4 : KeptS S w (wr.setCell ⟨r', i, none⟩ (.pointer none)) := by
          refine KeptS.setCell ((HKS.out.mono fun k e => e ▸ r5).trans (K.mono fun k hk => hk.1)) ?_ _
          exact s1.1
        have HJ : Hid (GRes S (fun _ => False) base g w (wr.setCell ⟨r', i, none⟩ (.pointer none)) L) := ⟨⟨_, _, _, _, _, J4⟩, K4⟩
        have hsl := slice_run r' m cap' i (by omega) hroom
        have hcl := fun c ty => clear_run (c := c) s3 s4 ty
        have hw2 : IntKind.i64.wrap ((i : Int) + 1) = (i : Int) + 1 := wrapI_same _ (by have := HI.out.small; unfold maxLen at this; omega)
        clear J J3 J4 K4 hset K
        go_wp2_with (first | (simp only [hsl]; done) | (simp only [hcl]; done) | fail)
        exact bodyPost_end (v := .tuple #[]) (by simp [results, Try.results196, go_sem]) rfl ⟨⟨_, rfl⟩, HJ.out⟩

end Go.Proofs.Ytikjndmgljkhhaa

/- Chapter 4: the program lays a forest out as nodes that are pointed at. -/
namespace Go.Proofs.Ytikjndmgljkhhaa
open Go.RowKit

theorem Try.infoPtr : (Try.prog.info? 243).map (fun i => (i.zero, i.size, i.bytes)) = some (some (.pointer none), 1, 8) := by kernel_rfl
theorem made_ptrs (n : Nat) : (madeCells #[Value.pointer none] n).toList = ptrs (fun _ => none) n := by
  apply List.ext_getElem (by simp [madeCells, ptrs])
  intro i h1 h2
  simp [madeCells, ptrs, ptrV, Nat.mod_one]

set_option maxRecDepth 20000 in
set_option maxHeartbeats 1000000 in
theorem cloneB_is {o : Bool} {l u : Nat} (ab : Option Addr) (nb cb : Nat) (bs : List (Int × Int)) (w : World) (h : RowAt w o l u 2 ab nb cb (pairs bs)) (hn : nb ≤ 1048576) :
    Calls Try.prog 187 #[.slice ab nb cb] w fun e w' => ∃ ra rc, e = .returned (.slice ra nb rc) ∧ RowAt w' true w.heap.size w'.heap.size 2 ra nb rc (pairs bs) ∧ Below w.heap.size w w' := by
  obtain ⟨j0, hj0, hy0, hy1, hy2⟩ := info_parts Try.infoBlk
  have hq : ∀ W, (binOp .eql 26 (.slice ab nb cb) (.slice none 0 0)).run Try.prog W = .ok (.bool ab.isNone) W := fun W => Lib.run_eql_slice_nil W _ _ ab nb cb 0 0 Try.underlying26
  cases ab with
  | none =>
    simp only [Option.isNone_none] at hq
    have hz : nb = 0 := Decidable.byContradiction fun hne => by obtain ⟨_, _, e, _⟩ := h.cells hne; cases e
    subst hz
    have hbs : pairs bs = [] := List.eq_nil_of_length_eq_zero (by have := h.len; omega)
    rw [hbs]
    go_enter Try.func187, Try.ntmps187
    go_wp2
    go_ret
    exact ⟨none, 0, rfl, RowAt.nil _ _ _ _ _, Below.refl _ _⟩
  | some ad =>
    simp only [Option.isNone_some] at hq
    have B3 : Below w.heap.size w (w.alloc (.cells #[] 152)) := (Below.refl _ _).alloc (Nat.le_refl _) _
    obtain ⟨ad', cp, w4, hr4, R4, B4, -⟩ := run_append_fresh (P := Try.prog) (w.alloc (.cells #[] 152)) 26 26 152 j0 (.agg #[.int .i64 0, .int .i64 0]) 2 16 Try.underlying26 hj0 hy0 hy1 hy2 (by rw [hy1]; rfl) w.heap.size (some ad) nb cb (pairs bs) (h.below B3) (pairs_one bs) hn (by omega)
    go_enter Try.func187, Try.ntmps187
    go_wp2_with (at_builtin; refine Lib.wpList_append_run _ rfl _ _ _ _ rfl _ _ rfl rfl _ _ hr4 ?_)
    have B5 := below_next B3 B4
    have R5 : RowAt w4 true w.heap.size w4.heap.size 2 (some ad') nb cp (pairs bs) := R4.widen (by simp) (Nat.le_refl _)
    clear B3 B4 R4 hr4
    go_wp2
    go_ret
    exact ⟨some ad', cp, rfl, R5, B5⟩
set_option maxRecDepth 20000 in
set_option maxHeartbeats 1000000 in
theorem cloneK_is {o : Bool} {l u : Nat} (ad : Addr) (n c : Nat) (ks : List Int) (w : World) (h : RowAt w o l u 1 (some ad) n c (ints ks)) (hn : n ≤ 1048576) :
    Calls Try.prog 81 #[.slice (some ad) n c] w fun e w' => ∃ ra rc, e = .returned (.slice ra n rc) ∧ RowAt w' true w.heap.size w'.heap.size 1 ra n rc (ints ks) ∧ Below w.heap.size w w' := by
  obtain ⟨i0, hi0, hz0, hz1, hz2⟩ := info_parts Try.info2'
  have hq : ∀ W, (binOp .eql 52 (.slice (some ad) n c) (.slice none 0 0)).run Try.prog W = .ok (.bool false) W := fun W => Lib.run_eql_slice_nil W _ _ (some ad) n c 0 0 Try.underlying52
  have B3 : Below w.heap.size w (w.alloc (.cells #[] 2)) := (Below.refl _ _).alloc (Nat.le_refl _) _
  obtain ⟨ad', cp, w4, hr4, R4, B4, -⟩ := run_append_fresh (P := Try.prog) (w.alloc (.cells #[] 2)) 52 52 2 i0 (.int .i64 0) 1 8 Try.underlying52 hi0 hz0 hz1 hz2 (by rw [hz1]; rfl) w.heap.size (some ad) n c (ints ks) (h.below B3) (ints_cell ks) hn (by omega)
  go_enter Try.func81, Try.ntmps81
  go_wp2_with (at_builtin; refine Lib.wpList_append_run _ rfl _ _ _ _ rfl _ _ rfl rfl _ _ hr4 ?_)
  have B5 := below_next B3 B4
  have R5 : RowAt w4 true w.heap.size w4.heap.size 1 (some ad') n cp (ints ks) := R4.widen (by simp) (Nat.le_refl _)
  clear B3 B4 R4 hr4
  go_wp2
  go_ret
  exact ⟨some ad', cp, rfl, R5, B5⟩

theorem copN_skip (ns : List Nd) (k : Nat) (h : k < ns.length) (h0 : ns.getD k nd0 = nd0) : copN ns (k + 1) = copN ns k := by
  rw [← copN_set ns k h, h0]
  have hl := copN_len ns k (by omega)
  apply List.ext_getElem (by simp)
  intro j h1 h2
  rw [List.getElem_set]
  by_cases e : k = j
  · subst e
    rw [if_pos rfl]
    have := copN_get ns k k (Nat.le_refl _)
    rw [List.getD_eq_getElem?_getD, List.getElem?_eq_getElem h2] at this
    exact this.symm
  · rw [if_neg e]
def GroveRes (w w' : World) (e : Ending) (f : Fo) : Prop := ∃ g vn ab nb cb P, e = .returned (.pointer (some ⟨g, 0, none⟩)) ∧ GAt w' (fun k => w.heap.size ≤ k) (fun _ => False) w.heap.size g vn ab nb cb P f ∧ Below w.heap.size w w'
/-- a grove without nodes yet -/
theorem GAt.first {w : World} {S : Nat → Prop} {base r n : Nat} {ab : Option Addr} {nb cb : Nat} {bs : List (Int × Int)} (hown : w.ownsRow base 243 1 (.slice (some ⟨r, 0, none⟩) n n) n (ptrs (fun _ => none) n)) (hb : RowAt w true base w.heap.size 2 ab nb cb (pairs bs)) (hS : ∀ k, base ≤ k → S k) (hbase : base ≤ w.heap.size) (hs : nb ≠ 0 → r ≠ sb ab) :
    GAt (w.alloc (.cells #[.slice (some ⟨r, 0, none⟩) n n, .slice ab nb cb] 242)) S (fun _ => False) base w.heap.size (.slice (some ⟨r, 0, none⟩) n n) ab nb cb (fun _ => none) (List.replicate n nd0, bs) := by
  have A : Below w.heap.size w (w.alloc (.cells #[.slice (some ⟨r, 0, none⟩) n n, .slice ab nb cb] 242)) := (Below.refl _ _).alloc (Nat.le_refl _) _
  have hr := owns_lt hown
  refine ⟨by simp, by simp, by simp, by simp, ⟨hS _ hbase, by simp⟩, ?_, fun x e => ?_, (hb.below A).widen (Nat.le_refl _) A.size, fun hne => ?_, fun i hi _ _ => ?_, fun i hi _ b e => (by cases e), fun i j b _ _ _ _ e => (by cases e)⟩
  · show World.ownsRow _ _ _ _ _ (List.replicate n nd0).length (ptrs (fun _ => none) (List.replicate n nd0).length)
    rw [List.length_replicate]
    exact owns_below hown A
  · simp [Value.ownBlock] at e
    subst e
    exact ⟨hS _ hr.1, by omega⟩
  · have := hb.block_lt hne
    exact ⟨hS _ this.1, by omega, fun e => hs hne (by simpa [Value.ownBlock] using e)⟩
  · have hi' : i < n := by simpa using hi
    show (List.replicate n nd0).getD i nd0 = nd0
    simp [List.getD, hi']

set_option maxRecDepth 20000 in
set_option maxHeartbeats 4000000 in
theorem groveOf_is {o : Bool} {l u : Nat} (an : Option Addr) (nn cn : Nat) (ab : Option Addr) (nb cb : Nat) (K : Nat → KS) (f : Fo) (w : World) (h : FoAt w o l u an nn cn ab nb cb K f) (hI : Inv f) :
    Calls Try.prog 191 #[.agg #[.slice an nn cn, .slice ab nb cb]] w fun e w' => GroveRes w w' e f := by
  have hl := h.nodes.len
  have hbl := h.blocks.nPairs
  have hn60 : nn ≤ 60 := by have := hI.nn; omega
  have hb24 : nb ≤ 24 := by have := hI.nb; omega
  obtain ⟨i0, hi0, hz0, hz1, hz2⟩ := info_parts Try.infoPtr
  have A0 : Below w.heap.size w (w.alloc (.cells #[.slice an nn cn, .slice ab nb cb] 28)) := (Below.refl _ _).alloc (Nat.le_refl _) _
  have g0 : (w.alloc (.cells #[.slice an nn cn, .slice ab nb cb] 28)).cell? ⟨w.heap.size, 0, none⟩ = some (.slice an nn cn) := by simp
  have g1 : (w.alloc (.cells #[.slice an nn cn, .slice ab nb cb] 28)).cell? ⟨w.heap.size, 1, none⟩ = some (.slice ab nb cb) := by simp
  have hz : w.heap.size < (w.alloc (.cells #[.slice an nn cn, .slice ab nb cb] 28)).heap.size := by simp
  have r0 := h.blocks.below A0
  have HI : Hid _ := hI
  clear hI
  go_enter Try.func191, Try.ntmps191
  generalize hW : w.alloc (.cells #[.slice an nn cn, .slice ab nb cb] 28) = W at *
  have HW : Hid _ := hW
  clear hW
  go_wp2_with (simp only [HW.out])
  obtain ⟨C, hC⟩ : ∃ C, madeCells #[Value.pointer none] nn = C := ⟨_, rfl⟩
  have hCl : C.toList = ptrs (fun _ => none) nn := by rw [← hC]; exact made_ptrs nn
  have hCs : C.size = nn * 1 := by rw [← hC]; simp [madeCells]
  have hmk : ∀ W', (Instr.makeSlice 240 (.int .i64 (nn : Int)) (.int .i64 (nn : Int))).run Try.prog W' = .ok (.slice (some ⟨W'.heap.size, 0, none⟩) nn nn) (W'.alloc (.cells C 243)) := fun W' => by
    have := run_makeSlice (P := Try.prog) W' 240 243 i0 (.pointer none) Try.underlying240 hi0 hz0 .i64 .i64 (nn : Int) (nn : Int) (by omega) (Int.le_refl _) (by rw [hz1, Int.toNat_natCast]; omega) (by rw [hz2]; omega) (by omega)
    rw [hz1, Int.toNat_natCast, Nat.mul_one] at this
    rw [this, ← hC]
    rfl
  have A1 : Below W.heap.size W (W.alloc (.cells C 243)).drew := ((Below.refl _ _).alloc (Nat.le_refl _) _).drew
  have rB := r0.below ((Below.refl W.heap.size W).drew)
  have rA := r0.below A1
  have g0A := cell_later A1 g0
  have g1A := cell_later A1 g1
  have hb20 : nb ≤ 1048576 := by omega
  clear hC
  go_region_held3 (fun w' => w'.cell? ⟨w.heap.size, 0, none⟩ = some (.slice an nn cn) ∧ w'.cell? ⟨w.heap.size, 1, none⟩ = some (.slice ab nb cb)) (first | exact ⟨g0, g1⟩ | exact ⟨g0A, g1A⟩ | exact ⟨h0, h1⟩ | go_keep) (first | (go_at_call 187; first | ((with_reducible refine (cloneB_is ab nb cb f.2 (W.alloc (.cells C 243)).drew rA hb20).mono ?_); rintro e w3 ⟨ra, rc, rfl, RR, hb3⟩; have BB : Below W.heap.size W w3 := below_next A1 hb3; have h0 := cell_later BB g0; have h1 := cell_later BB g1) | ((with_reducible refine (cloneB_is ab nb cb f.2 W.drew rB hb20).mono ?_); rintro e w3 ⟨ra, rc, rfl, RR, hb3⟩; have BB : Below W.heap.size W w3 := drew_next hb3; have h0 := cell_later BB g0; have h1 := cell_later BB g1)))
  · have OA : (W.alloc (.cells C 243)).drew.ownsRow w.heap.size 243 1 (.slice (some ⟨W.heap.size, 0, none⟩) nn nn) nn C.toList := World.ownsRow_lit W C nn (Nat.le_of_lt hz) (by unfold maxLen; omega) hCs
    have OW := owns_below OA hb3
    rw [hCl] at OW
    have hs3 : W.heap.size < w3.heap.size := by have := hb3.size; simp at this; omega
    have J0 := GAt.first (S := fun k => w.heap.size ≤ k) OW (RR.widen (by simp; omega) (Nat.le_refl _)) (fun k hk => hk) (by omega) (fun hne => by have := (RR.block_lt hne).1; simp at this; omega)
    have A9 : Below w3.heap.size w3 (w3.alloc (.cells #[.slice (some ⟨W.heap.size, 0, none⟩) nn nn, .slice ra nb rc] 242)) := (Below.refl _ _).alloc (Nat.le_refl _) _
    have B0 := below_next (below_next A0 BB) A9
    replace h0 := cell_later A9 h0
    generalize w3.alloc (.cells #[.slice (some ⟨W.heap.size, 0, none⟩) nn nn, .slice ra nb rc] 242) = W9 at *
    clear OA OW hs3
    rw [show List.replicate nn nd0 = copN f.1 0 by rw [copN_zero, hl]] at J0
    clear A9 RR hb3 BB h1 rA rB g0A g1A A1 hmk
    go_wp2
    go_loopw [18] (fun i wr => ∃ k : Nat, k ≤ nn ∧ i = .int .i64 k ∧ (∃ P', GAt wr (fun k => w.heap.size ≤ k) (fun _ => False) w.heap.size (w3.heap.size) (.slice (some ⟨W.heap.size, 0, none⟩) nn nn) ra nb rc P' (copN f.1 k, f.2) ∧ ∀ j, k ≤ j → P' j = none) ∧ Below w.heap.size w wr) (fun i _ => nn - (intOf i).toNat)
    case atStart => exact ⟨0, Nat.zero_le _, rfl, ⟨_, J0, fun _ _ => rfl⟩, B0⟩
    case round =>
      obtain ⟨k, hk, rfl, ⟨P', J, hP'⟩, B⟩ := hrel
      clear J0 B0 h0
      by_cases hlt : k < nn
      · have hkr0 := h.nodes.kids k hlt
        have hrw := (J.own.lt _ rfl)
        have hkr := (h.nodes.kids k hlt).kept (Kept.of_below B : Kept u u w wr) (Or.inl (Nat.le_refl _))
        obtain ⟨b, off, rfl, _, _, hbs, e1, e2, e3, _⟩ := h.nodes.node hlt
        replace e1 := (B.cell (p := ⟨b, off + k * 3, none⟩) hbs).trans e1
        replace e2 := (B.cell (p := ⟨b, off + k * 3 + 1, none⟩) hbs).trans e2
        replace e3 := (B.cell (p := ⟨b, off + k * 3 + 2, none⟩) hbs).trans e3
        have hlk : (k : Int) < (nn : Int) := by omega
        have hset := copN_set f.1 k (by omega)
        have hskip := copN_skip f.1 k (by omega)
        have ok := HI.out.nd k
        unfold nodeOf at ok
        obtain ⟨⟨q, lf, ks⟩, hnd⟩ : ∃ nd, f.1.getD k nd0 = nd := ⟨_, rfl⟩
        obtain ⟨⟨ka, kn, kc⟩, hks⟩ : ∃ x, K k = x := ⟨_, rfl⟩
        rw [hnd] at e1 e2 hkr hset ok hskip hkr0
        rw [hks] at e3 hkr hkr0
        simp only at e1 e2 e3 hkr hkr0
        clear hnd hks
        have A2 : Below wr.heap.size wr (wr.alloc (.cells #[.int .i64 q, .bool lf, .slice ka kn kc] 148)) := (Below.refl _ _).alloc (Nat.le_refl _) _
        have J2 := J.below A2
        have B2 := below_next B A2
        have C0 := J2.c0
        by_cases hq0 : q = 0
        · have hz := ok.z hq0
          have hgt : ¬ (0 : Int) < q := by omega
          have HS : Hid _ := hskip hz
          have HJ : Hid _ := J2
          clear hset hskip J J2 ok hz hq0 C0
          go_wp2
          go_roundw
          case rel => exact ⟨k + 1, by omega, by go_num, ⟨P', by rw [HS.out]; exact HJ.out, fun j hj => hP' j (by omega)⟩, B2⟩
          case measure => simp [intOf]; omega
        · have hq1 : (0 : Int) < q := by have := ok.r0; simp at this; omega
          have hkl := ok.kl hq0
          simp only at hkl
          have hkn := hkr.nInts
          obtain rfl : kn = 4 := by omega
          obtain ⟨k0, k1, k2, k3, rfl⟩ := list4 hkl
          have hkr2 := hkr.below A2
          obtain ⟨kb, ko, rfl, _, _, _, x0, _⟩ := hkr2.int (k := 0) (by omega)
          obtain ⟨_, _, e', _, _, _, x1, _⟩ := hkr2.int (k := 1) (by omega)
          cases e'
          obtain ⟨_, _, e', _, _, _, x2, _⟩ := hkr2.int (k := 2) (by omega)
          cases e'
          obtain ⟨_, _, e', _, _, _, x3, _⟩ := hkr2.int (k := 3) (by omega)
          cases e'
          simp only [List.getD_cons_zero, List.getD_cons_succ, Nat.add_zero] at x0 x1 x2 x3
          have hkbw : kb < w.heap.size := (hkr0.block_lt (by decide)).2.2
          clear hkr0
          have hat : ∀ w, (Instr.arrayAt 221 (.slice (some ⟨kb, ko, none⟩) 4 kc)).run Try.prog w = .ok (.pointer (some ⟨kb, ko, none⟩)) w := fun w => run_arrayAt w 221 _ 4 _ 4 kc Try.underlying221 (Nat.le_refl _)
          have n0 : (wr.alloc (.cells #[.int .i64 q, .bool lf, .slice (some ⟨kb, ko, none⟩) 4 kc] 148)).cell? ⟨wr.heap.size, 0, none⟩ = some (.int .i64 q) := by simp
          have n1 : (wr.alloc (.cells #[.int .i64 q, .bool lf, .slice (some ⟨kb, ko, none⟩) 4 kc] 148)).cell? ⟨wr.heap.size, 1, none⟩ = some (.bool lf) := by simp
          have n2 : (wr.alloc (.cells #[.int .i64 q, .bool lf, .slice (some ⟨kb, ko, none⟩) 4 kc] 148)).cell? ⟨wr.heap.size, 2, none⟩ = some (.slice (some ⟨kb, ko, none⟩) 4 kc) := by simp
          have hi' : k < (copN f.1 k, f.2).1.length := by show k < (copN f.1 k).length; rw [copN_len _ _ (by omega)]; omega
          obtain ⟨r2, cap2, e', hrr, s1, s2, c3, f3⟩ := J2.ptr hi'
          have er : r2 = W.heap.size := by have := (Value.slice.inj e').1; simp at this; exact this.symm
          subst er
          clear e'
          rw [hP' k (Nat.le_refl _)] at c3
          simp only [ptrV] at c3
          have hgw := J2.hg.2
          have HJ : Hid _ := J2
          have HB : Hid _ := B2
          have HS : Hid _ := hset
          have hws : (wr.alloc (.cells #[.int .i64 q, .bool lf, .slice (some ⟨kb, ko, none⟩) 4 kc] 148)).heap.size = wr.heap.size + 1 := by simp
          clear hset hskip J J2 B2 ok hkr hkr2
          go_wp2_with fail
          generalize hWn : wr.alloc (.cells #[.int .i64 q, .bool lf, .slice (some ⟨kb, ko, none⟩) 4 kc] 148) = Wn at *
          clear hWn e1 e2 e3
          have AV : ∀ (X : World) (o : Obj), Below X.heap.size X (X.alloc o).drew := fun X o => ((Below.refl _ _).alloc (Nat.le_refl _) _).drew
          have CS : ∀ (X : World) (u v : Value) (b o : Nat), X.cell? ⟨b, o, none⟩ = some v → b ≠ W.heap.size → (X.setCell ⟨W.heap.size, k, none⟩ u).cell? ⟨b, o, none⟩ = some v := fun X u v b o h hne => by rw [World.cell?_setCell_other _ _ _ _ (by intro e; exact hne (congrArg Addr.block e).symm)]; exact h
          have c4 := cell_later (AV Wn (.cells #[.int .i64 q, .bool lf, .int .i64 k0, .int .i64 k1, .int .i64 k2, .int .i64 k3] 245)) c3
          have f4 := frozen_later (AV Wn (.cells #[.int .i64 q, .bool lf, .int .i64 k0, .int .i64 k1, .int .i64 k2, .int .i64 k3] 245)) hrr f3
          have hrl := hrw.1
          have hru := hrw.2
          have d1 : w3.heap.size ≠ W.heap.size := Ne.symm s2
          have d2 : wr.heap.size ≠ W.heap.size := by omega
          have d3 : kb ≠ W.heap.size := by omega
          go_region_held3 (fun w' => w'.cell? ⟨w3.heap.size, 0, none⟩ = some (.slice (some ⟨W.heap.size, 0, none⟩) nn nn) ∧ w'.cell? ⟨wr.heap.size, 0, none⟩ = some (.int .i64 q) ∧ w'.cell? ⟨wr.heap.size, 1, none⟩ = some (.bool lf) ∧ w'.cell? ⟨wr.heap.size, 2, none⟩ = some (.slice (some ⟨kb, ko, none⟩) 4 kc) ∧ w'.cell? ⟨kb, ko, none⟩ = some (.int .i64 k0) ∧ w'.cell? ⟨kb, ko + 1, none⟩ = some (.int .i64 k1) ∧ w'.cell? ⟨kb, ko + 2, none⟩ = some (.int .i64 k2) ∧ w'.cell? ⟨kb, ko + 3, none⟩ = some (.int .i64 k3)) (first | exact ⟨C0, n0, n1, n2, x0, x1, x2, x3⟩ | exact ⟨cell_later (AV _ _) C0, cell_later (AV _ _) n0, cell_later (AV _ _) n1, cell_later (AV _ _) n2, cell_later (AV _ _) x0, cell_later (AV _ _) x1, cell_later (AV _ _) x2, cell_later (AV _ _) x3⟩ | exact ⟨cell_later (AV _ _) (CS _ _ _ _ _ C0 d1), cell_later (AV _ _) (CS _ _ _ _ _ n0 d2), cell_later (AV _ _) (CS _ _ _ _ _ n1 d2), cell_later (AV _ _) (CS _ _ _ _ _ n2 d2), cell_later (AV _ _) (CS _ _ _ _ _ x0 d3), cell_later (AV _ _) (CS _ _ _ _ _ x1 d3), cell_later (AV _ _) (CS _ _ _ _ _ x2 d3), cell_later (AV _ _) (CS _ _ _ _ _ x3 d3)⟩) (fail)
          have HX : Hid (∃ P2, GAt ((Wn.setCell ⟨W.heap.size, k, none⟩ (.pointer (some ⟨wr.heap.size + 1, 0, none⟩))).alloc (.cells #[.int .i64 q, .bool lf, .int .i64 k0, .int .i64 k1, .int .i64 k2, .int .i64 k3] 245)) (fun k => w.heap.size ≤ k) (fun _ => False) w.heap.size (w3.heap.size) (.slice (some ⟨W.heap.size, 0, none⟩) nn nn) ra nb rc P2 (copN f.1 (k + 1), f.2) ∧ ∀ j, k + 1 ≤ j → P2 j = none) := by
            have A5 : Below Wn.heap.size Wn (Wn.alloc (.cells #[.int .i64 q, .bool lf, .int .i64 k0, .int .i64 k1, .int .i64 k2, .int .i64 k3] 245)) := (Below.refl _ _).alloc (Nat.le_refl _) _
            have BX : BoxAt (Wn.alloc (.cells #[.int .i64 q, .bool lf, .int .i64 k0, .int .i64 k1, .int .i64 k2, .int .i64 k3] 245)) Wn.heap.size (q, lf, [k0, k1, k2, k3]) :=
              RowAt.of_block (cs := ndc (q, lf, [k0, k1, k2, k3])) (t := 245) (heap_alloc_new Wn _) (by simp [ndc, ints])
            have hlen : (copN f.1 k).length = nn := by rw [copN_len _ _ (by omega)]; exact hl
            have J5 := (HJ.out.below A5).put (H := fun _ => False) hlen.symm hi' (some Wn.heap.size) (q, lf, [k0, k1, k2, k3]) (fun _ _ h => h) (fun e => by cases e) (fun b' e => by
              cases e
              refine ⟨BX, hq0, ?_, ?_, ?_, fun hne => ?_, fun j hj hjk _ e2 => ?_⟩
              · show w.heap.size ≤ Wn.heap.size; omega
              · omega
              · omega
              · have := (HJ.out.blk.block_lt hne).2.2; omega
              · have := ((HJ.out.yes j hj (fun x => x) _ e2).1).lt; omega)
            simp only [ptrV] at J5
            rw [HS.out, hws] at J5
            have hcomm : (Wn.setCell ⟨W.heap.size, k, none⟩ (.pointer (some ⟨wr.heap.size + 1, 0, none⟩))).alloc (.cells #[.int .i64 q, .bool lf, .int .i64 k0, .int .i64 k1, .int .i64 k2, .int .i64 k3] 245) = (Wn.alloc (.cells #[.int .i64 q, .bool lf, .int .i64 k0, .int .i64 k1, .int .i64 k2, .int .i64 k3] 245)).setCell ⟨W.heap.size, k, none⟩ (.pointer (some ⟨wr.heap.size + 1, 0, none⟩)) := by
              exact (World.setCell_alloc_past _ _ _ _ hrr).symm
            rw [hcomm]
            exact ⟨_, J5, fun j hj => by simp only [updP]; rw [if_neg (by omega)]; exact hP' j (by omega)⟩
          have B5 : Below w.heap.size w ((Wn.setCell ⟨W.heap.size, k, none⟩ (.pointer (some ⟨wr.heap.size + 1, 0, none⟩))).alloc (.cells #[.int .i64 q, .bool lf, .int .i64 k0, .int .i64 k1, .int .i64 k2, .int .i64 k3] 245)).drew := ((HB.out.setCell (p := ⟨W.heap.size, k, none⟩) (by show w.heap.size ≤ W.heap.size; omega) _).alloc (by simp; omega) _).drew
          obtain ⟨P2, J6, hP2⟩ := HX.out
          have J7 := J6.below ((Below.refl _ _).drew)
          have HJ7 : Hid _ := J7
          clear HX J6 J7 HJ HB
          go_wp2
          go_roundw
          case rel => exact ⟨k + 1, by omega, by go_num, ⟨_, HJ7.out, hP2⟩, B5⟩
          case measure => simp [intOf]; omega
      · obtain rfl : k = nn := by omega
        rw [show copN f.1 k = f.1 by rw [← hl]; exact copN_all f.1] at J
        have HJ : Hid _ := J
        clear J
        go_wp2
        go_ret
        exact ⟨_, _, _, _, _, _, rfl, HJ.out, B⟩
  · have OW : (w3.alloc (.cells C 243)).ownsRow w.heap.size 243 1 (.slice (some ⟨w3.heap.size, 0, none⟩) nn nn) nn C.toList := World.ownsRow_lit w3 C nn (by have := BB.size; omega) (by unfold maxLen; omega) hCs
    rw [hCl] at OW
    have A8 : Below w3.heap.size w3 (w3.alloc (.cells C 243)) := (Below.refl _ _).alloc (Nat.le_refl _) _
    have hg : (w3.alloc (.cells C 243)).heap.size = w3.heap.size + 1 := by simp
    have J0 := GAt.first (S := fun k => w.heap.size ≤ k) OW ((RR.below A8).widen (by show w.heap.size ≤ W.heap.size; omega) A8.size) (fun k hk => hk) (by have := BB.size; rw [hg]; omega) (fun hne => by have := (RR.block_lt hne).2.1; omega)
    rw [hg] at J0
    have A9 : Below w3.heap.size w3 ((w3.alloc (.cells C 243)).alloc (.cells #[.slice (some ⟨w3.heap.size, 0, none⟩) nn nn, .slice ra nb rc] 242)) := A8.alloc (by simp) _
    have B0 := below_next (below_next A0 BB) A9
    replace h0 := cell_later A9 h0
    generalize (w3.alloc (.cells C 243)).alloc (.cells #[.slice (some ⟨w3.heap.size, 0, none⟩) nn nn, .slice ra nb rc] 242) = W9 at *
    clear OW A8 hg
    rw [show List.replicate nn nd0 = copN f.1 0 by rw [copN_zero, hl]] at J0
    clear A9 RR hb3 BB h1 rA rB g0A g1A A1 hmk
    go_wp2
    go_loopw [18] (fun i wr => ∃ k : Nat, k ≤ nn ∧ i = .int .i64 k ∧ (∃ P', GAt wr (fun k => w.heap.size ≤ k) (fun _ => False) w.heap.size (w3.heap.size + 1) (.slice (some ⟨w3.heap.size, 0, none⟩) nn nn) ra nb rc P' (copN f.1 k, f.2) ∧ ∀ j, k ≤ j → P' j = none) ∧ Below w.heap.size w wr) (fun i _ => nn - (intOf i).toNat)
    case atStart => exact ⟨0, Nat.zero_le _, rfl, ⟨_, J0, fun _ _ => rfl⟩, B0⟩
    case round =>
      obtain ⟨k, hk, rfl, ⟨P', J, hP'⟩, B⟩ := hrel
      clear J0 B0 h0
      by_cases hlt : k < nn
      · have hkr0 := h.nodes.kids k hlt
        have hrw := (J.own.lt _ rfl)
        have hkr := (h.nodes.kids k hlt).kept (Kept.of_below B : Kept u u w wr) (Or.inl (Nat.le_refl _))
        obtain ⟨b, off, rfl, _, _, hbs, e1, e2, e3, _⟩ := h.nodes.node hlt
        replace e1 := (B.cell (p := ⟨b, off + k * 3, none⟩) hbs).trans e1
        replace e2 := (B.cell (p := ⟨b, off + k * 3 + 1, none⟩) hbs).trans e2
        replace e3 := (B.cell (p := ⟨b, off + k * 3 + 2, none⟩) hbs).trans e3
        have hlk : (k : Int) < (nn : Int) := by omega
        have hset := copN_set f.1 k (by omega)
        have hskip := copN_skip f.1 k (by omega)
        have ok := HI.out.nd k
        unfold nodeOf at ok
        obtain ⟨⟨q, lf, ks⟩, hnd⟩ : ∃ nd, f.1.getD k nd0 = nd := ⟨_, rfl⟩
        obtain ⟨⟨ka, kn, kc⟩, hks⟩ : ∃ x, K k = x := ⟨_, rfl⟩
        rw [hnd] at e1 e2 hkr hset ok hskip hkr0
        rw [hks] at e3 hkr hkr0
        simp only at e1 e2 e3 hkr hkr0
        clear hnd hks
        have A2 : Below wr.heap.size wr (wr.alloc (.cells #[.int .i64 q, .bool lf, .slice ka kn kc] 148)) := (Below.refl _ _).alloc (Nat.le_refl _) _
        have J2 := J.below A2
        have B2 := below_next B A2
        have C0 := J2.c0
        by_cases hq0 : q = 0
        · have hz := ok.z hq0
          have hgt : ¬ (0 : Int) < q := by omega
          have HS : Hid _ := hskip hz
          have HJ : Hid _ := J2
          clear hset hskip J J2 ok hz hq0 C0
          go_wp2
          go_roundw
          case rel => exact ⟨k + 1, by omega, by go_num, ⟨P', by rw [HS.out]; exact HJ.out, fun j hj => hP' j (by omega)⟩, B2⟩
          case measure => simp [intOf]; omega
        · have hq1 : (0 : Int) < q := by have := ok.r0; simp at this; omega
          have hkl := ok.kl hq0
          simp only at hkl
          have hkn := hkr.nInts
          obtain rfl : kn = 4 := by omega
          obtain ⟨k0, k1, k2, k3, rfl⟩ := list4 hkl
          have hkr2 := hkr.below A2
          obtain ⟨kb, ko, rfl, _, _, _, x0, _⟩ := hkr2.int (k := 0) (by omega)
          obtain ⟨_, _, e', _, _, _, x1, _⟩ := hkr2.int (k := 1) (by omega)
          cases e'
          obtain ⟨_, _, e', _, _, _, x2, _⟩ := hkr2.int (k := 2) (by omega)
          cases e'
          obtain ⟨_, _, e', _, _, _, x3, _⟩ := hkr2.int (k := 3) (by omega)
          cases e'
          simp only [List.getD_cons_zero, List.getD_cons_succ, Nat.add_zero] at x0 x1 x2 x3
          have hkbw : kb < w.heap.size := (hkr0.block_lt (by decide)).2.2
          clear hkr0
          have hat : ∀ w, (Instr.arrayAt 221 (.slice (some ⟨kb, ko, none⟩) 4 kc)).run Try.prog w = .ok (.pointer (some ⟨kb, ko, none⟩)) w := fun w => run_arrayAt w 221 _ 4 _ 4 kc Try.underlying221 (Nat.le_refl _)
          have n0 : (wr.alloc (.cells #[.int .i64 q, .bool lf, .slice (some ⟨kb, ko, none⟩) 4 kc] 148)).cell? ⟨wr.heap.size, 0, none⟩ = some (.int .i64 q) := by simp
          have n1 : (wr.alloc (.cells #[.int .i64 q, .bool lf, .slice (some ⟨kb, ko, none⟩) 4 kc] 148)).cell? ⟨wr.heap.size, 1, none⟩ = some (.bool lf) := by simp
          have n2 : (wr.alloc (.cells #[.int .i64 q, .bool lf, .slice (some ⟨kb, ko, none⟩) 4 kc] 148)).cell? ⟨wr.heap.size, 2, none⟩ = some (.slice (some ⟨kb, ko, none⟩) 4 kc) := by simp
          have hi' : k < (copN f.1 k, f.2).1.length := by show k < (copN f.1 k).length; rw [copN_len _ _ (by omega)]; omega
          obtain ⟨r2, cap2, e', hrr, s1, s2, c3, f3⟩ := J2.ptr hi'
          have er : r2 = w3.heap.size := by have := (Value.slice.inj e').1; simp at this; exact this.symm
          subst er
          clear e'
          rw [hP' k (Nat.le_refl _)] at c3
          simp only [ptrV] at c3
          have hgw := J2.hg.2
          have HJ : Hid _ := J2
          have HB : Hid _ := B2
          have HS : Hid _ := hset
          have hws : (wr.alloc (.cells #[.int .i64 q, .bool lf, .slice (some ⟨kb, ko, none⟩) 4 kc] 148)).heap.size = wr.heap.size + 1 := by simp
          clear hset hskip J J2 B2 ok hkr hkr2
          go_wp2_with fail
          generalize hWn : wr.alloc (.cells #[.int .i64 q, .bool lf, .slice (some ⟨kb, ko, none⟩) 4 kc] 148) = Wn at *
          clear hWn e1 e2 e3
          have AV : ∀ (X : World) (o : Obj), Below X.heap.size X (X.alloc o).drew := fun X o => ((Below.refl _ _).alloc (Nat.le_refl _) _).drew
          have CS : ∀ (X : World) (u v : Value) (b o : Nat), X.cell? ⟨b, o, none⟩ = some v → b ≠ w3.heap.size → (X.setCell ⟨w3.heap.size, k, none⟩ u).cell? ⟨b, o, none⟩ = some v := fun X u v b o h hne => by rw [World.cell?_setCell_other _ _ _ _ (by intro e; exact hne (congrArg Addr.block e).symm)]; exact h
          have c4 := cell_later (AV Wn (.cells #[.int .i64 q, .bool lf, .int .i64 k0, .int .i64 k1, .int .i64 k2, .int .i64 k3] 245)) c3
          have f4 := frozen_later (AV Wn (.cells #[.int .i64 q, .bool lf, .int .i64 k0, .int .i64 k1, .int .i64 k2, .int .i64 k3] 245)) hrr f3
          have hrl := hrw.1
          have hru := hrw.2
          have d1 : w3.heap.size + 1 ≠ w3.heap.size := Ne.symm s2
          have d2 : wr.heap.size ≠ w3.heap.size := by omega
          have d3 : kb ≠ w3.heap.size := by omega
          go_region_held3 (fun w' => w'.cell? ⟨w3.heap.size + 1, 0, none⟩ = some (.slice (some ⟨w3.heap.size, 0, none⟩) nn nn) ∧ w'.cell? ⟨wr.heap.size, 0, none⟩ = some (.int .i64 q) ∧ w'.cell? ⟨wr.heap.size, 1, none⟩ = some (.bool lf) ∧ w'.cell? ⟨wr.heap.size, 2, none⟩ = some (.slice (some ⟨kb, ko, none⟩) 4 kc) ∧ w'.cell? ⟨kb, ko, none⟩ = some (.int .i64 k0) ∧ w'.cell? ⟨kb, ko + 1, none⟩ = some (.int .i64 k1) ∧ w'.cell? ⟨kb, ko + 2, none⟩ = some (.int .i64 k2) ∧ w'.cell? ⟨kb, ko + 3, none⟩ = some (.int .i64 k3)) (first | exact ⟨C0, n0, n1, n2, x0, x1, x2, x3⟩ | exact ⟨cell_later (AV _ _) C0, cell_later (AV _ _) n0, cell_later (AV _ _) n1, cell_later (AV _ _) n2, cell_later (AV _ _) x0, cell_later (AV _ _) x1, cell_later (AV _ _) x2, cell_later (AV _ _) x3⟩ | exact ⟨cell_later (AV _ _) (CS _ _ _ _ _ C0 d1), cell_later (AV _ _) (CS _ _ _ _ _ n0 d2), cell_later (AV _ _) (CS _ _ _ _ _ n1 d2), cell_later (AV _ _) (CS _ _ _ _ _ n2 d2), cell_later (AV _ _) (CS _ _ _ _ _ x0 d3), cell_later (AV _ _) (CS _ _ _ _ _ x1 d3), cell_later (AV _ _) (CS _ _ _ _ _ x2 d3), cell_later (AV _ _) (CS _ _ _ _ _ x3 d3)⟩) (fail)
          have HX : Hid (∃ P2, GAt ((Wn.setCell ⟨w3.heap.size, k, none⟩ (.pointer (some ⟨wr.heap.size + 1, 0, none⟩))).alloc (.cells #[.int .i64 q, .bool lf, .int .i64 k0, .int .i64 k1, .int .i64 k2, .int .i64 k3] 245)) (fun k => w.heap.size ≤ k) (fun _ => False) w.heap.size (w3.heap.size + 1) (.slice (some ⟨w3.heap.size, 0, none⟩) nn nn) ra nb rc P2 (copN f.1 (k + 1), f.2) ∧ ∀ j, k + 1 ≤ j → P2 j = none) := by
            have A5 : Below Wn.heap.size Wn (Wn.alloc (.cells #[.int .i64 q, .bool lf, .int .i64 k0, .int .i64 k1, .int .i64 k2, .int .i64 k3] 245)) := (Below.refl _ _).alloc (Nat.le_refl _) _
            have BX : BoxAt (Wn.alloc (.cells #[.int .i64 q, .bool lf, .int .i64 k0, .int .i64 k1, .int .i64 k2, .int .i64 k3] 245)) Wn.heap.size (q, lf, [k0, k1, k2, k3]) :=
              RowAt.of_block (cs := ndc (q, lf, [k0, k1, k2, k3])) (t := 245) (heap_alloc_new Wn _) (by simp [ndc, ints])
            have hlen : (copN f.1 k).length = nn := by rw [copN_len _ _ (by omega)]; exact hl
            have J5 := (HJ.out.below A5).put (H := fun _ => False) hlen.symm hi' (some Wn.heap.size) (q, lf, [k0, k1, k2, k3]) (fun _ _ h => h) (fun e => by cases e) (fun b' e => by
              cases e
              refine ⟨BX, hq0, ?_, ?_, ?_, fun hne => ?_, fun j hj hjk _ e2 => ?_⟩
              · show w.heap.size ≤ Wn.heap.size; omega
              · omega
              · omega
              · have := (HJ.out.blk.block_lt hne).2.2; omega
              · have := ((HJ.out.yes j hj (fun x => x) _ e2).1).lt; omega)
            simp only [ptrV] at J5
            rw [HS.out, hws] at J5
            have hcomm : (Wn.setCell ⟨w3.heap.size, k, none⟩ (.pointer (some ⟨wr.heap.size + 1, 0, none⟩))).alloc (.cells #[.int .i64 q, .bool lf, .int .i64 k0, .int .i64 k1, .int .i64 k2, .int .i64 k3] 245) = (Wn.alloc (.cells #[.int .i64 q, .bool lf, .int .i64 k0, .int .i64 k1, .int .i64 k2, .int .i64 k3] 245)).setCell ⟨w3.heap.size, k, none⟩ (.pointer (some ⟨wr.heap.size + 1, 0, none⟩)) := by
              exact (World.setCell_alloc_past _ _ _ _ hrr).symm
            rw [hcomm]
            exact ⟨_, J5, fun j hj => by simp only [updP]; rw [if_neg (by omega)]; exact hP' j (by omega)⟩
          have B5 : Below w.heap.size w ((Wn.setCell ⟨w3.heap.size, k, none⟩ (.pointer (some ⟨wr.heap.size + 1, 0, none⟩))).alloc (.cells #[.int .i64 q, .bool lf, .int .i64 k0, .int .i64 k1, .int .i64 k2, .int .i64 k3] 245)).drew := ((HB.out.setCell (p := ⟨w3.heap.size, k, none⟩) (by show w.heap.size ≤ w3.heap.size; omega) _).alloc (by simp; omega) _).drew
          obtain ⟨P2, J6, hP2⟩ := HX.out
          have J7 := J6.below ((Below.refl _ _).drew)
          have HJ7 : Hid _ := J7
          clear HX J6 J7 HJ HB
          go_wp2
          go_roundw
          case rel => exact ⟨k + 1, by omega, by go_num, ⟨_, HJ7.out, hP2⟩, B5⟩
          case measure => simp [intOf]; omega
      · obtain rfl : k = nn := by omega
        rw [show copN f.1 k = f.1 by rw [← hl]; exact copN_all f.1] at J
        have HJ : Hid _ := J
        clear J
        go_wp2
        go_ret
        exact ⟨_, _, _, _, _, _, rfl, HJ.out, B⟩

end Go.Proofs.Ytikjndmgljkhhaa

/- Chapter 4: what the program answers of nodes that are pointed at. -/
namespace Go.Proofs.Ytikjndmgljkhhaa
open Go.RowKit

theorem BoxAt.kids {w : World} {b : Nat} {nd : Nd} (h : BoxAt w b nd) : RowAt w true b (b + 1) 1 (some ⟨b, 2, none⟩) 4 4 (ints nd.2.2) := by
  have h4 := h.four
  have hlt := h.lt
  obtain ⟨-, -, kc, kf⟩ := h.cell
  refine ⟨by rw [ints_length, h4], Nat.le_refl _, fun _ => ⟨b, 2, rfl, Nat.le_refl _, Nat.lt_succ_self _, hlt, fun i hi => ?_, fun _ i hi => kf (2 + i) (by omega)⟩⟩
  rw [kc i (by omega), ints_getD _ _ (by omega)]
theorem slice_kids (b : Nat) (W : World) : (Instr.sliceAt 221 (.pointer (some ⟨b, 2, none⟩)) none none none).run Try.prog W = .ok (.slice (some ⟨b, 2, none⟩) 4 4) W := by kernel_rfl
def AnsRes (w w' : World) (e : Ending) (base : Nat) (root : Int) (f : Fo) : Prop :=
  ∃ an nn cn ab nb cb K, e = .returned (.agg #[.int .i64 0, .int .i64 root, .slice an nn cn, .slice ab nb cb]) ∧ FoAt w' true base w'.heap.size an nn cn ab nb cb K f ∧ Below w.heap.size w w'
/-- and where it lies -/
def AnsAt (S : Nat → Prop) (w w' : World) (e : Ending) (base : Nat) (root : Int) (f : Fo) : Prop :=
  ∃ an nn cn ab nb cb K, e = .returned (.agg #[.int .i64 0, .int .i64 root, .slice an nn cn, .slice ab nb cb]) ∧ FoAt w' true base w'.heap.size an nn cn ab nb cb K f ∧ Below w.heap.size w w' ∧ (∀ k, inN an nn K k → w.heap.size ≤ k) ∧ (nb ≠ 0 → S (sb ab))
set_option maxRecDepth 20000 in
set_option maxHeartbeats 4000000 in
theorem answer_at {w : World} {S : Nat → Prop} {base g : Nat} {vn : Value} {ab : Option Addr} {nb cb : Nat} {P : Nat → Option Nat} {f : Fo} (I : GAt w S (fun _ => False) base g vn ab nb cb P f) (hn : f.1.length ≤ 60) (hbase : base ≤ w.heap.size) (root : Int) :
    Calls Try.prog 195 #[.pointer (some ⟨g, 0, none⟩), .int .i64 root] w fun e w' => AnsAt S w w' e base root f := by
  obtain ⟨i0, hi0, hz0, hz1, hz2⟩ := info_parts Try.infoNode
  obtain ⟨m, hm⟩ : ∃ m, f.1.length = m := ⟨_, rfl⟩
  obtain ⟨ar, cr, hv, RV⟩ := RowAt.of_owned I.own
  subst hv
  rw [hm] at hn
  have A0 : Below w.heap.size w (w.alloc (.cells #[.int .i64 0, .int .i64 0, .slice none 0 0, .slice none 0 0] 88)) := (Below.refl _ _).alloc (Nat.le_refl _) _
  have c0 := cell_later A0 I.c0
  rw [hm] at c0
  have HI : Hid _ := I
  have HM : Hid _ := hm
  have hgl := I.hg.2
  have z0 : (w.alloc (.cells #[.int .i64 0, .int .i64 0, .slice none 0 0, .slice none 0 0] 88)).cell? ⟨w.heap.size, 0, none⟩ = some (.int .i64 0) := by simp
  have z1 : (w.alloc (.cells #[.int .i64 0, .int .i64 0, .slice none 0 0, .slice none 0 0] 88)).cell? ⟨w.heap.size, 1, none⟩ = some (.int .i64 0) := by simp
  have z2 : (w.alloc (.cells #[.int .i64 0, .int .i64 0, .slice none 0 0, .slice none 0 0] 88)).cell? ⟨w.heap.size, 2, none⟩ = some (.slice none 0 0) := by simp
  have z3 : (w.alloc (.cells #[.int .i64 0, .int .i64 0, .slice none 0 0, .slice none 0 0] 88)).cell? ⟨w.heap.size, 3, none⟩ = some (.slice none 0 0) := by simp
  have y0 : (w.alloc (.cells #[.int .i64 0, .int .i64 0, .slice none 0 0, .slice none 0 0] 88)).frozen? ⟨w.heap.size, 0, none⟩ = false := by simp
  have y1 : (w.alloc (.cells #[.int .i64 0, .int .i64 0, .slice none 0 0, .slice none 0 0] 88)).frozen? ⟨w.heap.size, 1, none⟩ = false := by simp
  have y2 : (w.alloc (.cells #[.int .i64 0, .int .i64 0, .slice none 0 0, .slice none 0 0] 88)).frozen? ⟨w.heap.size, 2, none⟩ = false := by simp
  have y3 : (w.alloc (.cells #[.int .i64 0, .int .i64 0, .slice none 0 0, .slice none 0 0] 88)).frozen? ⟨w.heap.size, 3, none⟩ = false := by simp
  have hz : w.heap.size < (w.alloc (.cells #[.int .i64 0, .int .i64 0, .slice none 0 0, .slice none 0 0] 88)).heap.size := by simp
  have hzz : (w.alloc (.cells #[.int .i64 0, .int .i64 0, .slice none 0 0, .slice none 0 0] 88)).heap.size = w.heap.size + 1 := by simp
  clear I hm RV
  go_enter Try.func195, Try.ntmps195
  go_wp2_with (first | (at_make; refine wpList_make_full _ rfl _ _ 25 rfl (w.heap.size + 1) 148 i0 (.agg #[.int .i64 0, .bool false, .slice none 0 0]) 3 Try.underlying25 hi0 hz0 hz1 _ _ _ _ m rfl rfl rfl rfl ?b1 ?b2 ?b3 ?_))
  case b1 => rw [hz2]; omega
  case b2 => unfold maxLen; omega
  case b3 => omega
  intro w1 hown hgrow
  generalize hW : w.alloc (.cells #[.int .i64 0, .int .i64 0, .slice none 0 0, .slice none 0 0] 88) = W at *
  have B1 : Below (w.heap.size + 1) W w1 := (Below.refl _ _).grown hgrow (by omega) (fun k hk => by cases hk)
  have R0 : NodesAt w1 true (w.heap.size + 1) w1.heap.size (some ⟨w.heap.size + 1, 0, none⟩) m m (fun _ => (none, 0, 0)) (copN f.1 0) := by
    refine ⟨by rw [copN_len _ _ (Nat.zero_le _), HM.out], ?_, fun i hi => ?_, fun _ i hi hne => absurd rfl hne⟩
    · rw [copN_zero, HM.out, ← made_nodes]; exact RowAt.of_owns hown (Nat.le_refl _)
    · rw [copN_get _ _ _ (Nat.zero_le _)]; exact RowAt.nil _ _ _ _ _
  have hg1 : w.heap.size + 1 < w1.heap.size := (owns_lt hown).2
  replace c0 := (B1.cell (p := ⟨g, 0, none⟩) (by show g < _; omega)).trans c0
  clear hown hgrow hW hzz
  go_wp2
  go_loopw [19] (fun i wr => ∃ k : Nat, k ≤ m ∧ i = .int .i64 k ∧ (∃ K', NodesAt wr true (w.heap.size + 1) wr.heap.size (some ⟨w.heap.size + 1, 0, none⟩) m m K' (copN f.1 k) ∧ ∀ j, k ≤ j → K' j = (none, 0, 0)) ∧ Below (w.heap.size + 1) W wr ∧ w.heap.size + 1 < wr.heap.size) (fun i _ => m - (intOf i).toNat)
  case atStart => exact ⟨0, Nat.zero_le _, rfl, ⟨_, R0, fun _ _ => rfl⟩, B1, hg1⟩
  case round =>
    obtain ⟨k, hk, rfl, ⟨K', R, hK'⟩, B, hgs⟩ := hrel
    clear R0 B1 hg1 c0
    have BW : Below w.heap.size w wr := below_up A0 B
    by_cases hlt : k < m
    · have hkf : k < f.1.length := by rw [HM.out]; exact hlt
      have hlk : (k : Int) < (m : Int) := by omega
      have J := HI.out.below BW
      obtain ⟨r, cap, e', hrr, -, -, q0, -⟩ := J.ptr hkf
      have er := (Value.slice.inj e').1
      subst er
      clear e'
      have hset := copN_set f.1 k hkf
      have hskip := copN_skip f.1 k hkf
      cases hp : P k with
      | none =>
        rw [hp] at q0
        simp only [ptrV] at q0
        have HS : Hid _ := hskip (HI.out.no k hkf (fun x => x) hp)
        have HR : Hid _ := R
        clear hset hskip R J hp
        go_wp2
        go_roundw
        case rel => exact ⟨k + 1, by omega, by go_num, ⟨K', by rw [HS.out]; exact HR.out, fun j hj => hK' j (by omega)⟩, B, hgs⟩
        case measure => simp [intOf]; omega
      | some b =>
        rw [hp] at q0
        simp only [ptrV] at q0
        obtain ⟨BX, -⟩ := J.yes k hkf (fun x => x) b hp
        obtain ⟨BX0, -⟩ := HI.out.yes k hkf (fun x => x) b hp
        have hbw := BX0.lt
        have hk4 := BX.four
        have RK := BX.kids
        obtain ⟨d0, d1, -, -⟩ := BX.cell
        obtain ⟨_, _, e', _, _, _, c0, c1, c2, ff⟩ := R.node hlt
        cases e'
        obtain ⟨f0, f1, f2⟩ := ff rfl
        rw [copN_get _ _ _ (Nat.le_refl _)] at c0 c1
        rw [hK' k (Nat.le_refl _)] at c2
        obtain ⟨⟨q, lf, ks⟩, hnd⟩ : ∃ nd, f.1.getD k nd0 = nd := ⟨_, rfl⟩
        rw [hnd] at d0 d1 RK hset hk4
        simp only [nd0] at c0 c1 c2
        simp only at d0 d1 RK hk4
        rw [Nat.zero_add] at c0 c1 c2 f0 f1 f2
        have hsl := slice_kids b
        have HR : Hid _ := R
        have HS : Hid _ := hset
        have db : b ≠ w.heap.size + 1 := by omega
        have CS : ∀ (X : World) (u v : Value) (o o' : Nat), X.cell? ⟨b, o, none⟩ = some v → (X.setCell ⟨w.heap.size + 1, o', none⟩ u).cell? ⟨b, o, none⟩ = some v := fun X u v o o' h => by rw [World.cell?_setCell_other _ _ _ _ (by intro e; exact db (congrArg Addr.block e).symm)]; exact h
        have RKd := RK.below ((Below.refl wr.heap.size wr).drew)
        clear hset hskip R J BX BX0 hnd hp
        go_wp2_with fail
        go_region_held3 (fun w' => w'.cell? ⟨b, 0, none⟩ = some (.int .i64 q) ∧ w'.cell? ⟨b, 1, none⟩ = some (.bool lf)) (first | exact ⟨d0, d1⟩ | exact ⟨e0, e1⟩ | exact ⟨CS _ _ _ _ _ (CS _ _ _ _ _ (CS _ _ _ _ _ e0)), CS _ _ _ _ _ (CS _ _ _ _ _ (CS _ _ _ _ _ e1))⟩) (first | (go_at_call 81; (with_reducible refine (cloneK_is ⟨b, 2, none⟩ 4 4 ks wr.drew RKd (by decide)).mono ?_); rintro e w3 ⟨ra, rc, rfl, RR, hb3⟩; have BB : Below wr.heap.size wr w3 := drew_next hb3; have e0 := cell_later BB d0; have e1 := cell_later BB d1; replace c0 := cell_later BB c0; replace c1 := cell_later BB c1; replace c2 := cell_later BB c2; replace f0 := frozen_later BB hgs f0; replace f1 := frozen_later BB hgs f1; replace f2 := frozen_later BB hgs f2))
        have RP := ((HR.out.below BB).widen (Nat.le_refl _) BB.size).put hlt (q, lf, ks) (ra, 4, rc) (RR.widen (by show w.heap.size + 1 ≤ wr.heap.size; omega) (Nat.le_refl _)) (fun hne => ⟨by
          have h2 : wr.heap.size ≤ sb ra := (RR.block_lt hne).1
          show sb ra ≠ _
          omega, fun j hj hjk hjn => by
          have h1 := ((HR.out.kids j hj).block_lt hjn).2.2
          have h2 : wr.heap.size ≤ sb ra := (RR.block_lt hne).1
          show sb (K' j).1 ≠ sb ra
          omega⟩)
        rw [HS.out] at RP
        rw [Nat.zero_add] at RP
        simp only [ksv] at RP
        have B3 : Below (w.heap.size + 1) W (((w3.setCell ⟨w.heap.size + 1, k * 3, none⟩ (.int .i64 q)).setCell ⟨w.heap.size + 1, k * 3 + 1, none⟩ (.bool lf)).setCell ⟨w.heap.size + 1, k * 3 + 2, none⟩ (.slice ra 4 rc)) := by
          refine Below.setCell (Below.setCell (Below.setCell (B.trans (BB.mono (by omega))) ?_ _) ?_ _) ?_ _ <;> simp
        have hgs3 : w.heap.size + 1 < w3.heap.size := Nat.lt_of_lt_of_le hgs BB.size
        have HRP : Hid _ := RP
        clear RP HR HS RR hb3 BB c0 c1 c2 f0 f1 f2 e0 e1 d0 d1 RK RKd
        go_wp2
        go_roundw
        case rel => exact ⟨k + 1, by omega, by go_num, ⟨_, by simpa using HRP.out, fun j hj => by simp only [updK]; rw [if_neg (by omega)]; exact hK' j (by omega)⟩, B3, by simpa using hgs3⟩
        case measure => simp [intOf]; omega
    · obtain rfl : k = m := by omega
      rw [← HM.out, copN_all, HM.out] at R
      have J := HI.out.below BW
      have C1 := J.c1
      have p0 := (B.cell (p := ⟨w.heap.size, 0, none⟩) (by simp)).trans z0
      have p1 := (B.cell (p := ⟨w.heap.size, 1, none⟩) (by simp)).trans z1
      have p2 := (B.cell (p := ⟨w.heap.size, 2, none⟩) (by simp)).trans z2
      have p3 := (B.cell (p := ⟨w.heap.size, 3, none⟩) (by simp)).trans z3
      have x0 := (B.frozen (p := ⟨w.heap.size, 0, none⟩) (by simp)).trans y0
      have x1 := (B.frozen (p := ⟨w.heap.size, 1, none⟩) (by simp)).trans y1
      have x2 := (B.frozen (p := ⟨w.heap.size, 2, none⟩) (by simp)).trans y2
      have x3 := (B.frozen (p := ⟨w.heap.size, 3, none⟩) (by simp)).trans y3
      have HR : Hid _ := R
      have HJ : Hid _ := J
      clear R J
      go_wp2
      refine bodyPost_ret (v := .agg #[.int .i64 0, .int .i64 root, .slice (some ⟨w.heap.size + 1, 0, none⟩) k k, .slice ab nb cb]) (by simp [results, Try.results195, go_sem, p0, p1, p2, p3]) rfl ⟨_, _, _, _, _, _, K', rfl, ⟨?_, ?_, fun _ hne hin => ?_⟩, ?_, fun x hx => by have := (HR.out.within hx).1; omega, fun hne => (HI.out.blkS hne).1⟩
      · refine NodesAt.widen (NodesAt.kept HR.out (l := w.heap.size) (u := w.heap.size + 1) ?_ (by omega)) (by omega) ?_
        · refine Kept.setCell (Kept.setCell (Kept.setCell (Kept.setCell (Kept.refl _ _ _) ?_ ?_ _) ?_ ?_ _) ?_ ?_ _) ?_ ?_ _ <;> simp
        · simp
      · have hsb : nb ≠ 0 → sb ab < w.heap.size := fun hne => (HI.out.blk.block_lt hne).2.2
        refine RowAt.widen (RowAt.keptS HJ.out.blk (S := fun x => x = w.heap.size) ?_ ?_) (Nat.le_refl _) (by simp)
        · refine KeptS.setCell (KeptS.setCell (KeptS.setCell (KeptS.setCell (KeptS.refl _ _) ?_ _) ?_ _) ?_ _) ?_ _ <;> rfl
        · intro a hne e
          have := hsb hne
          rw [e] at this
          simp [sb] at this
          omega
      · have h1 := (HI.out.blk.block_lt hne).2.2
        have h2 := (HR.out.within hin).1
        omega
      · refine Below.setCell (Below.setCell (Below.setCell (Below.setCell BW ?_ _) ?_ _) ?_ _) ?_ _ <;> simp

theorem answer_is {w : World} {S : Nat → Prop} {base g : Nat} {vn : Value} {ab : Option Addr} {nb cb : Nat} {P : Nat → Option Nat} {f : Fo} (I : GAt w S (fun _ => False) base g vn ab nb cb P f) (hn : f.1.length ≤ 60) (hbase : base ≤ w.heap.size) (root : Int) :
    Calls Try.prog 195 #[.pointer (some ⟨g, 0, none⟩), .int .i64 root] w fun e w' => AnsRes w w' e base root f :=
  (answer_at I hn hbase root).mono fun _ _ ⟨an, nn, cn, ab, nb, cb, K, h1, h2, h3, _⟩ => ⟨an, nn, cn, ab, nb, cb, K, h1, h2, h3⟩

end Go.Proofs.Ytikjndmgljkhhaa
