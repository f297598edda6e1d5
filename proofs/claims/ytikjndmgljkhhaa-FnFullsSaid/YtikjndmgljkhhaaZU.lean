/- Chapter 4: what the model's small functions on forests answer. -/
import Derived.Test.YtikjndmgljkhhaaZM
import Derived.Test.YtikjndmgljkhhaaZT
import Derived.Test.YtikjndmgljkhhaaP2
import Derived.BigQuiet
import Derived.Test.YtikjndmgljkhhaaP4
import Derived.Test.YtikjndmgljkhhaaQ0
namespace Go.Proofs.Ytikjndmgljkhhaa
open Go.RowKit

section
variable {o : Bool} {l u : Nat} (p : Nat) (an : Option Addr) (nn cn : Nat) (ab : Option Addr) (nb cb : Nat) (K : Nat → KS) (f : Fo) (w : World) (h : FoAt w o l u an nn cn ab nb cb K f) (hp0 : w.cell? ⟨p, 0, none⟩ = some (.slice an nn cn)) (hp1 : w.cell? ⟨p, 1, none⟩ = some (.slice ab nb cb)) (hn : nn ≤ 2097152) (hb : nb ≤ 2097152)
include h hp0 hp1 hn hb

end

end Go.Proofs.Ytikjndmgljkhhaa

/- Chapter 4: what the model asks of a node, and how often a place is named. -/
namespace Go.Proofs.Ytikjndmgljkhhaa
open Go.RowKit

theorem kids_bad {f : Fo} {lf : Bool} {ks : List Int} {k : Nat} (h : k < ks.length) (hk : kidOk f lf (ks.getD k 0) = false) : kidsOk f lf ks = false := by
  unfold kidsOk
  have : ks.all (kidOk f lf) = false := by
    rw [Bool.eq_false_iff]
    intro hc
    rw [List.all_eq_true] at hc
    have := hc (ks.getD k 0) (by rw [List.getD_eq_getElem?_getD, List.getElem?_eq_getElem h]; exact List.getElem_mem h)
    rw [hk] at this; cases this
  rw [this]; rfl
theorem kids_all {f : Fo} {lf : Bool} {ks : List Int} (h : ∀ j, j < ks.length → kidOk f lf (ks.getD j 0) = true) : kidsOk f lf ks = ks.any fun k => decide (0 ≤ k) := by
  unfold kidsOk
  have : ks.all (kidOk f lf) = true := by
    rw [List.all_eq_true]
    intro x hx
    obtain ⟨j, hj, rfl⟩ := List.mem_iff_getElem.1 hx
    have := h j hj
    simpa [List.getD, hj] using this
  rw [this]; rfl

section
variable {o : Bool} {l u : Nat} (p : Nat) (an : Option Addr) (nn cn : Nat) (ab : Option Addr) (nb cb : Nat) (K : Nat → KS) (f : Fo) (w : World) (h : FoAt w o l u an nn cn ab nb cb K f) (hp0 : w.cell? ⟨p, 0, none⟩ = some (.slice an nn cn)) (hp1 : w.cell? ⟨p, 1, none⟩ = some (.slice ab nb cb)) (hn : nn ≤ 2097152) (hb : nb ≤ 2097152)
include h hp0 hp1 hn hb

end

end Go.Proofs.Ytikjndmgljkhhaa

/- Chapter 4: how often nodes name a place: what the model counts. -/
namespace Go.Proofs.Ytikjndmgljkhhaa
open Go.RowKit

theorem namedIn_take (ns : List Nd) (i : Nat) (l : Bool) (k : Int) (h : i < ns.length) : namedIn (ns.take (i + 1)) l k = namedIn (ns.take i) l k + namesOf (ns.getD i nd0) l k := by
  rw [List.take_add_one, List.getElem?_eq_getElem h]
  simp only [Option.toList, namedIn_append]
  simp [List.getD, h]
theorem count_take (ks : List Int) (k : Nat) (x : Int) (h : k < ks.length) : (ks.take (k + 1)).count x = (ks.take k).count x + if ks.getD k 0 = x then 1 else 0 := by
  rw [List.take_add_one, List.getElem?_eq_getElem h, List.count_append]
  simp [List.getD, h, List.count_cons]
theorem namesOf_le {nd : Nd} (l : Bool) (k : Int) (h : nd.1 ≠ 0 → nd.2.2.length = 4) : namesOf nd l k ≤ 4 := by
  unfold namesOf
  by_cases hc : nd.1 = 0 ∨ nd.2.1 ≠ l
  · rw [if_pos hc]; omega
  · rw [if_neg hc]
    have := h (fun e => hc (Or.inl e))
    have := List.count_le_length (a := k) (l := nd.2.2)
    omega
theorem namedIn_le {ns : List Nd} (l : Bool) (k : Int) (h : ∀ i, i < ns.length → (ns.getD i nd0).1 ≠ 0 → (ns.getD i nd0).2.2.length = 4) : ∀ i, i ≤ ns.length → namedIn (ns.take i) l k ≤ 4 * i := by
  intro i
  induction i with
  | zero => intro _; simp [namedIn]
  | succ i ih =>
    intro hi
    rw [namedIn_take _ _ _ _ (by omega)]
    have := ih (by omega)
    have := namesOf_le (nd := ns.getD i nd0) l k (h i (by omega))
    omega

section
variable {o : Bool} {l u : Nat} (p : Nat) (an : Option Addr) (nn cn : Nat) (ab : Option Addr) (nb cb : Nat) (K : Nat → KS) (f : Fo) (w : World) (h : FoAt w o l u an nn cn ab nb cb K f) (hp0 : w.cell? ⟨p, 0, none⟩ = some (.slice an nn cn)) (hn : nn ≤ 60)
include h hp0 hn

end

end Go.Proofs.Ytikjndmgljkhhaa

/- Chapter 4: the model's fault of a forest. -/
namespace Go.Proofs.Ytikjndmgljkhhaa
open Go.RowKit

theorem fair_all {f : Fo} (h1 : ∀ j, j < f.2.length → blockFair f j = true) (h2 : ∀ j, j < f.1.length → leafFair f j = true) : fair f = true := by
  unfold fair
  rw [Bool.and_eq_true, List.all_eq_true, List.all_eq_true]
  exact ⟨fun j hj => h1 j (List.mem_range.1 hj), fun j hj => h2 j (List.mem_range.1 hj)⟩
theorem fair_blk {f : Fo} {j : Nat} (hj : j < f.2.length) (h : blockFair f j = false) : fair f = false := by
  rw [Bool.eq_false_iff]
  intro hc
  unfold fair at hc
  rw [Bool.and_eq_true, List.all_eq_true] at hc
  have := hc.1 j (List.mem_range.2 hj)
  rw [h] at this; cases this
theorem fair_leaf {f : Fo} {j : Nat} (hj : j < f.1.length) (h : leafFair f j = false) : fair f = false := by
  rw [Bool.eq_false_iff]
  intro hc
  unfold fair at hc
  rw [Bool.and_eq_true, List.all_eq_true, List.all_eq_true] at hc
  have := hc.2 j (List.mem_range.2 hj)
  rw [h] at this; cases this
theorem kids_four {f : Fo} (h : ∀ j, j < f.1.length → ndOne f (f.1.getD j nd0) = 0) : ∀ i, i < f.1.length → (f.1.getD i nd0).1 ≠ 0 → (f.1.getD i nd0).2.2.length = 4 := fun i hi h0 => ((ndOne_iff _ _).1 (h i hi)).kl h0

section
variable {o : Bool} {l u : Nat} (p : Nat) (an : Option Addr) (nn cn : Nat) (ab : Option Addr) (nb cb : Nat) (K : Nat → KS) (f : Fo) (w : World) (h : FoAt w o l u an nn cn ab nb cb K f) (hp0 : w.cell? ⟨p, 0, none⟩ = some (.slice an nn cn)) (hp1 : w.cell? ⟨p, 1, none⟩ = some (.slice ab nb cb)) (hn : nn ≤ 2097152) (hb : nb ≤ 2097152) (hK : ∀ i, i < nn → (K i).2.1 ≤ 2097152)
include h hp0 hp1 hn hb hK

end

end Go.Proofs.Ytikjndmgljkhhaa

/- Chapter 4: what the model looks up in a tree. -/
namespace Go.Proofs.Ytikjndmgljkhhaa
open Go.RowKit

/-- a root that is none, or a node with four kids -/
def RootAt (f : Fo) (root : Int) : Prop := 0 ≤ root → root.toNat < f.1.length ∧ (nodeOf f root.toNat).2.2.length = 4
section
variable {o : Bool} {l u : Nat} (p : Nat) (an : Option Addr) (nn cn : Nat) (ab : Option Addr) (nb cb : Nat) (K : Nat → KS) (f : Fo) (w : World) (h : FoAt w o l u an nn cn ab nb cb K f) (hp0 : w.cell? ⟨p, 0, none⟩ = some (.slice an nn cn)) (hn : nn ≤ 2097152)
include h hp0 hn

end

section
variable {o : Bool} {l u : Nat} (p : Nat) (an : Option Addr) (nn cn : Nat) (ab : Option Addr) (nb cb : Nat) (K : Nat → KS) (f : Fo) (w : World) (h : FoAt w o l u an nn cn ab nb cb K f) (hp0 : w.cell? ⟨p, 0, none⟩ = some (.slice an nn cn)) (hp1 : w.cell? ⟨p, 1, none⟩ = some (.slice ab nb cb)) (hn : nn ≤ 2097152) (hb : nb ≤ 2097152) (hK : ∀ i, i < nn → (K i).2.1 ≤ 2097152)
include h hp0 hp1 hn hb hK

end

end Go.Proofs.Ytikjndmgljkhhaa

/- Chapter 4: what the model answers of a tree: its fault, what is looked up, what it has. -/
namespace Go.Proofs.Ytikjndmgljkhhaa
open Go.RowKit

theorem rootAt_of {f : Fo} (hI : Inv f) {root : Int} (h : RootIs f root) : RootAt f root := fun h0 => by
  obtain ⟨_, h1, _⟩ := h.resolve_left (by omega)
  exact ⟨live_lt h1, (hI.nd _).kl h1⟩
theorem leafRoot_of {f : Fo} (hI : Inv f) {root x : Int} (h : RootIs f root) (h0 : 0 ≤ x) (h1 : x ≤ 15) : RootAt f (leafAt f root x) := fun hp => by
  obtain ⟨_, e2, _⟩ := (leaf_cases hI h h0 h1).resolve_left (by omega)
  exact ⟨live_lt e2, (hI.nd _).kl e2⟩

section
variable {o : Bool} {l u : Nat} (an : Option Addr) (nn cn : Nat) (ab : Option Addr) (nb cb : Nat) (K : Nat → KS) (f : Fo) (w : World) (h : FoAt w o l u an nn cn ab nb cb K f) (hn : nn ≤ 2097152) (hb : nb ≤ 2097152) (hK : ∀ i, i < nn → (K i).2.1 ≤ 2097152)
include h hn hb hK

end

end Go.Proofs.Ytikjndmgljkhhaa

/- Chapter 4: what the model tells of a tree's places; new forests. -/
namespace Go.Proofs.Ytikjndmgljkhhaa
open Go.RowKit

section
variable {o : Bool} {l u : Nat} (p : Nat) (an : Option Addr) (nn cn : Nat) (ab : Option Addr) (nb cb : Nat) (K : Nat → KS) (f : Fo) (w : World) (h : FoAt w o l u an nn cn ab nb cb K f) (hp0 : w.cell? ⟨p, 0, none⟩ = some (.slice an nn cn)) (hp1 : w.cell? ⟨p, 1, none⟩ = some (.slice ab nb cb)) (hn : nn ≤ 2097152)
include h hp0 hp1 hn

end

end Go.Proofs.Ytikjndmgljkhhaa

/- Chapter 4: what the model answers: walks, new forests. -/
namespace Go.Proofs.Ytikjndmgljkhhaa
open Go.RowKit

theorem RowAt.weak {w : World} {own : Bool} {lo hi size : Nat} {ao : Option Addr} {n cap : Nat} {cs : List Value} (h : RowAt w own lo hi size ao n cap cs) : RowAt w false lo hi size ao n cap cs := by
  refine ⟨h.len, h.le, fun hn => ?_⟩
  obtain ⟨b, off, e, h1, h2, h3, h4, _⟩ := h.cells hn
  exact ⟨b, off, e, h1, h2, h3, h4, fun hx => by cases hx⟩
/-- an answer with a forest -/
def FoRes (own : Bool) (w w' : World) (e : Ending) (code root : Int) (f : Fo) : Prop :=
  ∃ an nn cn ab nb cb K, e = .returned (.agg #[.int .i64 code, .int .i64 root, .slice an nn cn, .slice ab nb cb]) ∧ FoAt w' own w.heap.size w'.heap.size an nn cn ab nb cb K f ∧ Below w.heap.size w w'
theorem FoAt.nil (w : World) (own : Bool) (lo hi : Nat) : FoAt w own lo hi none 0 0 none 0 0 (fun _ => (none, 0, 0)) ([], []) :=
  ⟨⟨rfl, RowAt.nil _ _ _ _ _, fun i hi => absurd hi (by omega), fun _ i hi => absurd hi (by omega)⟩, RowAt.nil _ _ _ _ _, fun _ h => absurd rfl h⟩
section
variable {o : Bool} {l u : Nat} (an : Option Addr) (nn cn : Nat) (ab : Option Addr) (nb cb : Nat) (K : Nat → KS) (f : Fo) (w : World) (h : FoAt w o l u an nn cn ab nb cb K f) (hn : nn ≤ 2097152) (hb : nb ≤ 2097152) (hK : ∀ i, i < nn → (K i).2.1 ≤ 2097152)
include h hn hb hK

end

end Go.Proofs.Ytikjndmgljkhhaa
