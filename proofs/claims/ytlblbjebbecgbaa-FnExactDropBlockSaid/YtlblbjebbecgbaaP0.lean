/- Chapter 3: blocks: plain facts of what their functions answer. -/
import Derived.Test.YtlblbjebbecgbaaBase
namespace Go.Proofs.Ytlblbjebbecgbaa
open Go.RowKit

def refsB (x : Int) : Bool := decide (0 ≤ x ∧ x ≤ 200)
def dataB (x : Int) : Bool := decide (0 ≤ x ∧ x ≤ 255)
def blkOne (p : Int × Int) : Int := if refsB p.1 && dataB p.2 then (if p.1 = 0 ∧ p.2 ≠ 0 then 1 else 0) else 3
def blkGo : List (Int × Int) → Int
  | [] => 0
  | p :: r => if blkOne p = 0 then blkGo r else blkOne p
def blkFault (bs : List (Int × Int)) : Int := if 24 < bs.length then 2 else blkGo bs
theorem blkGo_zero (bs : List (Int × Int)) (h : ∀ j, j < bs.length → blkOne (bs.getD j (0, 0)) = 0) : blkGo bs = 0 := by
  induction bs with
  | nil => rfl
  | cons p r ih =>
    have h0 : blkOne p = 0 := h 0 (by simp)
    rw [blkGo, if_pos h0]
    exact ih fun j hj => by simpa using h (j + 1) (by simpa using hj)
theorem blkGo_first (bs : List (Int × Int)) : ∀ (k : Nat), k < bs.length → (∀ j, j < k → blkOne (bs.getD j (0, 0)) = 0) → blkOne (bs.getD k (0, 0)) ≠ 0 → blkGo bs = blkOne (bs.getD k (0, 0)) := by
  induction bs with
  | nil => intro k hk; simp at hk
  | cons p r ih =>
    intro k hk h hn
    cases k with
    | zero => rw [blkGo, if_neg (by simpa using hn)]; rfl
    | succ k =>
      have h0 : blkOne p = 0 := h 0 (by omega)
      rw [blkGo, if_pos h0]
      exact ih k (by simpa using hk) (fun j hj => by simpa using h (j + 1) (by omega)) (by simpa using hn)
theorem blkGo_all {bs : List (Int × Int)} (h : blkGo bs = 0) : ∀ p ∈ bs, blkOne p = 0 := by
  induction bs with
  | nil => intro p hp; cases hp
  | cons q r ih =>
    intro p hp
    rw [blkGo] at h
    by_cases h0 : blkOne q = 0
    · rw [if_pos h0] at h
      rcases List.mem_cons.1 hp with rfl | hp
      · exact h0
      · exact ih h p hp
    · rw [if_neg h0] at h; exact absurd h h0
theorem blkGo_of {bs : List (Int × Int)} (h : ∀ p ∈ bs, blkOne p = 0) : blkGo bs = 0 :=
  blkGo_zero bs fun j hj => h _ (by rw [List.getD_eq_getElem?_getD, List.getElem?_eq_getElem hj]; exact List.getElem_mem hj)
theorem blkOne_zero {p : Int × Int} (h : blkOne p = 0) : 0 ≤ p.1 ∧ p.1 ≤ 200 ∧ 0 ≤ p.2 ∧ p.2 ≤ 255 ∧ (p.1 = 0 → p.2 = 0) := by
  unfold blkOne refsB dataB at h
  split at h
  · rename_i h1
    simp at h1
    split at h
    · exact absurd h (by decide)
    · rename_i h2
      exact ⟨h1.1.1, h1.1.2, h1.2.1, h1.2.2, fun e => Decidable.byContradiction fun e' => h2 ⟨e, e'⟩⟩
  · exact absurd h (by decide)
theorem blkOne_of {p : Int × Int} (h1 : 0 ≤ p.1) (h2 : p.1 ≤ 200) (h3 : 0 ≤ p.2) (h4 : p.2 ≤ 255) (h5 : p.1 = 0 → p.2 = 0) : blkOne p = 0 := by
  unfold blkOne refsB dataB
  rw [if_pos (by simp; exact ⟨⟨h1, h2⟩, h3, h4⟩), if_neg (fun h => h.2 (h5 h.1))]
theorem blkFault_zero {bs : List (Int × Int)} (h : blkFault bs = 0) : bs.length ≤ 24 ∧ blkGo bs = 0 := by
  unfold blkFault at h
  split at h
  · exact absurd h (by decide)
  · exact ⟨by omega, h⟩

/-- the first block that nobody refers to -/
def freeAt : List (Int × Int) → Option Nat
  | [] => none
  | p :: r => if p.1 = 0 then some 0 else (freeAt r).map (· + 1)
theorem freeAt_none (bs : List (Int × Int)) (h : ∀ j, j < bs.length → (bs.getD j (0, 0)).1 ≠ 0) : freeAt bs = none := by
  induction bs with
  | nil => rfl
  | cons p r ih =>
    have h0 : p.1 ≠ 0 := h 0 (by simp)
    rw [freeAt, if_neg h0, ih fun j hj => by simpa using h (j + 1) (by simpa using hj)]; rfl
theorem freeAt_some (bs : List (Int × Int)) : ∀ (k : Nat), k < bs.length → (∀ j, j < k → (bs.getD j (0, 0)).1 ≠ 0) → (bs.getD k (0, 0)).1 = 0 → freeAt bs = some k := by
  induction bs with
  | nil => intro k hk; simp at hk
  | cons p r ih =>
    intro k hk h hn
    cases k with
    | zero => rw [freeAt, if_pos (by simpa using hn)]
    | succ k =>
      have h0 : p.1 ≠ 0 := h 0 (by omega)
      rw [freeAt, if_neg h0, ih k (by simpa using hk) (fun j hj => by simpa using h (j + 1) (by omega)) (by simpa using hn)]; rfl
theorem freeAt_is {bs : List (Int × Int)} : ∀ {k : Nat}, freeAt bs = some k → k < bs.length ∧ (bs.getD k (0, 0)).1 = 0 := by
  induction bs with
  | nil => intro k h; cases h
  | cons p r ih =>
    intro k h
    rw [freeAt] at h
    by_cases h0 : p.1 = 0
    · rw [if_pos h0] at h; cases h; exact ⟨by simp, by simpa using h0⟩
    · rw [if_neg h0] at h
      cases hf : freeAt r with
      | none => rw [hf] at h; cases h
      | some j =>
        rw [hf] at h
        cases h
        obtain ⟨h1, h2⟩ := ih hf
        exact ⟨by simpa using h1, by simpa using h2⟩
def freeN (bs : List (Int × Int)) : Nat := (bs.filter fun p => decide (p.1 = 0)).length
theorem freeN_snoc (bs : List (Int × Int)) (k : Nat) (h : k < bs.length) : freeN (bs.take (k + 1)) = freeN (bs.take k) + (if (bs.getD k (0, 0)).1 = 0 then 1 else 0) := by
  unfold freeN
  rw [List.take_add_one, List.getElem?_eq_getElem h, List.filter_append, List.length_append]
  simp only [Option.toList, List.getD_eq_getElem?_getD, List.getElem?_eq_getElem h, Option.getD_some]
  by_cases h0 : (bs[k]).1 = 0 <;> simp [h0]
theorem freeN_le (bs : List (Int × Int)) : freeN bs ≤ bs.length := List.length_filter_le _ _
theorem freeN_set (bs : List (Int × Int)) : ∀ (k : Nat) (p : Int × Int), k < bs.length → freeN (bs.set k p) + (if (bs.getD k (0, 0)).1 = 0 then 1 else 0) = freeN bs + (if p.1 = 0 then 1 else 0) := by
  induction bs with
  | nil => intro k p h; simp at h
  | cons q r ih =>
    intro k p h
    cases k with
    | zero =>
      simp only [List.set_cons_zero, freeN, List.filter_cons, List.getD_cons_zero]
      by_cases h1 : p.1 = 0 <;> by_cases h2 : q.1 = 0 <;> simp [h1, h2] <;> omega
    | succ k =>
      have := ih k p (by simpa using h)
      simp only [List.set_cons_succ, freeN, List.filter_cons, List.getD_cons_succ] at this ⊢
      by_cases h2 : q.1 = 0 <;> simp [h2] at this ⊢ <;> omega

def takeCode (bs : List (Int × Int)) (x : Int) : Int := if blkFault bs = 0 then (if dataB x then (if freeAt bs = none then 8 else 0) else 3) else blkFault bs
def takeAt (bs : List (Int × Int)) (x : Int) : Nat := if takeCode bs x = 0 then (freeAt bs).getD 0 else 0
def takeList (bs : List (Int × Int)) (x : Int) : List (Int × Int) := if takeCode bs x = 0 then bs.set ((freeAt bs).getD 0) (1, x) else []
def askCode (bs : List (Int × Int)) (at' : Int) : Int := if blkFault bs = 0 then (if 0 ≤ at' ∧ at' ≤ (bs.length : Int) - 1 then (if (bs.getD at'.toNat (0, 0)).1 = 0 then 4 else 0) else 3) else blkFault bs
def shareCode (bs : List (Int × Int)) (at' : Int) : Int := if askCode bs at' = 0 then (if 200 ≤ (bs.getD at'.toNat (0, 0)).1 then 2 else 0) else askCode bs at'
def more1 (p : Int × Int) : Int × Int := (p.1 + 1, p.2)
def less1 (p : Int × Int) : Int × Int := (p.1 - 1, if p.1 - 1 = 0 then 0 else p.2)
def atIf (c : Int) (at' : Int) : Int := if c = 0 then at' else 0
def shareList (bs : List (Int × Int)) (at' : Int) : List (Int × Int) := if shareCode bs at' = 0 then bs.set at'.toNat (more1 (bs.getD at'.toNat (0, 0))) else []
def dropList (bs : List (Int × Int)) (at' : Int) : List (Int × Int) := if askCode bs at' = 0 then bs.set at'.toNat (less1 (bs.getD at'.toNat (0, 0))) else []
def newBCode (n : Int) : Int := if 0 ≤ n ∧ n ≤ 24 then 0 else 3
def newBList (n : Int) : List (Int × Int) := if newBCode n = 0 then List.replicate n.toNat (0, 0) else []
def freeCode (bs : List (Int × Int)) : Int := blkFault bs
def freeVal (bs : List (Int × Int)) : Int := if blkFault bs = 0 then (freeN bs : Int) else 0

/-- an answer with blocks -/
def BlkRes (w w' : World) (e : Ending) (code : Int) (at' : Int) (bs : List (Int × Int)) : Prop :=
  ∃ a n c, e = .returned (.agg #[.int .i64 code, .int .i64 at', .slice a n c]) ∧ RowAt w' true w.heap.size w'.heap.size 2 a n c (pairs bs) ∧ Below w.heap.size w w'

end Go.Proofs.Ytlblbjebbecgbaa
