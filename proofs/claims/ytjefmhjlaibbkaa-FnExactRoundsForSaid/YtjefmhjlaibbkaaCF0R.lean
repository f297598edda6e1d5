/- Chapter 11: the fault of a cluster in plain words. No program is named here. -/
import Derived.Test.YtjefmhjlaibbkaaZCR
import Derived.Test.YtjefmhjlaibbkaaWHR
import Derived.Test.YtjefmhjlaibbkaaQAIR
set_option maxRecDepth 20000
set_option maxHeartbeats 16000000
namespace Go.Proofs.Ytjefmhjlaibbkaa
open Go.RowKit
def fstF (f : Nat → Int) : Nat → Int
 | 0 => 0
 | k + 1 => if fstF f k = 0 then f k else fstF f k
theorem fstF_le (f : Nat → Int) {k c : Nat} (hc : fstF f k ≠ 0) (n : Nat) (hn : n = k + c) : fstF f n = fstF f k := by
 induction c generalizing n with
 | zero => rw [hn]; rfl
 | succ c ih =>
  have e := ih (k + c) rfl
  rw [hn]
  show (if fstF f (k + c) = 0 then f (k + c) else fstF f (k + c)) = _
  rw [e, if_neg hc]
theorem fstF_stop {f : Nat → Int} {k n : Nat} {d c : Int} (hd : fstF f n = d) (h0 : fstF f k = 0) (hk : k < n) (hc : f k = c) (h1 : c ≠ 0) : d = c := by
 have e : fstF f (k + 1) = c := by show (if fstF f k = 0 then f k else fstF f k) = c; rw [if_pos h0, hc]
 rw [← hd, fstF_le f (k := k + 1) (c := n - (k + 1)) (by rw [e]; exact h1) n (by omega), e]
theorem fstF_next {f : Nat → Int} {k : Nat} (h0 : fstF f k = 0) (hc : f k = 0) : fstF f (k + 1) = 0 := by show (if fstF f k = 0 then f k else fstF f k) = 0; rw [if_pos h0, hc]
theorem fstF_all {f : Nat → Int} {n : Nat} (h : fstF f n = 0) : ∀ i, i < n → f i = 0 := by
 induction n with
 | zero => intro i hi; omega
 | succ n ih =>
  have h' : (if fstF f n = 0 then f n else fstF f n) = 0 := h
  by_cases e : fstF f n = 0
  ·rw [if_pos e] at h'
   intro i hi
   rcases Nat.lt_succ_iff_lt_or_eq.1 hi with q | q
   ·exact ih e i q
   ·rw [q]; exact h'
  ·rw [if_neg e] at h'; exact absurd h' e
def nodeF (rs : List Rep) (i : Nat) : Int := if repF (rs.getD i rep0) = 0 then (if (rs.getD i rep0).id = i ∧ (rs.getD i rep0).size = rs.length then 0 else 1) else repF (rs.getD i rep0)
def mailIn (rs : List Rep) (m : Ml) : Int := if 0 ≤ m.to ∧ m.to ≤ (rs.length : Int) - 1 then mailAtF (rs.getD m.to.toNat rep0) m else 3
def nodesF (rs : List Rep) : Int := fstF (nodeF rs) rs.length
def mailsF (rs : List Rep) (ms : List Ml) : Int := fstF (fun i => mailIn rs (ms.getD i ml0)) ms.length
def cluF (rs : List Rep) (ms : List Ml) (es : List En) : Int := if (1 ≤ (rs.length : Int) ∧ (rs.length : Int) ≤ 5) ∧ ms.length ≤ 120 then (if nodesF rs = 0 then (if mailsF rs ms = 0 then logF es else mailsF rs ms) else nodesF rs) else 2
theorem nodeF_rep {rs : List Rep} {i : Nat} {r : Rep} (e : rs.getD i rep0 = r) {c : Int} (hc : repF r = c) (h : c ≠ 0) : nodeF rs i = c := by unfold nodeF; rw [e, hc, if_neg h]
theorem nodeF_form {rs : List Rep} {i : Nat} {r : Rep} (e : rs.getD i rep0 = r) (hc : repF r = 0) (h : ¬ (r.id = i ∧ r.size = rs.length)) : nodeF rs i = 1 := by unfold nodeF; rw [e, if_pos hc, if_neg h]
theorem nodeF_ok {rs : List Rep} {i : Nat} {r : Rep} (e : rs.getD i rep0 = r) (hc : repF r = 0) (h : r.id = i ∧ r.size = rs.length) : nodeF rs i = 0 := by unfold nodeF; rw [e, if_pos hc, if_pos h]
theorem nodesF_all {rs : List Rep} (h : nodesF rs = 0) (i : Nat) (hi : i < rs.length) : repF (rs.getD i rep0) = 0 ∧ (rs.getD i rep0).id = i ∧ (rs.getD i rep0).size = rs.length := by
 have e := fstF_all h i hi
 unfold nodeF at e
 by_cases q : repF (rs.getD i rep0) = 0
 ·rw [if_pos q] at e
  by_cases q2 : (rs.getD i rep0).id = i ∧ (rs.getD i rep0).size = rs.length
  ·exact ⟨q, q2⟩
  ·rw [if_neg q2] at e; cases e
 ·rw [if_neg q] at e; exact absurd e q
theorem mapD {β γ : Type} {d : β} {xs : List (β × γ)} {i : Nat} {a : β × γ} (e : xs[i]? = some a) : (xs.map (·.1)).getD i d = a.1 := by simp [List.getD, e]
end Go.Proofs.Ytjefmhjlaibbkaa
