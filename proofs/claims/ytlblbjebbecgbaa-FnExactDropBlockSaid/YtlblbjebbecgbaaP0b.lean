/- Chapter 3: what holds of a block that was taken, shared and dropped. -/
import Derived.Test.YtlblbjebbecgbaaP0
namespace Go.Proofs.Ytlblbjebbecgbaa
open Go.RowKit

theorem set_fault {bs : List (Int × Int)} (h : blkFault bs = 0) (k : Nat) {p : Int × Int} (hp : blkOne p = 0) : blkFault (bs.set k p) = 0 := by
  obtain ⟨h1, h2⟩ := blkFault_zero h
  unfold blkFault
  rw [if_neg (by rw [List.length_set]; omega)]
  refine blkGo_of fun q hq => ?_
  rcases List.mem_or_eq_of_mem_set hq with hq | rfl
  · exact blkGo_all h2 q hq
  · exact hp
theorem set_getD {bs : List (Int × Int)} {k : Nat} (hk : k < bs.length) (p : Int × Int) : (bs.set k p).getD k (0, 0) = p := by
  simp [List.getD, hk]
theorem ask_set {bs : List (Int × Int)} (h : blkFault bs = 0) {k : Nat} (hk : k < bs.length) {p : Int × Int} (hp : blkOne p = 0) (h0 : p.1 ≠ 0) : askCode (bs.set k p) (k : Int) = 0 := by
  unfold askCode
  rw [if_pos (set_fault h k hp), if_pos (by rw [List.length_set]; omega), Int.toNat_natCast, set_getD hk, if_neg h0]

structure Taken (bs : List (Int × Int)) (x : Int) (k : Nat) : Prop where
  fr : freeAt bs = some k
  lt : k < bs.length
  was : bs.getD k (0, 0) = (0, 0)
  f0 : blkFault bs = 0
  at' : takeAt bs x = k
  li : takeList bs x = bs.set k (1, x)
  f1 : blkFault (bs.set k (1, x)) = 0
  sc : shareCode (bs.set k (1, x)) (k : Int) = 0
  sl : shareList (bs.set k (1, x)) (k : Int) = bs.set k (2, x)
  ac : askCode (bs.set k (2, x)) (k : Int) = 0
  dl : dropList (bs.set k (2, x)) (k : Int) = bs.set k (1, x)
  ad : askCode (bs.set k (1, x)) (k : Int) = 0
  el : dropList (bs.set k (1, x)) (k : Int) = bs
  fn : (freeN (bs.set k (1, x)) : Int) = (freeN bs : Int) - 1
  n0 : newBCode (bs.length : Int) = 0
  n1 : (newBList (bs.length : Int)).length = bs.length
theorem taken {bs : List (Int × Int)} {x : Int} (h : takeCode bs x = 0) : ∃ k, Taken bs x k := by
  have h0 : blkFault bs = 0 := by
    unfold takeCode at h
    by_cases h0 : blkFault bs = 0
    · exact h0
    · rw [if_neg h0] at h; exact absurd h h0
  have hx : dataB x = true := by
    unfold takeCode at h
    rw [if_pos h0] at h
    cases hx : dataB x with
    | true => rfl
    | false => rw [hx, if_neg (by decide)] at h; exact absurd h (by decide)
  obtain ⟨k, hk⟩ : ∃ k, freeAt bs = some k := by
    unfold takeCode at h
    rw [if_pos h0, if_pos hx] at h
    cases hf : freeAt bs with
    | none => rw [hf, if_pos rfl] at h; exact absurd h (by decide)
    | some k => exact ⟨k, rfl⟩
  obtain ⟨hl, hz⟩ := freeAt_is hk
  obtain ⟨h1, h2⟩ := blkFault_zero h0
  unfold dataB at hx
  simp at hx
  have hone := blkOne_zero (blkGo_all h2 (bs.getD k (0, 0)) (by rw [List.getD_eq_getElem?_getD, List.getElem?_eq_getElem hl]; exact List.getElem_mem hl))
  have hwas : bs.getD k (0, 0) = (0, 0) := Prod.ext hz (hone.2.2.2.2 hz)
  have b1 : blkOne ((1 : Int), x) = 0 := blkOne_of (by simp) (by simp) hx.1 hx.2 (fun e => absurd e (by simp))
  have b2 : blkOne ((2 : Int), x) = 0 := blkOne_of (by simp) (by simp) hx.1 hx.2 (fun e => absurd e (by simp))
  have f1 := set_fault h0 k b1
  have a1 := ask_set h0 hl b1 (by simp)
  have a2 := ask_set h0 hl b2 (by simp)
  have sc : shareCode (bs.set k (1, x)) (k : Int) = 0 := by
    unfold shareCode
    rw [if_pos a1, Int.toNat_natCast, set_getD hl, if_neg (by simp)]
  refine ⟨k, hk, hl, hwas, h0, ?_, ?_, f1, sc, ?_, a2, ?_, a1, ?_, ?_, ?_, ?_⟩
  · rw [takeAt, if_pos h, hk]; rfl
  · rw [takeList, if_pos h, hk]; rfl
  · rw [shareList, if_pos sc, Int.toNat_natCast, set_getD hl, List.set_set]; rfl
  · rw [dropList, if_pos a2, Int.toNat_natCast, set_getD hl, List.set_set]; simp [less1]
  · rw [dropList, if_pos a1, Int.toNat_natCast, set_getD hl, List.set_set]
    have : less1 ((1 : Int), x) = bs.getD k (0, 0) := by rw [hwas]; simp [less1]
    rw [this, List.getD_eq_getElem?_getD, List.getElem?_eq_getElem hl]
    simp
  · have := freeN_set bs k (1, x) hl
    rw [hwas] at this
    simp at this
    omega
  · unfold newBCode; rw [if_pos (by omega)]
  · unfold newBList newBCode
    rw [if_pos (by rw [if_pos (by omega)])]; simp

end Go.Proofs.Ytlblbjebbecgbaa
