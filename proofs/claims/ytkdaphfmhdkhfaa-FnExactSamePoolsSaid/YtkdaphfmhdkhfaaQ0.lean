/- Chapter 3: the model's answers by what they are told to be; how long they are. -/
import Derived.Test.YtkdaphfmhdkhfaaP3
import Derived.Test.YtkdaphfmhdkhfaaP4
namespace Go.Proofs.Ytkdaphfmhdkhfaa
open Go.RowKit

section
variable {o : Bool} {l u : Nat} (ao : Option Addr) (n cap : Nat) (bs : List (Int × Int)) (w : World) (h : RowAt w o l u 2 ao n cap (pairs bs)) (hn : n ≤ 2097152)
include h hn
theorem specBF_b (r : Int) (hr : blkFault bs = r) : Calls Try.prog 98 #[.slice ao n cap] w fun e w' => e = .returned (.int .i64 r) ∧ Below w.heap.size w w' :=
  (specBF_is ao n cap bs w h hn r hr).mono fun _ _ ⟨e, hw⟩ => ⟨e, hw ▸ Below.refl _ _⟩
theorem specTakeBlock_is (x : Int) (cd at' : Int) (bl : List (Int × Int)) (hc : takeCode bs x = cd) (ha : (takeAt bs x : Int) = at') (hb : takeList bs x = bl) :
    Calls Try.prog 49 #[.slice ao n cap, .int .i64 x] w fun e w' => BlkRes w w' e cd at' bl := by subst hc; subst ha; subst hb; exact specTake_any ao n cap bs x w h hn
theorem specShareBlock_is (x : Int) (cd at' : Int) (bl : List (Int × Int)) (hc : shareCode bs x = cd) (ha : atIf (shareCode bs x) x = at') (hb : shareList bs x = bl) :
    Calls Try.prog 106 #[.slice ao n cap, .int .i64 x] w fun e w' => BlkRes w w' e cd at' bl := by subst hc; subst ha; subst hb; exact specShare_any ao n cap bs x w h hn
theorem specDropBlock_is (x : Int) (cd at' : Int) (bl : List (Int × Int)) (hc : askCode bs x = cd) (ha : atIf (askCode bs x) x = at') (hb : dropList bs x = bl) :
    Calls Try.prog 107 #[.slice ao n cap, .int .i64 x] w fun e w' => BlkRes w w' e cd at' bl := by subst hc; subst ha; subst hb; exact specDrop_any ao n cap bs x w h hn
end
theorem specNewBlocks_is (x : Int) (w : World) (cd : Int) (bl : List (Int × Int)) (hc : newBCode x = cd) (hb : newBList x = bl) :
    Calls Try.prog 101 #[.int .i64 x] w fun e w' => BlkRes w w' e cd 0 bl := by subst hc; subst hb; exact specNewB_any x w
theorem take_len (bs : List (Int × Int)) (x : Int) (n : Nat) (h : bs.length = n) : (takeList bs x).length ≤ 2097152 ∨ 1048576 < n := by
  unfold takeList; split
  · rw [List.length_set]; omega
  · simp
theorem share_len (bs : List (Int × Int)) (x : Int) (n : Nat) (h : bs.length = n) : (shareList bs x).length ≤ 2097152 ∨ 1048576 < n := by
  unfold shareList; split
  · rw [List.length_set]; omega
  · simp
theorem drop_len (bs : List (Int × Int)) (x : Int) (n : Nat) (h : bs.length = n) : (dropList bs x).length ≤ 2097152 ∨ 1048576 < n := by
  unfold dropList; split
  · rw [List.length_set]; omega
  · simp
theorem newB_len (x : Int) : (newBList x).length ≤ 24 := by
  unfold newBList newBCode
  by_cases h : 0 ≤ x ∧ x ≤ 24
  · rw [if_pos (if_pos h)]; simp; omega
  · rw [if_neg (by rw [if_neg h]; decide)]; simp

end Go.Proofs.Ytkdaphfmhdkhfaa
