/- Chapter 7, plain: a difference as words. -/
import Derived.Test.YtcbfmjanjciodaaEX
import Derived.Test.YtcbfmjanjciodaaYQ
import Derived.Test.YtcbfmjanjciodaaC1
namespace Go.Proofs.Ytcbfmjanjciodaa
open Go.RowKit

def packV (v : Vo) : Int := v.1 * 256 + v.2.1
def packH (s : St) : Int := (s.2.1 * 256 + s.2.2.1) * 2 + (if s.1 then 1 else 0)
def packVs (vs : List Vo) : List Int := vs.map packV
def packSs (ss : List St) : List Int := ss.flatMap fun s => [packH s, s.2.2.2]
def packW (fr tt : Int) (vs : List Vo) (ss : List St) : List Int := [fr, tt, (vs.length : Int)] ++ packVs vs ++ [(ss.length : Int)] ++ packSs ss
theorem packVs_take {vs : List Vo} {k : Nat} (h : k < vs.length) : packVs (vs.take (k + 1)) = packVs (vs.take k) ++ [packV (vs.getD k vo0)] := by
  unfold packVs
  rw [List.take_succ_eq_append_getElem h, List.map_append, List.getD_eq_getElem?_getD, List.getElem?_eq_getElem h, Option.getD_some]
  rfl
theorem packSs_take {ss : List St} {k : Nat} (h : k < ss.length) : packSs (ss.take (k + 1)) = packSs (ss.take k) ++ [packH (ss.getD k st0), (ss.getD k st0).2.2.2] := by
  unfold packSs
  rw [List.take_succ_eq_append_getElem h, List.flatMap_append, List.getD_eq_getElem?_getD, List.getElem?_eq_getElem h, Option.getD_some]
  rfl
theorem packSs_len (ss : List St) : (packSs ss).length = 2 * ss.length := by
  induction ss with
  | nil => rfl
  | cons s ss ih => rw [show packSs (s :: ss) = [packH s, s.2.2.2] ++ packSs ss from rfl, List.length_append, ih, List.length_cons]; simp; omega
theorem packW_len (fr tt : Int) (vs : List Vo) (ss : List St) : (packW fr tt vs ss).length = 4 + vs.length + 2 * ss.length := by
  unfold packW
  simp [packVs, packSs_len]
  omega
/-- numbers that packing does not outgrow -/
def VolSm (vs : List Vo) : Prop := ∀ i, i < vs.length → (0 ≤ (vs.getD i vo0).1 ∧ (vs.getD i vo0).1 ≤ 99) ∧ (0 ≤ (vs.getD i vo0).2.1 ∧ (vs.getD i vo0).2.1 ≤ 16)
def StSm (ss : List St) : Prop := ∀ i, i < ss.length → (0 ≤ (ss.getD i st0).2.1 ∧ (ss.getD i st0).2.1 ≤ 99) ∧ (0 ≤ (ss.getD i st0).2.2.1 ∧ (ss.getD i st0).2.2.1 ≤ 15)
theorem volSm_of {vs : List Vo} (h : pvFault vs = 0) : VolSm vs := fun i hi => by
  have := pvOne_ok (pv_ok h i hi)
  omega
theorem stSm_of {ss : List St} (h : stFault ss = 0) : StSm ss := fun i hi => by
  have := stOne_ok (st_ok h i hi)
  omega
def packL (fr tt : Int) (vs : List Vo) (ss : List St) : List Int := if deFault fr tt vs ss = 0 then packW fr tt vs ss else []

end Go.Proofs.Ytcbfmjanjciodaa
