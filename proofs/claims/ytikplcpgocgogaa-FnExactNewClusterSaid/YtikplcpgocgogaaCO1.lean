/- Chapter 11: lists of nodes and of mails counted, copied and compared by the laws. -/
import Derived.Test.YtikplcpgocgogaaCL
import Derived.Test.YtikplcpgocgogaaWB
import Derived.Test.YtikplcpgocgogaaWH
namespace Go.Proofs.Ytikplcpgocgogaa
open Go.RowKit

theorem getD_set_fst {β : Type} {d : β} {ys : List β} {i j : Nat} (hi : i < ys.length) (a : β) : (ys.set i a).getD j d = if j = i then a else ys.getD j d := by
  by_cases e : j = i
  · subst e; simp [List.getD, hi]
  · rw [if_neg e]; simp [List.getD, List.getElem?_set_ne (Ne.symm e)]
theorem getD_of_get {β : Type} {d a : β} {ys : List β} {i : Nat} (h : ys[i]? = some a) : ys.getD i d = a := by simp [List.getD, h]
end Go.Proofs.Ytikplcpgocgogaa
