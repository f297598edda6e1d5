/- Chapter 9: a mail copied, compared and counted by the laws. -/
import Derived.Test.YtikplcpgocgogaaWB
namespace Go.Proofs.Ytikplcpgocgogaa
open Go.RowKit

set_option maxRecDepth 20000 in
set_option maxHeartbeats 2000000 in
theorem eqMail_yes {o1 o2 : Bool} {l1 u1 l2 u2 : Nat} (m : Ml) (h k : Hd) (w : World) (x : RowAt w o1 l1 u1 6 h.1 h.2.1 h.2.2 (sixs m.log)) (y : RowAt w o2 l2 u2 6 k.1 k.2.1 k.2.2 (sixs m.log)) (hn : h.2.1 ≤ 2097152) :
    Calls Try.prog 29 #[.agg #[.int .i64 m.kind, .int .i64 m.fr, .int .i64 m.to, .int .i64 m.view, .int .i64 m.at_, .bool m.has, .int .i64 m.en.1, .int .i64 m.en.2.1, .int .i64 m.en.2.2.1, .int .i64 m.en.2.2.2.1, .int .i64 m.en.2.2.2.2.1, .int .i64 m.en.2.2.2.2.2, .int .i64 m.last, .slice h.1 h.2.1 h.2.2, .int .i64 m.commit], .agg #[.int .i64 m.kind, .int .i64 m.fr, .int .i64 m.to, .int .i64 m.view, .int .i64 m.at_, .bool m.has, .int .i64 m.en.1, .int .i64 m.en.2.1, .int .i64 m.en.2.2.1, .int .i64 m.en.2.2.2.1, .int .i64 m.en.2.2.2.2.1, .int .i64 m.en.2.2.2.2.2, .int .i64 m.last, .slice k.1 k.2.1 k.2.2, .int .i64 m.commit]] w fun e w' => e = .returned (.bool true) ∧ Below w.heap.size w w' := by
  have e0 : (m.kind != m.kind) = false := by simp
  have e1 : (m.fr != m.fr) = false := by simp
  have e2 : (m.to != m.to) = false := by simp
  have e3 : (m.view != m.view) = false := by simp
  have e4 : (m.at_ != m.at_) = false := by simp
  have e5 : (m.has != m.has) = false := by simp
  have e6 : (m.last != m.last) = false := by simp
  have e7 : (m.commit != m.commit) = false := by simp
  go_enter Try.func29, Try.ntmps29
  go_wp2_with (first | ((have g := ob0); clear g; (with_reducible refine box_newX 46 [.int .i64 m.kind, .int .i64 m.fr, .int .i64 m.to, .int .i64 m.view, .int .i64 m.at_, .bool m.has, .int .i64 m.en.1, .int .i64 m.en.2.1, .int .i64 m.en.2.2.1, .int .i64 m.en.2.2.2.1, .int .i64 m.en.2.2.2.2.1, .int .i64 m.en.2.2.2.2.2, .int .i64 m.last, .slice k.1 k.2.1 k.2.2, .int .i64 m.commit] rfl ?_); intro b1 W1 N1; have ob1 : w.heap.size ≤ b1 := Nat.le_trans B.size N1.ge; have o0_b1 : b0 < b1 := Nat.lt_of_lt_of_le X0.lt N1.ge; replace X0 := X0.below N1.below; replace c0 := X0.cell; replace B := below_next B N1.below; have X1 := N1.bx; have c1 := X1.cell; clear N1) | ((with_reducible refine box_newX 46 [.int .i64 m.kind, .int .i64 m.fr, .int .i64 m.to, .int .i64 m.view, .int .i64 m.at_, .bool m.has, .int .i64 m.en.1, .int .i64 m.en.2.1, .int .i64 m.en.2.2.1, .int .i64 m.en.2.2.2.1, .int .i64 m.en.2.2.2.2.1, .int .i64 m.en.2.2.2.2.2, .int .i64 m.last, .slice h.1 h.2.1 h.2.2, .int .i64 m.commit] rfl ?_); intro b0 W0 N0; have ob0 : w.heap.size ≤ b0 := N0.ge; have B := N0.below; have X0 := N0.bx; have c0 := X0.cell; clear N0) | fail)
  refine (eqEntry_yes m.en.1 m.en.2.1 m.en.2.2.1 m.en.2.2.2.1 m.en.2.2.2.2.1 m.en.2.2.2.2.2 _).mono ?_
  rintro e w1 ⟨rfl, BB⟩
  replace X0 := X0.below BB
  replace c0 := X0.cell
  replace X1 := X1.below BB
  replace c1 := X1.cell
  replace B := below_next B BB
  clear BB
  go_wp2_with fail
  refine (eqEntries_yes _ _ _ _ _ _ m.log _ (x.below B) (y.below B) hn).mono ?_
  rintro e w2 ⟨rfl, BB⟩
  replace X0 := X0.below BB
  replace c0 := X0.cell
  replace X1 := X1.below BB
  replace c1 := X1.cell
  replace B := below_next B BB
  clear BB
  go_wp2
  go_ret
  exact ⟨rfl, B⟩
end Go.Proofs.Ytikplcpgocgogaa

