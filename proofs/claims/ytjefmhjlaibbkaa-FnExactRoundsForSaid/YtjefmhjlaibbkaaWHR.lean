/- Chapter 9: a mail copied, compared and counted by the laws. -/
import Derived.Test.YtjefmhjlaibbkaaQAGR
import Derived.Test.YtjefmhjlaibbkaaWBR
import Derived.Test.YtjefmhjlaibbkaaWCR
import Derived.Test.YtjefmhjlaibbkaaXCR
set_option maxRecDepth 20000
set_option maxHeartbeats 16000000
namespace Go.Proofs.Ytjefmhjlaibbkaa
open Go.RowKit
theorem toMail_any {own : Bool} {lo hi : Nat} (m : Ml) (h : Hd) (w : World) (x : RowAt w own lo hi 6 h.1 h.2.1 h.2.2 (sixs m.log)) (hn : h.2.1 ≤ 1048576) :
  Calls Try.prog 74 #[.agg #[.int .i64 m.kind, .int .i64 m.fr, .int .i64 m.to, .int .i64 m.view, .int .i64 m.at_, .bool m.has, .int .i64 m.en.1, .int .i64 m.en.2.1, .int .i64 m.en.2.2.1, .int .i64 m.en.2.2.2.1, .int .i64 m.en.2.2.2.2.1, .int .i64 m.en.2.2.2.2.2, .int .i64 m.last, .slice h.1 h.2.1 h.2.2, .int .i64 m.commit]] w fun e w' => ∃ g, e = .returned (.agg #[.int .i64 m.kind, .int .i64 m.fr, .int .i64 m.to, .int .i64 m.view, .int .i64 m.at_, .bool m.has, .int .i64 m.en.1, .int .i64 m.en.2.1, .int .i64 m.en.2.2.1, .int .i64 m.en.2.2.2.1, .int .i64 m.en.2.2.2.2.1, .int .i64 m.en.2.2.2.2.2, .int .i64 m.last, .slice (some ⟨g, 0, none⟩) h.2.1 h.2.1, .int .i64 m.commit]) ∧ w.heap.size ≤ g ∧ g < w'.heap.size ∧ RowAt w' true g (g + 1) 6 (some ⟨g, 0, none⟩) h.2.1 h.2.1 (sixs m.log) ∧ Below w.heap.size w w' := by
 go_enter Try.func74, Try.ntmps74
 go_wp2_with (first | ((with_reducible refine so 4 X2 5 (.bool m.has) ?_); intro V6 S; replace X0 := X0.kp S.kept; replace c0 := X0.cell; replace X1 := X1.kp S.kept; replace c1 := X1.cell; replace f1 := X1.froz; replace X2 : Bx V6 b2 [.int .i64 m.kind, .int .i64 m.fr, .int .i64 m.to, .int .i64 m.view, .int .i64 m.at_, .bool m.has, .int .i64 0, .int .i64 0, .int .i64 0, .int .i64 0, .int .i64 0, .int .i64 0, .int .i64 0, .slice none 0 0, .int .i64 0] := S.bx; replace c2 := X2.cell; replace f2 := X2.froz; replace B := bkp B S.kept; clear S) | ((with_reducible refine so 2 X2 4 (.int .i64 m.at_) ?_); intro V5 S; replace X0 := X0.kp S.kept; replace c0 := X0.cell; replace X1 := X1.kp S.kept; replace c1 := X1.cell; replace f1 := X1.froz; replace X2 : Bx V5 b2 [.int .i64 m.kind, .int .i64 m.fr, .int .i64 m.to, .int .i64 m.view, .int .i64 m.at_, .bool false, .int .i64 0, .int .i64 0, .int .i64 0, .int .i64 0, .int .i64 0, .int .i64 0, .int .i64 0, .slice none 0 0, .int .i64 0] := S.bx; replace c2 := X2.cell; replace f2 := X2.froz; replace B := bkp B S.kept; clear S) | ((with_reducible refine so 2 X2 3 (.int .i64 m.view) ?_); intro V4 S; replace X0 := X0.kp S.kept; replace c0 := X0.cell; replace X1 := X1.kp S.kept; replace c1 := X1.cell; replace f1 := X1.froz; replace X2 : Bx V4 b2 [.int .i64 m.kind, .int .i64 m.fr, .int .i64 m.to, .int .i64 m.view, .int .i64 0, .bool false, .int .i64 0, .int .i64 0, .int .i64 0, .int .i64 0, .int .i64 0, .int .i64 0, .int .i64 0, .slice none 0 0, .int .i64 0] := S.bx; replace c2 := X2.cell; replace f2 := X2.froz; replace B := bkp B S.kept; clear S) | ((with_reducible refine so 2 X2 2 (.int .i64 m.to) ?_); intro V3 S; replace X0 := X0.kp S.kept; replace c0 := X0.cell; replace X1 := X1.kp S.kept; replace c1 := X1.cell; replace f1 := X1.froz; replace X2 : Bx V3 b2 [.int .i64 m.kind, .int .i64 m.fr, .int .i64 m.to, .int .i64 0, .int .i64 0, .bool false, .int .i64 0, .int .i64 0, .int .i64 0, .int .i64 0, .int .i64 0, .int .i64 0, .int .i64 0, .slice none 0 0, .int .i64 0] := S.bx; replace c2 := X2.cell; replace f2 := X2.froz; replace B := bkp B S.kept; clear S) | ((with_reducible refine so 2 X2 1 (.int .i64 m.fr) ?_); intro V2 S; replace X0 := X0.kp S.kept; replace c0 := X0.cell; replace X1 := X1.kp S.kept; replace c1 := X1.cell; replace f1 := X1.froz; replace X2 : Bx V2 b2 [.int .i64 m.kind, .int .i64 m.fr, .int .i64 0, .int .i64 0, .int .i64 0, .bool false, .int .i64 0, .int .i64 0, .int .i64 0, .int .i64 0, .int .i64 0, .int .i64 0, .int .i64 0, .slice none 0 0, .int .i64 0] := S.bx; replace c2 := X2.cell; replace f2 := X2.froz; replace B := bkp B S.kept; clear S) | ((with_reducible refine so 2 X2 0 (.int .i64 m.kind) ?_); intro V1 S; replace X0 := X0.kp S.kept; replace c0 := X0.cell; replace X1 := X1.kp S.kept; replace c1 := X1.cell; replace f1 := X1.froz; replace X2 : Bx V1 b2 [.int .i64 m.kind, .int .i64 0, .int .i64 0, .int .i64 0, .int .i64 0, .bool false, .int .i64 0, .int .i64 0, .int .i64 0, .int .i64 0, .int .i64 0, .int .i64 0, .int .i64 0, .slice none 0 0, .int .i64 0] := S.bx; replace c2 := X2.cell; replace f2 := X2.froz; replace B := bkp B S.kept; clear S) | ((have g := ob1); clear g; (with_reducible refine al 99 [.int .i64 0, .int .i64 0, .int .i64 0, .int .i64 0, .int .i64 0, .bool false, .int .i64 0, .int .i64 0, .int .i64 0, .int .i64 0, .int .i64 0, .int .i64 0, .int .i64 0, .slice none 0 0, .int .i64 0] ?_); intro b2 W2 N2; have ob2 := N2.o B; have o0_b2 := N2.u X0; have o1_b2 := N2.u X1; replace X0 := N2.r X0; replace c0 := X0.cell; replace X1 := N2.r X1; replace c1 := X1.cell; replace f1 := X1.froz; replace B := N2.n B; obtain ⟨X2, c2, f2⟩ := N2.a; clear N2) | ((have g := ob0); clear g; (with_reducible refine al 99 [.int .i64 0, .int .i64 0, .int .i64 0, .int .i64 0, .int .i64 0, .bool false, .int .i64 0, .int .i64 0, .int .i64 0, .int .i64 0, .int .i64 0, .int .i64 0, .int .i64 0, .slice none 0 0, .int .i64 0] ?_); intro b1 W1 N1; have ob1 := N1.o B; have o0_b1 := N1.u X0; replace X0 := N1.r X0; replace c0 := X0.cell; replace B := N1.n B; obtain ⟨X1, c1, f1⟩ := N1.a; clear N1) | ((with_reducible refine box_newX 113 [.int .i64 m.kind, .int .i64 m.fr, .int .i64 m.to, .int .i64 m.view, .int .i64 m.at_, .bool m.has, .int .i64 m.en.1, .int .i64 m.en.2.1, .int .i64 m.en.2.2.1, .int .i64 m.en.2.2.2.1, .int .i64 m.en.2.2.2.2.1, .int .i64 m.en.2.2.2.2.2, .int .i64 m.last, .slice h.1 h.2.1 h.2.2, .int .i64 m.commit] rfl ?_); intro b0 W0 N0; have ob0 := N0.ge; have B := N0.below; obtain ⟨X0, c0⟩ := N0.c; clear N0) | fail)
 refine (toEntry_any m.en.1 m.en.2.1 m.en.2.2.1 m.en.2.2.2.1 m.en.2.2.2.2.1 m.en.2.2.2.2.2 _).mono ?_
 rintro e w1 ⟨rfl, BB⟩
 replace X0 := X0.below BB
 replace c0 := X0.cell
 replace X1 := X1.below BB
 replace c1 := X1.cell
 replace f1 := X1.froz
 replace X2 := X2.below BB
 replace c2 := X2.cell
 replace f2 := X2.froz
 replace B := below_next B BB
 clear BB
 go_wp2_with (first | ((with_reducible refine so 2 X2 12 (.int .i64 m.last) ?_); intro V8 S; replace X0 := X0.kp S.kept; replace c0 := X0.cell; replace X1 := X1.kp S.kept; replace c1 := X1.cell; replace f1 := X1.froz; replace X2 : Bx V8 b2 [.int .i64 m.kind, .int .i64 m.fr, .int .i64 m.to, .int .i64 m.view, .int .i64 m.at_, .bool m.has, .int .i64 m.en.1, .int .i64 m.en.2.1, .int .i64 m.en.2.2.1, .int .i64 m.en.2.2.2.1, .int .i64 m.en.2.2.2.2.1, .int .i64 m.en.2.2.2.2.2, .int .i64 m.last, .slice none 0 0, .int .i64 0] := S.bx; replace c2 := X2.cell; replace f2 := X2.froz; replace B := bkp B S.kept; clear S) | ((with_reducible refine sm 97 X2 6 [.int .i64 m.en.1, .int .i64 m.en.2.1, .int .i64 m.en.2.2.1, .int .i64 m.en.2.2.2.1, .int .i64 m.en.2.2.2.2.1, .int .i64 m.en.2.2.2.2.2] ?_); intro V7 S; replace X0 := X0.kp S.kept; replace c0 := X0.cell; replace X1 := X1.kp S.kept; replace c1 := X1.cell; replace f1 := X1.froz; replace X2 : Bx V7 b2 [.int .i64 m.kind, .int .i64 m.fr, .int .i64 m.to, .int .i64 m.view, .int .i64 m.at_, .bool m.has, .int .i64 m.en.1, .int .i64 m.en.2.1, .int .i64 m.en.2.2.1, .int .i64 m.en.2.2.2.1, .int .i64 m.en.2.2.2.2.1, .int .i64 m.en.2.2.2.2.2, .int .i64 0, .slice none 0 0, .int .i64 0] := S.bx; replace c2 := X2.cell; replace f2 := X2.froz; replace B := bkp B S.kept; clear S) | fail)
 refine (toEntries_g _ _ _ m.log _ (by exact x.below B) hn).mono ?_
 rintro e w2 ⟨g, rfl, Gg, lR, R, BB⟩
 have og : w.heap.size ≤ g := Nat.le_trans B.size Gg
 have o0_g := ltl X0.lt Gg
 have o1_g := ltl X1.lt Gg
 have o2_g := ltl X2.lt Gg
 clear Gg
 replace X0 := X0.below BB
 replace c0 := X0.cell
 replace X1 := X1.below BB
 replace c1 := X1.cell
 replace f1 := X1.froz
 replace X2 := X2.below BB
 replace c2 := X2.cell
 replace f2 := X2.froz
 replace B := below_next B BB
 clear BB
 go_wp2_with (first | ((with_reducible refine sm 99 X1 0 [.int .i64 m.kind, .int .i64 m.fr, .int .i64 m.to, .int .i64 m.view, .int .i64 m.at_, .bool m.has, .int .i64 m.en.1, .int .i64 m.en.2.1, .int .i64 m.en.2.2.1, .int .i64 m.en.2.2.2.1, .int .i64 m.en.2.2.2.2.1, .int .i64 m.en.2.2.2.2.2, .int .i64 m.last, .slice (some ⟨g, 0, none⟩) h.2.1 h.2.1, .int .i64 m.commit] ?_); intro V11 S; replace X0 := X0.kp S.kept; replace c0 := X0.cell; replace X1 : Bx V11 b1 [.int .i64 m.kind, .int .i64 m.fr, .int .i64 m.to, .int .i64 m.view, .int .i64 m.at_, .bool m.has, .int .i64 m.en.1, .int .i64 m.en.2.1, .int .i64 m.en.2.2.1, .int .i64 m.en.2.2.2.1, .int .i64 m.en.2.2.2.2.1, .int .i64 m.en.2.2.2.2.2, .int .i64 m.last, .slice (some ⟨g, 0, none⟩) h.2.1 h.2.1, .int .i64 m.commit] := S.bx; replace c1 := X1.cell; replace f1 := X1.froz; replace X2 := X2.kp S.kept; replace c2 := X2.cell; replace f2 := X2.froz; replace R := R.kept S.kept (by omega); replace lR := Nat.lt_of_lt_of_le lR S.kept.size; replace B := bkp B S.kept; clear S) | ((with_reducible refine so 2 X2 14 (.int .i64 m.commit) ?_); intro V10 S; replace X0 := X0.kp S.kept; replace c0 := X0.cell; replace X1 := X1.kp S.kept; replace c1 := X1.cell; replace f1 := X1.froz; replace X2 : Bx V10 b2 [.int .i64 m.kind, .int .i64 m.fr, .int .i64 m.to, .int .i64 m.view, .int .i64 m.at_, .bool m.has, .int .i64 m.en.1, .int .i64 m.en.2.1, .int .i64 m.en.2.2.1, .int .i64 m.en.2.2.2.1, .int .i64 m.en.2.2.2.2.1, .int .i64 m.en.2.2.2.2.2, .int .i64 m.last, .slice (some ⟨g, 0, none⟩) h.2.1 h.2.1, .int .i64 m.commit] := S.bx; replace c2 := X2.cell; replace f2 := X2.froz; replace R := R.kept S.kept (by omega); replace lR := Nat.lt_of_lt_of_le lR S.kept.size; replace B := bkp B S.kept; clear S) | ((with_reducible refine so 24 X2 13 (.slice (some ⟨g, 0, none⟩) h.2.1 h.2.1) ?_); intro V9 S; replace X0 := X0.kp S.kept; replace c0 := X0.cell; replace X1 := X1.kp S.kept; replace c1 := X1.cell; replace f1 := X1.froz; replace X2 : Bx V9 b2 [.int .i64 m.kind, .int .i64 m.fr, .int .i64 m.to, .int .i64 m.view, .int .i64 m.at_, .bool m.has, .int .i64 m.en.1, .int .i64 m.en.2.1, .int .i64 m.en.2.2.1, .int .i64 m.en.2.2.2.1, .int .i64 m.en.2.2.2.2.1, .int .i64 m.en.2.2.2.2.2, .int .i64 m.last, .slice (some ⟨g, 0, none⟩) h.2.1 h.2.1, .int .i64 0] := S.bx; replace c2 := X2.cell; replace f2 := X2.froz; replace R := R.kept S.kept (by omega); replace lR := Nat.lt_of_lt_of_le lR S.kept.size; replace B := bkp B S.kept; clear S))
 refine bodyPost_ret (v := .agg #[.int .i64 m.kind, .int .i64 m.fr, .int .i64 m.to, .int .i64 m.view, .int .i64 m.at_, .bool m.has, .int .i64 m.en.1, .int .i64 m.en.2.1, .int .i64 m.en.2.2.1, .int .i64 m.en.2.2.2.1, .int .i64 m.en.2.2.2.2.1, .int .i64 m.en.2.2.2.2.2, .int .i64 m.last, .slice (some ⟨g, 0, none⟩) h.2.1 h.2.1, .int .i64 m.commit]) (by simp [results, Try.results74, go_sem, *]) rfl ⟨g, rfl, og, lR, R, B⟩
theorem eqMail_yes {o1 o2 : Bool} {l1 u1 l2 u2 : Nat} (m : Ml) (h k : Hd) (w : World) (x : RowAt w o1 l1 u1 6 h.1 h.2.1 h.2.2 (sixs m.log)) (y : RowAt w o2 l2 u2 6 k.1 k.2.1 k.2.2 (sixs m.log)) (hn : h.2.1 ≤ 2097152) :
  Calls Try.prog 80 #[.agg #[.int .i64 m.kind, .int .i64 m.fr, .int .i64 m.to, .int .i64 m.view, .int .i64 m.at_, .bool m.has, .int .i64 m.en.1, .int .i64 m.en.2.1, .int .i64 m.en.2.2.1, .int .i64 m.en.2.2.2.1, .int .i64 m.en.2.2.2.2.1, .int .i64 m.en.2.2.2.2.2, .int .i64 m.last, .slice h.1 h.2.1 h.2.2, .int .i64 m.commit], .agg #[.int .i64 m.kind, .int .i64 m.fr, .int .i64 m.to, .int .i64 m.view, .int .i64 m.at_, .bool m.has, .int .i64 m.en.1, .int .i64 m.en.2.1, .int .i64 m.en.2.2.1, .int .i64 m.en.2.2.2.1, .int .i64 m.en.2.2.2.2.1, .int .i64 m.en.2.2.2.2.2, .int .i64 m.last, .slice k.1 k.2.1 k.2.2, .int .i64 m.commit]] w fun e w' => e = .returned (.bool true) ∧ Below w.heap.size w w' := by
 have e0 : (m.kind != m.kind) = false := by simp
 have e1 : (m.fr != m.fr) = false := by simp
 have e2 : (m.to != m.to) = false := by simp
 have e3 : (m.view != m.view) = false := by simp
 have e4 : (m.at_ != m.at_) = false := by simp
 have e5 : (m.has != m.has) = false := by simp
 have e6 : (m.last != m.last) = false := by simp
 have e7 : (m.commit != m.commit) = false := by simp
 go_enter Try.func80, Try.ntmps80
 go_wp2_with (first | ((have g := ob0); clear g; (with_reducible refine box_newX 99 [.int .i64 m.kind, .int .i64 m.fr, .int .i64 m.to, .int .i64 m.view, .int .i64 m.at_, .bool m.has, .int .i64 m.en.1, .int .i64 m.en.2.1, .int .i64 m.en.2.2.1, .int .i64 m.en.2.2.2.1, .int .i64 m.en.2.2.2.2.1, .int .i64 m.en.2.2.2.2.2, .int .i64 m.last, .slice k.1 k.2.1 k.2.2, .int .i64 m.commit] rfl ?_); intro b1 W1 N1; have ob1 := N1.o B; have o0_b1 := N1.u X0; replace X0 := N1.r X0; replace c0 := X0.cell; replace B := N1.n B; obtain ⟨X1, c1⟩ := N1.c; clear N1) | ((with_reducible refine box_newX 99 [.int .i64 m.kind, .int .i64 m.fr, .int .i64 m.to, .int .i64 m.view, .int .i64 m.at_, .bool m.has, .int .i64 m.en.1, .int .i64 m.en.2.1, .int .i64 m.en.2.2.1, .int .i64 m.en.2.2.2.1, .int .i64 m.en.2.2.2.2.1, .int .i64 m.en.2.2.2.2.2, .int .i64 m.last, .slice h.1 h.2.1 h.2.2, .int .i64 m.commit] rfl ?_); intro b0 W0 N0; have ob0 := N0.ge; have B := N0.below; obtain ⟨X0, c0⟩ := N0.c; clear N0) | fail)
 refine (eqEntry_yes m.en.1 m.en.2.1 m.en.2.2.1 m.en.2.2.2.1 m.en.2.2.2.2.1 m.en.2.2.2.2.2 _).mono ?_
 rintro e w1 ⟨rfl, BB⟩
 replace X0 := X0.below BB
 replace c0 := X0.cell
 replace X1 := X1.below BB
 replace c1 := X1.cell
 replace B := below_next B BB
 clear BB
 go_wp2_with fail
 refine (eqEntries_yes _ _ _ _ _ _ m.log _ (x.below B) (y.below B) hn).mono ?_
 rintro e w2 ⟨rfl, BB⟩
 replace X0 := X0.below BB
 replace c0 := X0.cell
 replace X1 := X1.below BB
 replace c1 := X1.cell
 replace B := below_next B BB
 clear BB
 go_wp2
 go_ret
 exact ⟨rfl, B⟩
theorem szMail_left (m : Ml) (h : Hd) (lt : Int) (w : World) (hn : h.2.1 ≤ maxLen) (h0 : 0 ≤ lt) (h1 : lt ≤ 1048576) :
  Calls Try.prog 70 #[.agg #[.int .i64 m.kind, .int .i64 m.fr, .int .i64 m.to, .int .i64 m.view, .int .i64 m.at_, .bool m.has, .int .i64 m.en.1, .int .i64 m.en.2.1, .int .i64 m.en.2.2.1, .int .i64 m.en.2.2.2.1, .int .i64 m.en.2.2.2.2.1, .int .i64 m.en.2.2.2.2.2, .int .i64 m.last, .slice h.1 h.2.1 h.2.2, .int .i64 m.commit], .int .i64 lt] w fun e w' => e = .returned (.int .i64 (if lt < h.2.1 then -1 else lt - h.2.1)) ∧ Below w.heap.size w w' := by
 go_enter Try.func70, Try.ntmps70
 go_wp2_with (first | ((with_reducible refine box_newX 113 [.int .i64 m.kind, .int .i64 m.fr, .int .i64 m.to, .int .i64 m.view, .int .i64 m.at_, .bool m.has, .int .i64 m.en.1, .int .i64 m.en.2.1, .int .i64 m.en.2.2.1, .int .i64 m.en.2.2.2.1, .int .i64 m.en.2.2.2.2.1, .int .i64 m.en.2.2.2.2.2, .int .i64 m.last, .slice h.1 h.2.1 h.2.2, .int .i64 m.commit] rfl ?_); intro b0 W0 N0; have ob0 := N0.ge; have B := N0.below; obtain ⟨X0, c0⟩ := N0.c; clear N0) | fail)
 refine (szEntries_left h.1 h.2.1 h.2.2 lt _ hn h0 h1).mono ?_
 rintro e W9 ⟨rfl, rfl⟩
 by_cases hb : lt < h.2.1
 ·rw [if_pos hb]
  go_wp2
  go_ret
  exact ⟨rfl, B⟩
 ·rw [if_neg hb]
  have hb2 : ¬ lt - (h.2.1 : Int) < 0 := by omega
  go_wp2
  go_ret
  exact ⟨rfl, B⟩
def numF (A L : Bool) (m : Ml) : Prop := (A = true → 0 ≤ m.at_ ∧ m.at_ ≤ 40) ∧ (L = true → 0 ≤ m.last ∧ m.last ≤ m.view)
def agrF (G C : Bool) (m : Ml) : Int := if G = true then lgF m.log m.commit else if C = true ∧ ¬ (0 ≤ m.commit ∧ m.commit ≤ 40) then 3 else 0
def excF (A E L G C : Bool) (m : Ml) : Prop := (E = false ∧ m.has = true) ∨ (m.has = false ∧ m.en ≠ en0) ∨ (G = false ∧ m.log.length ≠ 0) ∨ (A = false ∧ m.at_ ≠ 0) ∨ (L = false ∧ m.last ≠ 0) ∨ (C = false ∧ m.commit ≠ 0)
instance (A L : Bool) (m : Ml) : Decidable (numF A L m) := by unfold numF; infer_instance
instance (A E L G C : Bool) (m : Ml) : Decidable (excF A E L G C m) := by unfold excF; infer_instance
def formK (k : Int) : Bool × Bool × Bool × Bool × Bool := (k == 1 || k == 2, k == 1, k == 4, k == 4 || k == 5, k == 1 || k == 4 || k == 5)
theorem hasNumbers_is (A E L G C : Bool) (m : Ml) (h : Hd) (w : World) (d : Bool) (hd : decide (numF A L m) = d) : Calls Try.prog 119 #[.agg #[.bool A, .bool E, .bool L, .bool G, .bool C], .agg #[.int .i64 m.kind, .int .i64 m.fr, .int .i64 m.to, .int .i64 m.view, .int .i64 m.at_, .bool m.has, .int .i64 m.en.1, .int .i64 m.en.2.1, .int .i64 m.en.2.2.1, .int .i64 m.en.2.2.2.1, .int .i64 m.en.2.2.2.2.1, .int .i64 m.en.2.2.2.2.2, .int .i64 m.last, .slice h.1 h.2.1 h.2.2, .int .i64 m.commit]] w fun e w' => e = .returned (.bool d) ∧ Below w.heap.size w w' := by
 unfold numF at hd
 have HD : Hid _ := hd
 clear hd
 cases A <;> cases L
 ·have e : d = true := by rw [← HD.out]; exact decide_eq_true (⟨fun q => absurd q (by simp), fun q => absurd q (by simp)⟩)
  subst e
  clear HD
  go_enter Try.func119, Try.ntmps119
  go_wp2_with (first | ((have g := ob0); clear g; (with_reducible refine box_newX 99 [.int .i64 m.kind, .int .i64 m.fr, .int .i64 m.to, .int .i64 m.view, .int .i64 m.at_, .bool m.has, .int .i64 m.en.1, .int .i64 m.en.2.1, .int .i64 m.en.2.2.1, .int .i64 m.en.2.2.2.1, .int .i64 m.en.2.2.2.2.1, .int .i64 m.en.2.2.2.2.2, .int .i64 m.last, .slice h.1 h.2.1 h.2.2, .int .i64 m.commit] rfl ?_); intro b1 W1 N1; have ob1 := N1.o B; have o0_b1 := N1.u X0; replace X0 := N1.r X0; replace c0 := X0.cell; replace B := N1.n B; obtain ⟨X1, c1⟩ := N1.c; clear N1) | ((with_reducible refine box_newX 159 [.bool false, .bool E, .bool false, .bool G, .bool C] rfl ?_); intro b0 W0 N0; have ob0 := N0.ge; have B := N0.below; obtain ⟨X0, c0⟩ := N0.c; clear N0))
  go_ret
  exact ⟨rfl, B⟩
 ·by_cases hl : 0 ≤ m.last ∧ m.last ≤ m.view
  rotate_left 1
  ·have e : d = false := by rw [← HD.out]; exact decide_eq_false (fun y => hl (y.2 rfl))
   subst e
   clear HD
   go_enter Try.func119, Try.ntmps119
   go_wp2_with (first | ((have g := ob0); clear g; (with_reducible refine box_newX 99 [.int .i64 m.kind, .int .i64 m.fr, .int .i64 m.to, .int .i64 m.view, .int .i64 m.at_, .bool m.has, .int .i64 m.en.1, .int .i64 m.en.2.1, .int .i64 m.en.2.2.1, .int .i64 m.en.2.2.2.1, .int .i64 m.en.2.2.2.2.1, .int .i64 m.en.2.2.2.2.2, .int .i64 m.last, .slice h.1 h.2.1 h.2.2, .int .i64 m.commit] rfl ?_); intro b1 W1 N1; have ob1 := N1.o B; have o0_b1 := N1.u X0; replace X0 := N1.r X0; replace c0 := X0.cell; replace B := N1.n B; obtain ⟨X1, c1⟩ := N1.c; clear N1) | ((with_reducible refine box_newX 159 [.bool false, .bool E, .bool true, .bool G, .bool C] rfl ?_); intro b0 W0 N0; have ob0 := N0.ge; have B := N0.below; obtain ⟨X0, c0⟩ := N0.c; clear N0) | fail)
   refine (isUpTo_is m.last m.view _ false (by simp only [decide_eq_false_eq]; exact hl)).mono ?_
   rintro e W9 ⟨rfl, rfl⟩
   go_wp2
   go_ret
   exact ⟨rfl, B⟩
  have e : d = true := by rw [← HD.out]; exact decide_eq_true (⟨fun q => absurd q (by simp), fun _ => hl⟩)
  subst e
  clear HD
  go_enter Try.func119, Try.ntmps119
  go_wp2_with (first | ((have g := ob0); clear g; (with_reducible refine box_newX 99 [.int .i64 m.kind, .int .i64 m.fr, .int .i64 m.to, .int .i64 m.view, .int .i64 m.at_, .bool m.has, .int .i64 m.en.1, .int .i64 m.en.2.1, .int .i64 m.en.2.2.1, .int .i64 m.en.2.2.2.1, .int .i64 m.en.2.2.2.2.1, .int .i64 m.en.2.2.2.2.2, .int .i64 m.last, .slice h.1 h.2.1 h.2.2, .int .i64 m.commit] rfl ?_); intro b1 W1 N1; have ob1 := N1.o B; have o0_b1 := N1.u X0; replace X0 := N1.r X0; replace c0 := X0.cell; replace B := N1.n B; obtain ⟨X1, c1⟩ := N1.c; clear N1) | ((with_reducible refine box_newX 159 [.bool false, .bool E, .bool true, .bool G, .bool C] rfl ?_); intro b0 W0 N0; have ob0 := N0.ge; have B := N0.below; obtain ⟨X0, c0⟩ := N0.c; clear N0) | fail)
  refine (isUpTo_is m.last m.view _ true (by simp only [decide_eq_true_eq]; exact hl)).mono ?_
  rintro e W9 ⟨rfl, rfl⟩
  go_wp2
  go_ret
  exact ⟨rfl, B⟩
 ·by_cases ha : 0 ≤ m.at_ ∧ m.at_ ≤ 40
  rotate_left 1
  ·have e : d = false := by rw [← HD.out]; exact decide_eq_false (fun y => ha (y.1 rfl))
   subst e
   clear HD
   go_enter Try.func119, Try.ntmps119
   go_wp2_with (first | ((have g := ob0); clear g; (with_reducible refine box_newX 99 [.int .i64 m.kind, .int .i64 m.fr, .int .i64 m.to, .int .i64 m.view, .int .i64 m.at_, .bool m.has, .int .i64 m.en.1, .int .i64 m.en.2.1, .int .i64 m.en.2.2.1, .int .i64 m.en.2.2.2.1, .int .i64 m.en.2.2.2.2.1, .int .i64 m.en.2.2.2.2.2, .int .i64 m.last, .slice h.1 h.2.1 h.2.2, .int .i64 m.commit] rfl ?_); intro b1 W1 N1; have ob1 := N1.o B; have o0_b1 := N1.u X0; replace X0 := N1.r X0; replace c0 := X0.cell; replace B := N1.n B; obtain ⟨X1, c1⟩ := N1.c; clear N1) | ((with_reducible refine box_newX 159 [.bool true, .bool E, .bool false, .bool G, .bool C] rfl ?_); intro b0 W0 N0; have ob0 := N0.ge; have B := N0.below; obtain ⟨X0, c0⟩ := N0.c; clear N0) | fail)
   refine (isUpTo_is m.at_ 40 _ false (by simp only [decide_eq_false_eq]; exact ha)).mono ?_
   rintro e W9 ⟨rfl, rfl⟩
   go_wp2
   go_ret
   exact ⟨rfl, B⟩
  have e : d = true := by rw [← HD.out]; exact decide_eq_true (⟨fun _ => ha, fun q => absurd q (by simp)⟩)
  subst e
  clear HD
  go_enter Try.func119, Try.ntmps119
  go_wp2_with (first | ((have g := ob0); clear g; (with_reducible refine box_newX 99 [.int .i64 m.kind, .int .i64 m.fr, .int .i64 m.to, .int .i64 m.view, .int .i64 m.at_, .bool m.has, .int .i64 m.en.1, .int .i64 m.en.2.1, .int .i64 m.en.2.2.1, .int .i64 m.en.2.2.2.1, .int .i64 m.en.2.2.2.2.1, .int .i64 m.en.2.2.2.2.2, .int .i64 m.last, .slice h.1 h.2.1 h.2.2, .int .i64 m.commit] rfl ?_); intro b1 W1 N1; have ob1 := N1.o B; have o0_b1 := N1.u X0; replace X0 := N1.r X0; replace c0 := X0.cell; replace B := N1.n B; obtain ⟨X1, c1⟩ := N1.c; clear N1) | ((with_reducible refine box_newX 159 [.bool true, .bool E, .bool false, .bool G, .bool C] rfl ?_); intro b0 W0 N0; have ob0 := N0.ge; have B := N0.below; obtain ⟨X0, c0⟩ := N0.c; clear N0) | fail)
  refine (isUpTo_is m.at_ 40 _ true (by simp only [decide_eq_true_eq]; exact ha)).mono ?_
  rintro e W9 ⟨rfl, rfl⟩
  go_wp2
  go_ret
  exact ⟨rfl, B⟩
 ·by_cases ha : 0 ≤ m.at_ ∧ m.at_ ≤ 40
  rotate_left 1
  ·have e : d = false := by rw [← HD.out]; exact decide_eq_false (fun y => ha (y.1 rfl))
   subst e
   clear HD
   go_enter Try.func119, Try.ntmps119
   go_wp2_with (first | ((have g := ob0); clear g; (with_reducible refine box_newX 99 [.int .i64 m.kind, .int .i64 m.fr, .int .i64 m.to, .int .i64 m.view, .int .i64 m.at_, .bool m.has, .int .i64 m.en.1, .int .i64 m.en.2.1, .int .i64 m.en.2.2.1, .int .i64 m.en.2.2.2.1, .int .i64 m.en.2.2.2.2.1, .int .i64 m.en.2.2.2.2.2, .int .i64 m.last, .slice h.1 h.2.1 h.2.2, .int .i64 m.commit] rfl ?_); intro b1 W1 N1; have ob1 := N1.o B; have o0_b1 := N1.u X0; replace X0 := N1.r X0; replace c0 := X0.cell; replace B := N1.n B; obtain ⟨X1, c1⟩ := N1.c; clear N1) | ((with_reducible refine box_newX 159 [.bool true, .bool E, .bool true, .bool G, .bool C] rfl ?_); intro b0 W0 N0; have ob0 := N0.ge; have B := N0.below; obtain ⟨X0, c0⟩ := N0.c; clear N0) | fail)
   refine (isUpTo_is m.at_ 40 _ false (by simp only [decide_eq_false_eq]; exact ha)).mono ?_
   rintro e W9 ⟨rfl, rfl⟩
   go_wp2
   go_ret
   exact ⟨rfl, B⟩
  by_cases hl : 0 ≤ m.last ∧ m.last ≤ m.view
  rotate_left 1
  ·have e : d = false := by rw [← HD.out]; exact decide_eq_false (fun y => hl (y.2 rfl))
   subst e
   clear HD
   go_enter Try.func119, Try.ntmps119
   go_wp2_with (first | ((have g := ob0); clear g; (with_reducible refine box_newX 99 [.int .i64 m.kind, .int .i64 m.fr, .int .i64 m.to, .int .i64 m.view, .int .i64 m.at_, .bool m.has, .int .i64 m.en.1, .int .i64 m.en.2.1, .int .i64 m.en.2.2.1, .int .i64 m.en.2.2.2.1, .int .i64 m.en.2.2.2.2.1, .int .i64 m.en.2.2.2.2.2, .int .i64 m.last, .slice h.1 h.2.1 h.2.2, .int .i64 m.commit] rfl ?_); intro b1 W1 N1; have ob1 := N1.o B; have o0_b1 := N1.u X0; replace X0 := N1.r X0; replace c0 := X0.cell; replace B := N1.n B; obtain ⟨X1, c1⟩ := N1.c; clear N1) | ((with_reducible refine box_newX 159 [.bool true, .bool E, .bool true, .bool G, .bool C] rfl ?_); intro b0 W0 N0; have ob0 := N0.ge; have B := N0.below; obtain ⟨X0, c0⟩ := N0.c; clear N0) | fail)
   refine (isUpTo_is m.at_ 40 _ true (by simp only [decide_eq_true_eq]; exact ha)).mono ?_
   rintro e W9 ⟨rfl, rfl⟩
   go_wp2_with fail
   refine (isUpTo_is m.last m.view _ false (by simp only [decide_eq_false_eq]; exact hl)).mono ?_
   rintro e W9 ⟨rfl, rfl⟩
   go_wp2
   go_ret
   exact ⟨rfl, B⟩
  have e : d = true := by rw [← HD.out]; exact decide_eq_true (⟨fun _ => ha, fun _ => hl⟩)
  subst e
  clear HD
  go_enter Try.func119, Try.ntmps119
  go_wp2_with (first | ((have g := ob0); clear g; (with_reducible refine box_newX 99 [.int .i64 m.kind, .int .i64 m.fr, .int .i64 m.to, .int .i64 m.view, .int .i64 m.at_, .bool m.has, .int .i64 m.en.1, .int .i64 m.en.2.1, .int .i64 m.en.2.2.1, .int .i64 m.en.2.2.2.1, .int .i64 m.en.2.2.2.2.1, .int .i64 m.en.2.2.2.2.2, .int .i64 m.last, .slice h.1 h.2.1 h.2.2, .int .i64 m.commit] rfl ?_); intro b1 W1 N1; have ob1 := N1.o B; have o0_b1 := N1.u X0; replace X0 := N1.r X0; replace c0 := X0.cell; replace B := N1.n B; obtain ⟨X1, c1⟩ := N1.c; clear N1) | ((with_reducible refine box_newX 159 [.bool true, .bool E, .bool true, .bool G, .bool C] rfl ?_); intro b0 W0 N0; have ob0 := N0.ge; have B := N0.below; obtain ⟨X0, c0⟩ := N0.c; clear N0) | fail)
  refine (isUpTo_is m.at_ 40 _ true (by simp only [decide_eq_true_eq]; exact ha)).mono ?_
  rintro e W9 ⟨rfl, rfl⟩
  go_wp2_with fail
  refine (isUpTo_is m.last m.view _ true (by simp only [decide_eq_true_eq]; exact hl)).mono ?_
  rintro e W9 ⟨rfl, rfl⟩
  go_wp2
  go_ret
  exact ⟨rfl, B⟩
theorem agreedFault_is {own : Bool} {lo hi : Nat} (A E L G C : Bool) (m : Ml) (h : Hd) (w : World) (x : RowAt w own lo hi 6 h.1 h.2.1 h.2.2 (sixs m.log)) (d : Int) (hd : agrF G C m = d) : Calls Try.prog 120 #[.agg #[.bool A, .bool E, .bool L, .bool G, .bool C], .agg #[.int .i64 m.kind, .int .i64 m.fr, .int .i64 m.to, .int .i64 m.view, .int .i64 m.at_, .bool m.has, .int .i64 m.en.1, .int .i64 m.en.2.1, .int .i64 m.en.2.2.1, .int .i64 m.en.2.2.2.1, .int .i64 m.en.2.2.2.2.1, .int .i64 m.en.2.2.2.2.2, .int .i64 m.last, .slice h.1 h.2.1 h.2.2, .int .i64 m.commit]] w fun e w' => e = .returned (.int .i64 d) ∧ Below w.heap.size w w' := by
 unfold agrF at hd
 cases G
 ·rw [if_neg (by simp)] at hd
  cases C
  ·rw [if_neg (by simp)] at hd
   subst hd
   go_enter Try.func120, Try.ntmps120
   go_wp2_with (first | ((have g := ob0); clear g; (with_reducible refine box_newX 99 [.int .i64 m.kind, .int .i64 m.fr, .int .i64 m.to, .int .i64 m.view, .int .i64 m.at_, .bool m.has, .int .i64 m.en.1, .int .i64 m.en.2.1, .int .i64 m.en.2.2.1, .int .i64 m.en.2.2.2.1, .int .i64 m.en.2.2.2.2.1, .int .i64 m.en.2.2.2.2.2, .int .i64 m.last, .slice h.1 h.2.1 h.2.2, .int .i64 m.commit] rfl ?_); intro b1 W1 N1; have ob1 := N1.o B; have o0_b1 := N1.u X0; replace X0 := N1.r X0; replace c0 := X0.cell; replace B := N1.n B; obtain ⟨X1, c1⟩ := N1.c; clear N1) | ((with_reducible refine box_newX 159 [.bool A, .bool E, .bool L, .bool false, .bool false] rfl ?_); intro b0 W0 N0; have ob0 := N0.ge; have B := N0.below; obtain ⟨X0, c0⟩ := N0.c; clear N0))
   go_ret
   exact ⟨rfl, B⟩
  ·by_cases hc : 0 ≤ m.commit ∧ m.commit ≤ 40
   ·rw [if_neg (by simp [hc])] at hd
    subst hd
    go_enter Try.func120, Try.ntmps120
    go_wp2_with (first | ((have g := ob0); clear g; (with_reducible refine box_newX 99 [.int .i64 m.kind, .int .i64 m.fr, .int .i64 m.to, .int .i64 m.view, .int .i64 m.at_, .bool m.has, .int .i64 m.en.1, .int .i64 m.en.2.1, .int .i64 m.en.2.2.1, .int .i64 m.en.2.2.2.1, .int .i64 m.en.2.2.2.2.1, .int .i64 m.en.2.2.2.2.2, .int .i64 m.last, .slice h.1 h.2.1 h.2.2, .int .i64 m.commit] rfl ?_); intro b1 W1 N1; have ob1 := N1.o B; have o0_b1 := N1.u X0; replace X0 := N1.r X0; replace c0 := X0.cell; replace B := N1.n B; obtain ⟨X1, c1⟩ := N1.c; clear N1) | ((with_reducible refine box_newX 159 [.bool A, .bool E, .bool L, .bool false, .bool true] rfl ?_); intro b0 W0 N0; have ob0 := N0.ge; have B := N0.below; obtain ⟨X0, c0⟩ := N0.c; clear N0) | fail)
    refine (isUpTo_is m.commit 40 _ true (by simp only [decide_eq_true_eq]; exact hc)).mono ?_
    rintro e W9 ⟨rfl, rfl⟩
    go_wp2
    go_ret
    exact ⟨rfl, B⟩
   ·rw [if_pos ⟨rfl, hc⟩] at hd
    subst hd
    go_enter Try.func120, Try.ntmps120
    go_wp2_with (first | ((have g := ob0); clear g; (with_reducible refine box_newX 99 [.int .i64 m.kind, .int .i64 m.fr, .int .i64 m.to, .int .i64 m.view, .int .i64 m.at_, .bool m.has, .int .i64 m.en.1, .int .i64 m.en.2.1, .int .i64 m.en.2.2.1, .int .i64 m.en.2.2.2.1, .int .i64 m.en.2.2.2.2.1, .int .i64 m.en.2.2.2.2.2, .int .i64 m.last, .slice h.1 h.2.1 h.2.2, .int .i64 m.commit] rfl ?_); intro b1 W1 N1; have ob1 := N1.o B; have o0_b1 := N1.u X0; replace X0 := N1.r X0; replace c0 := X0.cell; replace B := N1.n B; obtain ⟨X1, c1⟩ := N1.c; clear N1) | ((with_reducible refine box_newX 159 [.bool A, .bool E, .bool L, .bool false, .bool true] rfl ?_); intro b0 W0 N0; have ob0 := N0.ge; have B := N0.below; obtain ⟨X0, c0⟩ := N0.c; clear N0) | fail)
    refine (isUpTo_is m.commit 40 _ false (by simp only [decide_eq_false_eq]; exact hc)).mono ?_
    rintro e W9 ⟨rfl, rfl⟩
    go_wp2
    go_ret
    exact ⟨rfl, B⟩
 ·rw [if_pos rfl] at hd
  go_enter Try.func120, Try.ntmps120
  go_wp2_with (first | ((have g := ob0); clear g; (with_reducible refine box_newX 99 [.int .i64 m.kind, .int .i64 m.fr, .int .i64 m.to, .int .i64 m.view, .int .i64 m.at_, .bool m.has, .int .i64 m.en.1, .int .i64 m.en.2.1, .int .i64 m.en.2.2.1, .int .i64 m.en.2.2.2.1, .int .i64 m.en.2.2.2.2.1, .int .i64 m.en.2.2.2.2.2, .int .i64 m.last, .slice h.1 h.2.1 h.2.2, .int .i64 m.commit] rfl ?_); intro b1 W1 N1; have ob1 := N1.o B; have o0_b1 := N1.u X0; replace X0 := N1.r X0; replace c0 := X0.cell; replace B := N1.n B; obtain ⟨X1, c1⟩ := N1.c; clear N1) | ((with_reducible refine box_newX 159 [.bool A, .bool E, .bool L, .bool true, .bool C] rfl ?_); intro b0 W0 N0; have ob0 := N0.ge; have B := N0.below; obtain ⟨X0, c0⟩ := N0.c; clear N0) | fail)
  refine (logFaultWith_is _ _ _ m.log m.commit _ (x.below B) d hd).mono ?_
  rintro e w1 ⟨rfl, BB⟩
  replace X0 := X0.below BB
  replace c0 := X0.cell
  replace X1 := X1.below BB
  replace c1 := X1.cell
  replace B := below_next B BB
  clear BB
  go_wp2
  go_ret
  exact ⟨rfl, B⟩
theorem isExc1_is (m : Ml) (h : Hd) (hL : m.log.length = h.2.1) (w : World) (d : Bool) (hd : decide (excF true true false false true m) = d) : Calls Try.prog 121 #[.agg #[.bool true, .bool true, .bool false, .bool false, .bool true], .agg #[.int .i64 m.kind, .int .i64 m.fr, .int .i64 m.to, .int .i64 m.view, .int .i64 m.at_, .bool m.has, .int .i64 m.en.1, .int .i64 m.en.2.1, .int .i64 m.en.2.2.1, .int .i64 m.en.2.2.2.1, .int .i64 m.en.2.2.2.2.1, .int .i64 m.en.2.2.2.2.2, .int .i64 m.last, .slice h.1 h.2.1 h.2.2, .int .i64 m.commit]] w fun e w' => e = .returned (.bool d) ∧ Below w.heap.size w w' := by
 have HT : Hid (excF true true false false true m → d = true) := fun y => by rw [← hd]; exact decide_eq_true y
 have HF : Hid (¬ excF true true false false true m → d = false) := fun y => by rw [← hd]; exact decide_eq_false y
 clear hd
 unfold excF at HT HF
 rw [hL] at HT HF
 clear hL
 have RG := run_guEn
 obtain ⟨kind, fr, to, view, at_, has, ⟨x0, x1, x2, x3, x4, x5⟩, last, log, commit⟩ := m
 simp only at HT HF
 cases has
 ·by_cases q1 : ((x0, x1, x2, x3, x4, x5) : En) = en0
  rotate_left 1
  ·have RE := run_neEn x0 x1 x2 x3 x4 x5 0 0 0 0 0 0 false (by simp only [decide_eq_false_eq]; exact q1)
   have e : d = true := HT.out (Or.inr (Or.inl ⟨by first | trivial | rfl, q1⟩))
   subst e
   clear HT HF
   go_enter Try.func121, Try.ntmps121
   go_wp2_with (first | ((have g := ob0); clear g; (with_reducible refine box_newX 99 [.int .i64 kind, .int .i64 fr, .int .i64 to, .int .i64 view, .int .i64 at_, .bool false, .int .i64 x0, .int .i64 x1, .int .i64 x2, .int .i64 x3, .int .i64 x4, .int .i64 x5, .int .i64 last, .slice h.1 h.2.1 h.2.2, .int .i64 commit] rfl ?_); intro b1 W1 N1; have ob1 := N1.o B; have o0_b1 := N1.u X0; replace X0 := N1.r X0; replace c0 := X0.cell; replace B := N1.n B; obtain ⟨X1, c1⟩ := N1.c; clear N1) | ((with_reducible refine box_newX 159 [.bool true, .bool true, .bool false, .bool false, .bool true] rfl ?_); intro b0 W0 N0; have ob0 := N0.ge; have B := N0.below; obtain ⟨X0, c0⟩ := N0.c; clear N0))
   go_ret
   exact ⟨rfl, B⟩
  have RE := run_neEn x0 x1 x2 x3 x4 x5 0 0 0 0 0 0 true (by simp only [decide_eq_true_eq]; exact q1)
  have Q1 : Hid _ := q1
  clear q1
  by_cases q2 : h.2.1 = 0
  rotate_left 1
  ·have q2' : ((h.2.1 : Int) != 0) = true := by simp [q2]
   have e : d = true := HT.out (Or.inr (Or.inr (Or.inl ⟨by first | trivial | rfl, q2⟩)))
   subst e
   clear HT HF
   go_enter Try.func121, Try.ntmps121
   go_wp2_with (first | ((have g := ob0); clear g; (with_reducible refine box_newX 99 [.int .i64 kind, .int .i64 fr, .int .i64 to, .int .i64 view, .int .i64 at_, .bool false, .int .i64 x0, .int .i64 x1, .int .i64 x2, .int .i64 x3, .int .i64 x4, .int .i64 x5, .int .i64 last, .slice h.1 h.2.1 h.2.2, .int .i64 commit] rfl ?_); intro b1 W1 N1; have ob1 := N1.o B; have o0_b1 := N1.u X0; replace X0 := N1.r X0; replace c0 := X0.cell; replace B := N1.n B; obtain ⟨X1, c1⟩ := N1.c; clear N1) | ((with_reducible refine box_newX 159 [.bool true, .bool true, .bool false, .bool false, .bool true] rfl ?_); intro b0 W0 N0; have ob0 := N0.ge; have B := N0.below; obtain ⟨X0, c0⟩ := N0.c; clear N0))
   go_ret
   exact ⟨rfl, B⟩
  have q2' : ((h.2.1 : Int) != 0) = false := by simp [q2]
  have Q2 : Hid _ := q2
  clear q2
  by_cases q4 : last = 0
  rotate_left 1
  ·have q4' : (last != 0) = true := by simp [q4]
   have e : d = true := HT.out (Or.inr (Or.inr (Or.inr (Or.inr (Or.inl ⟨by first | trivial | rfl, q4⟩)))))
   subst e
   clear HT HF
   go_enter Try.func121, Try.ntmps121
   go_wp2_with (first | ((have g := ob0); clear g; (with_reducible refine box_newX 99 [.int .i64 kind, .int .i64 fr, .int .i64 to, .int .i64 view, .int .i64 at_, .bool false, .int .i64 x0, .int .i64 x1, .int .i64 x2, .int .i64 x3, .int .i64 x4, .int .i64 x5, .int .i64 last, .slice h.1 h.2.1 h.2.2, .int .i64 commit] rfl ?_); intro b1 W1 N1; have ob1 := N1.o B; have o0_b1 := N1.u X0; replace X0 := N1.r X0; replace c0 := X0.cell; replace B := N1.n B; obtain ⟨X1, c1⟩ := N1.c; clear N1) | ((with_reducible refine box_newX 159 [.bool true, .bool true, .bool false, .bool false, .bool true] rfl ?_); intro b0 W0 N0; have ob0 := N0.ge; have B := N0.below; obtain ⟨X0, c0⟩ := N0.c; clear N0))
   go_ret
   exact ⟨rfl, B⟩
  have q4' : (last != 0) = false := by simp [q4]
  have Q4 : Hid _ := q4
  clear q4
  have e : d = false := HF.out (fun z => z.elim (fun y => absurd y.2 (by simp)) (fun z => z.elim (fun y => y.2 Q1.out) (fun z => z.elim (fun y => y.2 Q2.out) (fun z => z.elim (fun y => absurd y.1 (by simp)) (fun z => z.elim (fun y => y.2 Q4.out) (fun y => absurd y.1 (by simp)))))))
  subst e
  clear HT HF
  go_enter Try.func121, Try.ntmps121
  go_wp2_with (first | ((have g := ob0); clear g; (with_reducible refine box_newX 99 [.int .i64 kind, .int .i64 fr, .int .i64 to, .int .i64 view, .int .i64 at_, .bool false, .int .i64 x0, .int .i64 x1, .int .i64 x2, .int .i64 x3, .int .i64 x4, .int .i64 x5, .int .i64 last, .slice h.1 h.2.1 h.2.2, .int .i64 commit] rfl ?_); intro b1 W1 N1; have ob1 := N1.o B; have o0_b1 := N1.u X0; replace X0 := N1.r X0; replace c0 := X0.cell; replace B := N1.n B; obtain ⟨X1, c1⟩ := N1.c; clear N1) | ((with_reducible refine box_newX 159 [.bool true, .bool true, .bool false, .bool false, .bool true] rfl ?_); intro b0 W0 N0; have ob0 := N0.ge; have B := N0.below; obtain ⟨X0, c0⟩ := N0.c; clear N0))
  go_ret
  exact ⟨rfl, B⟩
 ·by_cases q2 : h.2.1 = 0
  rotate_left 1
  ·have q2' : ((h.2.1 : Int) != 0) = true := by simp [q2]
   have e : d = true := HT.out (Or.inr (Or.inr (Or.inl ⟨by first | trivial | rfl, q2⟩)))
   subst e
   clear HT HF
   go_enter Try.func121, Try.ntmps121
   go_wp2_with (first | ((have g := ob0); clear g; (with_reducible refine box_newX 99 [.int .i64 kind, .int .i64 fr, .int .i64 to, .int .i64 view, .int .i64 at_, .bool true, .int .i64 x0, .int .i64 x1, .int .i64 x2, .int .i64 x3, .int .i64 x4, .int .i64 x5, .int .i64 last, .slice h.1 h.2.1 h.2.2, .int .i64 commit] rfl ?_); intro b1 W1 N1; have ob1 := N1.o B; have o0_b1 := N1.u X0; replace X0 := N1.r X0; replace c0 := X0.cell; replace B := N1.n B; obtain ⟨X1, c1⟩ := N1.c; clear N1) | ((with_reducible refine box_newX 159 [.bool true, .bool true, .bool false, .bool false, .bool true] rfl ?_); intro b0 W0 N0; have ob0 := N0.ge; have B := N0.below; obtain ⟨X0, c0⟩ := N0.c; clear N0))
   go_ret
   exact ⟨rfl, B⟩
  have q2' : ((h.2.1 : Int) != 0) = false := by simp [q2]
  have Q2 : Hid _ := q2
  clear q2
  by_cases q4 : last = 0
  rotate_left 1
  ·have q4' : (last != 0) = true := by simp [q4]
   have e : d = true := HT.out (Or.inr (Or.inr (Or.inr (Or.inr (Or.inl ⟨by first | trivial | rfl, q4⟩)))))
   subst e
   clear HT HF
   go_enter Try.func121, Try.ntmps121
   go_wp2_with (first | ((have g := ob0); clear g; (with_reducible refine box_newX 99 [.int .i64 kind, .int .i64 fr, .int .i64 to, .int .i64 view, .int .i64 at_, .bool true, .int .i64 x0, .int .i64 x1, .int .i64 x2, .int .i64 x3, .int .i64 x4, .int .i64 x5, .int .i64 last, .slice h.1 h.2.1 h.2.2, .int .i64 commit] rfl ?_); intro b1 W1 N1; have ob1 := N1.o B; have o0_b1 := N1.u X0; replace X0 := N1.r X0; replace c0 := X0.cell; replace B := N1.n B; obtain ⟨X1, c1⟩ := N1.c; clear N1) | ((with_reducible refine box_newX 159 [.bool true, .bool true, .bool false, .bool false, .bool true] rfl ?_); intro b0 W0 N0; have ob0 := N0.ge; have B := N0.below; obtain ⟨X0, c0⟩ := N0.c; clear N0))
   go_ret
   exact ⟨rfl, B⟩
  have q4' : (last != 0) = false := by simp [q4]
  have Q4 : Hid _ := q4
  clear q4
  have e : d = false := HF.out (fun z => z.elim (fun y => absurd y.1 (by simp)) (fun z => z.elim (fun y => absurd y.1 (by simp)) (fun z => z.elim (fun y => y.2 Q2.out) (fun z => z.elim (fun y => absurd y.1 (by simp)) (fun z => z.elim (fun y => y.2 Q4.out) (fun y => absurd y.1 (by simp)))))))
  subst e
  clear HT HF
  go_enter Try.func121, Try.ntmps121
  go_wp2_with (first | ((have g := ob0); clear g; (with_reducible refine box_newX 99 [.int .i64 kind, .int .i64 fr, .int .i64 to, .int .i64 view, .int .i64 at_, .bool true, .int .i64 x0, .int .i64 x1, .int .i64 x2, .int .i64 x3, .int .i64 x4, .int .i64 x5, .int .i64 last, .slice h.1 h.2.1 h.2.2, .int .i64 commit] rfl ?_); intro b1 W1 N1; have ob1 := N1.o B; have o0_b1 := N1.u X0; replace X0 := N1.r X0; replace c0 := X0.cell; replace B := N1.n B; obtain ⟨X1, c1⟩ := N1.c; clear N1) | ((with_reducible refine box_newX 159 [.bool true, .bool true, .bool false, .bool false, .bool true] rfl ?_); intro b0 W0 N0; have ob0 := N0.ge; have B := N0.below; obtain ⟨X0, c0⟩ := N0.c; clear N0))
  go_ret
  exact ⟨rfl, B⟩
theorem isExc2_is (m : Ml) (h : Hd) (hL : m.log.length = h.2.1) (w : World) (d : Bool) (hd : decide (excF true false false false false m) = d) : Calls Try.prog 121 #[.agg #[.bool true, .bool false, .bool false, .bool false, .bool false], .agg #[.int .i64 m.kind, .int .i64 m.fr, .int .i64 m.to, .int .i64 m.view, .int .i64 m.at_, .bool m.has, .int .i64 m.en.1, .int .i64 m.en.2.1, .int .i64 m.en.2.2.1, .int .i64 m.en.2.2.2.1, .int .i64 m.en.2.2.2.2.1, .int .i64 m.en.2.2.2.2.2, .int .i64 m.last, .slice h.1 h.2.1 h.2.2, .int .i64 m.commit]] w fun e w' => e = .returned (.bool d) ∧ Below w.heap.size w w' := by
 have HT : Hid (excF true false false false false m → d = true) := fun y => by rw [← hd]; exact decide_eq_true y
 have HF : Hid (¬ excF true false false false false m → d = false) := fun y => by rw [← hd]; exact decide_eq_false y
 clear hd
 unfold excF at HT HF
 rw [hL] at HT HF
 clear hL
 have RG := run_guEn
 obtain ⟨kind, fr, to, view, at_, has, ⟨x0, x1, x2, x3, x4, x5⟩, last, log, commit⟩ := m
 simp only at HT HF
 cases has
 ·by_cases q1 : ((x0, x1, x2, x3, x4, x5) : En) = en0
  rotate_left 1
  ·have RE := run_neEn x0 x1 x2 x3 x4 x5 0 0 0 0 0 0 false (by simp only [decide_eq_false_eq]; exact q1)
   have e : d = true := HT.out (Or.inr (Or.inl ⟨by first | trivial | rfl, q1⟩))
   subst e
   clear HT HF
   go_enter Try.func121, Try.ntmps121
   go_wp2_with (first | ((have g := ob0); clear g; (with_reducible refine box_newX 99 [.int .i64 kind, .int .i64 fr, .int .i64 to, .int .i64 view, .int .i64 at_, .bool false, .int .i64 x0, .int .i64 x1, .int .i64 x2, .int .i64 x3, .int .i64 x4, .int .i64 x5, .int .i64 last, .slice h.1 h.2.1 h.2.2, .int .i64 commit] rfl ?_); intro b1 W1 N1; have ob1 := N1.o B; have o0_b1 := N1.u X0; replace X0 := N1.r X0; replace c0 := X0.cell; replace B := N1.n B; obtain ⟨X1, c1⟩ := N1.c; clear N1) | ((with_reducible refine box_newX 159 [.bool true, .bool false, .bool false, .bool false, .bool false] rfl ?_); intro b0 W0 N0; have ob0 := N0.ge; have B := N0.below; obtain ⟨X0, c0⟩ := N0.c; clear N0))
   go_ret
   exact ⟨rfl, B⟩
  have RE := run_neEn x0 x1 x2 x3 x4 x5 0 0 0 0 0 0 true (by simp only [decide_eq_true_eq]; exact q1)
  have Q1 : Hid _ := q1
  clear q1
  by_cases q2 : h.2.1 = 0
  rotate_left 1
  ·have q2' : ((h.2.1 : Int) != 0) = true := by simp [q2]
   have e : d = true := HT.out (Or.inr (Or.inr (Or.inl ⟨by first | trivial | rfl, q2⟩)))
   subst e
   clear HT HF
   go_enter Try.func121, Try.ntmps121
   go_wp2_with (first | ((have g := ob0); clear g; (with_reducible refine box_newX 99 [.int .i64 kind, .int .i64 fr, .int .i64 to, .int .i64 view, .int .i64 at_, .bool false, .int .i64 x0, .int .i64 x1, .int .i64 x2, .int .i64 x3, .int .i64 x4, .int .i64 x5, .int .i64 last, .slice h.1 h.2.1 h.2.2, .int .i64 commit] rfl ?_); intro b1 W1 N1; have ob1 := N1.o B; have o0_b1 := N1.u X0; replace X0 := N1.r X0; replace c0 := X0.cell; replace B := N1.n B; obtain ⟨X1, c1⟩ := N1.c; clear N1) | ((with_reducible refine box_newX 159 [.bool true, .bool false, .bool false, .bool false, .bool false] rfl ?_); intro b0 W0 N0; have ob0 := N0.ge; have B := N0.below; obtain ⟨X0, c0⟩ := N0.c; clear N0))
   go_ret
   exact ⟨rfl, B⟩
  have q2' : ((h.2.1 : Int) != 0) = false := by simp [q2]
  have Q2 : Hid _ := q2
  clear q2
  by_cases q4 : last = 0
  rotate_left 1
  ·have q4' : (last != 0) = true := by simp [q4]
   have e : d = true := HT.out (Or.inr (Or.inr (Or.inr (Or.inr (Or.inl ⟨by first | trivial | rfl, q4⟩)))))
   subst e
   clear HT HF
   go_enter Try.func121, Try.ntmps121
   go_wp2_with (first | ((have g := ob0); clear g; (with_reducible refine box_newX 99 [.int .i64 kind, .int .i64 fr, .int .i64 to, .int .i64 view, .int .i64 at_, .bool false, .int .i64 x0, .int .i64 x1, .int .i64 x2, .int .i64 x3, .int .i64 x4, .int .i64 x5, .int .i64 last, .slice h.1 h.2.1 h.2.2, .int .i64 commit] rfl ?_); intro b1 W1 N1; have ob1 := N1.o B; have o0_b1 := N1.u X0; replace X0 := N1.r X0; replace c0 := X0.cell; replace B := N1.n B; obtain ⟨X1, c1⟩ := N1.c; clear N1) | ((with_reducible refine box_newX 159 [.bool true, .bool false, .bool false, .bool false, .bool false] rfl ?_); intro b0 W0 N0; have ob0 := N0.ge; have B := N0.below; obtain ⟨X0, c0⟩ := N0.c; clear N0))
   go_ret
   exact ⟨rfl, B⟩
  have q4' : (last != 0) = false := by simp [q4]
  have Q4 : Hid _ := q4
  clear q4
  by_cases q5 : commit = 0
  rotate_left 1
  ·have q5' : (commit != 0) = true := by simp [q5]
   have e : d = true := HT.out (Or.inr (Or.inr (Or.inr (Or.inr (Or.inr ⟨by first | trivial | rfl, q5⟩)))))
   subst e
   clear HT HF
   go_enter Try.func121, Try.ntmps121
   go_wp2_with (first | ((have g := ob0); clear g; (with_reducible refine box_newX 99 [.int .i64 kind, .int .i64 fr, .int .i64 to, .int .i64 view, .int .i64 at_, .bool false, .int .i64 x0, .int .i64 x1, .int .i64 x2, .int .i64 x3, .int .i64 x4, .int .i64 x5, .int .i64 last, .slice h.1 h.2.1 h.2.2, .int .i64 commit] rfl ?_); intro b1 W1 N1; have ob1 := N1.o B; have o0_b1 := N1.u X0; replace X0 := N1.r X0; replace c0 := X0.cell; replace B := N1.n B; obtain ⟨X1, c1⟩ := N1.c; clear N1) | ((with_reducible refine box_newX 159 [.bool true, .bool false, .bool false, .bool false, .bool false] rfl ?_); intro b0 W0 N0; have ob0 := N0.ge; have B := N0.below; obtain ⟨X0, c0⟩ := N0.c; clear N0))
   go_ret
   exact ⟨rfl, B⟩
  have q5' : (commit != 0) = false := by simp [q5]
  have Q5 : Hid _ := q5
  clear q5
  have e : d = false := HF.out (fun z => z.elim (fun y => absurd y.2 (by simp)) (fun z => z.elim (fun y => y.2 Q1.out) (fun z => z.elim (fun y => y.2 Q2.out) (fun z => z.elim (fun y => absurd y.1 (by simp)) (fun z => z.elim (fun y => y.2 Q4.out) (fun y => y.2 Q5.out))))))
  subst e
  clear HT HF
  go_enter Try.func121, Try.ntmps121
  go_wp2_with (first | ((have g := ob0); clear g; (with_reducible refine box_newX 99 [.int .i64 kind, .int .i64 fr, .int .i64 to, .int .i64 view, .int .i64 at_, .bool false, .int .i64 x0, .int .i64 x1, .int .i64 x2, .int .i64 x3, .int .i64 x4, .int .i64 x5, .int .i64 last, .slice h.1 h.2.1 h.2.2, .int .i64 commit] rfl ?_); intro b1 W1 N1; have ob1 := N1.o B; have o0_b1 := N1.u X0; replace X0 := N1.r X0; replace c0 := X0.cell; replace B := N1.n B; obtain ⟨X1, c1⟩ := N1.c; clear N1) | ((with_reducible refine box_newX 159 [.bool true, .bool false, .bool false, .bool false, .bool false] rfl ?_); intro b0 W0 N0; have ob0 := N0.ge; have B := N0.below; obtain ⟨X0, c0⟩ := N0.c; clear N0))
  go_ret
  exact ⟨rfl, B⟩
 ·have e : d = true := HT.out (Or.inl ⟨by first | trivial | rfl, by first | trivial | rfl⟩)
  subst e
  clear HT HF
  go_enter Try.func121, Try.ntmps121
  go_wp2_with (first | ((have g := ob0); clear g; (with_reducible refine box_newX 99 [.int .i64 kind, .int .i64 fr, .int .i64 to, .int .i64 view, .int .i64 at_, .bool true, .int .i64 x0, .int .i64 x1, .int .i64 x2, .int .i64 x3, .int .i64 x4, .int .i64 x5, .int .i64 last, .slice h.1 h.2.1 h.2.2, .int .i64 commit] rfl ?_); intro b1 W1 N1; have ob1 := N1.o B; have o0_b1 := N1.u X0; replace X0 := N1.r X0; replace c0 := X0.cell; replace B := N1.n B; obtain ⟨X1, c1⟩ := N1.c; clear N1) | ((with_reducible refine box_newX 159 [.bool true, .bool false, .bool false, .bool false, .bool false] rfl ?_); intro b0 W0 N0; have ob0 := N0.ge; have B := N0.below; obtain ⟨X0, c0⟩ := N0.c; clear N0))
  go_ret
  exact ⟨rfl, B⟩
theorem isExc3_is (m : Ml) (h : Hd) (hL : m.log.length = h.2.1) (w : World) (d : Bool) (hd : decide (excF false false false false false m) = d) : Calls Try.prog 121 #[.agg #[.bool false, .bool false, .bool false, .bool false, .bool false], .agg #[.int .i64 m.kind, .int .i64 m.fr, .int .i64 m.to, .int .i64 m.view, .int .i64 m.at_, .bool m.has, .int .i64 m.en.1, .int .i64 m.en.2.1, .int .i64 m.en.2.2.1, .int .i64 m.en.2.2.2.1, .int .i64 m.en.2.2.2.2.1, .int .i64 m.en.2.2.2.2.2, .int .i64 m.last, .slice h.1 h.2.1 h.2.2, .int .i64 m.commit]] w fun e w' => e = .returned (.bool d) ∧ Below w.heap.size w w' := by
 have HT : Hid (excF false false false false false m → d = true) := fun y => by rw [← hd]; exact decide_eq_true y
 have HF : Hid (¬ excF false false false false false m → d = false) := fun y => by rw [← hd]; exact decide_eq_false y
 clear hd
 unfold excF at HT HF
 rw [hL] at HT HF
 clear hL
 have RG := run_guEn
 obtain ⟨kind, fr, to, view, at_, has, ⟨x0, x1, x2, x3, x4, x5⟩, last, log, commit⟩ := m
 simp only at HT HF
 cases has
 ·by_cases q1 : ((x0, x1, x2, x3, x4, x5) : En) = en0
  rotate_left 1
  ·have RE := run_neEn x0 x1 x2 x3 x4 x5 0 0 0 0 0 0 false (by simp only [decide_eq_false_eq]; exact q1)
   have e : d = true := HT.out (Or.inr (Or.inl ⟨by first | trivial | rfl, q1⟩))
   subst e
   clear HT HF
   go_enter Try.func121, Try.ntmps121
   go_wp2_with (first | ((have g := ob0); clear g; (with_reducible refine box_newX 99 [.int .i64 kind, .int .i64 fr, .int .i64 to, .int .i64 view, .int .i64 at_, .bool false, .int .i64 x0, .int .i64 x1, .int .i64 x2, .int .i64 x3, .int .i64 x4, .int .i64 x5, .int .i64 last, .slice h.1 h.2.1 h.2.2, .int .i64 commit] rfl ?_); intro b1 W1 N1; have ob1 := N1.o B; have o0_b1 := N1.u X0; replace X0 := N1.r X0; replace c0 := X0.cell; replace B := N1.n B; obtain ⟨X1, c1⟩ := N1.c; clear N1) | ((with_reducible refine box_newX 159 [.bool false, .bool false, .bool false, .bool false, .bool false] rfl ?_); intro b0 W0 N0; have ob0 := N0.ge; have B := N0.below; obtain ⟨X0, c0⟩ := N0.c; clear N0))
   go_ret
   exact ⟨rfl, B⟩
  have RE := run_neEn x0 x1 x2 x3 x4 x5 0 0 0 0 0 0 true (by simp only [decide_eq_true_eq]; exact q1)
  have Q1 : Hid _ := q1
  clear q1
  by_cases q2 : h.2.1 = 0
  rotate_left 1
  ·have q2' : ((h.2.1 : Int) != 0) = true := by simp [q2]
   have e : d = true := HT.out (Or.inr (Or.inr (Or.inl ⟨by first | trivial | rfl, q2⟩)))
   subst e
   clear HT HF
   go_enter Try.func121, Try.ntmps121
   go_wp2_with (first | ((have g := ob0); clear g; (with_reducible refine box_newX 99 [.int .i64 kind, .int .i64 fr, .int .i64 to, .int .i64 view, .int .i64 at_, .bool false, .int .i64 x0, .int .i64 x1, .int .i64 x2, .int .i64 x3, .int .i64 x4, .int .i64 x5, .int .i64 last, .slice h.1 h.2.1 h.2.2, .int .i64 commit] rfl ?_); intro b1 W1 N1; have ob1 := N1.o B; have o0_b1 := N1.u X0; replace X0 := N1.r X0; replace c0 := X0.cell; replace B := N1.n B; obtain ⟨X1, c1⟩ := N1.c; clear N1) | ((with_reducible refine box_newX 159 [.bool false, .bool false, .bool false, .bool false, .bool false] rfl ?_); intro b0 W0 N0; have ob0 := N0.ge; have B := N0.below; obtain ⟨X0, c0⟩ := N0.c; clear N0))
   go_ret
   exact ⟨rfl, B⟩
  have q2' : ((h.2.1 : Int) != 0) = false := by simp [q2]
  have Q2 : Hid _ := q2
  clear q2
  by_cases q3 : at_ = 0
  rotate_left 1
  ·have q3' : (at_ != 0) = true := by simp [q3]
   have e : d = true := HT.out (Or.inr (Or.inr (Or.inr (Or.inl ⟨by first | trivial | rfl, q3⟩))))
   subst e
   clear HT HF
   go_enter Try.func121, Try.ntmps121
   go_wp2_with (first | ((have g := ob0); clear g; (with_reducible refine box_newX 99 [.int .i64 kind, .int .i64 fr, .int .i64 to, .int .i64 view, .int .i64 at_, .bool false, .int .i64 x0, .int .i64 x1, .int .i64 x2, .int .i64 x3, .int .i64 x4, .int .i64 x5, .int .i64 last, .slice h.1 h.2.1 h.2.2, .int .i64 commit] rfl ?_); intro b1 W1 N1; have ob1 := N1.o B; have o0_b1 := N1.u X0; replace X0 := N1.r X0; replace c0 := X0.cell; replace B := N1.n B; obtain ⟨X1, c1⟩ := N1.c; clear N1) | ((with_reducible refine box_newX 159 [.bool false, .bool false, .bool false, .bool false, .bool false] rfl ?_); intro b0 W0 N0; have ob0 := N0.ge; have B := N0.below; obtain ⟨X0, c0⟩ := N0.c; clear N0))
   go_ret
   exact ⟨rfl, B⟩
  have q3' : (at_ != 0) = false := by simp [q3]
  have Q3 : Hid _ := q3
  clear q3
  by_cases q4 : last = 0
  rotate_left 1
  ·have q4' : (last != 0) = true := by simp [q4]
   have e : d = true := HT.out (Or.inr (Or.inr (Or.inr (Or.inr (Or.inl ⟨by first | trivial | rfl, q4⟩)))))
   subst e
   clear HT HF
   go_enter Try.func121, Try.ntmps121
   go_wp2_with (first | ((have g := ob0); clear g; (with_reducible refine box_newX 99 [.int .i64 kind, .int .i64 fr, .int .i64 to, .int .i64 view, .int .i64 at_, .bool false, .int .i64 x0, .int .i64 x1, .int .i64 x2, .int .i64 x3, .int .i64 x4, .int .i64 x5, .int .i64 last, .slice h.1 h.2.1 h.2.2, .int .i64 commit] rfl ?_); intro b1 W1 N1; have ob1 := N1.o B; have o0_b1 := N1.u X0; replace X0 := N1.r X0; replace c0 := X0.cell; replace B := N1.n B; obtain ⟨X1, c1⟩ := N1.c; clear N1) | ((with_reducible refine box_newX 159 [.bool false, .bool false, .bool false, .bool false, .bool false] rfl ?_); intro b0 W0 N0; have ob0 := N0.ge; have B := N0.below; obtain ⟨X0, c0⟩ := N0.c; clear N0))
   go_ret
   exact ⟨rfl, B⟩
  have q4' : (last != 0) = false := by simp [q4]
  have Q4 : Hid _ := q4
  clear q4
  by_cases q5 : commit = 0
  rotate_left 1
  ·have q5' : (commit != 0) = true := by simp [q5]
   have e : d = true := HT.out (Or.inr (Or.inr (Or.inr (Or.inr (Or.inr ⟨by first | trivial | rfl, q5⟩)))))
   subst e
   clear HT HF
   go_enter Try.func121, Try.ntmps121
   go_wp2_with (first | ((have g := ob0); clear g; (with_reducible refine box_newX 99 [.int .i64 kind, .int .i64 fr, .int .i64 to, .int .i64 view, .int .i64 at_, .bool false, .int .i64 x0, .int .i64 x1, .int .i64 x2, .int .i64 x3, .int .i64 x4, .int .i64 x5, .int .i64 last, .slice h.1 h.2.1 h.2.2, .int .i64 commit] rfl ?_); intro b1 W1 N1; have ob1 := N1.o B; have o0_b1 := N1.u X0; replace X0 := N1.r X0; replace c0 := X0.cell; replace B := N1.n B; obtain ⟨X1, c1⟩ := N1.c; clear N1) | ((with_reducible refine box_newX 159 [.bool false, .bool false, .bool false, .bool false, .bool false] rfl ?_); intro b0 W0 N0; have ob0 := N0.ge; have B := N0.below; obtain ⟨X0, c0⟩ := N0.c; clear N0))
   go_ret
   exact ⟨rfl, B⟩
  have q5' : (commit != 0) = false := by simp [q5]
  have Q5 : Hid _ := q5
  clear q5
  have e : d = false := HF.out (fun z => z.elim (fun y => absurd y.2 (by simp)) (fun z => z.elim (fun y => y.2 Q1.out) (fun z => z.elim (fun y => y.2 Q2.out) (fun z => z.elim (fun y => y.2 Q3.out) (fun z => z.elim (fun y => y.2 Q4.out) (fun y => y.2 Q5.out))))))
  subst e
  clear HT HF
  go_enter Try.func121, Try.ntmps121
  go_wp2_with (first | ((have g := ob0); clear g; (with_reducible refine box_newX 99 [.int .i64 kind, .int .i64 fr, .int .i64 to, .int .i64 view, .int .i64 at_, .bool false, .int .i64 x0, .int .i64 x1, .int .i64 x2, .int .i64 x3, .int .i64 x4, .int .i64 x5, .int .i64 last, .slice h.1 h.2.1 h.2.2, .int .i64 commit] rfl ?_); intro b1 W1 N1; have ob1 := N1.o B; have o0_b1 := N1.u X0; replace X0 := N1.r X0; replace c0 := X0.cell; replace B := N1.n B; obtain ⟨X1, c1⟩ := N1.c; clear N1) | ((with_reducible refine box_newX 159 [.bool false, .bool false, .bool false, .bool false, .bool false] rfl ?_); intro b0 W0 N0; have ob0 := N0.ge; have B := N0.below; obtain ⟨X0, c0⟩ := N0.c; clear N0))
  go_ret
  exact ⟨rfl, B⟩
 ·have e : d = true := HT.out (Or.inl ⟨by first | trivial | rfl, by first | trivial | rfl⟩)
  subst e
  clear HT HF
  go_enter Try.func121, Try.ntmps121
  go_wp2_with (first | ((have g := ob0); clear g; (with_reducible refine box_newX 99 [.int .i64 kind, .int .i64 fr, .int .i64 to, .int .i64 view, .int .i64 at_, .bool true, .int .i64 x0, .int .i64 x1, .int .i64 x2, .int .i64 x3, .int .i64 x4, .int .i64 x5, .int .i64 last, .slice h.1 h.2.1 h.2.2, .int .i64 commit] rfl ?_); intro b1 W1 N1; have ob1 := N1.o B; have o0_b1 := N1.u X0; replace X0 := N1.r X0; replace c0 := X0.cell; replace B := N1.n B; obtain ⟨X1, c1⟩ := N1.c; clear N1) | ((with_reducible refine box_newX 159 [.bool false, .bool false, .bool false, .bool false, .bool false] rfl ?_); intro b0 W0 N0; have ob0 := N0.ge; have B := N0.below; obtain ⟨X0, c0⟩ := N0.c; clear N0))
  go_ret
  exact ⟨rfl, B⟩
theorem isExc4_is (m : Ml) (h : Hd) (hL : m.log.length = h.2.1) (w : World) (d : Bool) (hd : decide (excF false false true true true m) = d) : Calls Try.prog 121 #[.agg #[.bool false, .bool false, .bool true, .bool true, .bool true], .agg #[.int .i64 m.kind, .int .i64 m.fr, .int .i64 m.to, .int .i64 m.view, .int .i64 m.at_, .bool m.has, .int .i64 m.en.1, .int .i64 m.en.2.1, .int .i64 m.en.2.2.1, .int .i64 m.en.2.2.2.1, .int .i64 m.en.2.2.2.2.1, .int .i64 m.en.2.2.2.2.2, .int .i64 m.last, .slice h.1 h.2.1 h.2.2, .int .i64 m.commit]] w fun e w' => e = .returned (.bool d) ∧ Below w.heap.size w w' := by
 have HT : Hid (excF false false true true true m → d = true) := fun y => by rw [← hd]; exact decide_eq_true y
 have HF : Hid (¬ excF false false true true true m → d = false) := fun y => by rw [← hd]; exact decide_eq_false y
 clear hd
 unfold excF at HT HF
 rw [hL] at HT HF
 clear hL
 have RG := run_guEn
 obtain ⟨kind, fr, to, view, at_, has, ⟨x0, x1, x2, x3, x4, x5⟩, last, log, commit⟩ := m
 simp only at HT HF
 cases has
 ·by_cases q1 : ((x0, x1, x2, x3, x4, x5) : En) = en0
  rotate_left 1
  ·have RE := run_neEn x0 x1 x2 x3 x4 x5 0 0 0 0 0 0 false (by simp only [decide_eq_false_eq]; exact q1)
   have e : d = true := HT.out (Or.inr (Or.inl ⟨by first | trivial | rfl, q1⟩))
   subst e
   clear HT HF
   go_enter Try.func121, Try.ntmps121
   go_wp2_with (first | ((have g := ob0); clear g; (with_reducible refine box_newX 99 [.int .i64 kind, .int .i64 fr, .int .i64 to, .int .i64 view, .int .i64 at_, .bool false, .int .i64 x0, .int .i64 x1, .int .i64 x2, .int .i64 x3, .int .i64 x4, .int .i64 x5, .int .i64 last, .slice h.1 h.2.1 h.2.2, .int .i64 commit] rfl ?_); intro b1 W1 N1; have ob1 := N1.o B; have o0_b1 := N1.u X0; replace X0 := N1.r X0; replace c0 := X0.cell; replace B := N1.n B; obtain ⟨X1, c1⟩ := N1.c; clear N1) | ((with_reducible refine box_newX 159 [.bool false, .bool false, .bool true, .bool true, .bool true] rfl ?_); intro b0 W0 N0; have ob0 := N0.ge; have B := N0.below; obtain ⟨X0, c0⟩ := N0.c; clear N0))
   go_ret
   exact ⟨rfl, B⟩
  have RE := run_neEn x0 x1 x2 x3 x4 x5 0 0 0 0 0 0 true (by simp only [decide_eq_true_eq]; exact q1)
  have Q1 : Hid _ := q1
  clear q1
  by_cases q3 : at_ = 0
  rotate_left 1
  ·have q3' : (at_ != 0) = true := by simp [q3]
   have e : d = true := HT.out (Or.inr (Or.inr (Or.inr (Or.inl ⟨by first | trivial | rfl, q3⟩))))
   subst e
   clear HT HF
   go_enter Try.func121, Try.ntmps121
   go_wp2_with (first | ((have g := ob0); clear g; (with_reducible refine box_newX 99 [.int .i64 kind, .int .i64 fr, .int .i64 to, .int .i64 view, .int .i64 at_, .bool false, .int .i64 x0, .int .i64 x1, .int .i64 x2, .int .i64 x3, .int .i64 x4, .int .i64 x5, .int .i64 last, .slice h.1 h.2.1 h.2.2, .int .i64 commit] rfl ?_); intro b1 W1 N1; have ob1 := N1.o B; have o0_b1 := N1.u X0; replace X0 := N1.r X0; replace c0 := X0.cell; replace B := N1.n B; obtain ⟨X1, c1⟩ := N1.c; clear N1) | ((with_reducible refine box_newX 159 [.bool false, .bool false, .bool true, .bool true, .bool true] rfl ?_); intro b0 W0 N0; have ob0 := N0.ge; have B := N0.below; obtain ⟨X0, c0⟩ := N0.c; clear N0))
   go_ret
   exact ⟨rfl, B⟩
  have q3' : (at_ != 0) = false := by simp [q3]
  have Q3 : Hid _ := q3
  clear q3
  have e : d = false := HF.out (fun z => z.elim (fun y => absurd y.2 (by simp)) (fun z => z.elim (fun y => y.2 Q1.out) (fun z => z.elim (fun y => absurd y.1 (by simp)) (fun z => z.elim (fun y => y.2 Q3.out) (fun z => z.elim (fun y => absurd y.1 (by simp)) (fun y => absurd y.1 (by simp)))))))
  subst e
  clear HT HF
  go_enter Try.func121, Try.ntmps121
  go_wp2_with (first | ((have g := ob0); clear g; (with_reducible refine box_newX 99 [.int .i64 kind, .int .i64 fr, .int .i64 to, .int .i64 view, .int .i64 at_, .bool false, .int .i64 x0, .int .i64 x1, .int .i64 x2, .int .i64 x3, .int .i64 x4, .int .i64 x5, .int .i64 last, .slice h.1 h.2.1 h.2.2, .int .i64 commit] rfl ?_); intro b1 W1 N1; have ob1 := N1.o B; have o0_b1 := N1.u X0; replace X0 := N1.r X0; replace c0 := X0.cell; replace B := N1.n B; obtain ⟨X1, c1⟩ := N1.c; clear N1) | ((with_reducible refine box_newX 159 [.bool false, .bool false, .bool true, .bool true, .bool true] rfl ?_); intro b0 W0 N0; have ob0 := N0.ge; have B := N0.below; obtain ⟨X0, c0⟩ := N0.c; clear N0))
  go_ret
  exact ⟨rfl, B⟩
 ·have e : d = true := HT.out (Or.inl ⟨by first | trivial | rfl, by first | trivial | rfl⟩)
  subst e
  clear HT HF
  go_enter Try.func121, Try.ntmps121
  go_wp2_with (first | ((have g := ob0); clear g; (with_reducible refine box_newX 99 [.int .i64 kind, .int .i64 fr, .int .i64 to, .int .i64 view, .int .i64 at_, .bool true, .int .i64 x0, .int .i64 x1, .int .i64 x2, .int .i64 x3, .int .i64 x4, .int .i64 x5, .int .i64 last, .slice h.1 h.2.1 h.2.2, .int .i64 commit] rfl ?_); intro b1 W1 N1; have ob1 := N1.o B; have o0_b1 := N1.u X0; replace X0 := N1.r X0; replace c0 := X0.cell; replace B := N1.n B; obtain ⟨X1, c1⟩ := N1.c; clear N1) | ((with_reducible refine box_newX 159 [.bool false, .bool false, .bool true, .bool true, .bool true] rfl ?_); intro b0 W0 N0; have ob0 := N0.ge; have B := N0.below; obtain ⟨X0, c0⟩ := N0.c; clear N0))
  go_ret
  exact ⟨rfl, B⟩
theorem isExc5_is (m : Ml) (h : Hd) (hL : m.log.length = h.2.1) (w : World) (d : Bool) (hd : decide (excF false false false true true m) = d) : Calls Try.prog 121 #[.agg #[.bool false, .bool false, .bool false, .bool true, .bool true], .agg #[.int .i64 m.kind, .int .i64 m.fr, .int .i64 m.to, .int .i64 m.view, .int .i64 m.at_, .bool m.has, .int .i64 m.en.1, .int .i64 m.en.2.1, .int .i64 m.en.2.2.1, .int .i64 m.en.2.2.2.1, .int .i64 m.en.2.2.2.2.1, .int .i64 m.en.2.2.2.2.2, .int .i64 m.last, .slice h.1 h.2.1 h.2.2, .int .i64 m.commit]] w fun e w' => e = .returned (.bool d) ∧ Below w.heap.size w w' := by
 have HT : Hid (excF false false false true true m → d = true) := fun y => by rw [← hd]; exact decide_eq_true y
 have HF : Hid (¬ excF false false false true true m → d = false) := fun y => by rw [← hd]; exact decide_eq_false y
 clear hd
 unfold excF at HT HF
 rw [hL] at HT HF
 clear hL
 have RG := run_guEn
 obtain ⟨kind, fr, to, view, at_, has, ⟨x0, x1, x2, x3, x4, x5⟩, last, log, commit⟩ := m
 simp only at HT HF
 cases has
 ·by_cases q1 : ((x0, x1, x2, x3, x4, x5) : En) = en0
  rotate_left 1
  ·have RE := run_neEn x0 x1 x2 x3 x4 x5 0 0 0 0 0 0 false (by simp only [decide_eq_false_eq]; exact q1)
   have e : d = true := HT.out (Or.inr (Or.inl ⟨by first | trivial | rfl, q1⟩))
   subst e
   clear HT HF
   go_enter Try.func121, Try.ntmps121
   go_wp2_with (first | ((have g := ob0); clear g; (with_reducible refine box_newX 99 [.int .i64 kind, .int .i64 fr, .int .i64 to, .int .i64 view, .int .i64 at_, .bool false, .int .i64 x0, .int .i64 x1, .int .i64 x2, .int .i64 x3, .int .i64 x4, .int .i64 x5, .int .i64 last, .slice h.1 h.2.1 h.2.2, .int .i64 commit] rfl ?_); intro b1 W1 N1; have ob1 := N1.o B; have o0_b1 := N1.u X0; replace X0 := N1.r X0; replace c0 := X0.cell; replace B := N1.n B; obtain ⟨X1, c1⟩ := N1.c; clear N1) | ((with_reducible refine box_newX 159 [.bool false, .bool false, .bool false, .bool true, .bool true] rfl ?_); intro b0 W0 N0; have ob0 := N0.ge; have B := N0.below; obtain ⟨X0, c0⟩ := N0.c; clear N0))
   go_ret
   exact ⟨rfl, B⟩
  have RE := run_neEn x0 x1 x2 x3 x4 x5 0 0 0 0 0 0 true (by simp only [decide_eq_true_eq]; exact q1)
  have Q1 : Hid _ := q1
  clear q1
  by_cases q3 : at_ = 0
  rotate_left 1
  ·have q3' : (at_ != 0) = true := by simp [q3]
   have e : d = true := HT.out (Or.inr (Or.inr (Or.inr (Or.inl ⟨by first | trivial | rfl, q3⟩))))
   subst e
   clear HT HF
   go_enter Try.func121, Try.ntmps121
   go_wp2_with (first | ((have g := ob0); clear g; (with_reducible refine box_newX 99 [.int .i64 kind, .int .i64 fr, .int .i64 to, .int .i64 view, .int .i64 at_, .bool false, .int .i64 x0, .int .i64 x1, .int .i64 x2, .int .i64 x3, .int .i64 x4, .int .i64 x5, .int .i64 last, .slice h.1 h.2.1 h.2.2, .int .i64 commit] rfl ?_); intro b1 W1 N1; have ob1 := N1.o B; have o0_b1 := N1.u X0; replace X0 := N1.r X0; replace c0 := X0.cell; replace B := N1.n B; obtain ⟨X1, c1⟩ := N1.c; clear N1) | ((with_reducible refine box_newX 159 [.bool false, .bool false, .bool false, .bool true, .bool true] rfl ?_); intro b0 W0 N0; have ob0 := N0.ge; have B := N0.below; obtain ⟨X0, c0⟩ := N0.c; clear N0))
   go_ret
   exact ⟨rfl, B⟩
  have q3' : (at_ != 0) = false := by simp [q3]
  have Q3 : Hid _ := q3
  clear q3
  by_cases q4 : last = 0
  rotate_left 1
  ·have q4' : (last != 0) = true := by simp [q4]
   have e : d = true := HT.out (Or.inr (Or.inr (Or.inr (Or.inr (Or.inl ⟨by first | trivial | rfl, q4⟩)))))
   subst e
   clear HT HF
   go_enter Try.func121, Try.ntmps121
   go_wp2_with (first | ((have g := ob0); clear g; (with_reducible refine box_newX 99 [.int .i64 kind, .int .i64 fr, .int .i64 to, .int .i64 view, .int .i64 at_, .bool false, .int .i64 x0, .int .i64 x1, .int .i64 x2, .int .i64 x3, .int .i64 x4, .int .i64 x5, .int .i64 last, .slice h.1 h.2.1 h.2.2, .int .i64 commit] rfl ?_); intro b1 W1 N1; have ob1 := N1.o B; have o0_b1 := N1.u X0; replace X0 := N1.r X0; replace c0 := X0.cell; replace B := N1.n B; obtain ⟨X1, c1⟩ := N1.c; clear N1) | ((with_reducible refine box_newX 159 [.bool false, .bool false, .bool false, .bool true, .bool true] rfl ?_); intro b0 W0 N0; have ob0 := N0.ge; have B := N0.below; obtain ⟨X0, c0⟩ := N0.c; clear N0))
   go_ret
   exact ⟨rfl, B⟩
  have q4' : (last != 0) = false := by simp [q4]
  have Q4 : Hid _ := q4
  clear q4
  have e : d = false := HF.out (fun z => z.elim (fun y => absurd y.2 (by simp)) (fun z => z.elim (fun y => y.2 Q1.out) (fun z => z.elim (fun y => absurd y.1 (by simp)) (fun z => z.elim (fun y => y.2 Q3.out) (fun z => z.elim (fun y => y.2 Q4.out) (fun y => absurd y.1 (by simp)))))))
  subst e
  clear HT HF
  go_enter Try.func121, Try.ntmps121
  go_wp2_with (first | ((have g := ob0); clear g; (with_reducible refine box_newX 99 [.int .i64 kind, .int .i64 fr, .int .i64 to, .int .i64 view, .int .i64 at_, .bool false, .int .i64 x0, .int .i64 x1, .int .i64 x2, .int .i64 x3, .int .i64 x4, .int .i64 x5, .int .i64 last, .slice h.1 h.2.1 h.2.2, .int .i64 commit] rfl ?_); intro b1 W1 N1; have ob1 := N1.o B; have o0_b1 := N1.u X0; replace X0 := N1.r X0; replace c0 := X0.cell; replace B := N1.n B; obtain ⟨X1, c1⟩ := N1.c; clear N1) | ((with_reducible refine box_newX 159 [.bool false, .bool false, .bool false, .bool true, .bool true] rfl ?_); intro b0 W0 N0; have ob0 := N0.ge; have B := N0.below; obtain ⟨X0, c0⟩ := N0.c; clear N0))
  go_ret
  exact ⟨rfl, B⟩
 ·have e : d = true := HT.out (Or.inl ⟨by first | trivial | rfl, by first | trivial | rfl⟩)
  subst e
  clear HT HF
  go_enter Try.func121, Try.ntmps121
  go_wp2_with (first | ((have g := ob0); clear g; (with_reducible refine box_newX 99 [.int .i64 kind, .int .i64 fr, .int .i64 to, .int .i64 view, .int .i64 at_, .bool true, .int .i64 x0, .int .i64 x1, .int .i64 x2, .int .i64 x3, .int .i64 x4, .int .i64 x5, .int .i64 last, .slice h.1 h.2.1 h.2.2, .int .i64 commit] rfl ?_); intro b1 W1 N1; have ob1 := N1.o B; have o0_b1 := N1.u X0; replace X0 := N1.r X0; replace c0 := X0.cell; replace B := N1.n B; obtain ⟨X1, c1⟩ := N1.c; clear N1) | ((with_reducible refine box_newX 159 [.bool false, .bool false, .bool false, .bool true, .bool true] rfl ?_); intro b0 W0 N0; have ob0 := N0.ge; have B := N0.below; obtain ⟨X0, c0⟩ := N0.c; clear N0))
  go_ret
  exact ⟨rfl, B⟩
def numsM (r : Rep) (m : Ml) : Prop := (0 ≤ m.fr ∧ m.fr ≤ r.size - 1) ∧ m.fr ≠ r.id ∧ (0 ≤ m.view ∧ m.view ≤ 200)
instance (r : Rep) (m : Ml) : Decidable (numsM r m) := by unfold numsM; infer_instance
def tailF (A E L G C : Bool) (r : Rep) (m : Ml) : Int := if numsM r m ∧ numF A L m then (if agrF G C m = 0 then (if E = true ∧ m.has = true ∧ enFault m.en ≠ 0 then enFault m.en else if excF A E L G C m then 1 else 0) else agrF G C m) else 3
def mailAtF (r : Rep) (m : Ml) : Int := if (1 ≤ m.kind ∧ m.kind ≤ 6) ∧ m.to = r.id then tailF (formK m.kind).1 (formK m.kind).2.1 (formK m.kind).2.2.1 (formK m.kind).2.2.2.1 (formK m.kind).2.2.2.2 r m else 1
theorem rep_size {r : Rep} (hf : repF r = 0) : 1 ≤ r.size ∧ r.size ≤ 5 := by
 by_cases q : numsP r
 ·exact q.1
 ·unfold repF at hf; rw [if_neg q] at hf; cases hf
section
variable {A E L G C : Bool} {r : Rep} {m : Ml} {d : Int}
theorem tail_no (h : tailF A E L G C r m = d) (q : ¬ (numsM r m ∧ numF A L m)) : d = 3 := by rw [← h]; unfold tailF; rw [if_neg q]
theorem tail_agr (h : tailF A E L G C r m = d) (q : numsM r m) (n : numF A L m) {c : Int} (hc : agrF G C m = c) (h0 : c ≠ 0) : d = c := by rw [← h]; unfold tailF; rw [if_pos ⟨q, n⟩, hc, if_neg h0]
theorem tail_en (h : tailF A E L G C r m = d) (q : numsM r m) (n : numF A L m) (hc : agrF G C m = 0) {c : Int} (he : enFault m.en = c) (h0 : c ≠ 0) (hE : E = true) (hh : m.has = true) : d = c := by rw [← h]; unfold tailF; rw [if_pos ⟨q, n⟩, if_pos hc, he, if_pos ⟨hE, hh, h0⟩]
theorem tail_exc (h : tailF A E L G C r m = d) (q : numsM r m) (n : numF A L m) (hc : agrF G C m = 0) (hE : ¬ (E = true ∧ m.has = true ∧ enFault m.en ≠ 0)) {b : Bool} (hb : decide (excF A E L G C m) = b) : d = if b = true then 1 else 0 := by
 rw [← h]; unfold tailF; rw [if_pos ⟨q, n⟩, if_pos hc, if_neg hE]
 subst hb
 by_cases e : excF A E L G C m
 ·simp [e]
 ·simp [e]
end
end Go.Proofs.Ytjefmhjlaibbkaa
