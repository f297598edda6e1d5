/- Chapter 9: a mail copied, compared and counted by the laws. -/
import Derived.Test.YtcefhlkbbipmmaaGreatWB
namespace Go.Proofs.YtcefhlkbbipmmaaGreat
open Go.RowKit

set_option maxRecDepth 20000 in
set_option maxHeartbeats 2000000 in
theorem eqMail_yes {o1 o2 : Bool} {l1 u1 l2 u2 : Nat} (m : Ml) (h k : Hd) (w : World) (x : RowAt w o1 l1 u1 6 h.1 h.2.1 h.2.2 (sixs m.log)) (y : RowAt w o2 l2 u2 6 k.1 k.2.1 k.2.2 (sixs m.log)) (hn : h.2.1 ≤ 2097152) :
    Calls Tryz.prog 38 #[.agg #[.int .i64 m.kind, .int .i64 m.fr, .int .i64 m.to, .int .i64 m.view, .int .i64 m.at_, .bool m.has, .int .i64 m.en.1, .int .i64 m.en.2.1, .int .i64 m.en.2.2.1, .int .i64 m.en.2.2.2.1, .int .i64 m.en.2.2.2.2.1, .int .i64 m.en.2.2.2.2.2, .int .i64 m.last, .slice h.1 h.2.1 h.2.2, .int .i64 m.commit], .agg #[.int .i64 m.kind, .int .i64 m.fr, .int .i64 m.to, .int .i64 m.view, .int .i64 m.at_, .bool m.has, .int .i64 m.en.1, .int .i64 m.en.2.1, .int .i64 m.en.2.2.1, .int .i64 m.en.2.2.2.1, .int .i64 m.en.2.2.2.2.1, .int .i64 m.en.2.2.2.2.2, .int .i64 m.last, .slice k.1 k.2.1 k.2.2, .int .i64 m.commit]] w fun e w' => e = .returned (.bool true) ∧ Below w.heap.size w w' := by
  have e0 : (m.kind != m.kind) = false := by simp
  have e1 : (m.fr != m.fr) = false := by simp
  have e2 : (m.to != m.to) = false := by simp
  have e3 : (m.view != m.view) = false := by simp
  have e4 : (m.at_ != m.at_) = false := by simp
  have e5 : (m.has != m.has) = false := by simp
  have e6 : (m.last != m.last) = false := by simp
  have e7 : (m.commit != m.commit) = false := by simp
  go_enter Tryz.func38, Tryz.ntmps38
  go_wp2_with (first | ((have g := ob0); clear g; (with_reducible refine box_newX 35 [.int .i64 m.kind, .int .i64 m.fr, .int .i64 m.to, .int .i64 m.view, .int .i64 m.at_, .bool m.has, .int .i64 m.en.1, .int .i64 m.en.2.1, .int .i64 m.en.2.2.1, .int .i64 m.en.2.2.2.1, .int .i64 m.en.2.2.2.2.1, .int .i64 m.en.2.2.2.2.2, .int .i64 m.last, .slice k.1 k.2.1 k.2.2, .int .i64 m.commit] rfl ?_); intro b1 W1 N1; have ob1 : w.heap.size ≤ b1 := Nat.le_trans B.size N1.ge; have o0_b1 : b0 < b1 := Nat.lt_of_lt_of_le X0.lt N1.ge; replace X0 := X0.below N1.below; replace c0 := X0.cell; replace B := below_next B N1.below; have X1 := N1.bx; have c1 := X1.cell; clear N1) | ((with_reducible refine box_newX 35 [.int .i64 m.kind, .int .i64 m.fr, .int .i64 m.to, .int .i64 m.view, .int .i64 m.at_, .bool m.has, .int .i64 m.en.1, .int .i64 m.en.2.1, .int .i64 m.en.2.2.1, .int .i64 m.en.2.2.2.1, .int .i64 m.en.2.2.2.2.1, .int .i64 m.en.2.2.2.2.2, .int .i64 m.last, .slice h.1 h.2.1 h.2.2, .int .i64 m.commit] rfl ?_); intro b0 W0 N0; have ob0 : w.heap.size ≤ b0 := N0.ge; have B := N0.below; have X0 := N0.bx; have c0 := X0.cell; clear N0) | fail)
  refine (eqEntry_yes m.en.1 m.en.2.1 m.en.2.2.1 m.en.2.2.2.1 m.en.2.2.2.2.1 m.en.2.2.2.2.2 _).mono ?_
  rintro e w1 ⟨rfl, BB⟩
  replace X0 := X0.below BB
  replace c0 := X0.cell
  replace X1 := X1.below BB
  replace c1 := X1.cell
  replace B := below_next B BB
  clear BB
  go_wp2_with fail
  refine (eqEntries_yes _ _ _ _ _ _ m.log _ (x.below B) (y.below B) hn).mono ?_
  rintro e w2 ⟨rfl, BB⟩
  replace X0 := X0.below BB
  replace c0 := X0.cell
  replace X1 := X1.below BB
  replace c1 := X1.cell
  replace B := below_next B BB
  clear BB
  go_wp2
  go_ret
  exact ⟨rfl, B⟩
end Go.Proofs.YtcefhlkbbipmmaaGreat

/- A replica copied by the laws: where it lies. -/
namespace Go.Proofs.YtcefhlkbbipmmaaGreat
open Go.RowKit

theorem toReplica_z {own : Bool} {lo hi : Nat} (r : Rep) (h : RH) (w : World) (x : RepAt w own lo hi h r) (hs : RSz h 1048576) :
    Calls Tryz.prog 28 #[.agg #[.int .i64 r.id, .int .i64 r.size, .int .i64 r.view, .bool r.normal, .int .i64 r.last, .slice h.L.1 h.L.2.1 h.L.2.2, .int .i64 r.commit, .slice h.O.1 h.O.2.1 h.O.2.2, .slice h.A.1 h.A.2.1 h.A.2.2, .slice h.D.1 h.D.2.1 h.D.2.2]] w fun e w' => ∃ (z u : Nat) (h' : RH), e = .returned (.agg #[.int .i64 r.id, .int .i64 r.size, .int .i64 r.view, .bool r.normal, .int .i64 r.last, .slice h'.L.1 h'.L.2.1 h'.L.2.2, .int .i64 r.commit, .slice h'.O.1 h'.O.2.1 h'.O.2.2, .slice h'.A.1 h'.A.2.1 h'.A.2.2, .slice h'.D.1 h'.D.2.1 h'.D.2.2]) ∧ w.heap.size ≤ z ∧ u ≤ w'.heap.size ∧ RepAt w' true z u h' r ∧ RSz h' 1048576 ∧ Below w.heap.size w w' :=
  (toReplica_any r h w x hs).mono fun _ _ ⟨h', e1, y, z, b⟩ => ⟨_, _, h', e1, Nat.le_refl _, Nat.le_refl _, y, z, b⟩

end Go.Proofs.YtcefhlkbbipmmaaGreat
