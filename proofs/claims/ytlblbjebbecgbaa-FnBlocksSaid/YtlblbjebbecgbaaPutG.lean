/- What the library's slices.Grow (of a nil slice) and slices.Concat (of two slices of puts) answer. -/
import Derived.Test.YtlblbjebbecgbaaPutC
import Derived.Lib.AppendZeros
namespace Go.Proofs.Ytlblbjebbecgbaa
open Go.RowKit

/-- Nothing is appended: the slice is as it was. -/
theorem run_append_none {P : Program} {w : World} {base : Nat} {e : TypeId} {size : Nat} {v : Value} {n : Nat} {xs : List Value} (t ty : TypeId) (i : TypeInfo) (ht : P.underlying t = some (.slice e)) (hi : P.info? e = some i) (hown : w.ownsRow base e size v n xs) (c : Nat) :
    (Builtin.append_ #[t, t] ty #[v, .slice none 0 c]).run P w = .ok v w := by
  rcases hown.2 with ⟨rfl, rfl⟩ | ⟨g, cap, cur, rfl, _, _, hnc, _⟩
  · simp [Builtin.append_, run_underlying ht, sizeOf, typeInfo, hi, Builtin.lenOf, Builtin.firstCells]
  · simp [Builtin.append_, run_underlying ht, sizeOf, typeInfo, hi, Builtin.lenOf, Builtin.firstCells, hnc, storeCells]

/-- An append whose run is known, the operation written out. -/
theorem append_run {P : Program} {ops : Array Oper} {rest : List Oper} {dst : Option Tmp} {type : TypeId} {pos : String} {after : Array Edge} {a : Act} {w : World} {Q : Exit → Act → World → Prop} {s x : Operand} (t tn : TypeId) (vs vx v : Value) (w1 : World)
    (hr : ∀ ty, (Builtin.append_ #[t, tn] ty #[vs, vx]).run P w = .ok v w1) (hs : a.eval s = vs) (hx : a.eval x = vx)
    (h : wpList P ops Q rest (a.put dst v) w1) : wpList P ops Q (⟨dst, .call { callee := .builtin .append, args := #[s, x], argTypes := #[t, tn] }, type, pos, after, none⟩ :: rest) a w := by
  refine wpList_plain rfl fun K hK => ?_
  unfold Oper.wp execOp
  simp only [resolve, invoke, builtin, Sem.run_bind, Sem.run_pure, Result.andThen_ok, List.map_toArray, List.map_cons, List.map_nil, hs, hx, hr]
  exact hK _ _ h

/-- .. at the operation's own type. -/
theorem append_run1 {P : Program} {ops : Array Oper} {rest : List Oper} {dst : Option Tmp} {type : TypeId} {pos : String} {after : Array Edge} {a : Act} {w : World} {Q : Exit → Act → World → Prop} {s x : Operand} (t tn : TypeId) (vs vx v : Value) (w1 : World)
    (hr : (Builtin.append_ #[t, tn] type #[vs, vx]).run P w = .ok v w1) (hs : a.eval s = vs) (hx : a.eval x = vx)
    (h : wpList P ops Q rest (a.put dst v) w1) : wpList P ops Q (⟨dst, .call { callee := .builtin .append, args := #[s, x], argTypes := #[t, tn] }, type, pos, after, none⟩ :: rest) a w := by
  refine wpList_plain rfl fun K hK => ?_
  unfold Oper.wp execOp
  simp only [resolve, invoke, builtin, Sem.run_bind, Sem.run_pure, Result.andThen_ok, List.map_toArray, List.map_cons, List.map_nil, hs, hx, hr]
  exact hK _ _ h

set_option maxRecDepth 20000 in
set_option maxHeartbeats 1000000 in
theorem grow_nil (n : Nat) (w : World) (h0 : 0 < n) (hn : n ≤ 1048577) :
    Calls Try.prog 118 #[.slice none 0 0, .int .i64 n] w fun e w' => ∃ v, e = .returned v ∧ w'.ownsRow w.heap.size 41 2 v 0 [] ∧ Below w.heap.size w w' := by
  obtain ⟨j0, hj0, hy0, hy1, hy2⟩ := info_parts Try.infoPut
  have hrz : ∀ ty, (Builtin.append_ #[25, 3] ty #[.slice none 0 0, .int .i64 n]).run Try.prog w = _ := fun ty => Lib.run_append_nil_zeros (P := Try.prog) w 25 3 ty 41 j0 _ .i64 .i64 Try.underlying25 Try.underlying3 hj0 hy0 n h0 (by omega) (by omega) (by rw [hy2]; omega)
  obtain ⟨G, hG⟩ : ∃ G, G = grownCap w n 0 41 := ⟨_, rfl⟩
  have hGn : n ≤ G := by rw [hG]; exact grownCap_ge w _ _ _
  have hGm : G ≤ maxLen := by rw [hG]; exact grownCap_le_maxLen w n 0 _ (by unfold maxLen; omega)
  rw [← hG] at hrz
  obtain ⟨W1, hW1⟩ : ∃ W1, W1 = w.drew.alloc (.cells (Builtin.zeroCells (Value.agg #[.int .i64 0, .int .i64 0]).cells n ++ Builtin.zeroCells (Value.agg #[.int .i64 0, .int .i64 0]).cells (G - n)) 41) := ⟨_, rfl⟩
  rw [← hW1] at hrz
  have HO : Hid (W1.ownsRow w.heap.size 41 2 (.slice (some ⟨w.heap.size, 0, none⟩) 0 G) 0 []) := by
    rw [hW1]
    refine ⟨by simp, Or.inr ⟨w.heap.size, G, _, rfl, Nat.le_refl _, heap_alloc_new w.drew _, Nat.zero_le _, hGm, ?_, by simp⟩⟩
    rw [Array.size_append, size_zeroCells, size_zeroCells]
    show n * 2 + (G - n) * 2 = G * 2
    omega
  have HB : Hid (Below w.heap.size w W1) := by rw [hW1]; exact (Below.refl _ _).drew.alloc (Nat.le_refl _) _
  have HR : Hid _ := hrz
  clear hG hW1 hrz
  have hG63 := hGm
  unfold maxLen at hG63
  have t1 : ¬ ((n : Int) < 0) := by omega
  have t2 : (0 : Int) < n := by omega
  go_enter Try.func118, Try.ntmps118
  go_wp2_with (first | (at_builtin; (with_reducible refine append_run 25 3 _ _ _ _ HR.out ?_ ?_ ?_); rfl; rfl))
  go_ret
  exact ⟨_, rfl, HO.out, HB.out⟩

theorem cell_later_of {w wr : World} {b o : Nat} {v : Value} (hb : Below w.heap.size w wr) (h : w.cell? ⟨b, o, none⟩ = some v) : wr.cell? ⟨b, o, none⟩ = some v := cell_later hb h

/-- The puts behind one another: what has been taken of the two slices. -/
def tot (n1 k : Nat) : Nat := if k = 0 then 0 else if k = 1 then n1 else n1 + 1
def got (ys : List (Int × Int)) (p : Int × Int) (k : Nat) : List (Int × Int) := if k = 0 then [] else if k = 1 then ys else ys ++ [p]

set_option maxRecDepth 20000 in
set_option maxHeartbeats 2000000 in
theorem concat_two {o1 : Bool} {l1 u1 : Nat} (A p : Nat) (a1 : Option Addr) (n1 c1 : Nat) (ys : List (Int × Int)) (x y : Int) (w : World) (h1 : RowAt w o1 l1 u1 2 a1 n1 c1 (pairs ys)) (hm : n1 ≤ 1048576)
    (k0 : w.cell? ⟨A, 0, none⟩ = some (.slice a1 n1 c1)) (k1 : w.cell? ⟨A, 1, none⟩ = some (.slice (some ⟨p, 0, none⟩) 1 1)) (q0 : w.cell? ⟨p, 0, none⟩ = some (.int .i64 x)) (q1 : w.cell? ⟨p, 1, none⟩ = some (.int .i64 y)) :
    Calls Try.prog 84 #[.slice (some ⟨A, 0, none⟩) 2 2] w fun e w' => ∃ ao cap, e = .returned (.slice ao (n1 + 1) cap) ∧ RowAt w' true w.heap.size w'.heap.size 2 ao (n1 + 1) cap (pairs (ys ++ [(x, y)])) ∧ Below w.heap.size w w' := by
  have hy := h1.nPairs
  obtain ⟨j0, hj0, hy0, hy1, hy2⟩ := info_parts Try.infoPut
  go_enter Try.func84, Try.ntmps84
  go_wp2
  go_loop [3, 11] (fun s i => ∃ k : Nat, k ≤ 2 ∧ i = .int .i64 k ∧ s = .int .i64 (tot n1 k)) (fun _ i => 2 - (intOf i).toNat)
  case atStart => exact ⟨0, Nat.zero_le _, rfl, rfl⟩
  case round =>
    obtain ⟨k, hk, rfl, rfl⟩ := hrel
    rcases (show k = 0 ∨ k = 1 ∨ k = 2 by omega) with rfl | rfl | rfl
    · have e0 : ((tot n1 0 : Nat) : Int) = 0 := rfl
      rw [e0]
      go_wp2
      go_round
      case rel => exact ⟨1, by omega, by go_num, by simp [tot]⟩
      case measure => simp [intOf]
    · have e0 : ((tot n1 1 : Nat) : Int) = n1 := rfl
      rw [e0]
      have ht : ¬ ((n1 : Int) + 1 < 0) := by omega
      go_wp2
      go_round
      case rel => exact ⟨2, by omega, by go_num, by simp [tot]⟩
      case measure => simp [intOf]
    · have e0 : ((tot n1 2 : Nat) : Int) = ((n1 + 1 : Nat) : Int) := rfl
      rw [e0]
      go_wp2_with fail
      refine (grow_nil (n1 + 1) _ (by omega) (by omega)).mono ?_
      rintro e w1 ⟨v, rfl, hown, hb1⟩
      go_wp2
      go_loopw [6, 27] (fun v i wr => ∃ k : Nat, k ≤ 2 ∧ i = .int .i64 k ∧ wr.ownsRow w.heap.size 41 2 v (tot n1 k) (pairs (got ys (x, y) k)) ∧ Below w.heap.size w wr) (fun _ i _ => 2 - (intOf i).toNat)
      case atStart => exact ⟨0, Nat.zero_le _, rfl, hown, hb1⟩
      case round =>
        obtain ⟨k, hk, rfl, hown, hb⟩ := hrel
        have hB := hb.size
        rcases (show k = 0 ∨ k = 1 ∨ k = 2 by omega) with rfl | rfl | rfl
        · have c0 := cell_later_of hb k0
          have hr := h1.below hb
          have HO : Hid _ := hown
          clear k0 k1 q0 q1
          cases a1 with
          | none =>
            have hn1 : n1 = 0 := by
              by_cases hz : n1 = 0
              · exact hz
              · obtain ⟨_, _, e, _⟩ := h1.cells hz; cases e
            subst hn1
            have hR : Hid (∀ ty, (Builtin.append_ #[25, 25] ty #[_, .slice none 0 c1]).run Try.prog wr = _) := fun ty => run_append_none 25 ty j0 Try.underlying25 hj0 hown c1
            have hys : ys = [] := List.eq_nil_of_length_eq_zero hy
            subst hys
            clear hown hr
            go_wp2_with (first | (at_builtin; (with_reducible refine append_run 25 25 _ _ _ _ hR.out ?_ ?_ ?_); rfl; rfl))
            go_roundw
            case rel => first | exact ⟨1, by omega, by go_num, HO.out, hb⟩ | ((repeat apply Exists.intro); exact ⟨⟨1, by omega, by go_num, HO.out, hb⟩, rfl⟩)
            case measure => simp [intOf]
          | some ad =>
            go_wp2_with (first | (at_builtin; refine wpList_append_own _ rfl _ _ 25 rfl w.heap.size 41 j0 (.agg #[.int .i64 0, .int .i64 0]) 2 16 Try.underlying25 hj0 hy0 hy1 hy2 rfl (by decide) _ _ _ rfl HO.out ad n1 c1 (pairs ys) rfl hr.len ?d1 (pairs_one ys) ?d3 ?d4 ?d5 ?_))
            case d1 =>
              intro j u hj
              have hj' := (List.getElem?_eq_some_iff.1 hj).1
              rw [pairs_length] at hj'
              obtain ⟨b, off, e, _, _, _, hc, _⟩ := hr.cells (by omega)
              cases e
              rw [show (⟨b, off, none⟩ : Addr).add j = ⟨b, off + j, none⟩ by simp [Addr.add], hc j (by omega)]
              simp [List.getD, hj]
            case d3 => show 0 + n1 ≤ maxLen; unfold maxLen; omega
            case d4 => show (0 + n1) * 16 ≤ _; omega
            case d5 => exact hB
            intro v' w2 hown' hgrow _
            have hb2 : Below w.heap.size w w2 := hb.grown hgrow hB (fun g hg => (World.ownsRow.lt HO.out g hg).1)
            have hown2 : w2.ownsRow w.heap.size 41 2 v' (tot n1 1) (pairs (got ys (x, y) 1)) := by simpa [tot, got, pairs] using hown'
            clear hown' hgrow hown hb hr
            go_wp2
            go_roundw
            case rel => exact ⟨1, by omega, by go_num, hown2, hb2⟩
            case measure => simp [intOf]
        · have c1' := cell_later_of hb k1
          have d0 := cell_later_of hb q0
          have d1 := cell_later_of hb q1
          have HO : Hid _ := hown
          clear k0 k1 q0 q1
          go_wp2_with (first | (at_builtin; refine wpList_append_own _ rfl _ _ 25 rfl w.heap.size 41 j0 (.agg #[.int .i64 0, .int .i64 0]) 2 16 Try.underlying25 hj0 hy0 hy1 hy2 rfl (by decide) _ _ _ rfl HO.out ⟨p, 0, none⟩ 1 1 [.int .i64 x, .int .i64 y] rfl rfl ?g1 ?g2 ?g3 ?g4 ?g5 ?_))
          case g1 =>
            intro j u hj
            match j, hj with
            | 0, hj => simp at hj; subst hj; simpa [Addr.add] using d0
            | 1, hj => simp at hj; subst hj; simpa [Addr.add] using d1
          case g2 => intro u hu; simp at hu; rcases hu with rfl | rfl <;> rfl
          case g3 => show n1 + 1 ≤ maxLen; unfold maxLen; omega
          case g4 => show (n1 + 1) * 16 ≤ _; omega
          case g5 => exact hB
          intro v' w2 hown' hgrow _
          have hb2 : Below w.heap.size w w2 := hb.grown hgrow hB (fun g hg => (World.ownsRow.lt HO.out g hg).1)
          have hown2 : w2.ownsRow w.heap.size 41 2 v' (tot n1 2) (pairs (got ys (x, y) 2)) := by simpa [tot, got, pairs] using hown'
          clear hown' hgrow hown hb
          go_wp2
          go_roundw
          case rel => exact ⟨2, by omega, by go_num, hown2, hb2⟩
          case measure => simp [intOf]
        · have hown2 : wr.ownsRow w.heap.size 41 2 _ (n1 + 1) (pairs (ys ++ [(x, y)])) := hown
          obtain ⟨ao, cap, rfl, R⟩ := RowAt.of_owned hown2
          clear hown hown2
          go_wp2
          go_ret
          exact ⟨_, _, rfl, R, hb⟩

end Go.Proofs.Ytlblbjebbecgbaa
