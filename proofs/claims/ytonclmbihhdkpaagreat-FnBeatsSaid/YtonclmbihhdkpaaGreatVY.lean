/- Chapter 9: replicas that are drawn, wrong now and then: plain facts. -/
import Derived.Test.YtonclmbihhdkpaaGreatQAF
import Derived.Test.YtonclmbihhdkpaaGreatVX
import Derived.Test.YtonclmbihhdkpaaGreatWN
set_option maxRecDepth 20000
set_option maxHeartbeats 16000000
namespace Go.Proofs.YtonclmbihhdkpaaGreat
open Go.RowKit
def RepBent (w w' : World) (e : Ending) (g p q : Nat) (ac : Option Addr) (nc cc : Nat) (bs : List Nat) : Prop := ∃ (r : Rep) (hh : RH) (p' : Nat), e = .returned (.agg #[.int .i64 r.id, .int .i64 r.size, .int .i64 r.view, .bool r.normal, .int .i64 r.last, .slice hh.L.1 hh.L.2.1 hh.L.2.2, .int .i64 r.commit, .slice hh.O.1 hh.O.2.1 hh.O.2.2, .slice hh.A.1 hh.A.2.1 hh.A.2.2, .slice hh.D.1 hh.D.2.1 hh.D.2.2]) ∧ RepAt w' true w.heap.size w'.heap.size hh r ∧ RSz hh 1001 ∧ p' ≤ p + q ∧ SB w' g p' ac nc cc bs ∧ Kept g (g + 1) w w'
structure PutM (w W : World) (b k : Nat) (v : Value) : Prop where
 eq : W = w.setCell ⟨b, k, none⟩ v
theorem store_oneM {P : Program} {ops : Array Oper} {rest : List Oper} {dst : Option Tmp} {type : TypeId} {pos : String} {after : Array Edge} {a : Act} {w : World} {Q : Exit → Act → World → Prop} (ty : TypeId) {x y : Operand} {b k : Nat} {u : Value} (hc : w.cell? ⟨b, k, none⟩ = some u) (hf : w.frozen? ⟨b, k, none⟩ = false) (v : Value) (hi : (P.info? ty).map (·.size) = some 1) (hv : v.oneCell' = true) (hx : a.eval x = .pointer (some ⟨b, k, none⟩)) (hy : a.eval y = v)
  (h : ∀ W : World, PutM w W b k v → wpList P ops Q rest (a.put dst undef) W) : wpList P ops Q (⟨dst, .store ty x y, type, pos, after, none⟩ :: rest) a w := by
 refine wpList_plain rfl fun K hK => ?_
 have hK2 := hK _ _ (h _ ⟨rfl⟩)
 unfold Oper.wp execOp
 simp only [hx, hy, Instr.storeAt, Instr.sureAddr, Sem.run_bind, Sem.run_pure, Result.andThen_ok, run_storeVar_oneC hc hf ty v hv hi]
 exact hK2
theorem RepAt.commit0 {W : World} {lo hi : Nat} {hh : RH} {r : Rep} (x : RepAt W true lo hi hh r) {b off : Nat} (e : hh.D.1 = some ⟨b, off, none⟩) (hn : 0 < hh.D.2.1) (v : Int) : RepAt (W.setCell ⟨b, off + 3, none⟩ (.int .i64 v)) true lo hi hh { r with doers := r.doers.set 0 ((r.doers.getD 0 dr0).1, (r.doers.getD 0 dr0).2.1, (r.doers.getD 0 dr0).2.2.1, v) } := by
 have s := x.sep rfl
 have hl : 0 < r.doers.length := by rw [x.doers.len]; exact hn
 have KS1 : KeptS (fun q => q = b) W (W.setCell ⟨b, off + 3, none⟩ (.int .i64 v)) := by
  refine KeptS.setCell (KeptS.refl _ _) ?_ _; rfl
 have hb : inE hh.D.1 hh.D.2.1 hh.K b := Or.inl ⟨by omega, by rw [e]; rfl⟩
 have E := x.doers.els
 rw [e] at E
 have E2 := E.store (i := 0) (j := 3) hn (by omega) (.int .i64 v)
 simp only [Nat.zero_mul, Nat.zero_add] at E2
 refine ⟨x.log.keptR KS1 fun q a c => s.2.2.1 q a (by rw [c]; exact hb), x.oks.keptR KS1 fun q a c => s.2.2.2.2.1 q a (by rw [c]; exact hb), x.asks.keptR KS1 fun q a c => s.2.2.2.2.2 q a (by rw [c]; exact hb), ⟨by simp [x.doers.len], ?_⟩, x.sep⟩
 rw [e]
 refine E2.congr (fun i j hi hj => ?_) (fun i hi => ?_)
 ·by_cases c : i = 0
  ·subst c
   rcases (by omega : j = 0 ∨ j = 1 ∨ j = 2 ∨ j = 3) with rfl | rfl | rfl | rfl <;> simp [updF, drF, List.getD, hl]
  ·have g : (r.doers.set 0 ((r.doers.getD 0 dr0).1, (r.doers.getD 0 dr0).2.1, (r.doers.getD 0 dr0).2.2.1, v)).getD i dr0 = r.doers.getD i dr0 := by simp [List.getD, List.getElem?_set_ne (Ne.symm c)]
   unfold updF drF
   rw [g, if_neg (fun z => c z.1)]
 ·unfold drL
  by_cases c : i = 0
  ·subst c; simp [List.getD, hl]
  ·simp [List.getD, List.getElem?_set_ne (Ne.symm c)]
theorem RepAt.oksGrow {W W' : World} {lo : Nat} {hh : RH} {r : Rep} {sa : Option Addr} {sc : Nat} {y : Int} (x : RepAt W true lo W.heap.size hh r) (S : Nat → Prop) (KS : KeptS S W W') (HS : ∀ q, S q → ¬ hR hh.L q ∧ ¬ hR hh.A q ∧ ¬ inE hh.D.1 hh.D.2.1 hh.K q) (ho : W'.ownsRow lo 2 1 (.slice sa (hh.O.2.1 + 1) sc) (hh.O.2.1 + 1) (ints (r.oks ++ [y]))) (hat : (Value.slice sa (hh.O.2.1 + 1) sc).ownBlock = (Value.slice hh.O.1 hh.O.2.1 hh.O.2.2).ownBlock ∨ (Value.slice sa (hh.O.2.1 + 1) sc).ownBlock = some W.heap.size) (HF : ∀ q, (Value.slice hh.O.1 hh.O.2.1 hh.O.2.2).ownBlock = some q → ¬ hR hh.L q ∧ ¬ hR hh.A q ∧ ¬ inE hh.D.1 hh.D.2.1 hh.K q) : RepAt W' true lo W'.heap.size { hh with O := (sa, hh.O.2.1 + 1, sc) } { r with oks := r.oks ++ [y] } := by
 obtain ⟨ao, cap, e9, R, hb⟩ := owns_slice ho
 simp only [Value.slice.injEq] at e9
 obtain ⟨rfl, _, rfl⟩ := e9
 have s := x.sep rfl
 have nO : ∀ q, hR (sa, hh.O.2.1 + 1, sc) q → (Value.slice hh.O.1 hh.O.2.1 hh.O.2.2).ownBlock = some q ∨ q = W.heap.size := fun q hq => by
  have e : (Value.slice sa (hh.O.2.1 + 1) sc).ownBlock = some q := by rw [hb (by omega), hq.2]
  rcases hat with z | z
  ·exact Or.inl (z ▸ e)
  ·rw [z] at e; exact Or.inr (Option.some.inj e).symm
 refine ⟨(x.log.keptR KS fun q a c => (HS q c).1 a).widen (Nat.le_refl _) KS.size, R, (x.asks.keptR KS fun q a c => (HS q c).2.1 a).widen (Nat.le_refl _) KS.size, (x.doers.keptS KS fun q a c => (HS q c).2.2 a).widen (Nat.le_refl _) KS.size, fun _ => ⟨fun q a b => ?_, s.2.1, s.2.2.1, fun q a b => ?_, fun q a b => ?_, s.2.2.2.2.2⟩⟩
 ·rcases nO q b with z | z
  ·exact (HF q z).1 a
  ·have := (x.log.inB a).2.2; omega
 ·rcases nO q a with z | z
  ·exact (HF q z).2.1 b
  ·have := (x.asks.inB b).2.2; omega
 ·rcases nO q a with z | z
  ·exact (HF q z).2.2 b
  ·have := (x.doers.els.inB b).2.2; omega
theorem oks_far {W : World} {lo : Nat} {hh : RH} {r : Rep} (x : RepAt W true lo W.heap.size hh r) (ho : W.ownsRow lo 2 1 (.slice hh.O.1 hh.O.2.1 hh.O.2.2) hh.O.2.1 (ints r.oks)) (hn : hh.O.2.1 ≠ 0 ∨ hh.O = (none, 0, 0)) : ∀ q, (Value.slice hh.O.1 hh.O.2.1 hh.O.2.2).ownBlock = some q → ¬ hR hh.L q ∧ ¬ hR hh.A q ∧ ¬ inE hh.D.1 hh.D.2.1 hh.K q := fun q e => by
 have s := x.sep rfl
 rcases hn with h0 | h0
 ·obtain ⟨ao, cap, e9, _, hb⟩ := owns_slice ho
  simp only [Value.slice.injEq] at e9
  obtain ⟨e1, _, _⟩ := e9
  rw [hb h0] at e
  have e2 : sb ao = q := Option.some.inj e
  have hO : hR hh.O q := ⟨h0, by rw [e1]; exact e2.symm⟩
  exact ⟨fun a => s.1 q a hO, fun a => s.2.2.2.1 q hO a, fun a => s.2.2.2.2.1 q hO a⟩
 ·rw [h0] at e; cases e
theorem l9Bent_any (g p : Nat) (ac : Option Addr) (nc cc : Nat) (bs : List Nat) (w : World) (h : SB w g p ac nc cc bs) (hp : p ≤ 29000) : Calls Tryz.prog 45 #[.pointer (some ⟨g, 0, none⟩)] w fun e w' => RepBent w w' e g p 710 ac nc cc bs := by
 have hg : g < w.heap.size := h.lt
 have KP : Kept g (g + 1) w w := Kept.refl _ _ _
 have D := h
 obtain ⟨i2, hi2, ha2, hb2, hc2⟩ := info_parts Tryz.info2'
 go_enter Tryz.func45, Tryz.ntmps45
 go_wp2_with (first | ((with_reducible refine al 29 [.int .i64 0, .int .i64 0, .int .i64 0, .bool false, .int .i64 0, .slice none 0 0, .int .i64 0, .slice none 0 0, .slice none 0 0, .slice none 0 0] ?_); intro b0 W0 N0; have ob0 : w.heap.size ≤ b0 := Nat.le_trans KP.size N0.ge; replace D := D.below N0.below; replace KP := KP.next N0.below; obtain ⟨X0, c0, f0⟩ := N0.a; clear N0) | fail)
 obtain ⟨zY, hzY⟩ : ∃ zY, zY = W0.heap.size := ⟨_, rfl⟩
 have l0z : b0 < zY := by rw [hzY]; exact X0.lt
 have lwz : w.heap.size ≤ zY := by rw [hzY]; exact KP.size
 refine (l9Replica_any g _ ac nc cc bs _ D (by omega)).mono ?_
 rintro e w1 ⟨r, hh, p', rfl, Y, SZ, OW, ON, hp', D', K'⟩
 have lz1 : zY ≤ w1.heap.size := by rw [hzY]; exact K'.size
 rw [← hzY] at Y OW
 clear hzY
 replace X0 := X0.kept K' (by omega)
 replace c0 := X0.cell
 replace f0 := X0.froz
 replace KP := KP.trans K'
 replace D := D'
 clear D' K'
 obtain ⟨id, size, view, normal, last, log, commit, oks, asks, doers⟩ := r
 simp only at Y OW
 have HY : Hid (RepAt w1 true zY w1.heap.size hh ⟨id, size, view, normal, last, log, commit, oks, asks, doers⟩) := Y
 have HO : Hid (w1.ownsRow zY 2 1 (.slice hh.O.1 hh.O.2.1 hh.O.2.2) hh.O.2.1 (ints oks)) := OW
 have HN : Hid _ := ON
 have HZ : Hid _ := SZ
 skip
 clear Y OW ON SZ
 have KX : Kept g (g + 1) w1 w1 := Kept.refl _ _ _
 go_wp2_with (first | ((with_reducible refine sm 29 X1 0 [.int .i64 id, .int .i64 size, .int .i64 view, .bool normal, .int .i64 last, .slice hh.L.1 hh.L.2.1 hh.L.2.2, .int .i64 commit, .slice hh.O.1 hh.O.2.1 hh.O.2.2, .slice hh.A.1 hh.A.2.1 hh.A.2.2, .slice hh.D.1 hh.D.2.1 hh.D.2.2] ?_); intro V1 S; replace X0 := X0.kp S.kept; replace c0 := X0.cell; replace f0 := X0.froz; replace X1 : Bx V1 b1 [.int .i64 id, .int .i64 size, .int .i64 view, .bool normal, .int .i64 last, .slice hh.L.1 hh.L.2.1 hh.L.2.2, .int .i64 commit, .slice hh.O.1 hh.O.2.1 hh.O.2.2, .slice hh.A.1 hh.A.2.1 hh.A.2.2, .slice hh.D.1 hh.D.2.1 hh.D.2.2] := S.bx; replace c1 := X1.cell; replace f1 := X1.froz; replace KP := KP.low (S.kept.below _ (by omega) KP.size); replace D := h.move KP (D.src.kept S.kept (by omega)); replace KX := KX.low (S.kept.below _ (by omega) KX.size); clear S) | ((have g := ob0); clear g; (with_reducible refine al 29 [.int .i64 0, .int .i64 0, .int .i64 0, .bool false, .int .i64 0, .slice none 0 0, .int .i64 0, .slice none 0 0, .slice none 0 0, .slice none 0 0] ?_); intro b1 W1 N1; have ob1 : w.heap.size ≤ b1 := Nat.le_trans KP.size N1.ge; have o0_b1 := N1.u X0; have KX_b1 : w1.heap.size ≤ b1 := Nat.le_trans KX.size N1.ge; replace X0 := N1.r X0; replace c0 := X0.cell; replace f0 := X0.froz; replace D := D.below N1.below; replace KP := KP.next N1.below; replace KX := KX.next N1.below; obtain ⟨X1, c1, f1⟩ := N1.a; clear N1) | fail)
 refine (next_sb D 20 rfl (by omega) (by omega) (by omega)).mono ?_
 rintro e x1 ⟨v, hv, rfl, D', K', -⟩
 replace X0 := X0.kept K' (by omega)
 replace c0 := X0.cell
 replace f0 := X0.froz
 replace X1 := X1.kept K' (by omega)
 replace c1 := X1.cell
 replace f1 := X1.froz
 replace KX := KX.trans K'
 replace KP := KP.trans K'
 replace D := D'
 clear D' K'
 by_cases q0 : v = 0
 ·subst q0
  go_wp2_with (first | ((have g := ob1); clear g; (with_reducible refine lit_newX 25 3 _ [.int .i64 0, .int .i64 6, .int .i64 3] 2 (fun _ => by kernel_rfl)  ?_); intro b2 W2 N2; have ob2 : w.heap.size ≤ b2 := Nat.le_trans KP.size N2.ge; have o0_b2 := N2.u X0; have o1_b2 := N2.u X1; have KX_b2 : w1.heap.size ≤ b2 := Nat.le_trans KX.size N2.ge; replace X0 := N2.r X0; replace c0 := X0.cell; replace f0 := X0.froz; replace X1 := N2.r X1; replace c1 := X1.cell; replace f1 := X1.froz; replace D := D.below N2.below; replace KP := KP.next N2.below; replace KX := KX.next N2.below; obtain ⟨X2, c2⟩ := N2.c; clear N2) | fail)
  have R1 : RowAt _ true b2 (b2 + 1) 1 (some ⟨b2, 0, none⟩) 3 3 (ints [0, 6, 3]) := bx_row X2 rfl
  refine (pick_in D 3 (by omega) (by omega) (by omega) _ _ [0, 6, 3] R1 (by omega)).mono ?_
  rintro e x2 ⟨i1, hi1, rfl, D', K', -⟩
  replace X0 := X0.kept K' (by omega)
  replace c0 := X0.cell
  replace f0 := X0.froz
  replace X1 := X1.kept K' (by omega)
  replace c1 := X1.cell
  replace f1 := X1.froz
  replace X2 := X2.kept K' (by omega)
  replace c2 := X2.cell
  replace KX := KX.trans K'
  replace KP := KP.trans K'
  replace D := D'
  clear D' K'
  clear R1 X2 c2
  obtain ⟨pv, hpv⟩ : ∃ pv : Int, ([0, 6, 3] : List Int).getD i1 0 = pv := ⟨_, rfl⟩
  rw [hpv]
  clear hpv hi1
  go_upto_region 18 with (first | ((with_reducible refine so 2 X1 1 (.int .i64 pv) ?_); intro V2 S; replace X0 := X0.kp S.kept; replace c0 := X0.cell; replace f0 := X0.froz; replace X1 : Bx V2 b1 [.int .i64 id, .int .i64 pv, .int .i64 view, .bool normal, .int .i64 last, .slice hh.L.1 hh.L.2.1 hh.L.2.2, .int .i64 commit, .slice hh.O.1 hh.O.2.1 hh.O.2.2, .slice hh.A.1 hh.A.2.1 hh.A.2.2, .slice hh.D.1 hh.D.2.1 hh.D.2.2] := S.bx; replace c1 := X1.cell; replace f1 := X1.froz; replace KP := KP.low (S.kept.below _ (by omega) KP.size); replace D := h.move KP (D.src.kept S.kept (by omega)); replace KX := KX.low (S.kept.below _ (by omega) KX.size); clear S) | fail)
  have YY : RepAt V2 true zY w1.heap.size hh ⟨id, size, view, normal, last, log, commit, oks, asks, doers⟩ := HY.out.kept KX (Or.inr (by omega))
  have hKX := KX.size
  clear KX
  go_wp2_with (first | ((with_reducible refine sm 29 X0 0 [.int .i64 id, .int .i64 pv, .int .i64 view, .bool normal, .int .i64 last, .slice hh.L.1 hh.L.2.1 hh.L.2.2, .int .i64 commit, .slice hh.O.1 hh.O.2.1 hh.O.2.2, .slice hh.A.1 hh.A.2.1 hh.A.2.2, .slice hh.D.1 hh.D.2.1 hh.D.2.2] ?_); intro V3 S; replace X0 : Bx V3 b0 [.int .i64 id, .int .i64 pv, .int .i64 view, .bool normal, .int .i64 last, .slice hh.L.1 hh.L.2.1 hh.L.2.2, .int .i64 commit, .slice hh.O.1 hh.O.2.1 hh.O.2.2, .slice hh.A.1 hh.A.2.1 hh.A.2.2, .slice hh.D.1 hh.D.2.1 hh.D.2.2] := S.bx; replace c0 := X0.cell; replace f0 := X0.froz; replace X1 := X1.kp S.kept; replace c1 := X1.cell; replace f1 := X1.froz; replace KP := KP.low (S.kept.below _ (by omega) KP.size); replace D := h.move KP (D.src.kept S.kept (by omega)); replace YY := YY.kept S.kept (Or.inr (by omega)); have hk2 := S.kept.size; clear S))
  obtain ⟨pF, hpF, DF⟩ : ∃ pF, pF ≤ p + 710 ∧ SB V3 g pF ac nc cc bs := ⟨_, by omega, D⟩
  refine bodyPost_ret (v := .agg #[.int .i64 id, .int .i64 pv, .int .i64 view, .bool normal, .int .i64 last, .slice hh.L.1 hh.L.2.1 hh.L.2.2, .int .i64 commit, .slice hh.O.1 hh.O.2.1 hh.O.2.2, .slice hh.A.1 hh.A.2.1 hh.A.2.2, .slice hh.D.1 hh.D.2.1 hh.D.2.2]) (by simp [results, Tryz.results45, go_sem, *]) rfl ⟨⟨id, pv, view, normal, last, log, commit, oks, asks, doers⟩, hh, pF, rfl, ?_, (HZ.out.mono (by omega)), hpF, DF, KP⟩
  exact ⟨YY.log.widen lwz (Nat.le_trans hKX hk2), YY.oks.widen lwz (Nat.le_trans hKX hk2), YY.asks.widen lwz (Nat.le_trans hKX hk2), YY.doers.widen lwz (Nat.le_trans hKX hk2), YY.sep⟩
 have q0' : ¬ ((v : Int) = 0) := by omega
 have e0 : ((v : Int) == 0) = false := beq_false_of_ne q0'
 clear q0'
 by_cases q1 : v = 1
 ·subst q1
  go_wp2_with (first | ((have g := ob1); clear g; (with_reducible refine lit_newX 25 3 _ [.int .i64 (-1), .int .i64 200, .int .i64 201] 2 (fun _ => by kernel_rfl)  ?_); intro b2 W2 N2; have ob2 : w.heap.size ≤ b2 := Nat.le_trans KP.size N2.ge; have o0_b2 := N2.u X0; have o1_b2 := N2.u X1; have KX_b2 : w1.heap.size ≤ b2 := Nat.le_trans KX.size N2.ge; replace X0 := N2.r X0; replace c0 := X0.cell; replace f0 := X0.froz; replace X1 := N2.r X1; replace c1 := X1.cell; replace f1 := X1.froz; replace D := D.below N2.below; replace KP := KP.next N2.below; replace KX := KX.next N2.below; obtain ⟨X2, c2⟩ := N2.c; clear N2) | fail)
  have R1 : RowAt _ true b2 (b2 + 1) 1 (some ⟨b2, 0, none⟩) 3 3 (ints [(-1), 200, 201]) := bx_row X2 rfl
  refine (pick_in D 3 (by omega) (by omega) (by omega) _ _ [(-1), 200, 201] R1 (by omega)).mono ?_
  rintro e x2 ⟨i1, hi1, rfl, D', K', -⟩
  replace X0 := X0.kept K' (by omega)
  replace c0 := X0.cell
  replace f0 := X0.froz
  replace X1 := X1.kept K' (by omega)
  replace c1 := X1.cell
  replace f1 := X1.froz
  replace X2 := X2.kept K' (by omega)
  replace c2 := X2.cell
  replace KX := KX.trans K'
  replace KP := KP.trans K'
  replace D := D'
  clear D' K'
  clear R1 X2 c2
  obtain ⟨pv, hpv⟩ : ∃ pv : Int, ([(-1), 200, 201] : List Int).getD i1 0 = pv := ⟨_, rfl⟩
  rw [hpv]
  clear hpv hi1
  go_upto_region 18 with (first | ((with_reducible refine so 2 X1 2 (.int .i64 pv) ?_); intro V2 S; replace X0 := X0.kp S.kept; replace c0 := X0.cell; replace f0 := X0.froz; replace X1 : Bx V2 b1 [.int .i64 id, .int .i64 size, .int .i64 pv, .bool normal, .int .i64 last, .slice hh.L.1 hh.L.2.1 hh.L.2.2, .int .i64 commit, .slice hh.O.1 hh.O.2.1 hh.O.2.2, .slice hh.A.1 hh.A.2.1 hh.A.2.2, .slice hh.D.1 hh.D.2.1 hh.D.2.2] := S.bx; replace c1 := X1.cell; replace f1 := X1.froz; replace KP := KP.low (S.kept.below _ (by omega) KP.size); replace D := h.move KP (D.src.kept S.kept (by omega)); replace KX := KX.low (S.kept.below _ (by omega) KX.size); clear S) | fail)
  have YY : RepAt V2 true zY w1.heap.size hh ⟨id, size, view, normal, last, log, commit, oks, asks, doers⟩ := HY.out.kept KX (Or.inr (by omega))
  have hKX := KX.size
  clear KX
  go_wp2_with (first | ((with_reducible refine sm 29 X0 0 [.int .i64 id, .int .i64 size, .int .i64 pv, .bool normal, .int .i64 last, .slice hh.L.1 hh.L.2.1 hh.L.2.2, .int .i64 commit, .slice hh.O.1 hh.O.2.1 hh.O.2.2, .slice hh.A.1 hh.A.2.1 hh.A.2.2, .slice hh.D.1 hh.D.2.1 hh.D.2.2] ?_); intro V3 S; replace X0 : Bx V3 b0 [.int .i64 id, .int .i64 size, .int .i64 pv, .bool normal, .int .i64 last, .slice hh.L.1 hh.L.2.1 hh.L.2.2, .int .i64 commit, .slice hh.O.1 hh.O.2.1 hh.O.2.2, .slice hh.A.1 hh.A.2.1 hh.A.2.2, .slice hh.D.1 hh.D.2.1 hh.D.2.2] := S.bx; replace c0 := X0.cell; replace f0 := X0.froz; replace X1 := X1.kp S.kept; replace c1 := X1.cell; replace f1 := X1.froz; replace KP := KP.low (S.kept.below _ (by omega) KP.size); replace D := h.move KP (D.src.kept S.kept (by omega)); replace YY := YY.kept S.kept (Or.inr (by omega)); have hk2 := S.kept.size; clear S))
  obtain ⟨pF, hpF, DF⟩ : ∃ pF, pF ≤ p + 710 ∧ SB V3 g pF ac nc cc bs := ⟨_, by omega, D⟩
  refine bodyPost_ret (v := .agg #[.int .i64 id, .int .i64 size, .int .i64 pv, .bool normal, .int .i64 last, .slice hh.L.1 hh.L.2.1 hh.L.2.2, .int .i64 commit, .slice hh.O.1 hh.O.2.1 hh.O.2.2, .slice hh.A.1 hh.A.2.1 hh.A.2.2, .slice hh.D.1 hh.D.2.1 hh.D.2.2]) (by simp [results, Tryz.results45, go_sem, *]) rfl ⟨⟨id, size, pv, normal, last, log, commit, oks, asks, doers⟩, hh, pF, rfl, ?_, (HZ.out.mono (by omega)), hpF, DF, KP⟩
  exact ⟨YY.log.widen lwz (Nat.le_trans hKX hk2), YY.oks.widen lwz (Nat.le_trans hKX hk2), YY.asks.widen lwz (Nat.le_trans hKX hk2), YY.doers.widen lwz (Nat.le_trans hKX hk2), YY.sep⟩
 have q1' : ¬ ((v : Int) = 1) := by omega
 have e1 : ((v : Int) == 1) = false := beq_false_of_ne q1'
 clear q1'
 by_cases q2 : v = 2
 ·subst q2
  go_wp2_with (first | ((have g := ob1); clear g; (with_reducible refine lit_newX 25 2 _ [.int .i64 (-1), .int .i64 9] 2 (fun _ => by kernel_rfl)  ?_); intro b2 W2 N2; have ob2 : w.heap.size ≤ b2 := Nat.le_trans KP.size N2.ge; have o0_b2 := N2.u X0; have o1_b2 := N2.u X1; have KX_b2 : w1.heap.size ≤ b2 := Nat.le_trans KX.size N2.ge; replace X0 := N2.r X0; replace c0 := X0.cell; replace f0 := X0.froz; replace X1 := N2.r X1; replace c1 := X1.cell; replace f1 := X1.froz; replace D := D.below N2.below; replace KP := KP.next N2.below; replace KX := KX.next N2.below; obtain ⟨X2, c2⟩ := N2.c; clear N2) | fail)
  have R1 : RowAt _ true b2 (b2 + 1) 1 (some ⟨b2, 0, none⟩) 2 2 (ints [(-1), 9]) := bx_row X2 rfl
  refine (pick_in D 2 (by omega) (by omega) (by omega) _ _ [(-1), 9] R1 (by omega)).mono ?_
  rintro e x2 ⟨i1, hi1, rfl, D', K', -⟩
  replace X0 := X0.kept K' (by omega)
  replace c0 := X0.cell
  replace f0 := X0.froz
  replace X1 := X1.kept K' (by omega)
  replace c1 := X1.cell
  replace f1 := X1.froz
  replace X2 := X2.kept K' (by omega)
  replace c2 := X2.cell
  replace KX := KX.trans K'
  replace KP := KP.trans K'
  replace D := D'
  clear D' K'
  clear R1 X2 c2
  obtain ⟨pv, hpv⟩ : ∃ pv : Int, ([(-1), 9] : List Int).getD i1 0 = pv := ⟨_, rfl⟩
  rw [hpv]
  clear hpv hi1
  go_upto_region 18 with (first | ((with_reducible refine so 2 X1 4 (.int .i64 pv) ?_); intro V2 S; replace X0 := X0.kp S.kept; replace c0 := X0.cell; replace f0 := X0.froz; replace X1 : Bx V2 b1 [.int .i64 id, .int .i64 size, .int .i64 view, .bool normal, .int .i64 pv, .slice hh.L.1 hh.L.2.1 hh.L.2.2, .int .i64 commit, .slice hh.O.1 hh.O.2.1 hh.O.2.2, .slice hh.A.1 hh.A.2.1 hh.A.2.2, .slice hh.D.1 hh.D.2.1 hh.D.2.2] := S.bx; replace c1 := X1.cell; replace f1 := X1.froz; replace KP := KP.low (S.kept.below _ (by omega) KP.size); replace D := h.move KP (D.src.kept S.kept (by omega)); replace KX := KX.low (S.kept.below _ (by omega) KX.size); clear S) | fail)
  have YY : RepAt V2 true zY w1.heap.size hh ⟨id, size, view, normal, last, log, commit, oks, asks, doers⟩ := HY.out.kept KX (Or.inr (by omega))
  have hKX := KX.size
  clear KX
  go_wp2_with (first | ((with_reducible refine sm 29 X0 0 [.int .i64 id, .int .i64 size, .int .i64 view, .bool normal, .int .i64 pv, .slice hh.L.1 hh.L.2.1 hh.L.2.2, .int .i64 commit, .slice hh.O.1 hh.O.2.1 hh.O.2.2, .slice hh.A.1 hh.A.2.1 hh.A.2.2, .slice hh.D.1 hh.D.2.1 hh.D.2.2] ?_); intro V3 S; replace X0 : Bx V3 b0 [.int .i64 id, .int .i64 size, .int .i64 view, .bool normal, .int .i64 pv, .slice hh.L.1 hh.L.2.1 hh.L.2.2, .int .i64 commit, .slice hh.O.1 hh.O.2.1 hh.O.2.2, .slice hh.A.1 hh.A.2.1 hh.A.2.2, .slice hh.D.1 hh.D.2.1 hh.D.2.2] := S.bx; replace c0 := X0.cell; replace f0 := X0.froz; replace X1 := X1.kp S.kept; replace c1 := X1.cell; replace f1 := X1.froz; replace KP := KP.low (S.kept.below _ (by omega) KP.size); replace D := h.move KP (D.src.kept S.kept (by omega)); replace YY := YY.kept S.kept (Or.inr (by omega)); have hk2 := S.kept.size; clear S))
  obtain ⟨pF, hpF, DF⟩ : ∃ pF, pF ≤ p + 710 ∧ SB V3 g pF ac nc cc bs := ⟨_, by omega, D⟩
  refine bodyPost_ret (v := .agg #[.int .i64 id, .int .i64 size, .int .i64 view, .bool normal, .int .i64 pv, .slice hh.L.1 hh.L.2.1 hh.L.2.2, .int .i64 commit, .slice hh.O.1 hh.O.2.1 hh.O.2.2, .slice hh.A.1 hh.A.2.1 hh.A.2.2, .slice hh.D.1 hh.D.2.1 hh.D.2.2]) (by simp [results, Tryz.results45, go_sem, *]) rfl ⟨⟨id, size, view, normal, pv, log, commit, oks, asks, doers⟩, hh, pF, rfl, ?_, (HZ.out.mono (by omega)), hpF, DF, KP⟩
  exact ⟨YY.log.widen lwz (Nat.le_trans hKX hk2), YY.oks.widen lwz (Nat.le_trans hKX hk2), YY.asks.widen lwz (Nat.le_trans hKX hk2), YY.doers.widen lwz (Nat.le_trans hKX hk2), YY.sep⟩
 have q2' : ¬ ((v : Int) = 2) := by omega
 have e2 : ((v : Int) == 2) = false := beq_false_of_ne q2'
 clear q2'
 by_cases q3 : v = 3
 ·subst q3
  go_wp2_with (first | ((have g := ob1); clear g; (with_reducible refine lit_newX 25 2 _ [.int .i64 (-1), .int .i64 41] 2 (fun _ => by kernel_rfl)  ?_); intro b2 W2 N2; have ob2 : w.heap.size ≤ b2 := Nat.le_trans KP.size N2.ge; have o0_b2 := N2.u X0; have o1_b2 := N2.u X1; have KX_b2 : w1.heap.size ≤ b2 := Nat.le_trans KX.size N2.ge; replace X0 := N2.r X0; replace c0 := X0.cell; replace f0 := X0.froz; replace X1 := N2.r X1; replace c1 := X1.cell; replace f1 := X1.froz; replace D := D.below N2.below; replace KP := KP.next N2.below; replace KX := KX.next N2.below; obtain ⟨X2, c2⟩ := N2.c; clear N2) | fail)
  have R1 : RowAt _ true b2 (b2 + 1) 1 (some ⟨b2, 0, none⟩) 2 2 (ints [(-1), 41]) := bx_row X2 rfl
  refine (pick_in D 2 (by omega) (by omega) (by omega) _ _ [(-1), 41] R1 (by omega)).mono ?_
  rintro e x2 ⟨i1, hi1, rfl, D', K', -⟩
  replace X0 := X0.kept K' (by omega)
  replace c0 := X0.cell
  replace f0 := X0.froz
  replace X1 := X1.kept K' (by omega)
  replace c1 := X1.cell
  replace f1 := X1.froz
  replace X2 := X2.kept K' (by omega)
  replace c2 := X2.cell
  replace KX := KX.trans K'
  replace KP := KP.trans K'
  replace D := D'
  clear D' K'
  clear R1 X2 c2
  obtain ⟨pv, hpv⟩ : ∃ pv : Int, ([(-1), 41] : List Int).getD i1 0 = pv := ⟨_, rfl⟩
  rw [hpv]
  clear hpv hi1
  go_upto_region 18 with (first | ((with_reducible refine so 2 X1 6 (.int .i64 pv) ?_); intro V2 S; replace X0 := X0.kp S.kept; replace c0 := X0.cell; replace f0 := X0.froz; replace X1 : Bx V2 b1 [.int .i64 id, .int .i64 size, .int .i64 view, .bool normal, .int .i64 last, .slice hh.L.1 hh.L.2.1 hh.L.2.2, .int .i64 pv, .slice hh.O.1 hh.O.2.1 hh.O.2.2, .slice hh.A.1 hh.A.2.1 hh.A.2.2, .slice hh.D.1 hh.D.2.1 hh.D.2.2] := S.bx; replace c1 := X1.cell; replace f1 := X1.froz; replace KP := KP.low (S.kept.below _ (by omega) KP.size); replace D := h.move KP (D.src.kept S.kept (by omega)); replace KX := KX.low (S.kept.below _ (by omega) KX.size); clear S) | fail)
  have YY : RepAt V2 true zY w1.heap.size hh ⟨id, size, view, normal, last, log, commit, oks, asks, doers⟩ := HY.out.kept KX (Or.inr (by omega))
  have hKX := KX.size
  clear KX
  go_wp2_with (first | ((with_reducible refine sm 29 X0 0 [.int .i64 id, .int .i64 size, .int .i64 view, .bool normal, .int .i64 last, .slice hh.L.1 hh.L.2.1 hh.L.2.2, .int .i64 pv, .slice hh.O.1 hh.O.2.1 hh.O.2.2, .slice hh.A.1 hh.A.2.1 hh.A.2.2, .slice hh.D.1 hh.D.2.1 hh.D.2.2] ?_); intro V3 S; replace X0 : Bx V3 b0 [.int .i64 id, .int .i64 size, .int .i64 view, .bool normal, .int .i64 last, .slice hh.L.1 hh.L.2.1 hh.L.2.2, .int .i64 pv, .slice hh.O.1 hh.O.2.1 hh.O.2.2, .slice hh.A.1 hh.A.2.1 hh.A.2.2, .slice hh.D.1 hh.D.2.1 hh.D.2.2] := S.bx; replace c0 := X0.cell; replace f0 := X0.froz; replace X1 := X1.kp S.kept; replace c1 := X1.cell; replace f1 := X1.froz; replace KP := KP.low (S.kept.below _ (by omega) KP.size); replace D := h.move KP (D.src.kept S.kept (by omega)); replace YY := YY.kept S.kept (Or.inr (by omega)); have hk2 := S.kept.size; clear S))
  obtain ⟨pF, hpF, DF⟩ : ∃ pF, pF ≤ p + 710 ∧ SB V3 g pF ac nc cc bs := ⟨_, by omega, D⟩
  refine bodyPost_ret (v := .agg #[.int .i64 id, .int .i64 size, .int .i64 view, .bool normal, .int .i64 last, .slice hh.L.1 hh.L.2.1 hh.L.2.2, .int .i64 pv, .slice hh.O.1 hh.O.2.1 hh.O.2.2, .slice hh.A.1 hh.A.2.1 hh.A.2.2, .slice hh.D.1 hh.D.2.1 hh.D.2.2]) (by simp [results, Tryz.results45, go_sem, *]) rfl ⟨⟨id, size, view, normal, last, log, pv, oks, asks, doers⟩, hh, pF, rfl, ?_, (HZ.out.mono (by omega)), hpF, DF, KP⟩
  exact ⟨YY.log.widen lwz (Nat.le_trans hKX hk2), YY.oks.widen lwz (Nat.le_trans hKX hk2), YY.asks.widen lwz (Nat.le_trans hKX hk2), YY.doers.widen lwz (Nat.le_trans hKX hk2), YY.sep⟩
 have q3' : ¬ ((v : Int) = 3) := by omega
 have e3 : ((v : Int) == 3) = false := beq_false_of_ne q3'
 clear q3'
 by_cases q4 : v = 4
 ·subst q4
  have hO5 : hh.O.2.1 ≤ 1000 := HZ.out.O
  have HOZ : Hid (x1.ownsRow zY 2 1 (.slice hh.O.1 hh.O.2.1 hh.O.2.2) hh.O.2.1 (ints oks)) := owns_kept HO.out KX (fun x e => Or.inr (by have := (World.ownsRow.lt HO.out x e).1; omega))
  have HNB : Hid (∀ x, (Value.slice hh.O.1 hh.O.2.1 hh.O.2.2).ownBlock = some x → zY ≤ x ∧ x < w1.heap.size) := fun x e => World.ownsRow.lt HO.out x e
  have HFR : Hid _ := oks_far (r := ⟨id, size, view, normal, last, log, commit, oks, asks, doers⟩) HY.out HO.out HN.out
  have lzx : zY ≤ x1.heap.size := Nat.le_trans lz1 KX.size
  go_upto_region 18 with (first | ((with_reducible refine so 25 X1 7 (.slice sa (hh.O.2.1 + 1) sc) ?_); intro V2 S; replace X0 := X0.kp S.kept; replace c0 := X0.cell; replace f0 := X0.froz; replace X1 : Bx V2 b1 [.int .i64 id, .int .i64 size, .int .i64 view, .bool normal, .int .i64 last, .slice hh.L.1 hh.L.2.1 hh.L.2.2, .int .i64 commit, .slice sa (hh.O.2.1 + 1) sc, .slice hh.A.1 hh.A.2.1 hh.A.2.2, .slice hh.D.1 hh.D.2.1 hh.D.2.2] := S.bx; replace c1 := X1.cell; replace f1 := X1.froz; replace KP := KP.low (S.kept.below _ (by omega) KP.size); replace D := h.move KP (D.src.kept S.kept (by omega)); replace HO2 : Hid (V2.ownsRow zY 2 1 (.slice sa (hh.O.2.1 + 1) sc) (hh.O.2.1 + 1) (ints oks ++ [.int .i64 0])) := owns_kept HO2.out S.kept (fun x e => by have := NEWB.out x e; omega); replace HKT : Hid (KeptS (fun x => (Value.slice hh.O.1 hh.O.2.1 hh.O.2.2).ownBlock = some x ∨ x = b1 ∨ x = b0) W2 V2) := HKT.out.trans (S.kept.toS (fun x h1 h2 => by have : x = b1 := (by omega); first | exact Or.inr (Or.inl this) | exact Or.inr (Or.inr this))); clear S) | (at_builtin; refine Lib.wpList_append_run _ rfl _ _ _ _ rfl _ _ rfl rfl _ _ (hr _) ?_; have BL := HKS.out.low zY (fun x e => (HNB.out x e).1) (Nat.le_trans lzx hsW); have HKT : Hid (KeptS (fun x => (Value.slice hh.O.1 hh.O.2.1 hh.O.2.2).ownBlock = some x ∨ x = b1 ∨ x = b0) W2 w6) := HKS.out.mono (fun x e => Or.inl e); have NEWB : Hid (∀ x, (Value.slice sa (hh.O.2.1 + 1) sc).ownBlock = some x → zY ≤ x ∧ x ≠ b1 ∧ x ≠ b0) := (fun x e => (by rcases HAT.out with z | z; (have := HNB.out x (z ▸ e); omega); (rw [z] at e; have e3 := Option.some.inj e; have := X1.lt; have := X0.lt; omega))); replace X1 := X1.keptS HKS.out (fun e => by have := HNB.out b1 e; omega); replace c1 := X1.cell; replace f1 := X1.froz; replace X0 := X0.low BL l0z; replace c0 := X0.cell; replace f0 := X0.froz; replace KP := KP.low (BL.mono lwz); replace D := h.move KP (D.src.kept (Kept.ofB BL) (Or.inl (by omega))); have hW26 := BL.size; clear BL X2 c2) | ((have g := ob1); clear g; (with_reducible refine lit_newX 25 1 _ [.int .i64 0] 2 (fun _ => by kernel_rfl)  ?_); intro b2 W2 N2; have ob2 : w.heap.size ≤ b2 := Nat.le_trans KP.size N2.ge; have o0_b2 := N2.u X0; have o1_b2 := N2.u X1; have KX_b2 : w1.heap.size ≤ b2 := Nat.le_trans KX.size N2.ge; replace X0 := N2.r X0; replace c0 := X0.cell; replace f0 := X0.froz; replace X1 := N2.r X1; replace c1 := X1.cell; replace f1 := X1.froz; replace D := D.below N2.below; replace KP := KP.next N2.below; replace KX := KX.next N2.below; obtain ⟨X2, c2⟩ := N2.c; have b2B := N2.below; clear N2; obtain ⟨v', w6, hr, ho, KS, hat⟩ := own_snoc (owns_below HOZ.out b2B) 25 i2 (.int .i64 0) 8 Tryz.underlying25 hi2 ha2 hb2 hc2 rfl (by omega) (.int .i64 0) rfl X2 hO5 (Nat.le_trans lzx b2B.size); obtain ⟨sa, sc, e9, _, _⟩ := owns_slice ho; subst e9; have HO2 : Hid (w6.ownsRow zY 2 1 (.slice sa (hh.O.2.1 + 1) sc) (hh.O.2.1 + 1) (ints oks ++ [.int .i64 0])) := ho; have HAT : Hid _ := hat; have HKS : Hid _ := KS; have HB2 : Hid _ := b2B; have hsW := b2B.size; clear ho hat KS b2B) | fail)
  go_wp2_with (first | ((with_reducible refine sm 29 X0 0 [.int .i64 id, .int .i64 size, .int .i64 view, .bool normal, .int .i64 last, .slice hh.L.1 hh.L.2.1 hh.L.2.2, .int .i64 commit, .slice sa (hh.O.2.1 + 1) sc, .slice hh.A.1 hh.A.2.1 hh.A.2.2, .slice hh.D.1 hh.D.2.1 hh.D.2.2] ?_); intro V3 S; replace X0 : Bx V3 b0 [.int .i64 id, .int .i64 size, .int .i64 view, .bool normal, .int .i64 last, .slice hh.L.1 hh.L.2.1 hh.L.2.2, .int .i64 commit, .slice sa (hh.O.2.1 + 1) sc, .slice hh.A.1 hh.A.2.1 hh.A.2.2, .slice hh.D.1 hh.D.2.1 hh.D.2.2] := S.bx; replace c0 := X0.cell; replace f0 := X0.froz; replace X1 := X1.kp S.kept; replace c1 := X1.cell; replace f1 := X1.froz; replace KP := KP.low (S.kept.below _ (by omega) KP.size); replace D := h.move KP (D.src.kept S.kept (by omega)); replace HO2 : Hid (V3.ownsRow zY 2 1 (.slice sa (hh.O.2.1 + 1) sc) (hh.O.2.1 + 1) (ints oks ++ [.int .i64 0])) := owns_kept HO2.out S.kept (fun x e => by have := NEWB.out x e; omega); replace HKT : Hid (KeptS (fun x => (Value.slice hh.O.1 hh.O.2.1 hh.O.2.2).ownBlock = some x ∨ x = b1 ∨ x = b0) W2 V3) := HKT.out.trans (S.kept.toS (fun x h1 h2 => by have : x = b0 := (by omega); first | exact Or.inr (Or.inl this) | exact Or.inr (Or.inr this))); clear S))
  obtain ⟨pF, hpF, DF⟩ : ∃ pF, pF ≤ p + 710 ∧ SB V3 g pF ac nc cc bs := ⟨_, by omega, D⟩
  refine bodyPost_ret (v := .agg #[.int .i64 id, .int .i64 size, .int .i64 view, .bool normal, .int .i64 last, .slice hh.L.1 hh.L.2.1 hh.L.2.2, .int .i64 commit, .slice sa (hh.O.2.1 + 1) sc, .slice hh.A.1 hh.A.2.1 hh.A.2.2, .slice hh.D.1 hh.D.2.1 hh.D.2.2]) (by simp [results, Tryz.results45, go_sem, *]) rfl ⟨⟨id, size, view, normal, last, log, commit, (oks ++ [0]), asks, doers⟩, { hh with O := (sa, hh.O.2.1 + 1, sc) }, pF, rfl, ?_, ⟨Nat.le_trans HZ.out.L (by omega), (by show hh.O.2.1 + 1 ≤ 1001; omega), Nat.le_trans HZ.out.A (by omega), Nat.le_trans HZ.out.D (by omega), fun i hi => Nat.le_trans (HZ.out.K i hi) (by omega)⟩, hpF, DF, KP⟩
  have YY : RepAt W2 true zY W2.heap.size hh ⟨id, size, view, normal, last, log, commit, oks, asks, doers⟩ := (HY.out.kept KX (Or.inr (by omega))).widen (Nat.le_refl _) KX.size
  have YZ := RepAt.oksGrow YY _ HKT.out (fun q c => by rcases c with c | c | c; (exact HFR.out q c); (subst c; exact ⟨fun z => by have := (HY.out.log.inB z).2.1; omega, fun z => by have := (HY.out.asks.inB z).2.1; omega, fun z => by have := (HY.out.doers.els.inB z).2.1; omega⟩); (subst c; exact ⟨fun z => by have := (HY.out.log.inB z).1; omega, fun z => by have := (HY.out.asks.inB z).1; omega, fun z => by have := (HY.out.doers.els.inB z).1; omega⟩)) (y := 0) (by rw [ints_snoc]; exact HO2.out) HAT.out HFR.out
  exact ⟨YZ.log.widen lwz (Nat.le_refl _), YZ.oks.widen lwz (Nat.le_refl _), YZ.asks.widen lwz (Nat.le_refl _), YZ.doers.widen lwz (Nat.le_refl _), YZ.sep⟩
 have q4' : ¬ ((v : Int) = 4) := by omega
 have e4 : ((v : Int) == 4) = false := beq_false_of_ne q4'
 clear q4'
 by_cases q5 : v = 5
 ·subst q5
  skip
  go_upto_region 18 with (first | ((with_reducible refine so 4 X1 3 (.bool (!normal)) ?_); intro V2 S; replace X0 := X0.kp S.kept; replace c0 := X0.cell; replace f0 := X0.froz; replace X1 : Bx V2 b1 [.int .i64 id, .int .i64 size, .int .i64 view, .bool (!normal), .int .i64 last, .slice hh.L.1 hh.L.2.1 hh.L.2.2, .int .i64 commit, .slice hh.O.1 hh.O.2.1 hh.O.2.2, .slice hh.A.1 hh.A.2.1 hh.A.2.2, .slice hh.D.1 hh.D.2.1 hh.D.2.2] := S.bx; replace c1 := X1.cell; replace f1 := X1.froz; replace KP := KP.low (S.kept.below _ (by omega) KP.size); replace D := h.move KP (D.src.kept S.kept (by omega)); replace KX := KX.low (S.kept.below _ (by omega) KX.size); clear S) | fail)
  have YY : RepAt V2 true zY w1.heap.size hh ⟨id, size, view, normal, last, log, commit, oks, asks, doers⟩ := HY.out.kept KX (Or.inr (by omega))
  have hKX := KX.size
  clear KX
  go_wp2_with (first | ((with_reducible refine sm 29 X0 0 [.int .i64 id, .int .i64 size, .int .i64 view, .bool (!normal), .int .i64 last, .slice hh.L.1 hh.L.2.1 hh.L.2.2, .int .i64 commit, .slice hh.O.1 hh.O.2.1 hh.O.2.2, .slice hh.A.1 hh.A.2.1 hh.A.2.2, .slice hh.D.1 hh.D.2.1 hh.D.2.2] ?_); intro V3 S; replace X0 : Bx V3 b0 [.int .i64 id, .int .i64 size, .int .i64 view, .bool (!normal), .int .i64 last, .slice hh.L.1 hh.L.2.1 hh.L.2.2, .int .i64 commit, .slice hh.O.1 hh.O.2.1 hh.O.2.2, .slice hh.A.1 hh.A.2.1 hh.A.2.2, .slice hh.D.1 hh.D.2.1 hh.D.2.2] := S.bx; replace c0 := X0.cell; replace f0 := X0.froz; replace X1 := X1.kp S.kept; replace c1 := X1.cell; replace f1 := X1.froz; replace KP := KP.low (S.kept.below _ (by omega) KP.size); replace D := h.move KP (D.src.kept S.kept (by omega)); replace YY := YY.kept S.kept (Or.inr (by omega)); have hk2 := S.kept.size; clear S))
  obtain ⟨pF, hpF, DF⟩ : ∃ pF, pF ≤ p + 710 ∧ SB V3 g pF ac nc cc bs := ⟨_, by omega, D⟩
  refine bodyPost_ret (v := .agg #[.int .i64 id, .int .i64 size, .int .i64 view, .bool (!normal), .int .i64 last, .slice hh.L.1 hh.L.2.1 hh.L.2.2, .int .i64 commit, .slice hh.O.1 hh.O.2.1 hh.O.2.2, .slice hh.A.1 hh.A.2.1 hh.A.2.2, .slice hh.D.1 hh.D.2.1 hh.D.2.2]) (by simp [results, Tryz.results45, go_sem, *]) rfl ⟨⟨id, size, view, (!normal), last, log, commit, oks, asks, doers⟩, hh, pF, rfl, ?_, (HZ.out.mono (by omega)), hpF, DF, KP⟩
  exact ⟨YY.log.widen lwz (Nat.le_trans hKX hk2), YY.oks.widen lwz (Nat.le_trans hKX hk2), YY.asks.widen lwz (Nat.le_trans hKX hk2), YY.doers.widen lwz (Nat.le_trans hKX hk2), YY.sep⟩
 have q5' : ¬ ((v : Int) = 5) := by omega
 have e5 : ((v : Int) == 5) = false := beq_false_of_ne q5'
 clear q5'
 by_cases q6 : v = 6
 ·subst q6
  by_cases hD0 : 0 < hh.D.2.1
  rotate_left 1
  ·have hD1 : ¬ (0 : Int) < (hh.D.2.1 : Int) := by omega
   go_upto_region 18 with fail
   have YY : RepAt x1 true zY w1.heap.size hh ⟨id, size, view, normal, last, log, commit, oks, asks, doers⟩ := HY.out.kept KX (Or.inr (by omega))
   have hKX := KX.size
   clear KX
   go_wp2_with (first | ((with_reducible refine sm 29 X0 0 [.int .i64 id, .int .i64 size, .int .i64 view, .bool normal, .int .i64 last, .slice hh.L.1 hh.L.2.1 hh.L.2.2, .int .i64 commit, .slice hh.O.1 hh.O.2.1 hh.O.2.2, .slice hh.A.1 hh.A.2.1 hh.A.2.2, .slice hh.D.1 hh.D.2.1 hh.D.2.2] ?_); intro V2 S; replace X0 : Bx V2 b0 [.int .i64 id, .int .i64 size, .int .i64 view, .bool normal, .int .i64 last, .slice hh.L.1 hh.L.2.1 hh.L.2.2, .int .i64 commit, .slice hh.O.1 hh.O.2.1 hh.O.2.2, .slice hh.A.1 hh.A.2.1 hh.A.2.2, .slice hh.D.1 hh.D.2.1 hh.D.2.2] := S.bx; replace c0 := X0.cell; replace f0 := X0.froz; replace X1 := X1.kp S.kept; replace c1 := X1.cell; replace f1 := X1.froz; replace KP := KP.low (S.kept.below _ (by omega) KP.size); replace D := h.move KP (D.src.kept S.kept (by omega)); replace YY := YY.kept S.kept (Or.inr (by omega)); have hk2 := S.kept.size; clear S))
   obtain ⟨pF, hpF, DF⟩ : ∃ pF, pF ≤ p + 710 ∧ SB V2 g pF ac nc cc bs := ⟨_, by omega, D⟩
   refine bodyPost_ret (v := .agg #[.int .i64 id, .int .i64 size, .int .i64 view, .bool normal, .int .i64 last, .slice hh.L.1 hh.L.2.1 hh.L.2.2, .int .i64 commit, .slice hh.O.1 hh.O.2.1 hh.O.2.2, .slice hh.A.1 hh.A.2.1 hh.A.2.2, .slice hh.D.1 hh.D.2.1 hh.D.2.2]) (by simp [results, Tryz.results45, go_sem, *]) rfl ⟨⟨id, size, view, normal, last, log, commit, oks, asks, doers⟩, hh, pF, rfl, ?_, (HZ.out.mono (by omega)), hpF, DF, KP⟩
   exact ⟨YY.log.widen lwz (Nat.le_trans hKX hk2), YY.oks.widen lwz (Nat.le_trans hKX hk2), YY.asks.widen lwz (Nat.le_trans hKX hk2), YY.doers.widen lwz (Nat.le_trans hKX hk2), YY.sep⟩
  have hD1 : (0 : Int) < (hh.D.2.1 : Int) := by omega
  obtain ⟨hL, hO, hA, ⟨dA, dn, dc⟩, hK⟩ := hh
  simp only at HY HO HN HZ X1 c1 hD0 hD1
  have YY : RepAt x1 true zY w1.heap.size ⟨hL, hO, hA, (dA, dn, dc), hK⟩ ⟨id, size, view, normal, last, log, commit, oks, asks, doers⟩ := HY.out.kept KX (Or.inr (by omega))
  obtain ⟨db, doff, eD, hd1, hd2, hdb, -, -, -, e3, fz⟩ := YY.doers.doer hD0
  simp only at eD
  subst eD
  have f3 := fz rfl 3 (by omega)
  simp only [Nat.zero_mul, Nat.zero_add, Nat.add_zero] at e3 f3
  have HYY : Hid (RepAt x1 true zY w1.heap.size ⟨hL, hO, hA, (some ⟨db, doff, none⟩, dn, dc), hK⟩ ⟨id, size, view, normal, last, log, commit, oks, asks, doers⟩) := YY
  clear fz YY
  have hdl : (0 : Int) < (dn : Int) := hD1
  go_upto_region 18 with (first | ((refine store_oneM 2 e3 f3 (.int .i64 9) (by kernel_rfl) rfl rfl rfl ?_); intro V5 P; have KC : Kept db (db + 1) x1 V5 := (by rw [P.eq]; exact Kept.setCell (p := ⟨db, doff + 3, none⟩) (Kept.refl _ _ _) (Nat.le_refl _) (Nat.lt_succ_self _) _); have HP : Hid _ := P; clear P e3 f3; replace X0 := X0.kept KC (by omega); replace c0 := X0.cell; replace f0 := X0.froz; replace X1 := X1.kept KC (by omega); replace c1 := X1.cell; replace f1 := X1.froz; replace KP := KP.low (KC.below _ (by omega) KP.size); replace D := h.move KP (D.src.kept KC (by omega)); have hV5 := KC.size; clear KC) | fail)
  go_wp2_with (first | ((with_reducible refine sm 29 X0 0 [.int .i64 id, .int .i64 size, .int .i64 view, .bool normal, .int .i64 last, .slice hL.1 hL.2.1 hL.2.2, .int .i64 commit, .slice hO.1 hO.2.1 hO.2.2, .slice hA.1 hA.2.1 hA.2.2, .slice (some ⟨db, doff, none⟩) dn dc] ?_); intro V2 S; replace X0 : Bx V2 b0 [.int .i64 id, .int .i64 size, .int .i64 view, .bool normal, .int .i64 last, .slice hL.1 hL.2.1 hL.2.2, .int .i64 commit, .slice hO.1 hO.2.1 hO.2.2, .slice hA.1 hA.2.1 hA.2.2, .slice (some ⟨db, doff, none⟩) dn dc] := S.bx; replace c0 := X0.cell; replace f0 := X0.froz; replace X1 := X1.kp S.kept; replace c1 := X1.cell; replace f1 := X1.froz; replace KP := KP.low (S.kept.below _ (by omega) KP.size); replace D := h.move KP (D.src.kept S.kept (by omega)); have hk2 := S.kept; clear S))
  obtain ⟨pF, hpF, DF⟩ : ∃ pF, pF ≤ p + 710 ∧ SB V2 g pF ac nc cc bs := ⟨_, by omega, D⟩
  refine bodyPost_ret (v := .agg #[.int .i64 id, .int .i64 size, .int .i64 view, .bool normal, .int .i64 last, .slice hL.1 hL.2.1 hL.2.2, .int .i64 commit, .slice hO.1 hO.2.1 hO.2.2, .slice hA.1 hA.2.1 hA.2.2, .slice (some ⟨db, doff, none⟩) dn dc]) (by simp [results, Tryz.results45, go_sem, *]) rfl ⟨⟨id, size, view, normal, last, log, commit, oks, asks, (doers.set 0 ((doers.getD 0 dr0).1, (doers.getD 0 dr0).2.1, (doers.getD 0 dr0).2.2.1, 9))⟩, ⟨hL, hO, hA, (some ⟨db, doff, none⟩, dn, dc), hK⟩, pF, rfl, ?_, (HZ.out.mono (by omega)), hpF, DF, KP⟩
  have YV : RepAt V5 true zY w1.heap.size ⟨hL, hO, hA, (some ⟨db, doff, none⟩, dn, dc), hK⟩ ⟨id, size, view, normal, last, log, commit, oks, asks, (doers.set 0 ((doers.getD 0 dr0).1, (doers.getD 0 dr0).2.1, (doers.getD 0 dr0).2.2.1, 9))⟩ := by rw [HP.out.eq]; exact HYY.out.commit0 rfl hD0 9
  have YW := YV.kept hk2 (Or.inr (by omega))
  have hsz := hk2.size
  have hx1 := KX.size
  exact ⟨YW.log.widen lwz (by omega), YW.oks.widen lwz (by omega), YW.asks.widen lwz (by omega), YW.doers.widen lwz (by omega), YW.sep⟩
 have q6' : ¬ ((v : Int) = 6) := by omega
 have e6 : ((v : Int) == 6) = false := beq_false_of_ne q6'
 clear q6'
 go_upto_region 18 with fail
 have YY : RepAt x1 true zY w1.heap.size hh ⟨id, size, view, normal, last, log, commit, oks, asks, doers⟩ := HY.out.kept KX (Or.inr (by omega))
 have hKX := KX.size
 clear KX
 go_wp2_with (first | ((with_reducible refine sm 29 X0 0 [.int .i64 id, .int .i64 size, .int .i64 view, .bool normal, .int .i64 last, .slice hh.L.1 hh.L.2.1 hh.L.2.2, .int .i64 commit, .slice hh.O.1 hh.O.2.1 hh.O.2.2, .slice hh.A.1 hh.A.2.1 hh.A.2.2, .slice hh.D.1 hh.D.2.1 hh.D.2.2] ?_); intro V2 S; replace X0 : Bx V2 b0 [.int .i64 id, .int .i64 size, .int .i64 view, .bool normal, .int .i64 last, .slice hh.L.1 hh.L.2.1 hh.L.2.2, .int .i64 commit, .slice hh.O.1 hh.O.2.1 hh.O.2.2, .slice hh.A.1 hh.A.2.1 hh.A.2.2, .slice hh.D.1 hh.D.2.1 hh.D.2.2] := S.bx; replace c0 := X0.cell; replace f0 := X0.froz; replace X1 := X1.kp S.kept; replace c1 := X1.cell; replace f1 := X1.froz; replace KP := KP.low (S.kept.below _ (by omega) KP.size); replace D := h.move KP (D.src.kept S.kept (by omega)); replace YY := YY.kept S.kept (Or.inr (by omega)); have hk2 := S.kept.size; clear S))
 obtain ⟨pF, hpF, DF⟩ : ∃ pF, pF ≤ p + 710 ∧ SB V2 g pF ac nc cc bs := ⟨_, by omega, D⟩
 refine bodyPost_ret (v := .agg #[.int .i64 id, .int .i64 size, .int .i64 view, .bool normal, .int .i64 last, .slice hh.L.1 hh.L.2.1 hh.L.2.2, .int .i64 commit, .slice hh.O.1 hh.O.2.1 hh.O.2.2, .slice hh.A.1 hh.A.2.1 hh.A.2.2, .slice hh.D.1 hh.D.2.1 hh.D.2.2]) (by simp [results, Tryz.results45, go_sem, *]) rfl ⟨⟨id, size, view, normal, last, log, commit, oks, asks, doers⟩, hh, pF, rfl, ?_, (HZ.out.mono (by omega)), hpF, DF, KP⟩
 exact ⟨YY.log.widen lwz (Nat.le_trans hKX hk2), YY.oks.widen lwz (Nat.le_trans hKX hk2), YY.asks.widen lwz (Nat.le_trans hKX hk2), YY.doers.widen lwz (Nat.le_trans hKX hk2), YY.sep⟩
end Go.Proofs.YtonclmbihhdkpaaGreat
