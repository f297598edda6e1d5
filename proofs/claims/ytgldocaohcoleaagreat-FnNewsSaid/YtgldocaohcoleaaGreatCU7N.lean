/- Chapter 11: do of the program. -/
import Derived.Test.YtgldocaohcoleaaGreatQAFN
import Derived.Test.YtgldocaohcoleaaGreatQABN
import Derived.Test.YtgldocaohcoleaaGreatQAVN
import Derived.WalkLawsBesides
import Derived.Defers
import Derived.Laws.Pointers
import Derived.Deep.RegionHeld3
set_option maxRecDepth 20000
set_option maxHeartbeats 16000000
namespace Go.Proofs.YtgldocaohcoleaaGreat
open Go.RowKit
theorem step_elP {P : Program} {ops : Array Oper} {dst : Option Tmp} {type : TypeId} {pos : String} {after : Array Edge} {a : Act} {w : World} {K : Act → World → Prop} {Q : Exit → Act → World → Prop} {E : Prop} (ty : TypeId) {x y : Operand} {b o m : Nat} (T : w.there b o m) (us : List Value) (hl : us.length = m) (hi : (P.info? ty).map (·.size) = some m) (h1 : ∀ v ∈ us, v.oneCell' = true) (hx : a.eval x = .pointer (some ⟨b, o, none⟩)) (hy : a.eval y = .agg us.toArray)
  (h : ∀ W : World, PutE w W b o us → K (a.put dst undef) W) : if Region.wanted ⟨dst, .store ty x y, type, pos, after, none⟩ (yielded ops a.tmps) = true then Oper.wp P ⟨dst, .store ty x y, type, pos, after, none⟩ a w K Q else E := by
 have hw : Region.wanted ⟨dst, .store ty x y, type, pos, after, none⟩ (yielded ops a.tmps) = true := by simp [Region.wanted]
 rw [if_pos hw]
 subst hl
 refine wp_store_mid ty x y rfl b o us.toArray hx hy (by rw [List.size_toArray]; exact T) (by rw [List.size_toArray]; exact hi) (all_oneCell_toArray h1) (h _ ⟨?_⟩)
 simp
theorem box_ptrX {P : Program} {ops : Array Oper} {rest : List Oper} {dst : Option Tmp} {type : TypeId} {pos : String} {after : Array Edge} {a : Act} {w : World} {Q : Exit → Act → World → Prop} (ty : TypeId) {x : Operand} (p : Option Addr) (hx : a.eval x = .pointer p)
  (h : ∀ (b : Nat) (W : World), NewX w W b [.pointer p] → wpList P ops Q rest (a.put dst (.pointer (some ⟨b, 0, none⟩))) W) : wpList P ops Q (⟨dst, .box ty x, type, pos, after, none⟩ :: rest) a w := by
 refine wpList_plain rfl fun K hK => ?_
 unfold Oper.wp execOp
 simp only [hx]
 clear hx
 go_simp
 exact hK _ _ (h _ _ (by simpa using newX_mk w #[.pointer p] ty))
def doN (rs : List Rep) (i : Nat) (q : Rep) : List Rep := rs.set i q
def doM (ms : List Ml) (s : List Ml) : List Ml := ms ++ s.take (120 - ms.length)
def DoRes (w w' : World) (T : TypeId) (base b : Nat) (c : Int) (rs : List Rep) (ms : List Ml) (es : List En) : Prop := Below base w w' ∧ (c = 0 → ∃ (N M S : Hd) (xs : List Nod) (ys : List Mal), LiveAt w' T base b N M S xs ys es ∧ xs.map (·.1) = rs ∧ ys.map (·.1) = ms)
theorem map_set_fst {β γ : Type} (xs : List (β × γ)) (i : Nat) (a : β × γ) : (xs.set i a).map (·.1) = (xs.map (·.1)).set i a.1 := by rw [List.map_set]
theorem doM_map {ys zs : List Mal} : (ys ++ zs.take (120 - ys.length)).map (·.1) = doM (ys.map (·.1)) (zs.map (·.1)) := by
 unfold doM; rw [List.map_append, List.map_take, List.length_map]
theorem do1_is {lo hi base b0 b1 b2 : Nat} (u : FrameMode) (N M Sd : Hd) (xs : List Nod) (ys : List Mal) (es : List En) (c : Int) (q : Rep) (h' : RH) (s : Hd) (zs : List Mal) (w : World) (x : LiveAt w 75 base b0 N M Sd xs ys es) (X1 : Bx w b1 [.pointer (some ⟨b0, 0, none⟩)]) (X2 : Bx w b2 [.int .i64 c, .int .i64 q.id, .int .i64 q.size, .int .i64 q.view, .bool q.normal, .int .i64 q.last, .slice h'.L.1 h'.L.2.1 h'.L.2.2, .int .i64 q.commit, .slice h'.O.1 h'.O.2.1 h'.O.2.2, .slice h'.A.1 h'.A.2.1 h'.A.2.2, .slice h'.D.1 h'.D.2.1 h'.D.2.2, .slice s.1 s.2.1 s.2.2]) (hbw : base ≤ w.heap.size) (h120 : M.2.1 ≤ 120) (y : LAt mailK w true lo hi s.1 s.2.1 s.2.2 zs) (hlo : base ≤ lo) (hhi : hi ≤ w.heap.size) (hap : ∀ (i : Nat) (a : Mal), zs[i]? = some a → ∀ k, mailK.inn a k → ¬ inL nodeK N.1 N.2.1 xs k ∧ ¬ inV M ys k ∧ ¬ hR Sd k ∧ k ≠ b0) (hsz : ∀ (i : Nat) (a : Mal), zs[i]? = some a → a.2.2.1 ≤ 1048576) :
  CallsD Tryz.prog 230 #[.pointer (some ⟨b1, 0, none⟩), .pointer (some ⟨b2, 0, none⟩)] u w fun e u' w' => u' = u ∧ (e = .returned (.tuple #[]) ∧ GatRes w w' 75 base b0 N Sd xs (ys ++ zs.take (120 - ys.length)) es M) := by
 have c1 := X1.cell
 have c2 := X2.cell
 go_enter_d Tryz.func230, Tryz.ntmps230
 go_wp2_with fail
 refine (gather_is N M Sd xs ys es s zs _ x hbw h120 y hlo hhi hap hsz).mono ?_
 rintro e w1 ⟨rfl, G⟩
 go_wp2
 go_end0
 exact ⟨rfl, G⟩
theorem do_is (FN : Nat) (hcf : ∀ (vs : Array Value) (W : World), (callFunc FN vs).run Tryz.prog W = .ok (.enter FN vs) W) {base b0 : Nat} (N M Sd : Hd) (xs : List Nod) (ys : List Mal) (es : List En) (i : Nat) (hi : i < N.2.1) (r : Rep) (h : RH) (ex : xs[i]? = some (r, h)) (w : World) (x : LiveAt w 75 base b0 N M Sd xs ys es) (hbw : base ≤ w.heap.size) (h120 : M.2.1 ≤ 120) (c : Int) (q : Rep) (ms : List Ml)
  (hact : ∀ (W : World) (own : Bool) (lo hi : Nat) (hA : RH), Below w.heap.size w W → RepAt W own lo hi hA r → RSz hA 1048576 → Calls Tryz.prog FN #[.agg #[.int .i64 r.id, .int .i64 r.size, .int .i64 r.view, .bool r.normal, .int .i64 r.last, .slice hA.L.1 hA.L.2.1 hA.L.2.2, .int .i64 r.commit, .slice hA.O.1 hA.O.2.1 hA.O.2.2, .slice hA.A.1 hA.A.2.1 hA.A.2.2, .slice hA.D.1 hA.D.2.1 hA.D.2.2]] W fun e w' => NodeAns W w' e c q ms) (hcm : c = 0 → 0 ≤ q.commit ∧ q.commit ≤ q.log.length) :
  Calls Tryz.prog 158 #[.pointer (some ⟨b0, 0, none⟩), .int .i64 i, .func (.func FN) #[] #[]] w fun e w' => e = .returned (.int .i64 c) ∧ DoRes w w' 75 base b0 c (doN (xs.map (·.1)) i q) (doM (ys.map (·.1)) ms) (sealE q es) := by
 have HX : Hid _ := x
 have HA : Hid _ := hact
 have HCM : Hid _ := hcm
 have HBW : Hid _ := hbw
 have HI : Hid _ := hi
 have HEX : Hid _ := ex
 have hik : (i : Int) < (N.2.1 : Int) := by omega
 have X0 := x.bx
 have c0 := X0.cell
 have f0 := X0.froz
 have ob0 := X0.lt
 have HN5 := x.sz.n
 clear x hact hcm hbw ex
 have hmf : ∀ (fn : Fn) (first cap : Array Value) (w : World), (Instr.makeFunc fn first cap).run Tryz.prog w = .ok (.func fn first cap) w := fun _ _ _ _ => rfl
 obtain ⟨r', h2, p, o, ex2, eN, hbp, _, Xn, y, -⟩ := LAt.node HX.out.nodes hi
 have e9 : (r', h2) = (r, h) := by rw [HEX.out] at ex2; exact (Option.some.inj ex2).symm
 simp only [Prod.mk.injEq] at e9
 obtain ⟨rfl, rfl⟩ := e9
 obtain ⟨N1, Nn, Nc⟩ := N
 simp only at eN hi HI hik HN5 X0 c0
 subst eN
 clear ex2
 have cN := Xn.cell
 have hps : p < w.heap.size := Xn.lt
 have hsr : RSz h2 1048576 := HX.out.sz.nodes i _ HEX.out
 go_enter_defers Tryz.func158, Tryz.ntmps158
 go_wp2_with (first | ((have g := ob0); clear g; (with_reducible refine box_ptrX _ (some ⟨b0, 0, none⟩) rfl ?_); intro b1 W1 N1; have ob1 := N1.ge; have o0_b1 := ltl X0.lt N1.ge; replace X0 := X0.below N1.below; replace c0 := X0.cell; replace f0 := X0.froz; replace Xn := Xn.below N1.below; replace cN := Xn.cell; replace y := RepAt.below y N1.below; have B := N1.below; have X1 := N1.bx; have c1 := X1.cell; have f1 := X1.froz; clear N1) | fail)
 refine (HA.out _ _ _ _ h2 B y hsr).mono ?_
 rintro e w2 ⟨zA, uA, h', s, Km, rfl, GzA, hAA, AA, ZA, BB⟩
 have ozA : w.heap.size ≤ zA := Nat.le_trans B.size GzA
 have o0_zA := ltl X0.lt GzA
 have o1_zA := ltl X1.lt GzA
 clear GzA
 replace X0 := X0.below BB
 replace c0 := X0.cell
 replace f0 := X0.froz
 replace X1 := X1.below BB
 replace c1 := X1.cell
 replace f1 := X1.froz
 replace Xn := Xn.below BB
 replace B := below_next B BB
 clear BB
 have HZA : Hid _ := ZA
 clear ZA y Xn cN
 have HAP : Hid (∀ (j : Nat) (a : Mal), (mals Km ms)[j]? = some a → ∀ k, mailK.inn a k → zA ≤ k ∧ k < uA ∧ inE s.1 s.2.1 Km k) := fun j a e k hk => by
  obtain ⟨hj, rfl⟩ := mals_at e
  have hl := AA.send.len
  have hj2 : j < s.2.1 := by omega
  have := (AA.send.els.logs j hj2).inB hk
  exact ⟨this.1, this.2.1, Or.inr ⟨j, hj2, hk.1, hk.2⟩⟩
 have HSZ : Hid (∀ (j : Nat) (a : Mal), (mals Km ms)[j]? = some a → a.2.2.1 ≤ 1048576) := fun j a e => by
  obtain ⟨hj, rfl⟩ := mals_at e
  exact HZA.out.K j (by have := AA.send.len; omega)
 have HLO : Hid (∀ k, inL nodeK (some (⟨p, o, none⟩ : Addr)) Nn xs k ∨ inV M ys k ∨ hR Sd k ∨ k = b0 → k < w.heap.size) := fun k hk => by
  rcases hk with c1 | c1 | c1 | c1
  ·exact (HX.out.nodes.inB c1).2.2
  ·exact (HX.out.mails.inB c1).2.2
  ·exact (HX.out.slog.inB c1).2.2
  ·rw [c1]; exact HX.out.bx.lt
 by_cases hc0 : c = 0
 rotate_left 1
 ·have hc1 : (c != 0) = true := by simp [hc0]
  go_wp2_with (first | ((with_reducible refine store_midX 68 X2 0 [.int .i64 c, .int .i64 q.id, .int .i64 q.size, .int .i64 q.view, .bool q.normal, .int .i64 q.last, .slice h'.L.1 h'.L.2.1 h'.L.2.2, .int .i64 q.commit, .slice h'.O.1 h'.O.2.1 h'.O.2.2, .slice h'.A.1 h'.A.2.1 h'.A.2.2, .slice h'.D.1 h'.D.2.1 h'.D.2.2, .slice s.1 s.2.1 s.2.2] (by simp) (by kernel_rfl) (by simp [Value.oneCell']) rfl rfl ?_); intro V1 S; replace X0 := X0.kp S.kept; replace c0 := X0.cell; replace f0 := X0.froz; replace X1 := X1.kp S.kept; replace c1 := X1.cell; replace f1 := X1.froz; replace X2 : Bx V1 b2 [.int .i64 c, .int .i64 q.id, .int .i64 q.size, .int .i64 q.view, .bool q.normal, .int .i64 q.last, .slice h'.L.1 h'.L.2.1 h'.L.2.2, .int .i64 q.commit, .slice h'.O.1 h'.O.2.1 h'.O.2.2, .slice h'.A.1 h'.A.2.1 h'.A.2.2, .slice h'.D.1 h'.D.2.1 h'.D.2.2, .slice s.1 s.2.1 s.2.2] := S.bx; replace c2 := X2.cell; replace f2 := X2.froz; replace AA := AA.kept S.kept (by omega); replace hAA := Nat.le_trans hAA S.kept.size; replace B := bkp B S.kept; clear S) | ((have g := ob1); clear g; (with_reducible refine alloc_newX 68 [.int .i64 0, .int .i64 0, .int .i64 0, .int .i64 0, .bool false, .int .i64 0, .slice none 0 0, .int .i64 0, .slice none 0 0, .slice none 0 0, .slice none 0 0, .slice none 0 0] (fun _ => by kernel_rfl) ?_); intro b2 W2 N2; have ob2 := Nat.le_trans B.size N2.ge; have o0_b2 := ltl X0.lt N2.ge; have o1_b2 := ltl X1.lt N2.ge; have oAA_b2 : uA ≤ b2 := Nat.le_trans hAA N2.ge; replace X0 := X0.below N2.below; replace c0 := X0.cell; replace f0 := X0.froz; replace X1 := X1.below N2.below; replace c1 := X1.cell; replace f1 := X1.froz; replace AA := AA.below N2.below; replace hAA := Nat.le_trans hAA N2.below.size; replace B := below_next B N2.below; have X2 := N2.bx; have c2 := X2.cell; have f2 := X2.froz; clear N2))
  have hwA : uA ≤ V1.heap.size := hAA
  refine leaves_cons (f := 230) (args := #[.pointer (some ⟨b1, 0, none⟩), .pointer (some ⟨b2, 0, none⟩)]) (by simp) (by simp [go_sem]) ?_
  refine (do1_is (lo := zA) (hi := uA) _ (some ⟨p, o, none⟩, Nn, Nc) M Sd xs ys es c q h' s (mals Km ms) _ (HX.out.below B) X1 X2 (Nat.le_trans HBW.out B.size) h120 AA.send.lat (by have := HBW.out; omega) hwA (fun j a e k hk => by have h1 := HAP.out j a e k hk; have h2 := HLO.out k; exact ⟨fun z => by have := h2 (Or.inl z); omega, fun z => by have := h2 (Or.inr (Or.inl z)); omega, fun z => by have := h2 (Or.inr (Or.inr (Or.inl z))); omega, fun z => by have := h2 (Or.inr (Or.inr (Or.inr z))); omega⟩) HSZ.out).mono ?_
  rintro e u' w'' ⟨rfl, rfl, G⟩
  obtain ⟨-, GK⟩ := G
  have hlb : ∀ k, k = b0 ∨ (hv M).ownBlock = some k → base ≤ k := fun k hk => by
   rcases hk with z | z
   ·rw [z]; exact HX.out.bb
   ·exact (HX.out.mails.gr.own.lt k z).1
  have HB : Hid (Below base w w'') := (B.mono HBW.out).trans (GK.low _ hlb (Nat.le_trans HBW.out B.size))
  exact ⟨_, results_tmp rfl _ _ _, rfl, HB.out, fun z => absurd z hc0⟩
 subst hc0
 go_wp2_with (first | ((with_reducible refine store_midX 68 X2 0 [.int .i64 0, .int .i64 q.id, .int .i64 q.size, .int .i64 q.view, .bool q.normal, .int .i64 q.last, .slice h'.L.1 h'.L.2.1 h'.L.2.2, .int .i64 q.commit, .slice h'.O.1 h'.O.2.1 h'.O.2.2, .slice h'.A.1 h'.A.2.1 h'.A.2.2, .slice h'.D.1 h'.D.2.1 h'.D.2.2, .slice s.1 s.2.1 s.2.2] (by simp) (by kernel_rfl) (by simp [Value.oneCell']) rfl rfl ?_); intro V1 S; replace X0 := X0.kp S.kept; replace c0 := X0.cell; replace f0 := X0.froz; replace X1 := X1.kp S.kept; replace c1 := X1.cell; replace f1 := X1.froz; replace X2 : Bx V1 b2 [.int .i64 0, .int .i64 q.id, .int .i64 q.size, .int .i64 q.view, .bool q.normal, .int .i64 q.last, .slice h'.L.1 h'.L.2.1 h'.L.2.2, .int .i64 q.commit, .slice h'.O.1 h'.O.2.1 h'.O.2.2, .slice h'.A.1 h'.A.2.1 h'.A.2.2, .slice h'.D.1 h'.D.2.1 h'.D.2.2, .slice s.1 s.2.1 s.2.2] := S.bx; replace c2 := X2.cell; replace f2 := X2.froz; replace AA := AA.kept S.kept (by omega); replace hAA := Nat.le_trans hAA S.kept.size; replace B := bkp B S.kept; clear S) | ((have g := ob1); clear g; (with_reducible refine alloc_newX 68 [.int .i64 0, .int .i64 0, .int .i64 0, .int .i64 0, .bool false, .int .i64 0, .slice none 0 0, .int .i64 0, .slice none 0 0, .slice none 0 0, .slice none 0 0, .slice none 0 0] (fun _ => by kernel_rfl) ?_); intro b2 W2 N2; have ob2 := Nat.le_trans B.size N2.ge; have o0_b2 := ltl X0.lt N2.ge; have o1_b2 := ltl X1.lt N2.ge; have oAA_b2 : uA ≤ b2 := Nat.le_trans hAA N2.ge; replace X0 := X0.below N2.below; replace c0 := X0.cell; replace f0 := X0.froz; replace X1 := X1.below N2.below; replace c1 := X1.cell; replace f1 := X1.froz; replace AA := AA.below N2.below; replace hAA := Nat.le_trans hAA N2.below.size; replace B := below_next B N2.below; have X2 := N2.bx; have c2 := X2.cell; have f2 := X2.froz; clear N2) | fail)
 have DQ : Below V1.heap.size V1 V1.drew := (Below.refl _ _).drew
 replace X0 := X0.below DQ
 replace c0 := X0.cell
 replace f0 := X0.froz
 replace X1 := X1.below DQ
 replace c1 := X1.cell
 replace f1 := X1.froz
 replace X2 := X2.below DQ
 replace c2 := X2.cell
 replace f2 := X2.froz
 replace AA := AA.below DQ
 replace hAA := Nat.le_trans hAA DQ.size
 replace B := below_next B DQ
 clear DQ
 have Xn := (LAt.node (HX.out.below B).nodes HI.out)
 obtain ⟨_, _, _, _, _, en, _, _, Xn, _, fz⟩ := Xn
 simp only [Option.some.injEq, Addr.mk.injEq, and_true] at en
 obtain ⟨rfl, rfl⟩ := en
 have hol : p < w.heap.size := hps
 have x5 := (HX.out.below B).setN (N' := (some ⟨p, o, none⟩, Nn, Nc)) rfl HI.out (q := q) (h := h') (z := zA) (u := uA) AA.rep (by have := HBW.out; omega) hAA HZA.out.rep (fun k hk => Or.inl (by have := HLO.out k (Or.inl hk); omega)) (fun k hk => Or.inl (by have := HLO.out k (Or.inr (Or.inl hk)); omega)) (fun k hk => Or.inl (by have := HLO.out k (Or.inr (Or.inr (Or.inl hk))); omega)) (Or.inl (by have := HLO.out b0 (Or.inr (Or.inr (Or.inr rfl))); omega))
 have TH : (V1.drew).there p (o + i * 10) 10 := there_of rfl Xn.cell.2 (fz rfl)
 have HX5 : Hid _ := x5
 have KP : Kept p (p + 1) V1.drew (V1.drew.setCells p (o + i * 10) [.int .i64 q.id, .int .i64 q.size, .int .i64 q.view, .bool q.normal, .int .i64 q.last, .slice h'.L.1 h'.L.2.1 h'.L.2.2, .int .i64 q.commit, .slice h'.O.1 h'.O.2.1 h'.O.2.2, .slice h'.A.1 h'.A.2.1 h'.A.2.2, .slice h'.D.1 h'.D.2.1 h'.D.2.2]) := kept_el _ _ _
 clear x5 Xn fz
 skip
 refine wp_region_noPanic ?_
 refine wp_region_held_drew (S := (fun w' => (∀ k_2 : Nat, w'.cell? ⟨b0, k_2, none⟩ = [.slice (some ⟨p, o, none⟩) Nn Nc, .slice M.1 M.2.1 M.2.2, .slice Sd.1 Sd.2.1 Sd.2.2][k_2]?) ∧ (∀ k_2 : Nat, w'.cell? ⟨b1, k_2, none⟩ = [.pointer (some ⟨b0, 0, none⟩)][k_2]?) ∧ (∀ k_2 : Nat, w'.cell? ⟨b2, k_2, none⟩ = [.int .i64 0, .int .i64 q.id, .int .i64 q.size, .int .i64 q.view, .bool q.normal, .int .i64 q.last, .slice h'.L.1 h'.L.2.1 h'.L.2.2, .int .i64 q.commit, .slice h'.O.1 h'.O.2.1 h'.O.2.2, .slice h'.A.1 h'.A.2.1 h'.A.2.2, .slice h'.D.1 h'.D.2.1 h'.D.2.2, .slice s.1 s.2.1 s.2.2][k_2]?))) (by kernel_rfl) ⟨c0, c1, c2⟩ (fun hZq => ?_)
 refine tk 0 hZq ?_
 refine tk 1 hZq ?_
 refine tk 2 hZq ?_
 refine tk 3 hZq ?_
 refine tk 4 hZq ?_
 refine tk 5 hZq ?_
 refine tk 6 hZq ?_
 refine tk 7 hZq ?_
 refine tk 8 hZq ?_
 refine rd1 9 (fun KK hKK => ?_)
 refine step_elP 65 TH [.int .i64 q.id, .int .i64 q.size, .int .i64 q.view, .bool q.normal, .int .i64 q.last, .slice h'.L.1 h'.L.2.1 h'.L.2.2, .int .i64 q.commit, .slice h'.O.1 h'.O.2.1 h'.O.2.2, .slice h'.A.1 h'.A.2.1 h'.A.2.2, .slice h'.D.1 h'.D.2.1 h'.D.2.2] (by simp) (by kernel_rfl) (by simp [Value.oneCell']) rfl rfl ?_
 intro W5 hW5
 have x5 : LiveAt W5 75 base b0 (some ⟨p, o, none⟩, Nn, Nc) M Sd (xs.set i (q, h')) ys es := by rw [hW5.eq]; exact HX5.out
 have K5 : Kept p (p + 1) V1.drew W5 := by rw [hW5.eq]; exact KP
 have hbp : base ≤ p := by assumption
 have B5 : Below base w W5 := (B.mono HBW.out).trans (K5.below _ hbp (Nat.le_trans HBW.out B.size))
 replace X0 := x5.bx
 replace c0 := X0.cell
 replace X1 := X1.kept K5 (by omega)
 replace c1 := X1.cell
 replace X2 := X2.kept K5 (by omega)
 replace c2 := X2.cell
 replace AA := AA.kept K5 (by omega)
 replace hAA := Nat.le_trans hAA K5.size
 have hs5 := Nat.le_trans B.size K5.size
 have HX6 : Hid _ := x5
 clear x5 K5 hW5
 clear hZq
 refine hKK _ _ ⟨c0, c1, c2⟩ (fun hZq => ?_)
 clear hKK KK
 refine wpAnyH_done (by kernel_rfl) ?_ _
 refine NoPanic.normal ?_
 clear HX5 KP TH
 have HAA2 : Hid _ := AA
 have HB5 : Hid _ := B5
 clear B5
 go_wp2_with fail
 refine (seal_is (some ⟨p, o, none⟩, Nn, Nc) M Sd (xs.set i (q, h')) ys es q h' _ HX6.out (by have := HBW.out; omega) HAA2.out.rep HZA.out.rep (HCM.out (by first | trivial | rfl))).mono ?_
 rintro e w6 ⟨rfl, ⟨S', x6, hS6⟩, KS⟩
 replace X1 := X1.keptS KS (by omega)
 replace c1 := X1.cell
 replace X2 := X2.keptS KS (by omega)
 replace c2 := X2.cell
 have A6 := HAA2.out.keptS KS fun k hk e => by (have h9 := HAA2.out.inB hk; omega)
 have HX7 : Hid _ := x6
 have HA6 : Hid _ := A6
 have HS6 : Hid _ := hS6
 have HB6 : Hid (Below base w w6) := HB5.out.trans (KS.low _ (fun k hk => by rw [hk]; exact HX.out.bb) (by have := HBW.out; omega))
 have hs6 := Nat.le_trans hs5 KS.size
 have hA6 := Nat.le_trans hAA KS.size
 clear x6 A6 hS6 KS X0 c0
 have HAP2 : Hid (∀ (j : Nat) (a : Mal), (mals Km ms)[j]? = some a → ∀ k, mailK.inn a k → ¬ inL nodeK (some (⟨p, o, none⟩ : Addr)) Nn (xs.set i (q, h')) k ∧ ¬ inV M ys k ∧ ¬ hR S' k ∧ k ≠ b0) := fun j a e k hk => by
  have h1 := HAP.out j a e k hk
  have h2 := HLO.out k
  refine ⟨fun z => ?_, fun z => ?_, fun z => ?_, fun z => ?_⟩
  ·rcases z with z | ⟨j2, a2, e2, z⟩
   ·have := h2 (Or.inl (Or.inl z)); omega
   ·by_cases e3 : j2 = i
    ·subst e3
     rw [List.getElem?_set_self (by rw [LAt.len HX.out.nodes]; exact HI.out)] at e2
     rw [← Option.some.inj e2] at z
     exact HA6.out.sep rfl k z h1.2.2
    ·rw [List.getElem?_set_ne (Ne.symm e3)] at e2
     have := h2 (Or.inl (Or.inr ⟨j2, a2, e2, z⟩)); omega
  ·have := h2 (Or.inr (Or.inl z)); omega
  ·rcases HS6.out k z with z | z
   ·have := h2 (Or.inr (Or.inr (Or.inl z))); omega
   ·omega
  ·have := h2 (Or.inr (Or.inr (Or.inr z))); omega
 go_wp2
 refine leaves_cons (f := 230) (args := #[.pointer (some ⟨b1, 0, none⟩), .pointer (some ⟨b2, 0, none⟩)]) (by simp) (by simp [go_sem]) ?_
 refine (do1_is (lo := zA) (hi := uA) _ (some ⟨p, o, none⟩, Nn, Nc) M S' (xs.set i (q, h')) ys (sealE q es) 0 q h' s (mals Km ms) _ HX7.out X1 X2 (by have := HBW.out; omega) h120 HA6.out.send.lat (by have := HBW.out; omega) hA6 HAP2.out HSZ.out).mono ?_
 rintro e u' w'' ⟨rfl, rfl, G⟩
 obtain ⟨⟨M', xL⟩, GK⟩ := G
 have hlb : ∀ k, k = b0 ∨ (hv M).ownBlock = some k → base ≤ k := fun k hk => by
  rcases hk with z | z
  ·rw [z]; exact HX.out.bb
  ·exact (HX.out.mails.gr.own.lt k z).1
 have HB7 : Hid (Below base w w'') := HB6.out.trans (GK.low _ hlb (by have := HBW.out; omega))
 have eM : (ys ++ (mals Km ms).take (120 - ys.length)).map (·.1) = doM (ys.map (·.1)) ms := by rw [doM_map, mals_fst]
 exact ⟨_, results_tmp rfl _ _ _, rfl, HB7.out, fun _ => ⟨_, M', S', _, _, xL, map_set_fst _ _ _, eM⟩⟩
end Go.Proofs.YtgldocaohcoleaaGreat
