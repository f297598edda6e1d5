/- Chapter 11: gather of the program. -/
import Derived.Test.YtclghfoinologaaGreatQBC
import Derived.Defers
import Derived.Laws.Pointers
set_option maxRecDepth 20000
set_option maxHeartbeats 16000000
namespace Go.Proofs.YtclghfoinologaaGreat
open Go.RowKit
def GatRes (w w' : World) (T : TypeId) (base b : Nat) (N Sd : Hd) (xs : List Nod) (ys : List Mal) (es : List En) (M0 : Hd) : Prop := (∃ M' : Hd, LiveAt w' T base b N M' Sd xs ys es) ∧ KeptS (fun k => k = b ∨ (hv M0).ownBlock = some k) w w'
theorem gather_is {lo hi base b0 : Nat} (N M Sd : Hd) (xs : List Nod) (ys : List Mal) (es : List En) (s : Hd) (zs : List Mal) (w : World) (x : LiveAt w 96 base b0 N M Sd xs ys es) (hbw : base ≤ w.heap.size) (h120 : M.2.1 ≤ 120) (y : LAt mailK w true lo hi s.1 s.2.1 s.2.2 zs) (hlo : base ≤ lo) (hhi : hi ≤ w.heap.size) (hap : ∀ (i : Nat) (a : Mal), zs[i]? = some a → ∀ k, mailK.inn a k → ¬ inL nodeK N.1 N.2.1 xs k ∧ ¬ inV M ys k ∧ ¬ hR Sd k ∧ k ≠ b0) (hsz : ∀ (i : Nat) (a : Mal), zs[i]? = some a → a.2.2.1 ≤ 1048576) :
  Calls Tryz.prog 95 #[.pointer (some ⟨b0, 0, none⟩), .slice s.1 s.2.1 s.2.2] w fun e w' => e = .returned (.tuple #[]) ∧ GatRes w w' 96 base b0 N Sd xs (ys ++ zs.take (120 - ys.length)) es M := by
 obtain ⟨kk, hkk⟩ : ∃ kk : Nat, kk = min (120 - M.2.1) s.2.1 := ⟨_, rfl⟩
 have hyl : ys.length = M.2.1 := x.mails.gr.len
 have hzl : zs.length = s.2.1 := y.len
 have HT : Hid (zs.take (120 - ys.length) = zs.take kk) := by
  show _ = _
  rw [hyl, hkk]
  by_cases c : 120 - M.2.1 ≤ s.2.1
  ·rw [Nat.min_eq_left c]
  ·rw [Nat.min_eq_right (by omega), List.take_of_length_le (by omega), List.take_of_length_le (by omega)]
 have hk1 : kk ≤ s.2.1 := by omega
 have hk2 : M.2.1 + kk ≤ 120 := by omega
 have hmin : (if (s.2.1 : Int) < 120 - (M.2.1 : Int) then (s.2.1 : Int) else 120 - (M.2.1 : Int)) = (kk : Int) := by split <;> omega
 have YP := y.pre mailOk hk1
 have gets : ∀ (i : Nat) (a : Mal), (zs.take kk)[i]? = some a → zs[i]? = some a := fun i a e => by
  have hi : i < kk := by have := (List.getElem?_eq_some_iff.1 e).1;rw [List.length_take] at this;omega
  rwa [List.getElem?_take_of_lt hi] at e
 obtain ⟨i0, hi0, ha0, hb0, hc0⟩ := info_parts Tryz.infMail
 have hcap := y.row.le
 have hw1 : IntKind.i64.wrap ((120 : Int) - (M.2.1 : Int)) = 120 - (M.2.1 : Int) := wrapI_same _ (by omega)
 have hkc : (kk : Int) ≤ (s.2.2 : Int) := by omega
 have hk0 : ¬ (kk : Int) < 0 := by omega
 have X0 := x.bx;have c0 := X0.cell;have f0 := X0.froz;have ob0 := X0.lt
 have HX : Hid _ := x
 have HYP : Hid _ := YP
 have HG : Hid _ := gets
 have HAP : Hid _ := hap
 have HSZ : Hid _ := hsz
 have HLH : Hid (base ≤ lo ∧ hi ≤ w.heap.size) := ⟨hlo, hhi⟩
 have HBW : Hid _ := hbw
 clear x y YP gets hkk hap hsz hlo hhi hbw
 go_enter Tryz.func95, Tryz.ntmps95
 go_wp2_with fail
 have DQ : Below w.heap.size w w.drew := (Below.refl _ _).drew
 obtain ⟨M', W2, hr, KS, hL, X2⟩ := (HX.out.below DQ).app (P := Tryz.prog) (Nat.le_trans HBW.out DQ.size) 33 i0 (.agg #[.int .i64 0, .int .i64 0, .int .i64 0, .int .i64 0, .int .i64 0, .bool false, .int .i64 0, .int .i64 0, .int .i64 0, .int .i64 0, .int .i64 0, .int .i64 0, .int .i64 0, .slice none 0 0, .int .i64 0]) 136 Tryz.underlying33 hi0 ha0 hb0 hc0 rfl (by omega) s.1 kk s.2.2 (zs.take kk) (HYP.out.below mailOk DQ).row HYP.out.len (fun i a e => mailOk.widen (mailOk.below (HYP.out.each i a e) DQ) HLH.out.1 (Nat.le_trans HLH.out.2 DQ.size)) (fun i a e => HAP.out i a (HG.out i a e)) (fun i j a c e1 e2 => HYP.out.sep rfl i j a c e1 e2) (by omega) (fun i a e => HSZ.out i a (HG.out i a e))
 have HL : Hid _ := hL
 have HKS : Hid _ := KS
 replace X0 := X0.below DQ;replace c0 := X0.cell;replace f0 := X0.froz;clear hL KS DQ hi0 ha0 hb0 hc0
 refine wp_region_held_drew (S := (fun _ => True)) (by kernel_rfl) trivial (fun hZq => ?_)
 refine tk 0 hZq ?_;refine tk 1 hZq ?_;refine tk 2 hZq ?_;refine tk 3 hZq ?_;refine tk 4 hZq ?_;refine tk 6 hZq ?_;refine tk 7 hZq ?_;refine tk 8 hZq ?_;refine tk 9 hZq ?_;refine tk 10 hZq ?_;refine tk 11 hZq ?_
 refine rd1 5 (fun KK hKK => ?_)
 rw [if_pos (by simp [Region.wanted])]
 unfold Oper.wp execOp
 go_simp
 clear hZq
 refine hKK _ _ trivial (fun hZq => ?_)
 clear hKK KK
 refine rd1 12 (fun KK hKK => ?_)
 refine step_append_run rfl _ _ _ _ rfl _ _ rfl rfl _ _ (hr _) ?_;clear hZq
 refine hKK _ _ trivial (fun hZq => ?_)
 clear hKK KK;refine tk 13 hZq ?_;refine tk 14 hZq ?_;refine tk 15 hZq ?_
 refine rd1 16 (fun KK hKK => ?_)
 refine step_oneX 33 X2 1 (.slice M'.1 M'.2.1 M'.2.2) (by simp) (by kernel_rfl) rfl rfl rfl ?_
 intro W3 PX;clear hZq
 refine hKK _ _ trivial (fun hZq => ?_)
 clear hKK KK
 refine wpAnyH_done (by kernel_rfl) ?_ _
 go_end0
 rw [HT.out]
 exact ⟨rfl, ⟨M', HL.out W3 PX⟩, KeptS.thenB (Below.drew (Below.refl _ _)) ((HKS.out.andS (KeptS.one PX.kept)).imp fun k hk => hk.elim Or.inr Or.inl)⟩
theorem step_elP {P : Program} {ops : Array Oper} {dst : Option Tmp} {type : TypeId} {pos : String} {after : Array Edge} {a : Act} {w : World} {K : Act → World → Prop} {Q : Exit → Act → World → Prop} {E : Prop} (ty : TypeId) {x y : Operand} {b o m : Nat} (T : w.there b o m) (us : List Value) (hl : us.length = m) (hi : (P.info? ty).map (·.size) = some m) (h1 : ∀ v ∈ us, v.oneCell' = true) (hx : a.eval x = .pointer (some ⟨b, o, none⟩)) (hy : a.eval y = .agg us.toArray)
  (h : ∀ W : World, PutE w W b o us → K (a.put dst undef) W) : if Region.wanted ⟨dst, .store ty x y, type, pos, after, none⟩ (yielded ops a.tmps) = true then Oper.wp P ⟨dst, .store ty x y, type, pos, after, none⟩ a w K Q else E := by
 have hw : Region.wanted ⟨dst, .store ty x y, type, pos, after, none⟩ (yielded ops a.tmps) = true := by simp [Region.wanted]
 rw [if_pos hw];subst hl
 refine wp_store_mid ty x y rfl b o us.toArray hx hy (by rw [List.size_toArray];exact T) (by rw [List.size_toArray];exact hi) (all_oneCell_toArray h1) (h _ ⟨?_⟩)
 simp
theorem box_ptrX {P : Program} {ops : Array Oper} {rest : List Oper} {dst : Option Tmp} {type : TypeId} {pos : String} {after : Array Edge} {a : Act} {w : World} {Q : Exit → Act → World → Prop} (ty : TypeId) {x : Operand} (p : Option Addr) (hx : a.eval x = .pointer p)
  (h : ∀ (b : Nat) (W : World), NewX w W b [.pointer p] → wpList P ops Q rest (a.put dst (.pointer (some ⟨b, 0, none⟩))) W) : wpList P ops Q (⟨dst, .box ty x, type, pos, after, none⟩ :: rest) a w := by
 refine wpList_plain rfl fun K hK => ?_
 unfold Oper.wp execOp;simp only [hx];clear hx
 go_simp
 exact hK _ _ (h _ _ (by simpa using newX_mk w #[.pointer p] ty))
def doN (rs : List Rep) (i : Nat) (q : Rep) : List Rep := rs.set i q
def doM (ms : List Ml) (s : List Ml) : List Ml := ms ++ s.take (120 - ms.length)
def DoRes (w w' : World) (T : TypeId) (base b : Nat) (c : Int) (rs : List Rep) (ms : List Ml) (es : List En) : Prop := Below base w w' ∧ (c = 0 → ∃ (N M S : Hd) (xs : List Nod) (ys : List Mal), LiveAt w' T base b N M S xs ys es ∧ xs.map (·.1) = rs ∧ ys.map (·.1) = ms)
theorem map_set_fst {β γ : Type} (xs : List (β × γ)) (i : Nat) (a : β × γ) : (xs.set i a).map (·.1) = (xs.map (·.1)).set i a.1 := by rw [List.map_set]
theorem doM_map {ys zs : List Mal} : (ys ++ zs.take (120 - ys.length)).map (·.1) = doM (ys.map (·.1)) (zs.map (·.1)) := by
 unfold doM;rw [List.map_append, List.map_take, List.length_map]
theorem do1_is {lo hi base b0 b1 b2 : Nat} (u : FrameMode) (N M Sd : Hd) (xs : List Nod) (ys : List Mal) (es : List En) (c : Int) (q : Rep) (h' : RH) (s : Hd) (zs : List Mal) (w : World) (x : LiveAt w 96 base b0 N M Sd xs ys es) (X1 : Bx w b1 [.pointer (some ⟨b0, 0, none⟩)]) (X2 : Bx w b2 [.int .i64 c, .int .i64 q.id, .int .i64 q.size, .int .i64 q.view, .bool q.normal, .int .i64 q.last, .slice h'.L.1 h'.L.2.1 h'.L.2.2, .int .i64 q.commit, .slice h'.O.1 h'.O.2.1 h'.O.2.2, .slice h'.A.1 h'.A.2.1 h'.A.2.2, .slice h'.D.1 h'.D.2.1 h'.D.2.2, .slice s.1 s.2.1 s.2.2]) (hbw : base ≤ w.heap.size) (h120 : M.2.1 ≤ 120) (y : LAt mailK w true lo hi s.1 s.2.1 s.2.2 zs) (hlo : base ≤ lo) (hhi : hi ≤ w.heap.size) (hap : ∀ (i : Nat) (a : Mal), zs[i]? = some a → ∀ k, mailK.inn a k → ¬ inL nodeK N.1 N.2.1 xs k ∧ ¬ inV M ys k ∧ ¬ hR Sd k ∧ k ≠ b0) (hsz : ∀ (i : Nat) (a : Mal), zs[i]? = some a → a.2.2.1 ≤ 1048576) :
  CallsD Tryz.prog 94 #[.pointer (some ⟨b1, 0, none⟩), .pointer (some ⟨b2, 0, none⟩)] u w fun e u' w' => u' = u ∧ (e = .returned (.tuple #[]) ∧ GatRes w w' 96 base b0 N Sd xs (ys ++ zs.take (120 - ys.length)) es M) := by
 have c1 := X1.cell;have c2 := X2.cell
 go_enter_d Tryz.func94, Tryz.ntmps94
 go_wp2_with fail;refine (gather_is N M Sd xs ys es s zs _ x hbw h120 y hlo hhi hap hsz).mono ?_;rintro e w1 ⟨rfl, G⟩;go_wp2
 go_end0
 exact ⟨rfl, G⟩
end Go.Proofs.YtclghfoinologaaGreat
