/- What a node tells of itself, by the program and by the model. -/
import Derived.Test.YtgldocaohcoleaaGreatQAPB
set_option maxRecDepth 20000
set_option maxHeartbeats 16000000
namespace Go.Proofs.YtgldocaohcoleaaGreat
open Go.RowKit
def tel0 (r : Rep) : Ml := ⟨4, 0, 0, 0, 0, false, en0, r.last, r.log, r.commit⟩
def telM (r : Rep) : Ml := putM (tel0 r) r.id (r.view % r.size) r.view
def tellM (r : Rep) : List Ml := if (r.view % r.size == r.id) = true then [] else [telM r]
theorem tellM_len (r : Rep) : (tellM r).length ≤ 1 := by unfold tellM; split <;> simp
theorem one_mail {w : World} {bl z ue base u : Nat} {hd : Hd} {m : Ml} (X : Bx w bl (mlV hd m)) (R : RowAt w true z ue 6 hd.1 hd.2.1 hd.2.2 (sixs m.log)) (h1 : base ≤ z) (h2 : ue ≤ u) (h3 : u ≤ bl) (h4 : base ≤ u) : MailsAt w true base w.heap.size (some ⟨bl, 0, none⟩) 1 1 (fun _ => hd) [m] := by
 have e : flatF 15 1 (mlF (fun _ => hd) [m]) = mlV hd m := by
  rw [flatF_snoc, flatF_zero, List.nil_append];exact mlF_last (fun _ => hd) [] m
 have hlt := X.lt
 refine ⟨rfl, ⟨⟨by rw [e];simp [mlV], Nat.le_refl _, fun _ => ⟨bl, 0, rfl, ?_, hlt, hlt, fun i hi => ?_, fun _ i _ => by rw [Nat.zero_add];exact X.froz i⟩⟩, fun i hi => ?_, fun _ i hi h0 => ⟨fun q => ?_, fun j hj hne => by omega⟩⟩⟩
 ·by_cases q : hd.2.1 = 0
  ·omega
  ·have := R.inB (k := sb hd.1) ⟨q, rfl⟩;omega
 ·rw [e, Nat.zero_add, X.cell i, List.getD_eq_getElem?_getD, List.getElem?_eq_getElem (by simpa [mlV] using hi)];rfl
 ·obtain rfl : i = 0 := by omega
  show RowAt w true base w.heap.size 6 hd.1 hd.2.1 hd.2.2 (sixs m.log)
  exact R.widen h1 (by omega)
 ·have := R.inB (k := sb hd.1) ⟨h0, rfl⟩
  have e2 : sb hd.1 = bl := q
  omega
theorem tellOfItself_is {own : Bool} {lo hi : Nat} (r : Rep) (h : RH) (s : Hd) (base b0 : Nat) (w : World) (Km : Nat → Hd) (ms : List Ml) (X0 : Bx w b0 [.int .i64 r.id, .int .i64 r.size, .int .i64 r.view, .bool r.normal, .int .i64 r.last, .slice h.L.1 h.L.2.1 h.L.2.2, .int .i64 r.commit, .slice h.O.1 h.O.2.1 h.O.2.2, .slice h.A.1 h.A.2.1 h.A.2.2, .slice h.D.1 h.D.2.1 h.D.2.2, .slice s.1 s.2.1 s.2.2]) (L5 : RowAt w own lo hi 6 h.L.1 h.L.2.1 h.L.2.2 (sixs r.log)) (hzL : h.L.2.1 ≤ 1048576) (G : SentAt w base (.slice s.1 s.2.1 s.2.2) Km ms) (hsn : s.2.1 = ms.length) (hK : ∀ j, j < s.2.1 → (Km j).2.1 ≤ 1048576) (hb : b0 < base) (hbase : base ≤ w.heap.size) (hn : ms.length ≤ 1000) (hs : 1 ≤ r.size ∧ r.size ≤ 5) (hv : 0 ≤ r.view ∧ r.view ≤ 300) :
  Calls Tryz.prog 128 #[.pointer (some ⟨b0, 0, none⟩)] w fun e w' => ∃ (s' : Hd) (Km' : Nat → Hd), e = .returned (.tuple #[]) ∧ Bx w' b0 [.int .i64 r.id, .int .i64 r.size, .int .i64 r.view, .bool r.normal, .int .i64 r.last, .slice h.L.1 h.L.2.1 h.L.2.2, .int .i64 r.commit, .slice h.O.1 h.O.2.1 h.O.2.2, .slice h.A.1 h.A.2.1 h.A.2.2, .slice h.D.1 h.D.2.1 h.D.2.2, .slice s'.1 s'.2.1 s'.2.2] ∧ SentAt w' base (.slice s'.1 s'.2.1 s'.2.2) Km' (ms ++ tellM r) ∧ s'.2.1 = (ms ++ tellM r).length ∧ (∀ j, j < s'.2.1 → (Km' j).2.1 ≤ 1048576) ∧ KeptS (fun k => k = b0 ∨ base ≤ k) w w' := by
 have HTM : Hid (tellM r = if (r.view % r.size == r.id) = true then [] else [telM r]) := rfl
 have HG : Hid (GrowAt _ _ _ _ _ _ _ _ _) := G
 have HK : Hid _ := hK
 clear G hK;have c0 := X0.cell;have ob0 := X0.lt
 go_enter Tryz.func128, Tryz.ntmps128
 go_wp2_with fail
 have DQ : Below w.heap.size w w.drew := (Below.refl _ _).drew
 replace X0 := X0.below DQ;replace c0 := X0.cell;have B := DQ;clear DQ
 refine wp_region_held_drew (S := (fun w' => ∀ k : Nat, w'.cell? ⟨b0, k, none⟩ = [.int .i64 r.id, .int .i64 r.size, .int .i64 r.view, .bool r.normal, .int .i64 r.last, .slice h.L.1 h.L.2.1 h.L.2.2, .int .i64 r.commit, .slice h.O.1 h.O.2.1 h.O.2.2, .slice h.A.1 h.A.2.1 h.A.2.2, .slice h.D.1 h.D.2.1 h.D.2.2, .slice s.1 s.2.1 s.2.2][k]?)) (by kernel_rfl) c0 (fun hZq => ?_)
 refine tk 0 hZq ?_;refine tk 1 hZq ?_;refine tk 2 hZq ?_;refine tk 3 hZq ?_;refine tk 4 hZq ?_;refine tk 5 hZq ?_;refine tk 6 hZq ?_;refine tk 7 hZq ?_;refine tk 8 hZq ?_;refine tk 9 hZq ?_
 refine rd1 10 (fun KK hKK => ?_)
 go_simp
 go_at_call 184
 refine (firstOf_is r.view r.size hs hv _).mono ?_;rintro e W9 ⟨rfl, rfl⟩;clear hZq
 refine hKK _ _ c0 (fun hZq => ?_)
 clear hKK KK;refine tk 11 hZq ?_
 refine wpAnyH_done (by kernel_rfl) ?_ _
 obtain ⟨fo, hfo⟩ : ∃ fo, r.view % r.size = fo := ⟨_, rfl⟩
 have HF : Hid _ := hfo
 rw [hfo] at HTM;simp only [hfo];clear hfo
 by_cases q : fo = r.id
 ·have q1 : (fo == r.id) = true := by simp [q]
  have E : tellM r = [] := by rw [HTM.out, if_pos q1]
  clear q;go_wp2
  refine bodyPost_ret (v := .tuple #[]) (by simp [results, Tryz.results128, go_sem]) rfl ⟨s, Km, rfl, X0, ?_, ?_, HK.out, (KeptS.below B)⟩
  ·rw [E, List.append_nil];exact HG.out.below B
  ·rw [E, List.append_nil];exact hsn
 have q1 : (fo == r.id) = false := by simp [q]
 have E : tellM r = [telM r] := by rw [HTM.out, if_neg (by rw [q1];decide)]
 clear q;go_wp2_with fail
 have DQ : Below w.drew.heap.size w.drew w.drew.drew := (Below.refl _ _).drew
 replace X0 := X0.below DQ;replace c0 := X0.cell;replace B := below_next B DQ;clear DQ;have k4 := X0.cell 4;simp only [List.getElem?_cons_succ, List.getElem?_cons_zero] at k4;have k5 := X0.cell 5;simp only [List.getElem?_cons_succ, List.getElem?_cons_zero] at k5;have k6 := X0.cell 6;simp only [List.getElem?_cons_succ, List.getElem?_cons_zero] at k6
 refine wp_region_held_drew (S := (fun w' => w'.cell? ⟨b0, 4, none⟩ = some (.int .i64 r.last) ∧ w'.cell? ⟨b0, 5, none⟩ = some (.slice h.L.1 h.L.2.1 h.L.2.2) ∧ w'.cell? ⟨b0, 6, none⟩ = some (.int .i64 r.commit))) (by kernel_rfl) ⟨k4, k5, k6⟩ (fun hZq => ?_)
 refine tk 0 hZq ?_;refine tk 1 hZq ?_;refine tk 2 hZq ?_;refine tk 3 hZq ?_;refine tk 4 hZq ?_;refine tk 5 hZq ?_;refine tk 6 hZq ?_;refine tk 7 hZq ?_;refine tk 8 hZq ?_;refine tk 9 hZq ?_;refine tk 10 hZq ?_;refine tk 11 hZq ?_;refine tk 13 hZq ?_;refine tk 14 hZq ?_;refine tk 15 hZq ?_;refine tk 16 hZq ?_;refine tk 17 hZq ?_
 refine rd1 12 (fun KK hKK => ?_)
 go_simp
 go_at_call 179
 refine (cloneE_z _ _ _ r.log _ (L5.below B) hzL).mono ?_;rintro e w2 ⟨ra, rc, z, ue, rfl, Gz, zu, hR, R, BB⟩
 have gz : w.heap.size ≤ z := Nat.le_trans B.size Gz
 clear Gz zu;replace X0 := X0.below BB;replace B := below_next B BB;clear BB k4 k5 k6;have k4 := X0.cell 4;simp only [List.getElem?_cons_succ, List.getElem?_cons_zero] at k4;have k5 := X0.cell 5;simp only [List.getElem?_cons_succ, List.getElem?_cons_zero] at k5;have k6 := X0.cell 6;simp only [List.getElem?_cons_succ, List.getElem?_cons_zero] at k6;clear hZq
 refine hKK _ _ ⟨k4, k5, k6⟩ (fun hZq => ?_)
 clear hKK KK;refine tk 18 hZq ?_
 refine rd1 19 (fun KK hKK => ?_)
 go_simp
 go_at_call 195
 refine (send_is r h s fo (tel0 r) (ra, h.L.2.1, rc) base b0 _ Km ms X0 (HG.out.below B) (R.widen (Nat.le_trans hbase gz) hR) (fun h0 => by
   have i1 := R.inB (k := sb ra) ⟨h0, rfl⟩
   refine ⟨fun qq => ?_, fun j hj h2 => ?_⟩
   ·have := (HG.out.own.lt (sb ra) qq).2;omega
   ·have := ((HG.out.logs j hj).inB (k := sb (Km j).1) ⟨h2, rfl⟩).2.2;simp only;omega) hb (Nat.le_trans hbase B.size) hn).mono ?_
 rintro e w3 ⟨s', rfl, X2, G2, hs2, KS2⟩
 have H1 : Hid _ := X2
 have H2 : Hid _ := G2
 have K9 : Hid (KeptS (fun q => q = b0 ∨ base ≤ q) w w3) := (KeptS.below B).trans KS2
 clear k4 k5 k6;have k4 := X2.cell 4;simp only [List.getElem?_cons_succ, List.getElem?_cons_zero] at k4;have k5 := X2.cell 5;simp only [List.getElem?_cons_succ, List.getElem?_cons_zero] at k5;have k6 := X2.cell 6;simp only [List.getElem?_cons_succ, List.getElem?_cons_zero] at k6;clear X2 G2 KS2 X0 R;clear hZq
 refine hKK _ _ ⟨k4, k5, k6⟩ (fun hZq => ?_)
 clear hKK KK
 refine wpAnyH_done (by kernel_rfl) ?_ _
 go_wp2
 refine bodyPost_end (v := .tuple #[]) (by simp [results, Tryz.results128, go_sem]) rfl ⟨s', (fun j => if j = ms.length then (ra, h.L.2.1, rc) else Km j), rfl, H1.out, ?_, ?_, fun j hj => ?_, K9.out⟩
 ·rw [E, show telM r = putM (tel0 r) r.id fo r.view by unfold telM;rw [HF.out]];exact H2.out
 ·rw [E, hs2];simp
 ·by_cases e : j = ms.length
  ·simp only [if_pos e];exact hzL
  ·simp only [if_neg e];exact HK.out j (by omega)
theorem l9Tell0_is {own : Bool} {lo hi : Nat} (r : Rep) (h : RH) (b0 : Nat) (w : World) (X0 : Bx w b0 [.int .i64 r.id, .int .i64 r.size, .int .i64 r.view, .bool r.normal, .int .i64 r.last, .slice h.L.1 h.L.2.1 h.L.2.2, .int .i64 r.commit, .slice h.O.1 h.O.2.1 h.O.2.2, .slice h.A.1 h.A.2.1 h.A.2.2, .slice h.D.1 h.D.2.1 h.D.2.2]) (L5 : RowAt w own lo hi 6 h.L.1 h.L.2.1 h.L.2.2 (sixs r.log)) (hzL : h.L.2.1 ≤ 1048576) (hs : 1 ≤ r.size ∧ r.size ≤ 5) (hv : 0 ≤ r.view ∧ r.view ≤ 300) :
  Calls Tryz.prog 133 #[.pointer (some ⟨b0, 0, none⟩)] w fun e w' => ∃ (s' : Hd) (Km : Nat → Hd), e = .returned (.slice s'.1 s'.2.1 s'.2.2) ∧ MailsAt w' true w.heap.size w'.heap.size s'.1 s'.2.1 s'.2.2 Km (tellM r) ∧ s'.2.1 = (tellM r).length ∧ (∀ j, j < s'.2.1 → (Km j).2.1 ≤ 1048576) ∧ Below w.heap.size w w' := by
 have h0 : ¬ r.size = 0 := by omega
 have hr : r.view.tmod r.size = r.view % r.size := Int.tmod_eq_emod_of_nonneg hv.1
 have hw : IntKind.i64.wrap (r.view % r.size) = r.view % r.size := by
  have h2 := Int.emod_nonneg r.view h0
  have h3 : r.view % r.size < r.size := Int.emod_lt_of_pos r.view (by omega)
  exact wrapI_same _ (by omega)
 have HTM : Hid (tellM r = if (r.view % r.size == r.id) = true then [] else [telM r]) := rfl
 obtain ⟨l, hl⟩ : ∃ l, (r.view % r.size == r.id) = l := ⟨_, rfl⟩;rw [hl] at HTM
 have HL : Hid _ := hl
 clear hl;have c0 := X0.cell;have ob0 := X0.lt
 go_enter Tryz.func133, Tryz.ntmps133
 go_wp2_with fail;refine (l9Primary_is b0 r.id r.size r.view r.normal r.last h.L r.commit h.O h.A h.D hs hv _ X0).mono ?_;rintro e w1 ⟨rfl, BB⟩;rw [HL.out];replace X0 := X0.below BB;replace c0 := X0.cell;have B := BB;clear BB;cases l;rotate_left 1
 ·have E : tellM r = [] := by rw [HTM.out, if_pos rfl]
  go_wp2;go_ret
  refine ⟨(none, 0, 0), kd0, rfl, ?_, ?_, fun j hj => absurd hj (Nat.not_lt_zero _), B⟩
  ·rw [E];exact ⟨rfl, ElsAt.nil _ _ _ _ _ _ _ _ _ _⟩
  ·rw [E];rfl
 have E : tellM r = [telM r] := by rw [HTM.out, if_neg (by decide)]
 go_wp2_with fail
 have DQ : Below w1.heap.size w1 w1.drew := (Below.refl _ _).drew
 replace X0 := X0.below DQ;replace c0 := X0.cell;replace B := below_next B DQ;clear DQ
 refine wp_region_held_drew (S := (fun w' => ∀ k : Nat, w'.cell? ⟨b0, k, none⟩ = [.int .i64 r.id, .int .i64 r.size, .int .i64 r.view, .bool r.normal, .int .i64 r.last, .slice h.L.1 h.L.2.1 h.L.2.2, .int .i64 r.commit, .slice h.O.1 h.O.2.1 h.O.2.2, .slice h.A.1 h.A.2.1 h.A.2.2, .slice h.D.1 h.D.2.1 h.D.2.2][k]?)) (by kernel_rfl) c0 (fun hZq => ?_)
 refine tk 0 hZq ?_;refine tk 1 hZq ?_;refine tk 2 hZq ?_;refine tk 3 hZq ?_;refine tk 4 hZq ?_;refine tk 5 hZq ?_;refine tk 6 hZq ?_;refine tk 7 hZq ?_;refine tk 8 hZq ?_;refine tk 9 hZq ?_;refine tk 10 hZq ?_;refine tk 11 hZq ?_;refine tk 12 hZq ?_;refine tk 13 hZq ?_;refine tk 14 hZq ?_;refine tk 15 hZq ?_;refine tk 16 hZq ?_;refine tk 17 hZq ?_;refine tk 18 hZq ?_;refine tk 19 hZq ?_;refine tk 20 hZq ?_;refine tk 21 hZq ?_;refine tk 22 hZq ?_;refine tk 23 hZq ?_;refine tk 24 hZq ?_;refine tk 26 hZq ?_;refine tk 27 hZq ?_;refine tk 28 hZq ?_;refine tk 29 hZq ?_
 refine rd1 25 (fun KK hKK => ?_)
 go_simp
 go_at_call 165
 refine (l8Copy_z _ _ _ r.log _ (L5.below B) hzL).mono ?_;rintro e w2 ⟨ra, rc, z, ue, rfl, Gz, zu, hR, R, BB⟩
 have gz : w.heap.size ≤ z := Nat.le_trans B.size Gz
 clear Gz;replace X0 := X0.below BB;replace c0 := X0.cell;replace B := below_next B BB;clear BB;clear hZq
 refine hKK _ _ c0 (fun hZq => ?_)
 clear hKK KK;refine tk 30 hZq ?_
 refine rd1 31 (fun KK hKK => ?_)
 refine step_litX 29 1 _ [.int .i64 4, .int .i64 r.id, .int .i64 (r.view % r.size), .int .i64 r.view, .int .i64 0, .bool false, .int .i64 0, .int .i64 0, .int .i64 0, .int .i64 0, .int .i64 0, .int .i64 0, .int .i64 r.last, .slice ra h.L.2.1 rc, .int .i64 r.commit] 75 (fun _ => by kernel_rfl) ?_
 intro bl W1 N1
 have ge : w2.heap.size ≤ bl := N1.ge
 have R2 := R.below N1.below;replace B := below_next B N1.below;replace X0 := X0.below N1.below;replace c0 := X0.cell
 have X1 : Bx W1 bl (mlV (ra, h.L.2.1, rc) (telM r)) := N1.bx
 clear N1;clear hZq
 refine hKK _ _ c0 (fun hZq => ?_)
 clear hKK KK;refine tk 32 hZq ?_
 refine wpAnyH_done (by kernel_rfl) ?_ _
 have MA : MailsAt W1 true w.heap.size W1.heap.size (some ⟨bl, 0, none⟩) 1 1 (fun _ => (ra, h.L.2.1, rc)) [telM r] := one_mail X1 R2 gz hR ge (Nat.le_trans gz (Nat.le_trans zu hR))
 have HMA : Hid _ := MA
 clear MA R2 X1 R X0 c0;go_wp2;go_ret
 refine ⟨(some ⟨bl, 0, none⟩, 1, 1), (fun _ => (ra, h.L.2.1, rc)), rfl, ?_, ?_, fun j hj => hzL, B⟩
 ·rw [E];exact HMA.out
 ·rw [E];rfl
end Go.Proofs.YtgldocaohcoleaaGreat
