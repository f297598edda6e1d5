/- What a node tells of itself, by the program and by the model. -/
import Derived.Test.YtjefmhjlaibbkaaQAF
import Derived.Test.YtjefmhjlaibbkaaQAB
import Derived.Test.YtjefmhjlaibbkaaQAL
import Derived.Deep.DeepCutAuto
import Derived.Test.YtjefmhjlaibbkaaQAG
import Derived.Test.YtjefmhjlaibbkaaWU
import Derived.Test.YtjefmhjlaibbkaaQAH
set_option maxRecDepth 20000
set_option maxHeartbeats 16000000
namespace Go.Proofs.Ytjefmhjlaibbkaa
open Go.RowKit
def tel0 (r : Rep) : Ml := ⟨4, 0, 0, 0, 0, false, en0, r.last, r.log, r.commit⟩
def telM (r : Rep) : Ml := putM (tel0 r) r.id (r.view % r.size) r.view
def tellM (r : Rep) : List Ml := if (r.view % r.size == r.id) = true then [] else [telM r]
theorem tellM_len (r : Rep) : (tellM r).length ≤ 1 := by unfold tellM; split <;> simp
theorem one_mail {w : World} {bl z ue base u : Nat} {hd : Hd} {m : Ml} (X : Bx w bl (mlV hd m)) (R : RowAt w true z ue 6 hd.1 hd.2.1 hd.2.2 (sixs m.log)) (h1 : base ≤ z) (h2 : ue ≤ u) (h3 : u ≤ bl) (h4 : base ≤ u) : MailsAt w true base w.heap.size (some ⟨bl, 0, none⟩) 1 1 (fun _ => hd) [m] := by
 have e : flatF 15 1 (mlF (fun _ => hd) [m]) = mlV hd m := by
  rw [flatF_snoc, flatF_zero, List.nil_append]; exact mlF_last (fun _ => hd) [] m
 have hlt := X.lt
 refine ⟨rfl, ⟨⟨by rw [e]; simp [mlV], Nat.le_refl _, fun _ => ⟨bl, 0, rfl, ?_, hlt, hlt, fun i hi => ?_, fun _ i _ => by rw [Nat.zero_add]; exact X.froz i⟩⟩, fun i hi => ?_, fun _ i hi h0 => ⟨fun q => ?_, fun j hj hne => by omega⟩⟩⟩
 ·by_cases q : hd.2.1 = 0
  ·omega
  ·have := R.inB (k := sb hd.1) ⟨q, rfl⟩; omega
 ·rw [e, Nat.zero_add, X.cell i, List.getD_eq_getElem?_getD, List.getElem?_eq_getElem (by simpa [mlV] using hi)]; rfl
 ·obtain rfl : i = 0 := by omega
  show RowAt w true base w.heap.size 6 hd.1 hd.2.1 hd.2.2 (sixs m.log)
  exact R.widen h1 (by omega)
 ·have := R.inB (k := sb hd.1) ⟨h0, rfl⟩
  have e2 : sb hd.1 = bl := q
  omega
theorem tellOfItself_is {own : Bool} {lo hi : Nat} (r : Rep) (h : RH) (s : Hd) (base b0 : Nat) (w : World) (Km : Nat → Hd) (ms : List Ml) (X0 : Bx w b0 [.int .i64 r.id, .int .i64 r.size, .int .i64 r.view, .bool r.normal, .int .i64 r.last, .slice h.L.1 h.L.2.1 h.L.2.2, .int .i64 r.commit, .slice h.O.1 h.O.2.1 h.O.2.2, .slice h.A.1 h.A.2.1 h.A.2.2, .slice h.D.1 h.D.2.1 h.D.2.2, .slice s.1 s.2.1 s.2.2]) (L5 : RowAt w own lo hi 6 h.L.1 h.L.2.1 h.L.2.2 (sixs r.log)) (hzL : h.L.2.1 ≤ 1048576) (G : SentAt w base (.slice s.1 s.2.1 s.2.2) Km ms) (hsn : s.2.1 = ms.length) (hK : ∀ j, j < s.2.1 → (Km j).2.1 ≤ 1048576) (hb : b0 < base) (hbase : base ≤ w.heap.size) (hn : ms.length ≤ 1000) (hs : 1 ≤ r.size ∧ r.size ≤ 5) (hv : 0 ≤ r.view ∧ r.view ≤ 300) :
  Calls Try.prog 25 #[.pointer (some ⟨b0, 0, none⟩)] w fun e w' => ∃ (s' : Hd) (Km' : Nat → Hd), e = .returned (.tuple #[]) ∧ Bx w' b0 [.int .i64 r.id, .int .i64 r.size, .int .i64 r.view, .bool r.normal, .int .i64 r.last, .slice h.L.1 h.L.2.1 h.L.2.2, .int .i64 r.commit, .slice h.O.1 h.O.2.1 h.O.2.2, .slice h.A.1 h.A.2.1 h.A.2.2, .slice h.D.1 h.D.2.1 h.D.2.2, .slice s'.1 s'.2.1 s'.2.2] ∧ SentAt w' base (.slice s'.1 s'.2.1 s'.2.2) Km' (ms ++ tellM r) ∧ s'.2.1 = (ms ++ tellM r).length ∧ (∀ j, j < s'.2.1 → (Km' j).2.1 ≤ 1048576) ∧ KeptS (fun k => k = b0 ∨ base ≤ k) w w' := by
 have HTM : Hid (tellM r = if (r.view % r.size == r.id) = true then [] else [telM r]) := rfl
 have HG : Hid (GrowAt _ _ _ _ _ _ _ _ _) := G
 have HK : Hid _ := hK
 clear G hK
 have c0 := X0.cell
 have ob0 := X0.lt
 go_enter Try.func25, Try.ntmps25
 go_wp2_with fail
 have DQ : Below w.heap.size w w.drew := (Below.refl _ _).drew
 replace X0 := X0.below DQ
 replace c0 := X0.cell
 have B := DQ
 clear DQ
 refine wp_region_held_drew (S := (fun w' => ∀ k : Nat, w'.cell? ⟨b0, k, none⟩ = [.int .i64 r.id, .int .i64 r.size, .int .i64 r.view, .bool r.normal, .int .i64 r.last, .slice h.L.1 h.L.2.1 h.L.2.2, .int .i64 r.commit, .slice h.O.1 h.O.2.1 h.O.2.2, .slice h.A.1 h.A.2.1 h.A.2.2, .slice h.D.1 h.D.2.1 h.D.2.2, .slice s.1 s.2.1 s.2.2][k]?)) (by kernel_rfl) c0 (fun hZq => ?_)
 refine tk 0 hZq ?_
 refine tk 1 hZq ?_
 refine tk 2 hZq ?_
 refine tk 3 hZq ?_
 refine tk 4 hZq ?_
 refine tk 5 hZq ?_
 refine tk 6 hZq ?_
 refine tk 7 hZq ?_
 refine tk 8 hZq ?_
 refine tk 9 hZq ?_
 refine rd1 10 (fun KK hKK => ?_)
 go_simp
 go_at_call 57
 refine (firstOf_is r.view r.size hs hv _).mono ?_
 rintro e W9 ⟨rfl, rfl⟩
 clear hZq
 refine hKK _ _ c0 (fun hZq => ?_)
 clear hKK KK
 refine tk 11 hZq ?_
 refine wpAnyH_done (by kernel_rfl) ?_ _
 obtain ⟨fo, hfo⟩ : ∃ fo, r.view % r.size = fo := ⟨_, rfl⟩
 have HF : Hid _ := hfo
 rw [hfo] at HTM
 simp only [hfo]
 clear hfo
 by_cases q : fo = r.id
 ·have q1 : (fo == r.id) = true := by simp [q]
  have E : tellM r = [] := by rw [HTM.out, if_pos q1]
  clear q
  go_wp2
  refine bodyPost_ret (v := .tuple #[]) (by simp [results, Try.results25, go_sem]) rfl ⟨s, Km, rfl, X0, ?_, ?_, HK.out, (KeptS.below B)⟩
  ·rw [E, List.append_nil]; exact HG.out.below B
  ·rw [E, List.append_nil]; exact hsn
 have q1 : (fo == r.id) = false := by simp [q]
 have E : tellM r = [telM r] := by rw [HTM.out, if_neg (by rw [q1]; decide)]
 clear q
 go_wp2_with fail
 have DQ : Below w.drew.heap.size w.drew w.drew.drew := (Below.refl _ _).drew
 replace X0 := X0.below DQ
 replace c0 := X0.cell
 replace B := below_next B DQ
 clear DQ
 have k4 := X0.cell 4
 simp only [List.getElem?_cons_succ, List.getElem?_cons_zero] at k4
 have k5 := X0.cell 5
 simp only [List.getElem?_cons_succ, List.getElem?_cons_zero] at k5
 have k6 := X0.cell 6
 simp only [List.getElem?_cons_succ, List.getElem?_cons_zero] at k6
 refine wp_region_held_drew (S := (fun w' => w'.cell? ⟨b0, 4, none⟩ = some (.int .i64 r.last) ∧ w'.cell? ⟨b0, 5, none⟩ = some (.slice h.L.1 h.L.2.1 h.L.2.2) ∧ w'.cell? ⟨b0, 6, none⟩ = some (.int .i64 r.commit))) (by kernel_rfl) ⟨k4, k5, k6⟩ (fun hZq => ?_)
 refine tk 0 hZq ?_
 refine tk 1 hZq ?_
 refine tk 2 hZq ?_
 refine tk 3 hZq ?_
 refine tk 4 hZq ?_
 refine tk 5 hZq ?_
 refine tk 6 hZq ?_
 refine tk 7 hZq ?_
 refine tk 8 hZq ?_
 refine tk 9 hZq ?_
 refine tk 10 hZq ?_
 refine tk 11 hZq ?_
 refine tk 13 hZq ?_
 refine tk 14 hZq ?_
 refine tk 15 hZq ?_
 refine tk 16 hZq ?_
 refine tk 17 hZq ?_
 refine rd1 12 (fun KK hKK => ?_)
 go_simp
 go_at_call 61
 refine (cloneE_z _ _ _ r.log _ (L5.below B) hzL).mono ?_
 rintro e w2 ⟨ra, rc, z, ue, rfl, Gz, zu, hR, R, BB⟩
 have gz : w.heap.size ≤ z := Nat.le_trans B.size Gz
 clear Gz zu
 replace X0 := X0.below BB
 replace B := below_next B BB
 clear BB k4 k5 k6
 have k4 := X0.cell 4
 simp only [List.getElem?_cons_succ, List.getElem?_cons_zero] at k4
 have k5 := X0.cell 5
 simp only [List.getElem?_cons_succ, List.getElem?_cons_zero] at k5
 have k6 := X0.cell 6
 simp only [List.getElem?_cons_succ, List.getElem?_cons_zero] at k6
 clear hZq
 refine hKK _ _ ⟨k4, k5, k6⟩ (fun hZq => ?_)
 clear hKK KK
 refine tk 18 hZq ?_
 refine rd1 19 (fun KK hKK => ?_)
 go_simp
 go_at_call 60
 refine (send_is r h s fo (tel0 r) (ra, h.L.2.1, rc) base b0 _ Km ms X0 (HG.out.below B) (R.widen (Nat.le_trans hbase gz) hR) (fun h0 => by
   have i1 := R.inB (k := sb ra) ⟨h0, rfl⟩
   refine ⟨fun qq => ?_, fun j hj h2 => ?_⟩
   ·have := (HG.out.own.lt (sb ra) qq).2; omega
   ·have := ((HG.out.logs j hj).inB (k := sb (Km j).1) ⟨h2, rfl⟩).2.2; simp only; omega) hb (Nat.le_trans hbase B.size) hn).mono ?_
 rintro e w3 ⟨s', rfl, X2, G2, hs2, KS2⟩
 have H1 : Hid _ := X2
 have H2 : Hid _ := G2
 have K9 : Hid (KeptS (fun q => q = b0 ∨ base ≤ q) w w3) := (KeptS.below B).trans KS2
 clear k4 k5 k6
 have k4 := X2.cell 4
 simp only [List.getElem?_cons_succ, List.getElem?_cons_zero] at k4
 have k5 := X2.cell 5
 simp only [List.getElem?_cons_succ, List.getElem?_cons_zero] at k5
 have k6 := X2.cell 6
 simp only [List.getElem?_cons_succ, List.getElem?_cons_zero] at k6
 clear X2 G2 KS2 X0 R
 clear hZq
 refine hKK _ _ ⟨k4, k5, k6⟩ (fun hZq => ?_)
 clear hKK KK
 refine wpAnyH_done (by kernel_rfl) ?_ _
 go_wp2
 refine bodyPost_end (v := .tuple #[]) (by simp [results, Try.results25, go_sem]) rfl ⟨s', (fun j => if j = ms.length then (ra, h.L.2.1, rc) else Km j), rfl, H1.out, ?_, ?_, fun j hj => ?_, K9.out⟩
 ·rw [E, show telM r = putM (tel0 r) r.id fo r.view by unfold telM; rw [HF.out]]; exact H2.out
 ·rw [E, hs2]; simp
 ·by_cases e : j = ms.length
  ·simp only [if_pos e]; exact hzL
  ·simp only [if_neg e]; exact HK.out j (by omega)
theorem l9Tell0_is {own : Bool} {lo hi : Nat} (r : Rep) (h : RH) (b0 : Nat) (w : World) (X0 : Bx w b0 [.int .i64 r.id, .int .i64 r.size, .int .i64 r.view, .bool r.normal, .int .i64 r.last, .slice h.L.1 h.L.2.1 h.L.2.2, .int .i64 r.commit, .slice h.O.1 h.O.2.1 h.O.2.2, .slice h.A.1 h.A.2.1 h.A.2.2, .slice h.D.1 h.D.2.1 h.D.2.2]) (L5 : RowAt w own lo hi 6 h.L.1 h.L.2.1 h.L.2.2 (sixs r.log)) (hzL : h.L.2.1 ≤ 1048576) (hs : 1 ≤ r.size ∧ r.size ≤ 5) (hv : 0 ≤ r.view ∧ r.view ≤ 300) :
  Calls Try.prog 30 #[.pointer (some ⟨b0, 0, none⟩)] w fun e w' => ∃ (s' : Hd) (Km : Nat → Hd), e = .returned (.slice s'.1 s'.2.1 s'.2.2) ∧ MailsAt w' true w.heap.size w'.heap.size s'.1 s'.2.1 s'.2.2 Km (tellM r) ∧ s'.2.1 = (tellM r).length ∧ (∀ j, j < s'.2.1 → (Km j).2.1 ≤ 1048576) ∧ Below w.heap.size w w' := by
 have h0 : ¬ r.size = 0 := by omega
 have hr : r.view.tmod r.size = r.view % r.size := Int.tmod_eq_emod_of_nonneg hv.1
 have hw : IntKind.i64.wrap (r.view % r.size) = r.view % r.size := by
  have h2 := Int.emod_nonneg r.view h0
  have h3 : r.view % r.size < r.size := Int.emod_lt_of_pos r.view (by omega)
  exact wrapI_same _ (by omega)
 have HTM : Hid (tellM r = if (r.view % r.size == r.id) = true then [] else [telM r]) := rfl
 obtain ⟨l, hl⟩ : ∃ l, (r.view % r.size == r.id) = l := ⟨_, rfl⟩
 rw [hl] at HTM
 have HL : Hid _ := hl
 clear hl
 have c0 := X0.cell
 have ob0 := X0.lt
 go_enter Try.func30, Try.ntmps30
 go_wp2_with fail
 refine (l9Primary_is b0 r.id r.size r.view r.normal r.last h.L r.commit h.O h.A h.D hs hv _ X0).mono ?_
 rintro e w1 ⟨rfl, BB⟩
 rw [HL.out]
 replace X0 := X0.below BB
 replace c0 := X0.cell
 have B := BB
 clear BB
 cases l
 rotate_left 1
 ·have E : tellM r = [] := by rw [HTM.out, if_pos rfl]
  go_wp2
  go_ret
  refine ⟨(none, 0, 0), kd0, rfl, ?_, ?_, fun j hj => absurd hj (Nat.not_lt_zero _), B⟩
  ·rw [E]; exact ⟨rfl, ElsAt.nil _ _ _ _ _ _ _ _ _ _⟩
  ·rw [E]; rfl
 have E : tellM r = [telM r] := by rw [HTM.out, if_neg (by decide)]
 go_wp2_with fail
 have DQ : Below w1.heap.size w1 w1.drew := (Below.refl _ _).drew
 replace X0 := X0.below DQ
 replace c0 := X0.cell
 replace B := below_next B DQ
 clear DQ
 refine wp_region_held_drew (S := (fun w' => ∀ k : Nat, w'.cell? ⟨b0, k, none⟩ = [.int .i64 r.id, .int .i64 r.size, .int .i64 r.view, .bool r.normal, .int .i64 r.last, .slice h.L.1 h.L.2.1 h.L.2.2, .int .i64 r.commit, .slice h.O.1 h.O.2.1 h.O.2.2, .slice h.A.1 h.A.2.1 h.A.2.2, .slice h.D.1 h.D.2.1 h.D.2.2][k]?)) (by kernel_rfl) c0 (fun hZq => ?_)
 refine tk 0 hZq ?_
 refine tk 1 hZq ?_
 refine tk 2 hZq ?_
 refine tk 3 hZq ?_
 refine tk 4 hZq ?_
 refine tk 5 hZq ?_
 refine tk 6 hZq ?_
 refine tk 7 hZq ?_
 refine tk 8 hZq ?_
 refine tk 9 hZq ?_
 refine tk 10 hZq ?_
 refine tk 11 hZq ?_
 refine tk 12 hZq ?_
 refine tk 13 hZq ?_
 refine tk 14 hZq ?_
 refine tk 15 hZq ?_
 refine tk 16 hZq ?_
 refine tk 17 hZq ?_
 refine tk 18 hZq ?_
 refine tk 19 hZq ?_
 refine tk 20 hZq ?_
 refine tk 21 hZq ?_
 refine tk 22 hZq ?_
 refine tk 23 hZq ?_
 refine tk 24 hZq ?_
 refine tk 26 hZq ?_
 refine tk 27 hZq ?_
 refine tk 28 hZq ?_
 refine tk 29 hZq ?_
 refine rd1 25 (fun KK hKK => ?_)
 go_simp
 go_at_call 68
 refine (l8Copy_z _ _ _ r.log _ (L5.below B) hzL).mono ?_
 rintro e w2 ⟨ra, rc, z, ue, rfl, Gz, zu, hR, R, BB⟩
 have gz : w.heap.size ≤ z := Nat.le_trans B.size Gz
 clear Gz
 replace X0 := X0.below BB
 replace c0 := X0.cell
 replace B := below_next B BB
 clear BB
 clear hZq
 refine hKK _ _ c0 (fun hZq => ?_)
 clear hKK KK
 refine tk 30 hZq ?_
 refine rd1 31 (fun KK hKK => ?_)
 refine step_litX 34 1 _ [.int .i64 4, .int .i64 r.id, .int .i64 (r.view % r.size), .int .i64 r.view, .int .i64 0, .bool false, .int .i64 0, .int .i64 0, .int .i64 0, .int .i64 0, .int .i64 0, .int .i64 0, .int .i64 r.last, .slice ra h.L.2.1 rc, .int .i64 r.commit] 99 (fun _ => by kernel_rfl) ?_
 intro bl W1 N1
 have ge : w2.heap.size ≤ bl := N1.ge
 have R2 := R.below N1.below
 replace B := N1.n B
 replace X0 := N1.r X0
 replace c0 := X0.cell
 have X1 : Bx W1 bl (mlV (ra, h.L.2.1, rc) (telM r)) := N1.bx
 clear N1
 clear hZq
 refine hKK _ _ c0 (fun hZq => ?_)
 clear hKK KK
 refine tk 32 hZq ?_
 refine wpAnyH_done (by kernel_rfl) ?_ _
 have MA : MailsAt W1 true w.heap.size W1.heap.size (some ⟨bl, 0, none⟩) 1 1 (fun _ => (ra, h.L.2.1, rc)) [telM r] := one_mail X1 R2 gz hR ge (Nat.le_trans gz (Nat.le_trans zu hR))
 have HMA : Hid _ := MA
 clear MA R2 X1 R X0 c0
 go_wp2
 go_ret
 refine ⟨(some ⟨bl, 0, none⟩, 1, 1), (fun _ => (ra, h.L.2.1, rc)), rfl, ?_, ?_, fun j hj => hzL, B⟩
 ·rw [E]; exact HMA.out
 ·rw [E]; rfl
structure MSz (s : Hd) (Km : Nat → Hd) (m : Nat) : Prop where
 n : s.2.1 ≤ m
 K : ∀ i, i < s.2.1 → (Km i).2.1 ≤ m
def TellAns (w w' : World) (e : Ending) (c : Int) (ms : List Ml) (own : Bool) : Prop := ∃ (z u : Nat) (s : Hd) (Km : Nat → Hd), e = .returned (.agg #[.int .i64 c, .slice s.1 s.2.1 s.2.2]) ∧ w.heap.size ≤ z ∧ u ≤ w'.heap.size ∧ MailsAt w' own z u s.1 s.2.1 s.2.2 Km ms ∧ MSz s Km 1048576 ∧ Below w.heap.size w w'
def teC (r : Rep) : Int := if repF r = 0 then (if r.normal = true then 10 else 0) else repF r
def teM (r : Rep) : List Ml := if teC r = 0 then tellM r else []
theorem MailsAt.none (w : World) (own : Bool) (lo hi : Nat) (Km : Nat → Hd) : MailsAt w own lo hi none 0 0 Km [] := ⟨rfl, ElsAt.nil _ _ _ _ _ _ _ _ _ _⟩
theorem MSz.none (m : Nat) : MSz ((none : Option Addr), 0, 0) kd0 m := ⟨Nat.zero_le _, fun _ hi => absurd hi (Nat.not_lt_zero _)⟩
theorem nodeOf_n {own : Bool} {lo hi : Nat} (r : Rep) (h : RH) (w : World) (x : RepAt w own lo hi h r) (hs : RSz h 1048576) (hn : r.normal = false) :
  Calls Try.prog 21 #[.agg #[.int .i64 r.id, .int .i64 r.size, .int .i64 r.view, .bool false, .int .i64 r.last, .slice h.L.1 h.L.2.1 h.L.2.2, .int .i64 r.commit, .slice h.O.1 h.O.2.1 h.O.2.2, .slice h.A.1 h.A.2.1 h.A.2.2, .slice h.D.1 h.D.2.1 h.D.2.2]] w fun e w' => ∃ (bq z u : Nat) (h' : RH), e = .returned (.pointer (some ⟨bq, 0, none⟩)) ∧ w.heap.size ≤ z ∧ u ≤ bq ∧ w.heap.size ≤ bq ∧ Bx w' bq [.int .i64 r.id, .int .i64 r.size, .int .i64 r.view, .bool r.normal, .int .i64 r.last, .slice h'.L.1 h'.L.2.1 h'.L.2.2, .int .i64 r.commit, .slice h'.O.1 h'.O.2.1 h'.O.2.2, .slice h'.A.1 h'.A.2.1 h'.A.2.2, .slice h'.D.1 h'.D.2.1 h'.D.2.2, .slice none 0 0] ∧ RepAt w' true z u h' r ∧ RSz h' 1048576 ∧ Below w.heap.size w w' := by
 have := nodeOf_z r h w x hs
 rw [hn] at this ⊢
 exact this
theorem implTe_is {own : Bool} {lo hi : Nat} (r : Rep) (h : RH) (w : World) (x : RepAt w own lo hi h r) (hz : RSz h 1048576) (c : Int) (ms : List Ml) (hc : teC r = c) (hms : teM r = ms) : Calls Try.prog 9 #[.agg #[.int .i64 r.id, .int .i64 r.size, .int .i64 r.view, .bool r.normal, .int .i64 r.last, .slice h.L.1 h.L.2.1 h.L.2.2, .int .i64 r.commit, .slice h.O.1 h.O.2.1 h.O.2.2, .slice h.A.1 h.A.2.1 h.A.2.2, .slice h.D.1 h.D.2.1 h.D.2.2]] w fun e w' => TellAns w w' e c ms true := by
 unfold teM at hms
 rw [hc] at hms
 unfold teC at hc
 obtain ⟨cr, hcr⟩ : ∃ cr, repF r = cr := ⟨_, rfl⟩
 rw [hcr] at hc
 have HC : Hid _ := hcr
 clear hcr
 go_enter Try.func9, Try.ntmps9
 go_wp2_with (first | ((have g := ob0); clear g; (with_reducible refine al 36 [.int .i64 0, .slice none 0 0] ?_); intro b1 W1 N1; have ob1 := N1.o B; have o0_b1 := N1.u X0; replace X0 := N1.r X0; replace c0 := X0.cell; replace B := N1.n B; obtain ⟨X1, c1, f1⟩ := N1.a; clear N1) | ((with_reducible refine box_newX 29 [.int .i64 r.id, .int .i64 r.size, .int .i64 r.view, .bool r.normal, .int .i64 r.last, .slice h.L.1 h.L.2.1 h.L.2.2, .int .i64 r.commit, .slice h.O.1 h.O.2.1 h.O.2.2, .slice h.A.1 h.A.2.1 h.A.2.2, .slice h.D.1 h.D.2.1 h.D.2.2] rfl ?_); intro b0 W0 N0; have ob0 := N0.ge; have B := N0.below; obtain ⟨X0, c0⟩ := N0.c; clear N0) | fail)
 refine (implRF_is r h _ (x.below B) (hz.mono (by omega)) cr HC.out).mono ?_
 rintro e w1 ⟨rfl, BB⟩
 replace X0 := X0.below BB
 replace c0 := X0.cell
 replace X1 := X1.below BB
 replace c1 := X1.cell
 replace f1 := X1.froz
 replace B := below_next B BB
 clear BB
 by_cases h0 : cr = 0
 rotate_left 1
 ·rw [if_neg h0] at hc
  subst hc
  rw [if_neg h0] at hms
  subst hms
  have h0' : (cr != 0) = true := by simp [h0]
  go_wp2_with (first | ((with_reducible refine sm 36 X1 0 [.int .i64 cr, .slice none 0 0] ?_); intro V1 S; replace X0 := X0.kp S.kept; replace c0 := X0.cell; replace X1 : Bx V1 b1 [.int .i64 cr, .slice none 0 0] := S.bx; replace c1 := X1.cell; replace f1 := X1.froz; replace B := bkp B S.kept; clear S))
  exact bodyPost_ret (v := .agg #[.int .i64 cr, .slice none 0 0]) (by simp [results, Try.results9, go_sem, *]) rfl ⟨_, _, (none, 0, 0), kd0, rfl, Nat.le_refl _, Nat.le_refl _, MailsAt.none _ _ _ _ _, MSz.none _, B⟩
 subst h0
 rw [if_pos rfl] at hc
 obtain ⟨N, -, -, SP, -⟩ := rep_ok HC.out
 have N1 := N.1
 have N2 := N.2.1
 have N3 : 0 ≤ r.view ∧ r.view ≤ 300 := by have := N.2.2.1; omega
 clear N SP
 obtain ⟨nm, hnm⟩ : ∃ nm, r.normal = nm := ⟨_, rfl⟩
 have HN : Hid _ := hnm
 rw [hnm] at hc
 have HX0 : Hid _ := X0
 rw [hnm] at X0 c0
 clear hnm
 cases nm
 rotate_left 1
 ·rw [if_pos rfl] at hc
  subst hc
  rw [if_neg (by decide)] at hms
  subst hms
  go_wp2_with (first | ((with_reducible refine sm 36 X1 0 [.int .i64 10, .slice none 0 0] ?_); intro V1 S; replace X0 := X0.kp S.kept; replace c0 := X0.cell; replace X1 : Bx V1 b1 [.int .i64 10, .slice none 0 0] := S.bx; replace c1 := X1.cell; replace f1 := X1.froz; replace B := bkp B S.kept; clear S))
  exact bodyPost_ret (v := .agg #[.int .i64 10, .slice none 0 0]) (by simp [results, Try.results9, go_sem, *]) rfl ⟨_, _, (none, 0, 0), kd0, rfl, Nat.le_refl _, Nat.le_refl _, MailsAt.none _ _ _ _ _, MSz.none _, B⟩
 rw [if_neg (by decide)] at hc
 subst hc
 rw [if_pos rfl] at hms
 subst hms
 go_wp2_with fail
 have HX9 : Hid _ := hz
 skip
 refine (nodeOf_n r h _ (x.below B) hz HN.out).mono ?_
 rintro e w2 ⟨bq, z, u, h', rfl, Gz, uq, Gq, XQ, R, HZ, BB⟩
 have lb := X1.lt
 have o1_q := ltl lb Gq
 have gq := Nat.le_trans B.size Gq
 clear Gz Gq HX0
 replace X0 := X0.below BB
 replace c0 := X0.cell
 replace X1 := X1.below BB
 replace c1 := X1.cell
 replace f1 := X1.froz
 replace B := below_next B BB
 clear BB
 go_wp2_with fail
 refine (tellOfItself_is r h' (none, 0, 0) w2.heap.size bq _ kd0 [] XQ R.log HZ.L (GrowAt.nil _ _ _ _ _ _ _) rfl (fun j hj => absurd hj (Nat.not_lt_zero _)) XQ.lt (Nat.le_refl _) (by simp) N1 N3).mono ?_
 rintro e w3 ⟨s, Km, rfl, XQ, G, hsn, hK, KS⟩
 have hw3 := KS.size
 have lt1 := X1.lt
 have lt0 := X0.lt
 replace X0 := X0.keptS KS (by omega)
 replace c0 := X0.cell
 replace X1 := X1.keptS KS (by omega)
 replace c1 := X1.cell
 replace f1 := X1.froz
 have cq := XQ.cell
 have hBs := B.size
 replace B := B.trans (KS.low _ (fun k hk => by rcases hk with q | q <;> omega) B.size)
 clear KS
 have htl := tellM_len r
 rw [List.nil_append] at G hsn
 obtain ⟨ao, cap, e9, E⟩ := GrowAt.els G
 simp only [Value.slice.injEq] at e9
 obtain ⟨q1, q2, q3⟩ := e9
 have MA : MailsAt w3 true w2.heap.size w3.heap.size s.1 s.2.1 s.2.2 Km (tellM r) := ⟨q2.symm, by rw [q1, q2, q3]; exact E⟩
 have hMA := Nat.le_refl w3.heap.size
 have hzM : w.heap.size ≤ w2.heap.size := hBs
 clear q1 q2 q3 E G R
 obtain ⟨zz, hzz⟩ : ∃ zz, zz = w2.heap.size := ⟨_, rfl⟩
 rw [← hzz] at MA hzM
 have o1z : b1 < zz := by omega
 clear hzz
 have hs1 : s.2.1 ≤ 1 := by omega
 clear htl hsn
 go_wp2_with (first | ((with_reducible refine sm 36 X1 0 [.int .i64 0, .slice s.1 s.2.1 s.2.2] ?_); intro V1 S; replace X0 := X0.kp S.kept; replace c0 := X0.cell; replace X1 : Bx V1 b1 [.int .i64 0, .slice s.1 s.2.1 s.2.2] := S.bx; replace c1 := X1.cell; replace f1 := X1.froz; replace MA := MA.kept S.kept (by omega); replace hMA := Nat.le_trans hMA S.kept.size; replace B := bkp B S.kept; clear S))
 exact bodyPost_ret (v := .agg #[.int .i64 0, .slice s.1 s.2.1 s.2.2]) (by simp [results, Try.results9, go_sem, *]) rfl ⟨_, _, s, Km, rfl, hzM, hMA, MA, ⟨by omega, hK⟩, B⟩
theorem specTe_is {own : Bool} {lo hi : Nat} (r : Rep) (h : RH) (w : World) (x : RepAt w own lo hi h r) (hz : RSz h 1048576) (c : Int) (ms : List Ml) (hc : teC r = c) (hms : teM r = ms) : Calls Try.prog 12 #[.agg #[.int .i64 r.id, .int .i64 r.size, .int .i64 r.view, .bool r.normal, .int .i64 r.last, .slice h.L.1 h.L.2.1 h.L.2.2, .int .i64 r.commit, .slice h.O.1 h.O.2.1 h.O.2.2, .slice h.A.1 h.A.2.1 h.A.2.2, .slice h.D.1 h.D.2.1 h.D.2.2]] w fun e w' => TellAns w w' e c ms true := by
 unfold teM at hms
 rw [hc] at hms
 unfold teC at hc
 obtain ⟨cr, hcr⟩ : ∃ cr, repF r = cr := ⟨_, rfl⟩
 rw [hcr] at hc
 have HC : Hid _ := hcr
 clear hcr
 go_enter Try.func12, Try.ntmps12
 go_wp2_with (first | ((have g := ob0); clear g; (with_reducible refine al 36 [.int .i64 0, .slice none 0 0] ?_); intro b1 W1 N1; have ob1 := N1.o B; have o0_b1 := N1.u X0; replace X0 := N1.r X0; replace c0 := X0.cell; replace B := N1.n B; obtain ⟨X1, c1, f1⟩ := N1.a; clear N1) | ((with_reducible refine box_newX 29 [.int .i64 r.id, .int .i64 r.size, .int .i64 r.view, .bool r.normal, .int .i64 r.last, .slice h.L.1 h.L.2.1 h.L.2.2, .int .i64 r.commit, .slice h.O.1 h.O.2.1 h.O.2.2, .slice h.A.1 h.A.2.1 h.A.2.2, .slice h.D.1 h.D.2.1 h.D.2.2] rfl ?_); intro b0 W0 N0; have ob0 := N0.ge; have B := N0.below; obtain ⟨X0, c0⟩ := N0.c; clear N0) | fail)
 refine (l9Fault_is b0 r h _ X0 (x.below B) (hz.mono (by omega)) cr HC.out).mono ?_
 rintro e w1 ⟨rfl, BB⟩
 replace X0 := X0.below BB
 replace c0 := X0.cell
 replace X1 := X1.below BB
 replace c1 := X1.cell
 replace f1 := X1.froz
 replace B := below_next B BB
 clear BB
 by_cases h0 : cr = 0
 rotate_left 1
 ·rw [if_neg h0] at hc
  subst hc
  rw [if_neg h0] at hms
  subst hms
  have h0' : (cr != 0) = true := by simp [h0]
  go_wp2_with (first | ((with_reducible refine sm 36 X1 0 [.int .i64 cr, .slice none 0 0] ?_); intro V1 S; replace X0 := X0.kp S.kept; replace c0 := X0.cell; replace X1 : Bx V1 b1 [.int .i64 cr, .slice none 0 0] := S.bx; replace c1 := X1.cell; replace f1 := X1.froz; replace B := bkp B S.kept; clear S))
  exact bodyPost_ret (v := .agg #[.int .i64 cr, .slice none 0 0]) (by simp [results, Try.results12, go_sem, *]) rfl ⟨_, _, (none, 0, 0), kd0, rfl, Nat.le_refl _, Nat.le_refl _, MailsAt.none _ _ _ _ _, MSz.none _, B⟩
 subst h0
 rw [if_pos rfl] at hc
 obtain ⟨N, -, -, SP, -⟩ := rep_ok HC.out
 have N1 := N.1
 have N2 := N.2.1
 have N3 : 0 ≤ r.view ∧ r.view ≤ 300 := by have := N.2.2.1; omega
 clear N SP
 obtain ⟨nm, hnm⟩ : ∃ nm, r.normal = nm := ⟨_, rfl⟩
 have HN : Hid _ := hnm
 rw [hnm] at hc
 have HX0 : Hid _ := X0
 rw [hnm] at X0 c0
 clear hnm
 cases nm
 rotate_left 1
 ·rw [if_pos rfl] at hc
  subst hc
  rw [if_neg (by decide)] at hms
  subst hms
  go_wp2_with (first | ((with_reducible refine sm 36 X1 0 [.int .i64 10, .slice none 0 0] ?_); intro V1 S; replace X0 := X0.kp S.kept; replace c0 := X0.cell; replace X1 : Bx V1 b1 [.int .i64 10, .slice none 0 0] := S.bx; replace c1 := X1.cell; replace f1 := X1.froz; replace B := bkp B S.kept; clear S))
  exact bodyPost_ret (v := .agg #[.int .i64 10, .slice none 0 0]) (by simp [results, Try.results12, go_sem, *]) rfl ⟨_, _, (none, 0, 0), kd0, rfl, Nat.le_refl _, Nat.le_refl _, MailsAt.none _ _ _ _ _, MSz.none _, B⟩
 rw [if_neg (by decide)] at hc
 subst hc
 rw [if_pos rfl] at hms
 subst hms
 go_wp2_with fail
 have lbb := X1.lt
 refine (l9Tell0_is r h b0 _ HX0.out (x.below B).log hz.L N1 N3).mono ?_
 rintro e w2 ⟨s, Km, rfl, MA, hsn, hK, BB⟩
 have hzM : w.heap.size ≤ w1.heap.size := B.size
 clear HX0
 replace X0 := X0.below BB
 replace c0 := X0.cell
 replace X1 := X1.below BB
 replace c1 := X1.cell
 replace f1 := X1.froz
 replace B := below_next B BB
 clear BB
 have htl := tellM_len r
 have hMA := Nat.le_refl w2.heap.size
 obtain ⟨zz, hzz⟩ : ∃ zz, zz = w1.heap.size := ⟨_, rfl⟩
 rw [← hzz] at MA hzM
 have o1z : b1 < zz := by rw [hzz]; exact lbb
 clear hzz
 have hs1 : s.2.1 ≤ 1 := by omega
 clear htl hsn
 go_wp2_with (first | ((with_reducible refine sm 36 X1 0 [.int .i64 0, .slice s.1 s.2.1 s.2.2] ?_); intro V1 S; replace X0 := X0.kp S.kept; replace c0 := X0.cell; replace X1 : Bx V1 b1 [.int .i64 0, .slice s.1 s.2.1 s.2.2] := S.bx; replace c1 := X1.cell; replace f1 := X1.froz; replace MA := MA.kept S.kept (by omega); replace hMA := Nat.le_trans hMA S.kept.size; replace B := bkp B S.kept; clear S))
 exact bodyPost_ret (v := .agg #[.int .i64 0, .slice s.1 s.2.1 s.2.2]) (by simp [results, Try.results12, go_sem, *]) rfl ⟨_, _, s, Km, rfl, hzM, hMA, MA, ⟨by omega, hK⟩, B⟩
theorem cho_best {r : Rep} (h : repF r = 0) : ∃ j : Nat, choV r = (j : Int) ∧ j < r.size.toNat ∧ telB r j ∧ ∀ i, i < r.size.toNat → telB r i → (toldD r i).2.1 ≤ (toldD r j).2.1 := by
 obtain ⟨⟨_, hid, _, _⟩, _⟩ := rep_ok h
 have hp := telL_pos hid
 have hl1 : (lstL r r.size.toNat).length = (telL r r.size.toNat).length := by unfold lstL; rw [List.length_map]
 have hl2 : (logL r r.size.toNat).length = (telL r r.size.toNat).length := by unfold logL; rw [List.length_map]
 obtain ⟨e1, e2⟩ := bestR_of (ls := lstL r r.size.toNat) (xss := logL r r.size.toNat) (by rw [hl1, hl2]) (by rw [hl2]; exact hp)
 have BM := best_max (lstL r r.size.toNat) (logL r r.size.toNat) (logL r r.size.toNat).length
 obtain ⟨x, hx⟩ : ∃ x, bestTo (lstL r r.size.toNat) (logL r r.size.toNat) (logL r r.size.toNat).length = x := ⟨_, rfl⟩
 rw [hx] at e1 e2 BM
 rw [hl2] at e2 BM
 have get : ∀ a, a < (telL r r.size.toNat).length → (lstL r r.size.toNat).getD a 0 = (toldD r ((telL r r.size.toNat).getD a 0).toNat).2.1 := fun a ha => by
  unfold lstL
  simp [List.getD, ha]
 have hc : choV r = (telL r r.size.toNat).getD x 0 := by unfold choV; rw [e1]
 have hmem : choV r ∈ telL r r.size.toNat := by
  rw [hc, List.getD_eq_getElem?_getD, List.getElem?_eq_getElem e2]
  exact List.getElem_mem _
 obtain ⟨j, hj, hjm, hjt⟩ := telL_mem hmem
 refine ⟨j, hj, hjm, hjt, fun i hi ht => ?_⟩
 obtain ⟨a, ha, hai⟩ := List.mem_iff_getElem.1 (telL_has ht hi)
 have b := BM a ha
 rw [get a ha, get x e2, ← hc, hj, Int.toNat_natCast] at b
 have ea : (telL r r.size.toNat).getD a 0 = (i : Int) := by rw [List.getD_eq_getElem?_getD, List.getElem?_eq_getElem ha]; exact hai
 rw [ea, Int.toNat_natCast] at b
 omega
structure ChoOk (r : Rep) (v : Nat) (la : Int) : Prop where
 val : choV r = (v : Int)
 low : v < r.size.toNat
 own : (v : Int) = r.id → r.last = la
 oth : (v : Int) ≠ r.id → (r.doers.getD v dr0).1 = true ∧ (r.doers.getD v dr0).2.1 = la
 self : r.last ≤ la
 all : ∀ i, i < r.size.toNat → (i : Int) ≠ r.id → (r.doers.getD i dr0).1 = true → (r.doers.getD i dr0).2.1 ≤ la
theorem cho_ok {r : Rep} (h : repF r = 0) (hn : r.normal = false) : ∃ v la, ChoOk r v la := by
 obtain ⟨⟨_, hid, _, _⟩, _⟩ := rep_ok h
 obtain ⟨j, hj, hjm, hjt, ha⟩ := cho_best h
 have told : ∀ k : Nat, (k : Int) ≠ r.id → toldD r k = r.doers.getD k dr0 := fun k hk => by unfold toldD; rw [if_neg hk]
 refine ⟨j, (toldD r j).2.1, hj, hjm, fun e => by unfold toldD; rw [if_pos e], fun e => ?_, ?_, fun i hi e hk => ?_⟩
 ·rcases hjt with q | q
  ·exact absurd q e
  ·rw [told j e]; exact ⟨q.2, rfl⟩
 ·have := ha r.id.toNat (by omega) (Or.inl (by omega))
  unfold toldD at this
  rw [if_pos (by omega)] at this
  exact this
 ·have := ha i hi (Or.inr ⟨hn, hk⟩)
  rw [told i e] at this
  exact this
theorem ch_ok {r : Rep} (h : chC r = 0) : repF r = 0 ∧ r.normal = false ∧ (r.view % r.size == r.id) = true := by
 unfold chC at h
 by_cases h0 : repF r = 0
 ·rw [if_pos h0] at h
  by_cases h1 : r.normal = true
  ·rw [if_pos h1] at h; cases h
  ·rw [if_neg h1] at h
   by_cases h2 : (r.view % r.size == r.id) = true
   ·exact ⟨h0, by simpa using h1, h2⟩
   ·rw [if_neg h2] at h; cases h
 ·rw [if_neg h0] at h; exact absurd h h0
theorem te_ok {r : Rep} (h : chC r = 0) : teC r = 0 ∧ teM r = [] := by
 obtain ⟨h0, h1, h2⟩ := ch_ok h
 have e : teC r = 0 := by unfold teC; rw [if_pos h0, h1]; rfl
 exact ⟨e, by unfold teM tellM; rw [if_pos e, if_pos h2]⟩
def CS (w w' : World) : Prop := w'.there (w.heap.size + 1) 0 2 ∧ Below w.heap.size w w' ∧ w.heap.size + 1 < w'.heap.size
def CpS (w : World) (v0 v1 : Value) (w' : World) : Prop := w'.cell? ⟨w.heap.size, 0, none⟩ = some v0 ∧ w'.cell? ⟨w.heap.size, 1, none⟩ = some v1 ∧ CS w w'
end Go.Proofs.Ytjefmhjlaibbkaa
