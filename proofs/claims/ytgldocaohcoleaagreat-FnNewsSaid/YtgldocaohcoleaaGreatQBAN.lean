/- Chapter 11: TimeoutAt, BeatAt, CrashAt of the program. -/
import Derived.Test.YtgldocaohcoleaaGreatQAFN
import Derived.Test.YtgldocaohcoleaaGreatQAXN
import Derived.Test.YtgldocaohcoleaaGreatQAYN
import Derived.Test.YtgldocaohcoleaaGreatWRN
import Derived.Test.YtgldocaohcoleaaGreatWSN
import Derived.Test.YtgldocaohcoleaaGreatWYN
import Derived.Test.YtgldocaohcoleaaGreatQAPN
import Derived.Test.YtgldocaohcoleaaGreatUAN
import Derived.Test.YtgldocaohcoleaaGreatQASN
import Derived.Test.YtgldocaohcoleaaGreatWFN
import Derived.Test.YtgldocaohcoleaaGreatQAJN
set_option maxRecDepth 20000
set_option maxHeartbeats 16000000
namespace Go.Proofs.YtgldocaohcoleaaGreat
open Go.RowKit
theorem rep_com {r : Rep} (h : repF r = 0) : 0 ≤ r.commit ∧ r.commit ≤ r.log.length := (lg_ok (rep_ok h).2.1).2
theorem to_com (r : Rep) (h : repF r = 0) (hc : toC r = 0) : 0 ≤ (toQ r).commit ∧ (toQ r).commit ≤ (toQ r).log.length := by
 have := rep_com h
 unfold toQ
 rw [if_pos hc]
 split <;> exact this
theorem agr_com (r : Rep) (h : repF r = 0) : 0 ≤ (agrC r).commit ∧ (agrC r).commit ≤ (agrC r).log.length := by
 have h1 := rep_com h
 have h2 := agrTo_in r.oks r.id r.size r.log.length
 show 0 ≤ agrM r ∧ agrM r ≤ r.log.length
 unfold agrM agrR
 split <;> omega
theorem be_com (r : Rep) (h : repF r = 0) (_ : repF r = 0) : 0 ≤ (beQ r).commit ∧ (beQ r).commit ≤ (beQ r).log.length := by
 unfold beQ
 rw [if_pos h]
 split
 ·exact agr_com r h
 ·exact rep_com h
theorem crash_com (r : Rep) (h : repF r = 0) (_ : repF r = 0) : 0 ≤ (okOr (repF r) (crashR r)).commit ∧ (okOr (repF r) (crashR r)).commit ≤ (okOr (repF r) (crashR r)).log.length := by
 unfold okOr
 rw [if_pos h]
 exact ⟨Int.le_refl _, by show (0 : Int) ≤ _; omega⟩
theorem implTimeoutAt_is {own : Bool} {lo hi : Nat} (N M Sl : Hd) (xs : List Nod) (ms : List Mal) (es : List En) (v : Int) (w : World) (x : ClAt w own lo hi N M Sl xs ms es) (hs : ClSz N M Sl xs ms 1048576) (rs : List Rep) (ns : List Ml) (hrs : xs.map (·.1) = rs) (hns : ms.map (·.1) = ns) (cd : Int) (R' : List Rep) (M' : List Ml) (E' : List En) (hc : atC rs ns es v toC = cd) (hR : atN rs ns es v toC toQ = R') (hM : atM rs ns es v toC toM = M') (hE : atE rs ns es v toC toQ = E') :
  Calls Tryz.prog 17 #[.agg #[.slice N.1 N.2.1 N.2.2, .slice M.1 M.2.1 M.2.2, .slice Sl.1 Sl.2.1 Sl.2.2], .int .i64 v] w fun e w' => ClRes true w w' e cd R' M' E' := by
 subst hrs hns
 have HC : Hid _ := hc
 have HR : Hid _ := hR
 have HM : Hid _ := hM
 have HE : Hid _ := hE
 clear hc hR hM hE
 go_enter Tryz.func17, Tryz.ntmps17
 go_wp2_with (first | ((have g := ob0); clear g; (with_reducible refine alloc_newX 34 [.int .i64 0, .slice none 0 0, .slice none 0 0, .slice none 0 0] (fun _ => by kernel_rfl) ?_); intro b1 W1 N1; have ob1 := Nat.le_trans B.size N1.ge; have o0_b1 := ltl X0.lt N1.ge; replace X0 := X0.below N1.below; replace c0 := X0.cell; replace f0 := X0.froz; replace B := below_next B N1.below; have X1 := N1.bx; have c1 := X1.cell; have f1 := X1.froz; clear N1) | ((with_reducible refine box_newX 32 [.slice N.1 N.2.1 N.2.2, .slice M.1 M.2.1 M.2.2, .slice Sl.1 Sl.2.1 Sl.2.2] rfl ?_); intro b0 W0 N0; have ob0 := N0.ge; have B := N0.below; have X0 := N0.bx; have c0 := X0.cell; have f0 := X0.froz; clear N0) | fail)
 refine (doAt_is 42 (fun _ _ => by simp [go_sem]) toC toQ toM N M Sl xs ms es v _ (x.below B) hs (fun W own lo hi r hA _ y s => implTimeout_is r hA W y s _ _ _ rfl rfl rfl) to_com).mono ?_
 rintro e w1 ⟨N1, M1, S1, x1, y1, rfl, A1, Z1, f1', f2', BB⟩
 rw [HC.out]
 rw [HE.out] at A1
 rw [HR.out] at f1'
 rw [HM.out] at f2'
 obtain ⟨base, hbase⟩ : ∃ z, z = W1.heap.size := ⟨_, rfl⟩
 rw [← hbase] at A1
 have lb1 : b1 < base := by rw [hbase]; exact X1.lt
 have lwb : w.heap.size ≤ base := by rw [hbase]; exact B.size
 clear hbase
 replace X0 := X0.below BB
 replace c0 := X0.cell
 replace f0 := X0.froz
 replace X1 := X1.below BB
 replace c1 := X1.cell
 replace f1 := X1.froz
 replace B := below_next B BB
 clear BB
 have HA1 : Hid _ := A1
 have HZ1 : Hid _ := Z1
 have HF1 : Hid _ := f1'
 have HF2 : Hid _ := f2'
 clear A1 Z1 f1' f2' HC HR HM HE
 go_wp2_with (first | ((with_reducible refine store_midX 34 X1 0 [.int .i64 cd, .slice N1.1 N1.2.1 N1.2.2, .slice M1.1 M1.2.1 M1.2.2, .slice S1.1 S1.2.1 S1.2.2] (by simp) (by kernel_rfl) (by simp [Value.oneCell']) rfl rfl ?_); intro V1 S; replace X0 := X0.kp S.kept; replace c0 := X0.cell; replace f0 := X0.froz; replace X1 : Bx V1 b1 [.int .i64 cd, .slice N1.1 N1.2.1 N1.2.2, .slice M1.1 M1.2.1 M1.2.2, .slice S1.1 S1.2.1 S1.2.2] := S.bx; replace c1 := X1.cell; replace f1 := X1.froz; replace B := bkp B S.kept; have hk2 := S.kept; clear S))
 refine bodyPost_ret (v := .agg #[.int .i64 cd, .slice N1.1 N1.2.1 N1.2.2, .slice M1.1 M1.2.1 M1.2.2, .slice S1.1 S1.2.1 S1.2.2]) (by simp [results, Tryz.results17, go_sem, *]) rfl ?_
 exact ⟨N1, M1, S1, x1, y1, rfl, (HA1.out.kept hk2 (Or.inr (by omega))).widen lwb hk2.size, HZ1.out, HF1.out, HF2.out, B⟩
theorem implBeatAt_is {own : Bool} {lo hi : Nat} (N M Sl : Hd) (xs : List Nod) (ms : List Mal) (es : List En) (v : Int) (w : World) (x : ClAt w own lo hi N M Sl xs ms es) (hs : ClSz N M Sl xs ms 1048576) (rs : List Rep) (ns : List Ml) (hrs : xs.map (·.1) = rs) (hns : ms.map (·.1) = ns) (cd : Int) (R' : List Rep) (M' : List Ml) (E' : List En) (hc : atC rs ns es v repF = cd) (hR : atN rs ns es v repF beQ = R') (hM : atM rs ns es v repF beMs = M') (hE : atE rs ns es v repF beQ = E') :
  Calls Tryz.prog 24 #[.agg #[.slice N.1 N.2.1 N.2.2, .slice M.1 M.2.1 M.2.2, .slice Sl.1 Sl.2.1 Sl.2.2], .int .i64 v] w fun e w' => ClRes true w w' e cd R' M' E' := by
 subst hrs hns
 have HC : Hid _ := hc
 have HR : Hid _ := hR
 have HM : Hid _ := hM
 have HE : Hid _ := hE
 clear hc hR hM hE
 go_enter Tryz.func24, Tryz.ntmps24
 go_wp2_with (first | ((have g := ob0); clear g; (with_reducible refine alloc_newX 34 [.int .i64 0, .slice none 0 0, .slice none 0 0, .slice none 0 0] (fun _ => by kernel_rfl) ?_); intro b1 W1 N1; have ob1 := Nat.le_trans B.size N1.ge; have o0_b1 := ltl X0.lt N1.ge; replace X0 := X0.below N1.below; replace c0 := X0.cell; replace f0 := X0.froz; replace B := below_next B N1.below; have X1 := N1.bx; have c1 := X1.cell; have f1 := X1.froz; clear N1) | ((with_reducible refine box_newX 32 [.slice N.1 N.2.1 N.2.2, .slice M.1 M.2.1 M.2.2, .slice Sl.1 Sl.2.1 Sl.2.2] rfl ?_); intro b0 W0 N0; have ob0 := N0.ge; have B := N0.below; have X0 := N0.bx; have c0 := X0.cell; have f0 := X0.froz; clear N0) | fail)
 refine (doAt_is 46 (fun _ _ => by simp [go_sem]) repF beQ beMs N M Sl xs ms es v _ (x.below B) hs (fun W own lo hi r hA _ y s => implBeat_is r hA W y s _ _ _ rfl rfl rfl) be_com).mono ?_
 rintro e w1 ⟨N1, M1, S1, x1, y1, rfl, A1, Z1, f1', f2', BB⟩
 rw [HC.out]
 rw [HE.out] at A1
 rw [HR.out] at f1'
 rw [HM.out] at f2'
 obtain ⟨base, hbase⟩ : ∃ z, z = W1.heap.size := ⟨_, rfl⟩
 rw [← hbase] at A1
 have lb1 : b1 < base := by rw [hbase]; exact X1.lt
 have lwb : w.heap.size ≤ base := by rw [hbase]; exact B.size
 clear hbase
 replace X0 := X0.below BB
 replace c0 := X0.cell
 replace f0 := X0.froz
 replace X1 := X1.below BB
 replace c1 := X1.cell
 replace f1 := X1.froz
 replace B := below_next B BB
 clear BB
 have HA1 : Hid _ := A1
 have HZ1 : Hid _ := Z1
 have HF1 : Hid _ := f1'
 have HF2 : Hid _ := f2'
 clear A1 Z1 f1' f2' HC HR HM HE
 go_wp2_with (first | ((with_reducible refine store_midX 34 X1 0 [.int .i64 cd, .slice N1.1 N1.2.1 N1.2.2, .slice M1.1 M1.2.1 M1.2.2, .slice S1.1 S1.2.1 S1.2.2] (by simp) (by kernel_rfl) (by simp [Value.oneCell']) rfl rfl ?_); intro V1 S; replace X0 := X0.kp S.kept; replace c0 := X0.cell; replace f0 := X0.froz; replace X1 : Bx V1 b1 [.int .i64 cd, .slice N1.1 N1.2.1 N1.2.2, .slice M1.1 M1.2.1 M1.2.2, .slice S1.1 S1.2.1 S1.2.2] := S.bx; replace c1 := X1.cell; replace f1 := X1.froz; replace B := bkp B S.kept; have hk2 := S.kept; clear S))
 refine bodyPost_ret (v := .agg #[.int .i64 cd, .slice N1.1 N1.2.1 N1.2.2, .slice M1.1 M1.2.1 M1.2.2, .slice S1.1 S1.2.1 S1.2.2]) (by simp [results, Tryz.results24, go_sem, *]) rfl ?_
 exact ⟨N1, M1, S1, x1, y1, rfl, (HA1.out.kept hk2 (Or.inr (by omega))).widen lwb hk2.size, HZ1.out, HF1.out, HF2.out, B⟩
theorem implCrashAt_is {own : Bool} {lo hi : Nat} (N M Sl : Hd) (xs : List Nod) (ms : List Mal) (es : List En) (v : Int) (w : World) (x : ClAt w own lo hi N M Sl xs ms es) (hs : ClSz N M Sl xs ms 1048576) (rs : List Rep) (ns : List Ml) (hrs : xs.map (·.1) = rs) (hns : ms.map (·.1) = ns) (cd : Int) (R' : List Rep) (M' : List Ml) (E' : List En) (hc : atC rs ns es v repF = cd) (hR : atN rs ns es v repF (fun r => okOr (repF r) (crashR r)) = R') (hM : atM rs ns es v repF (fun _ => []) = M') (hE : atE rs ns es v repF (fun r => okOr (repF r) (crashR r)) = E') :
  Calls Tryz.prog 26 #[.agg #[.slice N.1 N.2.1 N.2.2, .slice M.1 M.2.1 M.2.2, .slice Sl.1 Sl.2.1 Sl.2.2], .int .i64 v] w fun e w' => ClRes true w w' e cd R' M' E' := by
 subst hrs hns
 have HC : Hid _ := hc
 have HR : Hid _ := hR
 have HM : Hid _ := hM
 have HE : Hid _ := hE
 clear hc hR hM hE
 go_enter Tryz.func26, Tryz.ntmps26
 go_wp2_with (first | ((have g := ob0); clear g; (with_reducible refine alloc_newX 34 [.int .i64 0, .slice none 0 0, .slice none 0 0, .slice none 0 0] (fun _ => by kernel_rfl) ?_); intro b1 W1 N1; have ob1 := Nat.le_trans B.size N1.ge; have o0_b1 := ltl X0.lt N1.ge; replace X0 := X0.below N1.below; replace c0 := X0.cell; replace f0 := X0.froz; replace B := below_next B N1.below; have X1 := N1.bx; have c1 := X1.cell; have f1 := X1.froz; clear N1) | ((with_reducible refine box_newX 32 [.slice N.1 N.2.1 N.2.2, .slice M.1 M.2.1 M.2.2, .slice Sl.1 Sl.2.1 Sl.2.2] rfl ?_); intro b0 W0 N0; have ob0 := N0.ge; have B := N0.below; have X0 := N0.bx; have c0 := X0.cell; have f0 := X0.froz; clear N0) | fail)
 refine (doAt_is 41 (fun _ _ => by simp [go_sem]) repF (fun r => okOr (repF r) (crashR r)) (fun _ => []) N M Sl xs ms es v _ (x.below B) hs (fun W own lo hi r hA _ y s => implCrash_is r hA W y s _ _ rfl rfl) crash_com).mono ?_
 rintro e w1 ⟨N1, M1, S1, x1, y1, rfl, A1, Z1, f1', f2', BB⟩
 rw [HC.out]
 rw [HE.out] at A1
 rw [HR.out] at f1'
 rw [HM.out] at f2'
 obtain ⟨base, hbase⟩ : ∃ z, z = W1.heap.size := ⟨_, rfl⟩
 rw [← hbase] at A1
 have lb1 : b1 < base := by rw [hbase]; exact X1.lt
 have lwb : w.heap.size ≤ base := by rw [hbase]; exact B.size
 clear hbase
 replace X0 := X0.below BB
 replace c0 := X0.cell
 replace f0 := X0.froz
 replace X1 := X1.below BB
 replace c1 := X1.cell
 replace f1 := X1.froz
 replace B := below_next B BB
 clear BB
 have HA1 : Hid _ := A1
 have HZ1 : Hid _ := Z1
 have HF1 : Hid _ := f1'
 have HF2 : Hid _ := f2'
 clear A1 Z1 f1' f2' HC HR HM HE
 go_wp2_with (first | ((with_reducible refine store_midX 34 X1 0 [.int .i64 cd, .slice N1.1 N1.2.1 N1.2.2, .slice M1.1 M1.2.1 M1.2.2, .slice S1.1 S1.2.1 S1.2.2] (by simp) (by kernel_rfl) (by simp [Value.oneCell']) rfl rfl ?_); intro V1 S; replace X0 := X0.kp S.kept; replace c0 := X0.cell; replace f0 := X0.froz; replace X1 : Bx V1 b1 [.int .i64 cd, .slice N1.1 N1.2.1 N1.2.2, .slice M1.1 M1.2.1 M1.2.2, .slice S1.1 S1.2.1 S1.2.2] := S.bx; replace c1 := X1.cell; replace f1 := X1.froz; replace B := bkp B S.kept; have hk2 := S.kept; clear S))
 refine bodyPost_ret (v := .agg #[.int .i64 cd, .slice N1.1 N1.2.1 N1.2.2, .slice M1.1 M1.2.1 M1.2.2, .slice S1.1 S1.2.1 S1.2.2]) (by simp [results, Tryz.results26, go_sem, *]) rfl ?_
 exact ⟨N1, M1, S1, x1, y1, rfl, (HA1.out.kept hk2 (Or.inr (by omega))).widen lwb hk2.size, HZ1.out, HF1.out, HF2.out, B⟩
def nwL (m : Nat) : List Rep := newL (m : Int)
def nwR1 (m v : Nat) : List Rep := atN (nwL m) [] [] v repF (fun r => okOr (repF r) (crashR r))
def nwM1 (m v : Nat) : List Ml := atM (nwL m) [] [] v repF (fun _ => [])
def nwE1 (m v : Nat) : List En := atE (nwL m) [] [] v repF (fun r => okOr (repF r) (crashR r))
def nwM2 (m v : Nat) : List Ml := atM (nwR1 m v) (nwM1 m v) (nwE1 m v) 0 repF beMs
def nwR3 (m v : Nat) : List Rep := atN (nwL m) [] [] v toC toQ
def nwM3 (m v : Nat) : List Ml := atM (nwL m) [] [] v toC toM
def nwE3 (m v : Nat) : List En := atE (nwL m) [] [] v toC toQ
def nwOk (m v : Nat) : Bool := decide (cluF (nwL m) [] [] = 0) && (decide ((nwL m).length = m) && (decide (auLd (nwL m) (nwL m).length = 0) && (auEven (nwL m) && (auSafe (nwL m) [] && (decide (atC (nwL m) [] [] v repF = 0) && (decide (cluF (nwR1 m v) (nwM1 m v) (nwE1 m v) = 0) && (auEven (nwR1 m v) && (decide (atC (nwR1 m v) (nwM1 m v) (nwE1 m v) 0 repF = 0) && (decide ((nwM2 m v).length + 1 = m) && (decide (atC (nwL m) [] [] v toC = 0) && ((decide (cluF (nwR3 m v) (nwM3 m v) (nwE3 m v) = 0) && auEven (nwR3 m v)) == decide (m = 1))))))))))))
set_option maxRecDepth 100000 in
theorem nw_all : ((List.range 6).all fun m => (List.range 6).all fun v => !(decide (1 ≤ m ∧ v < m)) || nwOk m v) = true := by kernel_rfl
theorem nw_ok {m v : Nat} (h1 : 1 ≤ m) (h2 : m ≤ 5) (h3 : v < m) : nwOk m v = true := by
 have h := nw_all
 rw [List.all_eq_true] at h
 have h' := h m (List.mem_range.2 (by omega))
 rw [List.all_eq_true] at h'
 have h'' := h' v (List.mem_range.2 (by omega))
 rw [decide_eq_true (⟨h1, h3⟩ : 1 ≤ m ∧ v < m)] at h''
 simpa using h''
theorem nw_parts {m v : Nat} (h : nwOk m v = true) : cluF (nwL m) [] [] = 0 ∧ (nwL m).length = m ∧ auLd (nwL m) (nwL m).length = 0 ∧ auEven (nwL m) = true ∧ auSafe (nwL m) [] = true ∧ atC (nwL m) [] [] v repF = 0 ∧ cluF (nwR1 m v) (nwM1 m v) (nwE1 m v) = 0 ∧ auEven (nwR1 m v) = true ∧ atC (nwR1 m v) (nwM1 m v) (nwE1 m v) 0 repF = 0 ∧ (nwM2 m v).length + 1 = m ∧ atC (nwL m) [] [] v toC = 0 ∧ (decide (cluF (nwR3 m v) (nwM3 m v) (nwE3 m v) = 0) && auEven (nwR3 m v)) = decide (m = 1) := by
 unfold nwOk at h
 simp only [Bool.and_eq_true, decide_eq_true_eq, beq_iff_eq] at h
 obtain ⟨a1, a2, a3, a4, a5, a6, a7, a8, a9, a10, a11, a12⟩ := h
 exact ⟨a1, a2, a3, a4, a5, a6, a7, a8, a9, a10, a11, a12⟩
theorem new_snoc {m : Int} {wr W : World} {zz b1 k : Nat} {v : Value} {q : Rep} {oa : Option Addr} {on oc : Nat} {z1 : Nat} (G : NewSt m wr zz 65 v k) (B : Below wr.heap.size wr W) (X1 : Bx W b1 [.int .i64 q.id, .int .i64 q.size, .int .i64 q.view, .bool q.normal, .int .i64 q.last, .slice none 0 0, .int .i64 q.commit, .slice oa on oc, .slice none 0 0, .slice none 0 0]) (R1 : RowAt W true z1 W.heap.size 1 oa on oc (ints q.oks)) (hz1 : wr.heap.size ≤ z1) (hzz : zz ≤ wr.heap.size) (hq : newRep (k : Int) m = q) (hon : on ≤ 5) (hk : k ≤ 1000) :
  ∃ v' w', (∀ ty, (Builtin.append_ #[28, 28] ty #[v, .slice (some ⟨b1, 0, none⟩) 1 1]).run Tryz.prog W = .ok v' w') ∧ NewSt m w' zz 65 v' (k + 1) ∧ Below zz W w' := by
 obtain ⟨ys, G, e, s⟩ := G
 obtain ⟨i9, hi9, ha9, hb9, hc9⟩ := info_parts Tryz.infReplica
 have hb := newRep_bare (k : Int) m
 rw [hq] at hb
 have y : RepAt W true z1 W.heap.size (oH oa on oc) q := rep_oks hb.1 hb.2.1 hb.2.2 R1
 have hsz := B.size
 have LR : RowAt W false b1 (b1 + 1) 10 (some ⟨b1, 0, none⟩) 1 1 (nodeK.cells (q, oH oa on oc)) := ⟨rfl, Nat.le_refl _, fun _ => ⟨b1, 0, rfl, Nat.le_refl _, Nat.lt_succ_self _, X1.lt, fun i hi => by
  have hi' : i < 10 := hi
  rw [Nat.zero_add, X1.cell i, List.getD_eq_getElem?_getD]
  show _ = some (([.int .i64 q.id, .int .i64 q.size, .int .i64 q.view, .bool q.normal, .int .i64 q.last, .slice none 0 0, .int .i64 q.commit, .slice oa on oc, .slice none 0 0, .slice none 0 0] : List Value)[i]?.getD default)
  rw [List.getElem?_eq_getElem (by simpa using hi')]; rfl, fun z => by cases z⟩⟩
 have inb : ∀ q', inRep (oH oa on oc) q' → z1 ≤ q' := fun q' hq' => (y.inB hq').1
 obtain ⟨v', w', hr, G2, _, BB⟩ := GrowL.snoc (P := Tryz.prog) nodeOk (G.below nodeOk B) 28 i9 (.agg #[.int .i64 0, .int .i64 0, .int .i64 0, .bool false, .int .i64 0, .slice none 0 0, .int .i64 0, .slice none 0 0, .slice none 0 0, .slice none 0 0]) 144 Tryz.underlying28 hi9 ha9 hb9 hc9 rfl (by omega) ⟨b1, 0, none⟩ 1 (q, oH oa on oc) LR (by intro u hu; simp only [nodeK, repC, hv, oH, List.mem_cons, List.not_mem_nil, or_false] at hu; rcases hu with rfl | rfl | rfl | rfl | rfl | rfl | rfl | rfl | rfl | rfl <;> rfl) (nodeOk.widen (a := (q, oH oa on oc)) y (by omega) (Nat.le_refl _)) (fun q' hq' ee => by
  have h1 := inb q' hq'
  have h2 := (G.own.lt q' ee).2
  omega) (fun i b eb q' hq' hb' => by
  have h1 := inb q' hq'
  have h2 := (nodeOk.inB (G.each i b eb) hb').2.2
  omega) (by omega) (by omega)
 refine ⟨v', w', hr, ⟨_, G2, ?_, fun i a ea => ?_⟩, BB⟩
 ·rw [List.map_append, e, newK_snoc, hq]; rfl
 ·rcases Nat.lt_or_ge i ys.length with p | p
  ·rw [List.getElem?_append_left p] at ea; exact s i a ea
  ·rw [List.getElem?_append_right p] at ea
   have : a ∈ [(q, oH oa on oc)] := List.mem_of_getElem? ea
   have e3 : a = (q, oH oa on oc) := by simpa using this
   rw [e3, oH_sum]; exact hon
theorem implNewCl_is (m : Int) (w : World) : Calls Tryz.prog 34 #[.int .i64 m] w fun e w' => NewAns m w w' e := by
 go_enter Tryz.func34, Tryz.ntmps34
 go_wp2_with (first | ((with_reducible refine alloc_newX 34 [.int .i64 0, .slice none 0 0, .slice none 0 0, .slice none 0 0] (fun _ => by kernel_rfl) ?_); intro b0 W0 N0; have ob0 := N0.ge; have B := N0.below; have X0 := N0.bx; have c0 := X0.cell; have f0 := X0.froz; clear N0) | fail)
 by_cases q0 : 1 ≤ m ∧ m ≤ 5
 rotate_left 1
 ·refine (isSize_is m _ false (by simp only [decide_eq_false_eq]; exact q0)).mono ?_
  rintro e W9 ⟨rfl, rfl⟩
  go_wp2_with (first | ((with_reducible refine store_midX 34 X0 0 [.int .i64 3, .slice none 0 0, .slice none 0 0, .slice none 0 0] (by simp) (by kernel_rfl) (by simp [Value.oneCell']) rfl rfl ?_); intro V1 S; replace X0 : Bx V1 b0 [.int .i64 3, .slice none 0 0, .slice none 0 0, .slice none 0 0] := S.bx; replace c0 := X0.cell; replace f0 := X0.froz; replace B := bkp B S.kept; clear S))
  refine bodyPost_ret (v := .agg #[.int .i64 3, .slice none 0 0, .slice none 0 0, .slice none 0 0]) (by simp [results, Tryz.results34, go_sem, *]) rfl ⟨(none, 0, 0), [], by unfold nclC; rw [if_neg q0], LAt.nil _ _ _ _ _ _ _, by unfold newL; rw [if_neg q0]; rfl, fun i a e => by simp at e, B⟩
 refine (isSize_is m _ true (by simp only [decide_eq_true_eq]; exact q0)).mono ?_
 rintro e W9 ⟨rfl, rfl⟩
 obtain ⟨mm, hmm⟩ : ∃ mm : Nat, m = (mm : Int) := ⟨m.toNat, by omega⟩
 subst hmm
 have hm5 : mm ≤ 5 := by omega
 obtain ⟨zz, hzz⟩ : ∃ zz, zz = W9.heap.size := ⟨_, rfl⟩
 have lz : b0 < zz := by rw [hzz]; exact X0.lt
 have lw : w.heap.size ≤ zz := by rw [hzz]; exact B.size
 have hzl : zz ≤ W9.heap.size := Nat.le_of_eq hzz
 have HX0 : Hid _ := X0
 have HB : Hid _ := B
 clear hzz X0 B c0 f0
 go_wp2
 go_loopw [3, 4, 10] (fun v _ iv wr => ∃ k : Nat, k ≤ mm ∧ iv = .int .i64 k ∧ NewSt (mm : Int) wr zz 65 v k ∧ zz ≤ wr.heap.size ∧ Below zz W9 wr) (fun _ _ iv _ => mm - (intOf iv).toNat)
 case atStart => exact ⟨0, Nat.zero_le _, rfl, ⟨[], GrowL.nil _ _ _ _, rfl, fun i a e => by simp at e⟩, hzl, Below.refl _ _⟩
 case round =>
  obtain ⟨k, hk, rfl, G, LZ, BL⟩ := hrel
  by_cases hlt : k < mm
  ·have hlk : (k : Int) < (mm : Int) := by omega
   have HG : Hid _ := G
   have HBL : Hid _ := BL
   clear G BL
   obtain ⟨q, hq⟩ : ∃ q, newRep (k : Int) (mm : Int) = q := ⟨_, rfl⟩
   have HQ : Hid _ := hq
   clear hq
   obtain ⟨c, hc⟩ : ∃ c, newC (k : Int) (mm : Int) = c := ⟨_, rfl⟩
   have HC : Hid _ := hc
   clear hc
   go_wp2_with fail
   refine (implNewR_is (k : Int) (mm : Int) _ c q HC.out HQ.out).mono ?_
   rintro e w1 ⟨oa, on, oc, rfl, hon, R1, BB⟩
   have B := BB
   have HR1 : Hid _ := R1
   clear R1
   clear BB
   have hfi : ∀ W, (Instr.field 68 (.agg #[.int .i64 c, .int .i64 q.id, .int .i64 q.size, .int .i64 q.view, .bool q.normal, .int .i64 q.last, .slice none 0 0, .int .i64 q.commit, .slice oa on oc, .slice none 0 0, .slice none 0 0, .slice none 0 0]) 1).run Tryz.prog W = .ok (.agg #[.int .i64 q.id, .int .i64 q.size, .int .i64 q.view, .bool q.normal, .int .i64 q.last, .slice none 0 0, .int .i64 q.commit, .slice oa on oc, .slice none 0 0, .slice none 0 0]) W := fun W => by kernel_rfl
   go_wp2_with (first | (at_builtin; refine Lib.wpList_append_run _ rfl _ _ _ _ rfl _ _ rfl rfl _ _ (hr _) ?_) | ((with_reducible refine lit_newX 28 1 _ [.int .i64 q.id, .int .i64 q.size, .int .i64 q.view, .bool q.normal, .int .i64 q.last, .slice none 0 0, .int .i64 q.commit, .slice oa on oc, .slice none 0 0, .slice none 0 0] 65 (fun _ => by kernel_rfl)  ?_); intro b0 W0 N0; have ob0 := Nat.le_trans B.size N0.ge; replace B := below_next B N0.below; have X0 := N0.bx; have R1 := HR1.out.below N0.below; have c0 := X0.cell; have hw0 := N0.below.size; clear N0; obtain ⟨v', w', hr, G2, BB⟩ := new_snoc HG.out B X0 (R1.widen (Nat.le_refl _) hw0) (Nat.le_refl _) LZ HQ.out hon (by omega); have HG2 : Hid _ := G2; clear G2) | fail)
   have BL2 : Hid (Below zz W9 w') := (HBL.out.trans (B.mono LZ)).trans BB
   have LZ3 : Hid (zz ≤ w'.heap.size) := Nat.le_trans LZ (Nat.le_trans B.size BB.size)
   clear X0 c0 R1 HR1 B BB hr hfi HG HBL
   go_wp2
   go_roundw
   case rel => exact ⟨k + 1, by omega, by go_num, HG2.out, LZ3.out, BL2.out⟩
   case measure => simp [intOf]; omega
  ·obtain rfl : k = mm := by omega
   obtain ⟨ys, G, hys, hsz⟩ := G
   obtain ⟨ao, cap, rfl, L⟩ := G.els
   have X0 := HX0.out.low BL lz
   have c0 := X0.cell
   have f0 := X0.froz
   have B : Below w.heap.size w wr := HB.out.trans (BL.mono lw)
   have HL : Hid (LAt nodeK wr true zz wr.heap.size ao k cap ys) := L
   have HY : Hid _ := hys
   have HZ : Hid _ := hsz
   clear L G hys hsz HX0 HB BL LZ hzl
   go_wp2_with (first | ((with_reducible refine store_midX 34 X0 0 [.int .i64 0, .slice ao k cap, .slice none 0 0, .slice none 0 0] (by simp) (by kernel_rfl) (by simp [Value.oneCell']) rfl rfl ?_); intro V10 S; replace X0 : Bx V10 b0 [.int .i64 0, .slice ao k cap, .slice none 0 0, .slice none 0 0] := S.bx; replace c0 := X0.cell; replace f0 := X0.froz; replace B := bkp B S.kept; have hk2 := S.kept; clear S))
   have L2 := (HL.out.kept nodeOk hk2 (Or.inr lz)).widen nodeOk lw hk2.size
   refine bodyPost_ret (v := .agg #[.int .i64 0, .slice ao k cap, .slice none 0 0, .slice none 0 0]) (by simp [results, Tryz.results34, go_sem, *]) rfl ⟨(ao, k, cap), ys, by unfold nclC; rw [if_pos q0], L2, by unfold newL; rw [if_pos q0]; exact HY.out, HZ.out, B⟩
end Go.Proofs.YtgldocaohcoleaaGreat
