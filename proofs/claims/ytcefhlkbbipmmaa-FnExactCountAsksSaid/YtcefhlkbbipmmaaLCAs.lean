/- At every replica the program's CountAsks answers as its model does and writes into no argument: the law FnExactCountAsks is true at every argument, with no condition. -/
import Derived.Test.YtcefhlkbbipmmaaBase
import Derived.Test.YtcefhlkbbipmmaaZT
import Derived.Test.YtcefhlkbbipmmaaCopy
import Derived.Test.YtcefhlkbbipmmaaMark
import Derived.Test.YtcefhlkbbipmmaaEq
import Derived.Test.YtcefhlkbbipmmaaMark2
import Derived.Test.YtcefhlkbbipmmaaBC
import Derived.Test.YtcefhlkbbipmmaaSm
import Derived.Test.YtcefhlkbbipmmaaFault
import Derived.Test.YtcefhlkbbipmmaaArr
import Derived.Test.YtcefhlkbbipmmaaFlush
import Derived.Test.YtcefhlkbbipmmaaSpec1
import Derived.Test.YtcefhlkbbipmmaaSFlush
import Derived.Test.YtcefhlkbbipmmaaAll
import Derived.Test.YtcefhlkbbipmmaaPutS
import Derived.Test.YtcefhlkbbipmmaaFacts
import Derived.Test.YtcefhlkbbipmmaaZM
import Derived.Test.YtcefhlkbbipmmaaYE
import Derived.Test.YtcefhlkbbipmmaaZY
import Derived.Test.YtcefhlkbbipmmaaP1
import Derived.Test.YtcefhlkbbipmmaaP2
import Derived.Test.YtcefhlkbbipmmaaP4
import Derived.Test.YtcefhlkbbipmmaaP3
import Derived.Test.YtcefhlkbbipmmaaQ0
import Derived.Test.YtcefhlkbbipmmaaZU
import Derived.Test.YtcefhlkbbipmmaaT8
import Derived.Test.YtcefhlkbbipmmaaZW
import Derived.Test.YtcefhlkbbipmmaaZX
import Derived.Test.YtcefhlkbbipmmaaZZ
import Derived.Test.YtcefhlkbbipmmaaZQ
import Derived.Test.YtcefhlkbbipmmaaZV
import Derived.Test.YtcefhlkbbipmmaaYP
import Derived.Test.YtcefhlkbbipmmaaO1b
import Derived.Test.YtcefhlkbbipmmaaO1
import Derived.Test.YtcefhlkbbipmmaaXA
import Derived.Test.YtcefhlkbbipmmaaZR
import Derived.Test.YtcefhlkbbipmmaaBools
import Derived.Test.YtcefhlkbbipmmaaWA
import Derived.Test.YtcefhlkbbipmmaaWB
import Derived.Test.YtcefhlkbbipmmaaWH
import Derived.Test.YtcefhlkbbipmmaaWL
import Derived.Test.YtcefhlkbbipmmaaWK
import Derived.Test.YtcefhlkbbipmmaaWQ
import Derived.Test.YtcefhlkbbipmmaaXH
import Derived.Test.YtcefhlkbbipmmaaWC
import Derived.Test.YtcefhlkbbipmmaaI5a
import Derived.Test.YtcefhlkbbipmmaaI5s
import Derived.Test.YtcefhlkbbipmmaaWN
import Derived.Test.YtcefhlkbbipmmaaWF
import Derived.Test.YtcefhlkbbipmmaaWR
import Derived.Test.YtcefhlkbbipmmaaWS
import Derived.Test.YtcefhlkbbipmmaaXB
import Derived.Test.YtcefhlkbbipmmaaWG
import Derived.Test.YtcefhlkbbipmmaaLTo
import Derived.WalkKit
import Derived.WalkSpells
import Derived.Deep.Draws
import Derived.Deep.MidRow
import Derived.Test.YtcefhlkbbipmmaaChecked
import Derived.WalkLawsBesides
import Derived.Deep.QuietTactic
import Derived.BigQuiet
import Derived.Deep.RegionHeld3
import Derived.Deep.WholeRow
import Derived.Deep.AppendSrc
import Derived.Maps.AppendAt
import Derived.Laws.CopyRow
import Derived.Lib.SliceRun
import Derived.Lib.Overlaps
import Derived.Lib.AppendZeros
import Derived.Laws.Externs
import Derived.Deep.AppendLies
import Derived.Deep.RegionLaw
import Derived.Laws.ComplexArith
import Derived.Laws.Tables
import Derived.ProofKit
import Derived.OpenShut
import Derived.Lib.SmallJoins
import Derived.Deep.SlicePairs
import Derived.Test.YtcefhlkbbipmmaaRows
import Derived.Deep.DeepCutAuto
/- Chapter 10: how many ask, by the program and by the model. -/
namespace Go.Proofs.Ytcefhlkbbipmmaa
open Go.RowKit

def casV (r : Rep) : Int := if repF r = 0 then cntB r.asks else 0
set_option maxRecDepth 20000 in
set_option maxHeartbeats 2000000 in
theorem implCAs_is {own : Bool} {lo hi : Nat} (r : Rep) (h : RH) (w : World) (x : RepAt w own lo hi h r) (hz : RSz h 1048576) (c v : Int) (hc : repF r = c) (hv : casV r = v) : Calls Try.prog 38 #[.agg #[.int .i64 r.id, .int .i64 r.size, .int .i64 r.view, .bool r.normal, .int .i64 r.last, .slice h.L.1 h.L.2.1 h.L.2.2, .int .i64 r.commit, .slice h.O.1 h.O.2.1 h.O.2.2, .slice h.A.1 h.A.2.1 h.A.2.2, .slice h.D.1 h.D.2.1 h.D.2.2]] w fun e w' => e = .returned (.agg #[.int .i64 c, .int .i64 v]) ∧ Below w.heap.size w w' := by
  unfold casV at hv
  rw [hc] at hv
  have HC : Hid _ := hc
  clear hc
  go_enter Try.func38, Try.ntmps38
  go_wp2_with (first | ((have g := ob0); clear g; (with_reducible refine alloc_newX 41 [.int .i64 0, .int .i64 0] (fun _ => by kernel_rfl) ?_); intro b1 W1 N1; have ob1 : w.heap.size ≤ b1 := Nat.le_trans B.size N1.ge; have o0_b1 : b0 < b1 := Nat.lt_of_lt_of_le X0.lt N1.ge; replace X0 := X0.below N1.below; replace c0 := X0.cell; replace B := below_next B N1.below; have X1 := N1.bx; have c1 := X1.cell; have f1 := X1.froz; clear N1) | ((with_reducible refine box_newX 29 [.int .i64 r.id, .int .i64 r.size, .int .i64 r.view, .bool r.normal, .int .i64 r.last, .slice h.L.1 h.L.2.1 h.L.2.2, .int .i64 r.commit, .slice h.O.1 h.O.2.1 h.O.2.2, .slice h.A.1 h.A.2.1 h.A.2.2, .slice h.D.1 h.D.2.1 h.D.2.2] rfl ?_); intro b0 W0 N0; have ob0 : w.heap.size ≤ b0 := N0.ge; have B := N0.below; have X0 := N0.bx; have c0 := X0.cell; clear N0) | fail)
  refine (implRF_is r h _ (x.below B) (hz.mono (by omega)) c HC.out).mono ?_
  rintro e w1 ⟨rfl, BB⟩
  replace X0 := X0.below BB
  replace c0 := X0.cell
  replace X1 := X1.below BB
  replace c1 := X1.cell
  replace f1 := X1.froz
  replace B := below_next B BB
  clear BB
  by_cases h0 : c = 0
  rotate_left 1
  · rw [if_neg h0] at hv
    subst hv
    have h0' : (c != 0) = true := by simp [h0]
    go_wp2_with (first | ((with_reducible refine store_midX 41 X1 0 [.int .i64 c, .int .i64 0] (by simp) (by kernel_rfl) (by simp [Value.oneCell']) rfl rfl ?_); intro V1 S; replace X0 := X0.kept S.kept (by omega); replace c0 := X0.cell; replace X1 : Bx V1 b1 [.int .i64 c, .int .i64 0] := S.bx; replace c1 := X1.cell; replace f1 := X1.froz; replace B := B.trans (S.kept.below _ (by omega) B.size); clear S))
    refine bodyPost_ret (v := .agg #[.int .i64 c, .int .i64 0]) (by simp [results, Try.results38, go_sem, *]) rfl ⟨rfl, B⟩
  subst h0
  rw [if_pos rfl] at hv
  subst hv
  go_wp2_with fail
  have lb := X1.lt
  refine (nodeOf_z r h _ (x.below B) hz).mono ?_
  rintro e w2 ⟨bq, z, u, h', rfl, Gz, uq, Gq, XQ, R, HZ, BB⟩
  have o1_q : b1 < bq := Nat.lt_of_lt_of_le lb Gq
  clear Gz Gq
  replace X0 := X0.below BB
  replace c0 := X0.cell
  replace X1 := X1.below BB
  replace c1 := X1.cell
  replace f1 := X1.froz
  replace B := below_next B BB
  clear BB
  go_wp2_with fail
  refine (askers_is r h' (none, 0, 0) bq _ XQ R.asks HZ.A).mono ?_
  rintro e W9 ⟨rfl, rfl⟩
  go_wp2_with (first | ((with_reducible refine store_midX 41 X1 0 [.int .i64 0, .int .i64 (cntB r.asks)] (by simp) (by kernel_rfl) (by simp [Value.oneCell']) rfl rfl ?_); intro V1 S; replace X0 := X0.kept S.kept (by omega); replace c0 := X0.cell; replace X1 : Bx V1 b1 [.int .i64 0, .int .i64 (cntB r.asks)] := S.bx; replace c1 := X1.cell; replace f1 := X1.froz; replace B := B.trans (S.kept.below _ (by omega) B.size); clear S))
  refine bodyPost_ret (v := .agg #[.int .i64 0, .int .i64 (cntB r.asks)]) (by simp [results, Try.results38, go_sem, *]) rfl ⟨rfl, B⟩
set_option maxRecDepth 20000 in
set_option maxHeartbeats 2000000 in
theorem specCAs_is {own : Bool} {lo hi : Nat} (r : Rep) (h : RH) (w : World) (x : RepAt w own lo hi h r) (hz : RSz h 1048576) (c v : Int) (hc : repF r = c) (hv : casV r = v) : Calls Try.prog 37 #[.agg #[.int .i64 r.id, .int .i64 r.size, .int .i64 r.view, .bool r.normal, .int .i64 r.last, .slice h.L.1 h.L.2.1 h.L.2.2, .int .i64 r.commit, .slice h.O.1 h.O.2.1 h.O.2.2, .slice h.A.1 h.A.2.1 h.A.2.2, .slice h.D.1 h.D.2.1 h.D.2.2]] w fun e w' => e = .returned (.agg #[.int .i64 c, .int .i64 v]) ∧ Below w.heap.size w w' := by
  unfold casV at hv
  rw [hc] at hv
  have HC : Hid _ := hc
  clear hc
  go_enter Try.func37, Try.ntmps37
  go_wp2_with (first | ((have g := ob0); clear g; (with_reducible refine alloc_newX 41 [.int .i64 0, .int .i64 0] (fun _ => by kernel_rfl) ?_); intro b1 W1 N1; have ob1 : w.heap.size ≤ b1 := Nat.le_trans B.size N1.ge; have o0_b1 : b0 < b1 := Nat.lt_of_lt_of_le X0.lt N1.ge; replace X0 := X0.below N1.below; replace c0 := X0.cell; replace B := below_next B N1.below; have X1 := N1.bx; have c1 := X1.cell; have f1 := X1.froz; clear N1) | ((with_reducible refine box_newX 29 [.int .i64 r.id, .int .i64 r.size, .int .i64 r.view, .bool r.normal, .int .i64 r.last, .slice h.L.1 h.L.2.1 h.L.2.2, .int .i64 r.commit, .slice h.O.1 h.O.2.1 h.O.2.2, .slice h.A.1 h.A.2.1 h.A.2.2, .slice h.D.1 h.D.2.1 h.D.2.2] rfl ?_); intro b0 W0 N0; have ob0 : w.heap.size ≤ b0 := N0.ge; have B := N0.below; have X0 := N0.bx; have c0 := X0.cell; clear N0) | fail)
  refine (l9Fault_is b0 r h _ X0 (x.below B) (hz.mono (by omega)) c HC.out).mono ?_
  rintro e w1 ⟨rfl, BB⟩
  replace X0 := X0.below BB
  replace c0 := X0.cell
  replace X1 := X1.below BB
  replace c1 := X1.cell
  replace f1 := X1.froz
  replace B := below_next B BB
  clear BB
  by_cases h0 : c = 0
  rotate_left 1
  · rw [if_neg h0] at hv
    subst hv
    have h0' : (c != 0) = true := by simp [h0]
    go_wp2_with (first | ((with_reducible refine store_midX 41 X1 0 [.int .i64 c, .int .i64 0] (by simp) (by kernel_rfl) (by simp [Value.oneCell']) rfl rfl ?_); intro V1 S; replace X0 := X0.kept S.kept (by omega); replace c0 := X0.cell; replace X1 : Bx V1 b1 [.int .i64 c, .int .i64 0] := S.bx; replace c1 := X1.cell; replace f1 := X1.froz; replace B := B.trans (S.kept.below _ (by omega) B.size); clear S))
    refine bodyPost_ret (v := .agg #[.int .i64 c, .int .i64 0]) (by simp [results, Try.results37, go_sem, *]) rfl ⟨rfl, B⟩
  subst h0
  rw [if_pos rfl] at hv
  have hxa := (x.below B).asks
  have hal := x.asks.nBls
  have hzA := hz.A
  have HV : Hid _ := hv
  clear hv
  go_wp2
  go_loopw [4, 5] (fun cv iv wr => ∃ (k : Nat) (t : Int), k ≤ h.A.2.1 ∧ iv = .int .i64 k ∧ cv = .int .i64 t ∧ 0 ≤ t ∧ t ≤ k ∧ Hid (t + cntB (r.asks.drop k) = v) ∧ w1 = wr) (fun _ iv _ => h.A.2.1 - (intOf iv).toNat)
  case atStart => exact ⟨0, 0, Nat.zero_le _, rfl, rfl, Int.le_refl _, Int.le_refl _, (by show _ = _; rw [← HV.out]; simp), rfl⟩
  case round =>
    obtain ⟨k, t, hk, rfl, rfl, t0, t1, HT, rfl⟩ := hrel
    by_cases hlt : k < h.A.2.1
    · have hlk : (k : Int) < (h.A.2.1 : Int) := by omega
      have HD : Hid _ := cntB_drop (bs := r.asks) (k := k) (by omega)
      obtain ⟨b, off, eo, _, _, _, e0, _⟩ := hxa.bool hlt
      rw [eo] at c0
      have wt : IntKind.i64.wrap (t + 1) = t + 1 := wrapI_same _ (by omega)
      obtain ⟨y, hy⟩ : ∃ y, r.asks.getD k false = y := ⟨_, rfl⟩
      rw [hy] at e0 HD
      clear hy eo
      cases y
      · have HT2 : Hid (t + cntB (r.asks.drop (k + 1)) = v) := by show _ = _; rw [← HT.out, HD.out]; simp
        clear HT HD
        go_wp2
        go_roundw
        case rel => exact ⟨k + 1, t, by omega, by go_num, rfl, t0, by omega, HT2, by first | rfl | trivial⟩
        case measure => simp [intOf]; omega
      · have HT2 : Hid (t + 1 + cntB (r.asks.drop (k + 1)) = v) := by show _ = _; rw [← HT.out, HD.out]; simp; omega
        clear HT HD
        go_wp2
        go_roundw
        case rel => exact ⟨k + 1, t + 1, by omega, by go_num, rfl, by omega, by omega, HT2, by first | rfl | trivial⟩
        case measure => simp [intOf]; omega
    · have e : t = v := by rw [← HT.out, List.drop_eq_nil_of_le (by omega)]; simp [cntB]
      subst e
      clear HT HV
      go_wp2_with (first | ((with_reducible refine store_midX 41 X1 0 [.int .i64 0, .int .i64 t] (by simp) (by kernel_rfl) (by simp [Value.oneCell']) rfl rfl ?_); intro V1 S; replace X0 := X0.kept S.kept (by omega); replace c0 := X0.cell; replace X1 : Bx V1 b1 [.int .i64 0, .int .i64 t] := S.bx; replace c1 := X1.cell; replace f1 := X1.froz; replace B := B.trans (S.kept.below _ (by omega) B.size); clear S))
      refine bodyPost_ret (v := .agg #[.int .i64 0, .int .i64 t]) (by simp [results, Try.results37, go_sem, *]) rfl ⟨rfl, B⟩

end Go.Proofs.Ytcefhlkbbipmmaa

/- What the program's and the model's WordAt answer, and that two alike answers are told to be equal. -/
namespace Go.Proofs.Ytcefhlkbbipmmaa
open Go.RowKit

set_option maxHeartbeats 400000 in
theorem eqNRes_yes (c v : Int) (w : World) :
    Calls Try.prog 33 #[.agg #[.int .i64 c, .int .i64 v], .agg #[.int .i64 c, .int .i64 v]] w fun e w' => e = .returned (.bool true) ∧ Below w.heap.size w w' := by
  have he : (c != c) = false := by simp
  have hv : (v != v) = false := by simp
  go_enter Try.func33, Try.ntmps33
  go_wp2
  go_ret
  exact ⟨rfl, ((Below.refl _ _).alloc (Nat.le_refl _) _).alloc (by simp) _⟩

end Go.Proofs.Ytcefhlkbbipmmaa

/- At every replica the program's CountAsks answers as its model does and writes into no argument: the law FnExactCountAsks is true at every argument, with no condition. -/
namespace Go.Proofs.Ytcefhlkbbipmmaa
open Go.RowKit

set_option maxRecDepth 20000 in
set_option maxHeartbeats 8000000 in
theorem lawCountAsks {own : Bool} (r : Rep) (h : RH) (w : World) (x : RepAt w own 0 w.heap.size h r) (hs : RSz h maxLen) : Calls Try.prog 8 #[.agg #[.int .i64 r.id, .int .i64 r.size, .int .i64 r.view, .bool r.normal, .int .i64 r.last, .slice h.L.1 h.L.2.1 h.L.2.2, .int .i64 r.commit, .slice h.O.1 h.O.2.1 h.O.2.2, .slice h.A.1 h.A.2.1 h.A.2.2, .slice h.D.1 h.D.2.1 h.D.2.2]] w fun e w' => e = .returned (.bool true) ∧ Below w.heap.size w w' := by
  obtain ⟨c, hc⟩ : ∃ c, repF r = c := ⟨_, rfl⟩
  obtain ⟨v, hv⟩ : ∃ v, casV r = v := ⟨_, rfl⟩
  have HC : Hid _ := hc
  have HV : Hid _ := hv
  clear hc hv
  go_enter Try.func8, Try.ntmps8
  go_wp2_with (first | ((with_reducible refine box_newX 56 [.int .i64 r.id, .int .i64 r.size, .int .i64 r.view, .bool r.normal, .int .i64 r.last, .slice h.L.1 h.L.2.1 h.L.2.2, .int .i64 r.commit, .slice h.O.1 h.O.2.1 h.O.2.2, .slice h.A.1 h.A.2.1 h.A.2.2, .slice h.D.1 h.D.2.1 h.D.2.2] rfl ?_); intro b0 W0 N0; have ob0 : w.heap.size ≤ b0 := N0.ge; have B := N0.below; have X0 := N0.bx; have c0 := X0.cell; clear N0) | fail)
  refine (szReplica_left r h _ (x.below B) hs).mono ?_
  rintro e w1 ⟨q, rfl, BB, hq⟩
  replace X0 := X0.below BB
  replace c0 := X0.cell
  replace B := below_next B BB
  clear BB
  rcases hq with hq | ⟨hq0, hq1, HZ⟩
  · go_wp2
    go_ret
    exact ⟨rfl, B⟩
  have hq' : ¬ q < 0 := by omega
  clear hq0 hq1
  go_wp2_with fail
  refine (toReplica_any r h _ (x.below B) HZ).mono ?_
  rintro e w2 ⟨k1, rfl, y1, z1, BB⟩
  replace X0 := X0.below BB
  replace c0 := X0.cell
  replace B := below_next B BB
  clear BB
  go_wp2_with fail
  refine (specCAs_is r k1 _ y1 z1 c v HC.out HV.out).mono ?_
  rintro e w3 ⟨rfl, BB⟩
  replace X0 := X0.below BB
  replace c0 := X0.cell
  replace B := below_next B BB
  clear BB
  clear y1 z1
  go_wp2_with (first | ((with_reducible refine store_midX 41 X1 0 [.int .i64 c, .int .i64 v] (by simp) (by kernel_rfl) (by simp [Value.oneCell']) rfl rfl ?_); intro V1 S; replace X0 := X0.kept S.kept (by omega); replace c0 := X0.cell; replace X1 : Bx V1 b1 [.int .i64 c, .int .i64 v] := S.bx; replace c1 := X1.cell; replace f1 := X1.froz; replace B := B.trans (S.kept.below _ (by omega) B.size); clear S) | ((have g := ob0); clear g; (with_reducible refine alloc_newX 41 [.int .i64 0, .int .i64 0] (fun _ => by kernel_rfl) ?_); intro b1 W1 N1; have ob1 : w.heap.size ≤ b1 := Nat.le_trans B.size N1.ge; have o0_b1 : b0 < b1 := Nat.lt_of_lt_of_le X0.lt N1.ge; replace X0 := X0.below N1.below; replace c0 := X0.cell; replace B := below_next B N1.below; have X1 := N1.bx; have c1 := X1.cell; have f1 := X1.froz; clear N1) | fail)
  refine (toReplica_z r h _ (x.below B) HZ).mono ?_
  rintro e w4 ⟨zY, uY, k2, rfl, GzY, hy2, y2, z2, BB⟩
  have ozY : w.heap.size ≤ zY := Nat.le_trans B.size GzY
  have o0_zY : b0 < zY := Nat.lt_of_lt_of_le X0.lt GzY
  have o1_zY : b1 < zY := Nat.lt_of_lt_of_le X1.lt GzY
  clear GzY
  replace X0 := X0.below BB
  replace c0 := X0.cell
  replace X1 := X1.below BB
  replace c1 := X1.cell
  replace f1 := X1.froz
  replace B := below_next B BB
  clear BB
  go_wp2_with (first | ((with_reducible refine store_midX 29 X2 0 [.int .i64 r.id, .int .i64 r.size, .int .i64 r.view, .bool r.normal, .int .i64 r.last, .slice k2.L.1 k2.L.2.1 k2.L.2.2, .int .i64 r.commit, .slice k2.O.1 k2.O.2.1 k2.O.2.2, .slice k2.A.1 k2.A.2.1 k2.A.2.2, .slice k2.D.1 k2.D.2.1 k2.D.2.2] (by simp) (by kernel_rfl) (by simp [Value.oneCell']) rfl rfl ?_); intro V2 S; replace X0 := X0.kept S.kept (by omega); replace c0 := X0.cell; replace X1 := X1.kept S.kept (by omega); replace c1 := X1.cell; replace f1 := X1.froz; replace X2 : Bx V2 b2 [.int .i64 r.id, .int .i64 r.size, .int .i64 r.view, .bool r.normal, .int .i64 r.last, .slice k2.L.1 k2.L.2.1 k2.L.2.2, .int .i64 r.commit, .slice k2.O.1 k2.O.2.1 k2.O.2.2, .slice k2.A.1 k2.A.2.1 k2.A.2.2, .slice k2.D.1 k2.D.2.1 k2.D.2.2] := S.bx; replace c2 := X2.cell; replace f2 := X2.froz; replace y2 := y2.kept S.kept (by omega); replace hy2 := Nat.le_trans hy2 S.kept.size; replace B := B.trans (S.kept.below _ (by omega) B.size); clear S) | ((have g := ob1); clear g; (with_reducible refine alloc_newX 29 [.int .i64 0, .int .i64 0, .int .i64 0, .bool false, .int .i64 0, .slice none 0 0, .int .i64 0, .slice none 0 0, .slice none 0 0, .slice none 0 0] (fun _ => by kernel_rfl) ?_); intro b2 W2 N2; have ob2 : w.heap.size ≤ b2 := Nat.le_trans B.size N2.ge; have o0_b2 : b0 < b2 := Nat.lt_of_lt_of_le X0.lt N2.ge; have o1_b2 : b1 < b2 := Nat.lt_of_lt_of_le X1.lt N2.ge; have oy2_b2 : uY ≤ b2 := Nat.le_trans hy2 N2.ge; replace X0 := X0.below N2.below; replace c0 := X0.cell; replace X1 := X1.below N2.below; replace c1 := X1.cell; replace f1 := X1.froz; replace y2 := y2.below N2.below; replace hy2 := Nat.le_trans hy2 N2.below.size; replace B := below_next B N2.below; have X2 := N2.bx; have c2 := X2.cell; have f2 := X2.froz; clear N2) | fail)
  refine (implCAs_is r k2 _ y2 z2 c v HC.out HV.out).mono ?_
  rintro e w5 ⟨rfl, BB⟩
  replace X0 := X0.below BB
  replace c0 := X0.cell
  replace X1 := X1.below BB
  replace c1 := X1.cell
  replace f1 := X1.froz
  replace X2 := X2.below BB
  replace c2 := X2.cell
  replace f2 := X2.froz
  replace y2 := y2.below BB
  replace hy2 := Nat.le_trans hy2 BB.size
  replace B := below_next B BB
  clear BB
  go_wp2_with (first | ((with_reducible refine store_midX 41 X3 0 [.int .i64 c, .int .i64 v] (by simp) (by kernel_rfl) (by simp [Value.oneCell']) rfl rfl ?_); intro V3 S; replace X0 := X0.kept S.kept (by omega); replace c0 := X0.cell; replace X1 := X1.kept S.kept (by omega); replace c1 := X1.cell; replace f1 := X1.froz; replace X2 := X2.kept S.kept (by omega); replace c2 := X2.cell; replace f2 := X2.froz; replace X3 : Bx V3 b3 [.int .i64 c, .int .i64 v] := S.bx; replace c3 := X3.cell; replace f3 := X3.froz; replace y2 := y2.kept S.kept (by omega); replace hy2 := Nat.le_trans hy2 S.kept.size; replace B := B.trans (S.kept.below _ (by omega) B.size); clear S) | ((have g := ob2); clear g; (with_reducible refine alloc_newX 41 [.int .i64 0, .int .i64 0] (fun _ => by kernel_rfl) ?_); intro b3 W3 N3; have ob3 : w.heap.size ≤ b3 := Nat.le_trans B.size N3.ge; have o0_b3 : b0 < b3 := Nat.lt_of_lt_of_le X0.lt N3.ge; have o1_b3 : b1 < b3 := Nat.lt_of_lt_of_le X1.lt N3.ge; have o2_b3 : b2 < b3 := Nat.lt_of_lt_of_le X2.lt N3.ge; have oy2_b3 : uY ≤ b3 := Nat.le_trans hy2 N3.ge; replace X0 := X0.below N3.below; replace c0 := X0.cell; replace X1 := X1.below N3.below; replace c1 := X1.cell; replace f1 := X1.froz; replace X2 := X2.below N3.below; replace c2 := X2.cell; replace f2 := X2.froz; replace y2 := y2.below N3.below; replace hy2 := Nat.le_trans hy2 N3.below.size; replace B := below_next B N3.below; have X3 := N3.bx; have c3 := X3.cell; have f3 := X3.froz; clear N3) | fail)
  refine (eqNRes_yes c v _).mono ?_
  rintro e w6 ⟨rfl, BB⟩
  replace X0 := X0.below BB
  replace c0 := X0.cell
  replace X1 := X1.below BB
  replace c1 := X1.cell
  replace f1 := X1.froz
  replace X2 := X2.below BB
  replace c2 := X2.cell
  replace f2 := X2.froz
  replace X3 := X3.below BB
  replace c3 := X3.cell
  replace f3 := X3.froz
  replace y2 := y2.below BB
  replace hy2 := Nat.le_trans hy2 BB.size
  replace B := below_next B BB
  clear BB
  go_wp2_with fail
  have DQ : Below w6.heap.size w6 w6.drew := (Below.refl _ _).drew
  replace X0 := X0.below DQ
  replace c0 := X0.cell
  replace X1 := X1.below DQ
  replace c1 := X1.cell
  replace f1 := X1.froz
  replace X2 := X2.below DQ
  replace c2 := X2.cell
  replace f2 := X2.froz
  replace X3 := X3.below DQ
  replace c3 := X3.cell
  replace f3 := X3.froz
  replace y2 := y2.below DQ
  replace hy2 := Nat.le_trans hy2 DQ.size
  replace B := below_next B DQ
  clear DQ
  refine wp_region_held_drew (S := (fun w' => (∀ k : Nat, w'.cell? ⟨b0, k, none⟩ = [.int .i64 r.id, .int .i64 r.size, .int .i64 r.view, .bool r.normal, .int .i64 r.last, .slice h.L.1 h.L.2.1 h.L.2.2, .int .i64 r.commit, .slice h.O.1 h.O.2.1 h.O.2.2, .slice h.A.1 h.A.2.1 h.A.2.2, .slice h.D.1 h.D.2.1 h.D.2.2][k]?) ∧ (∀ k : Nat, w'.cell? ⟨b2, k, none⟩ = [.int .i64 r.id, .int .i64 r.size, .int .i64 r.view, .bool r.normal, .int .i64 r.last, .slice k2.L.1 k2.L.2.1 k2.L.2.2, .int .i64 r.commit, .slice k2.O.1 k2.O.2.1 k2.O.2.2, .slice k2.A.1 k2.A.2.1 k2.A.2.2, .slice k2.D.1 k2.D.2.1 k2.D.2.2][k]?))) (by kernel_rfl) ⟨c0, c2⟩ (fun hHeld => ?_)
  refine wpAnyH_take (i := 0) (v := ?_) rfl (by kernel_rfl) (by kernel_rfl) (by kernel_rfl) (fun _ _ _ h => h) (Or.inl ⟨by rfl, ?_⟩) hHeld ?_
  rotate_left 1
  · intro w hSw
    try dsimp only at hSw
    first | (go_simp; done) | (go_simp; with_reducible rfl)
  simp only [Act.put, List.setIfInBounds_toArray, List.set_cons_zero, List.set_cons_succ, List.getElem_toArray, List.getElem_cons_zero]
  refine wpAnyH_take (i := 1) (v := ?_) rfl (by kernel_rfl) (by kernel_rfl) (by kernel_rfl) (fun _ _ _ h => h) (Or.inl ⟨by rfl, ?_⟩) hHeld ?_
  rotate_left 1
  · intro w hSw
    try dsimp only at hSw
    first | (go_simp; done) | (go_simp; with_reducible rfl)
  simp only [Act.put, List.setIfInBounds_toArray, List.set_cons_zero, List.set_cons_succ, List.getElem_toArray, List.getElem_cons_zero, List.getElem_cons_succ]
  refine wpAnyH_ready (rs := [2]) (by kernel_rfl) (by simp) ?_
  refine AllReadyH.cons rfl (fun KK hKK => ?_) AllReadyH.nil
  go_simp
  go_at_call 26
  refine (toReplica_any r h _ (x.below B) HZ).mono ?_
  rintro e v1 ⟨k9, rfl, y9, z9, BB⟩
  replace X0 := X0.below BB
  replace c0 := X0.cell
  replace X1 := X1.below BB
  replace c1 := X1.cell
  replace f1 := X1.froz
  replace X2 := X2.below BB
  replace c2 := X2.cell
  replace f2 := X2.froz
  replace X3 := X3.below BB
  replace c3 := X3.cell
  replace f3 := X3.froz
  replace y2 := y2.below BB
  replace hy2 := Nat.le_trans hy2 BB.size
  replace B := below_next B BB
  clear BB
  clear hHeld
  refine hKK _ _ ⟨c0, c2⟩ (fun hHeld => ?_)
  clear hKK KK
  refine wpAnyH_ready (rs := [3]) (by kernel_rfl) (by simp) ?_
  refine AllReadyH.cons rfl (fun KK hKK => ?_) AllReadyH.nil
  go_simp
  go_at_call 29
  refine (eqReplica_yes r k2 k9 _ y2 y9 (z2.mono (by omega))).mono ?_
  rintro e v2 ⟨rfl, BB⟩
  replace X0 := X0.below BB
  replace c0 := X0.cell
  replace X1 := X1.below BB
  replace c1 := X1.cell
  replace f1 := X1.froz
  replace X2 := X2.below BB
  replace c2 := X2.cell
  replace f2 := X2.froz
  replace X3 := X3.below BB
  replace c3 := X3.cell
  replace f3 := X3.froz
  replace y2 := y2.below BB
  replace hy2 := Nat.le_trans hy2 BB.size
  replace B := below_next B BB
  clear BB
  clear hHeld
  refine hKK _ _ ⟨c0, c2⟩ (fun hHeld => ?_)
  clear hKK KK
  refine wpAnyH_take (i := 4) (v := ?_) rfl (by kernel_rfl) (by kernel_rfl) (by kernel_rfl) (fun _ _ _ h => h) (Or.inl ⟨by rfl, ?_⟩) hHeld ?_
  rotate_left 1
  · intro w hSw
    try dsimp only at hSw
    first | (go_simp; done) | (go_simp; with_reducible rfl)
  simp only [Act.put, List.setIfInBounds_toArray, List.set_cons_zero, List.set_cons_succ, List.getElem_toArray, List.getElem_cons_zero, List.getElem_cons_succ]
  refine wpAnyH_done (by kernel_rfl) ?_ _
  go_wp2
  go_ret
  exact ⟨rfl, B⟩

open Go.ChangeShapes Go.WideShapes Go.ChangeAt Go.Joins

set_option maxRecDepth 100000 in
theorem liftedCountAsks (os : Os) (started : os.Started) (H : Type) (enc : TypeId × Value → H) :
    ReturnsInHanded {} Try.checked os 8 .any (Rows.fnExactCountAsksSpec.pre6 enc Try.prog Try.f8 Rows.fnExactCountAsksRow.domain false) (Rows.fnExactCountAsksSpec.post enc Try.prog Try.f8 false true false false) := by
  refine returnsInHanded_of_change (C := Try.checked) Try.own started (by kernel_rfl) Try.func8
    (ChangeSpec.witness6 (enc := enc) (C := Try.checked) false ⟨#[], #[.agg #[.int .i64 0, .int .i64 0, .int .i64 0, .bool false, .int .i64 0, .slice none 0 0, .int .i64 0, .slice none 0 0, .slice none 0 0, .slice none 0 0]], []⟩ 8 (by kernel_rfl) (by kernel_rfl) (by kernel_rfl) (by kernel_rfl)) ?_
  intro W base args ds gs before hval0 hW hcnd _
  have hval : ∀ (j : Nat) t v, Try.f8.params[j]? = some t → args[j]? = some v → Value.okWide Try.prog W .any base t v := hval0
  have hW' := hW
  obtain ⟨p, q, hA0, hV, rfl, hfz, hnd⟩ := hW
  have hA : DataW.TrodAll enc Try.prog W 0 (fun _ => true) true Try.f8.params.toList args.toList ds p := hA0
  rw [Try.params8] at hA hval
  obtain ⟨v0, vs0, d0, ds0, p0, q0, hargs, rfl, rfl, h0, r0⟩ := trodAll_cons hA
  obtain ⟨rfl, rfl, rfl⟩ := trodAll_nil r0
  obtain rfl : args = #[v0] := by cases args; simp_all
  obtain ⟨rfl, rfl⟩ := trodVars_none hV
  have lt0 : ∀ x ∈ p0, x.block < W.heap.size := by obtain ⟨m, hm⟩ := h0; exact DataW.trod_lt m _ _ _ hm
  have k0 := h0
  obtain ⟨rr0, rh0, rfl, rz0, rx0⟩ := open_replica Try.repTy (hval 0 56 v0 rfl rfl) h0
  clear hA0 hval0
  refine (lawCountAsks rr0 rh0 W rx0 rz0).mono fun e W' ⟨he, bel⟩ => ?_
  subst he
  exact ⟨_, rfl, _, _, _, [], _, [], hW', trodAll_mk1 (shut_bool Try.underlying4 _), (trodAll_cons_mk (Below.trod Try.laidOut (by kernel_rfl) (of_decide_eq_true (by kernel_rfl)) k0 bel lt0) trodAll_mk0), rfl, bel.frame _, fun h => by cases h⟩

set_option maxRecDepth 100000 in
set_option maxHeartbeats 0 in
theorem closedCountAsks : joinedFacts Try.prog 8 Try.f8 Rows.fnExactCountAsksSpec Rows.fnExactCountAsksRow = true := by
  have q1 : (Rows.fnExactCountAsksRow.inPlace == Try.prog.inPlace 8) = true := by rw [inPlace_at leads_is inp_is]; kernel_rfl
  have q2 : (Rows.fnExactCountAsksRow.unfollowed == Try.prog.unfollowed 8) = true := by rw [unfollowed_at leads_is unf_is]; kernel_rfl
  have q3 : (Rows.fnExactCountAsksRow.recurses == Try.prog.recurses 8) = true := (by rw [recurses_unf leads_is (by rw [unfollowed_at leads_is unf_is]; kernel_rfl)]; rfl)
  have q4 : (Rows.fnExactCountAsksRow.named == Try.prog.varsNamed 8) = true := by rw [varsNamed_at leads_is var_ok ent_is]; kernel_rfl
  have q5 : (Try.prog.make == some Rows.fnExactCountAsksRow.make) = true := by rw [made_cut]; rfl
  have q6 : (Rows.fnExactCountAsksRow.lifted == Try.prog.liftsFinal) = true := by rw [lifts_no]; rfl
  have q7 : Try.prog.mayEnter = true := may_enter
  have q8 : laidOutB Try.prog = true := Try.laidOut
  unfold joinedFacts
  repeat' (with_reducible refine Bool.and_eq_true_iff.2 ⟨?_, ?_⟩)
  all_goals (first | with_reducible exact q1 | with_reducible exact q2 | with_reducible exact q3 | with_reducible exact q4 | with_reducible exact q5 | with_reducible exact q6 | with_reducible exact q7 | with_reducible exact q8 | (as_aux_lemma => kernel_rfl))

theorem countAsks_holds : Rows.FnExactCountAsksSaid :=
  OpenClaim.holds_of_wide 8 Try.f8 rfl rfl rfl rfl rfl rfl rfl ⟨rfl, rfl, rfl, rfl, rfl⟩ rfl rfl rfl rfl rfl (by as_aux_lemma => kernel_rfl) Try.func8 closedCountAsks
    (of_decide_eq_true (by as_aux_lemma => kernel_rfl)) (by unfold Func.isWrapper; first | (rw [if_pos (by decide +kernel)]; kernel_rfl) | (rw [if_neg (by decide +kernel)]; exact ⟨rfl, rfl⟩))
    (fun os started H enc _ => liftedCountAsks os started H enc)

#print axioms countAsks_holds

end Go.Proofs.Ytcefhlkbbipmmaa

