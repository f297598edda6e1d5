/- Chapter 13: SealedOf of both; answers with entries. -/
import Derived.Test.YtannjgdginfgeaaCF0
import Derived.Test.YtannjgdginfgeaaXH
import Derived.Test.YtannjgdginfgeaaWN
import Derived.Test.YtannjgdginfgeaaXC
import Derived.Test.YtannjgdginfgeaaYP
import Derived.Test.YtannjgdginfgeaaZV
import Derived.Laws.StructEq
import Derived.BigQuiet
import Derived.Test.YtannjgdginfgeaaZF
import Derived.Test.YtannjgdginfgeaaCF4
import Derived.Test.YtannjgdginfgeaaWK
import Derived.Test.YtannjgdginfgeaaWR
namespace Go.Proofs.Ytannjgdginfgeaa
open Go.RowKit

/-- an answer with entries that owns its memory -/
def EAns (w w' : World) (e : Ending) (c : Int) (es : List En) : Prop := ∃ (z u : Nat) (S : Hd), e = .returned (.agg #[.int .i64 c, .slice S.1 S.2.1 S.2.2]) ∧ w.heap.size ≤ z ∧ u ≤ w'.heap.size ∧ RowAt w' true z u 6 S.1 S.2.1 S.2.2 (sixs es) ∧ S.2.1 ≤ 1048576 ∧ Below w.heap.size w w'
set_option maxRecDepth 20000 in
set_option maxHeartbeats 2000000 in
theorem soI_is {own : Bool} {lo hi : Nat} (N M Sl : Hd) (xs : List Nod) (ms : List Mal) (es : List En) (w : World) (x : ClAt w own lo hi N M Sl xs ms es) (hs : ClSz N M Sl xs ms 1048576) (c : Int) (E : List En) (hc : cluF (xs.map (·.1)) (ms.map (·.1)) es = c) (hE : (if c = 0 then es else []) = E) :
    Calls Try.prog 24 #[.agg #[.slice N.1 N.2.1 N.2.2, .slice M.1 M.2.1 M.2.2, .slice Sl.1 Sl.2.1 Sl.2.2]] w fun e w' => EAns w w' e c E := by
  have HC : Hid _ := hc
  have HE : Hid _ := hE
  clear hc hE
  go_enter Try.func24, Try.ntmps24
  go_wp2_with (first | ((have g := ob0); clear g; (with_reducible refine alloc_newX 42 [.int .i64 0, .slice none 0 0] (fun _ => by kernel_rfl) ?_); intro b1 W1 N1; have ob1 : w.heap.size ≤ b1 := Nat.le_trans B.size N1.ge; have o0_b1 : b0 < b1 := Nat.lt_of_lt_of_le X0.lt N1.ge; replace X0 := X0.below N1.below; replace c0 := X0.cell; replace B := below_next B N1.below; have X1 := N1.bx; have c1 := X1.cell; have f1 := X1.froz; clear N1) | ((with_reducible refine box_newX 33 [.slice N.1 N.2.1 N.2.2, .slice M.1 M.2.1 M.2.2, .slice Sl.1 Sl.2.1 Sl.2.2] rfl ?_); intro b0 W0 N0; have ob0 : w.heap.size ≤ b0 := N0.ge; have B := N0.below; have X0 := N0.bx; have c0 := X0.cell; clear N0) | fail)
  refine (implClF_is N M Sl xs ms es _ (x.below B) hs c HC.out).mono ?_
  rintro e w1 ⟨rfl, BB⟩
  replace X0 := X0.below BB
  replace c0 := X0.cell
  replace X1 := X1.below BB
  replace c1 := X1.cell
  replace f1 := X1.froz
  replace B := below_next B BB
  clear BB
  by_cases h0 : c = 0
  rotate_left 1
  · have h0' : (c != 0) = true := by simp [h0]
    obtain rfl : E = [] := by rw [← HE.out, if_neg h0]
    go_wp2_with (first | ((with_reducible refine store_midX 42 X1 0 [.int .i64 c, .slice none 0 0] (by simp) (by kernel_rfl) (by simp [Value.oneCell']) rfl rfl ?_); intro V1 S; replace X0 := X0.kept S.kept (by omega); replace c0 := X0.cell; replace X1 : Bx V1 b1 [.int .i64 c, .slice none 0 0] := S.bx; replace c1 := X1.cell; replace f1 := X1.froz; replace B := B.trans (S.kept.below _ (by omega) B.size); clear S))
    refine bodyPost_ret (v := .agg #[.int .i64 c, .slice none 0 0]) (by simp [results, Try.results24, go_sem, *]) rfl ⟨w.heap.size, w.heap.size, (none, 0, 0), rfl, Nat.le_refl _, B.size, RowAt.nilR _ _ _ _ _ _ _, Nat.zero_le _, B⟩
  subst h0
  obtain rfl : E = es := by rw [← HE.out, if_pos rfl]
  go_wp2_with fail
  have hsl : Sl.2.1 ≤ 1048576 := hs.s
  refine (cloneE_z Sl.1 Sl.2.1 Sl.2.2 E _ (x.slog.below B) hsl).mono ?_
  rintro e w2 ⟨ra, rc, z, u, rfl, Gz, _, hR, R, BB⟩
  have oz : w.heap.size ≤ z := Nat.le_trans B.size Gz
  have o0_z : b0 < z := Nat.lt_of_lt_of_le X0.lt Gz
  have o1_z : b1 < z := Nat.lt_of_lt_of_le X1.lt Gz
  clear Gz
  replace X0 := X0.below BB
  replace c0 := X0.cell
  replace X1 := X1.below BB
  replace c1 := X1.cell
  replace f1 := X1.froz
  replace B := below_next B BB
  clear BB
  go_wp2_with (first | ((with_reducible refine store_midX 42 X1 0 [.int .i64 0, .slice ra Sl.2.1 rc] (by simp) (by kernel_rfl) (by simp [Value.oneCell']) rfl rfl ?_); intro V1 S; replace X0 := X0.kept S.kept (by omega); replace c0 := X0.cell; replace X1 : Bx V1 b1 [.int .i64 0, .slice ra Sl.2.1 rc] := S.bx; replace c1 := X1.cell; replace f1 := X1.froz; replace R := R.kept S.kept (by omega); replace hR := Nat.le_trans hR S.kept.size; replace B := B.trans (S.kept.below _ (by omega) B.size); clear S))
  refine bodyPost_ret (v := .agg #[.int .i64 0, .slice ra Sl.2.1 rc]) (by simp [results, Try.results24, go_sem, *]) rfl ⟨z, u, (ra, Sl.2.1, rc), rfl, oz, hR, R, hsl, B⟩
set_option maxRecDepth 20000 in
set_option maxHeartbeats 2000000 in
theorem soM_is {own : Bool} {lo hi : Nat} (N M Sl : Hd) (xs : List Nod) (ms : List Mal) (es : List En) (w : World) (x : ClAt w own lo hi N M Sl xs ms es) (hs : ClSz N M Sl xs ms 1048576) (c : Int) (E : List En) (hc : cluF (xs.map (·.1)) (ms.map (·.1)) es = c) (hE : (if c = 0 then es else []) = E) :
    Calls Try.prog 23 #[.agg #[.slice N.1 N.2.1 N.2.2, .slice M.1 M.2.1 M.2.2, .slice Sl.1 Sl.2.1 Sl.2.2]] w fun e w' => EAns w w' e c E := by
  have HC : Hid _ := hc
  have HE : Hid _ := hE
  clear hc hE
  go_enter Try.func23, Try.ntmps23
  go_wp2_with (first | ((have g := ob0); clear g; (with_reducible refine alloc_newX 42 [.int .i64 0, .slice none 0 0] (fun _ => by kernel_rfl) ?_); intro b1 W1 N1; have ob1 : w.heap.size ≤ b1 := Nat.le_trans B.size N1.ge; have o0_b1 : b0 < b1 := Nat.lt_of_lt_of_le X0.lt N1.ge; replace X0 := X0.below N1.below; replace c0 := X0.cell; replace B := below_next B N1.below; have X1 := N1.bx; have c1 := X1.cell; have f1 := X1.froz; clear N1) | ((with_reducible refine box_newX 33 [.slice N.1 N.2.1 N.2.2, .slice M.1 M.2.1 M.2.2, .slice Sl.1 Sl.2.1 Sl.2.2] rfl ?_); intro b0 W0 N0; have ob0 : w.heap.size ≤ b0 := N0.ge; have B := N0.below; have X0 := N0.bx; have c0 := X0.cell; clear N0) | fail)
  refine (l11Fault_is b0 N M Sl xs ms es _ X0 (x.below B) hs c HC.out).mono ?_
  rintro e w1 ⟨rfl, BB⟩
  replace X0 := X0.below BB
  replace c0 := X0.cell
  replace X1 := X1.below BB
  replace c1 := X1.cell
  replace f1 := X1.froz
  replace B := below_next B BB
  clear BB
  by_cases h0 : c = 0
  rotate_left 1
  · have h0' : (c != 0) = true := by simp [h0]
    obtain rfl : E = [] := by rw [← HE.out, if_neg h0]
    go_wp2_with (first | ((with_reducible refine store_midX 42 X1 0 [.int .i64 c, .slice none 0 0] (by simp) (by kernel_rfl) (by simp [Value.oneCell']) rfl rfl ?_); intro V1 S; replace X0 := X0.kept S.kept (by omega); replace c0 := X0.cell; replace X1 : Bx V1 b1 [.int .i64 c, .slice none 0 0] := S.bx; replace c1 := X1.cell; replace f1 := X1.froz; replace B := B.trans (S.kept.below _ (by omega) B.size); clear S))
    refine bodyPost_ret (v := .agg #[.int .i64 c, .slice none 0 0]) (by simp [results, Try.results23, go_sem, *]) rfl ⟨w.heap.size, w.heap.size, (none, 0, 0), rfl, Nat.le_refl _, B.size, RowAt.nilR _ _ _ _ _ _ _, Nat.zero_le _, B⟩
  subst h0
  obtain rfl : E = es := by rw [← HE.out, if_pos rfl]
  go_wp2_with fail
  have hsl : Sl.2.1 ≤ 1048576 := hs.s
  refine (l8Copy_z Sl.1 Sl.2.1 Sl.2.2 E _ (x.slog.below B) hsl).mono ?_
  rintro e w2 ⟨ra, rc, z, u, rfl, Gz, _, hR, R, BB⟩
  have oz : w.heap.size ≤ z := Nat.le_trans B.size Gz
  have o0_z : b0 < z := Nat.lt_of_lt_of_le X0.lt Gz
  have o1_z : b1 < z := Nat.lt_of_lt_of_le X1.lt Gz
  clear Gz
  replace X0 := X0.below BB
  replace c0 := X0.cell
  replace X1 := X1.below BB
  replace c1 := X1.cell
  replace f1 := X1.froz
  replace B := below_next B BB
  clear BB
  go_wp2_with (first | ((with_reducible refine store_midX 42 X1 0 [.int .i64 0, .slice ra Sl.2.1 rc] (by simp) (by kernel_rfl) (by simp [Value.oneCell']) rfl rfl ?_); intro V1 S; replace X0 := X0.kept S.kept (by omega); replace c0 := X0.cell; replace X1 : Bx V1 b1 [.int .i64 0, .slice ra Sl.2.1 rc] := S.bx; replace c1 := X1.cell; replace f1 := X1.froz; replace R := R.kept S.kept (by omega); replace hR := Nat.le_trans hR S.kept.size; replace B := B.trans (S.kept.below _ (by omega) B.size); clear S))
  refine bodyPost_ret (v := .agg #[.int .i64 0, .slice ra Sl.2.1 rc]) (by simp [results, Try.results23, go_sem, *]) rfl ⟨z, u, (ra, Sl.2.1, rc), rfl, oz, hR, R, hsl, B⟩
set_option maxRecDepth 20000 in
set_option maxHeartbeats 2000000 in
theorem eqEAns_yes {o1 o2 : Bool} {l1 u1 l2 u2 : Nat} (c : Int) (S T : Hd) (es : List En) (w : World) (h1 : RowAt w o1 l1 u1 6 S.1 S.2.1 S.2.2 (sixs es)) (h2 : RowAt w o2 l2 u2 6 T.1 T.2.1 T.2.2 (sixs es)) (hn : S.2.1 ≤ 1048576) :
    Calls Try.prog 25 #[.agg #[.int .i64 c, .slice S.1 S.2.1 S.2.2], .agg #[.int .i64 c, .slice T.1 T.2.1 T.2.2]] w fun e w' => e = .returned (.bool true) ∧ Below w.heap.size w w' := by
  have e0 : (c != c) = false := by simp
  go_enter Try.func25, Try.ntmps25
  go_wp2_with (first | ((have g := ob0); clear g; (with_reducible refine box_newX 42 [.int .i64 c, .slice T.1 T.2.1 T.2.2] rfl ?_); intro b1 W1 N1; have ob1 : w.heap.size ≤ b1 := Nat.le_trans B.size N1.ge; have o0_b1 : b0 < b1 := Nat.lt_of_lt_of_le X0.lt N1.ge; replace X0 := X0.below N1.below; replace c0 := X0.cell; replace B := below_next B N1.below; have X1 := N1.bx; have c1 := X1.cell; clear N1) | ((with_reducible refine box_newX 42 [.int .i64 c, .slice S.1 S.2.1 S.2.2] rfl ?_); intro b0 W0 N0; have ob0 : w.heap.size ≤ b0 := N0.ge; have B := N0.below; have X0 := N0.bx; have c0 := X0.cell; clear N0) | fail)
  refine (eqEntries_yes S.1 T.1 S.2.1 S.2.2 T.2.1 T.2.2 es _ (h1.below B) (h2.below B) (by omega)).mono ?_
  rintro e w1 ⟨rfl, BB⟩
  replace X0 := X0.below BB
  replace c0 := X0.cell
  replace X1 := X1.below BB
  replace c1 := X1.cell
  replace B := below_next B BB
  clear BB
  go_wp2
  go_ret
  exact ⟨rfl, B⟩
set_option maxRecDepth 20000 in
set_option maxHeartbeats 2000000 in
theorem markEAns_any {lo hi : Nat} (c : Int) (S : Hd) (es : List En) (k : Int) (w : World) (h : RowAt w true lo hi 6 S.1 S.2.1 S.2.2 (sixs es)) (hn : S.2.1 ≤ 1048576) (hk0 : 0 ≤ k) (hk1 : k ≤ 1000000) :
    Calls Try.prog 27 #[.agg #[.int .i64 c, .slice S.1 S.2.1 S.2.2], .int .i64 k] w fun e w' => e = .returned (.int .i64 (k + 6 * S.2.1)) ∧ RowAt w' true lo hi 6 S.1 S.2.1 S.2.2 (sixs (marks6 k S.2.1)) ∧ Kept lo hi w w' := by
  go_enter Try.func27, Try.ntmps27
  go_wp2_with (first | ((with_reducible refine box_newX 42 [.int .i64 c, .slice S.1 S.2.1 S.2.2] rfl ?_); intro b0 W0 N0; have ob0 : w.heap.size ≤ b0 := N0.ge; have B := N0.below; have X0 := N0.bx; have c0 := X0.cell; clear N0) | fail)
  have kk : Kept lo hi w W0 := (KeptS.below (S := fun q => lo ≤ q ∧ q < hi) B).kept (fun q hq => hq)
  refine (markEntries_any S.1 S.2.1 S.2.2 es k _ (h.below B) (by omega) hk0 (by omega)).mono ?_
  rintro e w1 ⟨rfl, R, KS⟩
  replace kk := kk.trans KS
  clear KS X0 c0 B h
  go_wp2
  go_ret
  exact ⟨rfl, R, kk⟩
set_option maxRecDepth 20000 in
set_option maxHeartbeats 2000000 in
theorem heldEAns_any {o : Bool} {lo hi : Nat} (c : Int) (S : Hd) (k : Int) (w : World) (h : RowAt w o lo hi 6 S.1 S.2.1 S.2.2 (sixs (marks6 k S.2.1))) (hn : S.2.1 ≤ 1048576) (hk0 : 0 ≤ k) (hk1 : k ≤ 1000000) :
    Calls Try.prog 28 #[.agg #[.int .i64 c, .slice S.1 S.2.1 S.2.2], .int .i64 k] w fun e w' => e = .returned (.int .i64 (k + 6 * S.2.1)) ∧ Below w.heap.size w w' := by
  have hneg : ¬ (k + 6 * (S.2.1 : Int)) < 0 := by omega
  go_enter Try.func28, Try.ntmps28
  go_wp2_with (first | ((with_reducible refine box_newX 42 [.int .i64 c, .slice S.1 S.2.1 S.2.2] rfl ?_); intro b0 W0 N0; have ob0 : w.heap.size ≤ b0 := N0.ge; have B := N0.below; have X0 := N0.bx; have c0 := X0.cell; clear N0) | fail)
  refine (heldEntries_any S.1 S.2.1 S.2.2 k _ (h.below B) (by omega) hk0 (by omega)).mono ?_
  rintro e w1 ⟨rfl, rfl⟩
  go_wp2
  go_ret
  exact ⟨rfl, B⟩

end Go.Proofs.Ytannjgdginfgeaa
