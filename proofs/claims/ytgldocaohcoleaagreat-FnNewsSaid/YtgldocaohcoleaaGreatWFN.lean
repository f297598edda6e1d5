/- Chapter 9: empty lists marked and held by the laws; answers that have no list but Oks. -/
import Derived.Test.YtgldocaohcoleaaGreatQAFN
import Derived.Test.YtgldocaohcoleaaGreatQABN
import Derived.Test.YtgldocaohcoleaaGreatWCN
set_option maxRecDepth 20000
set_option maxHeartbeats 16000000
namespace Go.Proofs.YtgldocaohcoleaaGreat
open Go.RowKit
theorem rep_oks {w : World} {own : Bool} {lo hi : Nat} {oa : Option Addr} {on oc : Nat} {r : Rep} (h1 : r.log = []) (h2 : r.asks = []) (h3 : r.doers = []) (R : RowAt w own lo hi 1 oa on oc (ints r.oks)) : RepAt w own lo hi ⟨(none, 0, 0), (oa, on, oc), (none, 0, 0), (none, 0, 0), fun _ => (none, 0, 0)⟩ r := by
 refine ⟨by rw [h1]; exact RowAt.nilR _ _ _ _ _ _ _, R, by rw [h2]; exact RowAt.nilR _ _ _ _ _ _ _, by rw [h3]; exact ⟨rfl, ElsAt.nil _ _ _ _ _ _ _ _ _ _⟩, fun _ => ⟨fun x h => absurd rfl h.1, fun x h => absurd rfl h.1, fun x h => absurd rfl h.1, fun x _ h => absurd rfl h.1, fun x _ h => ?_, fun x h => absurd rfl h.1⟩⟩
 rcases h with h | ⟨i, hi, _⟩
 ·exact absurd rfl h.1
 ·exact absurd hi (Nat.not_lt_zero _)
def newC (id size : Int) : Int := if (1 ≤ size ∧ size ≤ 5) ∧ (0 ≤ id ∧ id ≤ size - 1) then 0 else 3
def newRep (id size : Int) : Rep := if (1 ≤ size ∧ size ≤ 5) ∧ (0 ≤ id ∧ id ≤ size - 1) then ⟨id, size, 0, true, 0, [], 0, if id = 0 then List.replicate size.toNat 0 else [], [], []⟩ else rep0
theorem becomeNormal_first (m : Nat) (hm : 1 ≤ m ∧ m ≤ 5) (b : Nat) (w : World) (X : Bx w b [.int .i64 0, .int .i64 m, .int .i64 0, .bool false, .int .i64 0, .slice none 0 0, .int .i64 0, .slice none 0 0, .slice none 0 0, .slice none 0 0, .slice none 0 0]) :
  Calls Tryz.prog 115 #[.pointer (some ⟨b, 0, none⟩)] w fun e w' => e = .returned (.tuple #[]) ∧ ∃ g, w.heap.size ≤ g ∧ g < w'.heap.size ∧ Bx w' b [.int .i64 0, .int .i64 m, .int .i64 0, .bool true, .int .i64 0, .slice none 0 0, .int .i64 0, .slice (some ⟨g, 0, none⟩) m m, .slice none 0 0, .slice none 0 0, .slice none 0 0] ∧ RowAt w' true g (g + 1) 1 (some ⟨g, 0, none⟩) m m (ints (List.replicate m 0)) ∧ Kept b (b + 1) w w' := by
 obtain ⟨i0, hi0, hi1, hi2, hi3⟩ := info_parts Tryz.info2'
 have c := X.cell
 have f := X.froz
 have hbl := X.lt
 go_enter Tryz.func115, Tryz.ntmps115
 go_wp2_with (first | ((with_reducible refine store_oneX 63 X 9 (.slice none 0 0) (by simp) (by kernel_rfl) rfl rfl rfl ?_); intro V5 S; replace X : Bx V5 b [.int .i64 0, .int .i64 m, .int .i64 0, .bool true, .int .i64 0, .slice none 0 0, .int .i64 0, .slice none 0 0, .slice none 0 0, .slice none 0 0, .slice none 0 0] := S.bx; replace c := X.cell; replace f := X.froz; replace K := K.trans S.kept; clear S) | ((with_reducible refine store_oneX 62 X 8 (.slice none 0 0) (by simp) (by kernel_rfl) rfl rfl rfl ?_); intro V4 S; replace X : Bx V4 b [.int .i64 0, .int .i64 m, .int .i64 0, .bool true, .int .i64 0, .slice none 0 0, .int .i64 0, .slice none 0 0, .slice none 0 0, .slice none 0 0, .slice none 0 0] := S.bx; replace c := X.cell; replace f := X.froz; replace K := K.trans S.kept; clear S) | ((with_reducible refine store_oneX 61 X 7 (.slice none 0 0) (by simp) (by kernel_rfl) rfl rfl rfl ?_); intro V3 S; replace X : Bx V3 b [.int .i64 0, .int .i64 m, .int .i64 0, .bool true, .int .i64 0, .slice none 0 0, .int .i64 0, .slice none 0 0, .slice none 0 0, .slice none 0 0, .slice none 0 0] := S.bx; replace c := X.cell; replace f := X.froz; replace K := K.trans S.kept; clear S) | ((with_reducible refine store_oneX 2 X 4 (.int .i64 0) (by simp) (by kernel_rfl) rfl rfl rfl ?_); intro V2 S; replace X : Bx V2 b [.int .i64 0, .int .i64 m, .int .i64 0, .bool true, .int .i64 0, .slice none 0 0, .int .i64 0, .slice none 0 0, .slice none 0 0, .slice none 0 0, .slice none 0 0] := S.bx; replace c := X.cell; replace f := X.froz; replace K := K.trans S.kept; clear S) | ((with_reducible refine store_oneX 4 X 3 (.bool true) (by simp) (by kernel_rfl) rfl rfl rfl ?_); intro V1 S; replace X : Bx V1 b [.int .i64 0, .int .i64 m, .int .i64 0, .bool true, .int .i64 0, .slice none 0 0, .int .i64 0, .slice none 0 0, .slice none 0 0, .slice none 0 0, .slice none 0 0] := S.bx; replace c := X.cell; replace f := X.froz; have K := S.kept; clear S) | fail)
 refine (leads_is' ⟨0, m, 0, true, 0, [], 0, [], [], []⟩ ⟨(none, 0, 0), (none, 0, 0), (none, 0, 0), (none, 0, 0), fun _ => (none, 0, 0)⟩ (by simp only; omega) (by simp only; omega) _ true (by unfold leadsB; simp)).mono ?_
 rintro e w1 ⟨rfl, BB⟩
 replace X := X.below BB
 replace c := X.cell
 replace f := X.froz
 replace K := K.trans (Kept.of_below BB)
 clear BB
 go_wp2_with (first | (at_make; refine wpList_make_full _ rfl _ _ 61 rfl w1.heap.size 2 i0 (.int .i64 0) 1 Tryz.underlying61 hi0 hi1 hi2 _ _ _ _ m rfl rfl rfl rfl ?b1 ?b2 ?b3 ?_))
 case b1 => rw [hi3]; omega
 case b2 => unfold maxLen; omega
 case b3 => exact Nat.le_refl _
 intro w2 hown hgrow
 have BB : Below w1.heap.size w1 w2 := (Below.refl _ _).grown hgrow (Nat.le_refl _) (fun k hk => by cases hk)
 have hown' : w2.ownsRow w1.heap.size 2 1 (.slice (some ⟨w1.heap.size, 0, none⟩) m m) m (ints (List.replicate m 0)) := by simpa [Value.cells, toList_madeCells_one, ints] using hown
 have R := (RowAt.of_owns hown' (Nat.le_refl _)).tightG
 have lR := (owns_lt hown').2
 obtain ⟨g, hgl⟩ : ∃ g, g = w1.heap.size := ⟨_, rfl⟩
 rw [← hgl] at R lR
 rw [← hgl]
 have hbg : b < g := by rw [hgl]; exact X.lt
 have hwg : w.heap.size ≤ g := by rw [hgl]; exact K.size
 clear hown hown' hgrow hgl
 replace X := X.below BB
 replace c := X.cell
 replace f := X.froz
 replace K := K.trans (Kept.of_below BB)
 clear BB
 go_wp2_with (first | ((with_reducible refine store_oneX 61 X 7 (.slice (some ⟨g, 0, none⟩) m m) (by simp) (by kernel_rfl) rfl rfl rfl ?_); intro V6 S; replace X : Bx V6 b [.int .i64 0, .int .i64 m, .int .i64 0, .bool true, .int .i64 0, .slice none 0 0, .int .i64 0, .slice (some ⟨g, 0, none⟩) m m, .slice none 0 0, .slice none 0 0, .slice none 0 0] := S.bx; replace K := K.trans S.kept; replace R := R.kept S.kept (by omega); replace lR := Nat.lt_of_lt_of_le lR S.kept.size; clear S))
 refine bodyPost_end (results_none rfl _ _ _) rfl ⟨rfl, g, hwg, lR, X, R, K⟩
theorem becomeNormal_other (id : Int) (hid : 1 ≤ id ∧ id ≤ 4) (m : Nat) (hm : 1 ≤ m ∧ m ≤ 5) (b : Nat) (w : World) (X : Bx w b [.int .i64 id, .int .i64 m, .int .i64 0, .bool false, .int .i64 0, .slice none 0 0, .int .i64 0, .slice none 0 0, .slice none 0 0, .slice none 0 0, .slice none 0 0]) :
  Calls Tryz.prog 115 #[.pointer (some ⟨b, 0, none⟩)] w fun e w' => e = .returned (.tuple #[]) ∧ Bx w' b [.int .i64 id, .int .i64 m, .int .i64 0, .bool true, .int .i64 0, .slice none 0 0, .int .i64 0, .slice none 0 0, .slice none 0 0, .slice none 0 0, .slice none 0 0] ∧ Kept b (b + 1) w w' := by
 have c := X.cell
 have f := X.froz
 have hbl := X.lt
 go_enter Tryz.func115, Tryz.ntmps115
 go_wp2_with (first | ((with_reducible refine store_oneX 63 X 9 (.slice none 0 0) (by simp) (by kernel_rfl) rfl rfl rfl ?_); intro V5 S; replace X : Bx V5 b [.int .i64 id, .int .i64 m, .int .i64 0, .bool true, .int .i64 0, .slice none 0 0, .int .i64 0, .slice none 0 0, .slice none 0 0, .slice none 0 0, .slice none 0 0] := S.bx; replace c := X.cell; replace f := X.froz; replace K := K.trans S.kept; clear S) | ((with_reducible refine store_oneX 62 X 8 (.slice none 0 0) (by simp) (by kernel_rfl) rfl rfl rfl ?_); intro V4 S; replace X : Bx V4 b [.int .i64 id, .int .i64 m, .int .i64 0, .bool true, .int .i64 0, .slice none 0 0, .int .i64 0, .slice none 0 0, .slice none 0 0, .slice none 0 0, .slice none 0 0] := S.bx; replace c := X.cell; replace f := X.froz; replace K := K.trans S.kept; clear S) | ((with_reducible refine store_oneX 61 X 7 (.slice none 0 0) (by simp) (by kernel_rfl) rfl rfl rfl ?_); intro V3 S; replace X : Bx V3 b [.int .i64 id, .int .i64 m, .int .i64 0, .bool true, .int .i64 0, .slice none 0 0, .int .i64 0, .slice none 0 0, .slice none 0 0, .slice none 0 0, .slice none 0 0] := S.bx; replace c := X.cell; replace f := X.froz; replace K := K.trans S.kept; clear S) | ((with_reducible refine store_oneX 2 X 4 (.int .i64 0) (by simp) (by kernel_rfl) rfl rfl rfl ?_); intro V2 S; replace X : Bx V2 b [.int .i64 id, .int .i64 m, .int .i64 0, .bool true, .int .i64 0, .slice none 0 0, .int .i64 0, .slice none 0 0, .slice none 0 0, .slice none 0 0, .slice none 0 0] := S.bx; replace c := X.cell; replace f := X.froz; replace K := K.trans S.kept; clear S) | ((with_reducible refine store_oneX 4 X 3 (.bool true) (by simp) (by kernel_rfl) rfl rfl rfl ?_); intro V1 S; replace X : Bx V1 b [.int .i64 id, .int .i64 m, .int .i64 0, .bool true, .int .i64 0, .slice none 0 0, .int .i64 0, .slice none 0 0, .slice none 0 0, .slice none 0 0, .slice none 0 0] := S.bx; replace c := X.cell; replace f := X.froz; have K := S.kept; clear S) | fail)
 refine (leads_is' ⟨id, m, 0, true, 0, [], 0, [], [], []⟩ ⟨(none, 0, 0), (none, 0, 0), (none, 0, 0), (none, 0, 0), fun _ => (none, 0, 0)⟩ (by simp only; omega) (by simp only; omega) _ false (by unfold leadsB; simp; omega)).mono ?_
 rintro e w1 ⟨rfl, BB⟩
 replace X := X.below BB
 replace c := X.cell
 replace f := X.froz
 replace K := K.trans (Kept.of_below BB)
 clear BB
 go_wp2
 refine bodyPost_end (results_none rfl _ _ _) rfl ⟨rfl, X, K⟩
theorem answer_is (v0 v1 v2 : Int) (v3 : Bool) (v4 : Int) (v5 : Hd) (v6 : Int) (v7 v8 v9 v10 : Hd) (b : Nat) (w : World) (Y : Bx w b [.int .i64 v0, .int .i64 v1, .int .i64 v2, .bool v3, .int .i64 v4, .slice v5.1 v5.2.1 v5.2.2, .int .i64 v6, .slice v7.1 v7.2.1 v7.2.2, .slice v8.1 v8.2.1 v8.2.2, .slice v9.1 v9.2.1 v9.2.2, .slice v10.1 v10.2.1 v10.2.2]) :
  Calls Tryz.prog 111 #[.pointer (some ⟨b, 0, none⟩)] w fun e w' => e = .returned (.agg #[.int .i64 0, .int .i64 v0, .int .i64 v1, .int .i64 v2, .bool v3, .int .i64 v4, .slice v5.1 v5.2.1 v5.2.2, .int .i64 v6, .slice v7.1 v7.2.1 v7.2.2, .slice v8.1 v8.2.1 v8.2.2, .slice v9.1 v9.2.1 v9.2.2, .slice v10.1 v10.2.1 v10.2.2]) ∧ Below w.heap.size w w' := by
 have hbw := Y.lt
 go_enter Tryz.func111, Tryz.ntmps111
 go_wp2_with (first | ((with_reducible refine alloc_newX 68 [.int .i64 0, .int .i64 0, .int .i64 0, .int .i64 0, .bool false, .int .i64 0, .slice none 0 0, .int .i64 0, .slice none 0 0, .slice none 0 0, .slice none 0 0, .slice none 0 0] (fun _ => by kernel_rfl) ?_); intro b0 W0 N0; have ob0 := N0.ge; have B := N0.below; have X0 := N0.bx; have c0 := X0.cell; have f0 := X0.froz; clear N0) | fail)
 replace Y := Y.below B
 have DQ : Below W0.heap.size W0 W0.drew := (Below.refl _ _).drew
 replace X0 := X0.below DQ
 replace c0 := X0.cell
 replace f0 := X0.froz
 replace B := below_next B DQ
 clear DQ
 replace Y := Y.below (show Below W0.heap.size W0 W0.drew from (Below.refl _ _).drew)
 have cy := Y.cell
 refine wp_region_held_drew (S := (fun w' => ∀ k : Nat, w'.cell? ⟨b, k, none⟩ = [.int .i64 v0, .int .i64 v1, .int .i64 v2, .bool v3, .int .i64 v4, .slice v5.1 v5.2.1 v5.2.2, .int .i64 v6, .slice v7.1 v7.2.1 v7.2.2, .slice v8.1 v8.2.1 v8.2.2, .slice v9.1 v9.2.1 v9.2.2, .slice v10.1 v10.2.1 v10.2.2][k]?)) (by kernel_rfl) cy (fun hZq => ?_)
 refine tk 0 hZq ?_
 refine tk 1 hZq ?_
 refine tk 2 hZq ?_
 refine tk 3 hZq ?_
 refine tk 4 hZq ?_
 refine tk 5 hZq ?_
 refine tk 6 hZq ?_
 refine tk 7 hZq ?_
 refine tk 8 hZq ?_
 refine rd1 9 (fun KK hKK => ?_)
 refine step_midX 68 X0 0 [.int .i64 0, .int .i64 v0, .int .i64 v1, .int .i64 v2, .bool v3, .int .i64 v4, .slice v5.1 v5.2.1 v5.2.2, .int .i64 v6, .slice v7.1 v7.2.1 v7.2.2, .slice v8.1 v8.2.1 v8.2.2, .slice v9.1 v9.2.1 v9.2.2, .slice v10.1 v10.2.1 v10.2.2] (by simp) (by kernel_rfl) (by simp [Value.oneCell']) rfl rfl ?_
 intro V1 S
 have cy := (Y.kept S.kept (by have := Y.lt; omega)).cell
 replace X0 : Bx V1 b0 [.int .i64 0, .int .i64 v0, .int .i64 v1, .int .i64 v2, .bool v3, .int .i64 v4, .slice v5.1 v5.2.1 v5.2.2, .int .i64 v6, .slice v7.1 v7.2.1 v7.2.2, .slice v8.1 v8.2.1 v8.2.2, .slice v9.1 v9.2.1 v9.2.2, .slice v10.1 v10.2.1 v10.2.2] := S.bx
 replace c0 := X0.cell
 replace f0 := X0.froz
 replace B := bkp B S.kept
 clear S
 clear hZq
 refine hKK _ _ cy (fun hZq => ?_)
 clear hKK KK
 refine wpAnyH_done (by kernel_rfl) ?_ _
 go_wp2
 refine bodyPost_ret (v := .agg #[.int .i64 0, .int .i64 v0, .int .i64 v1, .int .i64 v2, .bool v3, .int .i64 v4, .slice v5.1 v5.2.1 v5.2.2, .int .i64 v6, .slice v7.1 v7.2.1 v7.2.2, .slice v8.1 v8.2.1 v8.2.2, .slice v9.1 v9.2.1 v9.2.2, .slice v10.1 v10.2.1 v10.2.2]) (by simp [results, Tryz.results111, go_sem, *]) rfl ⟨rfl, B⟩
theorem implNewR_is (id size : Int) (w : World) (c : Int) (q : Rep) (hc : newC id size = c) (hq : newRep id size = q) : Calls Tryz.prog 51 #[.int .i64 id, .int .i64 size] w fun e w' => ∃ oa on oc, e = .returned (.agg #[.int .i64 c, .int .i64 q.id, .int .i64 q.size, .int .i64 q.view, .bool q.normal, .int .i64 q.last, .slice none 0 0, .int .i64 q.commit, .slice oa on oc, .slice none 0 0, .slice none 0 0, .slice none 0 0]) ∧ on ≤ 5 ∧ RowAt w' true w.heap.size w'.heap.size 1 oa on oc (ints q.oks) ∧ Below w.heap.size w w' := by
 unfold newC at hc
 unfold newRep at hq
 by_cases hs : 1 ≤ size ∧ size ≤ 5
 rotate_left 1
 ·rw [if_neg (by omega)] at hc hq
  subst hc
  subst hq
  go_enter Tryz.func51, Tryz.ntmps51
  go_wp2_with (first | ((with_reducible refine alloc_newX 68 [.int .i64 0, .int .i64 0, .int .i64 0, .int .i64 0, .bool false, .int .i64 0, .slice none 0 0, .int .i64 0, .slice none 0 0, .slice none 0 0, .slice none 0 0, .slice none 0 0] (fun _ => by kernel_rfl) ?_); intro b0 W0 N0; have ob0 := N0.ge; have B := N0.below; have X0 := N0.bx; have c0 := X0.cell; have f0 := X0.froz; clear N0) | fail)
  refine (isSize_is size _ false (by simp only [decide_eq_false_eq]; exact hs)).mono ?_
  rintro e W9 ⟨rfl, rfl⟩
  go_wp2_with (first | ((with_reducible refine store_midX 68 X0 0 [.int .i64 3, .int .i64 0, .int .i64 0, .int .i64 0, .bool false, .int .i64 0, .slice none 0 0, .int .i64 0, .slice none 0 0, .slice none 0 0, .slice none 0 0, .slice none 0 0] (by simp) (by kernel_rfl) (by simp [Value.oneCell']) rfl rfl ?_); intro V1 S; replace X0 : Bx V1 b0 [.int .i64 3, .int .i64 0, .int .i64 0, .int .i64 0, .bool false, .int .i64 0, .slice none 0 0, .int .i64 0, .slice none 0 0, .slice none 0 0, .slice none 0 0, .slice none 0 0] := S.bx; replace c0 := X0.cell; replace f0 := X0.froz; replace B := bkp B S.kept; clear S))
  refine bodyPost_ret (v := .agg #[.int .i64 3, .int .i64 0, .int .i64 0, .int .i64 0, .bool false, .int .i64 0, .slice none 0 0, .int .i64 0, .slice none 0 0, .slice none 0 0, .slice none 0 0, .slice none 0 0]) (by simp [results, Tryz.results51, go_sem, *]) rfl ⟨none, 0, 0, rfl, by omega, RowAt.nilR _ _ _ _ _ _ _, B⟩
 by_cases hi : 0 ≤ id ∧ id ≤ size - 1
 rotate_left 1
 ·rw [if_neg (by omega)] at hc hq
  subst hc
  subst hq
  go_enter Tryz.func51, Tryz.ntmps51
  go_wp2_with (first | ((with_reducible refine alloc_newX 68 [.int .i64 0, .int .i64 0, .int .i64 0, .int .i64 0, .bool false, .int .i64 0, .slice none 0 0, .int .i64 0, .slice none 0 0, .slice none 0 0, .slice none 0 0, .slice none 0 0] (fun _ => by kernel_rfl) ?_); intro b0 W0 N0; have ob0 := N0.ge; have B := N0.below; have X0 := N0.bx; have c0 := X0.cell; have f0 := X0.froz; clear N0) | fail)
  refine (isSize_is size _ true (by simp only [decide_eq_true_eq]; exact hs)).mono ?_
  rintro e W9 ⟨rfl, rfl⟩
  go_wp2_with fail
  refine (isIdOf_is size id hs _ false (by simp only [decide_eq_false_eq]; exact hi)).mono ?_
  rintro e W8 ⟨rfl, rfl⟩
  go_wp2_with (first | ((with_reducible refine store_midX 68 X0 0 [.int .i64 3, .int .i64 0, .int .i64 0, .int .i64 0, .bool false, .int .i64 0, .slice none 0 0, .int .i64 0, .slice none 0 0, .slice none 0 0, .slice none 0 0, .slice none 0 0] (by simp) (by kernel_rfl) (by simp [Value.oneCell']) rfl rfl ?_); intro V1 S; replace X0 : Bx V1 b0 [.int .i64 3, .int .i64 0, .int .i64 0, .int .i64 0, .bool false, .int .i64 0, .slice none 0 0, .int .i64 0, .slice none 0 0, .slice none 0 0, .slice none 0 0, .slice none 0 0] := S.bx; replace c0 := X0.cell; replace f0 := X0.froz; replace B := bkp B S.kept; clear S))
  refine bodyPost_ret (v := .agg #[.int .i64 3, .int .i64 0, .int .i64 0, .int .i64 0, .bool false, .int .i64 0, .slice none 0 0, .int .i64 0, .slice none 0 0, .slice none 0 0, .slice none 0 0, .slice none 0 0]) (by simp [results, Tryz.results51, go_sem, *]) rfl ⟨none, 0, 0, rfl, by omega, RowAt.nilR _ _ _ _ _ _ _, B⟩
 rw [if_pos ⟨hs, hi⟩] at hc hq
 subst hc
 subst hq
 obtain ⟨m, rfl⟩ : ∃ m : Nat, size = m := ⟨size.toNat, by omega⟩
 obtain ⟨i0, hi0, hi1, hi2, hi3⟩ := info_parts Tryz.info2'
 have hmm : ((m : Int)).toNat = m := by simp
 rw [hmm]
 clear hmm
 by_cases h0 : id = 0
 ·subst h0
  rw [if_pos rfl]
  go_enter Tryz.func51, Tryz.ntmps51
  go_wp2_with (first | ((with_reducible refine alloc_newX 68 [.int .i64 0, .int .i64 0, .int .i64 0, .int .i64 0, .bool false, .int .i64 0, .slice none 0 0, .int .i64 0, .slice none 0 0, .slice none 0 0, .slice none 0 0, .slice none 0 0] (fun _ => by kernel_rfl) ?_); intro b0 W0 N0; have ob0 := N0.ge; have B := N0.below; have X0 := N0.bx; have c0 := X0.cell; have f0 := X0.froz; clear N0) | fail)
  refine (isSize_is m _ true (by simp only [decide_eq_true_eq]; exact hs)).mono ?_
  rintro e W9 ⟨rfl, rfl⟩
  go_wp2_with fail
  refine (isIdOf_is m 0 hs _ true (by simp only [decide_eq_true_eq]; exact hi)).mono ?_
  rintro e W8 ⟨rfl, rfl⟩
  go_wp2_with (first | ((have g := ob0); clear g; (with_reducible refine box_newX 145 [.int .i64 0, .int .i64 m, .int .i64 0, .bool false, .int .i64 0, .slice none 0 0, .int .i64 0, .slice none 0 0, .slice none 0 0, .slice none 0 0, .slice none 0 0] rfl ?_); intro b1 W1 N1; have ob1 := Nat.le_trans B.size N1.ge; have o0_b1 := ltl X0.lt N1.ge; replace X0 := X0.below N1.below; replace c0 := X0.cell; replace f0 := X0.froz; replace B := below_next B N1.below; have X1 := N1.bx; have c1 := X1.cell; have f1 := X1.froz; clear N1) | fail)
  refine (becomeNormal_first m (by omega) b1 _ X1).mono ?_
  rintro e w1 ⟨rfl, g, hg1, lR, X1', R, K⟩
  have obg : b1 < g := Nat.lt_of_lt_of_le X1.lt hg1
  have o0g : b0 < g := Nat.lt_of_lt_of_le X0.lt hg1
  have hwg : w.heap.size ≤ g := Nat.le_trans B.size hg1
  replace X0 := X0.kept K (by omega)
  replace c0 := X0.cell
  replace f0 := X0.froz
  replace X1 := X1'
  clear X1'
  replace c1 := X1.cell
  replace f1 := X1.froz
  replace B := B.trans (K.below _ (by omega) B.size)
  clear K
  go_wp2_with fail
  refine (answer_is 0 m 0 true 0 (none, 0, 0) 0 (some ⟨g, 0, none⟩, m, m) (none, 0, 0) (none, 0, 0) (none, 0, 0) b1 _ X1).mono ?_
  rintro e w2 ⟨rfl, BB⟩
  replace X0 := X0.below BB
  replace c0 := X0.cell
  replace f0 := X0.froz
  replace X1 := X1.below BB
  replace c1 := X1.cell
  replace f1 := X1.froz
  replace R := R.below BB
  replace lR := Nat.lt_of_lt_of_le lR BB.size
  replace B := below_next B BB
  clear BB
  go_wp2_with (first | ((with_reducible refine store_midX 68 X0 0 [.int .i64 0, .int .i64 0, .int .i64 m, .int .i64 0, .bool true, .int .i64 0, .slice none 0 0, .int .i64 0, .slice (some ⟨g, 0, none⟩) m m, .slice none 0 0, .slice none 0 0, .slice none 0 0] (by simp) (by kernel_rfl) (by simp [Value.oneCell']) rfl rfl ?_); intro V1 S; replace X0 : Bx V1 b0 [.int .i64 0, .int .i64 0, .int .i64 m, .int .i64 0, .bool true, .int .i64 0, .slice none 0 0, .int .i64 0, .slice (some ⟨g, 0, none⟩) m m, .slice none 0 0, .slice none 0 0, .slice none 0 0] := S.bx; replace c0 := X0.cell; replace f0 := X0.froz; replace X1 := X1.kp S.kept; replace c1 := X1.cell; replace f1 := X1.froz; replace R := R.kept S.kept (by omega); replace lR := Nat.lt_of_lt_of_le lR S.kept.size; replace B := bkp B S.kept; clear S))
  refine bodyPost_ret (v := .agg #[.int .i64 0, .int .i64 0, .int .i64 m, .int .i64 0, .bool true, .int .i64 0, .slice none 0 0, .int .i64 0, .slice (some ⟨g, 0, none⟩) m m, .slice none 0 0, .slice none 0 0, .slice none 0 0]) (by simp [results, Tryz.results51, go_sem, *]) rfl ⟨(some ⟨g, 0, none⟩), m, m, rfl, by omega, R.widen (by omega) (by omega), B⟩
 rw [if_neg h0]
 have hid : 1 ≤ id ∧ id ≤ 4 := by omega
 go_enter Tryz.func51, Tryz.ntmps51
 go_wp2_with (first | ((with_reducible refine alloc_newX 68 [.int .i64 0, .int .i64 0, .int .i64 0, .int .i64 0, .bool false, .int .i64 0, .slice none 0 0, .int .i64 0, .slice none 0 0, .slice none 0 0, .slice none 0 0, .slice none 0 0] (fun _ => by kernel_rfl) ?_); intro b0 W0 N0; have ob0 := N0.ge; have B := N0.below; have X0 := N0.bx; have c0 := X0.cell; have f0 := X0.froz; clear N0) | fail)
 refine (isSize_is m _ true (by simp only [decide_eq_true_eq]; exact hs)).mono ?_
 rintro e W9 ⟨rfl, rfl⟩
 go_wp2_with fail
 refine (isIdOf_is m id hs _ true (by simp only [decide_eq_true_eq]; exact hi)).mono ?_
 rintro e W8 ⟨rfl, rfl⟩
 go_wp2_with (first | ((have g := ob0); clear g; (with_reducible refine box_newX 145 [.int .i64 id, .int .i64 m, .int .i64 0, .bool false, .int .i64 0, .slice none 0 0, .int .i64 0, .slice none 0 0, .slice none 0 0, .slice none 0 0, .slice none 0 0] rfl ?_); intro b1 W1 N1; have ob1 := Nat.le_trans B.size N1.ge; have o0_b1 := ltl X0.lt N1.ge; replace X0 := X0.below N1.below; replace c0 := X0.cell; replace f0 := X0.froz; replace B := below_next B N1.below; have X1 := N1.bx; have c1 := X1.cell; have f1 := X1.froz; clear N1) | fail)
 refine (becomeNormal_other id hid m (by omega) b1 _ X1).mono ?_
 rintro e w1 ⟨rfl, X1', K⟩
 replace X0 := X0.kept K (by omega)
 replace c0 := X0.cell
 replace f0 := X0.froz
 replace X1 := X1'
 clear X1'
 replace c1 := X1.cell
 replace f1 := X1.froz
 replace B := B.trans (K.below _ (by omega) B.size)
 clear K
 go_wp2_with fail
 refine (answer_is id m 0 true 0 (none, 0, 0) 0 (none, 0, 0) (none, 0, 0) (none, 0, 0) (none, 0, 0) b1 _ X1).mono ?_
 rintro e w2 ⟨rfl, BB⟩
 replace X0 := X0.below BB
 replace c0 := X0.cell
 replace f0 := X0.froz
 replace X1 := X1.below BB
 replace c1 := X1.cell
 replace f1 := X1.froz
 replace B := below_next B BB
 clear BB
 go_wp2_with (first | ((with_reducible refine store_midX 68 X0 0 [.int .i64 0, .int .i64 id, .int .i64 m, .int .i64 0, .bool true, .int .i64 0, .slice none 0 0, .int .i64 0, .slice none 0 0, .slice none 0 0, .slice none 0 0, .slice none 0 0] (by simp) (by kernel_rfl) (by simp [Value.oneCell']) rfl rfl ?_); intro V1 S; replace X0 : Bx V1 b0 [.int .i64 0, .int .i64 id, .int .i64 m, .int .i64 0, .bool true, .int .i64 0, .slice none 0 0, .int .i64 0, .slice none 0 0, .slice none 0 0, .slice none 0 0, .slice none 0 0] := S.bx; replace c0 := X0.cell; replace f0 := X0.froz; replace X1 := X1.kp S.kept; replace c1 := X1.cell; replace f1 := X1.froz; replace B := bkp B S.kept; clear S))
 refine bodyPost_ret (v := .agg #[.int .i64 0, .int .i64 id, .int .i64 m, .int .i64 0, .bool true, .int .i64 0, .slice none 0 0, .int .i64 0, .slice none 0 0, .slice none 0 0, .slice none 0 0, .slice none 0 0]) (by simp [results, Tryz.results51, go_sem, *]) rfl ⟨none, 0, 0, rfl, by omega, RowAt.nilR _ _ _ _ _ _ _, B⟩
theorem l9Bad_is (c : Int) (w : World) : Calls Tryz.prog 129 #[.int .i64 c] w fun e w' => e = .returned (.agg #[.int .i64 c, .int .i64 0, .int .i64 0, .int .i64 0, .bool false, .int .i64 0, .slice none 0 0, .int .i64 0, .slice none 0 0, .slice none 0 0, .slice none 0 0, .slice none 0 0]) ∧ Below w.heap.size w w' := by
 go_enter Tryz.func129, Tryz.ntmps129
 go_wp2_with (first | ((with_reducible refine store_midX 68 X0 0 [.int .i64 c, .int .i64 0, .int .i64 0, .int .i64 0, .bool false, .int .i64 0, .slice none 0 0, .int .i64 0, .slice none 0 0, .slice none 0 0, .slice none 0 0, .slice none 0 0] (by simp) (by kernel_rfl) (by simp [Value.oneCell']) rfl rfl ?_); intro V1 S; replace X0 : Bx V1 b0 [.int .i64 c, .int .i64 0, .int .i64 0, .int .i64 0, .bool false, .int .i64 0, .slice none 0 0, .int .i64 0, .slice none 0 0, .slice none 0 0, .slice none 0 0, .slice none 0 0] := S.bx; replace c0 := X0.cell; replace f0 := X0.froz; replace B := bkp B S.kept; clear S) | ((with_reducible refine alloc_newX 68 [.int .i64 0, .int .i64 0, .int .i64 0, .int .i64 0, .bool false, .int .i64 0, .slice none 0 0, .int .i64 0, .slice none 0 0, .slice none 0 0, .slice none 0 0, .slice none 0 0] (fun _ => by kernel_rfl) ?_); intro b0 W0 N0; have ob0 := N0.ge; have B := N0.below; have X0 := N0.bx; have c0 := X0.cell; have f0 := X0.froz; clear N0))
 refine bodyPost_ret (v := .agg #[.int .i64 c, .int .i64 0, .int .i64 0, .int .i64 0, .bool false, .int .i64 0, .slice none 0 0, .int .i64 0, .slice none 0 0, .slice none 0 0, .slice none 0 0, .slice none 0 0]) (by simp [results, Tryz.results129, go_sem, *]) rfl ⟨rfl, B⟩
theorem specNewR_is (id size : Int) (w : World) (c : Int) (q : Rep) (hc : newC id size = c) (hq : newRep id size = q) : Calls Tryz.prog 102 #[.int .i64 id, .int .i64 size] w fun e w' => ∃ oa on oc, e = .returned (.agg #[.int .i64 c, .int .i64 q.id, .int .i64 q.size, .int .i64 q.view, .bool q.normal, .int .i64 q.last, .slice none 0 0, .int .i64 q.commit, .slice oa on oc, .slice none 0 0, .slice none 0 0, .slice none 0 0]) ∧ on ≤ 5 ∧ RowAt w' true w.heap.size w'.heap.size 1 oa on oc (ints q.oks) ∧ Below w.heap.size w w' := by
 unfold newC at hc
 unfold newRep at hq
 by_cases hs : 1 ≤ size ∧ size ≤ 5
 rotate_left 1
 ·rw [if_neg (by omega)] at hc hq
  subst hc
  subst hq
  go_enter Tryz.func102, Tryz.ntmps102
  go_wp2_with (first | ((with_reducible refine alloc_newX 68 [.int .i64 0, .int .i64 0, .int .i64 0, .int .i64 0, .bool false, .int .i64 0, .slice none 0 0, .int .i64 0, .slice none 0 0, .slice none 0 0, .slice none 0 0, .slice none 0 0] (fun _ => by kernel_rfl) ?_); intro b0 W0 N0; have ob0 := N0.ge; have B := N0.below; have X0 := N0.bx; have c0 := X0.cell; have f0 := X0.froz; clear N0) | fail)
  refine (l1In_is' size 1 5 _ false (by simp only [decide_eq_false_eq]; exact hs)).mono ?_
  rintro e W9 ⟨rfl, rfl⟩
  go_wp2_with fail
  refine (l9Bad_is 3 _).mono ?_
  rintro e u1 ⟨rfl, BB⟩
  replace X0 := X0.below BB
  replace c0 := X0.cell
  replace f0 := X0.froz
  replace B := below_next B BB
  clear BB
  go_wp2_with (first | ((with_reducible refine store_midX 68 X0 0 [.int .i64 3, .int .i64 0, .int .i64 0, .int .i64 0, .bool false, .int .i64 0, .slice none 0 0, .int .i64 0, .slice none 0 0, .slice none 0 0, .slice none 0 0, .slice none 0 0] (by simp) (by kernel_rfl) (by simp [Value.oneCell']) rfl rfl ?_); intro V1 S; replace X0 : Bx V1 b0 [.int .i64 3, .int .i64 0, .int .i64 0, .int .i64 0, .bool false, .int .i64 0, .slice none 0 0, .int .i64 0, .slice none 0 0, .slice none 0 0, .slice none 0 0, .slice none 0 0] := S.bx; replace c0 := X0.cell; replace f0 := X0.froz; replace B := bkp B S.kept; clear S))
  refine bodyPost_ret (v := .agg #[.int .i64 3, .int .i64 0, .int .i64 0, .int .i64 0, .bool false, .int .i64 0, .slice none 0 0, .int .i64 0, .slice none 0 0, .slice none 0 0, .slice none 0 0, .slice none 0 0]) (by simp [results, Tryz.results102, go_sem, *]) rfl ⟨none, 0, 0, rfl, by omega, RowAt.nilR _ _ _ _ _ _ _, B⟩
 by_cases hi : 0 ≤ id ∧ id ≤ size - 1
 rotate_left 1
 ·rw [if_neg (by omega)] at hc hq
  subst hc
  subst hq
  have hw : IntKind.i64.wrap (size - 1) = size - 1 := wrapI_same _ (by omega)
  go_enter Tryz.func102, Tryz.ntmps102
  go_wp2_with (first | ((with_reducible refine alloc_newX 68 [.int .i64 0, .int .i64 0, .int .i64 0, .int .i64 0, .bool false, .int .i64 0, .slice none 0 0, .int .i64 0, .slice none 0 0, .slice none 0 0, .slice none 0 0, .slice none 0 0] (fun _ => by kernel_rfl) ?_); intro b0 W0 N0; have ob0 := N0.ge; have B := N0.below; have X0 := N0.bx; have c0 := X0.cell; have f0 := X0.froz; clear N0) | fail)
  refine (l1In_is' size 1 5 _ true (by simp only [decide_eq_true_eq]; exact hs)).mono ?_
  rintro e W9 ⟨rfl, rfl⟩
  go_wp2_with fail
  refine (l1In_is' id 0 (size - 1) _ false (by simp only [decide_eq_false_eq]; exact hi)).mono ?_
  rintro e W8 ⟨rfl, rfl⟩
  go_wp2_with fail
  refine (l9Bad_is 3 _).mono ?_
  rintro e u1 ⟨rfl, BB⟩
  replace X0 := X0.below BB
  replace c0 := X0.cell
  replace f0 := X0.froz
  replace B := below_next B BB
  clear BB
  go_wp2_with (first | ((with_reducible refine store_midX 68 X0 0 [.int .i64 3, .int .i64 0, .int .i64 0, .int .i64 0, .bool false, .int .i64 0, .slice none 0 0, .int .i64 0, .slice none 0 0, .slice none 0 0, .slice none 0 0, .slice none 0 0] (by simp) (by kernel_rfl) (by simp [Value.oneCell']) rfl rfl ?_); intro V1 S; replace X0 : Bx V1 b0 [.int .i64 3, .int .i64 0, .int .i64 0, .int .i64 0, .bool false, .int .i64 0, .slice none 0 0, .int .i64 0, .slice none 0 0, .slice none 0 0, .slice none 0 0, .slice none 0 0] := S.bx; replace c0 := X0.cell; replace f0 := X0.froz; replace B := bkp B S.kept; clear S))
  refine bodyPost_ret (v := .agg #[.int .i64 3, .int .i64 0, .int .i64 0, .int .i64 0, .bool false, .int .i64 0, .slice none 0 0, .int .i64 0, .slice none 0 0, .slice none 0 0, .slice none 0 0, .slice none 0 0]) (by simp [results, Tryz.results102, go_sem, *]) rfl ⟨none, 0, 0, rfl, by omega, RowAt.nilR _ _ _ _ _ _ _, B⟩
 rw [if_pos ⟨hs, hi⟩] at hc hq
 subst hc
 subst hq
 have hw : IntKind.i64.wrap (size - 1) = size - 1 := wrapI_same _ (by omega)
 obtain ⟨m, rfl⟩ : ∃ m : Nat, size = m := ⟨size.toNat, by omega⟩
 obtain ⟨i0, hi0, hi1, hi2, hi3⟩ := info_parts Tryz.info2'
 have hmm : ((m : Int)).toNat = m := by simp
 rw [hmm]
 clear hmm
 by_cases h0 : id = 0
 ·subst h0
  rw [if_pos rfl]
  go_enter Tryz.func102, Tryz.ntmps102
  go_wp2_with (first | ((with_reducible refine alloc_newX 68 [.int .i64 0, .int .i64 0, .int .i64 0, .int .i64 0, .bool false, .int .i64 0, .slice none 0 0, .int .i64 0, .slice none 0 0, .slice none 0 0, .slice none 0 0, .slice none 0 0] (fun _ => by kernel_rfl) ?_); intro b0 W0 N0; have ob0 := N0.ge; have B := N0.below; have X0 := N0.bx; have c0 := X0.cell; have f0 := X0.froz; clear N0) | fail)
  refine (l1In_is' m 1 5 _ true (by simp only [decide_eq_true_eq]; exact hs)).mono ?_
  rintro e W9 ⟨rfl, rfl⟩
  go_wp2_with fail
  refine (l1In_is' 0 0 (m - 1) _ true (by simp only [decide_eq_true_eq]; exact hi)).mono ?_
  rintro e W8 ⟨rfl, rfl⟩
  go_wp2_with (first | ((with_reducible refine store_midX 65 X1 0 [.int .i64 0, .int .i64 m, .int .i64 0, .bool true, .int .i64 0, .slice none 0 0, .int .i64 0, .slice none 0 0, .slice none 0 0, .slice none 0 0] (by simp) (by kernel_rfl) (by simp [Value.oneCell']) rfl rfl ?_); intro V1 S; replace X0 := X0.kp S.kept; replace c0 := X0.cell; replace f0 := X0.froz; replace X1 : Bx V1 b1 [.int .i64 0, .int .i64 m, .int .i64 0, .bool true, .int .i64 0, .slice none 0 0, .int .i64 0, .slice none 0 0, .slice none 0 0, .slice none 0 0] := S.bx; replace c1 := X1.cell; replace f1 := X1.froz; replace B := bkp B S.kept; clear S) | ((have g := ob0); clear g; (with_reducible refine alloc_newX 65 [.int .i64 0, .int .i64 0, .int .i64 0, .bool false, .int .i64 0, .slice none 0 0, .int .i64 0, .slice none 0 0, .slice none 0 0, .slice none 0 0] (fun _ => by kernel_rfl) ?_); intro b1 W1 N1; have ob1 := Nat.le_trans B.size N1.ge; have o0_b1 := ltl X0.lt N1.ge; replace X0 := X0.below N1.below; replace c0 := X0.cell; replace f0 := X0.froz; replace B := below_next B N1.below; have X1 := N1.bx; have c1 := X1.cell; have f1 := X1.froz; clear N1) | (at_make; refine wpList_make_full _ rfl _ _ 61 rfl V1.heap.size 2 i0 (.int .i64 0) 1 Tryz.underlying61 hi0 hi1 hi2 _ _ _ _ m rfl rfl rfl rfl ?b1 ?b2 ?b3 ?_))
  case b1 => rw [hi3]; omega
  case b2 => unfold maxLen; omega
  case b3 => exact Nat.le_refl _
  intro w1 hown hgrow
  have BB : Below V1.heap.size V1 w1 := (Below.refl _ _).grown hgrow (Nat.le_refl _) (fun k hk => by cases hk)
  have hown' : w1.ownsRow V1.heap.size 2 1 (.slice (some ⟨V1.heap.size, 0, none⟩) m m) m (ints (List.replicate m 0)) := by simpa [Value.cells, toList_madeCells_one, ints] using hown
  have R := (RowAt.of_owns hown' (Nat.le_refl _)).tightG
  have lR := (owns_lt hown').2
  obtain ⟨g, hgl⟩ : ∃ g, g = V1.heap.size := ⟨_, rfl⟩
  rw [← hgl] at R lR
  rw [← hgl]
  have Gg : V1.heap.size ≤ g := Nat.le_of_eq hgl.symm
  clear hown hown' hgrow hgl
  have og : w.heap.size ≤ g := Nat.le_trans B.size Gg
  have o0_g := ltl X0.lt Gg
  have o1_g := ltl X1.lt Gg
  clear Gg
  replace X0 := X0.below BB
  replace c0 := X0.cell
  replace f0 := X0.froz
  replace X1 := X1.below BB
  replace c1 := X1.cell
  replace f1 := X1.froz
  replace B := below_next B BB
  clear BB
  go_wp2_with (first | ((with_reducible refine store_midX 68 X0 0 [.int .i64 0, .int .i64 0, .int .i64 m, .int .i64 0, .bool true, .int .i64 0, .slice none 0 0, .int .i64 0, .slice (some ⟨g, 0, none⟩) m m, .slice none 0 0, .slice none 0 0, .slice none 0 0] (by simp) (by kernel_rfl) (by simp [Value.oneCell']) rfl rfl ?_); intro V3 S; replace X0 : Bx V3 b0 [.int .i64 0, .int .i64 0, .int .i64 m, .int .i64 0, .bool true, .int .i64 0, .slice none 0 0, .int .i64 0, .slice (some ⟨g, 0, none⟩) m m, .slice none 0 0, .slice none 0 0, .slice none 0 0] := S.bx; replace c0 := X0.cell; replace f0 := X0.froz; replace X1 := X1.kp S.kept; replace c1 := X1.cell; replace f1 := X1.froz; replace R := R.kept S.kept (by omega); replace lR := Nat.lt_of_lt_of_le lR S.kept.size; replace B := bkp B S.kept; clear S) | ((with_reducible refine store_oneX 61 X1 7 (.slice (some ⟨g, 0, none⟩) m m) (by simp) (by kernel_rfl) rfl rfl rfl ?_); intro V2 S; replace X0 := X0.kp S.kept; replace c0 := X0.cell; replace f0 := X0.froz; replace X1 : Bx V2 b1 [.int .i64 0, .int .i64 m, .int .i64 0, .bool true, .int .i64 0, .slice none 0 0, .int .i64 0, .slice (some ⟨g, 0, none⟩) m m, .slice none 0 0, .slice none 0 0] := S.bx; replace c1 := X1.cell; replace f1 := X1.froz; replace R := R.kept S.kept (by omega); replace lR := Nat.lt_of_lt_of_le lR S.kept.size; replace B := bkp B S.kept; clear S))
  refine bodyPost_ret (v := .agg #[.int .i64 0, .int .i64 0, .int .i64 m, .int .i64 0, .bool true, .int .i64 0, .slice none 0 0, .int .i64 0, .slice (some ⟨g, 0, none⟩) m m, .slice none 0 0, .slice none 0 0, .slice none 0 0]) (by simp [results, Tryz.results102, go_sem, *]) rfl ⟨(some ⟨g, 0, none⟩), m, m, rfl, by omega, R.widen (by omega) (by omega), B⟩
 rw [if_neg h0]
 have hid : 1 ≤ id ∧ id ≤ 4 := by omega
 go_enter Tryz.func102, Tryz.ntmps102
 go_wp2_with (first | ((with_reducible refine alloc_newX 68 [.int .i64 0, .int .i64 0, .int .i64 0, .int .i64 0, .bool false, .int .i64 0, .slice none 0 0, .int .i64 0, .slice none 0 0, .slice none 0 0, .slice none 0 0, .slice none 0 0] (fun _ => by kernel_rfl) ?_); intro b0 W0 N0; have ob0 := N0.ge; have B := N0.below; have X0 := N0.bx; have c0 := X0.cell; have f0 := X0.froz; clear N0) | fail)
 refine (l1In_is' m 1 5 _ true (by simp only [decide_eq_true_eq]; exact hs)).mono ?_
 rintro e W9 ⟨rfl, rfl⟩
 go_wp2_with fail
 refine (l1In_is' id 0 (m - 1) _ true (by simp only [decide_eq_true_eq]; exact hi)).mono ?_
 rintro e W8 ⟨rfl, rfl⟩
 have h0' : (id == 0) = false := by simp [h0]
 go_wp2_with (first | ((with_reducible refine store_midX 68 X0 0 [.int .i64 0, .int .i64 id, .int .i64 m, .int .i64 0, .bool true, .int .i64 0, .slice none 0 0, .int .i64 0, .slice none 0 0, .slice none 0 0, .slice none 0 0, .slice none 0 0] (by simp) (by kernel_rfl) (by simp [Value.oneCell']) rfl rfl ?_); intro V2 S; replace X0 : Bx V2 b0 [.int .i64 0, .int .i64 id, .int .i64 m, .int .i64 0, .bool true, .int .i64 0, .slice none 0 0, .int .i64 0, .slice none 0 0, .slice none 0 0, .slice none 0 0, .slice none 0 0] := S.bx; replace c0 := X0.cell; replace f0 := X0.froz; replace X1 := X1.kp S.kept; replace c1 := X1.cell; replace f1 := X1.froz; replace B := bkp B S.kept; clear S) | ((with_reducible refine store_midX 65 X1 0 [.int .i64 id, .int .i64 m, .int .i64 0, .bool true, .int .i64 0, .slice none 0 0, .int .i64 0, .slice none 0 0, .slice none 0 0, .slice none 0 0] (by simp) (by kernel_rfl) (by simp [Value.oneCell']) rfl rfl ?_); intro V1 S; replace X0 := X0.kp S.kept; replace c0 := X0.cell; replace f0 := X0.froz; replace X1 : Bx V1 b1 [.int .i64 id, .int .i64 m, .int .i64 0, .bool true, .int .i64 0, .slice none 0 0, .int .i64 0, .slice none 0 0, .slice none 0 0, .slice none 0 0] := S.bx; replace c1 := X1.cell; replace f1 := X1.froz; replace B := bkp B S.kept; clear S) | ((have g := ob0); clear g; (with_reducible refine alloc_newX 65 [.int .i64 0, .int .i64 0, .int .i64 0, .bool false, .int .i64 0, .slice none 0 0, .int .i64 0, .slice none 0 0, .slice none 0 0, .slice none 0 0] (fun _ => by kernel_rfl) ?_); intro b1 W1 N1; have ob1 := Nat.le_trans B.size N1.ge; have o0_b1 := ltl X0.lt N1.ge; replace X0 := X0.below N1.below; replace c0 := X0.cell; replace f0 := X0.froz; replace B := below_next B N1.below; have X1 := N1.bx; have c1 := X1.cell; have f1 := X1.froz; clear N1))
 refine bodyPost_ret (v := .agg #[.int .i64 0, .int .i64 id, .int .i64 m, .int .i64 0, .bool true, .int .i64 0, .slice none 0 0, .int .i64 0, .slice none 0 0, .slice none 0 0, .slice none 0 0, .slice none 0 0]) (by simp [results, Tryz.results102, go_sem, *]) rfl ⟨none, 0, 0, rfl, by omega, RowAt.nilR _ _ _ _ _ _ _, B⟩
end Go.Proofs.YtgldocaohcoleaaGreat
