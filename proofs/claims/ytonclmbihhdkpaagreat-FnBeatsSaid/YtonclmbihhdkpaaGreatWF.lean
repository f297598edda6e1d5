/- Chapter 9: empty lists marked and held by the laws; answers that have no list but Oks. -/
import Derived.Test.YtonclmbihhdkpaaGreatQAF
import Derived.Test.YtonclmbihhdkpaaGreatQAB
import Derived.Test.YtonclmbihhdkpaaGreatQAK
import Derived.Test.YtonclmbihhdkpaaGreatWC
set_option maxRecDepth 20000
set_option maxHeartbeats 16000000
namespace Go.Proofs.YtonclmbihhdkpaaGreat
open Go.RowKit
theorem rep_oks {w : World} {own : Bool} {lo hi : Nat} {oa : Option Addr} {on oc : Nat} {r : Rep} (h1 : r.log = []) (h2 : r.asks = []) (h3 : r.doers = []) (R : RowAt w own lo hi 1 oa on oc (ints r.oks)) : RepAt w own lo hi ⟨(none, 0, 0), (oa, on, oc), (none, 0, 0), (none, 0, 0), fun _ => (none, 0, 0)⟩ r := by
 refine ⟨by rw [h1]; exact RowAt.nilR _ _ _ _ _ _ _, R, by rw [h2]; exact RowAt.nilR _ _ _ _ _ _ _, by rw [h3]; exact ⟨rfl, ElsAt.nil _ _ _ _ _ _ _ _ _ _⟩, fun _ => ⟨fun x h => absurd rfl h.1, fun x h => absurd rfl h.1, fun x h => absurd rfl h.1, fun x _ h => absurd rfl h.1, fun x _ h => ?_, fun x h => absurd rfl h.1⟩⟩
 rcases h with h | ⟨i, hi, _⟩
 ·exact absurd rfl h.1
 ·exact absurd hi (Nat.not_lt_zero _)
theorem sz_oks {oa : Option Addr} {on oc m : Nat} (h : on ≤ m) : RSz ⟨(none, 0, 0), (oa, on, oc), (none, 0, 0), (none, 0, 0), fun _ => (none, 0, 0)⟩ m := ⟨Nat.zero_le _, h, Nat.zero_le _, Nat.zero_le _, fun _ hi => absurd hi (Nat.not_lt_zero _)⟩
def newC (id size : Int) : Int := if (1 ≤ size ∧ size ≤ 5) ∧ (0 ≤ id ∧ id ≤ size - 1) then 0 else 3
def newRep (id size : Int) : Rep := if (1 ≤ size ∧ size ≤ 5) ∧ (0 ≤ id ∧ id ≤ size - 1) then ⟨id, size, 0, true, 0, [], 0, if id = 0 then List.replicate size.toNat 0 else [], [], []⟩ else rep0
theorem becomeNormal_first (m : Nat) (hm : 1 ≤ m ∧ m ≤ 5) (b : Nat) (w : World) (X : Bx w b [.int .i64 0, .int .i64 m, .int .i64 0, .bool false, .int .i64 0, .slice none 0 0, .int .i64 0, .slice none 0 0, .slice none 0 0, .slice none 0 0, .slice none 0 0]) :
  Calls Tryz.prog 53 #[.pointer (some ⟨b, 0, none⟩)] w fun e w' => e = .returned (.tuple #[]) ∧ ∃ g, w.heap.size ≤ g ∧ g < w'.heap.size ∧ Bx w' b [.int .i64 0, .int .i64 m, .int .i64 0, .bool true, .int .i64 0, .slice none 0 0, .int .i64 0, .slice (some ⟨g, 0, none⟩) m m, .slice none 0 0, .slice none 0 0, .slice none 0 0] ∧ RowAt w' true g (g + 1) 1 (some ⟨g, 0, none⟩) m m (ints (List.replicate m 0)) ∧ Kept b (b + 1) w w' := by
 obtain ⟨i0, hi0, hi1, hi2, hi3⟩ := info_parts Tryz.info2'
 have c := X.cell
 have f := X.froz
 have hbl := X.lt
 go_enter Tryz.func53, Tryz.ntmps53
 go_wp2_with (first | ((with_reducible refine so 27 X 9 (.slice none 0 0) ?_); intro V5 S; replace X : Bx V5 b [.int .i64 0, .int .i64 m, .int .i64 0, .bool true, .int .i64 0, .slice none 0 0, .int .i64 0, .slice none 0 0, .slice none 0 0, .slice none 0 0, .slice none 0 0] := S.bx; replace c := X.cell; replace f := X.froz; replace K := K.trans S.kept; clear S) | ((with_reducible refine so 26 X 8 (.slice none 0 0) ?_); intro V4 S; replace X : Bx V4 b [.int .i64 0, .int .i64 m, .int .i64 0, .bool true, .int .i64 0, .slice none 0 0, .int .i64 0, .slice none 0 0, .slice none 0 0, .slice none 0 0, .slice none 0 0] := S.bx; replace c := X.cell; replace f := X.froz; replace K := K.trans S.kept; clear S) | ((with_reducible refine so 25 X 7 (.slice none 0 0) ?_); intro V3 S; replace X : Bx V3 b [.int .i64 0, .int .i64 m, .int .i64 0, .bool true, .int .i64 0, .slice none 0 0, .int .i64 0, .slice none 0 0, .slice none 0 0, .slice none 0 0, .slice none 0 0] := S.bx; replace c := X.cell; replace f := X.froz; replace K := K.trans S.kept; clear S) | ((with_reducible refine so 2 X 4 (.int .i64 0) ?_); intro V2 S; replace X : Bx V2 b [.int .i64 0, .int .i64 m, .int .i64 0, .bool true, .int .i64 0, .slice none 0 0, .int .i64 0, .slice none 0 0, .slice none 0 0, .slice none 0 0, .slice none 0 0] := S.bx; replace c := X.cell; replace f := X.froz; replace K := K.trans S.kept; clear S) | ((with_reducible refine so 4 X 3 (.bool true) ?_); intro V1 S; replace X : Bx V1 b [.int .i64 0, .int .i64 m, .int .i64 0, .bool true, .int .i64 0, .slice none 0 0, .int .i64 0, .slice none 0 0, .slice none 0 0, .slice none 0 0, .slice none 0 0] := S.bx; replace c := X.cell; replace f := X.froz; have K := S.kept; clear S) | fail)
 refine (leads_is' ⟨0, m, 0, true, 0, [], 0, [], [], []⟩ ⟨(none, 0, 0), (none, 0, 0), (none, 0, 0), (none, 0, 0), fun _ => (none, 0, 0)⟩ (by simp only; omega) (by simp only; omega) _ true (by unfold leadsB; simp)).mono ?_
 rintro e w1 ⟨rfl, BB⟩
 replace X := X.below BB
 replace c := X.cell
 replace f := X.froz
 replace K := K.trans (Kept.of_below BB)
 clear BB
 go_wp2_with (first | (at_make; refine wpList_make_full _ rfl _ _ 25 rfl w1.heap.size 2 i0 (.int .i64 0) 1 Tryz.underlying25 hi0 hi1 hi2 _ _ _ _ m rfl rfl rfl rfl ?b1 ?b2 ?b3 ?_))
 case b1 => rw [hi3]; omega
 case b2 => unfold maxLen; omega
 case b3 => exact Nat.le_refl _
 intro w2 hown hgrow
 have BB : Below w1.heap.size w1 w2 := (Below.refl _ _).grown hgrow (Nat.le_refl _) (fun k hk => by cases hk)
 have hown' : w2.ownsRow w1.heap.size 2 1 (.slice (some ⟨w1.heap.size, 0, none⟩) m m) m (ints (List.replicate m 0)) := by simpa [Value.cells, toList_madeCells_one, ints] using hown
 have R := (RowAt.of_owns hown' (Nat.le_refl _)).tightG
 have lR := (owns_lt hown').2
 obtain ⟨g, hgl⟩ : ∃ g, g = w1.heap.size := ⟨_, rfl⟩
 rw [← hgl] at R lR
 rw [← hgl]
 have hbg : b < g := by rw [hgl]; exact X.lt
 have hwg : w.heap.size ≤ g := by rw [hgl]; exact K.size
 clear hown hown' hgrow hgl
 replace X := X.below BB
 replace c := X.cell
 replace f := X.froz
 replace K := K.trans (Kept.of_below BB)
 clear BB
 go_wp2_with (first | ((with_reducible refine so 25 X 7 (.slice (some ⟨g, 0, none⟩) m m) ?_); intro V6 S; replace X : Bx V6 b [.int .i64 0, .int .i64 m, .int .i64 0, .bool true, .int .i64 0, .slice none 0 0, .int .i64 0, .slice (some ⟨g, 0, none⟩) m m, .slice none 0 0, .slice none 0 0, .slice none 0 0] := S.bx; replace K := K.trans S.kept; replace R := R.kept S.kept (by omega); replace lR := Nat.lt_of_lt_of_le lR S.kept.size; clear S))
 refine bodyPost_end (results_none rfl _ _ _) rfl ⟨rfl, g, hwg, lR, X, R, K⟩
theorem becomeNormal_other (id : Int) (hid : 1 ≤ id ∧ id ≤ 4) (m : Nat) (hm : 1 ≤ m ∧ m ≤ 5) (b : Nat) (w : World) (X : Bx w b [.int .i64 id, .int .i64 m, .int .i64 0, .bool false, .int .i64 0, .slice none 0 0, .int .i64 0, .slice none 0 0, .slice none 0 0, .slice none 0 0, .slice none 0 0]) :
  Calls Tryz.prog 53 #[.pointer (some ⟨b, 0, none⟩)] w fun e w' => e = .returned (.tuple #[]) ∧ Bx w' b [.int .i64 id, .int .i64 m, .int .i64 0, .bool true, .int .i64 0, .slice none 0 0, .int .i64 0, .slice none 0 0, .slice none 0 0, .slice none 0 0, .slice none 0 0] ∧ Kept b (b + 1) w w' := by
 have c := X.cell
 have f := X.froz
 have hbl := X.lt
 go_enter Tryz.func53, Tryz.ntmps53
 go_wp2_with (first | ((with_reducible refine so 27 X 9 (.slice none 0 0) ?_); intro V5 S; replace X : Bx V5 b [.int .i64 id, .int .i64 m, .int .i64 0, .bool true, .int .i64 0, .slice none 0 0, .int .i64 0, .slice none 0 0, .slice none 0 0, .slice none 0 0, .slice none 0 0] := S.bx; replace c := X.cell; replace f := X.froz; replace K := K.trans S.kept; clear S) | ((with_reducible refine so 26 X 8 (.slice none 0 0) ?_); intro V4 S; replace X : Bx V4 b [.int .i64 id, .int .i64 m, .int .i64 0, .bool true, .int .i64 0, .slice none 0 0, .int .i64 0, .slice none 0 0, .slice none 0 0, .slice none 0 0, .slice none 0 0] := S.bx; replace c := X.cell; replace f := X.froz; replace K := K.trans S.kept; clear S) | ((with_reducible refine so 25 X 7 (.slice none 0 0) ?_); intro V3 S; replace X : Bx V3 b [.int .i64 id, .int .i64 m, .int .i64 0, .bool true, .int .i64 0, .slice none 0 0, .int .i64 0, .slice none 0 0, .slice none 0 0, .slice none 0 0, .slice none 0 0] := S.bx; replace c := X.cell; replace f := X.froz; replace K := K.trans S.kept; clear S) | ((with_reducible refine so 2 X 4 (.int .i64 0) ?_); intro V2 S; replace X : Bx V2 b [.int .i64 id, .int .i64 m, .int .i64 0, .bool true, .int .i64 0, .slice none 0 0, .int .i64 0, .slice none 0 0, .slice none 0 0, .slice none 0 0, .slice none 0 0] := S.bx; replace c := X.cell; replace f := X.froz; replace K := K.trans S.kept; clear S) | ((with_reducible refine so 4 X 3 (.bool true) ?_); intro V1 S; replace X : Bx V1 b [.int .i64 id, .int .i64 m, .int .i64 0, .bool true, .int .i64 0, .slice none 0 0, .int .i64 0, .slice none 0 0, .slice none 0 0, .slice none 0 0, .slice none 0 0] := S.bx; replace c := X.cell; replace f := X.froz; have K := S.kept; clear S) | fail)
 refine (leads_is' ⟨id, m, 0, true, 0, [], 0, [], [], []⟩ ⟨(none, 0, 0), (none, 0, 0), (none, 0, 0), (none, 0, 0), fun _ => (none, 0, 0)⟩ (by simp only; omega) (by simp only; omega) _ false (by unfold leadsB; simp; omega)).mono ?_
 rintro e w1 ⟨rfl, BB⟩
 replace X := X.below BB
 replace c := X.cell
 replace f := X.froz
 replace K := K.trans (Kept.of_below BB)
 clear BB
 go_wp2
 refine bodyPost_end (results_none rfl _ _ _) rfl ⟨rfl, X, K⟩
theorem answer_is (v0 v1 v2 : Int) (v3 : Bool) (v4 : Int) (v5 : Hd) (v6 : Int) (v7 v8 v9 v10 : Hd) (b : Nat) (w : World) (Y : Bx w b [.int .i64 v0, .int .i64 v1, .int .i64 v2, .bool v3, .int .i64 v4, .slice v5.1 v5.2.1 v5.2.2, .int .i64 v6, .slice v7.1 v7.2.1 v7.2.2, .slice v8.1 v8.2.1 v8.2.2, .slice v9.1 v9.2.1 v9.2.2, .slice v10.1 v10.2.1 v10.2.2]) :
  Calls Tryz.prog 49 #[.pointer (some ⟨b, 0, none⟩)] w fun e w' => e = .returned (.agg #[.int .i64 0, .int .i64 v0, .int .i64 v1, .int .i64 v2, .bool v3, .int .i64 v4, .slice v5.1 v5.2.1 v5.2.2, .int .i64 v6, .slice v7.1 v7.2.1 v7.2.2, .slice v8.1 v8.2.1 v8.2.2, .slice v9.1 v9.2.1 v9.2.2, .slice v10.1 v10.2.1 v10.2.2]) ∧ Below w.heap.size w w' := by
 have hbw := Y.lt
 go_enter Tryz.func49, Tryz.ntmps49
 go_wp2_with (first | ((with_reducible refine al 33 [.int .i64 0, .int .i64 0, .int .i64 0, .int .i64 0, .bool false, .int .i64 0, .slice none 0 0, .int .i64 0, .slice none 0 0, .slice none 0 0, .slice none 0 0, .slice none 0 0] ?_); intro b0 W0 N0; have ob0 := N0.ge; have B := N0.below; obtain ⟨X0, c0, f0⟩ := N0.a; clear N0) | fail)
 replace Y := Y.below B
 have DQ : Below W0.heap.size W0 W0.drew := (Below.refl _ _).drew
 replace X0 := X0.below DQ
 replace c0 := X0.cell
 replace f0 := X0.froz
 replace B := below_next B DQ
 clear DQ
 replace Y := Y.below (show Below W0.heap.size W0 W0.drew from (Below.refl _ _).drew)
 have cy := Y.cell
 refine wp_region_held_drew (S := (fun w' => ∀ k : Nat, w'.cell? ⟨b, k, none⟩ = [.int .i64 v0, .int .i64 v1, .int .i64 v2, .bool v3, .int .i64 v4, .slice v5.1 v5.2.1 v5.2.2, .int .i64 v6, .slice v7.1 v7.2.1 v7.2.2, .slice v8.1 v8.2.1 v8.2.2, .slice v9.1 v9.2.1 v9.2.2, .slice v10.1 v10.2.1 v10.2.2][k]?)) (by kernel_rfl) cy (fun hZq => ?_)
 refine tk 0 hZq ?_
 refine tk 1 hZq ?_
 refine tk 2 hZq ?_
 refine tk 3 hZq ?_
 refine tk 4 hZq ?_
 refine tk 5 hZq ?_
 refine tk 6 hZq ?_
 refine tk 7 hZq ?_
 refine tk 8 hZq ?_
 refine rd1 9 (fun KK hKK => ?_)
 refine step_midX 33 X0 0 [.int .i64 0, .int .i64 v0, .int .i64 v1, .int .i64 v2, .bool v3, .int .i64 v4, .slice v5.1 v5.2.1 v5.2.2, .int .i64 v6, .slice v7.1 v7.2.1 v7.2.2, .slice v8.1 v8.2.1 v8.2.2, .slice v9.1 v9.2.1 v9.2.2, .slice v10.1 v10.2.1 v10.2.2] (by simp) (by kernel_rfl) (by simp [Value.oneCell']) rfl rfl ?_
 intro V1 S
 have cy := (Y.kept S.kept (by have := Y.lt; omega)).cell
 replace X0 : Bx V1 b0 [.int .i64 0, .int .i64 v0, .int .i64 v1, .int .i64 v2, .bool v3, .int .i64 v4, .slice v5.1 v5.2.1 v5.2.2, .int .i64 v6, .slice v7.1 v7.2.1 v7.2.2, .slice v8.1 v8.2.1 v8.2.2, .slice v9.1 v9.2.1 v9.2.2, .slice v10.1 v10.2.1 v10.2.2] := S.bx
 replace c0 := X0.cell
 replace f0 := X0.froz
 replace B := bkp B S.kept
 clear S
 clear hZq
 refine hKK _ _ cy (fun hZq => ?_)
 clear hKK KK
 refine wpAnyH_done (by kernel_rfl) ?_ _
 go_wp2
 refine bodyPost_ret (v := .agg #[.int .i64 0, .int .i64 v0, .int .i64 v1, .int .i64 v2, .bool v3, .int .i64 v4, .slice v5.1 v5.2.1 v5.2.2, .int .i64 v6, .slice v7.1 v7.2.1 v7.2.2, .slice v8.1 v8.2.1 v8.2.2, .slice v9.1 v9.2.1 v9.2.2, .slice v10.1 v10.2.1 v10.2.2]) (by simp [results, Tryz.results49, go_sem, *]) rfl ⟨rfl, B⟩
theorem implNewR_is (id size : Int) (w : World) (c : Int) (q : Rep) (hc : newC id size = c) (hq : newRep id size = q) : Calls Tryz.prog 20 #[.int .i64 id, .int .i64 size] w fun e w' => ∃ oa on oc, e = .returned (.agg #[.int .i64 c, .int .i64 q.id, .int .i64 q.size, .int .i64 q.view, .bool q.normal, .int .i64 q.last, .slice none 0 0, .int .i64 q.commit, .slice oa on oc, .slice none 0 0, .slice none 0 0, .slice none 0 0]) ∧ on ≤ 5 ∧ RowAt w' true w.heap.size w'.heap.size 1 oa on oc (ints q.oks) ∧ Below w.heap.size w w' := by
 unfold newC at hc
 unfold newRep at hq
 by_cases hs : 1 ≤ size ∧ size ≤ 5
 rotate_left 1
 ·rw [if_neg (by omega)] at hc hq
  subst hc
  subst hq
  go_enter Tryz.func20, Tryz.ntmps20
  go_wp2_with (first | ((with_reducible refine al 33 [.int .i64 0, .int .i64 0, .int .i64 0, .int .i64 0, .bool false, .int .i64 0, .slice none 0 0, .int .i64 0, .slice none 0 0, .slice none 0 0, .slice none 0 0, .slice none 0 0] ?_); intro b0 W0 N0; have ob0 := N0.ge; have B := N0.below; obtain ⟨X0, c0, f0⟩ := N0.a; clear N0) | fail)
  refine (isSize_is size _ false (by simp only [decide_eq_false_eq]; exact hs)).mono ?_
  rintro e W9 ⟨rfl, rfl⟩
  go_wp2_with (first | ((with_reducible refine sm 33 X0 0 [.int .i64 3, .int .i64 0, .int .i64 0, .int .i64 0, .bool false, .int .i64 0, .slice none 0 0, .int .i64 0, .slice none 0 0, .slice none 0 0, .slice none 0 0, .slice none 0 0] ?_); intro V1 S; replace X0 : Bx V1 b0 [.int .i64 3, .int .i64 0, .int .i64 0, .int .i64 0, .bool false, .int .i64 0, .slice none 0 0, .int .i64 0, .slice none 0 0, .slice none 0 0, .slice none 0 0, .slice none 0 0] := S.bx; replace c0 := X0.cell; replace f0 := X0.froz; replace B := bkp B S.kept; clear S))
  refine bodyPost_ret (v := .agg #[.int .i64 3, .int .i64 0, .int .i64 0, .int .i64 0, .bool false, .int .i64 0, .slice none 0 0, .int .i64 0, .slice none 0 0, .slice none 0 0, .slice none 0 0, .slice none 0 0]) (by simp [results, Tryz.results20, go_sem, *]) rfl ⟨none, 0, 0, rfl, by omega, RowAt.nilR _ _ _ _ _ _ _, B⟩
 by_cases hi : 0 ≤ id ∧ id ≤ size - 1
 rotate_left 1
 ·rw [if_neg (by omega)] at hc hq
  subst hc
  subst hq
  go_enter Tryz.func20, Tryz.ntmps20
  go_wp2_with (first | ((with_reducible refine al 33 [.int .i64 0, .int .i64 0, .int .i64 0, .int .i64 0, .bool false, .int .i64 0, .slice none 0 0, .int .i64 0, .slice none 0 0, .slice none 0 0, .slice none 0 0, .slice none 0 0] ?_); intro b0 W0 N0; have ob0 := N0.ge; have B := N0.below; obtain ⟨X0, c0, f0⟩ := N0.a; clear N0) | fail)
  refine (isSize_is size _ true (by simp only [decide_eq_true_eq]; exact hs)).mono ?_
  rintro e W9 ⟨rfl, rfl⟩
  go_wp2_with fail
  refine (isIdOf_is size id hs _ false (by simp only [decide_eq_false_eq]; exact hi)).mono ?_
  rintro e W8 ⟨rfl, rfl⟩
  go_wp2_with (first | ((with_reducible refine sm 33 X0 0 [.int .i64 3, .int .i64 0, .int .i64 0, .int .i64 0, .bool false, .int .i64 0, .slice none 0 0, .int .i64 0, .slice none 0 0, .slice none 0 0, .slice none 0 0, .slice none 0 0] ?_); intro V1 S; replace X0 : Bx V1 b0 [.int .i64 3, .int .i64 0, .int .i64 0, .int .i64 0, .bool false, .int .i64 0, .slice none 0 0, .int .i64 0, .slice none 0 0, .slice none 0 0, .slice none 0 0, .slice none 0 0] := S.bx; replace c0 := X0.cell; replace f0 := X0.froz; replace B := bkp B S.kept; clear S))
  refine bodyPost_ret (v := .agg #[.int .i64 3, .int .i64 0, .int .i64 0, .int .i64 0, .bool false, .int .i64 0, .slice none 0 0, .int .i64 0, .slice none 0 0, .slice none 0 0, .slice none 0 0, .slice none 0 0]) (by simp [results, Tryz.results20, go_sem, *]) rfl ⟨none, 0, 0, rfl, by omega, RowAt.nilR _ _ _ _ _ _ _, B⟩
 rw [if_pos ⟨hs, hi⟩] at hc hq
 subst hc
 subst hq
 obtain ⟨m, rfl⟩ : ∃ m : Nat, size = m := ⟨size.toNat, by omega⟩
 obtain ⟨i0, hi0, hi1, hi2, hi3⟩ := info_parts Tryz.info2'
 have hmm : ((m : Int)).toNat = m := by simp
 rw [hmm]
 clear hmm
 by_cases h0 : id = 0
 ·subst h0
  rw [if_pos rfl]
  go_enter Tryz.func20, Tryz.ntmps20
  go_wp2_with (first | ((with_reducible refine al 33 [.int .i64 0, .int .i64 0, .int .i64 0, .int .i64 0, .bool false, .int .i64 0, .slice none 0 0, .int .i64 0, .slice none 0 0, .slice none 0 0, .slice none 0 0, .slice none 0 0] ?_); intro b0 W0 N0; have ob0 := N0.ge; have B := N0.below; obtain ⟨X0, c0, f0⟩ := N0.a; clear N0) | fail)
  refine (isSize_is m _ true (by simp only [decide_eq_true_eq]; exact hs)).mono ?_
  rintro e W9 ⟨rfl, rfl⟩
  go_wp2_with fail
  refine (isIdOf_is m 0 hs _ true (by simp only [decide_eq_true_eq]; exact hi)).mono ?_
  rintro e W8 ⟨rfl, rfl⟩
  go_wp2_with (first | ((have g := ob0); clear g; (with_reducible refine box_newX 109 [.int .i64 0, .int .i64 m, .int .i64 0, .bool false, .int .i64 0, .slice none 0 0, .int .i64 0, .slice none 0 0, .slice none 0 0, .slice none 0 0, .slice none 0 0] rfl ?_); intro b1 W1 N1; have ob1 := N1.o B; have o0_b1 := N1.u X0; replace X0 := N1.r X0; replace c0 := X0.cell; replace f0 := X0.froz; replace B := N1.n B; obtain ⟨X1, c1, f1⟩ := N1.a; clear N1) | fail)
  refine (becomeNormal_first m (by omega) b1 _ X1).mono ?_
  rintro e w1 ⟨rfl, g, hg1, lR, X1', R, K⟩
  have obg : b1 < g := Nat.lt_of_lt_of_le X1.lt hg1
  have o0g : b0 < g := Nat.lt_of_lt_of_le X0.lt hg1
  have hwg : w.heap.size ≤ g := Nat.le_trans B.size hg1
  replace X0 := X0.kept K (by omega)
  replace c0 := X0.cell
  replace f0 := X0.froz
  replace X1 := X1'
  clear X1'
  replace c1 := X1.cell
  replace f1 := X1.froz
  replace B := B.trans (K.below _ (by omega) B.size)
  clear K
  go_wp2_with fail
  refine (answer_is 0 m 0 true 0 (none, 0, 0) 0 (some ⟨g, 0, none⟩, m, m) (none, 0, 0) (none, 0, 0) (none, 0, 0) b1 _ X1).mono ?_
  rintro e w2 ⟨rfl, BB⟩
  replace X0 := X0.below BB
  replace c0 := X0.cell
  replace f0 := X0.froz
  replace X1 := X1.below BB
  replace c1 := X1.cell
  replace f1 := X1.froz
  replace R := R.below BB
  replace lR := Nat.lt_of_lt_of_le lR BB.size
  replace B := below_next B BB
  clear BB
  go_wp2_with (first | ((with_reducible refine sm 33 X0 0 [.int .i64 0, .int .i64 0, .int .i64 m, .int .i64 0, .bool true, .int .i64 0, .slice none 0 0, .int .i64 0, .slice (some ⟨g, 0, none⟩) m m, .slice none 0 0, .slice none 0 0, .slice none 0 0] ?_); intro V1 S; replace X0 : Bx V1 b0 [.int .i64 0, .int .i64 0, .int .i64 m, .int .i64 0, .bool true, .int .i64 0, .slice none 0 0, .int .i64 0, .slice (some ⟨g, 0, none⟩) m m, .slice none 0 0, .slice none 0 0, .slice none 0 0] := S.bx; replace c0 := X0.cell; replace f0 := X0.froz; replace X1 := X1.kp S.kept; replace c1 := X1.cell; replace f1 := X1.froz; replace R := R.kept S.kept (by omega); replace lR := Nat.lt_of_lt_of_le lR S.kept.size; replace B := bkp B S.kept; clear S))
  refine bodyPost_ret (v := .agg #[.int .i64 0, .int .i64 0, .int .i64 m, .int .i64 0, .bool true, .int .i64 0, .slice none 0 0, .int .i64 0, .slice (some ⟨g, 0, none⟩) m m, .slice none 0 0, .slice none 0 0, .slice none 0 0]) (by simp [results, Tryz.results20, go_sem, *]) rfl ⟨(some ⟨g, 0, none⟩), m, m, rfl, by omega, R.widen (by omega) (by omega), B⟩
 rw [if_neg h0]
 have hid : 1 ≤ id ∧ id ≤ 4 := by omega
 go_enter Tryz.func20, Tryz.ntmps20
 go_wp2_with (first | ((with_reducible refine al 33 [.int .i64 0, .int .i64 0, .int .i64 0, .int .i64 0, .bool false, .int .i64 0, .slice none 0 0, .int .i64 0, .slice none 0 0, .slice none 0 0, .slice none 0 0, .slice none 0 0] ?_); intro b0 W0 N0; have ob0 := N0.ge; have B := N0.below; obtain ⟨X0, c0, f0⟩ := N0.a; clear N0) | fail)
 refine (isSize_is m _ true (by simp only [decide_eq_true_eq]; exact hs)).mono ?_
 rintro e W9 ⟨rfl, rfl⟩
 go_wp2_with fail
 refine (isIdOf_is m id hs _ true (by simp only [decide_eq_true_eq]; exact hi)).mono ?_
 rintro e W8 ⟨rfl, rfl⟩
 go_wp2_with (first | ((have g := ob0); clear g; (with_reducible refine box_newX 109 [.int .i64 id, .int .i64 m, .int .i64 0, .bool false, .int .i64 0, .slice none 0 0, .int .i64 0, .slice none 0 0, .slice none 0 0, .slice none 0 0, .slice none 0 0] rfl ?_); intro b1 W1 N1; have ob1 := N1.o B; have o0_b1 := N1.u X0; replace X0 := N1.r X0; replace c0 := X0.cell; replace f0 := X0.froz; replace B := N1.n B; obtain ⟨X1, c1, f1⟩ := N1.a; clear N1) | fail)
 refine (becomeNormal_other id hid m (by omega) b1 _ X1).mono ?_
 rintro e w1 ⟨rfl, X1', K⟩
 replace X0 := X0.kept K (by omega)
 replace c0 := X0.cell
 replace f0 := X0.froz
 replace X1 := X1'
 clear X1'
 replace c1 := X1.cell
 replace f1 := X1.froz
 replace B := B.trans (K.below _ (by omega) B.size)
 clear K
 go_wp2_with fail
 refine (answer_is id m 0 true 0 (none, 0, 0) 0 (none, 0, 0) (none, 0, 0) (none, 0, 0) (none, 0, 0) b1 _ X1).mono ?_
 rintro e w2 ⟨rfl, BB⟩
 replace X0 := X0.below BB
 replace c0 := X0.cell
 replace f0 := X0.froz
 replace X1 := X1.below BB
 replace c1 := X1.cell
 replace f1 := X1.froz
 replace B := below_next B BB
 clear BB
 go_wp2_with (first | ((with_reducible refine sm 33 X0 0 [.int .i64 0, .int .i64 id, .int .i64 m, .int .i64 0, .bool true, .int .i64 0, .slice none 0 0, .int .i64 0, .slice none 0 0, .slice none 0 0, .slice none 0 0, .slice none 0 0] ?_); intro V1 S; replace X0 : Bx V1 b0 [.int .i64 0, .int .i64 id, .int .i64 m, .int .i64 0, .bool true, .int .i64 0, .slice none 0 0, .int .i64 0, .slice none 0 0, .slice none 0 0, .slice none 0 0, .slice none 0 0] := S.bx; replace c0 := X0.cell; replace f0 := X0.froz; replace X1 := X1.kp S.kept; replace c1 := X1.cell; replace f1 := X1.froz; replace B := bkp B S.kept; clear S))
 refine bodyPost_ret (v := .agg #[.int .i64 0, .int .i64 id, .int .i64 m, .int .i64 0, .bool true, .int .i64 0, .slice none 0 0, .int .i64 0, .slice none 0 0, .slice none 0 0, .slice none 0 0, .slice none 0 0]) (by simp [results, Tryz.results20, go_sem, *]) rfl ⟨none, 0, 0, rfl, by omega, RowAt.nilR _ _ _ _ _ _ _, B⟩
theorem l9Bad_is (c : Int) (w : World) : Calls Tryz.prog 69 #[.int .i64 c] w fun e w' => e = .returned (.agg #[.int .i64 c, .int .i64 0, .int .i64 0, .int .i64 0, .bool false, .int .i64 0, .slice none 0 0, .int .i64 0, .slice none 0 0, .slice none 0 0, .slice none 0 0, .slice none 0 0]) ∧ Below w.heap.size w w' := by
 go_enter Tryz.func69, Tryz.ntmps69
 go_wp2_with (first | ((with_reducible refine sm 33 X0 0 [.int .i64 c, .int .i64 0, .int .i64 0, .int .i64 0, .bool false, .int .i64 0, .slice none 0 0, .int .i64 0, .slice none 0 0, .slice none 0 0, .slice none 0 0, .slice none 0 0] ?_); intro V1 S; replace X0 : Bx V1 b0 [.int .i64 c, .int .i64 0, .int .i64 0, .int .i64 0, .bool false, .int .i64 0, .slice none 0 0, .int .i64 0, .slice none 0 0, .slice none 0 0, .slice none 0 0, .slice none 0 0] := S.bx; replace c0 := X0.cell; replace f0 := X0.froz; replace B := bkp B S.kept; clear S) | ((with_reducible refine al 33 [.int .i64 0, .int .i64 0, .int .i64 0, .int .i64 0, .bool false, .int .i64 0, .slice none 0 0, .int .i64 0, .slice none 0 0, .slice none 0 0, .slice none 0 0, .slice none 0 0] ?_); intro b0 W0 N0; have ob0 := N0.ge; have B := N0.below; obtain ⟨X0, c0, f0⟩ := N0.a; clear N0))
 refine bodyPost_ret (v := .agg #[.int .i64 c, .int .i64 0, .int .i64 0, .int .i64 0, .bool false, .int .i64 0, .slice none 0 0, .int .i64 0, .slice none 0 0, .slice none 0 0, .slice none 0 0, .slice none 0 0]) (by simp [results, Tryz.results69, go_sem, *]) rfl ⟨rfl, B⟩
end Go.Proofs.YtonclmbihhdkpaaGreat
