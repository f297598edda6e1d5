/- Chapter 9, plain: what a first one is once it took an entry. No program is named here. -/
import Derived.Test.YtikplcpgocgogaaWX
import Derived.Test.YtikplcpgocgogaaWC
import Derived.Test.YtikplcpgocgogaaI5a
import Derived.Test.YtikplcpgocgogaaSm
import Derived.Test.YtikplcpgocgogaaCopy
import Derived.Deep.MidRow
import Derived.Deep.RegionHeld3
import Derived.Test.YtikplcpgocgogaaMark2
import Derived.Deep.WholeRow
namespace Go.Proofs.Ytikplcpgocgogaa
open Go.RowKit

theorem firstF_snoc (en : En) (he : enFault en = 0) : ∀ xs : List En, firstF xs = 0 → firstF (xs ++ [en]) = 0
  | [], _ => by simp [firstF, he]
  | x :: t, h => by
    simp only [firstF, List.cons_append] at h ⊢
    by_cases e : enFault x = 0
    · rw [if_pos e] at h ⊢; exact firstF_snoc en he t h
    · rw [if_neg e] at h; exact absurd h e
theorem oksF_more {m n : Nat} (hmn : m ≤ n) : ∀ xs : List Int, oksF m xs = 0 → oksF n xs = 0
  | [], _ => rfl
  | x :: t, h => by
    simp only [oksF] at h ⊢
    by_cases e : 0 ≤ x ∧ x ≤ m
    · rw [if_pos e] at h; rw [if_pos (by omega)]; exact oksF_more hmn t h
    · rw [if_neg e] at h; cases h
theorem agrTo_in (oks : List Int) (id size : Int) : ∀ k : Nat, 0 ≤ agrTo oks id size k ∧ agrTo oks id size k ≤ k
  | 0 => by simp [agrTo]
  | k + 1 => by
    have := agrTo_in oks id size k
    simp only [agrTo]
    split
    · constructor <;> omega
    · constructor <;> omega
theorem othL_card (i : Nat) : ∀ k : Nat, (othL i k).length = if i < k then k - 1 else k
  | 0 => by simp [othL]
  | k + 1 => by
    have ih := othL_card i k
    rw [othL]
    by_cases e : k = i
    · rw [if_pos e, ih]
      split <;> split <;> omega
    · rw [if_neg e, List.length_append, ih]
      simp only [List.length_cons, List.length_nil]
      split <;> split <;> omega
structure AskOk (r : Rep) (en : En) : Prop where
  led : Led r
  lead : r.view % r.size = r.id
  norm : r.normal = true
  log : (askQ r en).log = r.log ++ [en]
  rep : repF (askQ r en) = 0
  ledQ : ledF (askQ r en) = 0
  agr : agrR (askQ r en) ≤ (askQ r en).commit
  len : ((askM r en).length : Int) = r.size - 1
  mail : ∀ i, i < (askM r en).length → ((askM r en).getD i ml0).kind = 1 ∧ ((askM r en).getD i ml0).en = en ∧ ((askM r en).getD i ml0).at_ = (r.log.length : Int)
theorem ask_ok {r : Rep} {en : En} (h : askC r en = 0) : AskOk r en := by
  have eq : askQ r en = takeQ r en := by unfold askQ; rw [if_pos h]
  have em : askM r en = takeM r en := by unfold askM; rw [if_pos h]
  have h1 : ledF r = 0 := by
    unfold askC at h
    by_cases e : ledF r = 0
    · exact e
    · rw [if_neg e] at h; exact absurd h e
  have h2 : enFault en = 0 := by
    unfold askC at h
    rw [if_pos h1] at h
    by_cases e : enFault en = 0
    · exact e
    · rw [if_neg e] at h; exact absurd h e
  have h3 : r.log.length ≠ 40 := by
    unfold askC at h
    rw [if_pos h1, if_pos h2] at h
    intro e
    rw [if_pos e] at h; cases h
  obtain ⟨hr, hl, L⟩ := led_ok h1
  obtain ⟨hn, hlg, hv, hsz, hok, hdr⟩ := rep_ok hr
  have hlen := L.log
  have hlog : (takeQ r en).log = r.log ++ [en] := rfl
  have hll : (r.log ++ [en]).length = r.log.length + 1 := by simp
  have hA := agrTo_in r.oks r.id r.size (r.log ++ [en]).length
  have eA : agrR (tookR r en) = agrTo r.oks r.id r.size (r.log ++ [en]).length := rfl
  have hcm := L.commit
  have hcQ : (takeQ r en).commit = agrM (tookR r en) := rfl
  have hcb : 0 ≤ agrM (tookR r en) ∧ agrM (tookR r en) ≤ ((r.log ++ [en]).length : Int) := by
    unfold agrM
    rw [eA]
    have e2 : (tookR r en).commit = r.commit := rfl
    rw [e2]
    split <;> omega
  have hF : logF (r.log ++ [en]) = 0 := by
    have l0 : logF r.log = 0 := by
      unfold lgF at hlg
      by_cases e : logF r.log = 0
      · exact e
      · rw [if_neg e] at hlg; exact absurd hlg e
    unfold logF at l0 ⊢
    rw [if_neg (by omega)] at l0
    rw [if_neg (by omega)]
    exact firstF_snoc en h2 _ l0
  have hrep : repF (takeQ r en) = 0 := by
    have n1 : numsP (takeQ r en) := hn
    have l1 : lgF (takeQ r en).log (takeQ r en).commit = 0 := by
      unfold lgF
      rw [hlog, hcQ, if_pos hF, if_pos hcb]
    have s1 : sizesP (takeQ r en) := hsz
    have o1 : oksF (takeQ r en).log.length (takeQ r en).oks = 0 := by rw [hlog, hll]; exact oksF_more (Nat.le_succ _) _ hok
    have d1 : drsF (takeQ r en).doers = 0 := hdr
    unfold repF
    rw [if_pos n1, if_pos l1, if_neg, if_pos o1, d1]
    rintro (⟨a, b⟩ | a)
    · exact b (hv a)
    · exact a s1
  have hled : ledF (takeQ r en) = 0 := by unfold ledF; rw [if_pos hrep, if_pos (show leadsB (takeQ r en) = true from hl)]
  have hlead : r.normal = true ∧ r.view % r.size = r.id := by
    unfold leadsB at hl
    simpa using hl
  have hml : (takeM r en).length = (othL r.id.toNat r.size.toNat).length := by simp [takeM]
  refine ⟨L, hlead.2, hlead.1, by rw [eq]; exact hlog, by rw [eq]; exact hrep, by rw [eq]; exact hled, ?_, ?_, ?_⟩
  · rw [eq]
    have e3 : agrR (takeQ r en) = agrR (tookR r en) := rfl
    rw [e3, hcQ]
    unfold agrM
    split <;> omega
  · rw [em, hml, othL_card, if_pos (by have := L.id; have := L.size; omega)]
    have := L.size
    omega
  · rw [em]
    intro i hi
    have hi2 : i < (othL r.id.toNat r.size.toNat).length := by rw [← hml]; exact hi
    have g : (takeM r en).getD i ml0 = putM (prepM (takeQ r en) r.log.length) r.id ((othL r.id.toNat r.size.toNat)[i]) r.view := by
      simp [takeM, List.getD, hi2]
    rw [g]
    have p : prepM (takeQ r en) r.log.length = ⟨1, 0, 0, 0, (r.log.length : Int), true, en, 0, [], (takeQ r en).commit⟩ := by
      unfold prepM
      rw [hlog, hll, if_pos (Nat.lt_succ_self _)]
      have : (r.log ++ [en]).getD r.log.length en0 = en := by simp [List.getD]
      rw [this]
    rw [p]
    exact ⟨rfl, rfl, rfl⟩

end Go.Proofs.Ytikplcpgocgogaa

/- PrimaryOf of the program. -/
namespace Go.Proofs.Ytikplcpgocgogaa
open Go.RowKit

def primR (view size : Int) : Int × Int := if (0 ≤ view ∧ view ≤ 200) ∧ (1 ≤ size ∧ size ≤ 5) then (0, view % size) else (3, 0)
set_option maxRecDepth 20000 in
set_option maxHeartbeats 2000000 in
theorem implPrim_is (view size : Int) (w : World) (c v : Int) (hd : primR view size = (c, v)) : Calls Try.prog 12 #[.int .i64 view, .int .i64 size] w fun e w' => e = .returned (.agg #[.int .i64 c, .int .i64 v]) ∧ Below w.heap.size w w' := by
  unfold primR at hd
  by_cases hv : 0 ≤ view ∧ view ≤ 200
  rotate_left 1
  · rw [if_neg (by omega)] at hd
    simp only [Prod.mk.injEq] at hd
    obtain ⟨rfl, rfl⟩ := hd
    go_enter Try.func12, Try.ntmps12
    go_wp2_with (first | ((with_reducible refine alloc_newX 41 [.int .i64 0, .int .i64 0] (fun _ => by kernel_rfl) ?_); intro b0 W0 N0; have ob0 : w.heap.size ≤ b0 := N0.ge; have B := N0.below; have X0 := N0.bx; have c0 := X0.cell; have f0 := X0.froz; clear N0) | fail)
    refine (isView_is view _ false (by simp only [decide_eq_false_eq]; exact hv)).mono ?_
    rintro e W9 ⟨rfl, rfl⟩
    go_wp2_with (first | ((with_reducible refine store_midX 41 X0 0 [.int .i64 3, .int .i64 0] (by simp) (by kernel_rfl) (by simp [Value.oneCell']) rfl rfl ?_); intro V1 S; replace X0 : Bx V1 b0 [.int .i64 3, .int .i64 0] := S.bx; replace c0 := X0.cell; replace f0 := X0.froz; replace B := B.trans (S.kept.below _ (by omega) B.size); clear S))
    refine bodyPost_ret (v := .agg #[.int .i64 3, .int .i64 0]) (by simp [results, Try.results12, go_sem, *]) rfl ⟨rfl, B⟩
  by_cases hs : 1 ≤ size ∧ size ≤ 5
  rotate_left 1
  · rw [if_neg (by omega)] at hd
    simp only [Prod.mk.injEq] at hd
    obtain ⟨rfl, rfl⟩ := hd
    go_enter Try.func12, Try.ntmps12
    go_wp2_with (first | ((with_reducible refine alloc_newX 41 [.int .i64 0, .int .i64 0] (fun _ => by kernel_rfl) ?_); intro b0 W0 N0; have ob0 : w.heap.size ≤ b0 := N0.ge; have B := N0.below; have X0 := N0.bx; have c0 := X0.cell; have f0 := X0.froz; clear N0) | fail)
    refine (isView_is view _ true (by simp only [decide_eq_true_eq]; exact hv)).mono ?_
    rintro e W9 ⟨rfl, rfl⟩
    go_wp2_with fail
    refine (isSize_is size _ false (by simp only [decide_eq_false_eq]; exact hs)).mono ?_
    rintro e W9 ⟨rfl, rfl⟩
    go_wp2_with (first | ((with_reducible refine store_midX 41 X0 0 [.int .i64 3, .int .i64 0] (by simp) (by kernel_rfl) (by simp [Value.oneCell']) rfl rfl ?_); intro V2 S; replace X0 : Bx V2 b0 [.int .i64 3, .int .i64 0] := S.bx; replace c0 := X0.cell; replace f0 := X0.froz; replace B := B.trans (S.kept.below _ (by omega) B.size); clear S))
    refine bodyPost_ret (v := .agg #[.int .i64 3, .int .i64 0]) (by simp [results, Try.results12, go_sem, *]) rfl ⟨rfl, B⟩
  rw [if_pos ⟨hv, hs⟩] at hd
  simp only [Prod.mk.injEq] at hd
  obtain ⟨rfl, rfl⟩ := hd
  go_enter Try.func12, Try.ntmps12
  go_wp2_with (first | ((with_reducible refine alloc_newX 41 [.int .i64 0, .int .i64 0] (fun _ => by kernel_rfl) ?_); intro b0 W0 N0; have ob0 : w.heap.size ≤ b0 := N0.ge; have B := N0.below; have X0 := N0.bx; have c0 := X0.cell; have f0 := X0.froz; clear N0) | fail)
  refine (isView_is view _ true (by simp only [decide_eq_true_eq]; exact hv)).mono ?_
  rintro e W9 ⟨rfl, rfl⟩
  go_wp2_with fail
  refine (isSize_is size _ true (by simp only [decide_eq_true_eq]; exact hs)).mono ?_
  rintro e W9 ⟨rfl, rfl⟩
  go_wp2_with fail
  refine (firstOf_is view size hs (by omega) _).mono ?_
  rintro e W8 ⟨rfl, rfl⟩
  go_wp2_with (first | ((with_reducible refine store_midX 41 X0 0 [.int .i64 0, .int .i64 (view % size)] (by simp) (by kernel_rfl) (by simp [Value.oneCell']) rfl rfl ?_); intro V3 S; replace X0 : Bx V3 b0 [.int .i64 0, .int .i64 (view % size)] := S.bx; replace c0 := X0.cell; replace f0 := X0.froz; replace B := B.trans (S.kept.below _ (by omega) B.size); clear S))
  refine bodyPost_ret (v := .agg #[.int .i64 0, .int .i64 (view % size)]) (by simp [results, Try.results12, go_sem, *]) rfl ⟨rfl, B⟩

end Go.Proofs.Ytikplcpgocgogaa
