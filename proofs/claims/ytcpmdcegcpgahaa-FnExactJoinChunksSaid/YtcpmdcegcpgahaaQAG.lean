/- Chapter 14: chunks put together, by the model. -/
import Derived.Test.YtcpmdcegcpgahaaQAE
import Derived.Test.YtcpmdcegcpgahaaQAB
import Derived.Test.YtcpmdcegcpgahaaQAF
import Derived.Deep.DeepCutAuto
import Derived.Deep.RegionLaw
import Derived.Test.YtcpmdcegcpgahaaQAD
set_option maxRecDepth 20000
set_option maxHeartbeats 16000000
namespace Go.Proofs.Ytcpmdcegcpgahaa
open Go.RowKit
def okRow (r : List Int) : Bool := decide (1 ≤ r.length ∧ r.length ≤ 20)
def chkC (rs : List (List Int)) : Int := if 300 < rs.length ∨ 300 < lens rs rs.length then 2 else if rs.all okRow = true then 0 else 1
def chkL (rs : List (List Int)) : List Int := if chkC rs = 0 then rs.flatten else []
theorem chkC_many {rs : List (List Int)} (h : 300 < rs.length ∨ 300 < lens rs rs.length) : chkC rs = 2 := by unfold chkC; rw [if_pos h]
theorem chkC_form {rs : List (List Int)} (h1 : rs.length ≤ 300) (h2 : lens rs rs.length ≤ 300) {k : Nat} (hk : k < rs.length) (h : ¬ (1 ≤ (rs.getD k []).length ∧ (rs.getD k []).length ≤ 20)) : chkC rs = 1 := by
 unfold chkC
 rw [if_neg (by omega), if_neg]
 intro q
 have := List.all_eq_true.1 q (rs.getD k []) (by simp [List.getD, hk])
 exact h (of_decide_eq_true this)
theorem chkC_ok {rs : List (List Int)} (h1 : rs.length ≤ 300) (h2 : lens rs rs.length ≤ 300) (h : ∀ k, k < rs.length → 1 ≤ (rs.getD k []).length ∧ (rs.getD k []).length ≤ 20) : chkC rs = 0 := by
 unfold chkC
 rw [if_neg (by omega), if_pos]
 refine List.all_eq_true.2 fun x hx => ?_
 obtain ⟨k, hk, rfl⟩ := List.mem_iff_getElem.1 hx
 have := h k hk
 rw [List.getD_eq_getElem?_getD, List.getElem?_eq_getElem hk, Option.getD_some] at this
 exact decide_eq_true this
theorem chkL_bad {rs : List (List Int)} (h : chkC rs ≠ 0) : chkL rs = [] := by unfold chkL; rw [if_neg h]
theorem chkL_ok {rs : List (List Int)} (h : chkC rs = 0) : chkL rs = rs.flatten := by unfold chkL; rw [if_pos h]
theorem chk_bad {rs : List (List Int)} {c : Int} (h : chkC rs = c) {w w' : World} (B : Below w.heap.size w w') (hc : c ≠ 0 := by decide) : IntsRes w w' (.returned (.agg #[.int .i64 c, .slice none 0 0])) (chkC rs) (chkL rs) := by
 rw [chkL_bad (by rw [h]; exact hc), h]
 exact ⟨none, 0, 0, rfl, RowAt.nil _ _ _ _ _, B⟩
def catR (rs : List (List Int)) (k : Nat) : List Int := (rs.take k).flatten
theorem catR_succ {rs : List (List Int)} {k : Nat} (h : k < rs.length) : catR rs (k + 1) = catR rs k ++ rs.getD k [] := by
 unfold catR
 rw [List.take_succ_eq_append_getElem h, List.flatten_append, List.getD_eq_getElem?_getD, List.getElem?_eq_getElem h, Option.getD_some]
 simp
theorem catR_len (rs : List (List Int)) (k : Nat) : (catR rs k).length = lens rs k := by unfold catR lens; rw [List.length_flatten]
theorem catR_all (rs : List (List Int)) : catR rs rs.length = rs.flatten := by unfold catR; rw [List.take_of_length_le (Nat.le_refl _)]
theorem specJoin_is {o : Bool} {lo hi : Nat} (ao : Option Addr) (n cap : Nat) (vs : List Value) (rs : List (List Int)) (w : World) (r : RowAt w o lo hi 1 ao n cap vs) (q : RecsRO w vs rs) (hr : rs.length = n) (hn : n ≤ 1048576) (hs : lens rs rs.length ≤ 1048576) (cd : Int) (ys : List Int) (hc : chkC rs = cd) (hy : chkL rs = ys) : Calls Try.prog 9 #[.slice ao n cap] w fun e w' => IntsRes w w' e cd ys := by
 have hnm : n ≤ maxLen := by unfold maxLen; omega
 by_cases h3 : 300 < n
 ·have h3i : (300 : Int) < (n : Int) := by omega
  go_enter Try.func9, Try.ntmps9
  go_wp2_with (first | ((with_reducible refine store_midX 26 X0 0 [.int .i64 2, .slice none 0 0] (by simp) (by kernel_rfl) (by simp [Value.oneCell']) rfl rfl ?_); intro V1 S; replace X0 : Bx V1 b0 [.int .i64 2, .slice none 0 0] := S.bx; replace c0 := X0.cell; replace f0 := X0.froz; replace B := bkp B S.kept; clear S) | ((with_reducible refine alloc_newX 26 [.int .i64 0, .slice none 0 0] (fun _ => by kernel_rfl) ?_); intro b0 W0 N0; have ob0 := N0.ge; have B := N0.below; have X0 := N0.bx; have c0 := X0.cell; have f0 := X0.froz; clear N0))
  refine bodyPost_ret (v := .agg #[.int .i64 2, .slice none 0 0]) (by simp [results, Try.results9, go_sem, *]) rfl ?_
  rw [← hc, ← hy]
  exact chk_bad (chkC_many (Or.inl (by omega))) B
 have h3i : ¬ (300 : Int) < (n : Int) := by omega
 go_enter Try.func9, Try.ntmps9
 go_wp2_with (first | ((with_reducible refine alloc_newX 26 [.int .i64 0, .slice none 0 0] (fun _ => by kernel_rfl) ?_); intro b0 W0 N0; have ob0 := N0.ge; have B := N0.below; have X0 := N0.bx; have c0 := X0.cell; have f0 := X0.froz; clear N0) | fail)
 have HX0 : Hid _ := X0
 have HB : Hid _ := B
 skip
 go_loopw [3, 4] (fun s i wr => ∃ k : Nat, k ≤ n ∧ i = .int .i64 k ∧ s = .int .i64 (lens rs k) ∧ lens rs k ≤ 300 ∧ wr = W0) (fun _ i _ => n - (intOf i).toNat)
 case atStart => exact ⟨0, Nat.zero_le _, rfl, rfl, by simp [lens], rfl⟩
 case round =>
  obtain ⟨k, hk, rfl, rfl, h300, hwr⟩ := hrel
  cases hwr
  by_cases hlt : k < n
  ·have hlk : (k : Int) < (n : Int) := by omega
   obtain ⟨o1, a1, m, d1, lx1, ux1, e1, hmk, g1⟩ := q.each k (by omega)
   obtain ⟨bb, fb, rfl, hbs, e0⟩ := r.elem hlt e1
   replace e0 := cell_later B e0
   have hs1 := lens_succ (rs := rs) (i := k) (by omega)
   rw [g1.nInts] at hs1
   have hmu := lens_mono rs (k + 1)
   have HSU : Hid _ := hs1
   have hm20 : m ≤ 1048576 := by omega
   clear e1 g1
   by_cases hov : 300 < lens rs k + m
   ·have hmany : Hid (300 < lens rs rs.length) := (by omega : 300 < lens rs rs.length)
    clear hs1 hmu HSU
    generalize lens rs k = z at *
    have hov' : (300 : Int) < (z : Int) + (m : Int) := by omega
    skip
    go_wp2_with (first | ((with_reducible refine store_midX 26 X0 0 [.int .i64 2, .slice none 0 0] (by simp) (by kernel_rfl) (by simp [Value.oneCell']) rfl rfl ?_); intro V1 S; replace X0 : Bx V1 b0 [.int .i64 2, .slice none 0 0] := S.bx; replace c0 := X0.cell; replace f0 := X0.froz; replace B := bkp B S.kept; clear S))
    refine bodyPost_ret (v := .agg #[.int .i64 2, .slice none 0 0]) (by simp [results, Try.results9, go_sem, *]) rfl ?_
    rw [← hc, ← hy]
    exact chk_bad (chkC_many (Or.inr hmany.out)) B
   ·have HN : Hid (lens rs (k + 1) ≤ 300) := (by omega : lens rs (k + 1) ≤ 300)
    have HE : Hid ((lens rs k : Int) + (m : Int) = (lens rs (k + 1) : Nat)) := (by omega : (lens rs k : Int) + (m : Int) = (lens rs (k + 1) : Nat))
    clear hs1 hmu HSU
    generalize lens rs k = z at *
    have hov' : ¬ (300 : Int) < (z : Int) + (m : Int) := by omega
    have hml : m ≤ 300 := by omega
    go_wp2
    go_roundw
    case rel => exact ⟨k + 1, by omega, by go_num, by rw [HE.out], HN.out, by first | rfl | trivial⟩
    case measure => simp [intOf]; omega
  ·obtain rfl : k = n := by omega
   have h3l : lens rs rs.length ≤ 300 := by rw [hr]; exact h300
   go_upto_region 11 with (first | ((with_reducible refine store_midX 26 X1 0 [.int .i64 0, .slice none 0 0] (by simp) (by kernel_rfl) (by simp [Value.oneCell']) rfl rfl ?_); intro V1 S; replace X0 := X0.kp S.kept; replace c0 := X0.cell; replace f0 := X0.froz; replace X1 : Bx V1 b1 [.int .i64 0, .slice none 0 0] := S.bx; replace c1 := X1.cell; replace f1 := X1.froz; replace B := bkp B S.kept; clear S) | ((have g := ob0); clear g; (with_reducible refine alloc_newX 26 [.int .i64 0, .slice none 0 0] (fun _ => by kernel_rfl) ?_); intro b1 W1 N1; have ob1 := Nat.le_trans B.size N1.ge; have o0_b1 := ltl X0.lt N1.ge; replace X0 := X0.below N1.below; replace c0 := X0.cell; replace f0 := X0.froz; replace B := below_next B N1.below; have X1 := N1.bx; have c1 := X1.cell; have f1 := X1.froz; clear N1) | fail)
   obtain ⟨zz, hzz⟩ : ∃ zz, zz = V1.heap.size := ⟨_, rfl⟩
   have lz0 : b0 < zz := by rw [hzz]; exact X0.lt
   have lz1 : b1 < zz := by rw [hzz]; exact X1.lt
   have lw : w.heap.size ≤ zz := by rw [hzz]; exact B.size
   have hzl : zz ≤ V1.heap.size := Nat.le_of_eq hzz
   have HX0 : Hid _ := X0
   have HX1 : Hid _ := X1
   have HB : Hid _ := B
   clear hzz X0 B c0 f0 X1 c1 f1
   go_wp2
   go_loopw [6] (fun iv wr => ∃ (j : Nat) (v : Value), j ≤ k ∧ iv = .int .i64 j ∧ Bx wr b0 [.int .i64 0, .slice none 0 0] ∧ Bx wr b1 [.int .i64 0, v] ∧ wr.ownsRow zz 2 1 v (lens rs j) (ints (catR rs j)) ∧ Hid (∀ i, i < j → 1 ≤ (rs.getD i []).length ∧ (rs.getD i []).length ≤ 20) ∧ zz ≤ wr.heap.size ∧ Below w.heap.size w wr) (fun iv _ => k - (intOf iv).toNat)
   case atStart => exact ⟨0, _, Nat.zero_le _, rfl, HX0.out, HX1.out, by simpa [catR, lens, ints] using World.ownsRow_nil _ _ _ _, fun i hi => absurd hi (Nat.not_lt_zero _), hzl, HB.out⟩
   case round =>
    obtain ⟨j, v, hj, rfl, X0, X1, OW, HR, LZ, B⟩ := hrel
    clear HX0 HX1 HB hzl
    have c0 := X0.cell
    have f0 := X0.froz
    have c1 := X1.cell
    have f1 := X1.froz
    by_cases hjt : j < k
    ·have hjk : (j : Int) < (k : Int) := by omega
     obtain ⟨o1, a1, m, d1, lx1, ux1, e1, hmk, g1⟩ := q.each j (by omega)
     obtain ⟨bb, fb, rfl, hbs, e0⟩ := r.elem hjt e1
     replace e0 := cell_later B e0
     have hs1 := lens_succ (rs := rs) (i := j) (by omega)
     have hnl := g1.nInts
     rw [hnl] at hs1
     have hmu := lens_mono rs (j + 1)
     have hml : m ≤ 300 := by omega
     have HSU : Hid _ := hs1
     have HCT : Hid _ := catR_succ (rs := rs) (k := j) (by omega)
     have hcl := catR_len rs j
     clear e1
     by_cases hm0 : m = 0
     ·subst hm0
      have hbad : Hid (chkC rs = 1) := chkC_form (by omega) h3l (k := j) (by omega) (by omega)
      clear HSU HCT hs1
      go_wp2_with (first | ((with_reducible refine store_midX 26 X0 0 [.int .i64 1, .slice none 0 0] (by simp) (by kernel_rfl) (by simp [Value.oneCell']) rfl rfl ?_); intro V21 S; replace X0 : Bx V21 b0 [.int .i64 1, .slice none 0 0] := S.bx; replace c0 := X0.cell; replace f0 := X0.froz; replace X1 := X1.kp S.kept; replace c1 := X1.cell; replace f1 := X1.froz; replace LZ := Nat.le_trans LZ S.kept.size; replace B := bkp B S.kept; clear S))
      refine bodyPost_ret (v := .agg #[.int .i64 1, .slice none 0 0]) (by simp [results, Try.results9, go_sem, *]) rfl ?_
      rw [← hc, ← hy]
      exact chk_bad hbad.out B
     have hm0i : ¬ ((m : Int) = 0) := by omega
     have hm0b : ((m : Int) == 0) = false := by simp [hm0]
     by_cases h20 : 20 < m
     ·have h20i : (20 : Int) < (m : Int) := by omega
      have hbad : Hid (chkC rs = 1) := chkC_form (by omega) h3l (k := j) (by omega) (by omega)
      clear HSU HCT hs1
      go_wp2_with (first | ((with_reducible refine store_midX 26 X0 0 [.int .i64 1, .slice none 0 0] (by simp) (by kernel_rfl) (by simp [Value.oneCell']) rfl rfl ?_); intro V31 S; replace X0 : Bx V31 b0 [.int .i64 1, .slice none 0 0] := S.bx; replace c0 := X0.cell; replace f0 := X0.froz; replace X1 := X1.kp S.kept; replace c1 := X1.cell; replace f1 := X1.froz; replace LZ := Nat.le_trans LZ S.kept.size; replace B := bkp B S.kept; clear S))
      refine bodyPost_ret (v := .agg #[.int .i64 1, .slice none 0 0]) (by simp [results, Try.results9, go_sem, *]) rfl ?_
      rw [← hc, ← hy]
      exact chk_bad hbad.out B
     have h20i : ¬ (20 : Int) < (m : Int) := by omega
     have HR2 : Hid (∀ i, i < j + 1 → 1 ≤ (rs.getD i []).length ∧ (rs.getD i []).length ≤ 20) := fun i hi => by
      by_cases e : i = j
      ·subst e; omega
      ·exact HR.out i (by omega)
     have HSI : Hid (lens rs j + m = lens rs (j + 1)) := (by omega : _ = _)
     have hcs : lens rs j ≤ 300 := by omega
     replace g1 := g1.below B
     clear hs1 hmu hnl HR HSU hcl
     obtain ⟨ad, had, -⟩ : ∃ ad, a1 = some ad ∧ True := by
      obtain ⟨b, off, e, _⟩ := g1.cells (by omega)
      exact ⟨_, e, trivial⟩
     subst had
     generalize rs.getD j [] = row at *
     obtain ⟨cat, hcat⟩ : ∃ cat, catR rs j = cat := ⟨_, rfl⟩
     rw [hcat] at OW HCT
     have HOW : Hid _ := OW
     clear OW hcat
     obtain ⟨ln, hln⟩ : ∃ ln, lens rs j = ln := ⟨_, rfl⟩
     rw [hln] at HOW HSI hcs
     clear hln
     go_wp2_with fail
     have DQ : Below wr.heap.size wr wr.drew := (Below.refl _ _).drew
     replace X0 := X0.below DQ
     replace c0 := X0.cell
     replace f0 := X0.froz
     replace X1 := X1.below DQ
     replace c1 := X1.cell
     replace f1 := X1.froz
     replace LZ := Nat.le_trans LZ DQ.size
     replace B := below_next B DQ
     clear DQ
     replace HOW : Hid _ := owns_below HOW.out (Below.refl wr.heap.size wr).drew
     replace e0 := cell_later (Below.refl wr.heap.size wr).drew e0
     replace g1 := g1.below (Below.refl wr.heap.size wr).drew
     have LZD := LZ
     refine wp_region_held_drew (S := (fun _ => True)) (by kernel_rfl) trivial (fun hZq => ?_)
     refine tk 0 hZq ?_
     refine tk 2 hZq ?_
     refine tk 3 hZq ?_
     refine tk 4 hZq ?_
     refine wpAnyH_ready (rs := [1, 5]) (by kernel_rfl) (by simp) ?_
     refine (AllReadyH.cons rfl (fun KK hKK => ?_) (AllReadyH.cons rfl (fun KK hKK => ?_) AllReadyH.nil))
     ·rw [if_pos (by simp [Region.wanted])]
      unfold Oper.wp execOp
      go_simp
      clear hZq
      refine hKK _ _ trivial (fun hZq => ?_)
      clear hKK KK
      refine rd1 5 (fun KK hKK => ?_)
      rw [if_pos (by simp [Region.wanted])]
      unfold Oper.wp execOp
      go_simp
      clear hZq
      refine hKK _ _ trivial (fun hZq => ?_)
      clear hKK KK
      refine rd1 6 (fun KK hKK => ?_)
      refine step_app rfl _ _ rfl zz HOW.out ad m d1 row g1 rfl rfl (by omega) LZD (Below.refl zz _) (Nat.le_refl _) ?_
      intro v' w6 O6 BL
      have HO6 : Hid _ := O6
      replace X0 := X0.low BL lz0
      replace c0 := X0.cell
      replace f0 := X0.froz
      replace X1 := X1.low BL lz1
      replace c1 := X1.cell
      replace f1 := X1.froz
      replace LZ := Nat.le_trans LZ BL.size
      replace B := B.trans (BL.mono lw)
      clear BL O6
      clear hZq
      refine hKK _ _ trivial (fun hZq => ?_)
      clear hKK KK
      refine tk 7 hZq ?_
      refine rd1 8 (fun KK hKK => ?_)
      obtain ⟨sa, sc, hv', _, _⟩ := owns_slice HO6.out
      subst hv'
      refine step_oneX 24 X1 1 (.slice sa (ln + m) sc) (by simp) (by kernel_rfl) rfl rfl rfl ?_
      intro V7 S
      have HO7 : Hid _ := owns_kept HO6.out S.kept (fun g hg => Or.inr (by have := (World.ownsRow.lt HO6.out g hg).1; omega))
      replace X0 := X0.kp S.kept
      replace c0 := X0.cell
      replace f0 := X0.froz
      replace X1 : Bx V7 b1 [.int .i64 0, .slice sa (ln + m) sc] := S.bx
      replace c1 := X1.cell
      replace f1 := X1.froz
      replace LZ := Nat.le_trans LZ S.kept.size
      replace B := bkp B S.kept
      clear S
      clear hZq
      refine hKK _ _ trivial (fun hZq => ?_)
      clear hKK KK
      refine wpAnyH_done (by kernel_rfl) ?_ _
      have H0 : Hid _ := X0
      have H1 : Hid _ := X1
      have HLZ : Hid _ := LZ
      have HB2 : Hid _ := B
      clear X0 X1 c0 f0 c1 f1 LZ B HOW HO6 e0 g1
      go_wp2
      go_roundw
      case rel => exact ⟨j + 1, _, by omega, by go_num, H0.out, H1.out, by rw [← HSI.out, HCT.out]; exact HO7.out, HR2, HLZ.out, HB2.out⟩
      case measure => simp [intOf]; omega
     ·rw [if_pos (by simp [Region.wanted])]
      unfold Oper.wp execOp
      go_simp
      clear hZq
      refine hKK _ _ trivial (fun hZq => ?_)
      clear hKK KK
      refine rd1 1 (fun KK hKK => ?_)
      rw [if_pos (by simp [Region.wanted])]
      unfold Oper.wp execOp
      go_simp
      clear hZq
      refine hKK _ _ trivial (fun hZq => ?_)
      clear hKK KK
      refine rd1 6 (fun KK hKK => ?_)
      refine step_app rfl _ _ rfl zz HOW.out ad m d1 row g1 rfl rfl (by omega) LZD (Below.refl zz _) (Nat.le_refl _) ?_
      intro v' w6 O6 BL
      have HO6 : Hid _ := O6
      replace X0 := X0.low BL lz0
      replace c0 := X0.cell
      replace f0 := X0.froz
      replace X1 := X1.low BL lz1
      replace c1 := X1.cell
      replace f1 := X1.froz
      replace LZ := Nat.le_trans LZ BL.size
      replace B := B.trans (BL.mono lw)
      clear BL O6
      clear hZq
      refine hKK _ _ trivial (fun hZq => ?_)
      clear hKK KK
      refine tk 7 hZq ?_
      refine rd1 8 (fun KK hKK => ?_)
      obtain ⟨sa, sc, hv', _, _⟩ := owns_slice HO6.out
      subst hv'
      refine step_oneX 24 X1 1 (.slice sa (ln + m) sc) (by simp) (by kernel_rfl) rfl rfl rfl ?_
      intro V7 S
      have HO7 : Hid _ := owns_kept HO6.out S.kept (fun g hg => Or.inr (by have := (World.ownsRow.lt HO6.out g hg).1; omega))
      replace X0 := X0.kp S.kept
      replace c0 := X0.cell
      replace f0 := X0.froz
      replace X1 : Bx V7 b1 [.int .i64 0, .slice sa (ln + m) sc] := S.bx
      replace c1 := X1.cell
      replace f1 := X1.froz
      replace LZ := Nat.le_trans LZ S.kept.size
      replace B := bkp B S.kept
      clear S
      clear hZq
      refine hKK _ _ trivial (fun hZq => ?_)
      clear hKK KK
      refine wpAnyH_done (by kernel_rfl) ?_ _
      have H0 : Hid _ := X0
      have H1 : Hid _ := X1
      have HLZ : Hid _ := LZ
      have HB2 : Hid _ := B
      clear X0 X1 c0 f0 c1 f1 LZ B HOW HO6 e0 g1
      go_wp2
      go_roundw
      case rel => exact ⟨j + 1, _, by omega, by go_num, H0.out, H1.out, by rw [← HSI.out, HCT.out]; exact HO7.out, HR2, HLZ.out, HB2.out⟩
      case measure => simp [intOf]; omega
    ·obtain rfl : j = k := by omega
     have hz := HR.out
     have HC0 : Hid (chkC rs = 0) := chkC_ok (by omega) h3l (fun i hi => hz i (by omega))
     obtain ⟨sa, sc, rfl, R0, _⟩ := owns_slice OW
     have HR0 : Hid _ := R0
     clear OW hz R0
     go_wp2_with (first | ((with_reducible refine store_midX 26 X0 0 [.int .i64 0, .slice sa (lens rs j) sc] (by simp) (by kernel_rfl) (by simp [Value.oneCell']) rfl rfl ?_); intro V10 S; replace X0 : Bx V10 b0 [.int .i64 0, .slice sa (lens rs j) sc] := S.bx; replace c0 := X0.cell; replace f0 := X0.froz; replace X1 := X1.kp S.kept; replace c1 := X1.cell; replace f1 := X1.froz; replace B := bkp B S.kept; have hk2 := S.kept; clear S))
     have L2 := (HR0.out.kept hk2 (by omega)).widen lw hk2.size
     refine bodyPost_ret (v := .agg #[.int .i64 0, .slice sa (lens rs j) sc]) (by simp [results, Try.results9, go_sem, *]) rfl ?_
     rw [← hc, ← hy, chkL_ok HC0.out, HC0.out, ← catR_all, hr]
     exact ⟨sa, lens rs j, sc, rfl, L2, B⟩
theorem lens_at {rs : List (List Int)} (h : ∀ k, k < rs.length → 1 ≤ (rs.getD k []).length) {i j : Nat} (hij : i < j) (hj : j ≤ rs.length) : lens rs i < lens rs j := by
 have h1 := lens_succ (rs := rs) (i := i) (by omega)
 have h2 := lens_up rs (show i + 1 ≤ j by omega)
 have := h i (by omega)
 omega
theorem blk_of_owns {w : World} {base : Nat} {e : TypeId} {g n : Nat} {cs : List Value} (h : w.ownsRow base e 1 (.slice (some ⟨g, 0, none⟩) n n) n cs) : Blk w g e cs := by
 rcases h.2 with ⟨q, _⟩ | ⟨g', cap, cur, hv, _, hh, _, _, hs, ht⟩
 ·cases q
 ·simp only [Value.slice.injEq, Option.some.injEq, Addr.mk.injEq, and_true] at hv
  obtain ⟨rfl, _, rfl⟩ := hv
  unfold Blk
  rw [hh, ← ht, List.take_of_length_le (by simp [hs])]
theorem blk_row {w : World} {g : Nat} {e : TypeId} {cs : List Value} (h : Blk w g e cs) : RowAt w true g (g + 1) 1 (some ⟨g, 0, none⟩) cs.length cs.length cs :=
 ⟨by omega, Nat.le_refl _, fun _ => ⟨g, 0, rfl, Nat.le_refl _, Nat.lt_succ_self _, h.lt, fun i hi => by
  have hi' : i < cs.length := by omega
  rw [Nat.zero_add, h.cell (List.getElem?_eq_getElem hi'), List.getD_eq_getElem?_getD, List.getElem?_eq_getElem hi']; rfl, fun _ i _ => by rw [Nat.zero_add]; exact h.froz i⟩⟩
theorem blk_kept {w : World} {g : Nat} {M : Array Value} : Kept g (g + 1) w (w.setRow g M) :=
 ⟨rfl, rfl, rfl, by rw [setRow_size]; exact Nat.le_refl _, fun k _ hne => setRow_other _ _ _ _ (by omega)⟩
def zes (n : Nat) : List Value := List.replicate n (.int .i64 0)
theorem made_zes (n : Nat) : (madeCells #[Value.int .i64 0] n).toList = zes n := by
 apply List.ext_getElem?
 intro j
 unfold zes
 by_cases hj : j < n
 ·simp [madeCells, hj, Nat.mod_one]
 ·simp [madeCells, hj]
def catV (rs : List (List Int)) (j L : Nat) : List Value := ints (catR rs j) ++ zes (L - lens rs j)
theorem ints_lenC (xs : List Int) : (ints xs).length = xs.length := by simp [ints]
theorem catV_len {rs : List (List Int)} {j L : Nat} (h : lens rs j ≤ L) : (catV rs j L).length = L := by
 unfold catV zes; rw [List.length_append, ints_lenC, catR_len, List.length_replicate]; omega
theorem catV_zero (rs : List (List Int)) (L : Nat) : catV rs 0 L = zes L := by simp [catV, catR, lens, ints]
theorem catV_all (rs : List (List Int)) : catV rs rs.length (lens rs rs.length) = ints rs.flatten := by
 unfold catV zes; rw [catR_all, Nat.sub_self]; simp
theorem catV_succ {rs : List (List Int)} {j L : Nat} (hj : j < rs.length) (h : lens rs (j + 1) ≤ L) : (catV rs j L).take (lens rs j) ++ ints (rs.getD j []) ++ (catV rs j L).drop (lens rs j + (ints (rs.getD j [])).length) = catV rs (j + 1) L := by
 have hs := lens_succ hj
 have hl : (ints (catR rs j)).length = lens rs j := by rw [ints_lenC, catR_len]
 have e : (ints (rs.getD j [])).length = (rs.getD j []).length := ints_lenC _
 unfold catV
 rw [catR_succ hj, ints_appendM, e]
 congr 1
 ·rw [List.take_append_of_le_length (by omega), List.take_of_length_le (by omega)]
 ·rw [List.drop_append, List.drop_of_length_le (by omega), hl, List.nil_append]
  unfold zes
  rw [List.drop_replicate]
  congr 1
  omega
theorem lengthOf_is {o : Bool} {lo hi : Nat} (ao : Option Addr) (n cap : Nat) (vs : List Value) (rs : List (List Int)) (w : World) (r : RowAt w o lo hi 1 ao n cap vs) (q : RecsRO w vs rs) (hr : rs.length = n) (hn : n ≤ 1048576) (hs : lens rs rs.length ≤ 1048576) (z : Nat) (hz : lens rs rs.length = z) :
  Calls Try.prog 46 #[.slice ao n cap] w fun e w' => e = .returned (.int .i64 (z : Int)) ∧ w' = w := by
 go_enter Try.func46, Try.ntmps46
 go_wp2
 go_loopw [3, 8] (fun s i wr => ∃ k : Nat, k ≤ n ∧ i = .int .i64 k ∧ s = .int .i64 (lens rs k) ∧ wr = w) (fun _ i _ => n - (intOf i).toNat)
 case atStart => exact ⟨0, Nat.zero_le _, rfl, rfl, rfl⟩
 case round =>
  obtain ⟨k, hk, rfl, rfl, hw⟩ := hrel
  cases hw
  by_cases hlt : k < n
  ·have hlk : (k : Int) < (n : Int) := by omega
   obtain ⟨o1, a1, m, d1, lx1, ux1, e1, hmk, g1⟩ := q.each k (by omega)
   obtain ⟨bb, fb, rfl, hbs, e0⟩ := r.elem hlt e1
   have hs1 := lens_succ (rs := rs) (i := k) (by omega)
   rw [g1.nInts] at hs1
   have hmu := lens_mono rs (k + 1)
   have HE : Hid ((lens rs k : Int) + (m : Int) = (lens rs (k + 1) : Nat)) := (by omega : (lens rs k : Int) + (m : Int) = (lens rs (k + 1) : Nat))
   have hq1 : lens rs k ≤ 1048576 := by omega
   have hq2 : m ≤ 1048576 := by omega
   clear e1 g1 hs1 hmu
   generalize lens rs k = y at *
   go_wp2
   go_roundw
   case rel => exact ⟨k + 1, by omega, by go_num, by rw [HE.out], by first | rfl | trivial⟩
   case measure => simp [intOf]; omega
  ·obtain rfl : k = n := by omega
   have hlk : ¬ ((k : Nat) : Int) < (k : Nat) := by omega
   rw [hr] at hz
   rw [hz]
   go_wp2
   go_ret
   exact ⟨rfl, rfl⟩
theorem joined_is {o : Bool} {lo hi : Nat} (ao : Option Addr) (n cap : Nat) (vs : List Value) (rs : List (List Int)) (w : World) (r : RowAt w o lo hi 1 ao n cap vs) (q : RecsRO w vs rs) (hr : rs.length = n) (hn : n ≤ 300) (hs : lens rs rs.length ≤ 300) (hok : ∀ k, k < rs.length → 1 ≤ (rs.getD k []).length ∧ (rs.getD k []).length ≤ 20) :
  Calls Try.prog 47 #[.slice ao n cap] w fun e w' => ∃ a m c, e = .returned (.slice a m c) ∧ RowAt w' true w.heap.size w'.heap.size 1 a m c (ints rs.flatten) ∧ Below w.heap.size w w' := by
 obtain ⟨L, hL⟩ : ∃ L, lens rs rs.length = L := ⟨_, rfl⟩
 obtain ⟨i0, hi0, hz0, hz1, hz2⟩ := info_parts Try.info2'
 have HOK : Hid _ := hok
 clear hok
 have hL3 : L ≤ 300 := by omega
 go_enter Try.func47, Try.ntmps47
 go_wp2_with fail
 refine (lengthOf_is ao n cap vs rs _ r q hr (by omega) (by omega) L hL).mono ?_
 rintro e W ⟨rfl, rfl⟩
 go_wp2_with (first | (at_make; refine wpList_make_full _ rfl _ _ 24 rfl W.heap.size 2 i0 (.int .i64 0) 1 Try.underlying24 hi0 hz0 hz1 _ _ _ _ L rfl rfl rfl rfl ?b1 ?b2 ?b3 ?_))
 case b1 => rw [hz2]; omega
 case b2 => unfold maxLen; omega
 case b3 => exact Nat.le_refl _
 intro w1 hown hgrow
 have hb1 : Below W.heap.size W w1 := (Below.refl _ _).grown hgrow (Nat.le_refl _) (fun k hk => by cases hk)
 replace hown : w1.ownsRow W.heap.size 2 1 (.slice (some ⟨W.heap.size, 0, none⟩) L L) L (zes L) := by simpa [Value.cells, made_zes] using hown
 have K0 : Blk w1 W.heap.size 2 (catV rs 0 L) := by rw [catV_zero]; exact blk_of_owns hown
 have hgw := K0.lt
 obtain ⟨g, hg⟩ : ∃ g, g = W.heap.size := ⟨_, rfl⟩
 rw [← hg] at K0 hgw
 have HK0 : Hid _ := K0
 have HB1 : Hid _ := hb1
 clear hown hgrow K0 hb1
 have HG : Hid (g = W.heap.size) := hg
 go_wp2
 try rw [← hg]
 clear hg
 go_loopw [4, 13] (fun rest i wr => ∃ (k off : Nat), k ≤ n ∧ i = .int .i64 k ∧ rest = .slice (some ⟨g, off, none⟩) (L - lens rs k) (L - lens rs k) ∧ (k < n → off = lens rs k) ∧ Blk wr g 2 (catV rs k L) ∧ Below W.heap.size W wr) (fun _ i _ => n - (intOf i).toNat)
 case atStart => exact ⟨0, 0, Nat.zero_le _, rfl, rfl, fun _ => rfl, HK0.out, HB1.out⟩
 case round =>
  obtain ⟨k, off, hk, rfl, rfl, hoff, KB, hb⟩ := hrel
  clear HK0 HB1
  by_cases hlt : k < n
  ·have hlk : (k : Int) < (n : Int) := by omega
   obtain rfl := hoff hlt
   obtain ⟨o1, a1, m, d1, lx1, ux1, e1, hmk, g1⟩ := q.each k (by omega)
   obtain ⟨bb, fb, rfl, hbs, e0⟩ := r.elem hlt e1
   replace e0 := cell_later hb e0
   replace g1 := g1.below hb
   have hs1 := lens_succ (rs := rs) (i := k) (by omega)
   have hnl := g1.nInts
   rw [hnl] at hs1
   have hmu := lens_mono rs (k + 1)
   have hmk1 := HOK.out k (by omega)
   rw [hnl] at hmk1
   obtain ⟨ad, had, hsrc⟩ : ∃ ad, a1 = some ad ∧ ∀ j v, (ints (rs.getD k []))[j]? = some v → wr.cell? (ad.add j) = some v := by
    obtain ⟨b, off, e, _, _, _, hc, _⟩ := g1.cells (by omega)
    refine ⟨_, e, fun j v hj => ?_⟩
    have hjl : j < (ints (rs.getD k [])).length := (List.getElem?_eq_some_iff.1 hj).1
    rw [ints_lenC] at hjl
    have := hc j (by omega)
    rw [List.getD_eq_getElem?_getD, hj, Option.getD_some] at this
    rw [Addr.add_lit]; exact this
   subst had
   have hil : (ints (rs.getD k [])).length = m := by rw [ints_lenC]; exact hnl
   have hcl := catV_len (rs := rs) (j := k) (L := L) (by omega)
   have hcp := fun ty => run_copy_wide (P := Try.prog) wr 24 24 ty 2 1 g (lens rs k) (L - lens rs k) (L - lens rs k) ad m d1 _ 2 (ints (rs.getD k [])) Try.underlying24 (by kernel_rfl) KB (by rw [hil, Nat.mul_one]; exact Nat.min_eq_left (by omega)) hsrc (by rw [hil, hcl]; omega) (ints_oneM _)
   rw [show Nat.min m (L - lens rs k) = m from Nat.min_eq_left (by omega), catV_succ (by omega) (by omega)] at hcp
   have K2 : Kept g (g + 1) wr (wr.setRow g (catV rs (k + 1) L).toArray) := blk_kept
   have KB2 : Blk (wr.setRow g (catV rs (k + 1) L).toArray) g 2 (catV rs (k + 1) L) := KB.set
   have hb2 : Below W.heap.size W (wr.setRow g (catV rs (k + 1) L).toArray) := hb.trans (K2.below _ (by have := HG.out; omega) hb.size)
   have HKB : Hid _ := KB2
   have HB2 : Hid _ := hb2
   have HS : Hid _ := hs1
   have HAT : Hid (k + 1 < n → lens rs k + m < L) := fun h => by
    have h1 := lens_at (rs := rs) (fun k hk => (HOK.out k hk).1) (i := k + 1) (j := rs.length) (by omega) (by omega)
    omega
   have hle : lens rs k + m ≤ L := by omega
   clear KB K2 KB2 hb hb2 hcl hil hsrc e1 g1 hnl hmu hs1
   generalize hwq : wr.setRow g (catV rs (k + 1) L).toArray = wq at *
   clear hwq
   obtain ⟨y, hy⟩ : ∃ y, lens rs k = y := ⟨_, rfl⟩
   rw [hy] at hcp HS HAT hle
   rw [hy]
   clear hy
   have hsm : (m : Int) ≤ ((L - y : Nat) : Int) := by omega
   by_cases hlast : m = L - y
   ·obtain rfl := hlast
    go_wp2
    go_roundw
    case rel => exact ⟨k + 1, y, by omega, by go_num, by rw [HS.out]; congr 1 <;> omega, fun h => absurd (HAT.out h) (by omega), HKB.out, HB2.out⟩
    case measure => simp [intOf]; omega
   ·have hne : ¬ (L - y - m = 0) := by omega
    have hneI : ¬ (m : Int) = ((L - y : Nat) : Int) := by omega
    go_wp2
    go_roundw
    case rel => exact ⟨k + 1, y + m, by omega, by go_num, by rw [HS.out]; congr 1 <;> omega, fun _ => HS.out.symm, HKB.out, HB2.out⟩
    case measure => simp [intOf]; omega
  ·obtain rfl : k = n := by omega
   have hlk : ¬ ((k : Nat) : Int) < (k : Nat) := by omega
   have hR := blk_row KB
   rw [catV_len (by rw [← hr, hL]; exact Nat.le_refl _), ← hr, ← hL, catV_all] at hR
   have HR : Hid _ := hR
   have hgw2 := KB.lt
   clear hR KB
   go_wp2
   go_ret
   refine ⟨_, _, _, rfl, ?_, hb⟩
   rw [← hL]
   exact HR.out.widen (by have := HG.out; omega) (by omega)
theorem implJoin_is {o : Bool} {lo hi : Nat} (ao : Option Addr) (n cap : Nat) (vs : List Value) (rs : List (List Int)) (w : World) (r : RowAt w o lo hi 1 ao n cap vs) (q : RecsRO w vs rs) (hr : rs.length = n) (hn : n ≤ 1048576) (hs : lens rs rs.length ≤ 1048576) (cd : Int) (ys : List Int) (hc : chkC rs = cd) (hy : chkL rs = ys) : Calls Try.prog 11 #[.slice ao n cap] w fun e w' => IntsRes w w' e cd ys := by
 have hnm : n ≤ maxLen := by unfold maxLen; omega
 by_cases h3 : 300 < n
 ·have h3i : (300 : Int) < (n : Int) := by omega
  go_enter Try.func11, Try.ntmps11
  go_wp2_with (first | ((with_reducible refine store_midX 26 X0 0 [.int .i64 2, .slice none 0 0] (by simp) (by kernel_rfl) (by simp [Value.oneCell']) rfl rfl ?_); intro V1 S; replace X0 : Bx V1 b0 [.int .i64 2, .slice none 0 0] := S.bx; replace c0 := X0.cell; replace f0 := X0.froz; replace B := bkp B S.kept; clear S) | ((with_reducible refine alloc_newX 26 [.int .i64 0, .slice none 0 0] (fun _ => by kernel_rfl) ?_); intro b0 W0 N0; have ob0 := N0.ge; have B := N0.below; have X0 := N0.bx; have c0 := X0.cell; have f0 := X0.froz; clear N0))
  refine bodyPost_ret (v := .agg #[.int .i64 2, .slice none 0 0]) (by simp [results, Try.results11, go_sem, *]) rfl ?_
  rw [← hc, ← hy]
  exact chk_bad (chkC_many (Or.inl (by omega))) B
 have h3i : ¬ (300 : Int) < (n : Int) := by omega
 obtain ⟨L, hL⟩ : ∃ L, lens rs rs.length = L := ⟨_, rfl⟩
 go_enter Try.func11, Try.ntmps11
 go_wp2_with (first | ((with_reducible refine alloc_newX 26 [.int .i64 0, .slice none 0 0] (fun _ => by kernel_rfl) ?_); intro b0 W0 N0; have ob0 := N0.ge; have B := N0.below; have X0 := N0.bx; have c0 := X0.cell; have f0 := X0.froz; clear N0) | fail)
 refine (lengthOf_is ao n cap vs rs _ (r.below B) (q.below B) hr hn hs L hL).mono ?_
 rintro e W9 ⟨rfl, rfl⟩
 by_cases hov : 300 < L
 ·have hovi : (300 : Int) < (L : Int) := by omega
  go_wp2_with (first | ((with_reducible refine store_midX 26 X0 0 [.int .i64 2, .slice none 0 0] (by simp) (by kernel_rfl) (by simp [Value.oneCell']) rfl rfl ?_); intro V1 S; replace X0 : Bx V1 b0 [.int .i64 2, .slice none 0 0] := S.bx; replace c0 := X0.cell; replace f0 := X0.froz; replace B := bkp B S.kept; clear S))
  refine bodyPost_ret (v := .agg #[.int .i64 2, .slice none 0 0]) (by simp [results, Try.results11, go_sem, *]) rfl ?_
  rw [← hc, ← hy]
  exact chk_bad (chkC_many (Or.inr (by omega))) B
 ·have hovi : ¬ (300 : Int) < (L : Int) := by omega
  have hLr : lens rs rs.length ≤ 300 := by omega
  have HX0 : Hid _ := X0
  have HB : Hid _ := B
  go_wp2
  go_loopw [16] (fun i wr => ∃ k : Nat, k ≤ n ∧ i = .int .i64 k ∧ Hid (∀ i, i < k → 1 ≤ (rs.getD i []).length ∧ (rs.getD i []).length ≤ 20) ∧ wr = W9) (fun i _ => n - (intOf i).toNat)
  case atStart => exact ⟨0, Nat.zero_le _, rfl, fun i hi => absurd hi (Nat.not_lt_zero _), rfl⟩
  case round =>
   obtain ⟨k, hk, rfl, HR, hwr⟩ := hrel
   cases hwr
   by_cases hlt : k < n
   ·have hlk : (k : Int) < (n : Int) := by omega
    obtain ⟨o1, a1, m, d1, lx1, ux1, e1, hmk, g1⟩ := q.each k (by omega)
    obtain ⟨bb, fb, rfl, hbs, e0⟩ := r.elem hlt e1
    replace e0 := cell_later B e0
    have hs1 := lens_succ (rs := rs) (i := k) (by omega)
    have hnl := g1.nInts
    rw [hnl] at hs1
    have hmu := lens_mono rs (k + 1)
    have hml : m ≤ 300 := by omega
    clear e1 g1 hs1 hmu
    by_cases hm0 : m = 0
    ·subst hm0
     have hbad : Hid (chkC rs = 1) := chkC_form (by omega) hLr (k := k) (by omega) (by omega)
     clear hnl
     go_wp2_with (first | ((with_reducible refine store_midX 26 X0 0 [.int .i64 1, .slice none 0 0] (by simp) (by kernel_rfl) (by simp [Value.oneCell']) rfl rfl ?_); intro V1 S; replace X0 : Bx V1 b0 [.int .i64 1, .slice none 0 0] := S.bx; replace c0 := X0.cell; replace f0 := X0.froz; replace B := bkp B S.kept; clear S))
     refine bodyPost_ret (v := .agg #[.int .i64 1, .slice none 0 0]) (by simp [results, Try.results11, go_sem, *]) rfl ?_
     rw [← hc, ← hy]
     exact chk_bad hbad.out B
    have hm0i : ¬ ((m : Int) = 0) := by omega
    have hm0b : ((m : Int) == 0) = false := by simp [hm0]
    by_cases h20 : 20 < m
    ·have h20i : (20 : Int) < (m : Int) := by omega
     have hbad : Hid (chkC rs = 1) := chkC_form (by omega) hLr (k := k) (by omega) (by omega)
     clear hnl
     go_wp2_with (first | ((with_reducible refine store_midX 26 X0 0 [.int .i64 1, .slice none 0 0] (by simp) (by kernel_rfl) (by simp [Value.oneCell']) rfl rfl ?_); intro V1 S; replace X0 : Bx V1 b0 [.int .i64 1, .slice none 0 0] := S.bx; replace c0 := X0.cell; replace f0 := X0.froz; replace B := bkp B S.kept; clear S))
     refine bodyPost_ret (v := .agg #[.int .i64 1, .slice none 0 0]) (by simp [results, Try.results11, go_sem, *]) rfl ?_
     rw [← hc, ← hy]
     exact chk_bad hbad.out B
    have h20i : ¬ (20 : Int) < (m : Int) := by omega
    have HR2 : Hid (∀ i, i < k + 1 → 1 ≤ (rs.getD i []).length ∧ (rs.getD i []).length ≤ 20) := fun i hi => by
     by_cases e : i = k
     ·subst e; omega
     ·exact HR.out i (by omega)
    clear hnl HR
    go_wp2
    go_roundw
    case rel => exact ⟨k + 1, by omega, by go_num, HR2, by first | rfl | trivial⟩
    case measure => simp [intOf]; omega
   ·obtain rfl : k = n := by omega
    have hlk : ¬ ((k : Nat) : Int) < (k : Nat) := by omega
    have HRF : Hid (∀ i, i < rs.length → 1 ≤ (rs.getD i []).length ∧ (rs.getD i []).length ≤ 20) := fun i hi => HR.out i (by omega)
    have HC0 : Hid (chkC rs = 0) := chkC_ok (by omega) hLr HRF.out
    clear HR
    go_wp2_with fail
    have hb0w := X0.lt
    have hBw := B.size
    refine (joined_is ao k cap vs rs _ (r.below B) (q.below B) hr (by omega) hLr HRF.out).mono ?_
    rintro e w2 ⟨ja, jm, jc, rfl, RJ, BB⟩
    replace X0 := X0.below BB
    replace c0 := X0.cell
    replace f0 := X0.froz
    replace B := below_next B BB
    clear BB
    have HRJ : Hid _ := RJ
    clear RJ
    go_wp2_with (first | ((with_reducible refine store_midX 26 X0 0 [.int .i64 0, .slice ja jm jc] (by simp) (by kernel_rfl) (by simp [Value.oneCell']) rfl rfl ?_); intro V1 S; replace X0 : Bx V1 b0 [.int .i64 0, .slice ja jm jc] := S.bx; replace c0 := X0.cell; replace f0 := X0.froz; replace B := bkp B S.kept; have hk2 := S.kept; clear S))
    have L2 := (HRJ.out.kept hk2 (by omega)).widen (by omega) hk2.size
    refine bodyPost_ret (v := .agg #[.int .i64 0, .slice ja jm jc]) (by simp [results, Try.results11, go_sem, *]) rfl ?_
    rw [← hc, ← hy, chkL_ok HC0.out, HC0.out]
    exact ⟨ja, jm, jc, rfl, L2, B⟩
end Go.Proofs.Ytcpmdcegcpgahaa
