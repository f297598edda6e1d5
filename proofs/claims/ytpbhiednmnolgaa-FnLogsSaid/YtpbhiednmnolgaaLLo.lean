/- What two logs have in common is a beginning of both, and the best log is of the greatest view: the law FnLogs is true at every argument, with no condition. -/
import Derived.Test.YtpbhiednmnolgaaEX
import Derived.Test.YtpbhiednmnolgaaRows
import Derived.Test.YtpbhiednmnolgaaXH
import Derived.Test.YtpbhiednmnolgaaXJ
import Derived.Test.YtpbhiednmnolgaaFacts2
import Derived.Test.YtpbhiednmnolgaaXB
namespace Go.Proofs.Ytpbhiednmnolgaa
open Go.RowKit

set_option maxRecDepth 20000 in
set_option maxHeartbeats 8000000 in
theorem lawLogs (ac : Option Addr) (nc cc : Nat) (cs : List Nat) (w : World) (h : RowAt w false 0 w.heap.size 1 ac nc cc (bys cs)) (hcs : ∀ i, cs.getD i 0 < 256) (hn : nc ≤ maxLen) :
    Calls Try.prog 4 #[.slice ac nc cc] w fun e w' => e = .returned (.bool true) ∧ Below w.heap.size w w' := by
  unfold maxLen at hn
  have B : Below w.heap.size w w := Below.refl _ _
  by_cases hbig : 1048576 < nc
  · go_enter Try.func4, Try.ntmps4
    go_wp2_with fail
    refine (lwBig_is ac nc cc _ true (by simp; exact hbig)).mono ?_
    rintro e w1 ⟨rfl, rfl⟩
    go_wp2
    go_ret
    exact ⟨rfl, B⟩
  have hc : nc ≤ 1048576 := by omega
  have fC : ∀ (c v : Int) (w : World), (Instr.field 49 (.agg #[.int .i64 c, .int .i64 v]) 0).run Try.prog w = .ok (.int .i64 c) w := fun c v w => by kernel_rfl
  go_enter Try.func4, Try.ntmps4
  go_wp2_with fail
  refine (lwBig_is ac nc cc _ false (by simp; omega)).mono ?_
  rintro e w0 ⟨rfl, rfl⟩
  go_wp2_with fail
  refine (drawCommon_any ac nc cc cs _ (by exact h) hcs (Nat.le_refl _) hc).mono ?_
  rintro e w1 ⟨g0, n0, c0, xs, g1, n1, c1, ys, rfl, hn0, hn1, R0, R1, hb⟩
  replace B := below_next B hb
  have S1 := hb.size
  clear hb
  have hl0 := R0.nSixs
  have hl1 := R1.nSixs
  have hle := commN_le xs ys
  obtain ⟨k, hk⟩ : ∃ k, commN xs ys = k := ⟨_, rfl⟩
  have HT1 : Hid (decide (commN (xs.take k) ys = k) = true) := by show _ = _; rw [← hk]; exact decide_eq_true (comm_take xs ys)
  have HT2 : Hid (decide (commN (ys.take k) xs = k) = true) := by show _ = _; rw [← hk, ← comm_sym xs ys]; exact decide_eq_true (comm_take ys xs)
  rw [hk] at hle
  have HK : Hid _ := hk
  clear hk
  obtain ⟨d, hd⟩ : ∃ d, decide (commN xs ys = n0) = d := ⟨_, rfl⟩
  have HD : Hid _ := hd
  have HDK : Hid (decide (k = n0) = d) := by rw [HK.out] at hd; exact hd
  have hk0 : k ≤ n0 := by omega
  have hk1 : k ≤ n1 := by omega
  clear hd hl0 hl1
  have hkc0 : k ≤ c0 := Nat.le_trans hk0 R0.le
  have hkc1 : k ≤ c1 := Nat.le_trans hk1 R1.le
  have i0 : decide ((k : Int) < 0) = false := decide_eq_false (by omega)
  have i1 : decide (n0 < k) = false := decide_eq_false (by omega)
  have i2 : decide (n1 < k) = false := decide_eq_false (by omega)
  have i3 : ((k : Int) != (k : Int)) = false := by simp
  clear hle
  go_wp2_with fail
  refine (implCommon_is _ _ n0 c0 n1 c1 xs ys _ R0 R1 (by omega) k HK.out).mono ?_
  rintro e w2 ⟨rfl, hb⟩
  replace R0 := R0.below hb
  replace R1 := R1.below hb
  replace B := below_next B hb
  have S2 := hb.size
  clear hb
  go_wp2_with fail
  refine (specCommon_is _ _ n0 c0 n1 c1 xs ys _ R0 R1 (by omega) k HK.out).mono ?_
  rintro e w3 ⟨rfl, hb⟩
  replace R0 := R0.below hb
  replace R1 := R1.below hb
  replace B := below_next B hb
  have S3 := hb.size
  clear hb
  go_wp2_with fail
  refine (implIsB_is _ _ k c0 n1 c1 (xs.take k) ys _ (R0.front6 hk0) R1 (by omega) true HT1.out).mono ?_
  rintro e w4 ⟨rfl, hb⟩
  replace R0 := R0.below hb
  replace R1 := R1.below hb
  replace B := below_next B hb
  have S4 := hb.size
  clear hb
  go_wp2_with fail
  refine (implIsB_is _ _ k c1 n0 c0 (ys.take k) xs _ (R1.front6 hk1) R0 (by omega) true HT2.out).mono ?_
  rintro e w5 ⟨rfl, hb⟩
  replace R0 := R0.below hb
  replace R1 := R1.below hb
  replace B := below_next B hb
  have S5 := hb.size
  clear hb
  go_wp2_with fail
  refine (implIsB_is _ _ n0 c0 n1 c1 xs ys _ R0 R1 (by omega) d HD.out).mono ?_
  rintro e w6 ⟨rfl, hb⟩
  replace R0 := R0.below hb
  replace R1 := R1.below hb
  replace B := below_next B hb
  have S6 := hb.size
  clear hb
  have hdk : (d != ((k : Int) == (n0 : Int))) = false := by
    rw [← HDK.out]
    by_cases e : k = n0
    · simp [e]
    · have e' : ¬ (k : Int) = (n0 : Int) := by omega
      simp [e, e']
  have hdk2 : (d != decide ((k : Int) = (n0 : Int))) = false := by
    have q := hdk
    by_cases e : (k : Int) = (n0 : Int)
    · rw [decide_eq_true e]; rw [show ((k : Int) == (n0 : Int)) = true by simp [e]] at q; exact q
    · rw [decide_eq_false e]; rw [show ((k : Int) == (n0 : Int)) = false by simp [e]] at q; exact q
  have hdk3 : (!(d == ((k : Int) == (n0 : Int)))) = false := hdk
  clear HK HT1 HT2 HD HDK hdk hdk2
  go_wp2_with fail
  refine (drawBest_any ac nc cc cs _ (by exact h.below B) hcs B.size hc).mono ?_
  rintro e w7 ⟨a2, n2, c2, ls, a3, n3, c3, hs, xss, rfl, hn2, hn3, R2, R3, hb⟩
  replace R0 := R0.below hb
  replace R1 := R1.below hb
  replace B := below_next B hb
  have S7 := hb.size
  clear hb
  obtain ⟨⟨cd, vl⟩, hr⟩ : ∃ r, bestR ls xss = r := ⟨_, rfl⟩
  have HR : Hid _ := hr
  clear hr
  go_wp2_with fail
  refine (implBest_is _ _ n2 c2 n3 c3 hs ls xss _ R2 R3 (by omega) cd vl HR.out).mono ?_
  rintro e w8 ⟨rfl, hb⟩
  replace R0 := R0.below hb
  replace R1 := R1.below hb
  replace R2 := R2.below hb
  replace R3 := R3.below hb
  replace B := below_next B hb
  have S8 := hb.size
  clear hb
  by_cases z : cd = 0
  rotate_left 1
  · have hz : (cd != 0) = true := by simp [z]
    have hq : (cd == cd) = true := by simp
    go_wp2_with fail
    have A9 : Below w8.heap.size w8 (w8.alloc (.cells #[.int .i64 cd, .int .i64 (vl : Int)] 49)) := (Below.refl _ _).alloc (Nat.le_refl _) _
    replace R0 := R0.below A9
    replace R1 := R1.below A9
    replace R2 := R2.below A9
    replace R3 := R3.below A9
    replace B := below_next B A9
    have S10 := A9.size
    clear A9
    have E10 : w8.heap.size + 1 ≤ (w8.alloc (.cells #[.int .i64 cd, .int .i64 (vl : Int)] 49)).heap.size := by simp
    have pb0 : (w8.alloc (.cells #[.int .i64 cd, .int .i64 (vl : Int)] 49)).cell? ⟨w8.heap.size, 0, none⟩ = some (.int .i64 cd) := by simp
    have pb1 : (w8.alloc (.cells #[.int .i64 cd, .int .i64 (vl : Int)] 49)).cell? ⟨w8.heap.size, 1, none⟩ = some (.int .i64 (vl : Int)) := by simp
    have lpb : w8.heap.size < (w8.alloc (.cells #[.int .i64 cd, .int .i64 (vl : Int)] 49)).heap.size := by simp
    have D6 : Below (w8.alloc (.cells #[.int .i64 cd, .int .i64 (vl : Int)] 49)).heap.size (w8.alloc (.cells #[.int .i64 cd, .int .i64 (vl : Int)] 49)) (w8.alloc (.cells #[.int .i64 cd, .int .i64 (vl : Int)] 49)).drew := (Below.refl _ _).drew
    replace pb0 := cell_later D6 pb0
    replace pb1 := cell_later D6 pb1
    replace R0 := R0.below D6
    replace R1 := R1.below D6
    replace R2 := R2.below D6
    replace R3 := R3.below D6
    replace lpb := Nat.lt_of_lt_of_le lpb D6.size
    replace B := below_next B D6
    clear D6
    go_region_held3 (fun w' => w'.cell? ⟨w8.heap.size, 0, none⟩ = some (.int .i64 cd)) (with_reducible exact pb0) (first | (go_at_call 28; (with_reducible refine (specBest_is _ _ n2 c2 n3 c3 hs ls xss _ R2 R3 (by omega) cd vl HR.out).mono ?_); rintro e w9 ⟨rfl, hb⟩; replace pb0 := cell_later hb pb0; replace pb1 := cell_later hb pb1; replace R0 := R0.below hb; replace R1 := R1.below hb; replace R2 := R2.below hb; replace R3 := R3.below hb; replace lpb := Nat.lt_of_lt_of_le lpb hb.size; replace B := below_next B hb; clear hb))
    go_wp2
    go_ret
    exact ⟨rfl, B⟩
  subst z
  have hz : ((0 : Int) != 0) = false := by simp
  obtain ⟨h23, h3p, hvl⟩ := bestR_ok HR.out
  have e2 := R2.nInts
  have e3 := R3.len
  obtain rfl : n3 = n2 := by omega
  have hvlt : vl < n3 := by rw [hvl, e3]; exact bestTo_lt ls xss n3 (by omega)
  have HM : Hid (∀ i, i < n3 → _) := best_max ls xss n3
  rw [← e3, ← hvl, e3] at HM
  have HLn : Hid (∀ i, i < n3 → (xss.getD i []).length = (hs i).2.1) := fun i hi => by obtain ⟨_, r⟩ := R3.each i hi; exact r.nSixs
  clear h23 h3p hvl e2 e3 HR
  have hvi : (vl : Int) < (n3 : Int) := by omega
  skip
  have A8 : Below w8.heap.size w8 (w8.alloc (.cells #[.int .i64 0, .int .i64 (vl : Int)] 49)) := (Below.refl _ _).alloc (Nat.le_refl _) _
  replace R0 := R0.below A8
  replace R1 := R1.below A8
  replace R2 := R2.below A8
  replace R3 := R3.below A8
  replace B := below_next B A8
  clear A8
  have pb1 : (w8.alloc (.cells #[.int .i64 0, .int .i64 (vl : Int)] 49)).cell? ⟨w8.heap.size, 1, none⟩ = some (.int .i64 (vl : Int)) := by simp
  have B8 := B
  go_wp2
  go_loopw [9] (fun i wr => ∃ j : Nat, j ≤ n3 ∧ i = .int .i64 j ∧ Below (w8.alloc (.cells #[.int .i64 0, .int .i64 (vl : Int)] 49)).heap.size (w8.alloc (.cells #[.int .i64 0, .int .i64 (vl : Int)] 49)) wr) (fun i _ => n3 - (intOf i).toNat)
  case atStart => exact ⟨0, Nat.zero_le _, rfl, Below.refl _ _⟩
  case round =>
    obtain ⟨j, hj, rfl, C⟩ := hrel
    replace pb1 := cell_later C pb1
    replace R0 := R0.below C
    replace B := below_next B C
    by_cases hlt : j < n3
    · have hji : (j : Int) < (n3 : Int) := by omega
      have hm := HM.out j hlt
      rw [HLn.out j hlt, HLn.out vl hvlt] at hm
      obtain ⟨bl, ol, rfl, _, _, _, e1, _⟩ := R2.int hlt
      obtain ⟨bl', ol', e', _, _, _, e2, _⟩ := R2.int hvlt
      cases e'
      obtain ⟨bg, og, rfl, _, e3⟩ := R3.cell hlt
      obtain ⟨bg', og', e', _, e4⟩ := R3.cell hvlt
      cases e'
      replace e1 := cell_later C e1
      replace e2 := cell_later C e2
      replace e3 := cell_later C e3
      replace e4 := cell_later C e4
      obtain ⟨⟨p1, m1, d1⟩, q1⟩ : ∃ q, hs j = q := ⟨_, rfl⟩
      obtain ⟨⟨p2, m2, d2⟩, q2⟩ : ∃ q, hs vl = q := ⟨_, rfl⟩
      rw [q1] at e3 hm
      rw [q2] at e4 hm
      simp only at e3 e4 hm
      clear q1 q2
      generalize ls.getD j 0 = la at *
      generalize ls.getD vl 0 = lb at *
      have v1 : ¬ lb < la := by omega
      by_cases v2 : la = lb
      · subst v2
        have v3 : ¬ (m2 : Int) < (m1 : Int) := by omega
        clear hm
        have wq : (la == la) = true := by simp
        go_wp2_with fail
        go_quiet (fail)
        go_wp2
        go_roundw
        case rel => exact ⟨j + 1, by omega, by go_num, below_drewN C _⟩
        case measure => simp [intOf]; omega
      · clear hm
        go_wp2_with fail
        go_quiet (fail)
        go_wp2
        go_roundw
        case rel => exact ⟨j + 1, by omega, by go_num, below_drewN C _⟩
        case measure => simp [intOf]; omega
    · obtain ⟨cf, hcf⟩ : ∃ cf, logF xs = cf := ⟨_, rfl⟩
      have HF : Hid _ := hcf
      have hq : (cf == cf) = true := by simp
      clear hcf
      go_wp2_with fail
      refine (implLF_is _ n0 c0 xs _ R0 cf HF.out).mono ?_
      rintro e w9 ⟨rfl, hb⟩
      replace R0 := R0.below hb
      replace B := below_next B hb
      clear hb
      go_wp2_with fail
      refine (specLF_is _ n0 c0 xs _ R0 cf HF.out).mono ?_
      rintro e w10 ⟨rfl, hb⟩
      replace B := below_next B hb
      clear hb
      go_wp2
      go_ret
      exact ⟨rfl, B⟩

open Go.ChangeShapes Go.WideShapes Go.ChangeAt Go.Joins

set_option maxRecDepth 100000 in
theorem liftedLogs (os : Os) (started : os.Started) (H : Type) (enc : TypeId × Value → H) :
    ReturnsInHanded {} Try.checked os 4 .any (Rows.fnLogsSpec.pre6 enc Try.prog Try.f4 Rows.fnLogsRow.domain false) (Rows.fnLogsSpec.post enc Try.prog Try.f4 false true false false) := by
  refine returnsInHanded_of_change (C := Try.checked) Try.own started (by kernel_rfl) Try.func4
    (ChangeSpec.witness6 (enc := enc) (C := Try.checked) false ⟨#[], #[.slice none 0 0], []⟩ 8 (by kernel_rfl) (by kernel_rfl) (by kernel_rfl) (by kernel_rfl)) ?_
  intro W base args ds gs before hval0 hW hcnd _
  have hval : ∀ (j : Nat) t v, Try.f4.params[j]? = some t → args[j]? = some v → Value.okWide Try.prog W .any base t v := hval0
  have hW' := hW
  obtain ⟨p, q, hA0, hV, rfl, hfz, hnd⟩ := hW
  have hA : DataW.TrodAll enc Try.prog W 0 (fun _ => true) true Try.f4.params.toList args.toList ds p := hA0
  rw [Try.params4] at hA hval
  obtain ⟨v0, vs0, d0, ds0, p0, q0, hargs, rfl, rfl, h0, r0⟩ := trodAll_cons hA
  obtain ⟨rfl, rfl, rfl⟩ := trodAll_nil r0
  obtain rfl : args = #[v0] := by cases args; simp_all
  obtain ⟨rfl, rfl⟩ := trodVars_none hV
  have lt0 : ∀ x ∈ p0, x.block < W.heap.size := by obtain ⟨m, hm⟩ := h0; exact DataW.trod_lt m _ _ _ hm
  have k0 := h0
  obtain ⟨fuel, hf⟩ := h0
  obtain ⟨av, lv, cv, rfl⟩ := okWide_slice Try.underlying22 (hval 0 22 v0 rfl rfl)
  obtain ⟨a2, n2, c2, zs, hv, hn2, hz2, s2⟩ := read_bytes Try.underlying22 Try.underlying5 (by kernel_rfl) (v := .slice av lv cv) (by simpa [Value.cells] using hf)
  obtain ⟨rfl, rfl, rfl⟩ := Value.slice.inj hv
  clear hA0 hval0
  refine (lawLogs _ _ _ zs W s2 hz2 hn2).mono fun e W' ⟨he, bel⟩ => ?_
  subst he
  exact ⟨_, rfl, _, _, _, [], _, [], hW', trodAll_mk1 (shut_bool Try.underlying4 _), (trodAll_cons_mk (Below.trod Try.laidOut (by kernel_rfl) (of_decide_eq_true (by kernel_rfl)) k0 bel lt0) trodAll_mk0), rfl, bel.frame _, fun h => by cases h⟩

set_option maxRecDepth 100000 in
set_option maxHeartbeats 0 in
theorem closedLogs : joinedFacts Try.prog 4 Try.f4 Rows.fnLogsSpec Rows.fnLogsRow = true := by
  have q1 : (Rows.fnLogsRow.inPlace == Try.prog.inPlace 4) = true := by rw [inPlace_at leads_is inp_is]; kernel_rfl
  have q2 : (Rows.fnLogsRow.unfollowed == Try.prog.unfollowed 4) = true := by rw [unfollowed_at leads_is unf_is]; kernel_rfl
  have q3 : (Rows.fnLogsRow.recurses == Try.prog.recurses 4) = true := (by rw [recurses_unf leads_is (by rw [unfollowed_at leads_is unf_is]; kernel_rfl)]; rfl)
  have q4 : (Rows.fnLogsRow.named == Try.prog.varsNamed 4) = true := by rw [varsNamed_at leads_is var_ok ent_is]; kernel_rfl
  have q5 : (Try.prog.make == some Rows.fnLogsRow.make) = true := by rw [made_cut]; rfl
  have q6 : (Rows.fnLogsRow.lifted == Try.prog.liftsFinal) = true := by rw [lifts_no]; rfl
  have q7 : Try.prog.mayEnter = true := may_enter
  have q8 : laidOutB Try.prog = true := Try.laidOut
  unfold joinedFacts
  repeat' (with_reducible refine Bool.and_eq_true_iff.2 ⟨?_, ?_⟩)
  all_goals (first | with_reducible exact q1 | with_reducible exact q2 | with_reducible exact q3 | with_reducible exact q4 | with_reducible exact q5 | with_reducible exact q6 | with_reducible exact q7 | with_reducible exact q8 | (as_aux_lemma => kernel_rfl))

theorem logs_holds : Rows.FnLogsSaid :=
  OpenClaim.holds_of_wide 4 Try.f4 rfl rfl rfl rfl rfl rfl rfl ⟨rfl, rfl, rfl, rfl, rfl⟩ rfl rfl rfl rfl rfl (by as_aux_lemma => kernel_rfl) Try.func4 closedLogs
    (of_decide_eq_true (by as_aux_lemma => kernel_rfl)) (by unfold Func.isWrapper; first | (rw [if_pos (by decide +kernel)]; kernel_rfl) | (rw [if_neg (by decide +kernel)]; exact ⟨rfl, rfl⟩))
    (fun os started H enc _ => liftedLogs os started H enc)

#print axioms logs_holds

end Go.Proofs.Ytpbhiednmnolgaa
