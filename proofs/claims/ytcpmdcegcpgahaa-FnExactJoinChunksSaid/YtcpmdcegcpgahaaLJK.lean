/- At every list of lists of words the program's JoinChunks answers as its model does, field by field, writes into no argument and owns what it answers: the law FnExactJoinChunks is true at every argument, with no condition. -/
import Derived.Test.YtcpmdcegcpgahaaRows
import Derived.Test.YtcpmdcegcpgahaaQAG
import Derived.Test.YtcpmdcegcpgahaaQAB
import Derived.Test.YtcpmdcegcpgahaaOpenK
set_option maxRecDepth 20000
set_option maxHeartbeats 16000000
namespace Go.Proofs.Ytcpmdcegcpgahaa
open Go.RowKit
theorem chkL_len {rs : List (List Int)} (h : lens rs rs.length ≤ 1048576) : (chkL rs).length ≤ 1048576 := by
 unfold chkL
 split
 ·rw [← catR_all, catR_len]; exact h
 ·exact Nat.zero_le _
theorem markSS_n {lo hi n : Nat} (a : Option Addr) (c : Nat) (vs : List Value) (rs : List (List Int)) (w : World) (hr : rs.length = n) (h : RecsOwn w lo (.slice a n c) vs rs) (hhi : ∀ j, j < n → blkOf (vs.getD j default) < hi) (tot : Nat) (ht : lens rs rs.length = tot) (hs : tot ≤ 1048576) (hn : n ≤ 1048576) :
  Calls Try.prog 14 #[.slice a n c, .int .i64 1] w fun e w' => e = .returned (.int .i64 (1 + (tot : Int))) ∧ Kept lo hi w w' := by
 subst hr ht
 exact (markSS_w a c vs rs w h hhi hs hn).mono fun _ _ h => ⟨h.1, h.2.2⟩
theorem lawJoinChunks {o0 : Bool} (a0 : Option Addr) (n0 c0 : Nat) (vs : List Value) (rs : List (List Int)) (w : World) (h0 : RowAt w o0 0 w.heap.size 1 a0 n0 c0 vs) (q0 : RecsRO w vs rs) (hr : rs.length = n0) (hn : n0 ≤ maxLen) :
  Calls Try.prog 3 #[.slice a0 n0 c0] w fun e w' => e = .returned (.bool true) ∧ Below w.heap.size w w' := by
 have B : Below w.heap.size w w := Below.refl _ _
 obtain ⟨cd, hcd⟩ : ∃ cd, chkC rs = cd := ⟨_, rfl⟩
 obtain ⟨ys, hys⟩ : ∃ ys, chkL rs = ys := ⟨_, rfl⟩
 have Hcd : Hid _ := hcd
 have Hys : Hid _ := hys
 clear hcd hys
 go_enter Try.func3, Try.ntmps3
 go_wp2_with fail
 refine (szSS_left a0 n0 c0 vs rs _ h0 q0 hr hn).mono ?_
 rintro e w0 ⟨r, rfl, rfl, hz⟩
 rcases hz with hz | ⟨hz, hn1, hs1⟩
 ·go_wp2
  go_ret
  exact ⟨rfl, B⟩
 obtain ⟨tot, htot⟩ : ∃ tot, lens rs rs.length = tot := ⟨_, rfl⟩
 have ht1 : tot ≤ 1048576 := by omega
 have hz' : ¬ r < 0 := by omega
 clear hz
 have hyl : ys.length ≤ 1048576 := by rw [← Hys.out]; exact chkL_len hs1
 have QB := q0
 go_wp2_with fail
 refine (toSS_any a0 n0 c0 vs rs _ (by exact h0.below B) (by exact q0.below B) hr hn1 hs1).mono ?_
 rintro e w2 ⟨ta, tav, rfl, tag, taO, tab, hb⟩
 replace B := below_next B hb
 have S1 := hb.size
 clear hb
 have taR : ∃ c, RowAt w2 true ta w2.heap.size 1 (some ⟨ta, 0, none⟩) n0 n0 tav ∧ c = n0 := ⟨n0, by rw [← hr]; have := taO.own; rw [hr] at this ⊢; exact RowAt.of_owns this (Nat.le_refl _), rfl⟩
 obtain ⟨-, taR, -⟩ := taR
 have taQ := taO.ro hs1
 clear taO tab
 go_wp2_with fail
 refine (specJoin_is (some ⟨ta, 0, none⟩) n0 n0 tav rs _ taR taQ hr hn1 hs1 cd ys Hcd.out Hys.out).mono ?_
 rintro e w3 ⟨pa, pn, pc, rfl, dP, hb⟩
 replace B := below_next B hb
 have S2 := hb.size
 clear hb
 have pL : pn ≤ 2097152 := by rw [← dP.nInts]; omega
 clear taR taQ
 go_wp2_with fail
 have A3 : Below w3.heap.size w3 (w3.alloc (.cells #[.int .i64 cd, .slice pa pn pc] 26)) := (Below.refl _ _).alloc (Nat.le_refl _) _
 replace dP := dP.below A3
 replace B := below_next B A3
 have S4 := A3.size
 clear A3
 have E4 : w3.heap.size + 1 ≤ (w3.alloc (.cells #[.int .i64 cd, .slice pa pn pc] 26)).heap.size := by simp
 have pb0 : (w3.alloc (.cells #[.int .i64 cd, .slice pa pn pc] 26)).cell? ⟨w3.heap.size, 0, none⟩ = some (.int .i64 cd) := by simp
 have pb1 : (w3.alloc (.cells #[.int .i64 cd, .slice pa pn pc] 26)).cell? ⟨w3.heap.size, 1, none⟩ = some (.slice pa pn pc) := by simp
 have lpb : w3.heap.size < (w3.alloc (.cells #[.int .i64 cd, .slice pa pn pc] 26)).heap.size := by simp
 go_wp2_with fail
 refine (toSS_any a0 n0 c0 vs rs _ (by exact h0.below B) (by exact q0.below B) hr hn1 hs1).mono ?_
 rintro e w4 ⟨xa, xav, rfl, xag, xaO, xab, hb⟩
 replace pb0 := cell_later hb pb0
 replace pb1 := cell_later hb pb1
 replace dP := dP.below hb
 replace lpb := Nat.lt_of_lt_of_le lpb hb.size
 replace B := below_next B hb
 have S5 := hb.size
 clear hb
 have xaR : ∃ c, RowAt w4 true xa w4.heap.size 1 (some ⟨xa, 0, none⟩) n0 n0 xav ∧ c = n0 := ⟨n0, by rw [← hr]; have := xaO.own; rw [hr] at this ⊢; exact RowAt.of_owns this (Nat.le_refl _), rfl⟩
 obtain ⟨-, xaR, -⟩ := xaR
 have xaQ := xaO.ro hs1
 have xaB : Hid (∀ j, j < n0 → blkOf (xav.getD j default) < w4.heap.size) := fun j hj => xab j hj
 have hw4 : w4.heap.size ≤ w4.heap.size := Nat.le_refl _
 clear xab
 go_wp2_with fail
 refine (implJoin_is (some ⟨xa, 0, none⟩) n0 n0 xav rs _ xaR xaQ hr hn1 hs1 cd ys Hcd.out Hys.out).mono ?_
 rintro e w5 ⟨qa, qn, qc, rfl, dQ, hb⟩
 replace pb0 := cell_later hb pb0
 replace pb1 := cell_later hb pb1
 replace dP := dP.below hb
 replace xaO := xaO.below hb
 replace xaR := xaR.below hb
 replace xaQ := xaQ.below hb
 replace lpb := Nat.lt_of_lt_of_le lpb hb.size
 replace B := below_next B hb
 have S6 := hb.size
 clear hb
 have qL : qn ≤ 2097152 := by rw [← dQ.nInts]; omega
 go_wp2_with fail
 have A7 : Below w5.heap.size w5 (w5.alloc (.cells #[.int .i64 cd, .slice qa qn qc] 26)) := (Below.refl _ _).alloc (Nat.le_refl _) _
 replace pb0 := cell_later A7 pb0
 replace pb1 := cell_later A7 pb1
 replace dP := dP.below A7
 replace xaO := xaO.below A7
 replace xaR := xaR.below A7
 replace xaQ := xaQ.below A7
 replace dQ := dQ.below A7
 replace lpb := Nat.lt_of_lt_of_le lpb A7.size
 replace B := below_next B A7
 have S8 := A7.size
 clear A7
 have E8 : w5.heap.size + 1 ≤ (w5.alloc (.cells #[.int .i64 cd, .slice qa qn qc] 26)).heap.size := by simp
 have qb0 : (w5.alloc (.cells #[.int .i64 cd, .slice qa qn qc] 26)).cell? ⟨w5.heap.size, 0, none⟩ = some (.int .i64 cd) := by simp
 have qb1 : (w5.alloc (.cells #[.int .i64 cd, .slice qa qn qc] 26)).cell? ⟨w5.heap.size, 1, none⟩ = some (.slice qa qn qc) := by simp
 have lqb : w5.heap.size < (w5.alloc (.cells #[.int .i64 cd, .slice qa qn qc] 26)).heap.size := by simp
 go_wp2_with fail
 refine (eqIRes_yes _ _ _ _ _ _ _ _ _ dQ dP qL).mono ?_
 rintro e w6 ⟨rfl, hb⟩
 replace pb0 := cell_later hb pb0
 replace pb1 := cell_later hb pb1
 replace qb0 := cell_later hb qb0
 replace qb1 := cell_later hb qb1
 replace dP := dP.below hb
 replace xaO := xaO.below hb
 replace xaR := xaR.below hb
 replace xaQ := xaQ.below hb
 replace dQ := dQ.below hb
 replace lpb := Nat.lt_of_lt_of_le lpb hb.size
 replace lqb := Nat.lt_of_lt_of_le lqb hb.size
 replace B := below_next B hb
 have S9 := hb.size
 clear hb
 go_wp2_with fail
 refine (toSS_any a0 n0 c0 vs rs _ (by exact h0.below B) (by exact q0.below B) hr hn1 hs1).mono ?_
 rintro e w7 ⟨ya, yav, rfl, yag, yaO, yab, hb⟩
 replace pb0 := cell_later hb pb0
 replace pb1 := cell_later hb pb1
 replace qb0 := cell_later hb qb0
 replace qb1 := cell_later hb qb1
 replace dP := dP.below hb
 replace xaO := xaO.below hb
 replace xaR := xaR.below hb
 replace xaQ := xaQ.below hb
 replace dQ := dQ.below hb
 replace lpb := Nat.lt_of_lt_of_le lpb hb.size
 replace lqb := Nat.lt_of_lt_of_le lqb hb.size
 replace B := below_next B hb
 have S10 := hb.size
 clear hb
 have yaR : ∃ c, RowAt w7 true ya w7.heap.size 1 (some ⟨ya, 0, none⟩) n0 n0 yav ∧ c = n0 := ⟨n0, by rw [← hr]; have := yaO.own; rw [hr] at this ⊢; exact RowAt.of_owns this (Nat.le_refl _), rfl⟩
 obtain ⟨-, yaR, -⟩ := yaR
 have yaQ := yaO.ro hs1
 clear yab yaR yaQ
 have hOwn := yaO.own
 rw [hr] at hOwn
 have yaR := RowAt.of_owns hOwn (Nat.le_refl _)
 clear hOwn
 go_wp2_with fail
 refine (eqSS_w _ _ n0 n0 n0 xav yav rs _ xaR xaO.but.at yaR yaO.but.at hr hs1 hn1).mono ?_
 rintro e w8 ⟨rfl, hb⟩
 replace pb0 := cell_later hb pb0
 replace pb1 := cell_later hb pb1
 replace qb0 := cell_later hb qb0
 replace qb1 := cell_later hb qb1
 replace dP := dP.below hb
 replace xaO := xaO.below hb
 replace xaR := xaR.below hb
 replace xaQ := xaQ.below hb
 replace dQ := dQ.below hb
 replace yaO := yaO.below hb
 replace lpb := Nat.lt_of_lt_of_le lpb hb.size
 replace lqb := Nat.lt_of_lt_of_le lqb hb.size
 replace B := below_next B hb
 have S11 := hb.size
 clear hb
 clear yaO yaR xaR xaQ
 go_wp2_with fail
 refine (markSS_n (lo := xa) (hi := w4.heap.size) _ n0 xav rs _ hr xaO xaB.out tot htot ht1 hn1).mono ?_
 rintro e w9 ⟨rfl, K⟩
 replace pb0 := K.cell pb0 (by omega)
 replace pb1 := K.cell pb1 (by omega)
 replace qb0 := K.cell qb0 (by omega)
 replace qb1 := K.cell qb1 (by omega)
 replace dP := dP.kept K (by omega)
 replace dQ := dQ.kept K (by omega)
 replace lpb := Nat.lt_of_lt_of_le lpb K.size
 replace lqb := Nat.lt_of_lt_of_le lqb K.size
 replace B := B.trans (K.below _ (by omega) (by omega))
 have S12 := K.size
 clear xaO K
 have hk : ¬ ((1 : Int) + tot < 0) := by omega
 go_wp2_with fail
 refine (eqIRes_yes _ _ _ _ _ _ _ _ _ dQ dP qL).mono ?_
 rintro e w10 ⟨rfl, hb⟩
 replace pb0 := cell_later hb pb0
 replace pb1 := cell_later hb pb1
 replace qb0 := cell_later hb qb0
 replace qb1 := cell_later hb qb1
 replace dP := dP.below hb
 replace dQ := dQ.below hb
 replace lpb := Nat.lt_of_lt_of_le lpb hb.size
 replace lqb := Nat.lt_of_lt_of_le lqb hb.size
 replace B := below_next B hb
 have S13 := hb.size
 clear hb
 go_wp2_with fail
 refine (markIRes_any _ _ _ _ _ _ dQ (by omega)).mono ?_
 rintro e w11 ⟨rfl, dM, K⟩
 replace pb0 := K.cell pb0 (by omega)
 replace pb1 := K.cell pb1 (by omega)
 replace qb0 := K.cell qb0 (by omega)
 replace qb1 := K.cell qb1 (by omega)
 replace dP := dP.kept K (by omega)
 replace lpb := Nat.lt_of_lt_of_le lpb K.size
 replace lqb := Nat.lt_of_lt_of_le lqb K.size
 replace B := B.trans (K.below _ (by omega) (by omega))
 have S14 := K.size
 clear dQ K
 go_wp2_with fail
 refine (heldIRes_any _ _ _ _ _ dM (by omega)).mono ?_
 rintro e w12 ⟨rfl, hb⟩
 replace pb0 := cell_later hb pb0
 replace pb1 := cell_later hb pb1
 replace qb0 := cell_later hb qb0
 replace qb1 := cell_later hb qb1
 replace dP := dP.below hb
 replace dM := dM.below hb
 replace lpb := Nat.lt_of_lt_of_le lpb hb.size
 replace lqb := Nat.lt_of_lt_of_le lqb hb.size
 replace B := below_next B hb
 have S15 := hb.size
 clear hb
 have hq : ¬ ((1 : Int) + qn < 0) := by omega
 have he : (((1 : Int) + qn) != ((1 : Int) + qn)) = false := by simp
 go_wp2_with fail
 refine (toSS_any a0 n0 c0 vs rs _ (by exact h0.below B) (by exact q0.below B) hr hn1 hs1).mono ?_
 rintro e w13 ⟨tb, tbv, rfl, tbg, tbO, tbb, hb⟩
 replace pb0 := cell_later hb pb0
 replace pb1 := cell_later hb pb1
 replace qb0 := cell_later hb qb0
 replace qb1 := cell_later hb qb1
 replace dP := dP.below hb
 replace dM := dM.below hb
 replace lpb := Nat.lt_of_lt_of_le lpb hb.size
 replace lqb := Nat.lt_of_lt_of_le lqb hb.size
 replace B := below_next B hb
 have S16 := hb.size
 clear hb
 have tbR : ∃ c, RowAt w13 true tb w13.heap.size 1 (some ⟨tb, 0, none⟩) n0 n0 tbv ∧ c = n0 := ⟨n0, by rw [← hr]; have := tbO.own; rw [hr] at this ⊢; exact RowAt.of_owns this (Nat.le_refl _), rfl⟩
 obtain ⟨-, tbR, -⟩ := tbR
 have tbQ := tbO.ro hs1
 clear tbO tbb
 go_wp2_with fail
 refine (implJoin_is (some ⟨tb, 0, none⟩) n0 n0 tbv rs _ tbR tbQ hr hn1 hs1 cd ys Hcd.out Hys.out).mono ?_
 rintro e w14 ⟨ha, hn, hc, rfl, dH, hb⟩
 replace pb0 := cell_later hb pb0
 replace pb1 := cell_later hb pb1
 replace qb0 := cell_later hb qb0
 replace qb1 := cell_later hb qb1
 replace dP := dP.below hb
 replace dM := dM.below hb
 replace lpb := Nat.lt_of_lt_of_le lpb hb.size
 replace lqb := Nat.lt_of_lt_of_le lqb hb.size
 replace B := below_next B hb
 have S17 := hb.size
 clear hb
 have hL : hn ≤ 2097152 := by rw [← dH.nInts]; omega
 clear tbR tbQ
 go_wp2_with fail
 have A18 : Below w14.heap.size w14 (w14.alloc (.cells #[.int .i64 cd, .slice ha hn hc] 26)) := (Below.refl _ _).alloc (Nat.le_refl _) _
 replace pb0 := cell_later A18 pb0
 replace pb1 := cell_later A18 pb1
 replace qb0 := cell_later A18 qb0
 replace qb1 := cell_later A18 qb1
 replace dP := dP.below A18
 replace dM := dM.below A18
 replace dH := dH.below A18
 replace lpb := Nat.lt_of_lt_of_le lpb A18.size
 replace lqb := Nat.lt_of_lt_of_le lqb A18.size
 replace B := below_next B A18
 have S19 := A18.size
 clear A18
 have E19 : w14.heap.size + 1 ≤ (w14.alloc (.cells #[.int .i64 cd, .slice ha hn hc] 26)).heap.size := by simp
 have hb0 : (w14.alloc (.cells #[.int .i64 cd, .slice ha hn hc] 26)).cell? ⟨w14.heap.size, 0, none⟩ = some (.int .i64 cd) := by simp
 have hb1 : (w14.alloc (.cells #[.int .i64 cd, .slice ha hn hc] 26)).cell? ⟨w14.heap.size, 1, none⟩ = some (.slice ha hn hc) := by simp
 have lhb : w14.heap.size < (w14.alloc (.cells #[.int .i64 cd, .slice ha hn hc] 26)).heap.size := by simp
 go_wp2_with fail
 refine (eqIRes_yes _ _ _ _ _ _ _ _ _ dH dP hL).mono ?_
 rintro e w15 ⟨rfl, hb⟩
 replace pb0 := cell_later hb pb0
 replace pb1 := cell_later hb pb1
 replace qb0 := cell_later hb qb0
 replace qb1 := cell_later hb qb1
 replace hb0 := cell_later hb hb0
 replace hb1 := cell_later hb hb1
 replace dP := dP.below hb
 replace dM := dM.below hb
 replace dH := dH.below hb
 replace lpb := Nat.lt_of_lt_of_le lpb hb.size
 replace lqb := Nat.lt_of_lt_of_le lqb hb.size
 replace lhb := Nat.lt_of_lt_of_le lhb hb.size
 replace B := below_next B hb
 have S20 := hb.size
 clear hb
 go_wp2_with fail
 refine (heldIRes_any _ _ _ _ _ dM (by omega)).mono ?_
 rintro e w16 ⟨rfl, hb⟩
 replace pb0 := cell_later hb pb0
 replace pb1 := cell_later hb pb1
 replace qb0 := cell_later hb qb0
 replace qb1 := cell_later hb qb1
 replace hb0 := cell_later hb hb0
 replace hb1 := cell_later hb hb1
 replace dP := dP.below hb
 replace dM := dM.below hb
 replace dH := dH.below hb
 replace lpb := Nat.lt_of_lt_of_le lpb hb.size
 replace lqb := Nat.lt_of_lt_of_le lqb hb.size
 replace lhb := Nat.lt_of_lt_of_le lhb hb.size
 replace B := below_next B hb
 have S21 := hb.size
 clear hb
 go_wp2
 go_ret
 exact ⟨rfl, B⟩
open Go.ChangeShapes Go.WideShapes Go.ChangeAt Go.Joins
set_option maxRecDepth 100000 in
theorem liftedJoinChunks (os : Os) (started : os.Started) (H : Type) (enc : TypeId × Value → H) :
  ReturnsInHanded {} Try.checked os 3 .any (Rows.fnExactJoinChunksSpec.pre6 enc Try.prog Try.f3 Rows.fnExactJoinChunksRow.domain false) (Rows.fnExactJoinChunksSpec.post enc Try.prog Try.f3 false true false false) := by
 refine returnsInHanded_of_change (C := Try.checked) Try.own started (by kernel_rfl) Try.func3
  (ChangeSpec.witness6 (enc := enc) (C := Try.checked) false ⟨#[], #[.slice none 0 0], []⟩ 8 (by kernel_rfl) (by kernel_rfl) (by kernel_rfl) (by kernel_rfl)) ?_
 intro W base args ds gs before hval0 hW hcnd _
 have hval : ∀ (j : Nat) t v, Try.f3.params[j]? = some t → args[j]? = some v → Value.okWide Try.prog W .any base t v := hval0
 have hW' := hW
 obtain ⟨p, q, hA0, hV, rfl, hfz, hnd⟩ := hW
 have hA : DataW.TrodAll enc Try.prog W 0 (fun _ => true) true Try.f3.params.toList args.toList ds p := hA0
 rw [Try.params3] at hA hval
 obtain ⟨v0, vs0, d0, ds0, p0, q0, hargs, rfl, rfl, h0, r0⟩ := trodAll_cons hA
 obtain ⟨rfl, rfl, rfl⟩ := trodAll_nil r0
 obtain rfl : args = #[v0] := by cases args; simp_all
 obtain ⟨rfl, rfl⟩ := trodVars_none hV
 have lt0 : ∀ x ∈ p0, x.block < W.heap.size := by obtain ⟨m, hm⟩ := h0; exact DataW.trod_lt m _ _ _ hm
 have k0 := h0
 obtain ⟨fuel0, hf0⟩ := h0
 obtain ⟨av0, lv0, cv0, rfl⟩ := okWide_slice Try.underlying22 (hval 0 22 v0 rfl rfl)
 obtain ⟨ae0, ne0, ce0, vs0, rs0, hve0, he0, se0, re0, le0⟩ := read_chunks Try.underlying22 Try.underlying24 Try.underlying2 Try.cellsNums Try.cellsInt (v := .slice av0 lv0 cv0) (by simpa [Value.cells] using hf0)
 obtain ⟨rfl, rfl, rfl⟩ := Value.slice.inj hve0
 clear hA0 hval0
 refine (lawJoinChunks _ _ _ vs0 rs0 W se0 re0 le0 he0).mono fun e W' ⟨he, bel⟩ => ?_
 subst he
 exact ⟨_, rfl, _, _, _, [], _, [], hW', trodAll_mk1 (shut_bool Try.underlying4 _), (trodAll_cons_mk (Below.trod Try.laidOut (by kernel_rfl) (of_decide_eq_true (by kernel_rfl)) k0 bel lt0) trodAll_mk0), rfl, bel.frame _, fun h => by cases h⟩
set_option maxRecDepth 100000 in
theorem closedJoinChunks : joinedFacts Try.prog 3 Try.f3 Rows.fnExactJoinChunksSpec Rows.fnExactJoinChunksRow = true := by
 have q1 : (Rows.fnExactJoinChunksRow.inPlace == Try.prog.inPlace 3) = true := by rw [inPlace_at leads_is inp_is]; kernel_rfl
 have q2 : (Rows.fnExactJoinChunksRow.unfollowed == Try.prog.unfollowed 3) = true := by rw [unfollowed_at leads_is unf_is]; kernel_rfl
 have q3 : (Rows.fnExactJoinChunksRow.recurses == Try.prog.recurses 3) = true := (by rw [recurses_no leads_is (by rw [unfollowed_at leads_is unf_is]; kernel_rfl) ranks_ok (by kernel_rfl)]; rfl)
 have q4 : (Rows.fnExactJoinChunksRow.named == Try.prog.varsNamed 3) = true := by rw [varsNamed_at leads_is var_ok ent_is]; kernel_rfl
 have q5 : (Try.prog.make == some Rows.fnExactJoinChunksRow.make) = true := by rw [made_cut]; rfl
 have q6 : (Rows.fnExactJoinChunksRow.lifted == Try.prog.liftsFinal) = true := by rw [lifts_no]; rfl
 have q7 : Try.prog.mayEnter = true := may_enter
 have q8 : laidOutB Try.prog = true := Try.laidOut
 unfold joinedFacts
 repeat' (with_reducible refine Bool.and_eq_true_iff.2 ⟨?_, ?_⟩)
 all_goals (first | with_reducible exact q1 | with_reducible exact q2 | with_reducible exact q3 | with_reducible exact q4 | with_reducible exact q5 | with_reducible exact q6 | with_reducible exact q7 | with_reducible exact q8 | (as_aux_lemma => kernel_rfl))
theorem joinChunks_holds : Rows.FnExactJoinChunksSaid :=
 OpenClaim.holds_of_wide 3 Try.f3 rfl rfl rfl rfl rfl rfl rfl ⟨rfl, rfl, rfl, rfl, rfl⟩ rfl rfl rfl rfl rfl (by as_aux_lemma => kernel_rfl) Try.func3 closedJoinChunks
  (of_decide_eq_true (by as_aux_lemma => kernel_rfl)) (by unfold Func.isWrapper; first | (rw [if_pos (by decide +kernel)]; kernel_rfl) | (rw [if_neg (by decide +kernel)]; exact ⟨rfl, rfl⟩))
  (fun os started H enc _ => liftedJoinChunks os started H enc)
#print axioms joinChunks_holds
end Go.Proofs.Ytcpmdcegcpgahaa
