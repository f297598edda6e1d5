/- At every pool and id the program's VolAt answers as its model does and writes into no argument: the law FnExactVolAt is true at every argument, with no condition. -/
import Derived.Test.YtkdaphfmhdkhfaaRows
import Derived.Test.YtkdaphfmhdkhfaaW6
import Derived.Test.YtkdaphfmhdkhfaaYP
import Derived.Test.YtkdaphfmhdkhfaaWordAt
import Derived.Test.YtkdaphfmhdkhfaaRowP
namespace Go.Proofs.Ytkdaphfmhdkhfaa
open Go.RowKit

theorem fo_lens {w : World} {o : Bool} {l u : Nat} {an : Option Addr} {nn cn : Nat} {ab : Option Addr} {nb cb : Nat} {K : Nat → KS} {f : Fo} (h : FoAt w o l u an nn cn ab nb cb K f) {N : Nat} (hk : kl f.1 nn ≤ N) : ∀ i, i < nn → (K i).2.1 ≤ N := fun i hi => by
  have h1 := h.nodes.nKids hi
  have h2 := kl_at (ns := f.1) (i := i) (by rw [h.nodes.len]; exact hi)
  rw [h.nodes.len] at h2
  omega
set_option maxRecDepth 20000 in
set_option maxHeartbeats 8000000 in
theorem lawVolAt {o0 o2 : Bool} (an : Option Addr) (nn cn : Nat) (ab : Option Addr) (nb cb : Nat) (av : Option Addr) (nv cv : Nat) (K : Nat → KS) (f : Fo) (vs : List Vo) (id : Int) (w : World) (h0 : FoAt w o0 0 w.heap.size an nn cn ab nb cb K f) (hv : RowAt w o2 0 w.heap.size 3 av nv cv (trips vs)) (hn : nn ≤ maxLen) (hm : nb ≤ maxLen) (hK : ∀ i, i < nn → (K i).2.1 ≤ maxLen) (hvn : nv ≤ maxLen) :
    Calls Try.prog 33 #[.agg #[.slice an nn cn, .slice ab nb cb, .slice av nv cv], .int .i64 id] w fun e w' => e = .returned (.bool true) ∧ Below w.heap.size w w' := by
  have B : Below w.heap.size w w := Below.refl _ _
  obtain ⟨cd, hcd⟩ : ∃ cd, volAtC f vs id = cd := ⟨_, rfl⟩
  obtain ⟨vl, hvl⟩ : ∃ vl, volAtV f vs id = vl := ⟨_, rfl⟩
  have Hcd : Hid _ := hcd
  have Hvl : Hid _ := hvl
  clear hcd hvl
  go_enter Try.func33, Try.ntmps33
  go_wp2_with fail
  have A1 : Below w.heap.size w (w.alloc (.cells #[.slice an nn cn, .slice ab nb cb, .slice av nv cv] 137)) := (Below.refl _ _).alloc (Nat.le_refl _) _
  replace B := below_next B A1
  have S2 := A1.size
  clear A1
  have E2 : w.heap.size + 1 ≤ (w.alloc (.cells #[.slice an nn cn, .slice ab nb cb, .slice av nv cv] 137)).heap.size := by simp
  have fb0 : (w.alloc (.cells #[.slice an nn cn, .slice ab nb cb, .slice av nv cv] 137)).cell? ⟨w.heap.size, 0, none⟩ = some (.slice an nn cn) := by simp
  have fb1 : (w.alloc (.cells #[.slice an nn cn, .slice ab nb cb, .slice av nv cv] 137)).cell? ⟨w.heap.size, 1, none⟩ = some (.slice ab nb cb) := by simp
  have fb2 : (w.alloc (.cells #[.slice an nn cn, .slice ab nb cb, .slice av nv cv] 137)).cell? ⟨w.heap.size, 2, none⟩ = some (.slice av nv cv) := by simp
  have lfb : w.heap.size < (w.alloc (.cells #[.slice an nn cn, .slice ab nb cb, .slice av nv cv] 137)).heap.size := by simp
  go_wp2_with fail
  refine (szPool_any an nn cn ab nb cb av nv cv K f vs _ (by exact h0.below B) (by exact hv.below B) hn hm hK hvn).mono ?_
  rintro e w1 ⟨r, rfl, hb, hr⟩
  replace fb0 := cell_later hb fb0
  replace fb1 := cell_later hb fb1
  replace fb2 := cell_later hb fb2
  replace lfb := Nat.lt_of_lt_of_le lfb hb.size
  replace B := below_next B hb
  have S3 := hb.size
  clear hb
  rcases hr with hr | ⟨hr, hsz⟩
  · go_wp2
    go_ret
    exact ⟨rfl, B⟩
  have hr' : ¬ r < 0 := by omega
  have hn1 : nn ≤ 1048576 := by omega
  have hm1 : nb ≤ 1048576 := by omega
  have hv1 : nv ≤ 1048576 := by omega
  have hkl : kl f.1 nn ≤ 1048576 := by omega
  have hn2 : nn ≤ 2097152 := by omega
  have hm2 : nb ≤ 2097152 := by omega
  have hv2 : nv ≤ 2097152 := by omega
  have hkl2 : kl f.1 nn ≤ 2097152 := by omega
  have HK1 : Hid _ := fo_lens h0 hkl
  clear hr hsz
  go_wp2_with fail
  refine (toPool_any an nn cn ab nb cb av nv cv K f vs _ (by exact h0.below B) (by exact hv.below B) hn1 hm1 HK1.out hv1).mono ?_
  rintro e w2 ⟨tn, tb, tv, tmid, tK, rfl, rt, qt, m1t, m2t, hb⟩
  replace fb0 := cell_later hb fb0
  replace fb1 := cell_later hb fb1
  replace fb2 := cell_later hb fb2
  replace lfb := Nat.lt_of_lt_of_le lfb hb.size
  replace B := below_next B hb
  have S4 := hb.size
  clear hb
  go_wp2_with fail
  refine (specVolAt_is tn nn nn tb nb nb tv nv nv tK f vs _ rt qt hn2 hm2 (fo_lens rt hkl2) hv2 id cd vl Hcd.out Hvl.out).mono ?_
  rintro e w3 ⟨rfl, hb⟩
  replace fb0 := cell_later hb fb0
  replace fb1 := cell_later hb fb1
  replace fb2 := cell_later hb fb2
  replace lfb := Nat.lt_of_lt_of_le lfb hb.size
  replace B := below_next B hb
  have S5 := hb.size
  clear hb
  clear rt qt m1t m2t
  go_wp2_with fail
  have A6 : Below w3.heap.size w3 (w3.alloc (.cells #[.int .i64 cd, .int .i64 vl] 43)) := (Below.refl _ _).alloc (Nat.le_refl _) _
  replace fb0 := cell_later A6 fb0
  replace fb1 := cell_later A6 fb1
  replace fb2 := cell_later A6 fb2
  replace lfb := Nat.lt_of_lt_of_le lfb A6.size
  replace B := below_next B A6
  have S7 := A6.size
  clear A6
  have E7 : w3.heap.size + 1 ≤ (w3.alloc (.cells #[.int .i64 cd, .int .i64 vl] 43)).heap.size := by simp
  have pb0 : (w3.alloc (.cells #[.int .i64 cd, .int .i64 vl] 43)).cell? ⟨w3.heap.size, 0, none⟩ = some (.int .i64 cd) := by simp
  have pb1 : (w3.alloc (.cells #[.int .i64 cd, .int .i64 vl] 43)).cell? ⟨w3.heap.size, 1, none⟩ = some (.int .i64 vl) := by simp
  have lpb : w3.heap.size < (w3.alloc (.cells #[.int .i64 cd, .int .i64 vl] 43)).heap.size := by simp
  go_wp2_with fail
  refine (toPool_any an nn cn ab nb cb av nv cv K f vs _ (by exact h0.below B) (by exact hv.below B) hn1 hm1 HK1.out hv1).mono ?_
  rintro e w4 ⟨xn, xb, xv, xmid, xK, rfl, rx, qx, m1x, m2x, hb⟩
  replace fb0 := cell_later hb fb0
  replace fb1 := cell_later hb fb1
  replace fb2 := cell_later hb fb2
  replace pb0 := cell_later hb pb0
  replace pb1 := cell_later hb pb1
  replace lfb := Nat.lt_of_lt_of_le lfb hb.size
  replace lpb := Nat.lt_of_lt_of_le lpb hb.size
  replace B := below_next B hb
  have S8 := hb.size
  clear hb
  go_wp2_with fail
  have A9 : Below w4.heap.size w4 (w4.alloc (.cells #[.slice xn nn nn, .slice xb nb nb, .slice xv nv nv] 77)) := (Below.refl _ _).alloc (Nat.le_refl _) _
  replace fb0 := cell_later A9 fb0
  replace fb1 := cell_later A9 fb1
  replace fb2 := cell_later A9 fb2
  replace pb0 := cell_later A9 pb0
  replace pb1 := cell_later A9 pb1
  replace rx := rx.below A9
  replace qx := qx.below A9
  replace lfb := Nat.lt_of_lt_of_le lfb A9.size
  replace lpb := Nat.lt_of_lt_of_le lpb A9.size
  replace B := below_next B A9
  have S10 := A9.size
  clear A9
  have E10 : w4.heap.size + 1 ≤ (w4.alloc (.cells #[.slice xn nn nn, .slice xb nb nb, .slice xv nv nv] 77)).heap.size := by simp
  have xx0 : (w4.alloc (.cells #[.slice xn nn nn, .slice xb nb nb, .slice xv nv nv] 77)).cell? ⟨w4.heap.size, 0, none⟩ = some (.slice xn nn nn) := by simp
  have xx1 : (w4.alloc (.cells #[.slice xn nn nn, .slice xb nb nb, .slice xv nv nv] 77)).cell? ⟨w4.heap.size, 1, none⟩ = some (.slice xb nb nb) := by simp
  have xx2 : (w4.alloc (.cells #[.slice xn nn nn, .slice xb nb nb, .slice xv nv nv] 77)).cell? ⟨w4.heap.size, 2, none⟩ = some (.slice xv nv nv) := by simp
  have lxx : w4.heap.size < (w4.alloc (.cells #[.slice xn nn nn, .slice xb nb nb, .slice xv nv nv] 77)).heap.size := by simp
  go_wp2_with fail
  refine (implVolAt_is xn nn nn xb nb nb xv nv nv xK f vs _ rx qx hn2 hm2 (fo_lens rx hkl2) hv2 id cd vl Hcd.out Hvl.out).mono ?_
  rintro e w5 ⟨rfl, hb⟩
  replace fb0 := cell_later hb fb0
  replace fb1 := cell_later hb fb1
  replace fb2 := cell_later hb fb2
  replace pb0 := cell_later hb pb0
  replace pb1 := cell_later hb pb1
  replace xx0 := cell_later hb xx0
  replace xx1 := cell_later hb xx1
  replace xx2 := cell_later hb xx2
  replace rx := rx.below hb
  replace qx := qx.below hb
  replace lfb := Nat.lt_of_lt_of_le lfb hb.size
  replace lpb := Nat.lt_of_lt_of_le lpb hb.size
  replace lxx := Nat.lt_of_lt_of_le lxx hb.size
  replace B := below_next B hb
  have S11 := hb.size
  clear hb
  go_wp2_with fail
  have A12 : Below w5.heap.size w5 (w5.alloc (.cells #[.int .i64 cd, .int .i64 vl] 43)) := (Below.refl _ _).alloc (Nat.le_refl _) _
  replace fb0 := cell_later A12 fb0
  replace fb1 := cell_later A12 fb1
  replace fb2 := cell_later A12 fb2
  replace pb0 := cell_later A12 pb0
  replace pb1 := cell_later A12 pb1
  replace xx0 := cell_later A12 xx0
  replace xx1 := cell_later A12 xx1
  replace xx2 := cell_later A12 xx2
  replace rx := rx.below A12
  replace qx := qx.below A12
  replace lfb := Nat.lt_of_lt_of_le lfb A12.size
  replace lpb := Nat.lt_of_lt_of_le lpb A12.size
  replace lxx := Nat.lt_of_lt_of_le lxx A12.size
  replace B := below_next B A12
  have S13 := A12.size
  clear A12
  have E13 : w5.heap.size + 1 ≤ (w5.alloc (.cells #[.int .i64 cd, .int .i64 vl] 43)).heap.size := by simp
  have qb0 : (w5.alloc (.cells #[.int .i64 cd, .int .i64 vl] 43)).cell? ⟨w5.heap.size, 0, none⟩ = some (.int .i64 cd) := by simp
  have qb1 : (w5.alloc (.cells #[.int .i64 cd, .int .i64 vl] 43)).cell? ⟨w5.heap.size, 1, none⟩ = some (.int .i64 vl) := by simp
  have lqb : w5.heap.size < (w5.alloc (.cells #[.int .i64 cd, .int .i64 vl] 43)).heap.size := by simp
  go_wp2_with fail
  refine (eqNRes_yes _ _ _).mono ?_
  rintro e w6 ⟨rfl, hb⟩
  replace fb0 := cell_later hb fb0
  replace fb1 := cell_later hb fb1
  replace fb2 := cell_later hb fb2
  replace pb0 := cell_later hb pb0
  replace pb1 := cell_later hb pb1
  replace xx0 := cell_later hb xx0
  replace xx1 := cell_later hb xx1
  replace xx2 := cell_later hb xx2
  replace qb0 := cell_later hb qb0
  replace qb1 := cell_later hb qb1
  replace rx := rx.below hb
  replace qx := qx.below hb
  replace lfb := Nat.lt_of_lt_of_le lfb hb.size
  replace lpb := Nat.lt_of_lt_of_le lpb hb.size
  replace lxx := Nat.lt_of_lt_of_le lxx hb.size
  replace lqb := Nat.lt_of_lt_of_le lqb hb.size
  replace B := below_next B hb
  have S14 := hb.size
  clear hb
  have D7 : Below w6.heap.size w6 w6.drew := (Below.refl _ _).drew
  replace fb0 := cell_later D7 fb0
  replace fb1 := cell_later D7 fb1
  replace fb2 := cell_later D7 fb2
  replace pb0 := cell_later D7 pb0
  replace pb1 := cell_later D7 pb1
  replace xx0 := cell_later D7 xx0
  replace xx1 := cell_later D7 xx1
  replace xx2 := cell_later D7 xx2
  replace qb0 := cell_later D7 qb0
  replace qb1 := cell_later D7 qb1
  replace rx := rx.below D7
  replace qx := qx.below D7
  replace lfb := Nat.lt_of_lt_of_le lfb D7.size
  replace lpb := Nat.lt_of_lt_of_le lpb D7.size
  replace lxx := Nat.lt_of_lt_of_le lxx D7.size
  replace lqb := Nat.lt_of_lt_of_le lqb D7.size
  replace B := below_next B D7
  have S15 := D7.size
  clear D7
  have g0 := h0.below B
  have g2 := hv.below B
  go_wp2_with fail
  go_region_held3 (fun w' => w'.cell? ⟨w.heap.size, 0, none⟩ = some (.slice an nn cn) ∧ w'.cell? ⟨w.heap.size, 1, none⟩ = some (.slice ab nb cb) ∧ w'.cell? ⟨w.heap.size, 2, none⟩ = some (.slice av nv cv) ∧ w'.cell? ⟨w4.heap.size, 0, none⟩ = some (.slice xn nn nn) ∧ w'.cell? ⟨w4.heap.size, 1, none⟩ = some (.slice xb nb nb) ∧ w'.cell? ⟨w4.heap.size, 2, none⟩ = some (.slice xv nv nv)) (exact ⟨fb0, fb1, fb2, xx0, xx1, xx2⟩)
    (first | (go_at_call 125; refine (toPool_any an nn cn ab nb cb av nv cv K f vs _ g0 g2 hn1 hm1 HK1.out hv1).mono ?_; rintro e w7 ⟨yn, yb, yv, ymid, yK, rfl, ry, qy, _, _, hb⟩; have fb0 := cell_later hb fb0; have fb1 := cell_later hb fb1; have fb2 := cell_later hb fb2; have pb0 := cell_later hb pb0; have pb1 := cell_later hb pb1; have xx0 := cell_later hb xx0; have xx1 := cell_later hb xx1; have xx2 := cell_later hb xx2; have qb0 := cell_later hb qb0; have qb1 := cell_later hb qb1; have rx := rx.below hb; have qx := qx.below hb; have lfb := Nat.lt_of_lt_of_le lfb hb.size; have lpb := Nat.lt_of_lt_of_le lpb hb.size; have lxx := Nat.lt_of_lt_of_le lxx hb.size; have lqb := Nat.lt_of_lt_of_le lqb hb.size; have B := below_next B hb; clear hb) | (go_at_call 127; refine (eqPool_yes _ _ _ _ _ _ _ _ _ _ _ _ _ _ _ _ _ _ xK yK f vs _ rx qx ry qy hn2 hm2 (fo_lens rx hkl2) hv2).mono ?_; rintro e w8 ⟨rfl, hb⟩; have fb0 := cell_later hb fb0; have fb1 := cell_later hb fb1; have fb2 := cell_later hb fb2; have pb0 := cell_later hb pb0; have pb1 := cell_later hb pb1; have xx0 := cell_later hb xx0; have xx1 := cell_later hb xx1; have xx2 := cell_later hb xx2; have qb0 := cell_later hb qb0; have qb1 := cell_later hb qb1; have rx := rx.below hb; have qx := qx.below hb; have lfb := Nat.lt_of_lt_of_le lfb hb.size; have lpb := Nat.lt_of_lt_of_le lpb hb.size; have lxx := Nat.lt_of_lt_of_le lxx hb.size; have lqb := Nat.lt_of_lt_of_le lqb hb.size; have B := below_next B hb; clear hb))
  go_wp2
  go_ret
  exact ⟨rfl, B⟩

open Go.ChangeShapes Go.WideShapes Go.ChangeAt Go.Joins

set_option maxRecDepth 100000 in
theorem liftedVolAt (os : Os) (started : os.Started) (H : Type) (enc : TypeId × Value → H) :
    ReturnsInHanded {} Try.checked os 33 .any (Rows.fnExactVolAtSpec.pre6 enc Try.prog Try.f33 Rows.fnExactVolAtRow.domain false) (Rows.fnExactVolAtSpec.post enc Try.prog Try.f33 false true false false) := by
  refine returnsInHanded_of_change (C := Try.checked) Try.own started (by kernel_rfl) Try.func33
    (ChangeSpec.witness6 (enc := enc) (C := Try.checked) false ⟨#[], #[.agg #[.slice none 0 0, .slice none 0 0, .slice none 0 0], .int .i64 0], []⟩ 8 (by kernel_rfl) (by kernel_rfl) (by kernel_rfl) (by kernel_rfl)) ?_
  intro W base args ds gs before hval0 hW hcnd _
  have hval : ∀ (j : Nat) t v, Try.f33.params[j]? = some t → args[j]? = some v → Value.okWide Try.prog W .any base t v := hval0
  have hW' := hW
  obtain ⟨p, q, hA0, hV, rfl, hfz, hnd⟩ := hW
  have hA : DataW.TrodAll enc Try.prog W 0 (fun _ => true) true Try.f33.params.toList args.toList ds p := hA0
  rw [Try.params33] at hA hval
  obtain ⟨v0, vs0, d0, ds0, p0, q0, hargs, rfl, rfl, h0, r0⟩ := trodAll_cons hA
  obtain ⟨v1, vs1, d1, ds1, p1, q1, rfl, rfl, rfl, h1, r1⟩ := trodAll_cons r0
  obtain ⟨rfl, rfl, rfl⟩ := trodAll_nil r1
  obtain rfl : args = #[v0, v1] := by cases args; simp_all
  obtain ⟨rfl, rfl⟩ := trodVars_none hV
  have lt0 : ∀ x ∈ p0, x.block < W.heap.size := by obtain ⟨m, hm⟩ := h0; exact DataW.trod_lt m _ _ _ hm
  have k0 := h0
  obtain ⟨e0, e1, e2, y0, y1, y2, m, m', rfl, hy0, hy1, hy2⟩ := open_pool Try.underlying137 rfl rfl Try.cellsForest Try.cellsVols Try.cellsPool Try.underlying120 rfl rfl Try.cellsNodes Try.cellsBlocks (hval 0 137 v0 rfl rfl) h0
  obtain ⟨an, nn, cn, Kf, ns, rfl, hnf, hKf, sn⟩ := read_nodes Try.underlying118 Try.underlying263 Try.cellsNode rfl rfl rfl Try.underlying2 Try.underlying4 Try.underlying24 Try.underlying2 Try.cellsInt Try.cellsBool Try.cellsInts Try.cellsInt hy0
  obtain ⟨ab, nb, cb, bs, rfl, hmf, sbk⟩ := read_pairs Try.underlying108 Try.underlying205 Try.cellsBlock rfl rfl Try.underlying2 Try.underlying2 Try.cellsInt Try.cellsInt hy1
  obtain ⟨av, nv, cv, vs, rfl, hvf, sv⟩ := read_vols Try.underlying135 Try.underlying270 Try.cellsVol rfl rfl rfl Try.underlying2 Try.underlying2 Try.underlying2 Try.cellsInt Try.cellsInt Try.cellsInt hy2
  have sf : FoAt W false 0 W.heap.size an nn cn ab nb cb Kf (ns, bs) := ⟨sn, sbk, fun hx => by cases hx⟩
  obtain ⟨x1, rfl, rfl, rfl, wx1⟩ := open_int Try.underlying2 (hval 1 2 v1 rfl rfl) h1
  clear hA0 hval0
  refine (lawVolAt _ _ _ _ _ _ _ _ _ _ (ns, bs) vs x1 W sf sv hnf hmf hKf hvf).mono fun e W' ⟨he, bel⟩ => ?_
  subst he
  exact ⟨_, rfl, _, _, _, [], _, [], hW', trodAll_mk1 (shut_bool Try.underlying4 _), (trodAll_cons_mk (Below.trod Try.laidOut (by kernel_rfl) (of_decide_eq_true (by kernel_rfl)) k0 bel lt0) (trodAll_cons_mk (shut_int Try.underlying2 wx1) trodAll_mk0)), rfl, bel.frame _, fun h => by cases h⟩

set_option maxRecDepth 100000 in
set_option maxHeartbeats 0 in
theorem closedVolAt : joinedFacts Try.prog 33 Try.f33 Rows.fnExactVolAtSpec Rows.fnExactVolAtRow = true := by
  have q1 : (Rows.fnExactVolAtRow.inPlace == Try.prog.inPlace 33) = true := by rw [inPlace_at leads_is inp_is]; kernel_rfl
  have q2 : (Rows.fnExactVolAtRow.unfollowed == Try.prog.unfollowed 33) = true := by rw [unfollowed_at leads_is unf_is]; kernel_rfl
  have q3 : (Rows.fnExactVolAtRow.recurses == Try.prog.recurses 33) = true := (by rw [recurses_unf leads_is (by rw [unfollowed_at leads_is unf_is]; kernel_rfl)]; rfl)
  have q4 : (Rows.fnExactVolAtRow.named == Try.prog.varsNamed 33) = true := by rw [varsNamed_at leads_is var_ok ent_is]; kernel_rfl
  have q5 : (Try.prog.make == some Rows.fnExactVolAtRow.make) = true := by rw [made_cut]; rfl
  have q6 : (Rows.fnExactVolAtRow.lifted == Try.prog.liftsFinal) = true := by rw [lifts_no]; rfl
  have q7 : Try.prog.mayEnter = true := may_enter
  have q8 : laidOutB Try.prog = true := Try.laidOut
  unfold joinedFacts
  repeat' (with_reducible refine Bool.and_eq_true_iff.2 ⟨?_, ?_⟩)
  all_goals (first | with_reducible exact q1 | with_reducible exact q2 | with_reducible exact q3 | with_reducible exact q4 | with_reducible exact q5 | with_reducible exact q6 | with_reducible exact q7 | with_reducible exact q8 | (as_aux_lemma => kernel_rfl))

theorem volAt_holds : Rows.FnExactVolAtSaid :=
  OpenClaim.holds_of_wide 33 Try.f33 rfl rfl rfl rfl rfl rfl rfl ⟨rfl, rfl, rfl, rfl, rfl⟩ rfl rfl rfl rfl rfl (by as_aux_lemma => kernel_rfl) Try.func33 closedVolAt
    (of_decide_eq_true (by as_aux_lemma => kernel_rfl)) (by unfold Func.isWrapper; first | (rw [if_pos (by decide +kernel)]; kernel_rfl) | (rw [if_neg (by decide +kernel)]; exact ⟨rfl, rfl⟩))
    (fun os started H enc _ => liftedVolAt os started H enc)

#print axioms volAt_holds

end Go.Proofs.Ytkdaphfmhdkhfaa
