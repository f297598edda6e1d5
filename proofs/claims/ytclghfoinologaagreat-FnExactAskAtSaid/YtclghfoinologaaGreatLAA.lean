/- At every cluster, number and entry the program's AskAt answers as its model does, field by field, writes into no argument, and its answer owns its memory: the law FnExactAskAt is true at every argument, with no condition. -/
import Derived.Test.YtclghfoinologaaGreatQBT
import Derived.Test.YtclghfoinologaaGreatQBW
set_option maxRecDepth 20000
set_option maxHeartbeats 16000000
namespace Go.Proofs.YtclghfoinologaaGreat
open Go.RowKit
theorem small_askE (en : En) (r : Rep) (_ : repF r = 0) : FewR (askQ r en) := by
 by_cases hc : askC r en = 0
 ·exact small_of (ask_ok hc).rep
 ·unfold askQ;rw [if_neg hc];exact small_rep0
def CBoA (own : Bool) (W wx : World) (xb : Nat) (c : Int) (R : List Rep) (M : List Ml) (E : List En) : Prop := ∃ (z u : Nat) (N M' S : Hd) (xs : List Nod) (ys : List Mal), Bx wx xb [.int .i64 c, .slice N.1 N.2.1 N.2.2, .slice M'.1 M'.2.1 M'.2.2, .slice S.1 S.2.1 S.2.2] ∧ ClAt wx own z u N M' S xs ys E ∧ ClSz N M' S xs ys 1048576 ∧ xs.map (·.1) = R ∧ ys.map (·.1) = M ∧ W.heap.size ≤ z ∧ u ≤ wx.heap.size ∧ W.heap.size ≤ xb ∧ (xb < z ∨ u ≤ xb) ∧ Below W.heap.size W wx
theorem lawAskAt {own : Bool} (N M Sl : Hd) (xs : List Nod) (ms : List Mal) (es : List En) (v : Int) (en : En) (w : World) (x : ClAt w own 0 w.heap.size N M Sl xs ms es) (hs : ClSz N M Sl xs ms maxLen) : Calls Tryz.prog 3 #[.agg #[.slice N.1 N.2.1 N.2.2, .slice M.1 M.2.1 M.2.2, .slice Sl.1 Sl.2.1 Sl.2.2], .int .i64 v, .agg #[.int .i64 en.1, .int .i64 en.2.1, .int .i64 en.2.2.1, .int .i64 en.2.2.2.1, .int .i64 en.2.2.2.2.1, .int .i64 en.2.2.2.2.2]] w fun e w' => e = .returned (.bool true) ∧ Below w.heap.size w w' := by
 obtain ⟨rs, hrs⟩ : ∃ rs, xs.map (·.1) = rs := ⟨_, rfl⟩;obtain ⟨ns, hns⟩ : ∃ ns, ms.map (·.1) = ns := ⟨_, rfl⟩
 obtain ⟨c, hc⟩ : ∃ c, atC rs ns es v (fun r => askC r en) = c := ⟨_, rfl⟩
 obtain ⟨R', hR⟩ : ∃ R', atN rs ns es v (fun r => askC r en) (fun r => askQ r en) = R' := ⟨_, rfl⟩
 obtain ⟨M', hM⟩ : ∃ M', atM rs ns es v (fun r => askC r en) (fun r => askM r en) = M' := ⟨_, rfl⟩
 obtain ⟨E', hE⟩ : ∃ E', atE rs ns es v (fun r => askC r en) (fun r => askQ r en) = E' := ⟨_, rfl⟩
 have HS1 : Hid (∀ {own : Bool} {lo hi : Nat} (N M Sl : Hd) (xs : List Nod) (ms : List Mal) (w : World), ClAt w own lo hi N M Sl xs ms es → ClSz N M Sl xs ms 1048576 → xs.map (·.1) = rs → ms.map (·.1) = ns → Calls Tryz.prog 6 #[.agg #[.slice N.1 N.2.1 N.2.2, .slice M.1 M.2.1 M.2.2, .slice Sl.1 Sl.2.1 Sl.2.2], .int .i64 v, .agg #[.int .i64 en.1, .int .i64 en.2.1, .int .i64 en.2.2.1, .int .i64 en.2.2.2.1, .int .i64 en.2.2.2.2.1, .int .i64 en.2.2.2.2.2]] w fun e w' => ClZ false w w' e c R' M' E') := fun N M Sl xs ms w x s h1 h2 => (specAskAt_is en N M Sl xs ms es v w x s rs ns h1 h2 c R' M' E' hc hR hM hE).mono fun _ _ h => h.z
 have HI1 : Hid (∀ {own : Bool} {lo hi : Nat} (N M Sl : Hd) (xs : List Nod) (ms : List Mal) (w : World), ClAt w own lo hi N M Sl xs ms es → ClSz N M Sl xs ms 1048576 → xs.map (·.1) = rs → ms.map (·.1) = ns → Calls Tryz.prog 9 #[.agg #[.slice N.1 N.2.1 N.2.2, .slice M.1 M.2.1 M.2.2, .slice Sl.1 Sl.2.1 Sl.2.2], .int .i64 v, .agg #[.int .i64 en.1, .int .i64 en.2.1, .int .i64 en.2.2.1, .int .i64 en.2.2.2.1, .int .i64 en.2.2.2.2.1, .int .i64 en.2.2.2.2.2]] w fun e w' => ClZ true w w' e c R' M' E') := fun N M Sl xs ms w x s h1 h2 => (implAskAt_is en N M Sl xs ms es v w x s rs ns h1 h2 c R' M' E' hc hR hM hE).mono fun _ _ h => h.z
 have HNF : Hid (nlen R' ≤ 1280) := by rw [← hR];exact atN_few rs ns es v (fun r => askC r en) (fun r => askQ r en) (small_askE en)
 have HRS : Hid _ := hrs
 have HNS : Hid _ := hns
 have HSX : Hid (nsum xs = nlen rs) := by (show _ = _;rw [← hrs];exact clz_sum x)
 clear hc hR hM hE hrs hns
 go_enter Tryz.func3, Tryz.ntmps3
 go_wp2_with (first | ((have g := ob0);clear g;(with_reducible refine box_newX 30 [.int .i64 en.1, .int .i64 en.2.1, .int .i64 en.2.2.1, .int .i64 en.2.2.2.1, .int .i64 en.2.2.2.2.1, .int .i64 en.2.2.2.2.2] rfl ?_);intro b1 W1 N1;have ob1 := N1.o B;have o0_b1 := N1.u X0;replace X0 := N1.r X0;replace c0 := X0.cell;replace B := N1.n B;obtain ⟨X1, c1⟩ := N1.c;clear N1) | ((with_reducible refine box_newX 26 [.slice N.1 N.2.1 N.2.2, .slice M.1 M.2.1 M.2.2, .slice Sl.1 Sl.2.1 Sl.2.2] rfl ?_);intro b0 W0 N0;have ob0 := N0.ge;have B := N0.below;obtain ⟨X0, c0⟩ := N0.c;clear N0) | fail)
 refine (szCluster_sum N M Sl xs ms es _ (x.below B) hs).mono ?_;rintro e w1 ⟨q, rfl, BB, hq⟩;replace X0 := X0.below BB;replace c0 := X0.cell;replace X1 := X1.below BB;replace c1 := X1.cell;replace B := below_next B BB;clear BB
 rcases hq with hq | ⟨hq0, hq1, HZ0, hns0⟩
 ·go_wp2;go_ret;exact ⟨rfl, B⟩
 have hq' : ¬ q < 0 := by omega
 have HZ : Hid _ := HZ0
 have HNX : Hid _ := hns0
 clear hq0 hq1 HZ0 hns0;go_wp2_with fail
 first | go_frame | skip
 go_cut [8] (fun y wx => ∃ xb : Nat, y = .pointer (some ⟨xb, 0, none⟩) ∧ CBoA false w1 wx xb c R' M' E')
 case first =>
  have BW : Below w1.heap.size w1 w1 := Below.refl _ _
  have DQ : Below w1.heap.size w1 w1.drew := (Below.refl _ _).drew
  replace X0 := X0.below DQ;replace c0 := X0.cell;replace X1 := X1.below DQ;replace c1 := X1.cell;replace B := below_next B DQ;replace BW := below_next BW DQ;clear DQ
  refine wp_region_held_drew (S := (fun w' => (∀ k : Nat, w'.cell? ⟨b0, k, none⟩ = [.slice N.1 N.2.1 N.2.2, .slice M.1 M.2.1 M.2.2, .slice Sl.1 Sl.2.1 Sl.2.2][k]?) ∧ (∀ k : Nat, w'.cell? ⟨b1, k, none⟩ = [.int .i64 en.1, .int .i64 en.2.1, .int .i64 en.2.2.1, .int .i64 en.2.2.2.1, .int .i64 en.2.2.2.2.1, .int .i64 en.2.2.2.2.2][k]?))) (by kernel_rfl) ⟨c0, c1⟩ (fun hZq => ?_)
  refine tk 0 hZq ?_;refine tk 2 hZq ?_;refine tk 3 hZq ?_
  refine wpAnyH_ready (rs := [1, 6]) (by kernel_rfl) (by simp) ?_
  refine (AllReadyH.cons rfl (fun KK hKK => ?_) (AllReadyH.cons rfl (fun KK hKK => ?_) AllReadyH.nil))
  ·go_simp
   go_at_call 7
   refine (toCluster_any N M Sl xs ms es _ (x.below B) HZ.out).mono ?_;rintro e v1 ⟨z1, u1, N1, M1, S1, x1, m1, rfl, _, _, y1, e11, e21, s1, BB⟩;replace X0 := X0.below BB;replace c0 := X0.cell;replace X1 := X1.below BB;replace c1 := X1.cell;replace B := below_next B BB;replace BW := below_next BW BB;clear BB;clear hZq
   refine hKK _ _ ⟨c0, c1⟩ (fun hZq => ?_)
   clear hKK KK
   refine wpAnyH_ready (rs := [4, 6]) (by kernel_rfl) (by simp) ?_
   refine (AllReadyH.cons rfl (fun KK hKK => ?_) (AllReadyH.cons rfl (fun KK hKK => ?_) AllReadyH.nil))
   ·go_simp
    go_at_call 8
    refine (toEntry_any en.1 en.2.1 en.2.2.1 en.2.2.2.1 en.2.2.2.2.1 en.2.2.2.2.2 _).mono ?_;rintro e v2 ⟨rfl, BB⟩;replace X0 := X0.below BB;replace c0 := X0.cell;replace X1 := X1.below BB;replace c1 := X1.cell;replace y1 := y1.below BB;replace B := below_next B BB;replace BW := below_next BW BB;clear BB;clear hZq
    refine hKK _ _ ⟨c0, c1⟩ (fun hZq => ?_)
    clear hKK KK
    refine wpAnyH_ready (rs := [5, 6]) (by kernel_rfl) (by simp) ?_
    refine (AllReadyH.cons rfl (fun KK hKK => ?_) (AllReadyH.cons rfl (fun KK hKK => ?_) AllReadyH.nil))
    ·go_simp
     go_at_call 6
     refine (HS1.out N1 M1 S1 x1 m1 _ y1 s1 (e11.trans HRS.out) (e21.trans HNS.out)).mono ?_;rintro e v3 ⟨zp, up, Np, Mp, Lp, xp, mp, rfl, Gzp, hdp, dp, sp, fp, kp, BB⟩;have ozp := Nat.le_trans B.size Gzp;have o0_zp := ltl X0.lt Gzp;have o1_zp := ltl X1.lt Gzp;have BW_zp := Nat.le_trans BW.size Gzp;clear Gzp;replace X0 := X0.below BB;replace c0 := X0.cell;replace X1 := X1.below BB;replace c1 := X1.cell;replace B := below_next B BB;replace BW := below_next BW BB;clear BB;clear y1 s1 e11 e21;clear hZq
     refine hKK _ _ ⟨c0, c1⟩ (fun hZq => ?_)
     clear hKK KK
     refine rd1 6 (fun KK hKK => ?_)
     refine step_allocX 38 [.int .i64 0, .slice none 0 0, .slice none 0 0, .slice none 0 0] (fun _ => by kernel_rfl) ?_
     intro b2 W2 N2;have ob2 := N2.o B;have o0_b2 := N2.u X0;have o1_b2 := N2.u X1;have odp_b2 := Nat.le_trans hdp N2.ge;have BW_b2 := Nat.le_trans BW.size N2.ge;replace X0 := N2.r X0;replace c0 := X0.cell;replace X1 := N2.r X1;replace c1 := X1.cell;replace dp := dp.below N2.below;replace hdp := Nat.le_trans hdp N2.below.size;replace B := N2.n B;replace BW := below_next BW N2.below
     obtain ⟨X2, c2, f2⟩ := N2.a
     clear N2;clear hZq
     refine hKK _ _ ⟨c0, c1⟩ (fun hZq => ?_)
     clear hKK KK
     refine rd1 7 (fun KK hKK => ?_)
     refine step_midX 38 X2 0 [.int .i64 c, .slice Np.1 Np.2.1 Np.2.2, .slice Mp.1 Mp.2.1 Mp.2.2, .slice Lp.1 Lp.2.1 Lp.2.2] (by simp) (by kernel_rfl) (by simp [Value.oneCell']) rfl rfl ?_
     intro V1 S;replace X0 := X0.kp S.kept;replace c0 := X0.cell;replace X1 := X1.kp S.kept;replace c1 := X1.cell
     replace X2 : Bx V1 b2 [.int .i64 c, .slice Np.1 Np.2.1 Np.2.2, .slice Mp.1 Mp.2.1 Mp.2.2, .slice Lp.1 Lp.2.1 Lp.2.2] := S.bx
     replace c2 := X2.cell;replace f2 := X2.froz
     replace dp := dp.kept S.kept (by omega)
     replace hdp := Nat.le_trans hdp S.kept.size;replace B := bkp B S.kept
     replace BW := BW.trans (S.kept.below _ (by omega) BW.size)
     clear S;clear hZq
     refine hKK _ _ ⟨c0, c1⟩ (fun hZq => ?_)
     clear hKK KK
     refine wpAnyH_done (by kernel_rfl) ?_ _
     go_wp2_with fail
     go_meet
     exact ⟨b2, rfl, zp, up, Np, Mp, Lp, xp, mp, X2, dp, sp, fp, kp, by omega, hdp, by omega, by omega, BW⟩
    ·refine step_allocX 38 [.int .i64 0, .slice none 0 0, .slice none 0 0, .slice none 0 0] (fun _ => by kernel_rfl) ?_
     intro b2 W2 N2;have ob2 := N2.o B;have o0_b2 := N2.u X0;have o1_b2 := N2.u X1;have BW_b2 := Nat.le_trans BW.size N2.ge;replace X0 := N2.r X0;replace c0 := X0.cell;replace X1 := N2.r X1;replace c1 := X1.cell;replace y1 := y1.below N2.below;replace B := N2.n B;replace BW := below_next BW N2.below
     obtain ⟨X2, c2, f2⟩ := N2.a
     clear N2;clear hZq
     refine hKK _ _ ⟨c0, c1⟩ (fun hZq => ?_)
     clear hKK KK
     refine rd1 5 (fun KK hKK => ?_)
     go_simp
     go_at_call 6
     refine (HS1.out N1 M1 S1 x1 m1 _ y1 s1 (e11.trans HRS.out) (e21.trans HNS.out)).mono ?_;rintro e v3 ⟨zp, up, Np, Mp, Lp, xp, mp, rfl, Gzp, hdp, dp, sp, fp, kp, BB⟩;have ozp := Nat.le_trans B.size Gzp;have o0_zp := ltl X0.lt Gzp;have o1_zp := ltl X1.lt Gzp;have o2_zp := ltl X2.lt Gzp;have BW_zp := Nat.le_trans BW.size Gzp;clear Gzp;replace X0 := X0.below BB;replace c0 := X0.cell;replace X1 := X1.below BB;replace c1 := X1.cell;replace X2 := X2.below BB;replace c2 := X2.cell;replace f2 := X2.froz;replace B := below_next B BB;replace BW := below_next BW BB;clear BB;clear y1 s1 e11 e21;clear hZq
     refine hKK _ _ ⟨c0, c1⟩ (fun hZq => ?_)
     clear hKK KK
     refine rd1 7 (fun KK hKK => ?_)
     refine step_midX 38 X2 0 [.int .i64 c, .slice Np.1 Np.2.1 Np.2.2, .slice Mp.1 Mp.2.1 Mp.2.2, .slice Lp.1 Lp.2.1 Lp.2.2] (by simp) (by kernel_rfl) (by simp [Value.oneCell']) rfl rfl ?_
     intro V1 S;replace X0 := X0.kp S.kept;replace c0 := X0.cell;replace X1 := X1.kp S.kept;replace c1 := X1.cell
     replace X2 : Bx V1 b2 [.int .i64 c, .slice Np.1 Np.2.1 Np.2.2, .slice Mp.1 Mp.2.1 Mp.2.2, .slice Lp.1 Lp.2.1 Lp.2.2] := S.bx
     replace c2 := X2.cell;replace f2 := X2.froz
     replace dp := dp.kept S.kept (by omega)
     replace hdp := Nat.le_trans hdp S.kept.size;replace B := bkp B S.kept
     replace BW := BW.trans (S.kept.below _ (by omega) BW.size)
     clear S;clear hZq
     refine hKK _ _ ⟨c0, c1⟩ (fun hZq => ?_)
     clear hKK KK
     refine wpAnyH_done (by kernel_rfl) ?_ _
     go_wp2_with fail
     go_meet
     exact ⟨b2, rfl, zp, up, Np, Mp, Lp, xp, mp, X2, dp, sp, fp, kp, by omega, hdp, by omega, by omega, BW⟩
   ·refine step_allocX 38 [.int .i64 0, .slice none 0 0, .slice none 0 0, .slice none 0 0] (fun _ => by kernel_rfl) ?_
    intro b2 W2 N2;have ob2 := N2.o B;have o0_b2 := N2.u X0;have o1_b2 := N2.u X1;have BW_b2 := Nat.le_trans BW.size N2.ge;replace X0 := N2.r X0;replace c0 := X0.cell;replace X1 := N2.r X1;replace c1 := X1.cell;replace y1 := y1.below N2.below;replace B := N2.n B;replace BW := below_next BW N2.below
    obtain ⟨X2, c2, f2⟩ := N2.a
    clear N2;clear hZq
    refine hKK _ _ ⟨c0, c1⟩ (fun hZq => ?_)
    clear hKK KK
    refine rd1 4 (fun KK hKK => ?_)
    go_simp
    go_at_call 8
    refine (toEntry_any en.1 en.2.1 en.2.2.1 en.2.2.2.1 en.2.2.2.2.1 en.2.2.2.2.2 _).mono ?_;rintro e v2 ⟨rfl, BB⟩;replace X0 := X0.below BB;replace c0 := X0.cell;replace X1 := X1.below BB;replace c1 := X1.cell;replace X2 := X2.below BB;replace c2 := X2.cell;replace f2 := X2.froz;replace y1 := y1.below BB;replace B := below_next B BB;replace BW := below_next BW BB;clear BB;clear hZq
    refine hKK _ _ ⟨c0, c1⟩ (fun hZq => ?_)
    clear hKK KK
    refine rd1 5 (fun KK hKK => ?_)
    go_simp
    go_at_call 6
    refine (HS1.out N1 M1 S1 x1 m1 _ y1 s1 (e11.trans HRS.out) (e21.trans HNS.out)).mono ?_;rintro e v3 ⟨zp, up, Np, Mp, Lp, xp, mp, rfl, Gzp, hdp, dp, sp, fp, kp, BB⟩;have ozp := Nat.le_trans B.size Gzp;have o0_zp := ltl X0.lt Gzp;have o1_zp := ltl X1.lt Gzp;have o2_zp := ltl X2.lt Gzp;have BW_zp := Nat.le_trans BW.size Gzp;clear Gzp;replace X0 := X0.below BB;replace c0 := X0.cell;replace X1 := X1.below BB;replace c1 := X1.cell;replace X2 := X2.below BB;replace c2 := X2.cell;replace f2 := X2.froz;replace B := below_next B BB;replace BW := below_next BW BB;clear BB;clear y1 s1 e11 e21;clear hZq
    refine hKK _ _ ⟨c0, c1⟩ (fun hZq => ?_)
    clear hKK KK
    refine rd1 7 (fun KK hKK => ?_)
    refine step_midX 38 X2 0 [.int .i64 c, .slice Np.1 Np.2.1 Np.2.2, .slice Mp.1 Mp.2.1 Mp.2.2, .slice Lp.1 Lp.2.1 Lp.2.2] (by simp) (by kernel_rfl) (by simp [Value.oneCell']) rfl rfl ?_
    intro V1 S;replace X0 := X0.kp S.kept;replace c0 := X0.cell;replace X1 := X1.kp S.kept;replace c1 := X1.cell
    replace X2 : Bx V1 b2 [.int .i64 c, .slice Np.1 Np.2.1 Np.2.2, .slice Mp.1 Mp.2.1 Mp.2.2, .slice Lp.1 Lp.2.1 Lp.2.2] := S.bx
    replace c2 := X2.cell;replace f2 := X2.froz
    replace dp := dp.kept S.kept (by omega)
    replace hdp := Nat.le_trans hdp S.kept.size;replace B := bkp B S.kept
    replace BW := BW.trans (S.kept.below _ (by omega) BW.size)
    clear S;clear hZq
    refine hKK _ _ ⟨c0, c1⟩ (fun hZq => ?_)
    clear hKK KK
    refine wpAnyH_done (by kernel_rfl) ?_ _
    go_wp2_with fail
    go_meet
    exact ⟨b2, rfl, zp, up, Np, Mp, Lp, xp, mp, X2, dp, sp, fp, kp, by omega, hdp, by omega, by omega, BW⟩
  ·refine step_allocX 38 [.int .i64 0, .slice none 0 0, .slice none 0 0, .slice none 0 0] (fun _ => by kernel_rfl) ?_
   intro b2 W2 N2;have ob2 := N2.o B;have o0_b2 := N2.u X0;have o1_b2 := N2.u X1;have BW_b2 := Nat.le_trans BW.size N2.ge;replace X0 := N2.r X0;replace c0 := X0.cell;replace X1 := N2.r X1;replace c1 := X1.cell;replace B := N2.n B;replace BW := below_next BW N2.below
   obtain ⟨X2, c2, f2⟩ := N2.a
   clear N2;clear hZq
   refine hKK _ _ ⟨c0, c1⟩ (fun hZq => ?_)
   clear hKK KK
   refine rd1 1 (fun KK hKK => ?_)
   go_simp
   go_at_call 7
   refine (toCluster_any N M Sl xs ms es _ (x.below B) HZ.out).mono ?_;rintro e v1 ⟨z1, u1, N1, M1, S1, x1, m1, rfl, _, _, y1, e11, e21, s1, BB⟩;replace X0 := X0.below BB;replace c0 := X0.cell;replace X1 := X1.below BB;replace c1 := X1.cell;replace X2 := X2.below BB;replace c2 := X2.cell;replace f2 := X2.froz;replace B := below_next B BB;replace BW := below_next BW BB;clear BB;clear hZq
   refine hKK _ _ ⟨c0, c1⟩ (fun hZq => ?_)
   clear hKK KK
   refine rd1 4 (fun KK hKK => ?_)
   go_simp
   go_at_call 8
   refine (toEntry_any en.1 en.2.1 en.2.2.1 en.2.2.2.1 en.2.2.2.2.1 en.2.2.2.2.2 _).mono ?_;rintro e v2 ⟨rfl, BB⟩;replace X0 := X0.below BB;replace c0 := X0.cell;replace X1 := X1.below BB;replace c1 := X1.cell;replace X2 := X2.below BB;replace c2 := X2.cell;replace f2 := X2.froz;replace y1 := y1.below BB;replace B := below_next B BB;replace BW := below_next BW BB;clear BB;clear hZq
   refine hKK _ _ ⟨c0, c1⟩ (fun hZq => ?_)
   clear hKK KK
   refine rd1 5 (fun KK hKK => ?_)
   go_simp
   go_at_call 6
   refine (HS1.out N1 M1 S1 x1 m1 _ y1 s1 (e11.trans HRS.out) (e21.trans HNS.out)).mono ?_;rintro e v3 ⟨zp, up, Np, Mp, Lp, xp, mp, rfl, Gzp, hdp, dp, sp, fp, kp, BB⟩;have ozp := Nat.le_trans B.size Gzp;have o0_zp := ltl X0.lt Gzp;have o1_zp := ltl X1.lt Gzp;have o2_zp := ltl X2.lt Gzp;have BW_zp := Nat.le_trans BW.size Gzp;clear Gzp;replace X0 := X0.below BB;replace c0 := X0.cell;replace X1 := X1.below BB;replace c1 := X1.cell;replace X2 := X2.below BB;replace c2 := X2.cell;replace f2 := X2.froz;replace B := below_next B BB;replace BW := below_next BW BB;clear BB;clear y1 s1 e11 e21;clear hZq
   refine hKK _ _ ⟨c0, c1⟩ (fun hZq => ?_)
   clear hKK KK
   refine rd1 7 (fun KK hKK => ?_)
   refine step_midX 38 X2 0 [.int .i64 c, .slice Np.1 Np.2.1 Np.2.2, .slice Mp.1 Mp.2.1 Mp.2.2, .slice Lp.1 Lp.2.1 Lp.2.2] (by simp) (by kernel_rfl) (by simp [Value.oneCell']) rfl rfl ?_
   intro V1 S;replace X0 := X0.kp S.kept;replace c0 := X0.cell;replace X1 := X1.kp S.kept;replace c1 := X1.cell
   replace X2 : Bx V1 b2 [.int .i64 c, .slice Np.1 Np.2.1 Np.2.2, .slice Mp.1 Mp.2.1 Mp.2.2, .slice Lp.1 Lp.2.1 Lp.2.2] := S.bx
   replace c2 := X2.cell;replace f2 := X2.froz
   replace dp := dp.kept S.kept (by omega)
   replace hdp := Nat.le_trans hdp S.kept.size;replace B := bkp B S.kept
   replace BW := BW.trans (S.kept.below _ (by omega) BW.size)
   clear S;clear hZq
   refine hKK _ _ ⟨c0, c1⟩ (fun hZq => ?_)
   clear hKK KK
   refine wpAnyH_done (by kernel_rfl) ?_ _
   go_wp2_with fail
   go_meet
   exact ⟨b2, rfl, zp, up, Np, Mp, Lp, xp, mp, X2, dp, sp, fp, kp, by omega, hdp, by omega, by omega, BW⟩
 case rest =>
  obtain ⟨b2, rfl, zp, up, Np, Mp, Lp, xp, mp, XX, dp, sp, fp, kp, Gz9, hdp, Gb9, sep2, BX⟩ := hcut
  rename World => wc5
  have hbx := BX.size;have ob2 := Nat.le_trans B.size Gb9;have o0_b2 := ltl X0.lt Gb9;have o1_b2 := ltl X1.lt Gb9;have ozp := Nat.le_trans B.size Gz9;have o0_zp := ltl X0.lt Gz9;have o1_zp := ltl X1.lt Gz9;replace X0 := X0.below BX;replace c0 := X0.cell;replace X1 := X1.below BX;replace c1 := X1.cell;replace B := below_next B BX;have X2 := XX;have c2 := X2.cell;clear XX BX Gz9 Gb9
  have Fp : Hid _ := fp
  have Kp : Hid _ := kp
  have Zp : Hid _ := sp
  clear fp kp sp;go_wp2_with fail;refine (toCluster_any N M Sl xs ms es _ (x.below B) HZ.out).mono ?_;rintro e w4 ⟨zY, uY, N2, M2, S2, x2, m2, rfl, GzY, hy2, y2, e1, e2, s2, BB⟩;have ozY := Nat.le_trans B.size GzY;have o0_zY := ltl X0.lt GzY;have o1_zY := ltl X1.lt GzY;have o2_zY := ltl X2.lt GzY;have odp_zY := Nat.le_trans hdp GzY;clear GzY;replace X0 := X0.below BB;replace c0 := X0.cell;replace X1 := X1.below BB;replace c1 := X1.cell;replace X2 := X2.below BB;replace c2 := X2.cell;replace dp := dp.below BB;replace hdp := Nat.le_trans hdp BB.size;replace B := below_next B BB
  have E1 : Hid _ := e1
  have E2 : Hid _ := e2
  have SZ2 : Hid _ := s2
  have HN2 : Hid (nsum x2 ≤ 1048576) := by (show _ ≤ _;rw [clz_sum y2, e1, HRS.out, ← HSX.out];exact HNX.out)
  clear e1 e2 s2;clear BB
  go_wp2_with (first | ((with_reducible refine sm 36 X3 0 [.slice N2.1 N2.2.1 N2.2.2, .slice M2.1 M2.2.1 M2.2.2, .slice S2.1 S2.2.1 S2.2.2] ?_);intro V1 S;replace X0 := X0.kp S.kept;replace c0 := X0.cell;replace X1 := X1.kp S.kept;replace c1 := X1.cell;replace X2 := X2.kp S.kept;replace c2 := X2.cell;replace X3 : Bx V1 b3 [.slice N2.1 N2.2.1 N2.2.2, .slice M2.1 M2.2.1 M2.2.2, .slice S2.1 S2.2.1 S2.2.2] := S.bx;replace c3 := X3.cell;replace f3 := X3.froz;replace dp := dp.kept S.kept (by omega);replace hdp := Nat.le_trans hdp S.kept.size;replace y2 := y2.kept S.kept (by omega);replace hy2 := Nat.le_trans hy2 S.kept.size;replace B := bkp B S.kept;clear S) | ((have g := ob2);clear g;(with_reducible refine al 36 [.slice none 0 0, .slice none 0 0, .slice none 0 0] ?_);intro b3 W3 N3;have ob3 := N3.o B;have o0_b3 := N3.u X0;have o1_b3 := N3.u X1;have o2_b3 := N3.u X2;have odp_b3 := Nat.le_trans hdp N3.ge;have oy2_b3 := Nat.le_trans hy2 N3.ge;replace X0 := N3.r X0;replace c0 := X0.cell;replace X1 := N3.r X1;replace c1 := X1.cell;replace X2 := N3.r X2;replace c2 := X2.cell;replace dp := dp.below N3.below;replace hdp := Nat.le_trans hdp N3.below.size;replace y2 := y2.below N3.below;replace hy2 := Nat.le_trans hy2 N3.below.size;replace B := N3.n B;obtain ⟨X3, c3, f3⟩ := N3.a;clear N3) | fail)
  first | go_frame | skip
  go_cut [10] (fun y wx => ∃ xb : Nat, y = .pointer (some ⟨xb, 0, none⟩) ∧ CBoA true V1 wx xb c R' M' E')
  case first =>
   have BW : Below V1.heap.size V1 V1 := Below.refl _ _
   have DQ : Below V1.heap.size V1 V1.drew := (Below.refl _ _).drew
   replace X0 := X0.below DQ;replace c0 := X0.cell;replace X1 := X1.below DQ;replace c1 := X1.cell;replace X2 := X2.below DQ;replace c2 := X2.cell;replace X3 := X3.below DQ;replace c3 := X3.cell;replace f3 := X3.froz;replace dp := dp.below DQ;replace hdp := Nat.le_trans hdp DQ.size;replace y2 := y2.below DQ;replace hy2 := Nat.le_trans hy2 DQ.size;replace B := below_next B DQ;replace BW := below_next BW DQ;clear DQ
   refine wp_region_held_drew (S := (fun w' => (∀ k : Nat, w'.cell? ⟨b3, k, none⟩ = [.slice N2.1 N2.2.1 N2.2.2, .slice M2.1 M2.2.1 M2.2.2, .slice S2.1 S2.2.1 S2.2.2][k]?) ∧ (∀ k : Nat, w'.cell? ⟨b1, k, none⟩ = [.int .i64 en.1, .int .i64 en.2.1, .int .i64 en.2.2.1, .int .i64 en.2.2.2.1, .int .i64 en.2.2.2.2.1, .int .i64 en.2.2.2.2.2][k]?))) (by kernel_rfl) ⟨c3, c1⟩ (fun hZq => ?_)
   refine tk 0 hZq ?_;refine tk 1 hZq ?_;refine tk 2 hZq ?_
   refine wpAnyH_ready (rs := [3, 5]) (by kernel_rfl) (by simp) ?_
   refine (AllReadyH.cons rfl (fun KK hKK => ?_) (AllReadyH.cons rfl (fun KK hKK => ?_) AllReadyH.nil))
   ·go_simp
    go_at_call 8
    refine (toEntry_any en.1 en.2.1 en.2.2.1 en.2.2.2.1 en.2.2.2.2.1 en.2.2.2.2.2 _).mono ?_;rintro e v2 ⟨rfl, BB⟩;replace X0 := X0.below BB;replace c0 := X0.cell;replace X1 := X1.below BB;replace c1 := X1.cell;replace X2 := X2.below BB;replace c2 := X2.cell;replace X3 := X3.below BB;replace c3 := X3.cell;replace f3 := X3.froz;replace dp := dp.below BB;replace hdp := Nat.le_trans hdp BB.size;replace y2 := y2.below BB;replace hy2 := Nat.le_trans hy2 BB.size;replace B := below_next B BB;replace BW := below_next BW BB;clear BB;clear hZq
    refine hKK _ _ ⟨c3, c1⟩ (fun hZq => ?_)
    clear hKK KK
    refine wpAnyH_ready (rs := [4, 5]) (by kernel_rfl) (by simp) ?_
    refine (AllReadyH.cons rfl (fun KK hKK => ?_) (AllReadyH.cons rfl (fun KK hKK => ?_) AllReadyH.nil))
    ·go_simp
     go_at_call 9
     refine (HI1.out N2 M2 S2 x2 m2 _ y2 SZ2.out (E1.out.trans HRS.out) (E2.out.trans HNS.out)).mono ?_;rintro e v3 ⟨zq, uq, Nq, Mq, Lq, xq, mq, rfl, Gzq, hdq, dq, sq, fq, kq, BB⟩;have ozq := Nat.le_trans B.size Gzq;have o0_zq := ltl X0.lt Gzq;have o1_zq := ltl X1.lt Gzq;have o2_zq := ltl X2.lt Gzq;have o3_zq := ltl X3.lt Gzq;have odp_zq := Nat.le_trans hdp Gzq;have oy2_zq := Nat.le_trans hy2 Gzq;have BW_zq := Nat.le_trans BW.size Gzq;clear Gzq;replace X0 := X0.below BB;replace c0 := X0.cell;replace X1 := X1.below BB;replace c1 := X1.cell;replace X2 := X2.below BB;replace c2 := X2.cell;replace X3 := X3.below BB;replace c3 := X3.cell;replace f3 := X3.froz;replace dp := dp.below BB;replace hdp := Nat.le_trans hdp BB.size;replace y2 := y2.below BB;replace hy2 := Nat.le_trans hy2 BB.size;replace B := below_next B BB;replace BW := below_next BW BB;clear BB;clear hZq
     refine hKK _ _ ⟨c3, c1⟩ (fun hZq => ?_)
     clear hKK KK
     refine rd1 5 (fun KK hKK => ?_)
     refine step_allocX 38 [.int .i64 0, .slice none 0 0, .slice none 0 0, .slice none 0 0] (fun _ => by kernel_rfl) ?_
     intro b4 W4 N4;have ob4 := N4.o B;have o0_b4 := N4.u X0;have o1_b4 := N4.u X1;have o2_b4 := N4.u X2;have o3_b4 := N4.u X3;have odp_b4 := Nat.le_trans hdp N4.ge;have oy2_b4 := Nat.le_trans hy2 N4.ge;have odq_b4 := Nat.le_trans hdq N4.ge;have BW_b4 := Nat.le_trans BW.size N4.ge;replace X0 := N4.r X0;replace c0 := X0.cell;replace X1 := N4.r X1;replace c1 := X1.cell;replace X2 := N4.r X2;replace c2 := X2.cell;replace X3 := N4.r X3;replace c3 := X3.cell;replace f3 := X3.froz;replace dp := dp.below N4.below;replace hdp := Nat.le_trans hdp N4.below.size;replace y2 := y2.below N4.below;replace hy2 := Nat.le_trans hy2 N4.below.size;replace dq := dq.below N4.below;replace hdq := Nat.le_trans hdq N4.below.size;replace B := N4.n B;replace BW := below_next BW N4.below
     obtain ⟨X4, c4, f4⟩ := N4.a
     clear N4;clear hZq
     refine hKK _ _ ⟨c3, c1⟩ (fun hZq => ?_)
     clear hKK KK
     refine rd1 6 (fun KK hKK => ?_)
     refine step_midX 38 X4 0 [.int .i64 c, .slice Nq.1 Nq.2.1 Nq.2.2, .slice Mq.1 Mq.2.1 Mq.2.2, .slice Lq.1 Lq.2.1 Lq.2.2] (by simp) (by kernel_rfl) (by simp [Value.oneCell']) rfl rfl ?_
     intro V2 S;replace X0 := X0.kp S.kept;replace c0 := X0.cell;replace X1 := X1.kp S.kept;replace c1 := X1.cell;replace X2 := X2.kp S.kept;replace c2 := X2.cell;replace X3 := X3.kp S.kept;replace c3 := X3.cell;replace f3 := X3.froz
     replace X4 : Bx V2 b4 [.int .i64 c, .slice Nq.1 Nq.2.1 Nq.2.2, .slice Mq.1 Mq.2.1 Mq.2.2, .slice Lq.1 Lq.2.1 Lq.2.2] := S.bx
     replace c4 := X4.cell;replace f4 := X4.froz
     replace dp := dp.kept S.kept (by omega)
     replace hdp := Nat.le_trans hdp S.kept.size
     replace y2 := y2.kept S.kept (by omega)
     replace hy2 := Nat.le_trans hy2 S.kept.size
     replace dq := dq.kept S.kept (by omega)
     replace hdq := Nat.le_trans hdq S.kept.size;replace B := bkp B S.kept
     replace BW := BW.trans (S.kept.below _ (by omega) BW.size)
     clear S;clear hZq
     refine hKK _ _ ⟨c3, c1⟩ (fun hZq => ?_)
     clear hKK KK
     refine wpAnyH_done (by kernel_rfl) ?_ _
     go_wp2_with fail
     go_meet
     exact ⟨b4, rfl, zq, uq, Nq, Mq, Lq, xq, mq, X4, dq, sq, fq, kq, by omega, hdq, by omega, by omega, BW⟩
    ·refine step_allocX 38 [.int .i64 0, .slice none 0 0, .slice none 0 0, .slice none 0 0] (fun _ => by kernel_rfl) ?_
     intro b4 W4 N4;have ob4 := N4.o B;have o0_b4 := N4.u X0;have o1_b4 := N4.u X1;have o2_b4 := N4.u X2;have o3_b4 := N4.u X3;have odp_b4 := Nat.le_trans hdp N4.ge;have oy2_b4 := Nat.le_trans hy2 N4.ge;have BW_b4 := Nat.le_trans BW.size N4.ge;replace X0 := N4.r X0;replace c0 := X0.cell;replace X1 := N4.r X1;replace c1 := X1.cell;replace X2 := N4.r X2;replace c2 := X2.cell;replace X3 := N4.r X3;replace c3 := X3.cell;replace f3 := X3.froz;replace dp := dp.below N4.below;replace hdp := Nat.le_trans hdp N4.below.size;replace y2 := y2.below N4.below;replace hy2 := Nat.le_trans hy2 N4.below.size;replace B := N4.n B;replace BW := below_next BW N4.below
     obtain ⟨X4, c4, f4⟩ := N4.a
     clear N4;clear hZq
     refine hKK _ _ ⟨c3, c1⟩ (fun hZq => ?_)
     clear hKK KK
     refine rd1 4 (fun KK hKK => ?_)
     go_simp
     go_at_call 9
     refine (HI1.out N2 M2 S2 x2 m2 _ y2 SZ2.out (E1.out.trans HRS.out) (E2.out.trans HNS.out)).mono ?_;rintro e v3 ⟨zq, uq, Nq, Mq, Lq, xq, mq, rfl, Gzq, hdq, dq, sq, fq, kq, BB⟩;have ozq := Nat.le_trans B.size Gzq;have o0_zq := ltl X0.lt Gzq;have o1_zq := ltl X1.lt Gzq;have o2_zq := ltl X2.lt Gzq;have o3_zq := ltl X3.lt Gzq;have o4_zq := ltl X4.lt Gzq;have odp_zq := Nat.le_trans hdp Gzq;have oy2_zq := Nat.le_trans hy2 Gzq;have BW_zq := Nat.le_trans BW.size Gzq;clear Gzq;replace X0 := X0.below BB;replace c0 := X0.cell;replace X1 := X1.below BB;replace c1 := X1.cell;replace X2 := X2.below BB;replace c2 := X2.cell;replace X3 := X3.below BB;replace c3 := X3.cell;replace f3 := X3.froz;replace X4 := X4.below BB;replace c4 := X4.cell;replace f4 := X4.froz;replace dp := dp.below BB;replace hdp := Nat.le_trans hdp BB.size;replace y2 := y2.below BB;replace hy2 := Nat.le_trans hy2 BB.size;replace B := below_next B BB;replace BW := below_next BW BB;clear BB;clear hZq
     refine hKK _ _ ⟨c3, c1⟩ (fun hZq => ?_)
     clear hKK KK
     refine rd1 6 (fun KK hKK => ?_)
     refine step_midX 38 X4 0 [.int .i64 c, .slice Nq.1 Nq.2.1 Nq.2.2, .slice Mq.1 Mq.2.1 Mq.2.2, .slice Lq.1 Lq.2.1 Lq.2.2] (by simp) (by kernel_rfl) (by simp [Value.oneCell']) rfl rfl ?_
     intro V2 S;replace X0 := X0.kp S.kept;replace c0 := X0.cell;replace X1 := X1.kp S.kept;replace c1 := X1.cell;replace X2 := X2.kp S.kept;replace c2 := X2.cell;replace X3 := X3.kp S.kept;replace c3 := X3.cell;replace f3 := X3.froz
     replace X4 : Bx V2 b4 [.int .i64 c, .slice Nq.1 Nq.2.1 Nq.2.2, .slice Mq.1 Mq.2.1 Mq.2.2, .slice Lq.1 Lq.2.1 Lq.2.2] := S.bx
     replace c4 := X4.cell;replace f4 := X4.froz
     replace dp := dp.kept S.kept (by omega)
     replace hdp := Nat.le_trans hdp S.kept.size
     replace y2 := y2.kept S.kept (by omega)
     replace hy2 := Nat.le_trans hy2 S.kept.size
     replace dq := dq.kept S.kept (by omega)
     replace hdq := Nat.le_trans hdq S.kept.size;replace B := bkp B S.kept
     replace BW := BW.trans (S.kept.below _ (by omega) BW.size)
     clear S;clear hZq
     refine hKK _ _ ⟨c3, c1⟩ (fun hZq => ?_)
     clear hKK KK
     refine wpAnyH_done (by kernel_rfl) ?_ _
     go_wp2_with fail
     go_meet
     exact ⟨b4, rfl, zq, uq, Nq, Mq, Lq, xq, mq, X4, dq, sq, fq, kq, by omega, hdq, by omega, by omega, BW⟩
   ·refine step_allocX 38 [.int .i64 0, .slice none 0 0, .slice none 0 0, .slice none 0 0] (fun _ => by kernel_rfl) ?_
    intro b4 W4 N4;have ob4 := N4.o B;have o0_b4 := N4.u X0;have o1_b4 := N4.u X1;have o2_b4 := N4.u X2;have o3_b4 := N4.u X3;have odp_b4 := Nat.le_trans hdp N4.ge;have oy2_b4 := Nat.le_trans hy2 N4.ge;have BW_b4 := Nat.le_trans BW.size N4.ge;replace X0 := N4.r X0;replace c0 := X0.cell;replace X1 := N4.r X1;replace c1 := X1.cell;replace X2 := N4.r X2;replace c2 := X2.cell;replace X3 := N4.r X3;replace c3 := X3.cell;replace f3 := X3.froz;replace dp := dp.below N4.below;replace hdp := Nat.le_trans hdp N4.below.size;replace y2 := y2.below N4.below;replace hy2 := Nat.le_trans hy2 N4.below.size;replace B := N4.n B;replace BW := below_next BW N4.below
    obtain ⟨X4, c4, f4⟩ := N4.a
    clear N4;clear hZq
    refine hKK _ _ ⟨c3, c1⟩ (fun hZq => ?_)
    clear hKK KK
    refine rd1 3 (fun KK hKK => ?_)
    go_simp
    go_at_call 8
    refine (toEntry_any en.1 en.2.1 en.2.2.1 en.2.2.2.1 en.2.2.2.2.1 en.2.2.2.2.2 _).mono ?_;rintro e v2 ⟨rfl, BB⟩;replace X0 := X0.below BB;replace c0 := X0.cell;replace X1 := X1.below BB;replace c1 := X1.cell;replace X2 := X2.below BB;replace c2 := X2.cell;replace X3 := X3.below BB;replace c3 := X3.cell;replace f3 := X3.froz;replace X4 := X4.below BB;replace c4 := X4.cell;replace f4 := X4.froz;replace dp := dp.below BB;replace hdp := Nat.le_trans hdp BB.size;replace y2 := y2.below BB;replace hy2 := Nat.le_trans hy2 BB.size;replace B := below_next B BB;replace BW := below_next BW BB;clear BB;clear hZq
    refine hKK _ _ ⟨c3, c1⟩ (fun hZq => ?_)
    clear hKK KK
    refine rd1 4 (fun KK hKK => ?_)
    go_simp
    go_at_call 9
    refine (HI1.out N2 M2 S2 x2 m2 _ y2 SZ2.out (E1.out.trans HRS.out) (E2.out.trans HNS.out)).mono ?_;rintro e v3 ⟨zq, uq, Nq, Mq, Lq, xq, mq, rfl, Gzq, hdq, dq, sq, fq, kq, BB⟩;have ozq := Nat.le_trans B.size Gzq;have o0_zq := ltl X0.lt Gzq;have o1_zq := ltl X1.lt Gzq;have o2_zq := ltl X2.lt Gzq;have o3_zq := ltl X3.lt Gzq;have o4_zq := ltl X4.lt Gzq;have odp_zq := Nat.le_trans hdp Gzq;have oy2_zq := Nat.le_trans hy2 Gzq;have BW_zq := Nat.le_trans BW.size Gzq;clear Gzq;replace X0 := X0.below BB;replace c0 := X0.cell;replace X1 := X1.below BB;replace c1 := X1.cell;replace X2 := X2.below BB;replace c2 := X2.cell;replace X3 := X3.below BB;replace c3 := X3.cell;replace f3 := X3.froz;replace X4 := X4.below BB;replace c4 := X4.cell;replace f4 := X4.froz;replace dp := dp.below BB;replace hdp := Nat.le_trans hdp BB.size;replace y2 := y2.below BB;replace hy2 := Nat.le_trans hy2 BB.size;replace B := below_next B BB;replace BW := below_next BW BB;clear BB;clear hZq
    refine hKK _ _ ⟨c3, c1⟩ (fun hZq => ?_)
    clear hKK KK
    refine rd1 6 (fun KK hKK => ?_)
    refine step_midX 38 X4 0 [.int .i64 c, .slice Nq.1 Nq.2.1 Nq.2.2, .slice Mq.1 Mq.2.1 Mq.2.2, .slice Lq.1 Lq.2.1 Lq.2.2] (by simp) (by kernel_rfl) (by simp [Value.oneCell']) rfl rfl ?_
    intro V2 S;replace X0 := X0.kp S.kept;replace c0 := X0.cell;replace X1 := X1.kp S.kept;replace c1 := X1.cell;replace X2 := X2.kp S.kept;replace c2 := X2.cell;replace X3 := X3.kp S.kept;replace c3 := X3.cell;replace f3 := X3.froz
    replace X4 : Bx V2 b4 [.int .i64 c, .slice Nq.1 Nq.2.1 Nq.2.2, .slice Mq.1 Mq.2.1 Mq.2.2, .slice Lq.1 Lq.2.1 Lq.2.2] := S.bx
    replace c4 := X4.cell;replace f4 := X4.froz
    replace dp := dp.kept S.kept (by omega)
    replace hdp := Nat.le_trans hdp S.kept.size
    replace y2 := y2.kept S.kept (by omega)
    replace hy2 := Nat.le_trans hy2 S.kept.size
    replace dq := dq.kept S.kept (by omega)
    replace hdq := Nat.le_trans hdq S.kept.size;replace B := bkp B S.kept
    replace BW := BW.trans (S.kept.below _ (by omega) BW.size)
    clear S;clear hZq
    refine hKK _ _ ⟨c3, c1⟩ (fun hZq => ?_)
    clear hKK KK
    refine wpAnyH_done (by kernel_rfl) ?_ _
    go_wp2_with fail
    go_meet
    exact ⟨b4, rfl, zq, uq, Nq, Mq, Lq, xq, mq, X4, dq, sq, fq, kq, by omega, hdq, by omega, by omega, BW⟩
  case rest =>
   obtain ⟨b4, rfl, zq, uq, Nq, Mq, Lq, xq, mq, XX, dq, sq, fq, kq, Gz9, hdq, Gb9, sep4, BX⟩ := hcut
   rename World => wc7
   have hbx := BX.size;have ob4 := Nat.le_trans B.size Gb9;have o0_b4 := ltl X0.lt Gb9;have o1_b4 := ltl X1.lt Gb9;have o2_b4 := ltl X2.lt Gb9;have o3_b4 := ltl X3.lt Gb9;have odp_b4 := Nat.le_trans hdp Gb9;have oy2_b4 := Nat.le_trans hy2 Gb9;have ozq := Nat.le_trans B.size Gz9;have o0_zq := ltl X0.lt Gz9;have o1_zq := ltl X1.lt Gz9;have o2_zq := ltl X2.lt Gz9;have o3_zq := ltl X3.lt Gz9;have odp_zq := Nat.le_trans hdp Gz9;have oy2_zq := Nat.le_trans hy2 Gz9;replace X0 := X0.below BX;replace c0 := X0.cell;replace X1 := X1.below BX;replace c1 := X1.cell;replace X2 := X2.below BX;replace c2 := X2.cell;replace X3 := X3.below BX;replace c3 := X3.cell;replace f3 := X3.froz;replace dp := dp.below BX;replace hdp := Nat.le_trans hdp BX.size;replace y2 := y2.below BX;replace hy2 := Nat.le_trans hy2 BX.size;replace B := below_next B BX;have X4 := XX;have c4 := X4.cell;clear XX BX Gz9 Gb9
   have Fq : Hid _ := fq
   have Kq : Hid _ := kq
   have Zq : Hid _ := sq
   clear fq kq sq
   have HNQ : Hid (nsum xq ≤ 1280) := by (show _ ≤ _;rw [clz_sum dq, Fq.out];exact HNF.out)
   have HLQ : Hid (mq.length = Mq.2.1) := dq.mails.len
   go_wp2_with fail;refine (eqClR_yes c Nq Mq Lq Np Mp Lp xq xp mq mp E' _ dq dp (Fp.out.trans Fq.out.symm) (Kp.out.trans Kq.out.symm) Zq.out).mono ?_;rintro e w6 ⟨rfl, BB⟩;replace X0 := X0.below BB;replace c0 := X0.cell;replace X1 := X1.below BB;replace c1 := X1.cell;replace X2 := X2.below BB;replace c2 := X2.cell;replace X3 := X3.below BB;replace c3 := X3.cell;replace f3 := X3.froz;replace X4 := X4.below BB;replace c4 := X4.cell;replace dp := dp.below BB;replace hdp := Nat.le_trans hdp BB.size;replace y2 := y2.below BB;replace hy2 := Nat.le_trans hy2 BB.size;replace dq := dq.below BB;replace hdq := Nat.le_trans hdq BB.size;replace B := below_next B BB;clear BB;go_wp2_with fail
   have DQ : Below w6.heap.size w6 w6.drew := (Below.refl _ _).drew
   replace X0 := X0.below DQ;replace c0 := X0.cell;replace X1 := X1.below DQ;replace c1 := X1.cell;replace X2 := X2.below DQ;replace c2 := X2.cell;replace X3 := X3.below DQ;replace c3 := X3.cell;replace f3 := X3.froz;replace X4 := X4.below DQ;replace c4 := X4.cell;replace dp := dp.below DQ;replace hdp := Nat.le_trans hdp DQ.size;replace y2 := y2.below DQ;replace hy2 := Nat.le_trans hy2 DQ.size;replace dq := dq.below DQ;replace hdq := Nat.le_trans hdq DQ.size;replace B := below_next B DQ;clear DQ
   refine wp_region_held_drew (S := (fun w' => (∀ k : Nat, w'.cell? ⟨b0, k, none⟩ = [.slice N.1 N.2.1 N.2.2, .slice M.1 M.2.1 M.2.2, .slice Sl.1 Sl.2.1 Sl.2.2][k]?) ∧ (∀ k : Nat, w'.cell? ⟨b3, k, none⟩ = [.slice N2.1 N2.2.1 N2.2.2, .slice M2.1 M2.2.1 M2.2.2, .slice S2.1 S2.2.1 S2.2.2][k]?))) (by kernel_rfl) ⟨c0, c3⟩ (fun hZq => ?_)
   refine tk 0 hZq ?_;refine tk 1 hZq ?_
   refine rd1 2 (fun KK hKK => ?_)
   go_simp
   go_at_call 7
   refine (toCluster_any N M Sl xs ms es _ (x.below B) HZ.out).mono ?_;rintro e v1 ⟨z9, u9, N9, M9, S9, x9, m9, rfl, _, _, y9, e1, e2, _, BB⟩;replace X0 := X0.below BB;replace c0 := X0.cell;replace X1 := X1.below BB;replace c1 := X1.cell;replace X2 := X2.below BB;replace c2 := X2.cell;replace X3 := X3.below BB;replace c3 := X3.cell;replace f3 := X3.froz;replace X4 := X4.below BB;replace c4 := X4.cell;replace dp := dp.below BB;replace hdp := Nat.le_trans hdp BB.size;replace y2 := y2.below BB;replace hy2 := Nat.le_trans hy2 BB.size;replace dq := dq.below BB;replace hdq := Nat.le_trans hdq BB.size;replace B := below_next B BB;clear BB;clear hZq
   refine hKK _ _ ⟨c0, c3⟩ (fun hZq => ?_)
   clear hKK KK
   refine rd1 3 (fun KK hKK => ?_)
   go_simp
   go_at_call 11
   refine (eqCluster_yes N2 M2 S2 N9 M9 S9 x2 x9 m2 m9 es _ y2 y9 (e1.trans E1.out.symm) (e2.trans E2.out.symm) SZ2.out).mono ?_;rintro e v2 ⟨rfl, BB⟩;replace X0 := X0.below BB;replace c0 := X0.cell;replace X1 := X1.below BB;replace c1 := X1.cell;replace X2 := X2.below BB;replace c2 := X2.cell;replace X3 := X3.below BB;replace c3 := X3.cell;replace f3 := X3.froz;replace X4 := X4.below BB;replace c4 := X4.cell;replace dp := dp.below BB;replace hdp := Nat.le_trans hdp BB.size;replace y2 := y2.below BB;replace hy2 := Nat.le_trans hy2 BB.size;replace dq := dq.below BB;replace hdq := Nat.le_trans hdq BB.size;replace B := below_next B BB;clear y9 e1 e2;clear BB;clear hZq
   refine hKK _ _ ⟨c0, c3⟩ (fun hZq => ?_)
   clear hKK KK;refine tk 4 hZq ?_
   refine wpAnyH_done (by kernel_rfl) ?_ _
   go_wp2_with fail
   have HL2 : Hid (m2.length = M2.2.1) := y2.mails.len
   have HIN : Hid (∀ q, inCl N2 M2 S2 x2 m2 q → zY ≤ q ∧ q < uY) := fun q hq => ⟨(y2.inB hq).1, (y2.inB hq).2.1⟩
   have hn2 : (1 : Int) + 6 * (nsum x2 : Int) ≤ 12000000 := by (have := HN2.out;omega)
   refine (markCluster_any N2 M2 S2 x2 m2 es 1 _ y2 SZ2.out (by omega) hn2).mono ?_
   rintro e w7 ⟨rfl, _, KSY⟩
   have KK : Kept zY uY _ w7 := KSY.kept HIN.out
   clear KSY HIN;replace X0 := X0.kp KK;replace c0 := X0.cell;replace X1 := X1.kp KK;replace c1 := X1.cell;replace X2 := X2.kp KK;replace c2 := X2.cell;replace X3 := X3.kp KK;replace c3 := X3.cell;replace f3 := X3.froz;replace X4 := X4.kp KK;replace c4 := X4.cell
   replace dp := dp.kept KK (by omega)
   replace hdp := Nat.le_trans hdp KK.size;replace hy2 := Nat.le_trans hy2 KK.size
   replace dq := dq.kept KK (by omega)
   replace hdq := Nat.le_trans hdq KK.size;replace B := bkp B KK;clear KK;clear y2 hy2
   have HI := (cQ_in (k := 1) (N := N2) (M := M2) (Sl := S2) (xs := x2) (ms := m2) (by omega) hn2 SZ2.out HL2.out).2.2.1
   generalize hqq : c3Q N2 M2 S2 x2 m2 1 = qy at *
   have HQqy : Hid _ := hqq
   clear hqq
   have hkqy : ¬ qy < 0 := by omega
   clear HI;clear hn2;go_wp2_with fail;refine (eqClR_yes c Nq Mq Lq Np Mp Lp xq xp mq mp E' _ dq dp (Fp.out.trans Fq.out.symm) (Kp.out.trans Kq.out.symm) Zq.out).mono ?_;rintro e w8 ⟨rfl, BB⟩;replace X0 := X0.below BB;replace c0 := X0.cell;replace X1 := X1.below BB;replace c1 := X1.cell;replace X2 := X2.below BB;replace c2 := X2.cell;replace X3 := X3.below BB;replace c3 := X3.cell;replace f3 := X3.froz;replace X4 := X4.below BB;replace c4 := X4.cell;replace dp := dp.below BB;replace hdp := Nat.le_trans hdp BB.size;replace dq := dq.below BB;replace hdq := Nat.le_trans hdq BB.size;replace B := below_next B BB;clear BB;go_wp2_with fail
   have KB : Hid (∀ q, inCl Nq Mq Lq xq mq q → zq ≤ q ∧ q < uq) := fun q hq => ⟨(dq.inB hq).1, (dq.inB hq).2.1⟩
   have hnq : (1 : Int) + 6 * (nsum xq : Int) ≤ 12000000 := by (have := HNQ.out;omega)
   have HNB : Hid _ := hnq
   refine (markClR_any c Nq Mq Lq xq mq E' 1 _ dq Zq.out (by omega) hnq).mono ?_
   rintro e w9 ⟨rfl, dM, KS⟩;have KT := KS.kept KB.out;clear KS KB
   replace X0 := X0.kept KT (by omega)
   replace c0 := X0.cell
   replace X1 := X1.kept KT (by omega)
   replace c1 := X1.cell
   replace X2 := X2.kept KT (by omega)
   replace c2 := X2.cell
   replace X3 := X3.kept KT (by omega)
   replace c3 := X3.cell;replace f3 := X3.froz
   replace X4 := X4.kept KT (by omega)
   replace c4 := X4.cell
   replace dp := dp.kept KT (by omega)
   replace hdp := Nat.le_trans hdp KT.size;replace hdq := Nat.le_trans hdq KT.size
   replace B := B.trans (KT.below _ (by omega) B.size)
   clear KT;clear dq;have hdM := hdq;clear hdq
   have HI := (cQ_in (k := 1) (N := Nq) (M := Mq) (Sl := Lq) (xs := xq) (ms := mq) (by omega) hnq Zq.out HLQ.out).2.2.1
   generalize hqq : c3Q Nq Mq Lq xq mq 1 = qq at *
   have HQqq : Hid _ := hqq
   clear hqq
   have hkqq : ¬ qq < 0 := by omega
   clear HI
   have heq : (qq != qq) = false := by simp
   clear hnq;go_wp2_with fail
   refine (heldClR_any c Nq Mq Lq xq mq 1 _ dM Zq.out HLQ.out (by omega) HNB.out).mono ?_
   rintro e w10 ⟨rfl, BB⟩;replace X0 := X0.below BB;replace c0 := X0.cell;replace X1 := X1.below BB;replace c1 := X1.cell;replace X2 := X2.below BB;replace c2 := X2.cell;replace X3 := X3.below BB;replace c3 := X3.cell;replace f3 := X3.froz;replace X4 := X4.below BB;replace c4 := X4.cell;replace dp := dp.below BB;replace hdp := Nat.le_trans hdp BB.size;replace dM := dM.below BB;replace hdM := Nat.le_trans hdM BB.size;replace B := below_next B BB;clear BB;rw [HQqq.out];go_wp2_with fail
   first | go_frame | skip
   go_cut [14] (fun y wx => ∃ xb : Nat, y = .pointer (some ⟨xb, 0, none⟩) ∧ CBoA true w10 wx xb c R' M' E')
   case first =>
    have BW : Below w10.heap.size w10 w10 := Below.refl _ _
    have DQ : Below w10.heap.size w10 w10.drew := (Below.refl _ _).drew
    replace X0 := X0.below DQ;replace c0 := X0.cell;replace X1 := X1.below DQ;replace c1 := X1.cell;replace X2 := X2.below DQ;replace c2 := X2.cell;replace X3 := X3.below DQ;replace c3 := X3.cell;replace f3 := X3.froz;replace X4 := X4.below DQ;replace c4 := X4.cell;replace dp := dp.below DQ;replace hdp := Nat.le_trans hdp DQ.size;replace dM := dM.below DQ;replace hdM := Nat.le_trans hdM DQ.size;replace B := below_next B DQ;replace BW := below_next BW DQ;clear DQ
    refine wp_region_held_drew (S := (fun w' => (∀ k : Nat, w'.cell? ⟨b0, k, none⟩ = [.slice N.1 N.2.1 N.2.2, .slice M.1 M.2.1 M.2.2, .slice Sl.1 Sl.2.1 Sl.2.2][k]?) ∧ (∀ k : Nat, w'.cell? ⟨b1, k, none⟩ = [.int .i64 en.1, .int .i64 en.2.1, .int .i64 en.2.2.1, .int .i64 en.2.2.2.1, .int .i64 en.2.2.2.2.1, .int .i64 en.2.2.2.2.2][k]?))) (by kernel_rfl) ⟨c0, c1⟩ (fun hZq => ?_)
    refine tk 0 hZq ?_;refine tk 2 hZq ?_;refine tk 3 hZq ?_
    refine wpAnyH_ready (rs := [1, 6]) (by kernel_rfl) (by simp) ?_
    refine (AllReadyH.cons rfl (fun KK hKK => ?_) (AllReadyH.cons rfl (fun KK hKK => ?_) AllReadyH.nil))
    ·go_simp
     go_at_call 7
     refine (toCluster_any N M Sl xs ms es _ (x.below B) HZ.out).mono ?_;rintro e v1 ⟨z3, u3, N3, M3, S3, x3, m3, rfl, _, _, y3, e13, e23, s3, BB⟩;replace X0 := X0.below BB;replace c0 := X0.cell;replace X1 := X1.below BB;replace c1 := X1.cell;replace X2 := X2.below BB;replace c2 := X2.cell;replace X3 := X3.below BB;replace c3 := X3.cell;replace f3 := X3.froz;replace X4 := X4.below BB;replace c4 := X4.cell;replace dp := dp.below BB;replace hdp := Nat.le_trans hdp BB.size;replace dM := dM.below BB;replace hdM := Nat.le_trans hdM BB.size;replace B := below_next B BB;replace BW := below_next BW BB;clear BB;clear hZq
     refine hKK _ _ ⟨c0, c1⟩ (fun hZq => ?_)
     clear hKK KK
     refine wpAnyH_ready (rs := [4, 6]) (by kernel_rfl) (by simp) ?_
     refine (AllReadyH.cons rfl (fun KK hKK => ?_) (AllReadyH.cons rfl (fun KK hKK => ?_) AllReadyH.nil))
     ·go_simp
      go_at_call 8
      refine (toEntry_any en.1 en.2.1 en.2.2.1 en.2.2.2.1 en.2.2.2.2.1 en.2.2.2.2.2 _).mono ?_;rintro e v2 ⟨rfl, BB⟩;replace X0 := X0.below BB;replace c0 := X0.cell;replace X1 := X1.below BB;replace c1 := X1.cell;replace X2 := X2.below BB;replace c2 := X2.cell;replace X3 := X3.below BB;replace c3 := X3.cell;replace f3 := X3.froz;replace X4 := X4.below BB;replace c4 := X4.cell;replace y3 := y3.below BB;replace dp := dp.below BB;replace hdp := Nat.le_trans hdp BB.size;replace dM := dM.below BB;replace hdM := Nat.le_trans hdM BB.size;replace B := below_next B BB;replace BW := below_next BW BB;clear BB;clear hZq
      refine hKK _ _ ⟨c0, c1⟩ (fun hZq => ?_)
      clear hKK KK
      refine wpAnyH_ready (rs := [5, 6]) (by kernel_rfl) (by simp) ?_
      refine (AllReadyH.cons rfl (fun KK hKK => ?_) (AllReadyH.cons rfl (fun KK hKK => ?_) AllReadyH.nil))
      ·go_simp
       go_at_call 9
       refine (HI1.out N3 M3 S3 x3 m3 _ y3 s3 (e13.trans HRS.out) (e23.trans HNS.out)).mono ?_;rintro e v3 ⟨zr, ur, Nr, Mr, Lr, xr, mr, rfl, Gzr, hdr, dr, sr, fr, kr, BB⟩;have ozr := Nat.le_trans B.size Gzr;have o0_zr := ltl X0.lt Gzr;have o1_zr := ltl X1.lt Gzr;have o2_zr := ltl X2.lt Gzr;have o3_zr := ltl X3.lt Gzr;have o4_zr := ltl X4.lt Gzr;have odp_zr := Nat.le_trans hdp Gzr;have odM_zr := Nat.le_trans hdM Gzr;have BW_zr := Nat.le_trans BW.size Gzr;clear Gzr;replace X0 := X0.below BB;replace c0 := X0.cell;replace X1 := X1.below BB;replace c1 := X1.cell;replace X2 := X2.below BB;replace c2 := X2.cell;replace X3 := X3.below BB;replace c3 := X3.cell;replace f3 := X3.froz;replace X4 := X4.below BB;replace c4 := X4.cell;replace dp := dp.below BB;replace hdp := Nat.le_trans hdp BB.size;replace dM := dM.below BB;replace hdM := Nat.le_trans hdM BB.size;replace B := below_next B BB;replace BW := below_next BW BB;clear BB;clear y3 s3 e13 e23;clear hZq
       refine hKK _ _ ⟨c0, c1⟩ (fun hZq => ?_)
       clear hKK KK
       refine rd1 6 (fun KK hKK => ?_)
       refine step_allocX 38 [.int .i64 0, .slice none 0 0, .slice none 0 0, .slice none 0 0] (fun _ => by kernel_rfl) ?_
       intro b5 W5 N5;have ob5 := N5.o B;have o0_b5 := N5.u X0;have o1_b5 := N5.u X1;have o2_b5 := N5.u X2;have o3_b5 := N5.u X3;have o4_b5 := N5.u X4;have odp_b5 := Nat.le_trans hdp N5.ge;have odM_b5 := Nat.le_trans hdM N5.ge;have odr_b5 := Nat.le_trans hdr N5.ge;have BW_b5 := Nat.le_trans BW.size N5.ge;replace X0 := N5.r X0;replace c0 := X0.cell;replace X1 := N5.r X1;replace c1 := X1.cell;replace X2 := N5.r X2;replace c2 := X2.cell;replace X3 := N5.r X3;replace c3 := X3.cell;replace f3 := X3.froz;replace X4 := N5.r X4;replace c4 := X4.cell;replace dp := dp.below N5.below;replace hdp := Nat.le_trans hdp N5.below.size;replace dM := dM.below N5.below;replace hdM := Nat.le_trans hdM N5.below.size;replace dr := dr.below N5.below;replace hdr := Nat.le_trans hdr N5.below.size;replace B := N5.n B;replace BW := below_next BW N5.below
       obtain ⟨X5, c5, f5⟩ := N5.a
       clear N5;clear hZq
       refine hKK _ _ ⟨c0, c1⟩ (fun hZq => ?_)
       clear hKK KK
       refine rd1 7 (fun KK hKK => ?_)
       refine step_midX 38 X5 0 [.int .i64 c, .slice Nr.1 Nr.2.1 Nr.2.2, .slice Mr.1 Mr.2.1 Mr.2.2, .slice Lr.1 Lr.2.1 Lr.2.2] (by simp) (by kernel_rfl) (by simp [Value.oneCell']) rfl rfl ?_
       intro V2 S;replace X0 := X0.kp S.kept;replace c0 := X0.cell;replace X1 := X1.kp S.kept;replace c1 := X1.cell;replace X2 := X2.kp S.kept;replace c2 := X2.cell;replace X3 := X3.kp S.kept;replace c3 := X3.cell;replace f3 := X3.froz;replace X4 := X4.kp S.kept;replace c4 := X4.cell
       replace X5 : Bx V2 b5 [.int .i64 c, .slice Nr.1 Nr.2.1 Nr.2.2, .slice Mr.1 Mr.2.1 Mr.2.2, .slice Lr.1 Lr.2.1 Lr.2.2] := S.bx
       replace c5 := X5.cell;replace f5 := X5.froz
       replace dp := dp.kept S.kept (by omega)
       replace hdp := Nat.le_trans hdp S.kept.size
       replace dM := dM.kept S.kept (by omega)
       replace hdM := Nat.le_trans hdM S.kept.size
       replace dr := dr.kept S.kept (by omega)
       replace hdr := Nat.le_trans hdr S.kept.size;replace B := bkp B S.kept
       replace BW := BW.trans (S.kept.below _ (by omega) BW.size)
       clear S;clear hZq
       refine hKK _ _ ⟨c0, c1⟩ (fun hZq => ?_)
       clear hKK KK
       refine wpAnyH_done (by kernel_rfl) ?_ _
       go_wp2_with fail
       go_meet
       exact ⟨b5, rfl, zr, ur, Nr, Mr, Lr, xr, mr, X5, dr, sr, fr, kr, by omega, hdr, by omega, by omega, BW⟩
      ·refine step_allocX 38 [.int .i64 0, .slice none 0 0, .slice none 0 0, .slice none 0 0] (fun _ => by kernel_rfl) ?_
       intro b5 W5 N5;have ob5 := N5.o B;have o0_b5 := N5.u X0;have o1_b5 := N5.u X1;have o2_b5 := N5.u X2;have o3_b5 := N5.u X3;have o4_b5 := N5.u X4;have odp_b5 := Nat.le_trans hdp N5.ge;have odM_b5 := Nat.le_trans hdM N5.ge;have BW_b5 := Nat.le_trans BW.size N5.ge;replace X0 := N5.r X0;replace c0 := X0.cell;replace X1 := N5.r X1;replace c1 := X1.cell;replace X2 := N5.r X2;replace c2 := X2.cell;replace X3 := N5.r X3;replace c3 := X3.cell;replace f3 := X3.froz;replace X4 := N5.r X4;replace c4 := X4.cell;replace y3 := y3.below N5.below;replace dp := dp.below N5.below;replace hdp := Nat.le_trans hdp N5.below.size;replace dM := dM.below N5.below;replace hdM := Nat.le_trans hdM N5.below.size;replace B := N5.n B;replace BW := below_next BW N5.below
       obtain ⟨X5, c5, f5⟩ := N5.a
       clear N5;clear hZq
       refine hKK _ _ ⟨c0, c1⟩ (fun hZq => ?_)
       clear hKK KK
       refine rd1 5 (fun KK hKK => ?_)
       go_simp
       go_at_call 9
       refine (HI1.out N3 M3 S3 x3 m3 _ y3 s3 (e13.trans HRS.out) (e23.trans HNS.out)).mono ?_;rintro e v3 ⟨zr, ur, Nr, Mr, Lr, xr, mr, rfl, Gzr, hdr, dr, sr, fr, kr, BB⟩;have ozr := Nat.le_trans B.size Gzr;have o0_zr := ltl X0.lt Gzr;have o1_zr := ltl X1.lt Gzr;have o2_zr := ltl X2.lt Gzr;have o3_zr := ltl X3.lt Gzr;have o4_zr := ltl X4.lt Gzr;have o5_zr := ltl X5.lt Gzr;have odp_zr := Nat.le_trans hdp Gzr;have odM_zr := Nat.le_trans hdM Gzr;have BW_zr := Nat.le_trans BW.size Gzr;clear Gzr;replace X0 := X0.below BB;replace c0 := X0.cell;replace X1 := X1.below BB;replace c1 := X1.cell;replace X2 := X2.below BB;replace c2 := X2.cell;replace X3 := X3.below BB;replace c3 := X3.cell;replace f3 := X3.froz;replace X4 := X4.below BB;replace c4 := X4.cell;replace X5 := X5.below BB;replace c5 := X5.cell;replace f5 := X5.froz;replace dp := dp.below BB;replace hdp := Nat.le_trans hdp BB.size;replace dM := dM.below BB;replace hdM := Nat.le_trans hdM BB.size;replace B := below_next B BB;replace BW := below_next BW BB;clear BB;clear y3 s3 e13 e23;clear hZq
       refine hKK _ _ ⟨c0, c1⟩ (fun hZq => ?_)
       clear hKK KK
       refine rd1 7 (fun KK hKK => ?_)
       refine step_midX 38 X5 0 [.int .i64 c, .slice Nr.1 Nr.2.1 Nr.2.2, .slice Mr.1 Mr.2.1 Mr.2.2, .slice Lr.1 Lr.2.1 Lr.2.2] (by simp) (by kernel_rfl) (by simp [Value.oneCell']) rfl rfl ?_
       intro V2 S;replace X0 := X0.kp S.kept;replace c0 := X0.cell;replace X1 := X1.kp S.kept;replace c1 := X1.cell;replace X2 := X2.kp S.kept;replace c2 := X2.cell;replace X3 := X3.kp S.kept;replace c3 := X3.cell;replace f3 := X3.froz;replace X4 := X4.kp S.kept;replace c4 := X4.cell
       replace X5 : Bx V2 b5 [.int .i64 c, .slice Nr.1 Nr.2.1 Nr.2.2, .slice Mr.1 Mr.2.1 Mr.2.2, .slice Lr.1 Lr.2.1 Lr.2.2] := S.bx
       replace c5 := X5.cell;replace f5 := X5.froz
       replace dp := dp.kept S.kept (by omega)
       replace hdp := Nat.le_trans hdp S.kept.size
       replace dM := dM.kept S.kept (by omega)
       replace hdM := Nat.le_trans hdM S.kept.size
       replace dr := dr.kept S.kept (by omega)
       replace hdr := Nat.le_trans hdr S.kept.size;replace B := bkp B S.kept
       replace BW := BW.trans (S.kept.below _ (by omega) BW.size)
       clear S;clear hZq
       refine hKK _ _ ⟨c0, c1⟩ (fun hZq => ?_)
       clear hKK KK
       refine wpAnyH_done (by kernel_rfl) ?_ _
       go_wp2_with fail
       go_meet
       exact ⟨b5, rfl, zr, ur, Nr, Mr, Lr, xr, mr, X5, dr, sr, fr, kr, by omega, hdr, by omega, by omega, BW⟩
     ·refine step_allocX 38 [.int .i64 0, .slice none 0 0, .slice none 0 0, .slice none 0 0] (fun _ => by kernel_rfl) ?_
      intro b5 W5 N5;have ob5 := N5.o B;have o0_b5 := N5.u X0;have o1_b5 := N5.u X1;have o2_b5 := N5.u X2;have o3_b5 := N5.u X3;have o4_b5 := N5.u X4;have odp_b5 := Nat.le_trans hdp N5.ge;have odM_b5 := Nat.le_trans hdM N5.ge;have BW_b5 := Nat.le_trans BW.size N5.ge;replace X0 := N5.r X0;replace c0 := X0.cell;replace X1 := N5.r X1;replace c1 := X1.cell;replace X2 := N5.r X2;replace c2 := X2.cell;replace X3 := N5.r X3;replace c3 := X3.cell;replace f3 := X3.froz;replace X4 := N5.r X4;replace c4 := X4.cell;replace y3 := y3.below N5.below;replace dp := dp.below N5.below;replace hdp := Nat.le_trans hdp N5.below.size;replace dM := dM.below N5.below;replace hdM := Nat.le_trans hdM N5.below.size;replace B := N5.n B;replace BW := below_next BW N5.below
      obtain ⟨X5, c5, f5⟩ := N5.a
      clear N5;clear hZq
      refine hKK _ _ ⟨c0, c1⟩ (fun hZq => ?_)
      clear hKK KK
      refine rd1 4 (fun KK hKK => ?_)
      go_simp
      go_at_call 8
      refine (toEntry_any en.1 en.2.1 en.2.2.1 en.2.2.2.1 en.2.2.2.2.1 en.2.2.2.2.2 _).mono ?_;rintro e v2 ⟨rfl, BB⟩;replace X0 := X0.below BB;replace c0 := X0.cell;replace X1 := X1.below BB;replace c1 := X1.cell;replace X2 := X2.below BB;replace c2 := X2.cell;replace X3 := X3.below BB;replace c3 := X3.cell;replace f3 := X3.froz;replace X4 := X4.below BB;replace c4 := X4.cell;replace X5 := X5.below BB;replace c5 := X5.cell;replace f5 := X5.froz;replace y3 := y3.below BB;replace dp := dp.below BB;replace hdp := Nat.le_trans hdp BB.size;replace dM := dM.below BB;replace hdM := Nat.le_trans hdM BB.size;replace B := below_next B BB;replace BW := below_next BW BB;clear BB;clear hZq
      refine hKK _ _ ⟨c0, c1⟩ (fun hZq => ?_)
      clear hKK KK
      refine rd1 5 (fun KK hKK => ?_)
      go_simp
      go_at_call 9
      refine (HI1.out N3 M3 S3 x3 m3 _ y3 s3 (e13.trans HRS.out) (e23.trans HNS.out)).mono ?_;rintro e v3 ⟨zr, ur, Nr, Mr, Lr, xr, mr, rfl, Gzr, hdr, dr, sr, fr, kr, BB⟩;have ozr := Nat.le_trans B.size Gzr;have o0_zr := ltl X0.lt Gzr;have o1_zr := ltl X1.lt Gzr;have o2_zr := ltl X2.lt Gzr;have o3_zr := ltl X3.lt Gzr;have o4_zr := ltl X4.lt Gzr;have o5_zr := ltl X5.lt Gzr;have odp_zr := Nat.le_trans hdp Gzr;have odM_zr := Nat.le_trans hdM Gzr;have BW_zr := Nat.le_trans BW.size Gzr;clear Gzr;replace X0 := X0.below BB;replace c0 := X0.cell;replace X1 := X1.below BB;replace c1 := X1.cell;replace X2 := X2.below BB;replace c2 := X2.cell;replace X3 := X3.below BB;replace c3 := X3.cell;replace f3 := X3.froz;replace X4 := X4.below BB;replace c4 := X4.cell;replace X5 := X5.below BB;replace c5 := X5.cell;replace f5 := X5.froz;replace dp := dp.below BB;replace hdp := Nat.le_trans hdp BB.size;replace dM := dM.below BB;replace hdM := Nat.le_trans hdM BB.size;replace B := below_next B BB;replace BW := below_next BW BB;clear BB;clear y3 s3 e13 e23;clear hZq
      refine hKK _ _ ⟨c0, c1⟩ (fun hZq => ?_)
      clear hKK KK
      refine rd1 7 (fun KK hKK => ?_)
      refine step_midX 38 X5 0 [.int .i64 c, .slice Nr.1 Nr.2.1 Nr.2.2, .slice Mr.1 Mr.2.1 Mr.2.2, .slice Lr.1 Lr.2.1 Lr.2.2] (by simp) (by kernel_rfl) (by simp [Value.oneCell']) rfl rfl ?_
      intro V2 S;replace X0 := X0.kp S.kept;replace c0 := X0.cell;replace X1 := X1.kp S.kept;replace c1 := X1.cell;replace X2 := X2.kp S.kept;replace c2 := X2.cell;replace X3 := X3.kp S.kept;replace c3 := X3.cell;replace f3 := X3.froz;replace X4 := X4.kp S.kept;replace c4 := X4.cell
      replace X5 : Bx V2 b5 [.int .i64 c, .slice Nr.1 Nr.2.1 Nr.2.2, .slice Mr.1 Mr.2.1 Mr.2.2, .slice Lr.1 Lr.2.1 Lr.2.2] := S.bx
      replace c5 := X5.cell;replace f5 := X5.froz
      replace dp := dp.kept S.kept (by omega)
      replace hdp := Nat.le_trans hdp S.kept.size
      replace dM := dM.kept S.kept (by omega)
      replace hdM := Nat.le_trans hdM S.kept.size
      replace dr := dr.kept S.kept (by omega)
      replace hdr := Nat.le_trans hdr S.kept.size;replace B := bkp B S.kept
      replace BW := BW.trans (S.kept.below _ (by omega) BW.size)
      clear S;clear hZq
      refine hKK _ _ ⟨c0, c1⟩ (fun hZq => ?_)
      clear hKK KK
      refine wpAnyH_done (by kernel_rfl) ?_ _
      go_wp2_with fail
      go_meet
      exact ⟨b5, rfl, zr, ur, Nr, Mr, Lr, xr, mr, X5, dr, sr, fr, kr, by omega, hdr, by omega, by omega, BW⟩
    ·refine step_allocX 38 [.int .i64 0, .slice none 0 0, .slice none 0 0, .slice none 0 0] (fun _ => by kernel_rfl) ?_
     intro b5 W5 N5;have ob5 := N5.o B;have o0_b5 := N5.u X0;have o1_b5 := N5.u X1;have o2_b5 := N5.u X2;have o3_b5 := N5.u X3;have o4_b5 := N5.u X4;have odp_b5 := Nat.le_trans hdp N5.ge;have odM_b5 := Nat.le_trans hdM N5.ge;have BW_b5 := Nat.le_trans BW.size N5.ge;replace X0 := N5.r X0;replace c0 := X0.cell;replace X1 := N5.r X1;replace c1 := X1.cell;replace X2 := N5.r X2;replace c2 := X2.cell;replace X3 := N5.r X3;replace c3 := X3.cell;replace f3 := X3.froz;replace X4 := N5.r X4;replace c4 := X4.cell;replace dp := dp.below N5.below;replace hdp := Nat.le_trans hdp N5.below.size;replace dM := dM.below N5.below;replace hdM := Nat.le_trans hdM N5.below.size;replace B := N5.n B;replace BW := below_next BW N5.below
     obtain ⟨X5, c5, f5⟩ := N5.a
     clear N5;clear hZq
     refine hKK _ _ ⟨c0, c1⟩ (fun hZq => ?_)
     clear hKK KK
     refine rd1 1 (fun KK hKK => ?_)
     go_simp
     go_at_call 7
     refine (toCluster_any N M Sl xs ms es _ (x.below B) HZ.out).mono ?_;rintro e v1 ⟨z3, u3, N3, M3, S3, x3, m3, rfl, _, _, y3, e13, e23, s3, BB⟩;replace X0 := X0.below BB;replace c0 := X0.cell;replace X1 := X1.below BB;replace c1 := X1.cell;replace X2 := X2.below BB;replace c2 := X2.cell;replace X3 := X3.below BB;replace c3 := X3.cell;replace f3 := X3.froz;replace X4 := X4.below BB;replace c4 := X4.cell;replace X5 := X5.below BB;replace c5 := X5.cell;replace f5 := X5.froz;replace dp := dp.below BB;replace hdp := Nat.le_trans hdp BB.size;replace dM := dM.below BB;replace hdM := Nat.le_trans hdM BB.size;replace B := below_next B BB;replace BW := below_next BW BB;clear BB;clear hZq
     refine hKK _ _ ⟨c0, c1⟩ (fun hZq => ?_)
     clear hKK KK
     refine rd1 4 (fun KK hKK => ?_)
     go_simp
     go_at_call 8
     refine (toEntry_any en.1 en.2.1 en.2.2.1 en.2.2.2.1 en.2.2.2.2.1 en.2.2.2.2.2 _).mono ?_;rintro e v2 ⟨rfl, BB⟩;replace X0 := X0.below BB;replace c0 := X0.cell;replace X1 := X1.below BB;replace c1 := X1.cell;replace X2 := X2.below BB;replace c2 := X2.cell;replace X3 := X3.below BB;replace c3 := X3.cell;replace f3 := X3.froz;replace X4 := X4.below BB;replace c4 := X4.cell;replace X5 := X5.below BB;replace c5 := X5.cell;replace f5 := X5.froz;replace y3 := y3.below BB;replace dp := dp.below BB;replace hdp := Nat.le_trans hdp BB.size;replace dM := dM.below BB;replace hdM := Nat.le_trans hdM BB.size;replace B := below_next B BB;replace BW := below_next BW BB;clear BB;clear hZq
     refine hKK _ _ ⟨c0, c1⟩ (fun hZq => ?_)
     clear hKK KK
     refine rd1 5 (fun KK hKK => ?_)
     go_simp
     go_at_call 9
     refine (HI1.out N3 M3 S3 x3 m3 _ y3 s3 (e13.trans HRS.out) (e23.trans HNS.out)).mono ?_;rintro e v3 ⟨zr, ur, Nr, Mr, Lr, xr, mr, rfl, Gzr, hdr, dr, sr, fr, kr, BB⟩;have ozr := Nat.le_trans B.size Gzr;have o0_zr := ltl X0.lt Gzr;have o1_zr := ltl X1.lt Gzr;have o2_zr := ltl X2.lt Gzr;have o3_zr := ltl X3.lt Gzr;have o4_zr := ltl X4.lt Gzr;have o5_zr := ltl X5.lt Gzr;have odp_zr := Nat.le_trans hdp Gzr;have odM_zr := Nat.le_trans hdM Gzr;have BW_zr := Nat.le_trans BW.size Gzr;clear Gzr;replace X0 := X0.below BB;replace c0 := X0.cell;replace X1 := X1.below BB;replace c1 := X1.cell;replace X2 := X2.below BB;replace c2 := X2.cell;replace X3 := X3.below BB;replace c3 := X3.cell;replace f3 := X3.froz;replace X4 := X4.below BB;replace c4 := X4.cell;replace X5 := X5.below BB;replace c5 := X5.cell;replace f5 := X5.froz;replace dp := dp.below BB;replace hdp := Nat.le_trans hdp BB.size;replace dM := dM.below BB;replace hdM := Nat.le_trans hdM BB.size;replace B := below_next B BB;replace BW := below_next BW BB;clear BB;clear y3 s3 e13 e23;clear hZq
     refine hKK _ _ ⟨c0, c1⟩ (fun hZq => ?_)
     clear hKK KK
     refine rd1 7 (fun KK hKK => ?_)
     refine step_midX 38 X5 0 [.int .i64 c, .slice Nr.1 Nr.2.1 Nr.2.2, .slice Mr.1 Mr.2.1 Mr.2.2, .slice Lr.1 Lr.2.1 Lr.2.2] (by simp) (by kernel_rfl) (by simp [Value.oneCell']) rfl rfl ?_
     intro V2 S;replace X0 := X0.kp S.kept;replace c0 := X0.cell;replace X1 := X1.kp S.kept;replace c1 := X1.cell;replace X2 := X2.kp S.kept;replace c2 := X2.cell;replace X3 := X3.kp S.kept;replace c3 := X3.cell;replace f3 := X3.froz;replace X4 := X4.kp S.kept;replace c4 := X4.cell
     replace X5 : Bx V2 b5 [.int .i64 c, .slice Nr.1 Nr.2.1 Nr.2.2, .slice Mr.1 Mr.2.1 Mr.2.2, .slice Lr.1 Lr.2.1 Lr.2.2] := S.bx
     replace c5 := X5.cell;replace f5 := X5.froz
     replace dp := dp.kept S.kept (by omega)
     replace hdp := Nat.le_trans hdp S.kept.size
     replace dM := dM.kept S.kept (by omega)
     replace hdM := Nat.le_trans hdM S.kept.size
     replace dr := dr.kept S.kept (by omega)
     replace hdr := Nat.le_trans hdr S.kept.size;replace B := bkp B S.kept
     replace BW := BW.trans (S.kept.below _ (by omega) BW.size)
     clear S;clear hZq
     refine hKK _ _ ⟨c0, c1⟩ (fun hZq => ?_)
     clear hKK KK
     refine wpAnyH_done (by kernel_rfl) ?_ _
     go_wp2_with fail
     go_meet
     exact ⟨b5, rfl, zr, ur, Nr, Mr, Lr, xr, mr, X5, dr, sr, fr, kr, by omega, hdr, by omega, by omega, BW⟩
   case rest =>
    obtain ⟨b5, rfl, zr, ur, Nr, Mr, Lr, xr, mr, XX, dr, sr, fr, kr, Gz9, hdr, Gb9, sep5, BX⟩ := hcut
    rename World => wc24
    have hbx := BX.size;have ob5 := Nat.le_trans B.size Gb9;have o0_b5 := ltl X0.lt Gb9;have o1_b5 := ltl X1.lt Gb9;have o2_b5 := ltl X2.lt Gb9;have o3_b5 := ltl X3.lt Gb9;have o4_b5 := ltl X4.lt Gb9;have odp_b5 := Nat.le_trans hdp Gb9;have odM_b5 := Nat.le_trans hdM Gb9;have ozr := Nat.le_trans B.size Gz9;have o0_zr := ltl X0.lt Gz9;have o1_zr := ltl X1.lt Gz9;have o2_zr := ltl X2.lt Gz9;have o3_zr := ltl X3.lt Gz9;have o4_zr := ltl X4.lt Gz9;have odp_zr := Nat.le_trans hdp Gz9;have odM_zr := Nat.le_trans hdM Gz9;replace X0 := X0.below BX;replace c0 := X0.cell;replace X1 := X1.below BX;replace c1 := X1.cell;replace X2 := X2.below BX;replace c2 := X2.cell;replace X3 := X3.below BX;replace c3 := X3.cell;replace f3 := X3.froz;replace X4 := X4.below BX;replace c4 := X4.cell;replace dp := dp.below BX;replace hdp := Nat.le_trans hdp BX.size;replace dM := dM.below BX;replace hdM := Nat.le_trans hdM BX.size;replace B := below_next B BX;have X5 := XX;have c5 := X5.cell;clear XX BX Gz9 Gb9
    have Fr : Hid _ := fr
    have Kr : Hid _ := kr
    have Zr : Hid _ := sr
    clear fr kr sr;go_wp2_with fail;refine (eqClR_yes c Nr Mr Lr Np Mp Lp xr xp mr mp E' _ dr dp (Fp.out.trans Fr.out.symm) (Kp.out.trans Kr.out.symm) Zr.out).mono ?_;rintro e w13 ⟨rfl, BB⟩;replace X0 := X0.below BB;replace c0 := X0.cell;replace X1 := X1.below BB;replace c1 := X1.cell;replace X2 := X2.below BB;replace c2 := X2.cell;replace X3 := X3.below BB;replace c3 := X3.cell;replace f3 := X3.froz;replace X4 := X4.below BB;replace c4 := X4.cell;replace X5 := X5.below BB;replace c5 := X5.cell;replace dp := dp.below BB;replace hdp := Nat.le_trans hdp BB.size;replace dM := dM.below BB;replace hdM := Nat.le_trans hdM BB.size;replace dr := dr.below BB;replace hdr := Nat.le_trans hdr BB.size;replace B := below_next B BB;clear BB;go_wp2_with fail
    refine (heldClR_any c Nq Mq Lq xq mq 1 _ dM Zq.out HLQ.out (by omega) HNB.out).mono ?_
    rintro e w14 ⟨rfl, BB⟩;replace X0 := X0.below BB;replace c0 := X0.cell;replace X1 := X1.below BB;replace c1 := X1.cell;replace X2 := X2.below BB;replace c2 := X2.cell;replace X3 := X3.below BB;replace c3 := X3.cell;replace f3 := X3.froz;replace X4 := X4.below BB;replace c4 := X4.cell;replace X5 := X5.below BB;replace c5 := X5.cell;replace dp := dp.below BB;replace hdp := Nat.le_trans hdp BB.size;replace dM := dM.below BB;replace hdM := Nat.le_trans hdM BB.size;replace dr := dr.below BB;replace hdr := Nat.le_trans hdr BB.size;replace B := below_next B BB;clear BB;rw [HQqq.out];go_wp2;go_ret;exact ⟨rfl, B⟩
open Go.ChangeShapes Go.WideShapes Go.ChangeAt Go.Joins
set_option maxRecDepth 100000 in
theorem liftedAskAt (os : Os) (started : os.Started) (H : Type) (enc : TypeId × Value → H) :
  ReturnsInHanded {} Tryz.checked os 3 .any (Rows.fnExactAskAtSpec.pre6 enc Tryz.prog Tryz.f3 Rows.fnExactAskAtRow.domain false) (Rows.fnExactAskAtSpec.post enc Tryz.prog Tryz.f3 false true false false) := by
 refine returnsInHanded_of_change (C := Tryz.checked) Tryz.own started (by kernel_rfl) Tryz.func3
  (ChangeSpec.witness6 (enc := enc) (C := Tryz.checked) false ⟨#[], #[.agg #[.slice none 0 0, .slice none 0 0, .slice none 0 0], .int .i64 0, .agg #[.int .i64 0, .int .i64 0, .int .i64 0, .int .i64 0, .int .i64 0, .int .i64 0]], []⟩ 8 (by kernel_rfl) (by kernel_rfl) (by kernel_rfl) (by kernel_rfl)) ?_
 intro W base args ds gs before hval0 hW hcnd _
 have hval : ∀ (j : Nat) t v, Tryz.f3.params[j]? = some t → args[j]? = some v → Value.okWide Tryz.prog W .any base t v := hval0
 have hW' := hW
 obtain ⟨p, q, hA0, hV, rfl, hfz, hnd⟩ := hW
 have hA : DataW.TrodAll enc Tryz.prog W 0 (fun _ => true) true Tryz.f3.params.toList args.toList ds p := hA0
 rw [Tryz.params3] at hA hval
 obtain ⟨v0, vs0, d0, ds0, p0, q0, hargs, rfl, rfl, h0, r0⟩ := trodAll_cons hA
 obtain ⟨v1, vs1, d1, ds1, p1, q1, rfl, rfl, rfl, h1, r1⟩ := trodAll_cons r0
 obtain ⟨v2, vs2, d2, ds2, p2, q2, rfl, rfl, rfl, h2, r2⟩ := trodAll_cons r1
 obtain ⟨rfl, rfl, rfl⟩ := trodAll_nil r2
 obtain rfl : args = #[v0, v1, v2] := by cases args;simp_all
 obtain ⟨rfl, rfl⟩ := trodVars_none hV
 have lt0 : ∀ x ∈ p0, x.block < W.heap.size := by obtain ⟨m, hm⟩ := h0;exact DataW.trod_lt m _ _ _ hm
 have k0 := h0
 obtain ⟨cN, cM, cS, cx, cm, ce, rfl, cz, cl⟩ := open_cluster Tryz.clTy (hval 0 26 v0 rfl rfl) h0
 obtain ⟨x1, rfl, rfl, rfl, wx1⟩ := open_int Tryz.underlying2 (hval 1 2 v1 rfl rfl) h1
 have lt2 : ∀ x ∈ p2, x.block < W.heap.size := by obtain ⟨m, hm⟩ := h2;exact DataW.trod_lt m _ _ _ hm
 have k2 := h2
 obtain ⟨ep, eq, ek, ev, ea, ex, rfl⟩ := open_entry Tryz.enTy (hval 2 30 v2 rfl rfl) h2
 clear hA0 hval0
 refine (lawAskAt cN cM cS cx cm ce x1 (ep, eq, ek, ev, ea, ex) W cl cz).mono fun e W' ⟨he, bel⟩ => ?_
 subst he
 exact ⟨_, rfl, _, _, _, [], _, [], hW', trodAll_mk1 (shut_bool Tryz.underlying4 _), (trodAll_cons_mk (Below.trod Tryz.laidOut (by kernel_rfl) (of_decide_eq_true (by kernel_rfl)) k0 bel lt0) (trodAll_cons_mk (shut_int Tryz.underlying2 wx1) (trodAll_cons_mk (Below.trod Tryz.laidOut (by kernel_rfl) (of_decide_eq_true (by kernel_rfl)) k2 bel lt2) trodAll_mk0))), rfl, bel.frame _, fun h => by cases h⟩
set_option maxRecDepth 100000 in
theorem closedAskAt : joinedFacts Tryz.prog 3 Tryz.f3 Rows.fnExactAskAtSpec Rows.fnExactAskAtRow = true := by
 have q1 : (Rows.fnExactAskAtRow.inPlace == Tryz.prog.inPlace 3) = true := by rw [inPlace_at leads_is inp_is];kernel_rfl
 have q2 : (Rows.fnExactAskAtRow.unfollowed == Tryz.prog.unfollowed 3) = true := by rw [unfollowed_at leads_is unf_is];kernel_rfl
 have q3 : (Rows.fnExactAskAtRow.recurses == Tryz.prog.recurses 3) = true := (by rw [recurses_unf leads_is (by rw [unfollowed_at leads_is unf_is];kernel_rfl)];rfl)
 have q4 : (Rows.fnExactAskAtRow.named == Tryz.prog.varsNamed 3) = true := by rw [varsNamed_at leads_is var_ok ent_is];kernel_rfl
 have q5 : (Tryz.prog.make == some Rows.fnExactAskAtRow.make) = true := by rw [made_cut];rfl
 have q6 : (Rows.fnExactAskAtRow.lifted == Tryz.prog.liftsFinal) = true := by rw [lifts_no];rfl
 have q7 : Tryz.prog.mayEnter = true := may_enter
 have q8 : laidOutB Tryz.prog = true := Tryz.laidOut
 unfold joinedFacts
 repeat' (with_reducible refine Bool.and_eq_true_iff.2 ⟨?_, ?_⟩)
 all_goals (first | with_reducible exact q1 | with_reducible exact q2 | with_reducible exact q3 | with_reducible exact q4 | with_reducible exact q5 | with_reducible exact q6 | with_reducible exact q7 | with_reducible exact q8 | (as_aux_lemma => kernel_rfl))
theorem askAt_holds : Rows.FnExactAskAtSaid :=
 OpenClaim.holds_of_wide 3 Tryz.f3 rfl rfl rfl rfl rfl rfl rfl ⟨rfl, rfl, rfl, rfl, rfl⟩ rfl rfl rfl rfl rfl (by as_aux_lemma => kernel_rfl) Tryz.func3 closedAskAt
  (of_decide_eq_true (by as_aux_lemma => kernel_rfl)) (by unfold Func.isWrapper;first | (rw [if_pos (by decide +kernel)];kernel_rfl) | (rw [if_neg (by decide +kernel)];exact ⟨rfl, rfl⟩))
  (fun os started H enc _ => liftedAskAt os started H enc)
#print axioms askAt_holds
end Go.Proofs.YtclghfoinologaaGreat
