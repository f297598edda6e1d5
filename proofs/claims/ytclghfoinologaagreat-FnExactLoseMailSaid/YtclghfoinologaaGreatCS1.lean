/- Chapter 11: mails and clusters copied by the model. -/
import Derived.Test.YtclghfoinologaaGreatCS0
import Derived.Test.YtclghfoinologaaGreatQAY
set_option maxRecDepth 20000
set_option maxHeartbeats 16000000
namespace Go.Proofs.YtclghfoinologaaGreat
open Go.RowKit
theorem l11Mail_is {own : Bool} {lo hi : Nat} (m : Ml) (h : Hd) (w : World) (x : RowAt w own lo hi 6 h.1 h.2.1 h.2.2 (sixs m.log)) (hn : h.2.1 ≤ 1048576) :
  Calls Tryz.prog 49 #[.agg #[.int .i64 m.kind, .int .i64 m.fr, .int .i64 m.to, .int .i64 m.view, .int .i64 m.at_, .bool m.has, .int .i64 m.en.1, .int .i64 m.en.2.1, .int .i64 m.en.2.2.1, .int .i64 m.en.2.2.2.1, .int .i64 m.en.2.2.2.2.1, .int .i64 m.en.2.2.2.2.2, .int .i64 m.last, .slice h.1 h.2.1 h.2.2, .int .i64 m.commit]] w fun e w' => ∃ (z u : Nat) (h' : Hd), e = .returned (.agg #[.int .i64 m.kind, .int .i64 m.fr, .int .i64 m.to, .int .i64 m.view, .int .i64 m.at_, .bool m.has, .int .i64 m.en.1, .int .i64 m.en.2.1, .int .i64 m.en.2.2.1, .int .i64 m.en.2.2.2.1, .int .i64 m.en.2.2.2.2.1, .int .i64 m.en.2.2.2.2.2, .int .i64 m.last, .slice h'.1 h'.2.1 h'.2.2, .int .i64 m.commit]) ∧ w.heap.size ≤ z ∧ u ≤ w'.heap.size ∧ RowAt w' true z u 6 h'.1 h'.2.1 h'.2.2 (sixs m.log) ∧ h'.2.1 = h.2.1 ∧ Below w.heap.size w w' := by
 go_enter Tryz.func49, Tryz.ntmps49
 go_wp2_with (first | ((have g := ob0);clear g;(with_reducible refine al 96 [.int .i64 0, .int .i64 0, .int .i64 0, .int .i64 0, .int .i64 0, .bool false, .int .i64 0, .int .i64 0, .int .i64 0, .int .i64 0, .int .i64 0, .int .i64 0, .int .i64 0, .slice none 0 0, .int .i64 0] ?_);intro b1 W1 N1;have ob1 := N1.o B;have o0_b1 := N1.u X0;replace X0 := N1.r X0;replace c0 := X0.cell;replace f0 := X0.froz;replace B := N1.n B;obtain ⟨X1, c1, f1⟩ := N1.a;clear N1) | ((with_reducible refine box_newX 96 [.int .i64 m.kind, .int .i64 m.fr, .int .i64 m.to, .int .i64 m.view, .int .i64 m.at_, .bool m.has, .int .i64 m.en.1, .int .i64 m.en.2.1, .int .i64 m.en.2.2.1, .int .i64 m.en.2.2.2.1, .int .i64 m.en.2.2.2.2.1, .int .i64 m.en.2.2.2.2.2, .int .i64 m.last, .slice h.1 h.2.1 h.2.2, .int .i64 m.commit] rfl ?_);intro b0 W0 N0;have ob0 := N0.ge;have B := N0.below;obtain ⟨X0, c0, f0⟩ := N0.a;clear N0) | fail)
 refine (l8Copy_z h.1 h.2.1 h.2.2 m.log _ (x.below B) hn).mono ?_;rintro e w1 ⟨ra, rc, z, u, rfl, Gz, _, hR, R, BB⟩;have oz := Nat.le_trans B.size Gz;have o0_z := ltl X0.lt Gz;have o1_z := ltl X1.lt Gz;clear Gz;replace X0 := X0.below BB;replace c0 := X0.cell;replace f0 := X0.froz;replace X1 := X1.below BB;replace c1 := X1.cell;replace f1 := X1.froz;replace B := below_next B BB;clear BB
 go_wp2_with (first | ((with_reducible refine sm 96 X1 0 [.int .i64 m.kind, .int .i64 m.fr, .int .i64 m.to, .int .i64 m.view, .int .i64 m.at_, .bool m.has, .int .i64 m.en.1, .int .i64 m.en.2.1, .int .i64 m.en.2.2.1, .int .i64 m.en.2.2.2.1, .int .i64 m.en.2.2.2.2.1, .int .i64 m.en.2.2.2.2.2, .int .i64 m.last, .slice ra h.2.1 rc, .int .i64 m.commit] ?_);intro V2 S;replace X0 := X0.kp S.kept;replace c0 := X0.cell;replace f0 := X0.froz;replace X1 : Bx V2 b1 [.int .i64 m.kind, .int .i64 m.fr, .int .i64 m.to, .int .i64 m.view, .int .i64 m.at_, .bool m.has, .int .i64 m.en.1, .int .i64 m.en.2.1, .int .i64 m.en.2.2.1, .int .i64 m.en.2.2.2.1, .int .i64 m.en.2.2.2.2.1, .int .i64 m.en.2.2.2.2.2, .int .i64 m.last, .slice ra h.2.1 rc, .int .i64 m.commit] := S.bx;replace c1 := X1.cell;replace f1 := X1.froz;replace R := R.kept S.kept (by omega);replace hR := Nat.le_trans hR S.kept.size;replace B := bkp B S.kept;clear S) | ((with_reducible refine so 34 X0 13 (.slice ra h.2.1 rc) ?_);intro V1 S;replace X0 : Bx V1 b0 [.int .i64 m.kind, .int .i64 m.fr, .int .i64 m.to, .int .i64 m.view, .int .i64 m.at_, .bool m.has, .int .i64 m.en.1, .int .i64 m.en.2.1, .int .i64 m.en.2.2.1, .int .i64 m.en.2.2.2.1, .int .i64 m.en.2.2.2.2.1, .int .i64 m.en.2.2.2.2.2, .int .i64 m.last, .slice ra h.2.1 rc, .int .i64 m.commit] := S.bx;replace c0 := X0.cell;replace f0 := X0.froz;replace X1 := X1.kp S.kept;replace c1 := X1.cell;replace f1 := X1.froz;replace R := R.kept S.kept (by omega);replace hR := Nat.le_trans hR S.kept.size;replace B := bkp B S.kept;clear S))
 refine bodyPost_ret (v := .agg #[.int .i64 m.kind, .int .i64 m.fr, .int .i64 m.to, .int .i64 m.view, .int .i64 m.at_, .bool m.has, .int .i64 m.en.1, .int .i64 m.en.2.1, .int .i64 m.en.2.2.1, .int .i64 m.en.2.2.2.1, .int .i64 m.en.2.2.2.2.1, .int .i64 m.en.2.2.2.2.2, .int .i64 m.last, .slice ra h.2.1 rc, .int .i64 m.commit]) (by simp [results, Tryz.results49, go_sem, *]) rfl ⟨z, u, (ra, h.2.1, rc), rfl, oz, hR, R, rfl, B⟩
def ClCopy (w w' : World) (e : Ending) (rs : List Rep) (ms : List Ml) (es : List En) : Prop := ∃ (N M S : Hd) (xs : List Nod) (ys : List Mal) (b : Nat), e = .returned (.agg #[.slice N.1 N.2.1 N.2.2, .slice M.1 M.2.1 M.2.2, .slice S.1 S.2.1 S.2.2]) ∧ LiveAt w' 96 w.heap.size b N M S xs ys es ∧ xs.map (·.1) = rs ∧ ys.map (·.1) = ms ∧ Below w.heap.size w w'
theorem l11Copy_is {own : Bool} {lo hi : Nat} (N M Sl : Hd) (xs : List Nod) (ms : List Mal) (es : List En) (w : World) (x : ClAt w own lo hi N M Sl xs ms es) (hs : ClSz N M Sl xs ms 1048576) (h5 : N.2.1 ≤ 5) (h120 : M.2.1 ≤ 120) (hd : ∀ (i : Nat) (a : Nod), xs[i]? = some a → a.2.D.2.1 ≤ 1000) :
  Calls Tryz.prog 48 #[.agg #[.slice N.1 N.2.1 N.2.2, .slice M.1 M.2.1 M.2.2, .slice Sl.1 Sl.2.1 Sl.2.2]] w fun e w' => ClCopy w w' e (xs.map (·.1)) (ms.map (·.1)) es := by
 obtain ⟨na, nn, nc⟩ := N
 obtain ⟨ma, mn, mc⟩ := M
 simp only at h5 h120
 have HN : Hid (NAt w own lo hi (na, nn, nc) xs) := x.nodes
 have HM : Hid (MAt w own lo hi (ma, mn, mc) ms) := x.mails
 have HG : Hid _ := x.slog
 have HS : Hid _ := hs
 have HD : Hid _ := hd
 have hnl : xs.length = nn := LAt.len x.nodes
 have hml : ms.length = mn := LAt.len x.mails
 obtain ⟨rs, hrs⟩ : ∃ rs, xs.map (·.1) = rs := ⟨_, rfl⟩;obtain ⟨ns, hns⟩ : ∃ ns, ms.map (·.1) = ns := ⟨_, rfl⟩
 have HRS : Hid _ := hrs
 have HNS : Hid _ := hns
 have HNL : Hid _ := hnl
 have HML : Hid _ := hml
 rw [hrs, hns]
 obtain ⟨i9, hi9, ha9, hb9, hc9⟩ := info_parts Tryz.infReplica
 have HI9 : Hid (Tryz.prog.info? 63 = some i9 ∧ i9.zero = some (.agg #[.int .i64 0, .int .i64 0, .int .i64 0, .bool false, .int .i64 0, .slice none 0 0, .int .i64 0, .slice none 0 0, .slice none 0 0, .slice none 0 0]) ∧ i9.size = 10 ∧ i9.bytes = 144) := ⟨hi9, ha9, hb9, hc9⟩
 obtain ⟨i8, hi8, ha8, hb8, hc8⟩ := info_parts Tryz.infMail
 have HI8 : Hid (Tryz.prog.info? 96 = some i8 ∧ i8.zero = some (.agg #[.int .i64 0, .int .i64 0, .int .i64 0, .int .i64 0, .int .i64 0, .bool false, .int .i64 0, .int .i64 0, .int .i64 0, .int .i64 0, .int .i64 0, .int .i64 0, .int .i64 0, .slice none 0 0, .int .i64 0]) ∧ i8.size = 15 ∧ i8.bytes = 136) := ⟨hi8, ha8, hb8, hc8⟩
 clear hs hd hrs hns hnl hml x hi9 ha9 hb9 hc9 hi8 ha8 hb8 hc8
 go_enter Tryz.func48, Tryz.ntmps48
 go_wp2_with (first | ((have g := ob0);clear g;(with_reducible refine al 36 [.slice none 0 0, .slice none 0 0, .slice none 0 0] ?_);intro b1 W1 N1;have ob1 := N1.o B;have o0_b1 := N1.u X0;replace X0 := N1.r X0;replace c0 := X0.cell;replace f0 := X0.froz;replace B := N1.n B;obtain ⟨X1, c1, f1⟩ := N1.a;clear N1) | ((with_reducible refine box_newX 36 [.slice na nn nc, .slice ma mn mc, .slice Sl.1 Sl.2.1 Sl.2.2] rfl ?_);intro b0 W0 N0;have ob0 := N0.ge;have B := N0.below;obtain ⟨X0, c0, f0⟩ := N0.a;clear N0) | fail)
 refine (l8Copy_z Sl.1 Sl.2.1 Sl.2.2 es _ (HG.out.below B) HS.out.s).mono ?_;rintro e w1 ⟨ra, rc, zs, us, rfl, Gzs, hzs, hR, R, BB⟩;have ozs := Nat.le_trans B.size Gzs;have o0_zs := ltl X0.lt Gzs;have o1_zs := ltl X1.lt Gzs;clear Gzs;replace X0 := X0.below BB;replace c0 := X0.cell;replace f0 := X0.froz;replace X1 := X1.below BB;replace c1 := X1.cell;replace f1 := X1.froz;replace B := below_next B BB;clear BB
 go_wp2_with (first | ((with_reducible refine sm 36 X2 0 [.slice none 0 0, .slice none 0 0, .slice ra Sl.2.1 rc] ?_);intro V1 S;replace X0 := X0.kp S.kept;replace c0 := X0.cell;replace f0 := X0.froz;replace X1 := X1.kp S.kept;replace c1 := X1.cell;replace f1 := X1.froz;replace X2 : Bx V1 b2 [.slice none 0 0, .slice none 0 0, .slice ra Sl.2.1 rc] := S.bx;replace c2 := X2.cell;replace f2 := X2.froz;replace R := R.kept S.kept (by omega);replace hR := Nat.le_trans hR S.kept.size;replace B := bkp B S.kept;clear S) | ((have g := ob1);clear g;(with_reducible refine al 36 [.slice none 0 0, .slice none 0 0, .slice none 0 0] ?_);intro b2 W2 N2;have ob2 := N2.o B;have o0_b2 := N2.u X0;have o1_b2 := N2.u X1;have oR_b2 := Nat.le_trans hR N2.ge;replace X0 := N2.r X0;replace c0 := X0.cell;replace f0 := X0.froz;replace X1 := N2.r X1;replace c1 := X1.cell;replace f1 := X1.froz;replace R := R.below N2.below;replace hR := Nat.le_trans hR N2.below.size;replace B := N2.n B;obtain ⟨X2, c2, f2⟩ := N2.a;clear N2))
 obtain ⟨zz, hzz⟩ : ∃ zz, zz = V1.heap.size := ⟨_, rfl⟩
 have lz0 : b0 < zz := by rw [hzz];exact X0.lt
 have lz1 : b1 < zz := by rw [hzz];exact X1.lt
 have lz2 : b2 < zz := by rw [hzz];exact X2.lt
 have lzR : us ≤ zz := by rw [hzz];exact hR
 have lw : w.heap.size ≤ zz := by rw [hzz];exact B.size
 have hzl : zz ≤ V1.heap.size := Nat.le_of_eq hzz
 have HX0 : Hid _ := X0
 have HX1 : Hid _ := X1
 have HX2 : Hid _ := X2
 have HB : Hid _ := B
 have HR : Hid _ := R
 clear hzz B R hR X0 c0 f0 X1 c1 f1 X2 c2 f2
 go_loopw [4] (fun iv wr => ∃ (k : Nat) (v : Value), k ≤ nn ∧ iv = .int .i64 k ∧ Bx wr b0 [.slice na nn nc, .slice ma mn mc, .slice Sl.1 Sl.2.1 Sl.2.2] ∧ Bx wr b1 [.slice none 0 0, .slice none 0 0, .slice none 0 0] ∧ Bx wr b2 [v, .slice none 0 0, .slice ra Sl.2.1 rc] ∧ RowAt wr true zs us 6 ra Sl.2.1 rc (sixs es) ∧ CpN rs 63 wr zz v k ∧ zz ≤ wr.heap.size ∧ Below w.heap.size w wr) (fun iv _ => nn - (intOf iv).toNat)
 case atStart => exact ⟨0, _, Nat.zero_le _, rfl, HX0.out, HX1.out, HX2.out, HR.out, ⟨[], GrowL.nil _ _ _ _, rfl, fun i a e => by simp at e⟩, hzl, HB.out⟩
 case round =>
  obtain ⟨k, v, hk, rfl, X0, X1, X2, R, G, LZ, B⟩ := hrel
  clear HX0 HX1 HX2 HB HR hzl;have c0 := X0.cell;have c1 := X1.cell;have c2 := X2.cell;have f0 := X0.froz;have f1 := X1.froz;have f2 := X2.froz
  by_cases hlt : k < nn
  ·have hlk : (k : Int) < (nn : Int) := by omega
   have HG2 : Hid (CpN rs 63 wr zz v k) := G
   have HRr : Hid (RowAt wr true zs us 6 ra Sl.2.1 rc (sixs es)) := R
   clear G R;have XN0 := LAt.node HN.out hlt
   obtain ⟨r, h, b, off, ex, en, _, _, XN0, y0, _⟩ := XN0
   have hbw : b < w.heap.size := XN0.lt
   have hmk := HS.out.nodes k _ ex;have hdk := HD.out k _ ex
   have HE : Hid (rs[k]? = some r) := by (show _ = _;rw [← HRS.out, List.getElem?_map, ex];rfl)
   clear ex
   simp only at hmk hdk
   subst en;have XN := XN0.below B;have y := RepAt.below y0 B;have cN := XN.cell;clear XN0 y0;go_wp2_with fail
   have DQ : Below wr.heap.size wr wr.drew := (Below.refl _ _).drew
   replace X0 := X0.below DQ;replace c0 := X0.cell;replace f0 := X0.froz;replace X1 := X1.below DQ;replace c1 := X1.cell;replace f1 := X1.froz;replace X2 := X2.below DQ;replace c2 := X2.cell;replace f2 := X2.froz;replace LZ := Nat.le_trans LZ DQ.size;replace B := below_next B DQ;clear DQ;replace XN := XN.below (Below.drew (Below.refl _ _));replace cN := XN.cell;replace y := RepAt.below y (Below.drew (Below.refl _ _))
   replace HG2 : Hid (CpN rs 63 wr.drew zz v k) := CpN.below HG2.out (Below.refl _ _).drew
   replace HRr : Hid _ := HRr.out.below (Below.drew (Below.refl _ _))
   have LZD := LZ
   refine wp_region_held_drew (S := (fun w' => (∀ k_2 : Nat, w'.cell? ⟨b0, k_2, none⟩ = [.slice (some ⟨b, off, none⟩) nn nc, .slice ma mn mc, .slice Sl.1 Sl.2.1 Sl.2.2][k_2]?) ∧ (w'.cell? ⟨b, off + k * 10, none⟩ = [.int .i64 r.id, .int .i64 r.size, .int .i64 r.view, .bool r.normal, .int .i64 r.last, .slice h.L.1 h.L.2.1 h.L.2.2, .int .i64 r.commit, .slice h.O.1 h.O.2.1 h.O.2.2, .slice h.A.1 h.A.2.1 h.A.2.2, .slice h.D.1 h.D.2.1 h.D.2.2][0]? ∧ ∀ k_1 : Nat, k_1 < 10 → w'.cell? ⟨b, off + k * 10 + k_1, none⟩ = [.int .i64 r.id, .int .i64 r.size, .int .i64 r.view, .bool r.normal, .int .i64 r.last, .slice h.L.1 h.L.2.1 h.L.2.2, .int .i64 r.commit, .slice h.O.1 h.O.2.1 h.O.2.2, .slice h.A.1 h.A.2.1 h.A.2.2, .slice h.D.1 h.D.2.1 h.D.2.2][k_1]?))) (by kernel_rfl) ⟨c0, cN⟩ (fun hZq => ?_)
   refine tk 0 hZq ?_;refine tk 2 hZq ?_;refine tk 3 hZq ?_;refine tk 4 hZq ?_;refine tk 5 hZq ?_;refine tk 6 hZq ?_
   refine wpAnyH_ready (rs := [1, 7]) (by kernel_rfl) (by simp) ?_
   refine (AllReadyH.cons rfl (fun KK hKK => ?_) (AllReadyH.cons rfl (fun KK hKK => ?_) AllReadyH.nil))
   ·rw [if_pos (by simp [Region.wanted])]
    unfold Oper.wp execOp
    go_simp
    clear hZq
    refine hKK _ _ ⟨c0, cN⟩ (fun hZq => ?_)
    clear hKK KK
    refine rd1 7 (fun KK hKK => ?_)
    go_simp
    go_at_call 54
    refine (l9Copy_z r h _ y hmk hdk).mono ?_;rintro e v1 ⟨z1, u1, h', rfl, Gz1, hu1, R1, s1, BB⟩
    have HB1 : Hid (Below wr.drew.heap.size wr.drew v1) := BB
    replace X0 := X0.below BB;replace c0 := X0.cell;replace f0 := X0.froz;replace X1 := X1.below BB;replace c1 := X1.cell;replace f1 := X1.froz;replace X2 := X2.below BB;replace c2 := X2.cell;replace f2 := X2.froz;replace LZ := Nat.le_trans LZ BB.size;replace B := below_next B BB;replace XN := XN.below BB;replace cN := XN.cell
    have HR1 : Hid _ := R1
    have HRr1 : Hid _ := HRr.out.below BB
    clear BB R1 y HRr;clear hZq
    refine hKK _ _ ⟨c0, cN⟩ (fun hZq => ?_)
    clear hKK KK
    refine rd1 8 (fun KK hKK => ?_)
    refine step_litX 32 1 _ [.int .i64 r.id, .int .i64 r.size, .int .i64 r.view, .bool r.normal, .int .i64 r.last, .slice h'.L.1 h'.L.2.1 h'.L.2.2, .int .i64 r.commit, .slice h'.O.1 h'.O.2.1 h'.O.2.2, .slice h'.A.1 h'.A.2.1 h'.A.2.2, .slice h'.D.1 h'.D.2.1 h'.D.2.2] 63 (fun _ => by kernel_rfl) ?_
    intro bl Wl Nl;have bB := Nl.below;have Xl := Nl.bx;clear Nl
    obtain ⟨v', w6, hr, G2, BL⟩ := CpN.snoc (P := Tryz.prog) (t := 32) Tryz.underlying32 HI9.out.1 HI9.out.2.1 HI9.out.2.2.1 HI9.out.2.2.2 rfl (by omega) HG2.out (below_next HB1.out bB) Xl (RepAt.below HR1.out bB) s1 Gz1 (Nat.le_trans hu1 bB.size) LZD HE.out (by omega)
    replace X0 := X0.below bB;replace c0 := X0.cell;replace f0 := X0.froz;replace X1 := X1.below bB;replace c1 := X1.cell;replace f1 := X1.froz;replace X2 := X2.below bB;replace c2 := X2.cell;replace f2 := X2.froz;replace LZ := Nat.le_trans LZ bB.size;replace B := below_next B bB;replace XN := XN.below bB;replace cN := XN.cell
    have HG3 : Hid (CpN rs 63 w6 zz v' (k + 1)) := G2
    have HRr2 : Hid _ := HRr1.out.below bB
    clear bB G2 Xl HR1 HB1 HRr1;clear hZq
    refine hKK _ _ ⟨c0, cN⟩ (fun hZq => ?_)
    clear hKK KK
    refine rd1 9 (fun KK hKK => ?_)
    refine step_append_run rfl _ _ _ _ rfl _ _ rfl rfl _ _ (hr _) ?_;clear hr;replace X0 := X0.low BL lz0;replace c0 := X0.cell;replace f0 := X0.froz;replace X1 := X1.low BL lz1;replace c1 := X1.cell;replace f1 := X1.froz;replace X2 := X2.low BL lz2;replace c2 := X2.cell;replace f2 := X2.froz;replace XN := XN.low BL (Nat.lt_of_lt_of_le hbw lw);replace cN := XN.cell
    have HRr3 : Hid (RowAt w6 true zs us 6 ra Sl.2.1 rc (sixs es)) := HRr2.out.kept (Kept.ofB BL) (Or.inl lzR)
    replace LZ := Nat.le_trans LZ BL.size;replace B := B.trans (BL.mono lw);clear BL HRr2;clear hZq
    refine hKK _ _ ⟨c0, cN⟩ (fun hZq => ?_)
    clear hKK KK;refine tk 10 hZq ?_
    refine rd1 11 (fun KK hKK => ?_)
    obtain ⟨sa, sc, hv'⟩ : ∃ sa sc, v' = .slice sa (k + 1) sc := by
     obtain ⟨ys, G, _, _⟩ := HG3.out
     obtain ⟨ao, cap, e, _⟩ := G.els
     exact ⟨ao, cap, e⟩
    subst hv'
    refine step_oneX 32 X2 0 (.slice sa (k + 1) sc) (by simp) (by kernel_rfl) rfl rfl rfl ?_
    intro V7 S
    have HG4 : Hid (CpN rs 63 V7 zz (.slice sa (k + 1) sc) (k + 1)) := CpN.kept HG3.out S.kept (by omega)
    have HRr4 : Hid (RowAt V7 true zs us 6 ra Sl.2.1 rc (sixs es)) := HRr3.out.kept S.kept (by omega)
    have B7 := S.kept.below w.heap.size (by omega) B.size
    replace XN := XN.low B7 hbw;replace cN := XN.cell;clear B7;replace X0 := X0.kp S.kept;replace c0 := X0.cell;replace f0 := X0.froz;replace X1 := X1.kp S.kept;replace c1 := X1.cell;replace f1 := X1.froz
    replace X2 : Bx V7 b2 [.slice sa (k + 1) sc, .slice none 0 0, .slice ra Sl.2.1 rc] := S.bx
    replace c2 := X2.cell;replace f2 := X2.froz;replace LZ := Nat.le_trans LZ S.kept.size;replace B := bkp B S.kept;clear S;clear hZq
    refine hKK _ _ ⟨c0, cN⟩ (fun hZq => ?_)
    clear hKK KK
    refine wpAnyH_done (by kernel_rfl) ?_ _
    have H0 : Hid _ := X0
    have H1 : Hid _ := X1
    have H2 : Hid _ := X2
    have HLZ : Hid _ := LZ
    have HB2 : Hid _ := B
    clear LZ B HG2 HG3 HE XN cN X0 c0 f0 X1 c1 f1 X2 c2 f2;go_wp2
    go_roundw
    case rel => exact ⟨k + 1, _, by omega, by go_num, H0.out, H1.out, H2.out, HRr4.out, HG4.out, HLZ.out, HB2.out⟩
    case measure => simp [intOf];omega
   ·go_simp
    go_at_call 54
    refine (l9Copy_z r h _ y hmk hdk).mono ?_;rintro e v1 ⟨z1, u1, h', rfl, Gz1, hu1, R1, s1, BB⟩
    have HB1 : Hid (Below wr.drew.heap.size wr.drew v1) := BB
    replace X0 := X0.below BB;replace c0 := X0.cell;replace f0 := X0.froz;replace X1 := X1.below BB;replace c1 := X1.cell;replace f1 := X1.froz;replace X2 := X2.below BB;replace c2 := X2.cell;replace f2 := X2.froz;replace LZ := Nat.le_trans LZ BB.size;replace B := below_next B BB;replace XN := XN.below BB;replace cN := XN.cell
    have HR1 : Hid _ := R1
    have HRr1 : Hid _ := HRr.out.below BB
    clear BB R1 y HRr;clear hZq
    refine hKK _ _ ⟨c0, cN⟩ (fun hZq => ?_)
    clear hKK KK
    refine wpAnyH_ready (rs := [1, 8]) (by kernel_rfl) (by simp) ?_
    refine (AllReadyH.cons rfl (fun KK hKK => ?_) (AllReadyH.cons rfl (fun KK hKK => ?_) AllReadyH.nil))
    ·rw [if_pos (by simp [Region.wanted])]
     unfold Oper.wp execOp
     go_simp
     clear hZq
     refine hKK _ _ ⟨c0, cN⟩ (fun hZq => ?_)
     clear hKK KK
     refine rd1 8 (fun KK hKK => ?_)
     refine step_litX 32 1 _ [.int .i64 r.id, .int .i64 r.size, .int .i64 r.view, .bool r.normal, .int .i64 r.last, .slice h'.L.1 h'.L.2.1 h'.L.2.2, .int .i64 r.commit, .slice h'.O.1 h'.O.2.1 h'.O.2.2, .slice h'.A.1 h'.A.2.1 h'.A.2.2, .slice h'.D.1 h'.D.2.1 h'.D.2.2] 63 (fun _ => by kernel_rfl) ?_
     intro bl Wl Nl;have bB := Nl.below;have Xl := Nl.bx;clear Nl
     obtain ⟨v', w6, hr, G2, BL⟩ := CpN.snoc (P := Tryz.prog) (t := 32) Tryz.underlying32 HI9.out.1 HI9.out.2.1 HI9.out.2.2.1 HI9.out.2.2.2 rfl (by omega) HG2.out (below_next HB1.out bB) Xl (RepAt.below HR1.out bB) s1 Gz1 (Nat.le_trans hu1 bB.size) LZD HE.out (by omega)
     replace X0 := X0.below bB;replace c0 := X0.cell;replace f0 := X0.froz;replace X1 := X1.below bB;replace c1 := X1.cell;replace f1 := X1.froz;replace X2 := X2.below bB;replace c2 := X2.cell;replace f2 := X2.froz;replace LZ := Nat.le_trans LZ bB.size;replace B := below_next B bB;replace XN := XN.below bB;replace cN := XN.cell
     have HG3 : Hid (CpN rs 63 w6 zz v' (k + 1)) := G2
     have HRr2 : Hid _ := HRr1.out.below bB
     clear bB G2 Xl HR1 HB1 HRr1;clear hZq
     refine hKK _ _ ⟨c0, cN⟩ (fun hZq => ?_)
     clear hKK KK
     refine rd1 9 (fun KK hKK => ?_)
     refine step_append_run rfl _ _ _ _ rfl _ _ rfl rfl _ _ (hr _) ?_;clear hr;replace X0 := X0.low BL lz0;replace c0 := X0.cell;replace f0 := X0.froz;replace X1 := X1.low BL lz1;replace c1 := X1.cell;replace f1 := X1.froz;replace X2 := X2.low BL lz2;replace c2 := X2.cell;replace f2 := X2.froz;replace XN := XN.low BL (Nat.lt_of_lt_of_le hbw lw);replace cN := XN.cell
     have HRr3 : Hid (RowAt w6 true zs us 6 ra Sl.2.1 rc (sixs es)) := HRr2.out.kept (Kept.ofB BL) (Or.inl lzR)
     replace LZ := Nat.le_trans LZ BL.size;replace B := B.trans (BL.mono lw);clear BL HRr2;clear hZq
     refine hKK _ _ ⟨c0, cN⟩ (fun hZq => ?_)
     clear hKK KK;refine tk 10 hZq ?_
     refine rd1 11 (fun KK hKK => ?_)
     obtain ⟨sa, sc, hv'⟩ : ∃ sa sc, v' = .slice sa (k + 1) sc := by
      obtain ⟨ys, G, _, _⟩ := HG3.out
      obtain ⟨ao, cap, e, _⟩ := G.els
      exact ⟨ao, cap, e⟩
     subst hv'
     refine step_oneX 32 X2 0 (.slice sa (k + 1) sc) (by simp) (by kernel_rfl) rfl rfl rfl ?_
     intro V7 S
     have HG4 : Hid (CpN rs 63 V7 zz (.slice sa (k + 1) sc) (k + 1)) := CpN.kept HG3.out S.kept (by omega)
     have HRr4 : Hid (RowAt V7 true zs us 6 ra Sl.2.1 rc (sixs es)) := HRr3.out.kept S.kept (by omega)
     have B7 := S.kept.below w.heap.size (by omega) B.size
     replace XN := XN.low B7 hbw;replace cN := XN.cell;clear B7;replace X0 := X0.kp S.kept;replace c0 := X0.cell;replace f0 := X0.froz;replace X1 := X1.kp S.kept;replace c1 := X1.cell;replace f1 := X1.froz
     replace X2 : Bx V7 b2 [.slice sa (k + 1) sc, .slice none 0 0, .slice ra Sl.2.1 rc] := S.bx
     replace c2 := X2.cell;replace f2 := X2.froz;replace LZ := Nat.le_trans LZ S.kept.size;replace B := bkp B S.kept;clear S;clear hZq
     refine hKK _ _ ⟨c0, cN⟩ (fun hZq => ?_)
     clear hKK KK
     refine wpAnyH_done (by kernel_rfl) ?_ _
     have H0 : Hid _ := X0
     have H1 : Hid _ := X1
     have H2 : Hid _ := X2
     have HLZ : Hid _ := LZ
     have HB2 : Hid _ := B
     clear LZ B HG2 HG3 HE XN cN X0 c0 f0 X1 c1 f1 X2 c2 f2;go_wp2
     go_roundw
     case rel => exact ⟨k + 1, _, by omega, by go_num, H0.out, H1.out, H2.out, HRr4.out, HG4.out, HLZ.out, HB2.out⟩
     case measure => simp [intOf];omega
    ·refine step_litX 32 1 _ [.int .i64 r.id, .int .i64 r.size, .int .i64 r.view, .bool r.normal, .int .i64 r.last, .slice h'.L.1 h'.L.2.1 h'.L.2.2, .int .i64 r.commit, .slice h'.O.1 h'.O.2.1 h'.O.2.2, .slice h'.A.1 h'.A.2.1 h'.A.2.2, .slice h'.D.1 h'.D.2.1 h'.D.2.2] 63 (fun _ => by kernel_rfl) ?_
     intro bl Wl Nl;have bB := Nl.below;have Xl := Nl.bx;clear Nl
     obtain ⟨v', w6, hr, G2, BL⟩ := CpN.snoc (P := Tryz.prog) (t := 32) Tryz.underlying32 HI9.out.1 HI9.out.2.1 HI9.out.2.2.1 HI9.out.2.2.2 rfl (by omega) HG2.out (below_next HB1.out bB) Xl (RepAt.below HR1.out bB) s1 Gz1 (Nat.le_trans hu1 bB.size) LZD HE.out (by omega)
     replace X0 := X0.below bB;replace c0 := X0.cell;replace f0 := X0.froz;replace X1 := X1.below bB;replace c1 := X1.cell;replace f1 := X1.froz;replace X2 := X2.below bB;replace c2 := X2.cell;replace f2 := X2.froz;replace LZ := Nat.le_trans LZ bB.size;replace B := below_next B bB;replace XN := XN.below bB;replace cN := XN.cell
     have HG3 : Hid (CpN rs 63 w6 zz v' (k + 1)) := G2
     have HRr2 : Hid _ := HRr1.out.below bB
     clear bB G2 Xl HR1 HB1 HRr1;clear hZq
     refine hKK _ _ ⟨c0, cN⟩ (fun hZq => ?_)
     clear hKK KK
     refine rd1 1 (fun KK hKK => ?_)
     rw [if_pos (by simp [Region.wanted])]
     unfold Oper.wp execOp
     go_simp
     clear hZq
     refine hKK _ _ ⟨c0, cN⟩ (fun hZq => ?_)
     clear hKK KK
     refine rd1 9 (fun KK hKK => ?_)
     refine step_append_run rfl _ _ _ _ rfl _ _ rfl rfl _ _ (hr _) ?_;clear hr;replace X0 := X0.low BL lz0;replace c0 := X0.cell;replace f0 := X0.froz;replace X1 := X1.low BL lz1;replace c1 := X1.cell;replace f1 := X1.froz;replace X2 := X2.low BL lz2;replace c2 := X2.cell;replace f2 := X2.froz;replace XN := XN.low BL (Nat.lt_of_lt_of_le hbw lw);replace cN := XN.cell
     have HRr3 : Hid (RowAt w6 true zs us 6 ra Sl.2.1 rc (sixs es)) := HRr2.out.kept (Kept.ofB BL) (Or.inl lzR)
     replace LZ := Nat.le_trans LZ BL.size;replace B := B.trans (BL.mono lw);clear BL HRr2;clear hZq
     refine hKK _ _ ⟨c0, cN⟩ (fun hZq => ?_)
     clear hKK KK;refine tk 10 hZq ?_
     refine rd1 11 (fun KK hKK => ?_)
     obtain ⟨sa, sc, hv'⟩ : ∃ sa sc, v' = .slice sa (k + 1) sc := by
      obtain ⟨ys, G, _, _⟩ := HG3.out
      obtain ⟨ao, cap, e, _⟩ := G.els
      exact ⟨ao, cap, e⟩
     subst hv'
     refine step_oneX 32 X2 0 (.slice sa (k + 1) sc) (by simp) (by kernel_rfl) rfl rfl rfl ?_
     intro V7 S
     have HG4 : Hid (CpN rs 63 V7 zz (.slice sa (k + 1) sc) (k + 1)) := CpN.kept HG3.out S.kept (by omega)
     have HRr4 : Hid (RowAt V7 true zs us 6 ra Sl.2.1 rc (sixs es)) := HRr3.out.kept S.kept (by omega)
     have B7 := S.kept.below w.heap.size (by omega) B.size
     replace XN := XN.low B7 hbw;replace cN := XN.cell;clear B7;replace X0 := X0.kp S.kept;replace c0 := X0.cell;replace f0 := X0.froz;replace X1 := X1.kp S.kept;replace c1 := X1.cell;replace f1 := X1.froz
     replace X2 : Bx V7 b2 [.slice sa (k + 1) sc, .slice none 0 0, .slice ra Sl.2.1 rc] := S.bx
     replace c2 := X2.cell;replace f2 := X2.froz;replace LZ := Nat.le_trans LZ S.kept.size;replace B := bkp B S.kept;clear S;clear hZq
     refine hKK _ _ ⟨c0, cN⟩ (fun hZq => ?_)
     clear hKK KK
     refine wpAnyH_done (by kernel_rfl) ?_ _
     have H0 : Hid _ := X0
     have H1 : Hid _ := X1
     have H2 : Hid _ := X2
     have HLZ : Hid _ := LZ
     have HB2 : Hid _ := B
     clear LZ B HG2 HG3 HE XN cN X0 c0 f0 X1 c1 f1 X2 c2 f2;go_wp2
     go_roundw
     case rel => exact ⟨k + 1, _, by omega, by go_num, H0.out, H1.out, H2.out, HRr4.out, HG4.out, HLZ.out, HB2.out⟩
     case measure => simp [intOf];omega
  ·obtain rfl : nn = k := by omega
   go_wp2_with fail
   obtain ⟨ys, GL, e5, s5⟩ := G
   obtain ⟨na', nc', rfl, LA⟩ := GL.els
   have hrl : rs.length = nn := by (have h6 := HNL.out;rw [← HRS.out, List.length_map];exact h6)
   have e6 : ys.map (·.1) = rs := by rw [e5, List.take_of_length_le (by omega)]
   have L0 : LiveAt wr 96 (b1 + 1) b2 (na', nn, nc') (none, 0, 0) (ra, Sl.2.1, rc) ys [] es := liveAt_ofD (z1 := zz) (u1 := wr.heap.size) (z2 := b1 + 1) (u2 := b1 + 1) (z3 := zs) (u3 := us) X2 (by omega) LA (MGr.none _ _ _) R (by omega) (Nat.le_refl _) (by omega) (Nat.le_refl _) (by have := LZ;omega) (Or.inr (by omega)) (Or.inr (by omega)) (Or.inl (by omega)) (Or.inr (by omega)) (Or.inl (by omega)) (Or.inl (by omega)) ⟨by show nn ≤ 1048576;omega, Nat.zero_le _, HS.out.s, s5, fun i a e => by simp at e⟩
   have HE6 : Hid _ := e6
   have HX0 : Hid _ := X0
   have HX1 : Hid _ := X1
   have HX2 : Hid _ := X2
   have HB : Hid _ := B
   have HL0 : Hid _ := L0
   have lb1 : b1 + 1 ≤ wr.heap.size := X1.lt
   clear GL e5 s5 LA e6 L0 B LZ R hrl X0 c0 f0 X1 c1 f1 X2 c2 f2
   go_loopw [5] (fun iv wr => ∃ (k : Nat) (M' : Hd) (yk : List Mal), k ≤ mn ∧ iv = .int .i64 k ∧ Bx wr b0 [.slice na nn nc, .slice ma mn mc, .slice Sl.1 Sl.2.1 Sl.2.2] ∧ Bx wr b1 [.slice none 0 0, .slice none 0 0, .slice none 0 0] ∧ Bx wr b2 [.slice na' nn nc', .slice M'.1 M'.2.1 M'.2.2, .slice ra Sl.2.1 rc] ∧ LiveAt wr 96 (b1 + 1) b2 (na', nn, nc') M' (ra, Sl.2.1, rc) ys yk es ∧ yk.map (·.1) = ns.take k ∧ b1 + 1 ≤ wr.heap.size ∧ Below w.heap.size w wr) (fun iv _ => mn - (intOf iv).toNat)
   case atStart => exact ⟨0, _, [], Nat.zero_le _, rfl, HX0.out, HX1.out, HX2.out, HL0.out, rfl, lb1, HB.out⟩
   case round =>
    obtain ⟨k, M', yk, hk, rfl, X0, X1, X2, L, ey, lw1, B⟩ := hrel
    clear HX0 HX1 HX2 HB HL0 lb1;have c0 := X0.cell;have c1 := X1.cell;have c2 := X2.cell;have f0 := X0.froz;have f1 := X1.froz;have f2 := X2.froz
    have HL : Hid _ := L
    have HY : Hid _ := ey
    clear L ey
    by_cases hlt : k < mn
    ·have hlk : (k : Int) < (mn : Int) := by omega
     have XM0 := LAt.mail HM.out hlt
     obtain ⟨m, h, b, off, ex, en, _, _, XM0, y0, _⟩ := XM0
     have hbw : b < w.heap.size := XM0.lt
     have hmk : h.2.1 ≤ 1048576 := HS.out.mails k _ ex
     have HE : Hid (ns[k]? = some m) := by (show _ = _;rw [← HNS.out, List.getElem?_map, ex];rfl)
     clear ex
     simp only at en
     subst en;have XM := XM0.below B;have y := y0.below B;have cM := XM.cell;clear XM0 y0;go_wp2_with fail
     have DQ : Below wr.heap.size wr wr.drew := (Below.refl _ _).drew
     replace X0 := X0.below DQ;replace c0 := X0.cell;replace f0 := X0.froz;replace X1 := X1.below DQ;replace c1 := X1.cell;replace f1 := X1.froz;replace X2 := X2.below DQ;replace c2 := X2.cell;replace f2 := X2.froz;replace B := below_next B DQ;clear DQ;replace XM := XM.below (Below.drew (Below.refl _ _));replace cM := XM.cell;replace y := y.below (Below.drew (Below.refl _ _))
     have HLd : Hid (LiveAt wr.drew _ _ _ _ _ _ _ _ _) := HL.out.below (Below.drew (Below.refl _ _))
     have lbD : b1 + 1 ≤ wr.drew.heap.size := lw1
     refine wp_region_held_drew (S := (fun w' => (∀ k_2 : Nat, w'.cell? ⟨b0, k_2, none⟩ = [.slice na nn nc, .slice (some ⟨b, off, none⟩) mn mc, .slice Sl.1 Sl.2.1 Sl.2.2][k_2]?) ∧ (w'.cell? ⟨b, off + k * 15, none⟩ = [.int .i64 m.kind, .int .i64 m.fr, .int .i64 m.to, .int .i64 m.view, .int .i64 m.at_, .bool m.has, .int .i64 m.en.1, .int .i64 m.en.2.1, .int .i64 m.en.2.2.1, .int .i64 m.en.2.2.2.1, .int .i64 m.en.2.2.2.2.1, .int .i64 m.en.2.2.2.2.2, .int .i64 m.last, .slice h.1 h.2.1 h.2.2, .int .i64 m.commit][0]? ∧ ∀ k_1 : Nat, k_1 < 15 → w'.cell? ⟨b, off + k * 15 + k_1, none⟩ = [.int .i64 m.kind, .int .i64 m.fr, .int .i64 m.to, .int .i64 m.view, .int .i64 m.at_, .bool m.has, .int .i64 m.en.1, .int .i64 m.en.2.1, .int .i64 m.en.2.2.1, .int .i64 m.en.2.2.2.1, .int .i64 m.en.2.2.2.2.1, .int .i64 m.en.2.2.2.2.2, .int .i64 m.last, .slice h.1 h.2.1 h.2.2, .int .i64 m.commit][k_1]?))) (by kernel_rfl) ⟨c0, cM⟩ (fun hZq => ?_)
     refine tk 0 hZq ?_;refine tk 2 hZq ?_;refine tk 3 hZq ?_;refine tk 4 hZq ?_;refine tk 5 hZq ?_;refine tk 6 hZq ?_
     refine wpAnyH_ready (rs := [1, 7]) (by kernel_rfl) (by simp) ?_
     refine (AllReadyH.cons rfl (fun KK hKK => ?_) (AllReadyH.cons rfl (fun KK hKK => ?_) AllReadyH.nil))
     ·rw [if_pos (by simp [Region.wanted])]
      unfold Oper.wp execOp
      go_simp
      clear hZq
      refine hKK _ _ ⟨c0, cM⟩ (fun hZq => ?_)
      clear hKK KK
      refine rd1 7 (fun KK hKK => ?_)
      go_simp
      go_at_call 49
      refine (l11Mail_is m h _ y hmk).mono ?_;rintro e v1 ⟨z1, u1, h', rfl, Gz1, hu1, R1, hn1, BB⟩
      have HB1 : Hid (Below wr.drew.heap.size wr.drew v1) := BB
      replace X0 := X0.below BB;replace c0 := X0.cell;replace f0 := X0.froz;replace X1 := X1.below BB;replace c1 := X1.cell;replace f1 := X1.froz;replace X2 := X2.below BB;replace c2 := X2.cell;replace f2 := X2.froz;replace B := below_next B BB;replace XM := XM.below BB;replace cM := XM.cell
      have HR1 : Hid _ := R1
      have HN1 : Hid _ := hn1
      clear BB R1 hn1 y;clear hZq
      refine hKK _ _ ⟨c0, cM⟩ (fun hZq => ?_)
      clear hKK KK
      refine rd1 8 (fun KK hKK => ?_)
      refine step_litX 33 1 _ [.int .i64 m.kind, .int .i64 m.fr, .int .i64 m.to, .int .i64 m.view, .int .i64 m.at_, .bool m.has, .int .i64 m.en.1, .int .i64 m.en.2.1, .int .i64 m.en.2.2.1, .int .i64 m.en.2.2.2.1, .int .i64 m.en.2.2.2.2.1, .int .i64 m.en.2.2.2.2.2, .int .i64 m.last, .slice h'.1 h'.2.1 h'.2.2, .int .i64 m.commit] 96 (fun _ => by kernel_rfl) ?_
      intro bl Wl Nl;have bB := Nl.below;have Xl := Nl.bx;clear Nl
      obtain ⟨M2, w6, hr, BL, hL, X9⟩ := LiveAt.one (P := Tryz.prog) HLd.out (below_next HB1.out bB) lbD 33 i8 _ 136 Tryz.underlying33 HI8.out.1 HI8.out.2.1 HI8.out.2.2.1 HI8.out.2.2.2 rfl (by omega) (m := m) (h := h') Xl (HR1.out.below bB) Gz1 (Nat.le_trans hu1 bB.size) (by have h7 := congrArg List.length HY.out;rw [List.length_map, List.length_take] at h7;omega) (by have := HN1.out;omega)
      replace X0 := X0.below bB;replace c0 := X0.cell;replace f0 := X0.froz;replace X1 := X1.below bB;replace c1 := X1.cell;replace f1 := X1.froz;replace X2 := X2.below bB;replace c2 := X2.cell;replace f2 := X2.froz;replace B := below_next B bB;replace XM := XM.below bB;replace cM := XM.cell
      have HL3 : Hid _ := hL
      have HX9 : Hid _ := X9
      clear bB Xl HR1 HB1 hL X9;clear hZq
      refine hKK _ _ ⟨c0, cM⟩ (fun hZq => ?_)
      clear hKK KK
      refine rd1 9 (fun KK hKK => ?_)
      refine step_append_run rfl _ _ _ _ rfl _ _ rfl rfl _ _ (hr _) ?_;clear hr
      replace X0 := X0.low BL (by omega)
      replace c0 := X0.cell;replace f0 := X0.froz
      replace X1 := X1.low BL (by omega)
      replace c1 := X1.cell;replace f1 := X1.froz;replace X2 := HX9.out;replace c2 := X2.cell;replace f2 := X2.froz
      replace XM := XM.low BL (by omega)
      replace cM := XM.cell
      replace B := B.trans (BL.mono (by omega))
      clear BL;clear hZq
      refine hKK _ _ ⟨c0, cM⟩ (fun hZq => ?_)
      clear hKK KK;refine tk 10 hZq ?_
      refine rd1 11 (fun KK hKK => ?_)
      refine step_oneX 33 X2 1 (.slice M2.1 M2.2.1 M2.2.2) (by simp) (by kernel_rfl) rfl rfl rfl ?_
      intro V9 S
      have HL4 : Hid (LiveAt V9 _ _ _ _ _ _ _ _ _) := HL3.out V9 S
      have HY4 : Hid ((yk ++ [(m, h')]).map (·.1) = ns.take (k + 1)) := by (show _ = _;rw [List.map_append, HY.out, List.take_add_one, HE.out];rfl)
      have B7 := S.kept.below w.heap.size (by omega) B.size
      replace XM := XM.low B7 hbw;replace cM := XM.cell;clear B7;replace X0 := X0.kp S.kept;replace c0 := X0.cell;replace f0 := X0.froz;replace X1 := X1.kp S.kept;replace c1 := X1.cell;replace f1 := X1.froz
      replace X2 : Bx V9 b2 [.slice na' nn nc', .slice M2.1 M2.2.1 M2.2.2, .slice ra Sl.2.1 rc] := S.bx
      replace c2 := X2.cell;replace f2 := X2.froz;replace B := bkp B S.kept;clear S;clear hZq
      refine hKK _ _ ⟨c0, cM⟩ (fun hZq => ?_)
      clear hKK KK
      refine wpAnyH_done (by kernel_rfl) ?_ _
      have H0 : Hid _ := X0
      have H1 : Hid _ := X1
      have H2 : Hid _ := X2
      have HB2 : Hid _ := B
      have hl3 : b1 + 1 ≤ V9.heap.size := H1.out.lt
      clear B HE XM cM X0 c0 f0 X1 c1 f1 X2 c2 f2;go_wp2
      go_roundw
      case rel => exact ⟨k + 1, M2, _, by omega, by go_num, H0.out, H1.out, H2.out, HL4.out, HY4.out, hl3, HB2.out⟩
      case measure => simp [intOf];omega
     ·go_simp
      go_at_call 49
      refine (l11Mail_is m h _ y hmk).mono ?_;rintro e v1 ⟨z1, u1, h', rfl, Gz1, hu1, R1, hn1, BB⟩
      have HB1 : Hid (Below wr.drew.heap.size wr.drew v1) := BB
      replace X0 := X0.below BB;replace c0 := X0.cell;replace f0 := X0.froz;replace X1 := X1.below BB;replace c1 := X1.cell;replace f1 := X1.froz;replace X2 := X2.below BB;replace c2 := X2.cell;replace f2 := X2.froz;replace B := below_next B BB;replace XM := XM.below BB;replace cM := XM.cell
      have HR1 : Hid _ := R1
      have HN1 : Hid _ := hn1
      clear BB R1 hn1 y;clear hZq
      refine hKK _ _ ⟨c0, cM⟩ (fun hZq => ?_)
      clear hKK KK
      refine wpAnyH_ready (rs := [1, 8]) (by kernel_rfl) (by simp) ?_
      refine (AllReadyH.cons rfl (fun KK hKK => ?_) (AllReadyH.cons rfl (fun KK hKK => ?_) AllReadyH.nil))
      ·rw [if_pos (by simp [Region.wanted])]
       unfold Oper.wp execOp
       go_simp
       clear hZq
       refine hKK _ _ ⟨c0, cM⟩ (fun hZq => ?_)
       clear hKK KK
       refine rd1 8 (fun KK hKK => ?_)
       refine step_litX 33 1 _ [.int .i64 m.kind, .int .i64 m.fr, .int .i64 m.to, .int .i64 m.view, .int .i64 m.at_, .bool m.has, .int .i64 m.en.1, .int .i64 m.en.2.1, .int .i64 m.en.2.2.1, .int .i64 m.en.2.2.2.1, .int .i64 m.en.2.2.2.2.1, .int .i64 m.en.2.2.2.2.2, .int .i64 m.last, .slice h'.1 h'.2.1 h'.2.2, .int .i64 m.commit] 96 (fun _ => by kernel_rfl) ?_
       intro bl Wl Nl;have bB := Nl.below;have Xl := Nl.bx;clear Nl
       obtain ⟨M2, w6, hr, BL, hL, X9⟩ := LiveAt.one (P := Tryz.prog) HLd.out (below_next HB1.out bB) lbD 33 i8 _ 136 Tryz.underlying33 HI8.out.1 HI8.out.2.1 HI8.out.2.2.1 HI8.out.2.2.2 rfl (by omega) (m := m) (h := h') Xl (HR1.out.below bB) Gz1 (Nat.le_trans hu1 bB.size) (by have h7 := congrArg List.length HY.out;rw [List.length_map, List.length_take] at h7;omega) (by have := HN1.out;omega)
       replace X0 := X0.below bB;replace c0 := X0.cell;replace f0 := X0.froz;replace X1 := X1.below bB;replace c1 := X1.cell;replace f1 := X1.froz;replace X2 := X2.below bB;replace c2 := X2.cell;replace f2 := X2.froz;replace B := below_next B bB;replace XM := XM.below bB;replace cM := XM.cell
       have HL3 : Hid _ := hL
       have HX9 : Hid _ := X9
       clear bB Xl HR1 HB1 hL X9;clear hZq
       refine hKK _ _ ⟨c0, cM⟩ (fun hZq => ?_)
       clear hKK KK
       refine rd1 9 (fun KK hKK => ?_)
       refine step_append_run rfl _ _ _ _ rfl _ _ rfl rfl _ _ (hr _) ?_;clear hr
       replace X0 := X0.low BL (by omega)
       replace c0 := X0.cell;replace f0 := X0.froz
       replace X1 := X1.low BL (by omega)
       replace c1 := X1.cell;replace f1 := X1.froz;replace X2 := HX9.out;replace c2 := X2.cell;replace f2 := X2.froz
       replace XM := XM.low BL (by omega)
       replace cM := XM.cell
       replace B := B.trans (BL.mono (by omega))
       clear BL;clear hZq
       refine hKK _ _ ⟨c0, cM⟩ (fun hZq => ?_)
       clear hKK KK;refine tk 10 hZq ?_
       refine rd1 11 (fun KK hKK => ?_)
       refine step_oneX 33 X2 1 (.slice M2.1 M2.2.1 M2.2.2) (by simp) (by kernel_rfl) rfl rfl rfl ?_
       intro V9 S
       have HL4 : Hid (LiveAt V9 _ _ _ _ _ _ _ _ _) := HL3.out V9 S
       have HY4 : Hid ((yk ++ [(m, h')]).map (·.1) = ns.take (k + 1)) := by (show _ = _;rw [List.map_append, HY.out, List.take_add_one, HE.out];rfl)
       have B7 := S.kept.below w.heap.size (by omega) B.size
       replace XM := XM.low B7 hbw;replace cM := XM.cell;clear B7;replace X0 := X0.kp S.kept;replace c0 := X0.cell;replace f0 := X0.froz;replace X1 := X1.kp S.kept;replace c1 := X1.cell;replace f1 := X1.froz
       replace X2 : Bx V9 b2 [.slice na' nn nc', .slice M2.1 M2.2.1 M2.2.2, .slice ra Sl.2.1 rc] := S.bx
       replace c2 := X2.cell;replace f2 := X2.froz;replace B := bkp B S.kept;clear S;clear hZq
       refine hKK _ _ ⟨c0, cM⟩ (fun hZq => ?_)
       clear hKK KK
       refine wpAnyH_done (by kernel_rfl) ?_ _
       have H0 : Hid _ := X0
       have H1 : Hid _ := X1
       have H2 : Hid _ := X2
       have HB2 : Hid _ := B
       have hl3 : b1 + 1 ≤ V9.heap.size := H1.out.lt
       clear B HE XM cM X0 c0 f0 X1 c1 f1 X2 c2 f2;go_wp2
       go_roundw
       case rel => exact ⟨k + 1, M2, _, by omega, by go_num, H0.out, H1.out, H2.out, HL4.out, HY4.out, hl3, HB2.out⟩
       case measure => simp [intOf];omega
      ·refine step_litX 33 1 _ [.int .i64 m.kind, .int .i64 m.fr, .int .i64 m.to, .int .i64 m.view, .int .i64 m.at_, .bool m.has, .int .i64 m.en.1, .int .i64 m.en.2.1, .int .i64 m.en.2.2.1, .int .i64 m.en.2.2.2.1, .int .i64 m.en.2.2.2.2.1, .int .i64 m.en.2.2.2.2.2, .int .i64 m.last, .slice h'.1 h'.2.1 h'.2.2, .int .i64 m.commit] 96 (fun _ => by kernel_rfl) ?_
       intro bl Wl Nl;have bB := Nl.below;have Xl := Nl.bx;clear Nl
       obtain ⟨M2, w6, hr, BL, hL, X9⟩ := LiveAt.one (P := Tryz.prog) HLd.out (below_next HB1.out bB) lbD 33 i8 _ 136 Tryz.underlying33 HI8.out.1 HI8.out.2.1 HI8.out.2.2.1 HI8.out.2.2.2 rfl (by omega) (m := m) (h := h') Xl (HR1.out.below bB) Gz1 (Nat.le_trans hu1 bB.size) (by have h7 := congrArg List.length HY.out;rw [List.length_map, List.length_take] at h7;omega) (by have := HN1.out;omega)
       replace X0 := X0.below bB;replace c0 := X0.cell;replace f0 := X0.froz;replace X1 := X1.below bB;replace c1 := X1.cell;replace f1 := X1.froz;replace X2 := X2.below bB;replace c2 := X2.cell;replace f2 := X2.froz;replace B := below_next B bB;replace XM := XM.below bB;replace cM := XM.cell
       have HL3 : Hid _ := hL
       have HX9 : Hid _ := X9
       clear bB Xl HR1 HB1 hL X9;clear hZq
       refine hKK _ _ ⟨c0, cM⟩ (fun hZq => ?_)
       clear hKK KK
       refine rd1 1 (fun KK hKK => ?_)
       rw [if_pos (by simp [Region.wanted])]
       unfold Oper.wp execOp
       go_simp
       clear hZq
       refine hKK _ _ ⟨c0, cM⟩ (fun hZq => ?_)
       clear hKK KK
       refine rd1 9 (fun KK hKK => ?_)
       refine step_append_run rfl _ _ _ _ rfl _ _ rfl rfl _ _ (hr _) ?_;clear hr
       replace X0 := X0.low BL (by omega)
       replace c0 := X0.cell;replace f0 := X0.froz
       replace X1 := X1.low BL (by omega)
       replace c1 := X1.cell;replace f1 := X1.froz;replace X2 := HX9.out;replace c2 := X2.cell;replace f2 := X2.froz
       replace XM := XM.low BL (by omega)
       replace cM := XM.cell
       replace B := B.trans (BL.mono (by omega))
       clear BL;clear hZq
       refine hKK _ _ ⟨c0, cM⟩ (fun hZq => ?_)
       clear hKK KK;refine tk 10 hZq ?_
       refine rd1 11 (fun KK hKK => ?_)
       refine step_oneX 33 X2 1 (.slice M2.1 M2.2.1 M2.2.2) (by simp) (by kernel_rfl) rfl rfl rfl ?_
       intro V9 S
       have HL4 : Hid (LiveAt V9 _ _ _ _ _ _ _ _ _) := HL3.out V9 S
       have HY4 : Hid ((yk ++ [(m, h')]).map (·.1) = ns.take (k + 1)) := by (show _ = _;rw [List.map_append, HY.out, List.take_add_one, HE.out];rfl)
       have B7 := S.kept.below w.heap.size (by omega) B.size
       replace XM := XM.low B7 hbw;replace cM := XM.cell;clear B7;replace X0 := X0.kp S.kept;replace c0 := X0.cell;replace f0 := X0.froz;replace X1 := X1.kp S.kept;replace c1 := X1.cell;replace f1 := X1.froz
       replace X2 : Bx V9 b2 [.slice na' nn nc', .slice M2.1 M2.2.1 M2.2.2, .slice ra Sl.2.1 rc] := S.bx
       replace c2 := X2.cell;replace f2 := X2.froz;replace B := bkp B S.kept;clear S;clear hZq
       refine hKK _ _ ⟨c0, cM⟩ (fun hZq => ?_)
       clear hKK KK
       refine wpAnyH_done (by kernel_rfl) ?_ _
       have H0 : Hid _ := X0
       have H1 : Hid _ := X1
       have H2 : Hid _ := X2
       have HB2 : Hid _ := B
       have hl3 : b1 + 1 ≤ V9.heap.size := H1.out.lt
       clear B HE XM cM X0 c0 f0 X1 c1 f1 X2 c2 f2;go_wp2
       go_roundw
       case rel => exact ⟨k + 1, M2, _, by omega, by go_num, H0.out, H1.out, H2.out, HL4.out, HY4.out, hl3, HB2.out⟩
       case measure => simp [intOf];omega
    ·obtain rfl : mn = k := by omega
     go_wp2_with (first | ((with_reducible refine sm 36 X1 0 [.slice na' nn nc', .slice M'.1 M'.2.1 M'.2.2, .slice ra Sl.2.1 rc] ?_);intro V2 S;replace X0 := X0.kp S.kept;replace c0 := X0.cell;replace f0 := X0.froz;replace X1 : Bx V2 b1 [.slice na' nn nc', .slice M'.1 M'.2.1 M'.2.2, .slice ra Sl.2.1 rc] := S.bx;replace c1 := X1.cell;replace f1 := X1.froz;replace X2 := X2.kp S.kept;replace c2 := X2.cell;replace f2 := X2.froz;replace B := bkp B S.kept;have hk2 := S.kept;clear S))
     refine bodyPost_ret (v := .agg #[.slice na' nn nc', .slice M'.1 M'.2.1 M'.2.2, .slice ra Sl.2.1 rc]) (by simp [results, Tryz.results48, go_sem, *]) rfl ?_
     have hml2 : ns.length = mn := by (have h6 := HML.out;rw [← HNS.out, List.length_map];exact h6)
     refine ⟨(na', nn, nc'), M', (ra, Sl.2.1, rc), ys, yk, b2, rfl, (HL.out.keptL hk2 (Nat.le_refl _)).lower (by omega), HE6.out, ?_, B⟩
     rw [HY.out, List.take_of_length_le (by omega)]
end Go.Proofs.YtclghfoinologaaGreat
