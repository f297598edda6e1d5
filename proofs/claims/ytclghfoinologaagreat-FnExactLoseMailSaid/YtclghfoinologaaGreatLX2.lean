/- Chapter 11: LoseMail of the model. -/
import Derived.Test.YtclghfoinologaaGreatQBB
import Derived.Test.YtclghfoinologaaGreatQBJ
set_option maxRecDepth 20000
set_option maxHeartbeats 16000000
namespace Go.Proofs.YtclghfoinologaaGreat
open Go.RowKit
theorem step_lit0 {P : Program} {ops : Array Oper} {dst : Option Tmp} {type : TypeId} {pos : String} {after : Array Edge} {a : Act} {w : World} {K : Act → World → Prop} {Q : Exit → Act → World → Prop} {E : Prop} (t T : TypeId) (hb : ∀ w : World, (Instr.buildSlice t 0 #[]).run P w = .ok (.slice (some ⟨w.heap.size, 0, none⟩) 0 0) (w.alloc (.cells #[] T)))
  (h : ∀ (b : Nat) (W : World), w.heap.size ≤ b → W.heap[b]? = some (.cells #[] T (0, 0)) → Below w.heap.size w W → K (a.put dst (.slice (some ⟨b, 0, none⟩) 0 0)) W) : if Region.wanted ⟨dst, .buildSlice t 0 #[], type, pos, after, none⟩ (yielded ops a.tmps) = true then Oper.wp P ⟨dst, .buildSlice t 0 #[], type, pos, after, none⟩ a w K Q else E := by
 have hw : Region.wanted ⟨dst, .buildSlice t 0 #[], type, pos, after, none⟩ (yielded ops a.tmps) = true := by simp [Region.wanted]
 rw [if_pos hw]
 have hK2 := h w.heap.size (w.alloc (.cells #[] T)) (Nat.le_refl _) (by show (w.heap.push _)[w.heap.size]? = some _;exact Array.getElem?_push_size) ((Below.refl _ _).alloc (Nat.le_refl _) _)
 have hb' : (Instr.buildSlice t 0 (Array.map (fun x : Nat × Operand => (x.fst, a.eval x.snd)) #[])).run P w = .ok (.slice (some ⟨w.heap.size, 0, none⟩) 0 0) (w.alloc (.cells #[] T)) := by rw [Array.map_empty];exact hb w
 unfold Oper.wp execOp;simp only [Sem.run_bind, Sem.run_pure, Result.andThen_ok, hb'];exact hK2
theorem ro_row {w : World} {lo hi size : Nat} {ao : Option Addr} {n cap : Nat} {cs : List Value} (R : RowAt w true lo hi size ao n cap cs) : RowAt w false lo hi size ao n cap cs :=
 ⟨R.len, R.le, fun h => let ⟨b, off, e, g1, g2, g3, g4, _⟩ := R.cells h;⟨b, off, e, g1, g2, g3, g4, fun z => by cases z⟩⟩
theorem own_app {P : Program} {w : World} {base : Nat} {T : TypeId} {sz n : Nat} {v : Value} {xs : List Value} (h : w.ownsRow base T sz v n xs) (hsz : 0 < sz) (t : TypeId) (i0 : TypeInfo) (z : Value) (bytes : Nat) (ht : P.underlying t = some (.slice T)) (hi0 : P.info? T = some i0) (hz0 : i0.zero = some z) (hz1 : i0.size = sz) (hz2 : i0.bytes = bytes) (hzs : z.cells.size = sz) (hby : bytes ≤ 1000)
  {ow : Bool} {l u : Nat} (ad : Addr) (m c : Nat) (cs : List Value) (hrow : RowAt w ow l u sz (some ad) m c cs) (h1 : ∀ u ∈ cs, u.oneCell' = true) (hn : n + m ≤ 1000000) (hbase : base ≤ w.heap.size) :
  ∃ v' w', (∀ ty, (Builtin.append_ #[t, t] ty #[v, .slice (some ad) m c]).run P w = .ok v' w') ∧ w'.ownsRow base T sz v' (n + m) (xs ++ cs) ∧ Below base w w' := by
 have hsrc : ∀ j u, cs[j]? = some u → w.cell? (ad.add j) = some u := fun j u hj => by
  have hjl : j < cs.length := (List.getElem?_eq_some_iff.1 hj).1
  have hl := hrow.len
  obtain ⟨b, off, e, _, _, _, hc, _⟩ := hrow.cells (by intro q;subst q;omega)
  have e2 : ad = ⟨b, off, none⟩ := Option.some.inj e
  rw [e2]
  have := hc j (by omega)
  rw [List.getD_eq_getElem?_getD, hj, Option.getD_some] at this;rw [Addr.add_lit];exact this
 have hby2 : (n + m) * bytes ≤ 140737488355328 := Nat.le_trans (Nat.mul_le_mul hn hby) (by decide)
 have A := fun ty => run_append_own_at (P := P) w base t ty T i0 z sz bytes ht hi0 hz0 hz1 hz2 hzs hsz v n _ h ad m c cs hrow.len hsrc h1 (by unfold maxLen;omega) hby2 hbase
 obtain ⟨v', w', hr, ho, hg, _, hat⟩ := A T
 exact ⟨v', w', fun ty => by
  have : ∀ ty, Builtin.append_ #[t, t] ty #[v, .slice (some ad) m c] = Builtin.append_ #[t, t] T #[v, .slice (some ad) m c] := fun _ => rfl
  rw [this];exact hr, ho, (Below.refl base w).grown hg hbase (fun g hg' => (h.lt g hg').1)⟩
theorem own_none {w : World} {b : Nat} {T : TypeId} {sz : Nat} (h : w.heap[b]? = some (.cells #[] T (0, 0))) (base : Nat) (hb : base ≤ b) : w.ownsRow base T sz (.slice (some ⟨b, 0, none⟩) 0 0) 0 [] :=
 ⟨by simp, Or.inr ⟨b, 0, #[], rfl, hb, h, Nat.le_refl _, Nat.zero_le _, by simp, by simp⟩⟩
theorem RowAt.subK {w : World} {own : Bool} {lo hi size b off n cap : Nat} {cs : List Value} (h : RowAt w own lo hi size (some ⟨b, off, none⟩) n cap cs) (_ : 0 < size) {i j : Nat} (hij : i ≤ j) (hj : j ≤ n) : RowAt w own lo hi size (some ⟨b, off + i * size, none⟩) (j - i) (cap - i) ((cs.drop (i * size)).take ((j - i) * size)) := by
 have hl := h.len;have hle := h.le
 have e1 : (j - i) * size + i * size = j * size := by rw [← Nat.add_mul];congr 1;omega
 have e2 : j * size ≤ n * size := Nat.mul_le_mul_right _ hj
 refine ⟨by rw [List.length_take, List.length_drop];omega, by omega, fun hn => ?_⟩
 obtain ⟨b', off', e, g1, g2, g3, g4, g5⟩ := h.cells (by omega)
 simp only [Option.some.injEq, Addr.mk.injEq, and_true] at e
 obtain ⟨rfl, rfl⟩ := e
 refine ⟨_, _, rfl, g1, g2, g3, fun q hq => ?_, fun ho q hq => ?_⟩
 ·rw [Nat.add_assoc, g4 _ (by omega), List.getD_eq_getElem?_getD, List.getD_eq_getElem?_getD, List.getElem?_take_of_lt hq, List.getElem?_drop]
 ·rw [Nat.add_assoc];exact g5 ho _ (by omega)
theorem l11Without_is {own : Bool} {lo hi : Nat} (N M Sl : Hd) (xs : List Nod) (ms : List Mal) (es : List En) (m : Nat) (w : World) (x : ClAt w own lo hi N M Sl xs ms es) (hs : ClSz N M Sl xs ms 1048576) (h5 : N.2.1 ≤ 5) (h120 : M.2.1 ≤ 120) (hd : ∀ (i : Nat) (a : Nod), xs[i]? = some a → a.2.D.2.1 ≤ 1000) (hm : m < M.2.1) :
  Calls Tryz.prog 39 #[.agg #[.slice N.1 N.2.1 N.2.2, .slice M.1 M.2.1 M.2.2, .slice Sl.1 Sl.2.1 Sl.2.2], .int .i64 (m : Int)] w fun e w' => ∃ (N' M' S' : Hd) (xa : List Nod) (ya : List Mal), e = .returned (.agg #[.slice N'.1 N'.2.1 N'.2.2, .slice M'.1 M'.2.1 M'.2.2, .slice S'.1 S'.2.1 S'.2.2]) ∧ ClAt w' false w.heap.size w'.heap.size N' M' S' xa ya es ∧ ClSz N' M' S' xa ya 1048576 ∧ xa.map (·.1) = xs.map (·.1) ∧ ya.map (·.1) = (ms.map (·.1)).eraseIdx m ∧ Below w.heap.size w w' := by
 obtain ⟨j0, hj0, hy0, hy1, hy2⟩ := info_parts Tryz.infMail
 go_enter Tryz.func39, Tryz.ntmps39
 go_wp2_with (first | ((have g := ob0);clear g;(with_reducible refine al 36 [.slice none 0 0, .slice none 0 0, .slice none 0 0] ?_);intro b1 W1 N1;have ob1 := N1.o B;have o0_b1 := N1.u X0;replace X0 := N1.r X0;replace c0 := X0.cell;replace f0 := X0.froz;replace B := N1.n B;obtain ⟨X1, c1, f1⟩ := N1.a;clear N1) | ((with_reducible refine box_newX 36 [.slice N.1 N.2.1 N.2.2, .slice M.1 M.2.1 M.2.2, .slice Sl.1 Sl.2.1 Sl.2.2] rfl ?_);intro b0 W0 N0;have ob0 := N0.ge;have B := N0.below;obtain ⟨X0, c0, f0⟩ := N0.a;clear N0) | fail)
 refine (l11Copy_is N M Sl xs ms es _ (x.below B) hs h5 h120 hd).mono ?_;rintro e w1 ⟨N', M2, S', xa, ya, bx, rfl, L, e1, e2, BB⟩;obtain ⟨base, hbase⟩ : ∃ z, z = W1.heap.size := ⟨_, rfl⟩;rw [← hbase] at L
 have lb1 : b1 < base := by rw [hbase];exact X1.lt
 have lwb : w.heap.size ≤ base := by rw [hbase];exact B.size
 have hb2 : base ≤ w1.heap.size := by rw [hbase];exact BB.size
 clear hbase;replace X0 := X0.below BB;replace c0 := X0.cell;replace f0 := X0.froz;replace X1 := X1.below BB;replace c1 := X1.cell;replace f1 := X1.froz;replace B := below_next B BB;clear BB
 have HL : Hid _ := L
 have HE1 : Hid _ := e1
 have HE2 : Hid _ := e2
 clear L e1 e2
 obtain ⟨ma, mn, mc⟩ := M2
 dsimp only
 have hlm0 : Hid (mn = M.2.1) := by
  show _ = _
  have a1 : ya.length = mn := HL.out.mails.gr.len
  have a2 := LAt.len x.mails
  have := congrArg List.length HE2.out
  simp only [List.length_map] at this;omega
 have hmn : m < mn := by (have := hlm0.out;omega)
 have hn1 : mn ≤ 120 := by (have := hlm0.out;omega)
 have R0 : RowAt w1 true base w1.heap.size 15 ma mn mc (ya.flatMap mailK.cells) := HL.out.mails.at.row
 have hcap := R0.le
 obtain ⟨gm, om, rfl, -⟩ : ∃ gm om, ma = some ⟨gm, om, none⟩ ∧ True := by
  obtain ⟨b, off, e, _⟩ := R0.cells (by omega)
  exact ⟨b, off, e, trivial⟩
 have HR0 : Hid _ := R0
 clear R0
 have BW : Below w1.heap.size w1 w1 := Below.refl _ _
 have hmi : (m : Int) ≤ (mc : Int) := by omega
 have hmi2 : (m : Int) + 1 ≤ (mn : Int) := by omega
 have hmi3 : (mn : Int) ≤ (mc : Int) := by omega
 have hx0 := X0.lt;have hx1 := X1.lt
 skip
 go_upto_region 2 with (first | ((with_reducible refine sm 36 X2 0 [.slice N'.1 N'.2.1 N'.2.2, .slice (some ⟨gm, om, none⟩) mn mc, .slice S'.1 S'.2.1 S'.2.2] ?_);intro V1 S;replace X0 := X0.kp S.kept;replace c0 := X0.cell;replace f0 := X0.froz;replace X1 := X1.kp S.kept;replace c1 := X1.cell;replace f1 := X1.froz;replace X2 : Bx V1 b2 [.slice N'.1 N'.2.1 N'.2.2, .slice (some ⟨gm, om, none⟩) mn mc, .slice S'.1 S'.2.1 S'.2.2] := S.bx;replace c2 := X2.cell;replace f2 := X2.froz;replace B := bkp B S.kept;replace BW := BW.trans (S.kept.below _ (by omega) BW.size);clear S) | ((have g := ob1);clear g;(with_reducible refine al 36 [.slice none 0 0, .slice none 0 0, .slice none 0 0] ?_);intro b2 W2 N2;have ob2 := N2.o B;have o0_b2 := N2.u X0;have o1_b2 := N2.u X1;have BW_b2 := Nat.le_trans BW.size N2.ge;replace X0 := N2.r X0;replace c0 := X0.cell;replace f0 := X0.froz;replace X1 := N2.r X1;replace c1 := X1.cell;replace f1 := X1.froz;replace B := N2.n B;replace BW := below_next BW N2.below;obtain ⟨X2, c2, f2⟩ := N2.a;clear N2) | fail)
 go_wp2_with fail
 have ob2' : w1.heap.size ≤ b2 := by assumption
 have DQ : Below V1.heap.size V1 V1.drew := (Below.refl _ _).drew
 replace X0 := X0.below DQ;replace c0 := X0.cell;replace f0 := X0.froz;replace X1 := X1.below DQ;replace c1 := X1.cell;replace f1 := X1.froz;replace X2 := X2.below DQ;replace c2 := X2.cell;replace f2 := X2.froz;replace B := below_next B DQ;replace BW := below_next BW DQ;clear DQ;obtain ⟨zz, hzz⟩ : ∃ zz, zz = V1.drew.heap.size := ⟨_, rfl⟩
 have lz0 : b0 < zz := by rw [hzz];exact X0.lt
 have lz1 : b1 < zz := by rw [hzz];exact X1.lt
 have lz2 : b2 < zz := by rw [hzz];exact X2.lt
 have lzw : w.heap.size ≤ zz := by rw [hzz];exact B.size
 have lz1w : w1.heap.size ≤ zz := by rw [hzz];exact BW.size
 have LZ : zz ≤ V1.drew.heap.size := Nat.le_of_eq hzz
 clear hzz;have c0 := c0
 go_cut [] (fun wx => ∃ (sa : Option Addr) (sc : Nat), Bx wx b1 [.slice none 0 0, .slice none 0 0, .slice none 0 0] ∧ Bx wx b2 [.slice N'.1 N'.2.1 N'.2.2, .slice sa (mn - 1) sc, .slice S'.1 S'.2.1 S'.2.2] ∧ RowAt wx true zz wx.heap.size 15 sa (mn - 1) sc ((ya.flatMap mailK.cells).take (m * 15) ++ (ya.flatMap mailK.cells).drop ((m + 1) * 15)) ∧ zz ≤ wx.heap.size ∧ Below w1.heap.size w1 wx ∧ Below w.heap.size w wx)
 case first =>
  have HDL : Hid (((ya.flatMap mailK.cells).drop ((m + 1) * 15)).length = (mn - (m + 1)) * 15) := by
   show _ = _
   have := HR0.out.len
   rw [List.length_drop, this];omega
  have hw1 : (m : Int) ≤ (m : Int) + 1 := by omega
  have hw4 : (0 : Int) ≤ (m : Int) + 1 := by omega
  have hw5 : ¬ (m : Int) = (m : Int) + 1 := by omega
  have ht1 : ((m : Int) + 1).toNat = m + 1 := by omega
  have hnm : ¬ mn = m := by omega
  have hcm : ¬ mc = m := by omega
  have hw6 : IntKind.i64.wrap ((m : Int) + 1) = (m : Int) + 1 := wrapI_same _ (by omega)
  by_cases hcc : mc = m + 1
  ·have hmm : mn = m + 1 := by omega
   have hcz : mc - (m + 1) = 0 := by omega
   have hnz : mn - (m + 1) = 0 := by omega
   have hcc' : (mc : Int) = (m : Int) + 1 := by omega
   refine wp_region_held_drew (S := (fun _ => True)) (by kernel_rfl) trivial (fun hZq => ?_)
   refine tk 1 hZq ?_;refine tk 3 hZq ?_;refine tk 6 hZq ?_;refine tk 8 hZq ?_;refine tk 9 hZq ?_
   refine wpAnyH_ready (rs := [0, 2, 7]) (by kernel_rfl) (by simp) ?_
   refine (AllReadyH.cons rfl (fun KK hKK => ?_) (AllReadyH.cons rfl (fun KK hKK => ?_) (AllReadyH.cons rfl (fun KK hKK => ?_) AllReadyH.nil)))
   ·refine step_lit0 33 96 (fun _ => by kernel_rfl) ?_
    intro bl Wl hge hcl BBl
    have HO : Hid (Wl.ownsRow zz 96 15 (.slice (some ⟨bl, 0, none⟩) 0 0) 0 []) := own_none hcl zz (Nat.le_trans LZ hge)
    replace X0 := X0.below BBl;replace c0 := X0.cell;replace f0 := X0.froz;replace X1 := X1.below BBl;replace c1 := X1.cell;replace f1 := X1.froz;replace X2 := X2.below BBl;replace c2 := X2.cell;replace f2 := X2.froz;replace LZ := Nat.le_trans LZ BBl.size;replace B := below_next B BBl;replace BW := below_next BW BBl;clear BBl hcl hge;clear hZq
    refine hKK _ _ trivial (fun hZq => ?_)
    clear hKK KK
    refine wpAnyH_ready (rs := [2, 7]) (by kernel_rfl) (by simp) ?_
    refine (AllReadyH.cons rfl (fun KK hKK => ?_) (AllReadyH.cons rfl (fun KK hKK => ?_) AllReadyH.nil))
    ·rw [if_pos (by simp [Region.wanted])]
     unfold Oper.wp execOp
     go_simp
     clear hZq
     refine hKK _ _ trivial (fun hZq => ?_)
     clear hKK KK;refine tk 4 hZq ?_
     refine wpAnyH_ready (rs := [5, 7]) (by kernel_rfl) (by simp) ?_
     refine (AllReadyH.cons rfl (fun KK hKK => ?_) (AllReadyH.cons rfl (fun KK hKK => ?_) AllReadyH.nil))
     ·obtain ⟨v1, w5, hr1, O1, BL⟩ := own_app HO.out (by decide) 33 j0 (.agg #[.int .i64 0, .int .i64 0, .int .i64 0, .int .i64 0, .int .i64 0, .bool false, .int .i64 0, .int .i64 0, .int .i64 0, .int .i64 0, .int .i64 0, .int .i64 0, .int .i64 0, .slice none 0 0, .int .i64 0]) 136 Tryz.underlying33 hj0 hy0 hy1 hy2 rfl (by omega) ⟨gm, om, none⟩ m mc _ ((HR0.out.below BW).pre (by omega)) (fun u hu => mail_one ya u (List.mem_of_mem_take hu)) (by omega) LZ
      refine step_append_run rfl _ _ _ _ rfl _ _ rfl rfl _ _ (hr1 33) ?_
      have HO1 : Hid _ := O1
      clear hr1 O1;replace X0 := X0.low BL lz0;replace c0 := X0.cell;replace f0 := X0.froz;replace X1 := X1.low BL lz1;replace c1 := X1.cell;replace f1 := X1.froz;replace X2 := X2.low BL lz2;replace c2 := X2.cell;replace f2 := X2.froz;replace LZ := Nat.le_trans LZ BL.size;replace BW := BW.trans (BL.mono lz1w);replace B := B.trans (BL.mono lzw);clear BL;clear hZq
      refine hKK _ _ trivial (fun hZq => ?_)
      clear hKK KK
      refine rd1 7 (fun KK hKK => ?_)
      rw [if_pos (by simp [Region.wanted])]
      unfold Oper.wp execOp
      go_simp
      clear hZq
      refine hKK _ _ trivial (fun hZq => ?_)
      clear hKK KK;refine tk 10 hZq ?_
      refine rd1 11 (fun KK hKK => ?_)
      have R2 : RowAt w1 true base w1.heap.size 15 (some ⟨gm, om, none⟩) 0 0 ((ya.flatMap mailK.cells).drop ((m + 1) * 15)) := ⟨by rw [HDL.out];omega, Nat.le_refl _, fun h => absurd rfl h⟩
      have hk0 : mn - 1 = 0 + m + 0 := by omega
      obtain ⟨v2, w6, hr2, O2, BL⟩ := own_app HO1.out (by decide) 33 j0 (.agg #[.int .i64 0, .int .i64 0, .int .i64 0, .int .i64 0, .int .i64 0, .bool false, .int .i64 0, .int .i64 0, .int .i64 0, .int .i64 0, .int .i64 0, .int .i64 0, .int .i64 0, .slice none 0 0, .int .i64 0]) 136 Tryz.underlying33 hj0 hy0 hy1 hy2 rfl (by omega) ⟨gm, om, none⟩ 0 0 _ (R2.below BW) (fun u hu => mail_one ya u (List.mem_of_mem_drop hu)) (by omega) LZ
      rw [List.nil_append, ← hk0] at O2;refine step_append_run rfl _ _ _ _ rfl _ _ rfl rfl _ _ (hr2 33) ?_
      have HO2 : Hid _ := O2
      clear hr2 O2 R2;replace X0 := X0.low BL lz0;replace c0 := X0.cell;replace f0 := X0.froz;replace X1 := X1.low BL lz1;replace c1 := X1.cell;replace f1 := X1.froz;replace X2 := X2.low BL lz2;replace c2 := X2.cell;replace f2 := X2.froz;replace LZ := Nat.le_trans LZ BL.size;replace BW := BW.trans (BL.mono lz1w);replace B := B.trans (BL.mono lzw);clear BL;clear hZq
      refine hKK _ _ trivial (fun hZq => ?_)
      clear hKK KK;refine tk 12 hZq ?_
      refine rd1 13 (fun KK hKK => ?_)
      obtain ⟨sa, sc, hv2, R2, _⟩ := owns_slice HO2.out
      subst hv2
      have HR2 : Hid _ := R2
      clear R2
      refine step_oneX 33 X2 1 (.slice sa (mn - 1) sc) (by simp) (by kernel_rfl) rfl rfl rfl ?_
      intro V7 S
      have R7 := (HR2.out.kept S.kept (by omega)).widen (Nat.le_refl _) S.kept.size
      have HR7 : Hid _ := R7
      clear R7;replace X0 := X0.kp S.kept;replace c0 := X0.cell;replace f0 := X0.froz;replace X1 := X1.kp S.kept;replace c1 := X1.cell;replace f1 := X1.froz
      replace X2 : Bx V7 b2 [.slice N'.1 N'.2.1 N'.2.2, .slice sa (mn - 1) sc, .slice S'.1 S'.2.1 S'.2.2] := S.bx
      replace c2 := X2.cell;replace f2 := X2.froz;replace LZ := Nat.le_trans LZ S.kept.size;replace B := bkp B S.kept
      replace BW := BW.trans (S.kept.below _ (by omega) BW.size)
      clear S;clear hZq
      refine hKK _ _ trivial (fun hZq => ?_)
      clear hKK KK
      refine wpAnyH_done (by kernel_rfl) ?_ _
      have H1 : Hid _ := X1
      have H2 : Hid _ := X2
      have HLZ : Hid _ := LZ
      have HBW : Hid _ := BW
      have HBB : Hid _ := B
      clear X0 X1 X2 c0 f0 c1 f1 c2 f2 LZ BW B;go_wp2_with fail
      go_meet
      exact ⟨sa, sc, H1.out, H2.out, HR7.out, HLZ.out, HBW.out, HBB.out⟩
     ·rw [if_pos (by simp [Region.wanted])]
      unfold Oper.wp execOp
      go_simp
      clear hZq
      refine hKK _ _ trivial (fun hZq => ?_)
      clear hKK KK;refine tk 10 hZq ?_
      refine rd1 5 (fun KK hKK => ?_)
      obtain ⟨v1, w5, hr1, O1, BL⟩ := own_app HO.out (by decide) 33 j0 (.agg #[.int .i64 0, .int .i64 0, .int .i64 0, .int .i64 0, .int .i64 0, .bool false, .int .i64 0, .int .i64 0, .int .i64 0, .int .i64 0, .int .i64 0, .int .i64 0, .int .i64 0, .slice none 0 0, .int .i64 0]) 136 Tryz.underlying33 hj0 hy0 hy1 hy2 rfl (by omega) ⟨gm, om, none⟩ m mc _ ((HR0.out.below BW).pre (by omega)) (fun u hu => mail_one ya u (List.mem_of_mem_take hu)) (by omega) LZ
      refine step_append_run rfl _ _ _ _ rfl _ _ rfl rfl _ _ (hr1 33) ?_
      have HO1 : Hid _ := O1
      clear hr1 O1;replace X0 := X0.low BL lz0;replace c0 := X0.cell;replace f0 := X0.froz;replace X1 := X1.low BL lz1;replace c1 := X1.cell;replace f1 := X1.froz;replace X2 := X2.low BL lz2;replace c2 := X2.cell;replace f2 := X2.froz;replace LZ := Nat.le_trans LZ BL.size;replace BW := BW.trans (BL.mono lz1w);replace B := B.trans (BL.mono lzw);clear BL;clear hZq
      refine hKK _ _ trivial (fun hZq => ?_)
      clear hKK KK
      refine rd1 11 (fun KK hKK => ?_)
      have R2 : RowAt w1 true base w1.heap.size 15 (some ⟨gm, om, none⟩) 0 0 ((ya.flatMap mailK.cells).drop ((m + 1) * 15)) := ⟨by rw [HDL.out];omega, Nat.le_refl _, fun h => absurd rfl h⟩
      have hk0 : mn - 1 = 0 + m + 0 := by omega
      obtain ⟨v2, w6, hr2, O2, BL⟩ := own_app HO1.out (by decide) 33 j0 (.agg #[.int .i64 0, .int .i64 0, .int .i64 0, .int .i64 0, .int .i64 0, .bool false, .int .i64 0, .int .i64 0, .int .i64 0, .int .i64 0, .int .i64 0, .int .i64 0, .int .i64 0, .slice none 0 0, .int .i64 0]) 136 Tryz.underlying33 hj0 hy0 hy1 hy2 rfl (by omega) ⟨gm, om, none⟩ 0 0 _ (R2.below BW) (fun u hu => mail_one ya u (List.mem_of_mem_drop hu)) (by omega) LZ
      rw [List.nil_append, ← hk0] at O2;refine step_append_run rfl _ _ _ _ rfl _ _ rfl rfl _ _ (hr2 33) ?_
      have HO2 : Hid _ := O2
      clear hr2 O2 R2;replace X0 := X0.low BL lz0;replace c0 := X0.cell;replace f0 := X0.froz;replace X1 := X1.low BL lz1;replace c1 := X1.cell;replace f1 := X1.froz;replace X2 := X2.low BL lz2;replace c2 := X2.cell;replace f2 := X2.froz;replace LZ := Nat.le_trans LZ BL.size;replace BW := BW.trans (BL.mono lz1w);replace B := B.trans (BL.mono lzw);clear BL;clear hZq
      refine hKK _ _ trivial (fun hZq => ?_)
      clear hKK KK;refine tk 12 hZq ?_
      refine rd1 13 (fun KK hKK => ?_)
      obtain ⟨sa, sc, hv2, R2, _⟩ := owns_slice HO2.out
      subst hv2
      have HR2 : Hid _ := R2
      clear R2
      refine step_oneX 33 X2 1 (.slice sa (mn - 1) sc) (by simp) (by kernel_rfl) rfl rfl rfl ?_
      intro V7 S
      have R7 := (HR2.out.kept S.kept (by omega)).widen (Nat.le_refl _) S.kept.size
      have HR7 : Hid _ := R7
      clear R7;replace X0 := X0.kp S.kept;replace c0 := X0.cell;replace f0 := X0.froz;replace X1 := X1.kp S.kept;replace c1 := X1.cell;replace f1 := X1.froz
      replace X2 : Bx V7 b2 [.slice N'.1 N'.2.1 N'.2.2, .slice sa (mn - 1) sc, .slice S'.1 S'.2.1 S'.2.2] := S.bx
      replace c2 := X2.cell;replace f2 := X2.froz;replace LZ := Nat.le_trans LZ S.kept.size;replace B := bkp B S.kept
      replace BW := BW.trans (S.kept.below _ (by omega) BW.size)
      clear S;clear hZq
      refine hKK _ _ trivial (fun hZq => ?_)
      clear hKK KK
      refine wpAnyH_done (by kernel_rfl) ?_ _
      have H1 : Hid _ := X1
      have H2 : Hid _ := X2
      have HLZ : Hid _ := LZ
      have HBW : Hid _ := BW
      have HBB : Hid _ := B
      clear X0 X1 X2 c0 f0 c1 f1 c2 f2 LZ BW B;go_wp2_with fail
      go_meet
      exact ⟨sa, sc, H1.out, H2.out, HR7.out, HLZ.out, HBW.out, HBB.out⟩
    ·rw [if_pos (by simp [Region.wanted])]
     unfold Oper.wp execOp
     go_simp
     clear hZq
     refine hKK _ _ trivial (fun hZq => ?_)
     clear hKK KK;refine tk 10 hZq ?_
     refine rd1 2 (fun KK hKK => ?_)
     rw [if_pos (by simp [Region.wanted])]
     unfold Oper.wp execOp
     go_simp
     clear hZq
     refine hKK _ _ trivial (fun hZq => ?_)
     clear hKK KK;refine tk 4 hZq ?_
     refine rd1 5 (fun KK hKK => ?_)
     obtain ⟨v1, w5, hr1, O1, BL⟩ := own_app HO.out (by decide) 33 j0 (.agg #[.int .i64 0, .int .i64 0, .int .i64 0, .int .i64 0, .int .i64 0, .bool false, .int .i64 0, .int .i64 0, .int .i64 0, .int .i64 0, .int .i64 0, .int .i64 0, .int .i64 0, .slice none 0 0, .int .i64 0]) 136 Tryz.underlying33 hj0 hy0 hy1 hy2 rfl (by omega) ⟨gm, om, none⟩ m mc _ ((HR0.out.below BW).pre (by omega)) (fun u hu => mail_one ya u (List.mem_of_mem_take hu)) (by omega) LZ
     refine step_append_run rfl _ _ _ _ rfl _ _ rfl rfl _ _ (hr1 33) ?_
     have HO1 : Hid _ := O1
     clear hr1 O1;replace X0 := X0.low BL lz0;replace c0 := X0.cell;replace f0 := X0.froz;replace X1 := X1.low BL lz1;replace c1 := X1.cell;replace f1 := X1.froz;replace X2 := X2.low BL lz2;replace c2 := X2.cell;replace f2 := X2.froz;replace LZ := Nat.le_trans LZ BL.size;replace BW := BW.trans (BL.mono lz1w);replace B := B.trans (BL.mono lzw);clear BL;clear hZq
     refine hKK _ _ trivial (fun hZq => ?_)
     clear hKK KK
     refine rd1 11 (fun KK hKK => ?_)
     have R2 : RowAt w1 true base w1.heap.size 15 (some ⟨gm, om, none⟩) 0 0 ((ya.flatMap mailK.cells).drop ((m + 1) * 15)) := ⟨by rw [HDL.out];omega, Nat.le_refl _, fun h => absurd rfl h⟩
     have hk0 : mn - 1 = 0 + m + 0 := by omega
     obtain ⟨v2, w6, hr2, O2, BL⟩ := own_app HO1.out (by decide) 33 j0 (.agg #[.int .i64 0, .int .i64 0, .int .i64 0, .int .i64 0, .int .i64 0, .bool false, .int .i64 0, .int .i64 0, .int .i64 0, .int .i64 0, .int .i64 0, .int .i64 0, .int .i64 0, .slice none 0 0, .int .i64 0]) 136 Tryz.underlying33 hj0 hy0 hy1 hy2 rfl (by omega) ⟨gm, om, none⟩ 0 0 _ (R2.below BW) (fun u hu => mail_one ya u (List.mem_of_mem_drop hu)) (by omega) LZ
     rw [List.nil_append, ← hk0] at O2;refine step_append_run rfl _ _ _ _ rfl _ _ rfl rfl _ _ (hr2 33) ?_
     have HO2 : Hid _ := O2
     clear hr2 O2 R2;replace X0 := X0.low BL lz0;replace c0 := X0.cell;replace f0 := X0.froz;replace X1 := X1.low BL lz1;replace c1 := X1.cell;replace f1 := X1.froz;replace X2 := X2.low BL lz2;replace c2 := X2.cell;replace f2 := X2.froz;replace LZ := Nat.le_trans LZ BL.size;replace BW := BW.trans (BL.mono lz1w);replace B := B.trans (BL.mono lzw);clear BL;clear hZq
     refine hKK _ _ trivial (fun hZq => ?_)
     clear hKK KK;refine tk 12 hZq ?_
     refine rd1 13 (fun KK hKK => ?_)
     obtain ⟨sa, sc, hv2, R2, _⟩ := owns_slice HO2.out
     subst hv2
     have HR2 : Hid _ := R2
     clear R2
     refine step_oneX 33 X2 1 (.slice sa (mn - 1) sc) (by simp) (by kernel_rfl) rfl rfl rfl ?_
     intro V7 S
     have R7 := (HR2.out.kept S.kept (by omega)).widen (Nat.le_refl _) S.kept.size
     have HR7 : Hid _ := R7
     clear R7;replace X0 := X0.kp S.kept;replace c0 := X0.cell;replace f0 := X0.froz;replace X1 := X1.kp S.kept;replace c1 := X1.cell;replace f1 := X1.froz
     replace X2 : Bx V7 b2 [.slice N'.1 N'.2.1 N'.2.2, .slice sa (mn - 1) sc, .slice S'.1 S'.2.1 S'.2.2] := S.bx
     replace c2 := X2.cell;replace f2 := X2.froz;replace LZ := Nat.le_trans LZ S.kept.size;replace B := bkp B S.kept
     replace BW := BW.trans (S.kept.below _ (by omega) BW.size)
     clear S;clear hZq
     refine hKK _ _ trivial (fun hZq => ?_)
     clear hKK KK
     refine wpAnyH_done (by kernel_rfl) ?_ _
     have H1 : Hid _ := X1
     have H2 : Hid _ := X2
     have HLZ : Hid _ := LZ
     have HBW : Hid _ := BW
     have HBB : Hid _ := B
     clear X0 X1 X2 c0 f0 c1 f1 c2 f2 LZ BW B;go_wp2_with fail
     go_meet
     exact ⟨sa, sc, H1.out, H2.out, HR7.out, HLZ.out, HBW.out, HBB.out⟩
   ·rw [if_pos (by simp [Region.wanted])]
    unfold Oper.wp execOp
    go_simp
    clear hZq
    refine hKK _ _ trivial (fun hZq => ?_)
    clear hKK KK;refine tk 4 hZq ?_
    refine wpAnyH_ready (rs := [0, 7]) (by kernel_rfl) (by simp) ?_
    refine (AllReadyH.cons rfl (fun KK hKK => ?_) (AllReadyH.cons rfl (fun KK hKK => ?_) AllReadyH.nil))
    ·refine step_lit0 33 96 (fun _ => by kernel_rfl) ?_
     intro bl Wl hge hcl BBl
     have HO : Hid (Wl.ownsRow zz 96 15 (.slice (some ⟨bl, 0, none⟩) 0 0) 0 []) := own_none hcl zz (Nat.le_trans LZ hge)
     replace X0 := X0.below BBl;replace c0 := X0.cell;replace f0 := X0.froz;replace X1 := X1.below BBl;replace c1 := X1.cell;replace f1 := X1.froz;replace X2 := X2.below BBl;replace c2 := X2.cell;replace f2 := X2.froz;replace LZ := Nat.le_trans LZ BBl.size;replace B := below_next B BBl;replace BW := below_next BW BBl;clear BBl hcl hge;clear hZq
     refine hKK _ _ trivial (fun hZq => ?_)
     clear hKK KK
     refine wpAnyH_ready (rs := [5, 7]) (by kernel_rfl) (by simp) ?_
     refine (AllReadyH.cons rfl (fun KK hKK => ?_) (AllReadyH.cons rfl (fun KK hKK => ?_) AllReadyH.nil))
     ·obtain ⟨v1, w5, hr1, O1, BL⟩ := own_app HO.out (by decide) 33 j0 (.agg #[.int .i64 0, .int .i64 0, .int .i64 0, .int .i64 0, .int .i64 0, .bool false, .int .i64 0, .int .i64 0, .int .i64 0, .int .i64 0, .int .i64 0, .int .i64 0, .int .i64 0, .slice none 0 0, .int .i64 0]) 136 Tryz.underlying33 hj0 hy0 hy1 hy2 rfl (by omega) ⟨gm, om, none⟩ m mc _ ((HR0.out.below BW).pre (by omega)) (fun u hu => mail_one ya u (List.mem_of_mem_take hu)) (by omega) LZ
      refine step_append_run rfl _ _ _ _ rfl _ _ rfl rfl _ _ (hr1 33) ?_
      have HO1 : Hid _ := O1
      clear hr1 O1;replace X0 := X0.low BL lz0;replace c0 := X0.cell;replace f0 := X0.froz;replace X1 := X1.low BL lz1;replace c1 := X1.cell;replace f1 := X1.froz;replace X2 := X2.low BL lz2;replace c2 := X2.cell;replace f2 := X2.froz;replace LZ := Nat.le_trans LZ BL.size;replace BW := BW.trans (BL.mono lz1w);replace B := B.trans (BL.mono lzw);clear BL;clear hZq
      refine hKK _ _ trivial (fun hZq => ?_)
      clear hKK KK
      refine rd1 7 (fun KK hKK => ?_)
      rw [if_pos (by simp [Region.wanted])]
      unfold Oper.wp execOp
      go_simp
      clear hZq
      refine hKK _ _ trivial (fun hZq => ?_)
      clear hKK KK;refine tk 10 hZq ?_
      refine rd1 11 (fun KK hKK => ?_)
      have R2 : RowAt w1 true base w1.heap.size 15 (some ⟨gm, om, none⟩) 0 0 ((ya.flatMap mailK.cells).drop ((m + 1) * 15)) := ⟨by rw [HDL.out];omega, Nat.le_refl _, fun h => absurd rfl h⟩
      have hk0 : mn - 1 = 0 + m + 0 := by omega
      obtain ⟨v2, w6, hr2, O2, BL⟩ := own_app HO1.out (by decide) 33 j0 (.agg #[.int .i64 0, .int .i64 0, .int .i64 0, .int .i64 0, .int .i64 0, .bool false, .int .i64 0, .int .i64 0, .int .i64 0, .int .i64 0, .int .i64 0, .int .i64 0, .int .i64 0, .slice none 0 0, .int .i64 0]) 136 Tryz.underlying33 hj0 hy0 hy1 hy2 rfl (by omega) ⟨gm, om, none⟩ 0 0 _ (R2.below BW) (fun u hu => mail_one ya u (List.mem_of_mem_drop hu)) (by omega) LZ
      rw [List.nil_append, ← hk0] at O2;refine step_append_run rfl _ _ _ _ rfl _ _ rfl rfl _ _ (hr2 33) ?_
      have HO2 : Hid _ := O2
      clear hr2 O2 R2;replace X0 := X0.low BL lz0;replace c0 := X0.cell;replace f0 := X0.froz;replace X1 := X1.low BL lz1;replace c1 := X1.cell;replace f1 := X1.froz;replace X2 := X2.low BL lz2;replace c2 := X2.cell;replace f2 := X2.froz;replace LZ := Nat.le_trans LZ BL.size;replace BW := BW.trans (BL.mono lz1w);replace B := B.trans (BL.mono lzw);clear BL;clear hZq
      refine hKK _ _ trivial (fun hZq => ?_)
      clear hKK KK;refine tk 12 hZq ?_
      refine rd1 13 (fun KK hKK => ?_)
      obtain ⟨sa, sc, hv2, R2, _⟩ := owns_slice HO2.out
      subst hv2
      have HR2 : Hid _ := R2
      clear R2
      refine step_oneX 33 X2 1 (.slice sa (mn - 1) sc) (by simp) (by kernel_rfl) rfl rfl rfl ?_
      intro V7 S
      have R7 := (HR2.out.kept S.kept (by omega)).widen (Nat.le_refl _) S.kept.size
      have HR7 : Hid _ := R7
      clear R7;replace X0 := X0.kp S.kept;replace c0 := X0.cell;replace f0 := X0.froz;replace X1 := X1.kp S.kept;replace c1 := X1.cell;replace f1 := X1.froz
      replace X2 : Bx V7 b2 [.slice N'.1 N'.2.1 N'.2.2, .slice sa (mn - 1) sc, .slice S'.1 S'.2.1 S'.2.2] := S.bx
      replace c2 := X2.cell;replace f2 := X2.froz;replace LZ := Nat.le_trans LZ S.kept.size;replace B := bkp B S.kept
      replace BW := BW.trans (S.kept.below _ (by omega) BW.size)
      clear S;clear hZq
      refine hKK _ _ trivial (fun hZq => ?_)
      clear hKK KK
      refine wpAnyH_done (by kernel_rfl) ?_ _
      have H1 : Hid _ := X1
      have H2 : Hid _ := X2
      have HLZ : Hid _ := LZ
      have HBW : Hid _ := BW
      have HBB : Hid _ := B
      clear X0 X1 X2 c0 f0 c1 f1 c2 f2 LZ BW B;go_wp2_with fail
      go_meet
      exact ⟨sa, sc, H1.out, H2.out, HR7.out, HLZ.out, HBW.out, HBB.out⟩
     ·rw [if_pos (by simp [Region.wanted])]
      unfold Oper.wp execOp
      go_simp
      clear hZq
      refine hKK _ _ trivial (fun hZq => ?_)
      clear hKK KK;refine tk 10 hZq ?_
      refine rd1 5 (fun KK hKK => ?_)
      obtain ⟨v1, w5, hr1, O1, BL⟩ := own_app HO.out (by decide) 33 j0 (.agg #[.int .i64 0, .int .i64 0, .int .i64 0, .int .i64 0, .int .i64 0, .bool false, .int .i64 0, .int .i64 0, .int .i64 0, .int .i64 0, .int .i64 0, .int .i64 0, .int .i64 0, .slice none 0 0, .int .i64 0]) 136 Tryz.underlying33 hj0 hy0 hy1 hy2 rfl (by omega) ⟨gm, om, none⟩ m mc _ ((HR0.out.below BW).pre (by omega)) (fun u hu => mail_one ya u (List.mem_of_mem_take hu)) (by omega) LZ
      refine step_append_run rfl _ _ _ _ rfl _ _ rfl rfl _ _ (hr1 33) ?_
      have HO1 : Hid _ := O1
      clear hr1 O1;replace X0 := X0.low BL lz0;replace c0 := X0.cell;replace f0 := X0.froz;replace X1 := X1.low BL lz1;replace c1 := X1.cell;replace f1 := X1.froz;replace X2 := X2.low BL lz2;replace c2 := X2.cell;replace f2 := X2.froz;replace LZ := Nat.le_trans LZ BL.size;replace BW := BW.trans (BL.mono lz1w);replace B := B.trans (BL.mono lzw);clear BL;clear hZq
      refine hKK _ _ trivial (fun hZq => ?_)
      clear hKK KK
      refine rd1 11 (fun KK hKK => ?_)
      have R2 : RowAt w1 true base w1.heap.size 15 (some ⟨gm, om, none⟩) 0 0 ((ya.flatMap mailK.cells).drop ((m + 1) * 15)) := ⟨by rw [HDL.out];omega, Nat.le_refl _, fun h => absurd rfl h⟩
      have hk0 : mn - 1 = 0 + m + 0 := by omega
      obtain ⟨v2, w6, hr2, O2, BL⟩ := own_app HO1.out (by decide) 33 j0 (.agg #[.int .i64 0, .int .i64 0, .int .i64 0, .int .i64 0, .int .i64 0, .bool false, .int .i64 0, .int .i64 0, .int .i64 0, .int .i64 0, .int .i64 0, .int .i64 0, .int .i64 0, .slice none 0 0, .int .i64 0]) 136 Tryz.underlying33 hj0 hy0 hy1 hy2 rfl (by omega) ⟨gm, om, none⟩ 0 0 _ (R2.below BW) (fun u hu => mail_one ya u (List.mem_of_mem_drop hu)) (by omega) LZ
      rw [List.nil_append, ← hk0] at O2;refine step_append_run rfl _ _ _ _ rfl _ _ rfl rfl _ _ (hr2 33) ?_
      have HO2 : Hid _ := O2
      clear hr2 O2 R2;replace X0 := X0.low BL lz0;replace c0 := X0.cell;replace f0 := X0.froz;replace X1 := X1.low BL lz1;replace c1 := X1.cell;replace f1 := X1.froz;replace X2 := X2.low BL lz2;replace c2 := X2.cell;replace f2 := X2.froz;replace LZ := Nat.le_trans LZ BL.size;replace BW := BW.trans (BL.mono lz1w);replace B := B.trans (BL.mono lzw);clear BL;clear hZq
      refine hKK _ _ trivial (fun hZq => ?_)
      clear hKK KK;refine tk 12 hZq ?_
      refine rd1 13 (fun KK hKK => ?_)
      obtain ⟨sa, sc, hv2, R2, _⟩ := owns_slice HO2.out
      subst hv2
      have HR2 : Hid _ := R2
      clear R2
      refine step_oneX 33 X2 1 (.slice sa (mn - 1) sc) (by simp) (by kernel_rfl) rfl rfl rfl ?_
      intro V7 S
      have R7 := (HR2.out.kept S.kept (by omega)).widen (Nat.le_refl _) S.kept.size
      have HR7 : Hid _ := R7
      clear R7;replace X0 := X0.kp S.kept;replace c0 := X0.cell;replace f0 := X0.froz;replace X1 := X1.kp S.kept;replace c1 := X1.cell;replace f1 := X1.froz
      replace X2 : Bx V7 b2 [.slice N'.1 N'.2.1 N'.2.2, .slice sa (mn - 1) sc, .slice S'.1 S'.2.1 S'.2.2] := S.bx
      replace c2 := X2.cell;replace f2 := X2.froz;replace LZ := Nat.le_trans LZ S.kept.size;replace B := bkp B S.kept
      replace BW := BW.trans (S.kept.below _ (by omega) BW.size)
      clear S;clear hZq
      refine hKK _ _ trivial (fun hZq => ?_)
      clear hKK KK
      refine wpAnyH_done (by kernel_rfl) ?_ _
      have H1 : Hid _ := X1
      have H2 : Hid _ := X2
      have HLZ : Hid _ := LZ
      have HBW : Hid _ := BW
      have HBB : Hid _ := B
      clear X0 X1 X2 c0 f0 c1 f1 c2 f2 LZ BW B;go_wp2_with fail
      go_meet
      exact ⟨sa, sc, H1.out, H2.out, HR7.out, HLZ.out, HBW.out, HBB.out⟩
    ·rw [if_pos (by simp [Region.wanted])]
     unfold Oper.wp execOp
     go_simp
     clear hZq
     refine hKK _ _ trivial (fun hZq => ?_)
     clear hKK KK;refine tk 10 hZq ?_
     refine rd1 0 (fun KK hKK => ?_)
     refine step_lit0 33 96 (fun _ => by kernel_rfl) ?_
     intro bl Wl hge hcl BBl
     have HO : Hid (Wl.ownsRow zz 96 15 (.slice (some ⟨bl, 0, none⟩) 0 0) 0 []) := own_none hcl zz (Nat.le_trans LZ hge)
     replace X0 := X0.below BBl;replace c0 := X0.cell;replace f0 := X0.froz;replace X1 := X1.below BBl;replace c1 := X1.cell;replace f1 := X1.froz;replace X2 := X2.below BBl;replace c2 := X2.cell;replace f2 := X2.froz;replace LZ := Nat.le_trans LZ BBl.size;replace B := below_next B BBl;replace BW := below_next BW BBl;clear BBl hcl hge;clear hZq
     refine hKK _ _ trivial (fun hZq => ?_)
     clear hKK KK
     refine rd1 5 (fun KK hKK => ?_)
     obtain ⟨v1, w5, hr1, O1, BL⟩ := own_app HO.out (by decide) 33 j0 (.agg #[.int .i64 0, .int .i64 0, .int .i64 0, .int .i64 0, .int .i64 0, .bool false, .int .i64 0, .int .i64 0, .int .i64 0, .int .i64 0, .int .i64 0, .int .i64 0, .int .i64 0, .slice none 0 0, .int .i64 0]) 136 Tryz.underlying33 hj0 hy0 hy1 hy2 rfl (by omega) ⟨gm, om, none⟩ m mc _ ((HR0.out.below BW).pre (by omega)) (fun u hu => mail_one ya u (List.mem_of_mem_take hu)) (by omega) LZ
     refine step_append_run rfl _ _ _ _ rfl _ _ rfl rfl _ _ (hr1 33) ?_
     have HO1 : Hid _ := O1
     clear hr1 O1;replace X0 := X0.low BL lz0;replace c0 := X0.cell;replace f0 := X0.froz;replace X1 := X1.low BL lz1;replace c1 := X1.cell;replace f1 := X1.froz;replace X2 := X2.low BL lz2;replace c2 := X2.cell;replace f2 := X2.froz;replace LZ := Nat.le_trans LZ BL.size;replace BW := BW.trans (BL.mono lz1w);replace B := B.trans (BL.mono lzw);clear BL;clear hZq
     refine hKK _ _ trivial (fun hZq => ?_)
     clear hKK KK
     refine rd1 11 (fun KK hKK => ?_)
     have R2 : RowAt w1 true base w1.heap.size 15 (some ⟨gm, om, none⟩) 0 0 ((ya.flatMap mailK.cells).drop ((m + 1) * 15)) := ⟨by rw [HDL.out];omega, Nat.le_refl _, fun h => absurd rfl h⟩
     have hk0 : mn - 1 = 0 + m + 0 := by omega
     obtain ⟨v2, w6, hr2, O2, BL⟩ := own_app HO1.out (by decide) 33 j0 (.agg #[.int .i64 0, .int .i64 0, .int .i64 0, .int .i64 0, .int .i64 0, .bool false, .int .i64 0, .int .i64 0, .int .i64 0, .int .i64 0, .int .i64 0, .int .i64 0, .int .i64 0, .slice none 0 0, .int .i64 0]) 136 Tryz.underlying33 hj0 hy0 hy1 hy2 rfl (by omega) ⟨gm, om, none⟩ 0 0 _ (R2.below BW) (fun u hu => mail_one ya u (List.mem_of_mem_drop hu)) (by omega) LZ
     rw [List.nil_append, ← hk0] at O2;refine step_append_run rfl _ _ _ _ rfl _ _ rfl rfl _ _ (hr2 33) ?_
     have HO2 : Hid _ := O2
     clear hr2 O2 R2;replace X0 := X0.low BL lz0;replace c0 := X0.cell;replace f0 := X0.froz;replace X1 := X1.low BL lz1;replace c1 := X1.cell;replace f1 := X1.froz;replace X2 := X2.low BL lz2;replace c2 := X2.cell;replace f2 := X2.froz;replace LZ := Nat.le_trans LZ BL.size;replace BW := BW.trans (BL.mono lz1w);replace B := B.trans (BL.mono lzw);clear BL;clear hZq
     refine hKK _ _ trivial (fun hZq => ?_)
     clear hKK KK;refine tk 12 hZq ?_
     refine rd1 13 (fun KK hKK => ?_)
     obtain ⟨sa, sc, hv2, R2, _⟩ := owns_slice HO2.out
     subst hv2
     have HR2 : Hid _ := R2
     clear R2
     refine step_oneX 33 X2 1 (.slice sa (mn - 1) sc) (by simp) (by kernel_rfl) rfl rfl rfl ?_
     intro V7 S
     have R7 := (HR2.out.kept S.kept (by omega)).widen (Nat.le_refl _) S.kept.size
     have HR7 : Hid _ := R7
     clear R7;replace X0 := X0.kp S.kept;replace c0 := X0.cell;replace f0 := X0.froz;replace X1 := X1.kp S.kept;replace c1 := X1.cell;replace f1 := X1.froz
     replace X2 : Bx V7 b2 [.slice N'.1 N'.2.1 N'.2.2, .slice sa (mn - 1) sc, .slice S'.1 S'.2.1 S'.2.2] := S.bx
     replace c2 := X2.cell;replace f2 := X2.froz;replace LZ := Nat.le_trans LZ S.kept.size;replace B := bkp B S.kept
     replace BW := BW.trans (S.kept.below _ (by omega) BW.size)
     clear S;clear hZq
     refine hKK _ _ trivial (fun hZq => ?_)
     clear hKK KK
     refine wpAnyH_done (by kernel_rfl) ?_ _
     have H1 : Hid _ := X1
     have H2 : Hid _ := X2
     have HLZ : Hid _ := LZ
     have HBW : Hid _ := BW
     have HBB : Hid _ := B
     clear X0 X1 X2 c0 f0 c1 f1 c2 f2 LZ BW B;go_wp2_with fail
     go_meet
     exact ⟨sa, sc, H1.out, H2.out, HR7.out, HLZ.out, HBW.out, HBB.out⟩
   ·rw [if_pos (by simp [Region.wanted])]
    unfold Oper.wp execOp
    go_simp
    clear hZq
    refine hKK _ _ trivial (fun hZq => ?_)
    clear hKK KK;refine tk 10 hZq ?_
    refine wpAnyH_ready (rs := [0, 2]) (by kernel_rfl) (by simp) ?_
    refine (AllReadyH.cons rfl (fun KK hKK => ?_) (AllReadyH.cons rfl (fun KK hKK => ?_) AllReadyH.nil))
    ·refine step_lit0 33 96 (fun _ => by kernel_rfl) ?_
     intro bl Wl hge hcl BBl
     have HO : Hid (Wl.ownsRow zz 96 15 (.slice (some ⟨bl, 0, none⟩) 0 0) 0 []) := own_none hcl zz (Nat.le_trans LZ hge)
     replace X0 := X0.below BBl;replace c0 := X0.cell;replace f0 := X0.froz;replace X1 := X1.below BBl;replace c1 := X1.cell;replace f1 := X1.froz;replace X2 := X2.below BBl;replace c2 := X2.cell;replace f2 := X2.froz;replace LZ := Nat.le_trans LZ BBl.size;replace B := below_next B BBl;replace BW := below_next BW BBl;clear BBl hcl hge;clear hZq
     refine hKK _ _ trivial (fun hZq => ?_)
     clear hKK KK
     refine rd1 2 (fun KK hKK => ?_)
     rw [if_pos (by simp [Region.wanted])]
     unfold Oper.wp execOp
     go_simp
     clear hZq
     refine hKK _ _ trivial (fun hZq => ?_)
     clear hKK KK;refine tk 4 hZq ?_
     refine rd1 5 (fun KK hKK => ?_)
     obtain ⟨v1, w5, hr1, O1, BL⟩ := own_app HO.out (by decide) 33 j0 (.agg #[.int .i64 0, .int .i64 0, .int .i64 0, .int .i64 0, .int .i64 0, .bool false, .int .i64 0, .int .i64 0, .int .i64 0, .int .i64 0, .int .i64 0, .int .i64 0, .int .i64 0, .slice none 0 0, .int .i64 0]) 136 Tryz.underlying33 hj0 hy0 hy1 hy2 rfl (by omega) ⟨gm, om, none⟩ m mc _ ((HR0.out.below BW).pre (by omega)) (fun u hu => mail_one ya u (List.mem_of_mem_take hu)) (by omega) LZ
     refine step_append_run rfl _ _ _ _ rfl _ _ rfl rfl _ _ (hr1 33) ?_
     have HO1 : Hid _ := O1
     clear hr1 O1;replace X0 := X0.low BL lz0;replace c0 := X0.cell;replace f0 := X0.froz;replace X1 := X1.low BL lz1;replace c1 := X1.cell;replace f1 := X1.froz;replace X2 := X2.low BL lz2;replace c2 := X2.cell;replace f2 := X2.froz;replace LZ := Nat.le_trans LZ BL.size;replace BW := BW.trans (BL.mono lz1w);replace B := B.trans (BL.mono lzw);clear BL;clear hZq
     refine hKK _ _ trivial (fun hZq => ?_)
     clear hKK KK
     refine rd1 11 (fun KK hKK => ?_)
     have R2 : RowAt w1 true base w1.heap.size 15 (some ⟨gm, om, none⟩) 0 0 ((ya.flatMap mailK.cells).drop ((m + 1) * 15)) := ⟨by rw [HDL.out];omega, Nat.le_refl _, fun h => absurd rfl h⟩
     have hk0 : mn - 1 = 0 + m + 0 := by omega
     obtain ⟨v2, w6, hr2, O2, BL⟩ := own_app HO1.out (by decide) 33 j0 (.agg #[.int .i64 0, .int .i64 0, .int .i64 0, .int .i64 0, .int .i64 0, .bool false, .int .i64 0, .int .i64 0, .int .i64 0, .int .i64 0, .int .i64 0, .int .i64 0, .int .i64 0, .slice none 0 0, .int .i64 0]) 136 Tryz.underlying33 hj0 hy0 hy1 hy2 rfl (by omega) ⟨gm, om, none⟩ 0 0 _ (R2.below BW) (fun u hu => mail_one ya u (List.mem_of_mem_drop hu)) (by omega) LZ
     rw [List.nil_append, ← hk0] at O2;refine step_append_run rfl _ _ _ _ rfl _ _ rfl rfl _ _ (hr2 33) ?_
     have HO2 : Hid _ := O2
     clear hr2 O2 R2;replace X0 := X0.low BL lz0;replace c0 := X0.cell;replace f0 := X0.froz;replace X1 := X1.low BL lz1;replace c1 := X1.cell;replace f1 := X1.froz;replace X2 := X2.low BL lz2;replace c2 := X2.cell;replace f2 := X2.froz;replace LZ := Nat.le_trans LZ BL.size;replace BW := BW.trans (BL.mono lz1w);replace B := B.trans (BL.mono lzw);clear BL;clear hZq
     refine hKK _ _ trivial (fun hZq => ?_)
     clear hKK KK;refine tk 12 hZq ?_
     refine rd1 13 (fun KK hKK => ?_)
     obtain ⟨sa, sc, hv2, R2, _⟩ := owns_slice HO2.out
     subst hv2
     have HR2 : Hid _ := R2
     clear R2
     refine step_oneX 33 X2 1 (.slice sa (mn - 1) sc) (by simp) (by kernel_rfl) rfl rfl rfl ?_
     intro V7 S
     have R7 := (HR2.out.kept S.kept (by omega)).widen (Nat.le_refl _) S.kept.size
     have HR7 : Hid _ := R7
     clear R7;replace X0 := X0.kp S.kept;replace c0 := X0.cell;replace f0 := X0.froz;replace X1 := X1.kp S.kept;replace c1 := X1.cell;replace f1 := X1.froz
     replace X2 : Bx V7 b2 [.slice N'.1 N'.2.1 N'.2.2, .slice sa (mn - 1) sc, .slice S'.1 S'.2.1 S'.2.2] := S.bx
     replace c2 := X2.cell;replace f2 := X2.froz;replace LZ := Nat.le_trans LZ S.kept.size;replace B := bkp B S.kept
     replace BW := BW.trans (S.kept.below _ (by omega) BW.size)
     clear S;clear hZq
     refine hKK _ _ trivial (fun hZq => ?_)
     clear hKK KK
     refine wpAnyH_done (by kernel_rfl) ?_ _
     have H1 : Hid _ := X1
     have H2 : Hid _ := X2
     have HLZ : Hid _ := LZ
     have HBW : Hid _ := BW
     have HBB : Hid _ := B
     clear X0 X1 X2 c0 f0 c1 f1 c2 f2 LZ BW B;go_wp2_with fail
     go_meet
     exact ⟨sa, sc, H1.out, H2.out, HR7.out, HLZ.out, HBW.out, HBB.out⟩
    ·rw [if_pos (by simp [Region.wanted])]
     unfold Oper.wp execOp
     go_simp
     clear hZq
     refine hKK _ _ trivial (fun hZq => ?_)
     clear hKK KK;refine tk 4 hZq ?_
     refine rd1 0 (fun KK hKK => ?_)
     refine step_lit0 33 96 (fun _ => by kernel_rfl) ?_
     intro bl Wl hge hcl BBl
     have HO : Hid (Wl.ownsRow zz 96 15 (.slice (some ⟨bl, 0, none⟩) 0 0) 0 []) := own_none hcl zz (Nat.le_trans LZ hge)
     replace X0 := X0.below BBl;replace c0 := X0.cell;replace f0 := X0.froz;replace X1 := X1.below BBl;replace c1 := X1.cell;replace f1 := X1.froz;replace X2 := X2.below BBl;replace c2 := X2.cell;replace f2 := X2.froz;replace LZ := Nat.le_trans LZ BBl.size;replace B := below_next B BBl;replace BW := below_next BW BBl;clear BBl hcl hge;clear hZq
     refine hKK _ _ trivial (fun hZq => ?_)
     clear hKK KK
     refine rd1 5 (fun KK hKK => ?_)
     obtain ⟨v1, w5, hr1, O1, BL⟩ := own_app HO.out (by decide) 33 j0 (.agg #[.int .i64 0, .int .i64 0, .int .i64 0, .int .i64 0, .int .i64 0, .bool false, .int .i64 0, .int .i64 0, .int .i64 0, .int .i64 0, .int .i64 0, .int .i64 0, .int .i64 0, .slice none 0 0, .int .i64 0]) 136 Tryz.underlying33 hj0 hy0 hy1 hy2 rfl (by omega) ⟨gm, om, none⟩ m mc _ ((HR0.out.below BW).pre (by omega)) (fun u hu => mail_one ya u (List.mem_of_mem_take hu)) (by omega) LZ
     refine step_append_run rfl _ _ _ _ rfl _ _ rfl rfl _ _ (hr1 33) ?_
     have HO1 : Hid _ := O1
     clear hr1 O1;replace X0 := X0.low BL lz0;replace c0 := X0.cell;replace f0 := X0.froz;replace X1 := X1.low BL lz1;replace c1 := X1.cell;replace f1 := X1.froz;replace X2 := X2.low BL lz2;replace c2 := X2.cell;replace f2 := X2.froz;replace LZ := Nat.le_trans LZ BL.size;replace BW := BW.trans (BL.mono lz1w);replace B := B.trans (BL.mono lzw);clear BL;clear hZq
     refine hKK _ _ trivial (fun hZq => ?_)
     clear hKK KK
     refine rd1 11 (fun KK hKK => ?_)
     have R2 : RowAt w1 true base w1.heap.size 15 (some ⟨gm, om, none⟩) 0 0 ((ya.flatMap mailK.cells).drop ((m + 1) * 15)) := ⟨by rw [HDL.out];omega, Nat.le_refl _, fun h => absurd rfl h⟩
     have hk0 : mn - 1 = 0 + m + 0 := by omega
     obtain ⟨v2, w6, hr2, O2, BL⟩ := own_app HO1.out (by decide) 33 j0 (.agg #[.int .i64 0, .int .i64 0, .int .i64 0, .int .i64 0, .int .i64 0, .bool false, .int .i64 0, .int .i64 0, .int .i64 0, .int .i64 0, .int .i64 0, .int .i64 0, .int .i64 0, .slice none 0 0, .int .i64 0]) 136 Tryz.underlying33 hj0 hy0 hy1 hy2 rfl (by omega) ⟨gm, om, none⟩ 0 0 _ (R2.below BW) (fun u hu => mail_one ya u (List.mem_of_mem_drop hu)) (by omega) LZ
     rw [List.nil_append, ← hk0] at O2;refine step_append_run rfl _ _ _ _ rfl _ _ rfl rfl _ _ (hr2 33) ?_
     have HO2 : Hid _ := O2
     clear hr2 O2 R2;replace X0 := X0.low BL lz0;replace c0 := X0.cell;replace f0 := X0.froz;replace X1 := X1.low BL lz1;replace c1 := X1.cell;replace f1 := X1.froz;replace X2 := X2.low BL lz2;replace c2 := X2.cell;replace f2 := X2.froz;replace LZ := Nat.le_trans LZ BL.size;replace BW := BW.trans (BL.mono lz1w);replace B := B.trans (BL.mono lzw);clear BL;clear hZq
     refine hKK _ _ trivial (fun hZq => ?_)
     clear hKK KK;refine tk 12 hZq ?_
     refine rd1 13 (fun KK hKK => ?_)
     obtain ⟨sa, sc, hv2, R2, _⟩ := owns_slice HO2.out
     subst hv2
     have HR2 : Hid _ := R2
     clear R2
     refine step_oneX 33 X2 1 (.slice sa (mn - 1) sc) (by simp) (by kernel_rfl) rfl rfl rfl ?_
     intro V7 S
     have R7 := (HR2.out.kept S.kept (by omega)).widen (Nat.le_refl _) S.kept.size
     have HR7 : Hid _ := R7
     clear R7;replace X0 := X0.kp S.kept;replace c0 := X0.cell;replace f0 := X0.froz;replace X1 := X1.kp S.kept;replace c1 := X1.cell;replace f1 := X1.froz
     replace X2 : Bx V7 b2 [.slice N'.1 N'.2.1 N'.2.2, .slice sa (mn - 1) sc, .slice S'.1 S'.2.1 S'.2.2] := S.bx
     replace c2 := X2.cell;replace f2 := X2.froz;replace LZ := Nat.le_trans LZ S.kept.size;replace B := bkp B S.kept
     replace BW := BW.trans (S.kept.below _ (by omega) BW.size)
     clear S;clear hZq
     refine hKK _ _ trivial (fun hZq => ?_)
     clear hKK KK
     refine wpAnyH_done (by kernel_rfl) ?_ _
     have H1 : Hid _ := X1
     have H2 : Hid _ := X2
     have HLZ : Hid _ := LZ
     have HBW : Hid _ := BW
     have HBB : Hid _ := B
     clear X0 X1 X2 c0 f0 c1 f1 c2 f2 LZ BW B;go_wp2_with fail
     go_meet
     exact ⟨sa, sc, H1.out, H2.out, HR7.out, HLZ.out, HBW.out, HBB.out⟩
  ·have hcz : ¬ mc - (m + 1) = 0 := by omega
   have hcc' : ¬ (mc : Int) = (m : Int) + 1 := by omega
   have hcc2 : ¬ (m : Int) + 1 = (mc : Int) := by omega
   refine wp_region_held_drew (S := (fun _ => True)) (by kernel_rfl) trivial (fun hZq => ?_)
   refine tk 1 hZq ?_;refine tk 3 hZq ?_;refine tk 6 hZq ?_;refine tk 8 hZq ?_;refine tk 9 hZq ?_
   refine wpAnyH_ready (rs := [0, 2, 7]) (by kernel_rfl) (by simp) ?_
   refine (AllReadyH.cons rfl (fun KK hKK => ?_) (AllReadyH.cons rfl (fun KK hKK => ?_) (AllReadyH.cons rfl (fun KK hKK => ?_) AllReadyH.nil)))
   ·refine step_lit0 33 96 (fun _ => by kernel_rfl) ?_
    intro bl Wl hge hcl BBl
    have HO : Hid (Wl.ownsRow zz 96 15 (.slice (some ⟨bl, 0, none⟩) 0 0) 0 []) := own_none hcl zz (Nat.le_trans LZ hge)
    replace X0 := X0.below BBl;replace c0 := X0.cell;replace f0 := X0.froz;replace X1 := X1.below BBl;replace c1 := X1.cell;replace f1 := X1.froz;replace X2 := X2.below BBl;replace c2 := X2.cell;replace f2 := X2.froz;replace LZ := Nat.le_trans LZ BBl.size;replace B := below_next B BBl;replace BW := below_next BW BBl;clear BBl hcl hge;clear hZq
    refine hKK _ _ trivial (fun hZq => ?_)
    clear hKK KK
    refine wpAnyH_ready (rs := [2, 7]) (by kernel_rfl) (by simp) ?_
    refine (AllReadyH.cons rfl (fun KK hKK => ?_) (AllReadyH.cons rfl (fun KK hKK => ?_) AllReadyH.nil))
    ·rw [if_pos (by simp [Region.wanted])]
     unfold Oper.wp execOp
     go_simp
     clear hZq
     refine hKK _ _ trivial (fun hZq => ?_)
     clear hKK KK;refine tk 4 hZq ?_
     refine wpAnyH_ready (rs := [5, 7]) (by kernel_rfl) (by simp) ?_
     refine (AllReadyH.cons rfl (fun KK hKK => ?_) (AllReadyH.cons rfl (fun KK hKK => ?_) AllReadyH.nil))
     ·obtain ⟨v1, w5, hr1, O1, BL⟩ := own_app HO.out (by decide) 33 j0 (.agg #[.int .i64 0, .int .i64 0, .int .i64 0, .int .i64 0, .int .i64 0, .bool false, .int .i64 0, .int .i64 0, .int .i64 0, .int .i64 0, .int .i64 0, .int .i64 0, .int .i64 0, .slice none 0 0, .int .i64 0]) 136 Tryz.underlying33 hj0 hy0 hy1 hy2 rfl (by omega) ⟨gm, om, none⟩ m mc _ ((HR0.out.below BW).pre (by omega)) (fun u hu => mail_one ya u (List.mem_of_mem_take hu)) (by omega) LZ
      refine step_append_run rfl _ _ _ _ rfl _ _ rfl rfl _ _ (hr1 33) ?_
      have HO1 : Hid _ := O1
      clear hr1 O1;replace X0 := X0.low BL lz0;replace c0 := X0.cell;replace f0 := X0.froz;replace X1 := X1.low BL lz1;replace c1 := X1.cell;replace f1 := X1.froz;replace X2 := X2.low BL lz2;replace c2 := X2.cell;replace f2 := X2.froz;replace LZ := Nat.le_trans LZ BL.size;replace BW := BW.trans (BL.mono lz1w);replace B := B.trans (BL.mono lzw);clear BL;clear hZq
      refine hKK _ _ trivial (fun hZq => ?_)
      clear hKK KK
      refine rd1 7 (fun KK hKK => ?_)
      rw [if_pos (by simp [Region.wanted])]
      unfold Oper.wp execOp
      go_simp
      clear hZq
      refine hKK _ _ trivial (fun hZq => ?_)
      clear hKK KK;refine tk 10 hZq ?_
      refine rd1 11 (fun KK hKK => ?_)
      have R2 := HR0.out.subK (by decide) (show m + 1 ≤ mn by omega) (Nat.le_refl _)
      rw [List.take_of_length_le (by rw [HDL.out];exact Nat.le_refl _)] at R2
      have hk0 : mn - 1 = 0 + m + (mn - (m + 1)) := by omega
      obtain ⟨v2, w6, hr2, O2, BL⟩ := own_app HO1.out (by decide) 33 j0 (.agg #[.int .i64 0, .int .i64 0, .int .i64 0, .int .i64 0, .int .i64 0, .bool false, .int .i64 0, .int .i64 0, .int .i64 0, .int .i64 0, .int .i64 0, .int .i64 0, .int .i64 0, .slice none 0 0, .int .i64 0]) 136 Tryz.underlying33 hj0 hy0 hy1 hy2 rfl (by omega) ⟨gm, om + (m + 1) * 15, none⟩ (mn - (m + 1)) (mc - (m + 1)) _ (R2.below BW) (fun u hu => mail_one ya u (List.mem_of_mem_drop hu)) (by omega) LZ
      rw [List.nil_append, ← hk0] at O2;refine step_append_run rfl _ _ _ _ rfl _ _ rfl rfl _ _ (hr2 33) ?_
      have HO2 : Hid _ := O2
      clear hr2 O2 R2;replace X0 := X0.low BL lz0;replace c0 := X0.cell;replace f0 := X0.froz;replace X1 := X1.low BL lz1;replace c1 := X1.cell;replace f1 := X1.froz;replace X2 := X2.low BL lz2;replace c2 := X2.cell;replace f2 := X2.froz;replace LZ := Nat.le_trans LZ BL.size;replace BW := BW.trans (BL.mono lz1w);replace B := B.trans (BL.mono lzw);clear BL;clear hZq
      refine hKK _ _ trivial (fun hZq => ?_)
      clear hKK KK;refine tk 12 hZq ?_
      refine rd1 13 (fun KK hKK => ?_)
      obtain ⟨sa, sc, hv2, R2, _⟩ := owns_slice HO2.out
      subst hv2
      have HR2 : Hid _ := R2
      clear R2
      refine step_oneX 33 X2 1 (.slice sa (mn - 1) sc) (by simp) (by kernel_rfl) rfl rfl rfl ?_
      intro V7 S
      have R7 := (HR2.out.kept S.kept (by omega)).widen (Nat.le_refl _) S.kept.size
      have HR7 : Hid _ := R7
      clear R7;replace X0 := X0.kp S.kept;replace c0 := X0.cell;replace f0 := X0.froz;replace X1 := X1.kp S.kept;replace c1 := X1.cell;replace f1 := X1.froz
      replace X2 : Bx V7 b2 [.slice N'.1 N'.2.1 N'.2.2, .slice sa (mn - 1) sc, .slice S'.1 S'.2.1 S'.2.2] := S.bx
      replace c2 := X2.cell;replace f2 := X2.froz;replace LZ := Nat.le_trans LZ S.kept.size;replace B := bkp B S.kept
      replace BW := BW.trans (S.kept.below _ (by omega) BW.size)
      clear S;clear hZq
      refine hKK _ _ trivial (fun hZq => ?_)
      clear hKK KK
      refine wpAnyH_done (by kernel_rfl) ?_ _
      have H1 : Hid _ := X1
      have H2 : Hid _ := X2
      have HLZ : Hid _ := LZ
      have HBW : Hid _ := BW
      have HBB : Hid _ := B
      clear X0 X1 X2 c0 f0 c1 f1 c2 f2 LZ BW B;go_wp2_with fail
      go_meet
      exact ⟨sa, sc, H1.out, H2.out, HR7.out, HLZ.out, HBW.out, HBB.out⟩
     ·rw [if_pos (by simp [Region.wanted])]
      unfold Oper.wp execOp
      go_simp
      clear hZq
      refine hKK _ _ trivial (fun hZq => ?_)
      clear hKK KK;refine tk 10 hZq ?_
      refine rd1 5 (fun KK hKK => ?_)
      obtain ⟨v1, w5, hr1, O1, BL⟩ := own_app HO.out (by decide) 33 j0 (.agg #[.int .i64 0, .int .i64 0, .int .i64 0, .int .i64 0, .int .i64 0, .bool false, .int .i64 0, .int .i64 0, .int .i64 0, .int .i64 0, .int .i64 0, .int .i64 0, .int .i64 0, .slice none 0 0, .int .i64 0]) 136 Tryz.underlying33 hj0 hy0 hy1 hy2 rfl (by omega) ⟨gm, om, none⟩ m mc _ ((HR0.out.below BW).pre (by omega)) (fun u hu => mail_one ya u (List.mem_of_mem_take hu)) (by omega) LZ
      refine step_append_run rfl _ _ _ _ rfl _ _ rfl rfl _ _ (hr1 33) ?_
      have HO1 : Hid _ := O1
      clear hr1 O1;replace X0 := X0.low BL lz0;replace c0 := X0.cell;replace f0 := X0.froz;replace X1 := X1.low BL lz1;replace c1 := X1.cell;replace f1 := X1.froz;replace X2 := X2.low BL lz2;replace c2 := X2.cell;replace f2 := X2.froz;replace LZ := Nat.le_trans LZ BL.size;replace BW := BW.trans (BL.mono lz1w);replace B := B.trans (BL.mono lzw);clear BL;clear hZq
      refine hKK _ _ trivial (fun hZq => ?_)
      clear hKK KK
      refine rd1 11 (fun KK hKK => ?_)
      have R2 := HR0.out.subK (by decide) (show m + 1 ≤ mn by omega) (Nat.le_refl _)
      rw [List.take_of_length_le (by rw [HDL.out];exact Nat.le_refl _)] at R2
      have hk0 : mn - 1 = 0 + m + (mn - (m + 1)) := by omega
      obtain ⟨v2, w6, hr2, O2, BL⟩ := own_app HO1.out (by decide) 33 j0 (.agg #[.int .i64 0, .int .i64 0, .int .i64 0, .int .i64 0, .int .i64 0, .bool false, .int .i64 0, .int .i64 0, .int .i64 0, .int .i64 0, .int .i64 0, .int .i64 0, .int .i64 0, .slice none 0 0, .int .i64 0]) 136 Tryz.underlying33 hj0 hy0 hy1 hy2 rfl (by omega) ⟨gm, om + (m + 1) * 15, none⟩ (mn - (m + 1)) (mc - (m + 1)) _ (R2.below BW) (fun u hu => mail_one ya u (List.mem_of_mem_drop hu)) (by omega) LZ
      rw [List.nil_append, ← hk0] at O2;refine step_append_run rfl _ _ _ _ rfl _ _ rfl rfl _ _ (hr2 33) ?_
      have HO2 : Hid _ := O2
      clear hr2 O2 R2;replace X0 := X0.low BL lz0;replace c0 := X0.cell;replace f0 := X0.froz;replace X1 := X1.low BL lz1;replace c1 := X1.cell;replace f1 := X1.froz;replace X2 := X2.low BL lz2;replace c2 := X2.cell;replace f2 := X2.froz;replace LZ := Nat.le_trans LZ BL.size;replace BW := BW.trans (BL.mono lz1w);replace B := B.trans (BL.mono lzw);clear BL;clear hZq
      refine hKK _ _ trivial (fun hZq => ?_)
      clear hKK KK;refine tk 12 hZq ?_
      refine rd1 13 (fun KK hKK => ?_)
      obtain ⟨sa, sc, hv2, R2, _⟩ := owns_slice HO2.out
      subst hv2
      have HR2 : Hid _ := R2
      clear R2
      refine step_oneX 33 X2 1 (.slice sa (mn - 1) sc) (by simp) (by kernel_rfl) rfl rfl rfl ?_
      intro V7 S
      have R7 := (HR2.out.kept S.kept (by omega)).widen (Nat.le_refl _) S.kept.size
      have HR7 : Hid _ := R7
      clear R7;replace X0 := X0.kp S.kept;replace c0 := X0.cell;replace f0 := X0.froz;replace X1 := X1.kp S.kept;replace c1 := X1.cell;replace f1 := X1.froz
      replace X2 : Bx V7 b2 [.slice N'.1 N'.2.1 N'.2.2, .slice sa (mn - 1) sc, .slice S'.1 S'.2.1 S'.2.2] := S.bx
      replace c2 := X2.cell;replace f2 := X2.froz;replace LZ := Nat.le_trans LZ S.kept.size;replace B := bkp B S.kept
      replace BW := BW.trans (S.kept.below _ (by omega) BW.size)
      clear S;clear hZq
      refine hKK _ _ trivial (fun hZq => ?_)
      clear hKK KK
      refine wpAnyH_done (by kernel_rfl) ?_ _
      have H1 : Hid _ := X1
      have H2 : Hid _ := X2
      have HLZ : Hid _ := LZ
      have HBW : Hid _ := BW
      have HBB : Hid _ := B
      clear X0 X1 X2 c0 f0 c1 f1 c2 f2 LZ BW B;go_wp2_with fail
      go_meet
      exact ⟨sa, sc, H1.out, H2.out, HR7.out, HLZ.out, HBW.out, HBB.out⟩
    ·rw [if_pos (by simp [Region.wanted])]
     unfold Oper.wp execOp
     go_simp
     clear hZq
     refine hKK _ _ trivial (fun hZq => ?_)
     clear hKK KK;refine tk 10 hZq ?_
     refine rd1 2 (fun KK hKK => ?_)
     rw [if_pos (by simp [Region.wanted])]
     unfold Oper.wp execOp
     go_simp
     clear hZq
     refine hKK _ _ trivial (fun hZq => ?_)
     clear hKK KK;refine tk 4 hZq ?_
     refine rd1 5 (fun KK hKK => ?_)
     obtain ⟨v1, w5, hr1, O1, BL⟩ := own_app HO.out (by decide) 33 j0 (.agg #[.int .i64 0, .int .i64 0, .int .i64 0, .int .i64 0, .int .i64 0, .bool false, .int .i64 0, .int .i64 0, .int .i64 0, .int .i64 0, .int .i64 0, .int .i64 0, .int .i64 0, .slice none 0 0, .int .i64 0]) 136 Tryz.underlying33 hj0 hy0 hy1 hy2 rfl (by omega) ⟨gm, om, none⟩ m mc _ ((HR0.out.below BW).pre (by omega)) (fun u hu => mail_one ya u (List.mem_of_mem_take hu)) (by omega) LZ
     refine step_append_run rfl _ _ _ _ rfl _ _ rfl rfl _ _ (hr1 33) ?_
     have HO1 : Hid _ := O1
     clear hr1 O1;replace X0 := X0.low BL lz0;replace c0 := X0.cell;replace f0 := X0.froz;replace X1 := X1.low BL lz1;replace c1 := X1.cell;replace f1 := X1.froz;replace X2 := X2.low BL lz2;replace c2 := X2.cell;replace f2 := X2.froz;replace LZ := Nat.le_trans LZ BL.size;replace BW := BW.trans (BL.mono lz1w);replace B := B.trans (BL.mono lzw);clear BL;clear hZq
     refine hKK _ _ trivial (fun hZq => ?_)
     clear hKK KK
     refine rd1 11 (fun KK hKK => ?_)
     have R2 := HR0.out.subK (by decide) (show m + 1 ≤ mn by omega) (Nat.le_refl _)
     rw [List.take_of_length_le (by rw [HDL.out];exact Nat.le_refl _)] at R2
     have hk0 : mn - 1 = 0 + m + (mn - (m + 1)) := by omega
     obtain ⟨v2, w6, hr2, O2, BL⟩ := own_app HO1.out (by decide) 33 j0 (.agg #[.int .i64 0, .int .i64 0, .int .i64 0, .int .i64 0, .int .i64 0, .bool false, .int .i64 0, .int .i64 0, .int .i64 0, .int .i64 0, .int .i64 0, .int .i64 0, .int .i64 0, .slice none 0 0, .int .i64 0]) 136 Tryz.underlying33 hj0 hy0 hy1 hy2 rfl (by omega) ⟨gm, om + (m + 1) * 15, none⟩ (mn - (m + 1)) (mc - (m + 1)) _ (R2.below BW) (fun u hu => mail_one ya u (List.mem_of_mem_drop hu)) (by omega) LZ
     rw [List.nil_append, ← hk0] at O2;refine step_append_run rfl _ _ _ _ rfl _ _ rfl rfl _ _ (hr2 33) ?_
     have HO2 : Hid _ := O2
     clear hr2 O2 R2;replace X0 := X0.low BL lz0;replace c0 := X0.cell;replace f0 := X0.froz;replace X1 := X1.low BL lz1;replace c1 := X1.cell;replace f1 := X1.froz;replace X2 := X2.low BL lz2;replace c2 := X2.cell;replace f2 := X2.froz;replace LZ := Nat.le_trans LZ BL.size;replace BW := BW.trans (BL.mono lz1w);replace B := B.trans (BL.mono lzw);clear BL;clear hZq
     refine hKK _ _ trivial (fun hZq => ?_)
     clear hKK KK;refine tk 12 hZq ?_
     refine rd1 13 (fun KK hKK => ?_)
     obtain ⟨sa, sc, hv2, R2, _⟩ := owns_slice HO2.out
     subst hv2
     have HR2 : Hid _ := R2
     clear R2
     refine step_oneX 33 X2 1 (.slice sa (mn - 1) sc) (by simp) (by kernel_rfl) rfl rfl rfl ?_
     intro V7 S
     have R7 := (HR2.out.kept S.kept (by omega)).widen (Nat.le_refl _) S.kept.size
     have HR7 : Hid _ := R7
     clear R7;replace X0 := X0.kp S.kept;replace c0 := X0.cell;replace f0 := X0.froz;replace X1 := X1.kp S.kept;replace c1 := X1.cell;replace f1 := X1.froz
     replace X2 : Bx V7 b2 [.slice N'.1 N'.2.1 N'.2.2, .slice sa (mn - 1) sc, .slice S'.1 S'.2.1 S'.2.2] := S.bx
     replace c2 := X2.cell;replace f2 := X2.froz;replace LZ := Nat.le_trans LZ S.kept.size;replace B := bkp B S.kept
     replace BW := BW.trans (S.kept.below _ (by omega) BW.size)
     clear S;clear hZq
     refine hKK _ _ trivial (fun hZq => ?_)
     clear hKK KK
     refine wpAnyH_done (by kernel_rfl) ?_ _
     have H1 : Hid _ := X1
     have H2 : Hid _ := X2
     have HLZ : Hid _ := LZ
     have HBW : Hid _ := BW
     have HBB : Hid _ := B
     clear X0 X1 X2 c0 f0 c1 f1 c2 f2 LZ BW B;go_wp2_with fail
     go_meet
     exact ⟨sa, sc, H1.out, H2.out, HR7.out, HLZ.out, HBW.out, HBB.out⟩
   ·rw [if_pos (by simp [Region.wanted])]
    unfold Oper.wp execOp
    go_simp
    clear hZq
    refine hKK _ _ trivial (fun hZq => ?_)
    clear hKK KK;refine tk 4 hZq ?_
    refine wpAnyH_ready (rs := [0, 7]) (by kernel_rfl) (by simp) ?_
    refine (AllReadyH.cons rfl (fun KK hKK => ?_) (AllReadyH.cons rfl (fun KK hKK => ?_) AllReadyH.nil))
    ·refine step_lit0 33 96 (fun _ => by kernel_rfl) ?_
     intro bl Wl hge hcl BBl
     have HO : Hid (Wl.ownsRow zz 96 15 (.slice (some ⟨bl, 0, none⟩) 0 0) 0 []) := own_none hcl zz (Nat.le_trans LZ hge)
     replace X0 := X0.below BBl;replace c0 := X0.cell;replace f0 := X0.froz;replace X1 := X1.below BBl;replace c1 := X1.cell;replace f1 := X1.froz;replace X2 := X2.below BBl;replace c2 := X2.cell;replace f2 := X2.froz;replace LZ := Nat.le_trans LZ BBl.size;replace B := below_next B BBl;replace BW := below_next BW BBl;clear BBl hcl hge;clear hZq
     refine hKK _ _ trivial (fun hZq => ?_)
     clear hKK KK
     refine wpAnyH_ready (rs := [5, 7]) (by kernel_rfl) (by simp) ?_
     refine (AllReadyH.cons rfl (fun KK hKK => ?_) (AllReadyH.cons rfl (fun KK hKK => ?_) AllReadyH.nil))
     ·obtain ⟨v1, w5, hr1, O1, BL⟩ := own_app HO.out (by decide) 33 j0 (.agg #[.int .i64 0, .int .i64 0, .int .i64 0, .int .i64 0, .int .i64 0, .bool false, .int .i64 0, .int .i64 0, .int .i64 0, .int .i64 0, .int .i64 0, .int .i64 0, .int .i64 0, .slice none 0 0, .int .i64 0]) 136 Tryz.underlying33 hj0 hy0 hy1 hy2 rfl (by omega) ⟨gm, om, none⟩ m mc _ ((HR0.out.below BW).pre (by omega)) (fun u hu => mail_one ya u (List.mem_of_mem_take hu)) (by omega) LZ
      refine step_append_run rfl _ _ _ _ rfl _ _ rfl rfl _ _ (hr1 33) ?_
      have HO1 : Hid _ := O1
      clear hr1 O1;replace X0 := X0.low BL lz0;replace c0 := X0.cell;replace f0 := X0.froz;replace X1 := X1.low BL lz1;replace c1 := X1.cell;replace f1 := X1.froz;replace X2 := X2.low BL lz2;replace c2 := X2.cell;replace f2 := X2.froz;replace LZ := Nat.le_trans LZ BL.size;replace BW := BW.trans (BL.mono lz1w);replace B := B.trans (BL.mono lzw);clear BL;clear hZq
      refine hKK _ _ trivial (fun hZq => ?_)
      clear hKK KK
      refine rd1 7 (fun KK hKK => ?_)
      rw [if_pos (by simp [Region.wanted])]
      unfold Oper.wp execOp
      go_simp
      clear hZq
      refine hKK _ _ trivial (fun hZq => ?_)
      clear hKK KK;refine tk 10 hZq ?_
      refine rd1 11 (fun KK hKK => ?_)
      have R2 := HR0.out.subK (by decide) (show m + 1 ≤ mn by omega) (Nat.le_refl _)
      rw [List.take_of_length_le (by rw [HDL.out];exact Nat.le_refl _)] at R2
      have hk0 : mn - 1 = 0 + m + (mn - (m + 1)) := by omega
      obtain ⟨v2, w6, hr2, O2, BL⟩ := own_app HO1.out (by decide) 33 j0 (.agg #[.int .i64 0, .int .i64 0, .int .i64 0, .int .i64 0, .int .i64 0, .bool false, .int .i64 0, .int .i64 0, .int .i64 0, .int .i64 0, .int .i64 0, .int .i64 0, .int .i64 0, .slice none 0 0, .int .i64 0]) 136 Tryz.underlying33 hj0 hy0 hy1 hy2 rfl (by omega) ⟨gm, om + (m + 1) * 15, none⟩ (mn - (m + 1)) (mc - (m + 1)) _ (R2.below BW) (fun u hu => mail_one ya u (List.mem_of_mem_drop hu)) (by omega) LZ
      rw [List.nil_append, ← hk0] at O2;refine step_append_run rfl _ _ _ _ rfl _ _ rfl rfl _ _ (hr2 33) ?_
      have HO2 : Hid _ := O2
      clear hr2 O2 R2;replace X0 := X0.low BL lz0;replace c0 := X0.cell;replace f0 := X0.froz;replace X1 := X1.low BL lz1;replace c1 := X1.cell;replace f1 := X1.froz;replace X2 := X2.low BL lz2;replace c2 := X2.cell;replace f2 := X2.froz;replace LZ := Nat.le_trans LZ BL.size;replace BW := BW.trans (BL.mono lz1w);replace B := B.trans (BL.mono lzw);clear BL;clear hZq
      refine hKK _ _ trivial (fun hZq => ?_)
      clear hKK KK;refine tk 12 hZq ?_
      refine rd1 13 (fun KK hKK => ?_)
      obtain ⟨sa, sc, hv2, R2, _⟩ := owns_slice HO2.out
      subst hv2
      have HR2 : Hid _ := R2
      clear R2
      refine step_oneX 33 X2 1 (.slice sa (mn - 1) sc) (by simp) (by kernel_rfl) rfl rfl rfl ?_
      intro V7 S
      have R7 := (HR2.out.kept S.kept (by omega)).widen (Nat.le_refl _) S.kept.size
      have HR7 : Hid _ := R7
      clear R7;replace X0 := X0.kp S.kept;replace c0 := X0.cell;replace f0 := X0.froz;replace X1 := X1.kp S.kept;replace c1 := X1.cell;replace f1 := X1.froz
      replace X2 : Bx V7 b2 [.slice N'.1 N'.2.1 N'.2.2, .slice sa (mn - 1) sc, .slice S'.1 S'.2.1 S'.2.2] := S.bx
      replace c2 := X2.cell;replace f2 := X2.froz;replace LZ := Nat.le_trans LZ S.kept.size;replace B := bkp B S.kept
      replace BW := BW.trans (S.kept.below _ (by omega) BW.size)
      clear S;clear hZq
      refine hKK _ _ trivial (fun hZq => ?_)
      clear hKK KK
      refine wpAnyH_done (by kernel_rfl) ?_ _
      have H1 : Hid _ := X1
      have H2 : Hid _ := X2
      have HLZ : Hid _ := LZ
      have HBW : Hid _ := BW
      have HBB : Hid _ := B
      clear X0 X1 X2 c0 f0 c1 f1 c2 f2 LZ BW B;go_wp2_with fail
      go_meet
      exact ⟨sa, sc, H1.out, H2.out, HR7.out, HLZ.out, HBW.out, HBB.out⟩
     ·rw [if_pos (by simp [Region.wanted])]
      unfold Oper.wp execOp
      go_simp
      clear hZq
      refine hKK _ _ trivial (fun hZq => ?_)
      clear hKK KK;refine tk 10 hZq ?_
      refine rd1 5 (fun KK hKK => ?_)
      obtain ⟨v1, w5, hr1, O1, BL⟩ := own_app HO.out (by decide) 33 j0 (.agg #[.int .i64 0, .int .i64 0, .int .i64 0, .int .i64 0, .int .i64 0, .bool false, .int .i64 0, .int .i64 0, .int .i64 0, .int .i64 0, .int .i64 0, .int .i64 0, .int .i64 0, .slice none 0 0, .int .i64 0]) 136 Tryz.underlying33 hj0 hy0 hy1 hy2 rfl (by omega) ⟨gm, om, none⟩ m mc _ ((HR0.out.below BW).pre (by omega)) (fun u hu => mail_one ya u (List.mem_of_mem_take hu)) (by omega) LZ
      refine step_append_run rfl _ _ _ _ rfl _ _ rfl rfl _ _ (hr1 33) ?_
      have HO1 : Hid _ := O1
      clear hr1 O1;replace X0 := X0.low BL lz0;replace c0 := X0.cell;replace f0 := X0.froz;replace X1 := X1.low BL lz1;replace c1 := X1.cell;replace f1 := X1.froz;replace X2 := X2.low BL lz2;replace c2 := X2.cell;replace f2 := X2.froz;replace LZ := Nat.le_trans LZ BL.size;replace BW := BW.trans (BL.mono lz1w);replace B := B.trans (BL.mono lzw);clear BL;clear hZq
      refine hKK _ _ trivial (fun hZq => ?_)
      clear hKK KK
      refine rd1 11 (fun KK hKK => ?_)
      have R2 := HR0.out.subK (by decide) (show m + 1 ≤ mn by omega) (Nat.le_refl _)
      rw [List.take_of_length_le (by rw [HDL.out];exact Nat.le_refl _)] at R2
      have hk0 : mn - 1 = 0 + m + (mn - (m + 1)) := by omega
      obtain ⟨v2, w6, hr2, O2, BL⟩ := own_app HO1.out (by decide) 33 j0 (.agg #[.int .i64 0, .int .i64 0, .int .i64 0, .int .i64 0, .int .i64 0, .bool false, .int .i64 0, .int .i64 0, .int .i64 0, .int .i64 0, .int .i64 0, .int .i64 0, .int .i64 0, .slice none 0 0, .int .i64 0]) 136 Tryz.underlying33 hj0 hy0 hy1 hy2 rfl (by omega) ⟨gm, om + (m + 1) * 15, none⟩ (mn - (m + 1)) (mc - (m + 1)) _ (R2.below BW) (fun u hu => mail_one ya u (List.mem_of_mem_drop hu)) (by omega) LZ
      rw [List.nil_append, ← hk0] at O2;refine step_append_run rfl _ _ _ _ rfl _ _ rfl rfl _ _ (hr2 33) ?_
      have HO2 : Hid _ := O2
      clear hr2 O2 R2;replace X0 := X0.low BL lz0;replace c0 := X0.cell;replace f0 := X0.froz;replace X1 := X1.low BL lz1;replace c1 := X1.cell;replace f1 := X1.froz;replace X2 := X2.low BL lz2;replace c2 := X2.cell;replace f2 := X2.froz;replace LZ := Nat.le_trans LZ BL.size;replace BW := BW.trans (BL.mono lz1w);replace B := B.trans (BL.mono lzw);clear BL;clear hZq
      refine hKK _ _ trivial (fun hZq => ?_)
      clear hKK KK;refine tk 12 hZq ?_
      refine rd1 13 (fun KK hKK => ?_)
      obtain ⟨sa, sc, hv2, R2, _⟩ := owns_slice HO2.out
      subst hv2
      have HR2 : Hid _ := R2
      clear R2
      refine step_oneX 33 X2 1 (.slice sa (mn - 1) sc) (by simp) (by kernel_rfl) rfl rfl rfl ?_
      intro V7 S
      have R7 := (HR2.out.kept S.kept (by omega)).widen (Nat.le_refl _) S.kept.size
      have HR7 : Hid _ := R7
      clear R7;replace X0 := X0.kp S.kept;replace c0 := X0.cell;replace f0 := X0.froz;replace X1 := X1.kp S.kept;replace c1 := X1.cell;replace f1 := X1.froz
      replace X2 : Bx V7 b2 [.slice N'.1 N'.2.1 N'.2.2, .slice sa (mn - 1) sc, .slice S'.1 S'.2.1 S'.2.2] := S.bx
      replace c2 := X2.cell;replace f2 := X2.froz;replace LZ := Nat.le_trans LZ S.kept.size;replace B := bkp B S.kept
      replace BW := BW.trans (S.kept.below _ (by omega) BW.size)
      clear S;clear hZq
      refine hKK _ _ trivial (fun hZq => ?_)
      clear hKK KK
      refine wpAnyH_done (by kernel_rfl) ?_ _
      have H1 : Hid _ := X1
      have H2 : Hid _ := X2
      have HLZ : Hid _ := LZ
      have HBW : Hid _ := BW
      have HBB : Hid _ := B
      clear X0 X1 X2 c0 f0 c1 f1 c2 f2 LZ BW B;go_wp2_with fail
      go_meet
      exact ⟨sa, sc, H1.out, H2.out, HR7.out, HLZ.out, HBW.out, HBB.out⟩
    ·rw [if_pos (by simp [Region.wanted])]
     unfold Oper.wp execOp
     go_simp
     clear hZq
     refine hKK _ _ trivial (fun hZq => ?_)
     clear hKK KK;refine tk 10 hZq ?_
     refine rd1 0 (fun KK hKK => ?_)
     refine step_lit0 33 96 (fun _ => by kernel_rfl) ?_
     intro bl Wl hge hcl BBl
     have HO : Hid (Wl.ownsRow zz 96 15 (.slice (some ⟨bl, 0, none⟩) 0 0) 0 []) := own_none hcl zz (Nat.le_trans LZ hge)
     replace X0 := X0.below BBl;replace c0 := X0.cell;replace f0 := X0.froz;replace X1 := X1.below BBl;replace c1 := X1.cell;replace f1 := X1.froz;replace X2 := X2.below BBl;replace c2 := X2.cell;replace f2 := X2.froz;replace LZ := Nat.le_trans LZ BBl.size;replace B := below_next B BBl;replace BW := below_next BW BBl;clear BBl hcl hge;clear hZq
     refine hKK _ _ trivial (fun hZq => ?_)
     clear hKK KK
     refine rd1 5 (fun KK hKK => ?_)
     obtain ⟨v1, w5, hr1, O1, BL⟩ := own_app HO.out (by decide) 33 j0 (.agg #[.int .i64 0, .int .i64 0, .int .i64 0, .int .i64 0, .int .i64 0, .bool false, .int .i64 0, .int .i64 0, .int .i64 0, .int .i64 0, .int .i64 0, .int .i64 0, .int .i64 0, .slice none 0 0, .int .i64 0]) 136 Tryz.underlying33 hj0 hy0 hy1 hy2 rfl (by omega) ⟨gm, om, none⟩ m mc _ ((HR0.out.below BW).pre (by omega)) (fun u hu => mail_one ya u (List.mem_of_mem_take hu)) (by omega) LZ
     refine step_append_run rfl _ _ _ _ rfl _ _ rfl rfl _ _ (hr1 33) ?_
     have HO1 : Hid _ := O1
     clear hr1 O1;replace X0 := X0.low BL lz0;replace c0 := X0.cell;replace f0 := X0.froz;replace X1 := X1.low BL lz1;replace c1 := X1.cell;replace f1 := X1.froz;replace X2 := X2.low BL lz2;replace c2 := X2.cell;replace f2 := X2.froz;replace LZ := Nat.le_trans LZ BL.size;replace BW := BW.trans (BL.mono lz1w);replace B := B.trans (BL.mono lzw);clear BL;clear hZq
     refine hKK _ _ trivial (fun hZq => ?_)
     clear hKK KK
     refine rd1 11 (fun KK hKK => ?_)
     have R2 := HR0.out.subK (by decide) (show m + 1 ≤ mn by omega) (Nat.le_refl _)
     rw [List.take_of_length_le (by rw [HDL.out];exact Nat.le_refl _)] at R2
     have hk0 : mn - 1 = 0 + m + (mn - (m + 1)) := by omega
     obtain ⟨v2, w6, hr2, O2, BL⟩ := own_app HO1.out (by decide) 33 j0 (.agg #[.int .i64 0, .int .i64 0, .int .i64 0, .int .i64 0, .int .i64 0, .bool false, .int .i64 0, .int .i64 0, .int .i64 0, .int .i64 0, .int .i64 0, .int .i64 0, .int .i64 0, .slice none 0 0, .int .i64 0]) 136 Tryz.underlying33 hj0 hy0 hy1 hy2 rfl (by omega) ⟨gm, om + (m + 1) * 15, none⟩ (mn - (m + 1)) (mc - (m + 1)) _ (R2.below BW) (fun u hu => mail_one ya u (List.mem_of_mem_drop hu)) (by omega) LZ
     rw [List.nil_append, ← hk0] at O2;refine step_append_run rfl _ _ _ _ rfl _ _ rfl rfl _ _ (hr2 33) ?_
     have HO2 : Hid _ := O2
     clear hr2 O2 R2;replace X0 := X0.low BL lz0;replace c0 := X0.cell;replace f0 := X0.froz;replace X1 := X1.low BL lz1;replace c1 := X1.cell;replace f1 := X1.froz;replace X2 := X2.low BL lz2;replace c2 := X2.cell;replace f2 := X2.froz;replace LZ := Nat.le_trans LZ BL.size;replace BW := BW.trans (BL.mono lz1w);replace B := B.trans (BL.mono lzw);clear BL;clear hZq
     refine hKK _ _ trivial (fun hZq => ?_)
     clear hKK KK;refine tk 12 hZq ?_
     refine rd1 13 (fun KK hKK => ?_)
     obtain ⟨sa, sc, hv2, R2, _⟩ := owns_slice HO2.out
     subst hv2
     have HR2 : Hid _ := R2
     clear R2
     refine step_oneX 33 X2 1 (.slice sa (mn - 1) sc) (by simp) (by kernel_rfl) rfl rfl rfl ?_
     intro V7 S
     have R7 := (HR2.out.kept S.kept (by omega)).widen (Nat.le_refl _) S.kept.size
     have HR7 : Hid _ := R7
     clear R7;replace X0 := X0.kp S.kept;replace c0 := X0.cell;replace f0 := X0.froz;replace X1 := X1.kp S.kept;replace c1 := X1.cell;replace f1 := X1.froz
     replace X2 : Bx V7 b2 [.slice N'.1 N'.2.1 N'.2.2, .slice sa (mn - 1) sc, .slice S'.1 S'.2.1 S'.2.2] := S.bx
     replace c2 := X2.cell;replace f2 := X2.froz;replace LZ := Nat.le_trans LZ S.kept.size;replace B := bkp B S.kept
     replace BW := BW.trans (S.kept.below _ (by omega) BW.size)
     clear S;clear hZq
     refine hKK _ _ trivial (fun hZq => ?_)
     clear hKK KK
     refine wpAnyH_done (by kernel_rfl) ?_ _
     have H1 : Hid _ := X1
     have H2 : Hid _ := X2
     have HLZ : Hid _ := LZ
     have HBW : Hid _ := BW
     have HBB : Hid _ := B
     clear X0 X1 X2 c0 f0 c1 f1 c2 f2 LZ BW B;go_wp2_with fail
     go_meet
     exact ⟨sa, sc, H1.out, H2.out, HR7.out, HLZ.out, HBW.out, HBB.out⟩
   ·rw [if_pos (by simp [Region.wanted])]
    unfold Oper.wp execOp
    go_simp
    clear hZq
    refine hKK _ _ trivial (fun hZq => ?_)
    clear hKK KK;refine tk 10 hZq ?_
    refine wpAnyH_ready (rs := [0, 2]) (by kernel_rfl) (by simp) ?_
    refine (AllReadyH.cons rfl (fun KK hKK => ?_) (AllReadyH.cons rfl (fun KK hKK => ?_) AllReadyH.nil))
    ·refine step_lit0 33 96 (fun _ => by kernel_rfl) ?_
     intro bl Wl hge hcl BBl
     have HO : Hid (Wl.ownsRow zz 96 15 (.slice (some ⟨bl, 0, none⟩) 0 0) 0 []) := own_none hcl zz (Nat.le_trans LZ hge)
     replace X0 := X0.below BBl;replace c0 := X0.cell;replace f0 := X0.froz;replace X1 := X1.below BBl;replace c1 := X1.cell;replace f1 := X1.froz;replace X2 := X2.below BBl;replace c2 := X2.cell;replace f2 := X2.froz;replace LZ := Nat.le_trans LZ BBl.size;replace B := below_next B BBl;replace BW := below_next BW BBl;clear BBl hcl hge;clear hZq
     refine hKK _ _ trivial (fun hZq => ?_)
     clear hKK KK
     refine rd1 2 (fun KK hKK => ?_)
     rw [if_pos (by simp [Region.wanted])]
     unfold Oper.wp execOp
     go_simp
     clear hZq
     refine hKK _ _ trivial (fun hZq => ?_)
     clear hKK KK;refine tk 4 hZq ?_
     refine rd1 5 (fun KK hKK => ?_)
     obtain ⟨v1, w5, hr1, O1, BL⟩ := own_app HO.out (by decide) 33 j0 (.agg #[.int .i64 0, .int .i64 0, .int .i64 0, .int .i64 0, .int .i64 0, .bool false, .int .i64 0, .int .i64 0, .int .i64 0, .int .i64 0, .int .i64 0, .int .i64 0, .int .i64 0, .slice none 0 0, .int .i64 0]) 136 Tryz.underlying33 hj0 hy0 hy1 hy2 rfl (by omega) ⟨gm, om, none⟩ m mc _ ((HR0.out.below BW).pre (by omega)) (fun u hu => mail_one ya u (List.mem_of_mem_take hu)) (by omega) LZ
     refine step_append_run rfl _ _ _ _ rfl _ _ rfl rfl _ _ (hr1 33) ?_
     have HO1 : Hid _ := O1
     clear hr1 O1;replace X0 := X0.low BL lz0;replace c0 := X0.cell;replace f0 := X0.froz;replace X1 := X1.low BL lz1;replace c1 := X1.cell;replace f1 := X1.froz;replace X2 := X2.low BL lz2;replace c2 := X2.cell;replace f2 := X2.froz;replace LZ := Nat.le_trans LZ BL.size;replace BW := BW.trans (BL.mono lz1w);replace B := B.trans (BL.mono lzw);clear BL;clear hZq
     refine hKK _ _ trivial (fun hZq => ?_)
     clear hKK KK
     refine rd1 11 (fun KK hKK => ?_)
     have R2 := HR0.out.subK (by decide) (show m + 1 ≤ mn by omega) (Nat.le_refl _)
     rw [List.take_of_length_le (by rw [HDL.out];exact Nat.le_refl _)] at R2
     have hk0 : mn - 1 = 0 + m + (mn - (m + 1)) := by omega
     obtain ⟨v2, w6, hr2, O2, BL⟩ := own_app HO1.out (by decide) 33 j0 (.agg #[.int .i64 0, .int .i64 0, .int .i64 0, .int .i64 0, .int .i64 0, .bool false, .int .i64 0, .int .i64 0, .int .i64 0, .int .i64 0, .int .i64 0, .int .i64 0, .int .i64 0, .slice none 0 0, .int .i64 0]) 136 Tryz.underlying33 hj0 hy0 hy1 hy2 rfl (by omega) ⟨gm, om + (m + 1) * 15, none⟩ (mn - (m + 1)) (mc - (m + 1)) _ (R2.below BW) (fun u hu => mail_one ya u (List.mem_of_mem_drop hu)) (by omega) LZ
     rw [List.nil_append, ← hk0] at O2;refine step_append_run rfl _ _ _ _ rfl _ _ rfl rfl _ _ (hr2 33) ?_
     have HO2 : Hid _ := O2
     clear hr2 O2 R2;replace X0 := X0.low BL lz0;replace c0 := X0.cell;replace f0 := X0.froz;replace X1 := X1.low BL lz1;replace c1 := X1.cell;replace f1 := X1.froz;replace X2 := X2.low BL lz2;replace c2 := X2.cell;replace f2 := X2.froz;replace LZ := Nat.le_trans LZ BL.size;replace BW := BW.trans (BL.mono lz1w);replace B := B.trans (BL.mono lzw);clear BL;clear hZq
     refine hKK _ _ trivial (fun hZq => ?_)
     clear hKK KK;refine tk 12 hZq ?_
     refine rd1 13 (fun KK hKK => ?_)
     obtain ⟨sa, sc, hv2, R2, _⟩ := owns_slice HO2.out
     subst hv2
     have HR2 : Hid _ := R2
     clear R2
     refine step_oneX 33 X2 1 (.slice sa (mn - 1) sc) (by simp) (by kernel_rfl) rfl rfl rfl ?_
     intro V7 S
     have R7 := (HR2.out.kept S.kept (by omega)).widen (Nat.le_refl _) S.kept.size
     have HR7 : Hid _ := R7
     clear R7;replace X0 := X0.kp S.kept;replace c0 := X0.cell;replace f0 := X0.froz;replace X1 := X1.kp S.kept;replace c1 := X1.cell;replace f1 := X1.froz
     replace X2 : Bx V7 b2 [.slice N'.1 N'.2.1 N'.2.2, .slice sa (mn - 1) sc, .slice S'.1 S'.2.1 S'.2.2] := S.bx
     replace c2 := X2.cell;replace f2 := X2.froz;replace LZ := Nat.le_trans LZ S.kept.size;replace B := bkp B S.kept
     replace BW := BW.trans (S.kept.below _ (by omega) BW.size)
     clear S;clear hZq
     refine hKK _ _ trivial (fun hZq => ?_)
     clear hKK KK
     refine wpAnyH_done (by kernel_rfl) ?_ _
     have H1 : Hid _ := X1
     have H2 : Hid _ := X2
     have HLZ : Hid _ := LZ
     have HBW : Hid _ := BW
     have HBB : Hid _ := B
     clear X0 X1 X2 c0 f0 c1 f1 c2 f2 LZ BW B;go_wp2_with fail
     go_meet
     exact ⟨sa, sc, H1.out, H2.out, HR7.out, HLZ.out, HBW.out, HBB.out⟩
    ·rw [if_pos (by simp [Region.wanted])]
     unfold Oper.wp execOp
     go_simp
     clear hZq
     refine hKK _ _ trivial (fun hZq => ?_)
     clear hKK KK;refine tk 4 hZq ?_
     refine rd1 0 (fun KK hKK => ?_)
     refine step_lit0 33 96 (fun _ => by kernel_rfl) ?_
     intro bl Wl hge hcl BBl
     have HO : Hid (Wl.ownsRow zz 96 15 (.slice (some ⟨bl, 0, none⟩) 0 0) 0 []) := own_none hcl zz (Nat.le_trans LZ hge)
     replace X0 := X0.below BBl;replace c0 := X0.cell;replace f0 := X0.froz;replace X1 := X1.below BBl;replace c1 := X1.cell;replace f1 := X1.froz;replace X2 := X2.below BBl;replace c2 := X2.cell;replace f2 := X2.froz;replace LZ := Nat.le_trans LZ BBl.size;replace B := below_next B BBl;replace BW := below_next BW BBl;clear BBl hcl hge;clear hZq
     refine hKK _ _ trivial (fun hZq => ?_)
     clear hKK KK
     refine rd1 5 (fun KK hKK => ?_)
     obtain ⟨v1, w5, hr1, O1, BL⟩ := own_app HO.out (by decide) 33 j0 (.agg #[.int .i64 0, .int .i64 0, .int .i64 0, .int .i64 0, .int .i64 0, .bool false, .int .i64 0, .int .i64 0, .int .i64 0, .int .i64 0, .int .i64 0, .int .i64 0, .int .i64 0, .slice none 0 0, .int .i64 0]) 136 Tryz.underlying33 hj0 hy0 hy1 hy2 rfl (by omega) ⟨gm, om, none⟩ m mc _ ((HR0.out.below BW).pre (by omega)) (fun u hu => mail_one ya u (List.mem_of_mem_take hu)) (by omega) LZ
     refine step_append_run rfl _ _ _ _ rfl _ _ rfl rfl _ _ (hr1 33) ?_
     have HO1 : Hid _ := O1
     clear hr1 O1;replace X0 := X0.low BL lz0;replace c0 := X0.cell;replace f0 := X0.froz;replace X1 := X1.low BL lz1;replace c1 := X1.cell;replace f1 := X1.froz;replace X2 := X2.low BL lz2;replace c2 := X2.cell;replace f2 := X2.froz;replace LZ := Nat.le_trans LZ BL.size;replace BW := BW.trans (BL.mono lz1w);replace B := B.trans (BL.mono lzw);clear BL;clear hZq
     refine hKK _ _ trivial (fun hZq => ?_)
     clear hKK KK
     refine rd1 11 (fun KK hKK => ?_)
     have R2 := HR0.out.subK (by decide) (show m + 1 ≤ mn by omega) (Nat.le_refl _)
     rw [List.take_of_length_le (by rw [HDL.out];exact Nat.le_refl _)] at R2
     have hk0 : mn - 1 = 0 + m + (mn - (m + 1)) := by omega
     obtain ⟨v2, w6, hr2, O2, BL⟩ := own_app HO1.out (by decide) 33 j0 (.agg #[.int .i64 0, .int .i64 0, .int .i64 0, .int .i64 0, .int .i64 0, .bool false, .int .i64 0, .int .i64 0, .int .i64 0, .int .i64 0, .int .i64 0, .int .i64 0, .int .i64 0, .slice none 0 0, .int .i64 0]) 136 Tryz.underlying33 hj0 hy0 hy1 hy2 rfl (by omega) ⟨gm, om + (m + 1) * 15, none⟩ (mn - (m + 1)) (mc - (m + 1)) _ (R2.below BW) (fun u hu => mail_one ya u (List.mem_of_mem_drop hu)) (by omega) LZ
     rw [List.nil_append, ← hk0] at O2;refine step_append_run rfl _ _ _ _ rfl _ _ rfl rfl _ _ (hr2 33) ?_
     have HO2 : Hid _ := O2
     clear hr2 O2 R2;replace X0 := X0.low BL lz0;replace c0 := X0.cell;replace f0 := X0.froz;replace X1 := X1.low BL lz1;replace c1 := X1.cell;replace f1 := X1.froz;replace X2 := X2.low BL lz2;replace c2 := X2.cell;replace f2 := X2.froz;replace LZ := Nat.le_trans LZ BL.size;replace BW := BW.trans (BL.mono lz1w);replace B := B.trans (BL.mono lzw);clear BL;clear hZq
     refine hKK _ _ trivial (fun hZq => ?_)
     clear hKK KK;refine tk 12 hZq ?_
     refine rd1 13 (fun KK hKK => ?_)
     obtain ⟨sa, sc, hv2, R2, _⟩ := owns_slice HO2.out
     subst hv2
     have HR2 : Hid _ := R2
     clear R2
     refine step_oneX 33 X2 1 (.slice sa (mn - 1) sc) (by simp) (by kernel_rfl) rfl rfl rfl ?_
     intro V7 S
     have R7 := (HR2.out.kept S.kept (by omega)).widen (Nat.le_refl _) S.kept.size
     have HR7 : Hid _ := R7
     clear R7;replace X0 := X0.kp S.kept;replace c0 := X0.cell;replace f0 := X0.froz;replace X1 := X1.kp S.kept;replace c1 := X1.cell;replace f1 := X1.froz
     replace X2 : Bx V7 b2 [.slice N'.1 N'.2.1 N'.2.2, .slice sa (mn - 1) sc, .slice S'.1 S'.2.1 S'.2.2] := S.bx
     replace c2 := X2.cell;replace f2 := X2.froz;replace LZ := Nat.le_trans LZ S.kept.size;replace B := bkp B S.kept
     replace BW := BW.trans (S.kept.below _ (by omega) BW.size)
     clear S;clear hZq
     refine hKK _ _ trivial (fun hZq => ?_)
     clear hKK KK
     refine wpAnyH_done (by kernel_rfl) ?_ _
     have H1 : Hid _ := X1
     have H2 : Hid _ := X2
     have HLZ : Hid _ := LZ
     have HBW : Hid _ := BW
     have HBB : Hid _ := B
     clear X0 X1 X2 c0 f0 c1 f1 c2 f2 LZ BW B;go_wp2_with fail
     go_meet
     exact ⟨sa, sc, H1.out, H2.out, HR7.out, HLZ.out, HBW.out, HBB.out⟩
 case rest =>
  clear X0 c0 f0 X1 c1 f1 X2 c2 f2 LZ BW B
  obtain ⟨sa, sc, X1, X2, R7, LZ, BW', B⟩ := hcut
  rename World => wq
  have c1 := X1.cell;have f1 := X1.froz;have c2 := X2.cell;have f2 := X2.froz
  have HR7 : Hid _ := R7
  clear R7
  go_wp2_with (first | ((with_reducible refine sm 36 X1 0 [.slice N'.1 N'.2.1 N'.2.2, .slice sa (mn - 1) sc, .slice S'.1 S'.2.1 S'.2.2] ?_);intro V21 S;replace X1 : Bx V21 b1 [.slice N'.1 N'.2.1 N'.2.2, .slice sa (mn - 1) sc, .slice S'.1 S'.2.1 S'.2.2] := S.bx;replace c1 := X1.cell;replace f1 := X1.froz;replace X2 := X2.kp S.kept;replace c2 := X2.cell;replace f2 := X2.froz;replace LZ := Nat.le_trans LZ S.kept.size;replace B := bkp B S.kept;have hk2 := S.kept;clear S))
  have L9 := (HL.out.below BW').keptL hk2 (by omega)
  have R9 := ro_row ((HR7.out.kept hk2 (by omega)).widen (lo' := w.heap.size) lzw hk2.size)
  refine bodyPost_ret (v := .agg #[.slice N'.1 N'.2.1 N'.2.2, .slice sa (mn - 1) sc, .slice S'.1 S'.2.1 S'.2.2]) (by simp [results, Tryz.results39, go_sem, *]) rfl ?_
  refine ⟨N', (sa, mn - 1, sc), S', xa, ya.eraseIdx m, rfl, ⟨(LAt.ro nodeOk L9.nodes).widen nodeOk lwb (Nat.le_refl _), ⟨?_, ?_, fun i a e => ?_, fun z => (by cases z), fun z => (by cases z)⟩, (ro_row L9.slog).widen lwb (Nat.le_refl _), fun z => (by cases z)⟩, ⟨L9.sz.n, ?_, L9.sz.s, L9.sz.nodes, fun i a e => L9.sz.mails _ a (erase_at e)⟩, HE1.out, ?_, B⟩
  ·have hl : ya.length = mn := L9.mails.gr.len
   show (ya.eraseIdx m).length = mn - 1
   rw [List.length_eraseIdx_of_lt (by omega), hl]
  ·rw [flat_erase mailOk];exact R9
  ·exact mailOk.widen (mailOk.ro (L9.mails.gr.each _ a (erase_at e))) lwb (Nat.le_refl _)
  ·show mn - 1 ≤ 1048576;omega
  ·rw [map_erase, HE2.out]
end Go.Proofs.YtclghfoinologaaGreat
