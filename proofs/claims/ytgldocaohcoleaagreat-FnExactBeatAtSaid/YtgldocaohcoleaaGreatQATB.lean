/- Chapter 11: liveClusterOf of the program. -/
import Derived.Test.YtgldocaohcoleaaGreatQASB
import Derived.OwnWalk
set_option maxRecDepth 20000
set_option maxHeartbeats 16000000
namespace Go.Proofs.YtgldocaohcoleaaGreat
open Go.RowKit
theorem copyNodes_z {own : Bool} {lo hi : Nat} (N : Hd) (xs : List Nod) (w : World) (x : NAt w own lo hi N xs) (hn : N.2.1 ≤ 1048576) (hs : ∀ (i : Nat) (a : Nod), xs[i]? = some a → RSz a.2 1048576) :
  Calls Tryz.prog 177 #[.slice N.1 N.2.1 N.2.2] w fun e w' => ∃ (z u : Nat) (N' : Hd) (ys : List Nod), e = .returned (.slice N'.1 N'.2.1 N'.2.2) ∧ w.heap.size ≤ z ∧ u ≤ w'.heap.size ∧ NAt w' true z u N' ys ∧ (ys.map (·.1) = xs.map (·.1) ∧ N'.2.1 = N.2.1 ∧ ∀ (i : Nat) (a : Nod), ys[i]? = some a → RSz a.2 1048576) ∧ Below w.heap.size w w' :=
 (copyNodes_o N xs w x hn hs).mono fun _ w' ⟨N', ys, e, e1, G, e2, e3, b⟩ => by
  obtain ⟨ao, cap, e4, L⟩ := G.els
  simp only [Value.slice.injEq, true_and] at e4
  refine ⟨w.heap.size, w'.heap.size, N', ys, e, Nat.le_refl _, Nat.le_refl _, ?_, ⟨e2, e1, e3⟩, b⟩
  show LAt nodeK w' true _ _ N'.1 N'.2.1 N'.2.2 ys
  rw [e4.1, e4.2];exact L
theorem copyMails_z {own : Bool} {lo hi : Nat} (M : Hd) (ms : List Mal) (w : World) (x : MAt w own lo hi M ms) (hn : M.2.1 ≤ 1048576) (hs : ∀ (i : Nat) (a : Mal), ms[i]? = some a → a.2.2.1 ≤ 1048576) :
  Calls Tryz.prog 178 #[.slice M.1 M.2.1 M.2.2] w fun e w' => ∃ (z u : Nat) (M' : Hd) (ys : List Mal), e = .returned (.slice M'.1 M'.2.1 M'.2.2) ∧ w.heap.size ≤ z ∧ u ≤ w'.heap.size ∧ MGr w' 75 z u M' ys ∧ (ys.map (·.1) = ms.map (·.1) ∧ M'.2.1 = M.2.1 ∧ ∀ (i : Nat) (a : Mal), ys[i]? = some a → a.2.2.1 ≤ 1048576) ∧ Below w.heap.size w w' :=
 (copyMails_o M ms w x hn hs).mono fun _ w' ⟨M', ys, e, e1, G, e2, e3, b⟩ => ⟨w.heap.size, w'.heap.size, M', ys, e, Nat.le_refl _, Nat.le_refl _, ⟨G, fun q hq => by
  rcases hq with h | ⟨i, a, ea, h⟩
  ·exact (G.own.lt q h).2
  ·exact (mailOk.inB (G.each i a ea) h).2.2⟩, ⟨e2, e1, e3⟩, b⟩
def LiveRes (w w' : World) (e : Ending) (xs : List Nod) (ms : List Mal) (es : List En) : Prop := ∃ (b : Nat) (N M S : Hd) (xa : List Nod) (ya : List Mal), e = .returned (.pointer (some ⟨b, 0, none⟩)) ∧ LiveAt w' 75 w.heap.size b N M S xa ya es ∧ xa.map (·.1) = xs.map (·.1) ∧ ya.map (·.1) = ms.map (·.1) ∧ Below w.heap.size w w'
theorem liveOf_is {own : Bool} {lo hi : Nat} (N M Sl : Hd) (xs : List Nod) (ms : List Mal) (es : List En) (w : World) (x : ClAt w own lo hi N M Sl xs ms es) (hs : ClSz N M Sl xs ms 1048576) :
  Calls Tryz.prog 95 #[.agg #[.slice N.1 N.2.1 N.2.2, .slice M.1 M.2.1 M.2.2, .slice Sl.1 Sl.2.1 Sl.2.2]] w fun e w' => LiveRes w w' e xs ms es := by
 have HS : Hid _ := hs
 have HN : Hid _ := x.nodes
 have HM : Hid _ := x.mails
 have HL : Hid _ := x.slog
 clear hs x
 go_enter Tryz.func95, Tryz.ntmps95
 go_wp2_with (first | ((with_reducible refine box_newX 32 [.slice N.1 N.2.1 N.2.2, .slice M.1 M.2.1 M.2.2, .slice Sl.1 Sl.2.1 Sl.2.2] rfl ?_);intro b0 W0 N0;have ob0 := N0.ge;have B := N0.below;have X0 := N0.bx;have c0 := X0.cell;have f0 := X0.froz;clear N0) | fail)
 have DQ : Below W0.heap.size W0 W0.drew := (Below.refl _ _).drew
 replace X0 := X0.below DQ;replace c0 := X0.cell;replace f0 := X0.froz;replace B := below_next B DQ;clear DQ
 refine wp_region_held_drew (S := (fun w' => ∀ k : Nat, w'.cell? ⟨b0, k, none⟩ = [.slice N.1 N.2.1 N.2.2, .slice M.1 M.2.1 M.2.2, .slice Sl.1 Sl.2.1 Sl.2.2][k]?)) (by kernel_rfl) c0 (fun hZq => ?_)
 refine tk 0 hZq ?_;refine tk 1 hZq ?_;refine tk 3 hZq ?_;refine tk 4 hZq ?_;refine tk 6 hZq ?_;refine tk 7 hZq ?_
 refine wpAnyH_ready (rs := [2, 10]) (by kernel_rfl) (by simp) ?_
 refine (AllReadyH.cons rfl (fun KK hKK => ?_) (AllReadyH.cons rfl (fun KK hKK => ?_) AllReadyH.nil))
 ·go_simp
  go_at_call 177
  refine (copyNodes_z N xs _ (NAt.below HN.out B) HS.out.n HS.out.nodes).mono ?_;rintro e v1 ⟨zn, un, N', xa, rfl, Gzn, hyn, yn, en, BB⟩;have ozn := Nat.le_trans B.size Gzn;have o0_zn := ltl X0.lt Gzn;clear Gzn;replace X0 := X0.below BB;replace c0 := X0.cell;replace f0 := X0.froz;replace B := below_next B BB
  have EN : Hid _ := en
  clear en;clear BB;clear hZq
  refine hKK _ _ c0 (fun hZq => ?_)
  clear hKK KK
  refine wpAnyH_ready (rs := [5, 10]) (by kernel_rfl) (by simp) ?_
  refine (AllReadyH.cons rfl (fun KK hKK => ?_) (AllReadyH.cons rfl (fun KK hKK => ?_) AllReadyH.nil))
  ·go_simp
   go_at_call 178
   refine (copyMails_z M ms _ (MAt.below HM.out B) HS.out.m HS.out.mails).mono ?_;rintro e v2 ⟨zm, um, M', ya, rfl, Gzm, hym, ym, em, BB⟩;have ozm := Nat.le_trans B.size Gzm;have o0_zm := ltl X0.lt Gzm;have oyn_zm := Nat.le_trans hyn Gzm;clear Gzm;replace X0 := X0.below BB;replace c0 := X0.cell;replace f0 := X0.froz;replace yn := yn.below BB;replace hyn := Nat.le_trans hyn BB.size;replace B := below_next B BB
   have EM : Hid _ := em
   clear em;clear BB;clear hZq
   refine hKK _ _ c0 (fun hZq => ?_)
   clear hKK KK
   refine wpAnyH_ready (rs := [8, 10]) (by kernel_rfl) (by simp) ?_
   refine (AllReadyH.cons rfl (fun KK hKK => ?_) (AllReadyH.cons rfl (fun KK hKK => ?_) AllReadyH.nil))
   ·go_simp
    go_at_call 179
    refine (cloneE_z Sl.1 Sl.2.1 Sl.2.2 es _ (HL.out.below B) HS.out.s).mono ?_;rintro e v3 ⟨ra, rc, zs, us, rfl, Gzs, -, hys, ys, BB⟩;have ozs := Nat.le_trans B.size Gzs;have o0_zs := ltl X0.lt Gzs;have oyn_zs := Nat.le_trans hyn Gzs;have oym_zs := Nat.le_trans hym Gzs;clear Gzs;replace X0 := X0.below BB;replace c0 := X0.cell;replace f0 := X0.froz;replace yn := yn.below BB;replace hyn := Nat.le_trans hyn BB.size;replace ym := ym.below BB;replace hym := Nat.le_trans hym BB.size;replace B := below_next B BB;clear BB;clear hZq
    refine hKK _ _ c0 (fun hZq => ?_)
    clear hKK KK;refine tk 9 hZq ?_
    refine rd1 10 (fun KK hKK => ?_)
    refine step_allocX 32 [.slice none 0 0, .slice none 0 0, .slice none 0 0] (fun _ => by kernel_rfl) ?_
    intro b1 W1 N1;have ob1 := Nat.le_trans B.size N1.ge;have o0_b1 := ltl X0.lt N1.ge;have oyn_b1 := Nat.le_trans hyn N1.ge;have oym_b1 := Nat.le_trans hym N1.ge;have oys_b1 := Nat.le_trans hys N1.ge;replace X0 := X0.below N1.below;replace c0 := X0.cell;replace f0 := X0.froz;replace yn := yn.below N1.below;replace hyn := Nat.le_trans hyn N1.below.size;replace ym := ym.below N1.below;replace hym := Nat.le_trans hym N1.below.size;replace ys := ys.below N1.below;replace hys := Nat.le_trans hys N1.below.size;replace B := below_next B N1.below;have X1 := N1.bx;have c1 := X1.cell;have f1 := X1.froz;clear N1;clear hZq
    refine hKK _ _ c0 (fun hZq => ?_)
    clear hKK KK
    refine rd1 11 (fun KK hKK => ?_)
    refine step_midX 32 X1 0 [.slice N'.1 N'.2.1 N'.2.2, .slice M'.1 M'.2.1 M'.2.2, .slice ra Sl.2.1 rc] (by simp) (by kernel_rfl) (by simp [Value.oneCell']) rfl rfl ?_
    intro V1 S;replace X0 := X0.kp S.kept;replace c0 := X0.cell;replace f0 := X0.froz
    replace X1 : Bx V1 b1 [.slice N'.1 N'.2.1 N'.2.2, .slice M'.1 M'.2.1 M'.2.2, .slice ra Sl.2.1 rc] := S.bx
    replace c1 := X1.cell;replace f1 := X1.froz
    replace yn := yn.kept S.kept (by omega)
    replace hyn := Nat.le_trans hyn S.kept.size
    replace ym := ym.kept S.kept (by omega)
    replace hym := Nat.le_trans hym S.kept.size
    replace ys := ys.kept S.kept (by omega)
    replace hys := Nat.le_trans hys S.kept.size;replace B := bkp B S.kept;clear S;clear hZq
    refine hKK _ _ c0 (fun hZq => ?_)
    clear hKK KK
    refine wpAnyH_done (by kernel_rfl) ?_ _
    go_wp2_with (first | ((have g := ob1);clear g;(with_reducible refine box_newX 170 [.slice N'.1 N'.2.1 N'.2.2, .slice M'.1 M'.2.1 M'.2.2, .slice ra Sl.2.1 rc] rfl ?_);intro b2 W2 N2;have ob2 := Nat.le_trans B.size N2.ge;have o0_b2 := ltl X0.lt N2.ge;have o1_b2 := ltl X1.lt N2.ge;have oyn_b2 := Nat.le_trans hyn N2.ge;have oym_b2 := Nat.le_trans hym N2.ge;have oys_b2 := Nat.le_trans hys N2.ge;replace X0 := X0.below N2.below;replace c0 := X0.cell;replace f0 := X0.froz;replace X1 := X1.below N2.below;replace c1 := X1.cell;replace f1 := X1.froz;replace yn := yn.below N2.below;replace hyn := Nat.le_trans hyn N2.below.size;replace ym := ym.below N2.below;replace hym := Nat.le_trans hym N2.below.size;replace ys := ys.below N2.below;replace hys := Nat.le_trans hys N2.below.size;replace B := below_next B N2.below;have X2 := N2.bx;have c2 := X2.cell;have f2 := X2.froz;clear N2))
    go_ret;have eN := EN.out;have eM := EM.out
    exact ⟨b2, N', M', (ra, Sl.2.1, rc), xa, ya, rfl, liveAt_of X2 (by omega) yn ym ys (by omega) (by omega) (by omega) hyn hys (by omega) (by omega) (by omega) (by omega) (by omega) (by omega) ⟨by rw [eN.2.1];exact HS.out.n, by rw [eM.2.1];exact HS.out.m, HS.out.s, eN.2.2, eM.2.2⟩, eN.1, eM.1, B⟩
   ·refine step_allocX 32 [.slice none 0 0, .slice none 0 0, .slice none 0 0] (fun _ => by kernel_rfl) ?_
    intro b1 W1 N1;have ob1 := Nat.le_trans B.size N1.ge;have o0_b1 := ltl X0.lt N1.ge;have oyn_b1 := Nat.le_trans hyn N1.ge;have oym_b1 := Nat.le_trans hym N1.ge;replace X0 := X0.below N1.below;replace c0 := X0.cell;replace f0 := X0.froz;replace yn := yn.below N1.below;replace hyn := Nat.le_trans hyn N1.below.size;replace ym := ym.below N1.below;replace hym := Nat.le_trans hym N1.below.size;replace B := below_next B N1.below;have X1 := N1.bx;have c1 := X1.cell;have f1 := X1.froz;clear N1;clear hZq
    refine hKK _ _ c0 (fun hZq => ?_)
    clear hKK KK
    refine rd1 8 (fun KK hKK => ?_)
    go_simp
    go_at_call 179
    refine (cloneE_z Sl.1 Sl.2.1 Sl.2.2 es _ (HL.out.below B) HS.out.s).mono ?_;rintro e v3 ⟨ra, rc, zs, us, rfl, Gzs, -, hys, ys, BB⟩;have ozs := Nat.le_trans B.size Gzs;have o0_zs := ltl X0.lt Gzs;have o1_zs := ltl X1.lt Gzs;have oyn_zs := Nat.le_trans hyn Gzs;have oym_zs := Nat.le_trans hym Gzs;clear Gzs;replace X0 := X0.below BB;replace c0 := X0.cell;replace f0 := X0.froz;replace X1 := X1.below BB;replace c1 := X1.cell;replace f1 := X1.froz;replace yn := yn.below BB;replace hyn := Nat.le_trans hyn BB.size;replace ym := ym.below BB;replace hym := Nat.le_trans hym BB.size;replace B := below_next B BB;clear BB;clear hZq
    refine hKK _ _ c0 (fun hZq => ?_)
    clear hKK KK;refine tk 9 hZq ?_
    refine rd1 11 (fun KK hKK => ?_)
    refine step_midX 32 X1 0 [.slice N'.1 N'.2.1 N'.2.2, .slice M'.1 M'.2.1 M'.2.2, .slice ra Sl.2.1 rc] (by simp) (by kernel_rfl) (by simp [Value.oneCell']) rfl rfl ?_
    intro V1 S;replace X0 := X0.kp S.kept;replace c0 := X0.cell;replace f0 := X0.froz
    replace X1 : Bx V1 b1 [.slice N'.1 N'.2.1 N'.2.2, .slice M'.1 M'.2.1 M'.2.2, .slice ra Sl.2.1 rc] := S.bx
    replace c1 := X1.cell;replace f1 := X1.froz
    replace yn := yn.kept S.kept (by omega)
    replace hyn := Nat.le_trans hyn S.kept.size
    replace ym := ym.kept S.kept (by omega)
    replace hym := Nat.le_trans hym S.kept.size
    replace ys := ys.kept S.kept (by omega)
    replace hys := Nat.le_trans hys S.kept.size;replace B := bkp B S.kept;clear S;clear hZq
    refine hKK _ _ c0 (fun hZq => ?_)
    clear hKK KK
    refine wpAnyH_done (by kernel_rfl) ?_ _
    go_wp2_with (first | ((have g := ob1);clear g;(with_reducible refine box_newX 170 [.slice N'.1 N'.2.1 N'.2.2, .slice M'.1 M'.2.1 M'.2.2, .slice ra Sl.2.1 rc] rfl ?_);intro b2 W2 N2;have ob2 := Nat.le_trans B.size N2.ge;have o0_b2 := ltl X0.lt N2.ge;have o1_b2 := ltl X1.lt N2.ge;have oyn_b2 := Nat.le_trans hyn N2.ge;have oym_b2 := Nat.le_trans hym N2.ge;have oys_b2 := Nat.le_trans hys N2.ge;replace X0 := X0.below N2.below;replace c0 := X0.cell;replace f0 := X0.froz;replace X1 := X1.below N2.below;replace c1 := X1.cell;replace f1 := X1.froz;replace yn := yn.below N2.below;replace hyn := Nat.le_trans hyn N2.below.size;replace ym := ym.below N2.below;replace hym := Nat.le_trans hym N2.below.size;replace ys := ys.below N2.below;replace hys := Nat.le_trans hys N2.below.size;replace B := below_next B N2.below;have X2 := N2.bx;have c2 := X2.cell;have f2 := X2.froz;clear N2))
    go_ret;have eN := EN.out;have eM := EM.out
    exact ⟨b2, N', M', (ra, Sl.2.1, rc), xa, ya, rfl, liveAt_of X2 (by omega) yn ym ys (by omega) (by omega) (by omega) hyn hys (by omega) (by omega) (by omega) (by omega) (by omega) (by omega) ⟨by rw [eN.2.1];exact HS.out.n, by rw [eM.2.1];exact HS.out.m, HS.out.s, eN.2.2, eM.2.2⟩, eN.1, eM.1, B⟩
  ·refine step_allocX 32 [.slice none 0 0, .slice none 0 0, .slice none 0 0] (fun _ => by kernel_rfl) ?_
   intro b1 W1 N1;have ob1 := Nat.le_trans B.size N1.ge;have o0_b1 := ltl X0.lt N1.ge;have oyn_b1 := Nat.le_trans hyn N1.ge;replace X0 := X0.below N1.below;replace c0 := X0.cell;replace f0 := X0.froz;replace yn := yn.below N1.below;replace hyn := Nat.le_trans hyn N1.below.size;replace B := below_next B N1.below;have X1 := N1.bx;have c1 := X1.cell;have f1 := X1.froz;clear N1;clear hZq
   refine hKK _ _ c0 (fun hZq => ?_)
   clear hKK KK
   refine rd1 5 (fun KK hKK => ?_)
   go_simp
   go_at_call 178
   refine (copyMails_z M ms _ (MAt.below HM.out B) HS.out.m HS.out.mails).mono ?_;rintro e v2 ⟨zm, um, M', ya, rfl, Gzm, hym, ym, em, BB⟩;have ozm := Nat.le_trans B.size Gzm;have o0_zm := ltl X0.lt Gzm;have o1_zm := ltl X1.lt Gzm;have oyn_zm := Nat.le_trans hyn Gzm;clear Gzm;replace X0 := X0.below BB;replace c0 := X0.cell;replace f0 := X0.froz;replace X1 := X1.below BB;replace c1 := X1.cell;replace f1 := X1.froz;replace yn := yn.below BB;replace hyn := Nat.le_trans hyn BB.size;replace B := below_next B BB
   have EM : Hid _ := em
   clear em;clear BB;clear hZq
   refine hKK _ _ c0 (fun hZq => ?_)
   clear hKK KK
   refine rd1 8 (fun KK hKK => ?_)
   go_simp
   go_at_call 179
   refine (cloneE_z Sl.1 Sl.2.1 Sl.2.2 es _ (HL.out.below B) HS.out.s).mono ?_;rintro e v3 ⟨ra, rc, zs, us, rfl, Gzs, -, hys, ys, BB⟩;have ozs := Nat.le_trans B.size Gzs;have o0_zs := ltl X0.lt Gzs;have o1_zs := ltl X1.lt Gzs;have oyn_zs := Nat.le_trans hyn Gzs;have oym_zs := Nat.le_trans hym Gzs;clear Gzs;replace X0 := X0.below BB;replace c0 := X0.cell;replace f0 := X0.froz;replace X1 := X1.below BB;replace c1 := X1.cell;replace f1 := X1.froz;replace yn := yn.below BB;replace hyn := Nat.le_trans hyn BB.size;replace ym := ym.below BB;replace hym := Nat.le_trans hym BB.size;replace B := below_next B BB;clear BB;clear hZq
   refine hKK _ _ c0 (fun hZq => ?_)
   clear hKK KK;refine tk 9 hZq ?_
   refine rd1 11 (fun KK hKK => ?_)
   refine step_midX 32 X1 0 [.slice N'.1 N'.2.1 N'.2.2, .slice M'.1 M'.2.1 M'.2.2, .slice ra Sl.2.1 rc] (by simp) (by kernel_rfl) (by simp [Value.oneCell']) rfl rfl ?_
   intro V1 S;replace X0 := X0.kp S.kept;replace c0 := X0.cell;replace f0 := X0.froz
   replace X1 : Bx V1 b1 [.slice N'.1 N'.2.1 N'.2.2, .slice M'.1 M'.2.1 M'.2.2, .slice ra Sl.2.1 rc] := S.bx
   replace c1 := X1.cell;replace f1 := X1.froz
   replace yn := yn.kept S.kept (by omega)
   replace hyn := Nat.le_trans hyn S.kept.size
   replace ym := ym.kept S.kept (by omega)
   replace hym := Nat.le_trans hym S.kept.size
   replace ys := ys.kept S.kept (by omega)
   replace hys := Nat.le_trans hys S.kept.size;replace B := bkp B S.kept;clear S;clear hZq
   refine hKK _ _ c0 (fun hZq => ?_)
   clear hKK KK
   refine wpAnyH_done (by kernel_rfl) ?_ _
   go_wp2_with (first | ((have g := ob1);clear g;(with_reducible refine box_newX 170 [.slice N'.1 N'.2.1 N'.2.2, .slice M'.1 M'.2.1 M'.2.2, .slice ra Sl.2.1 rc] rfl ?_);intro b2 W2 N2;have ob2 := Nat.le_trans B.size N2.ge;have o0_b2 := ltl X0.lt N2.ge;have o1_b2 := ltl X1.lt N2.ge;have oyn_b2 := Nat.le_trans hyn N2.ge;have oym_b2 := Nat.le_trans hym N2.ge;have oys_b2 := Nat.le_trans hys N2.ge;replace X0 := X0.below N2.below;replace c0 := X0.cell;replace f0 := X0.froz;replace X1 := X1.below N2.below;replace c1 := X1.cell;replace f1 := X1.froz;replace yn := yn.below N2.below;replace hyn := Nat.le_trans hyn N2.below.size;replace ym := ym.below N2.below;replace hym := Nat.le_trans hym N2.below.size;replace ys := ys.below N2.below;replace hys := Nat.le_trans hys N2.below.size;replace B := below_next B N2.below;have X2 := N2.bx;have c2 := X2.cell;have f2 := X2.froz;clear N2))
   go_ret;have eN := EN.out;have eM := EM.out
   exact ⟨b2, N', M', (ra, Sl.2.1, rc), xa, ya, rfl, liveAt_of X2 (by omega) yn ym ys (by omega) (by omega) (by omega) hyn hys (by omega) (by omega) (by omega) (by omega) (by omega) (by omega) ⟨by rw [eN.2.1];exact HS.out.n, by rw [eM.2.1];exact HS.out.m, HS.out.s, eN.2.2, eM.2.2⟩, eN.1, eM.1, B⟩
 ·refine step_allocX 32 [.slice none 0 0, .slice none 0 0, .slice none 0 0] (fun _ => by kernel_rfl) ?_
  intro b1 W1 N1;have ob1 := Nat.le_trans B.size N1.ge;have o0_b1 := ltl X0.lt N1.ge;replace X0 := X0.below N1.below;replace c0 := X0.cell;replace f0 := X0.froz;replace B := below_next B N1.below;have X1 := N1.bx;have c1 := X1.cell;have f1 := X1.froz;clear N1;clear hZq
  refine hKK _ _ c0 (fun hZq => ?_)
  clear hKK KK
  refine rd1 2 (fun KK hKK => ?_)
  go_simp
  go_at_call 177
  refine (copyNodes_z N xs _ (NAt.below HN.out B) HS.out.n HS.out.nodes).mono ?_;rintro e v1 ⟨zn, un, N', xa, rfl, Gzn, hyn, yn, en, BB⟩;have ozn := Nat.le_trans B.size Gzn;have o0_zn := ltl X0.lt Gzn;have o1_zn := ltl X1.lt Gzn;clear Gzn;replace X0 := X0.below BB;replace c0 := X0.cell;replace f0 := X0.froz;replace X1 := X1.below BB;replace c1 := X1.cell;replace f1 := X1.froz;replace B := below_next B BB
  have EN : Hid _ := en
  clear en;clear BB;clear hZq
  refine hKK _ _ c0 (fun hZq => ?_)
  clear hKK KK
  refine rd1 5 (fun KK hKK => ?_)
  go_simp
  go_at_call 178
  refine (copyMails_z M ms _ (MAt.below HM.out B) HS.out.m HS.out.mails).mono ?_;rintro e v2 ⟨zm, um, M', ya, rfl, Gzm, hym, ym, em, BB⟩;have ozm := Nat.le_trans B.size Gzm;have o0_zm := ltl X0.lt Gzm;have o1_zm := ltl X1.lt Gzm;have oyn_zm := Nat.le_trans hyn Gzm;clear Gzm;replace X0 := X0.below BB;replace c0 := X0.cell;replace f0 := X0.froz;replace X1 := X1.below BB;replace c1 := X1.cell;replace f1 := X1.froz;replace yn := yn.below BB;replace hyn := Nat.le_trans hyn BB.size;replace B := below_next B BB
  have EM : Hid _ := em
  clear em;clear BB;clear hZq
  refine hKK _ _ c0 (fun hZq => ?_)
  clear hKK KK
  refine rd1 8 (fun KK hKK => ?_)
  go_simp
  go_at_call 179
  refine (cloneE_z Sl.1 Sl.2.1 Sl.2.2 es _ (HL.out.below B) HS.out.s).mono ?_;rintro e v3 ⟨ra, rc, zs, us, rfl, Gzs, -, hys, ys, BB⟩;have ozs := Nat.le_trans B.size Gzs;have o0_zs := ltl X0.lt Gzs;have o1_zs := ltl X1.lt Gzs;have oyn_zs := Nat.le_trans hyn Gzs;have oym_zs := Nat.le_trans hym Gzs;clear Gzs;replace X0 := X0.below BB;replace c0 := X0.cell;replace f0 := X0.froz;replace X1 := X1.below BB;replace c1 := X1.cell;replace f1 := X1.froz;replace yn := yn.below BB;replace hyn := Nat.le_trans hyn BB.size;replace ym := ym.below BB;replace hym := Nat.le_trans hym BB.size;replace B := below_next B BB;clear BB;clear hZq
  refine hKK _ _ c0 (fun hZq => ?_)
  clear hKK KK;refine tk 9 hZq ?_
  refine rd1 11 (fun KK hKK => ?_)
  refine step_midX 32 X1 0 [.slice N'.1 N'.2.1 N'.2.2, .slice M'.1 M'.2.1 M'.2.2, .slice ra Sl.2.1 rc] (by simp) (by kernel_rfl) (by simp [Value.oneCell']) rfl rfl ?_
  intro V1 S;replace X0 := X0.kp S.kept;replace c0 := X0.cell;replace f0 := X0.froz
  replace X1 : Bx V1 b1 [.slice N'.1 N'.2.1 N'.2.2, .slice M'.1 M'.2.1 M'.2.2, .slice ra Sl.2.1 rc] := S.bx
  replace c1 := X1.cell;replace f1 := X1.froz
  replace yn := yn.kept S.kept (by omega)
  replace hyn := Nat.le_trans hyn S.kept.size
  replace ym := ym.kept S.kept (by omega)
  replace hym := Nat.le_trans hym S.kept.size
  replace ys := ys.kept S.kept (by omega)
  replace hys := Nat.le_trans hys S.kept.size;replace B := bkp B S.kept;clear S;clear hZq
  refine hKK _ _ c0 (fun hZq => ?_)
  clear hKK KK
  refine wpAnyH_done (by kernel_rfl) ?_ _
  go_wp2_with (first | ((have g := ob1);clear g;(with_reducible refine box_newX 170 [.slice N'.1 N'.2.1 N'.2.2, .slice M'.1 M'.2.1 M'.2.2, .slice ra Sl.2.1 rc] rfl ?_);intro b2 W2 N2;have ob2 := Nat.le_trans B.size N2.ge;have o0_b2 := ltl X0.lt N2.ge;have o1_b2 := ltl X1.lt N2.ge;have oyn_b2 := Nat.le_trans hyn N2.ge;have oym_b2 := Nat.le_trans hym N2.ge;have oys_b2 := Nat.le_trans hys N2.ge;replace X0 := X0.below N2.below;replace c0 := X0.cell;replace f0 := X0.froz;replace X1 := X1.below N2.below;replace c1 := X1.cell;replace f1 := X1.froz;replace yn := yn.below N2.below;replace hyn := Nat.le_trans hyn N2.below.size;replace ym := ym.below N2.below;replace hym := Nat.le_trans hym N2.below.size;replace ys := ys.below N2.below;replace hys := Nat.le_trans hys N2.below.size;replace B := below_next B N2.below;have X2 := N2.bx;have c2 := X2.cell;have f2 := X2.froz;clear N2))
  go_ret;have eN := EN.out;have eM := EM.out
  exact ⟨b2, N', M', (ra, Sl.2.1, rc), xa, ya, rfl, liveAt_of X2 (by omega) yn ym ys (by omega) (by omega) (by omega) hyn hys (by omega) (by omega) (by omega) (by omega) (by omega) (by omega) ⟨by rw [eN.2.1];exact HS.out.n, by rw [eM.2.1];exact HS.out.m, HS.out.s, eN.2.2, eM.2.2⟩, eN.1, eM.1, B⟩
def atC (rs : List Rep) (ms : List Ml) (es : List En) (v : Int) (C : Rep → Int) : Int := if nplC (cluF rs ms es) rs.length v = 0 then C (rs.getD v.toNat rep0) else nplC (cluF rs ms es) rs.length v
def atN (rs : List Rep) (ms : List Ml) (es : List En) (v : Int) (C : Rep → Int) (Q : Rep → Rep) : List Rep := if atC rs ms es v C = 0 then doN rs v.toNat (Q (rs.getD v.toNat rep0)) else []
def atM (rs : List Rep) (ms : List Ml) (es : List En) (v : Int) (C : Rep → Int) (Ms : Rep → List Ml) : List Ml := if atC rs ms es v C = 0 then doM ms (Ms (rs.getD v.toNat rep0)) else []
def atE (rs : List Rep) (ms : List Ml) (es : List En) (v : Int) (C : Rep → Int) (Q : Rep → Rep) : List En := if atC rs ms es v C = 0 then sealE (Q (rs.getD v.toNat rep0)) es else []
def ClRes (own : Bool) (w w' : World) (e : Ending) (cd : Int) (rs : List Rep) (ms : List Ml) (es : List En) : Prop := ∃ (N M S : Hd) (xs : List Nod) (ys : List Mal), e = .returned (.agg #[.int .i64 cd, .slice N.1 N.2.1 N.2.2, .slice M.1 M.2.1 M.2.2, .slice S.1 S.2.1 S.2.2]) ∧ ClAt w' own w.heap.size w'.heap.size N M S xs ys es ∧ ClSz N M S xs ys 1048576 ∧ xs.map (·.1) = rs ∧ ys.map (·.1) = ms ∧ Below w.heap.size w w'
theorem ClRes.nix {own : Bool} {w w' : World} (cd : Int) (B : Below w.heap.size w w') : ClRes own w w' (.returned (.agg #[.int .i64 cd, .slice none 0 0, .slice none 0 0, .slice none 0 0])) cd [] [] [] :=
 ⟨(none, 0, 0), (none, 0, 0), (none, 0, 0), [], [], rfl, ⟨LAt.nil _ _ _ _ _ _ _, LAt.nil _ _ _ _ _ _ _, RowAt.nilR _ _ _ _ _ _ _, fun _ => ⟨fun q a _ => (by rcases a with a | ⟨i, a, e, _⟩;exact absurd rfl a.1;simp at e), fun q a _ => (by rcases a with a | ⟨i, a, e, _⟩;exact absurd rfl a.1;simp at e), fun q a _ => (by rcases a with a | ⟨i, a, e, _⟩;exact absurd rfl a.1;simp at e)⟩⟩, ⟨Nat.zero_le _, Nat.zero_le _, Nat.zero_le _, fun i a e => by simp at e, fun i a e => by simp at e⟩, rfl, rfl, B⟩
theorem atC_bad {rs : List Rep} {ms : List Ml} {es : List En} {v d : Int} {C : Rep → Int} {Q : Rep → Rep} {Ms : Rep → List Ml} (h : nplC (cluF rs ms es) rs.length v = d) (hd : d ≠ 0) : atC rs ms es v C = d ∧ atN rs ms es v C Q = [] ∧ atM rs ms es v C Ms = [] ∧ atE rs ms es v C Q = [] := by
 have e : atC rs ms es v C = d := by unfold atC;rw [h, if_neg hd]
 refine ⟨e, ?_, ?_, ?_⟩
 ·unfold atN;rw [e, if_neg hd]
 ·unfold atM;rw [e, if_neg hd]
 ·unfold atE;rw [e, if_neg hd]
theorem atC_code {rs : List Rep} {ms : List Ml} {es : List En} {v c : Int} {C : Rep → Int} {Q : Rep → Rep} {Ms : Rep → List Ml} (h : nplC (cluF rs ms es) rs.length v = 0) (hc : C (rs.getD v.toNat rep0) = c) : atC rs ms es v C = c ∧ (c ≠ 0 → atN rs ms es v C Q = [] ∧ atM rs ms es v C Ms = [] ∧ atE rs ms es v C Q = []) ∧ (c = 0 → atN rs ms es v C Q = doN rs v.toNat (Q (rs.getD v.toNat rep0)) ∧ atM rs ms es v C Ms = doM ms (Ms (rs.getD v.toNat rep0)) ∧ atE rs ms es v C Q = sealE (Q (rs.getD v.toNat rep0)) es) := by
 have e : atC rs ms es v C = c := by unfold atC;rw [if_pos h, hc]
 refine ⟨e, fun hd => ⟨?_, ?_, ?_⟩, fun hd => ⟨?_, ?_, ?_⟩⟩
 ·unfold atN;rw [e, if_neg hd]
 ·unfold atM;rw [e, if_neg hd]
 ·unfold atE;rw [e, if_neg hd]
 ·unfold atN;rw [e, if_pos hd]
 ·unfold atM;rw [e, if_pos hd]
 ·unfold atE;rw [e, if_pos hd]
theorem npl_ok {rs : List Rep} {ms : List Ml} {es : List En} {n : Nat} {v : Int} (h : nplC (cluF rs ms es) n v = 0) : cluF rs ms es = 0 ∧ 0 ≤ v ∧ v ≤ (n : Int) - 1 := by
 unfold nplC at h
 by_cases q : cluF rs ms es = 0
 ·rw [if_pos q] at h
  by_cases q2 : 0 ≤ v ∧ v ≤ (n : Int) - 1
  ·exact ⟨q, q2⟩
  ·rw [if_neg q2] at h;cases h
 ·rw [if_neg q] at h;exact absurd h q
theorem clu_parts {rs : List Rep} {ms : List Ml} {es : List En} (h : cluF rs ms es = 0) : rs.length ≤ 5 ∧ ms.length ≤ 120 ∧ nodesF rs = 0 ∧ mailsF rs ms = 0 ∧ logF es = 0 := by
 unfold cluF at h
 by_cases q : (1 ≤ (rs.length : Int) ∧ (rs.length : Int) ≤ 5) ∧ ms.length ≤ 120
 ·rw [if_pos q] at h
  by_cases q2 : nodesF rs = 0
  ·rw [if_pos q2] at h
   by_cases q3 : mailsF rs ms = 0
   ·rw [if_pos q3] at h
    exact ⟨by omega, q.2, q2, q3, h⟩
   ·rw [if_neg q3] at h;exact absurd h q3
  ·rw [if_neg q2] at h;exact absurd h q2
 ·rw [if_neg q] at h;cases h
theorem clAnswer_is {b0 : Nat} (N M Sd : Hd) (w : World) (X0 : Bx w b0 [.slice N.1 N.2.1 N.2.2, .slice M.1 M.2.1 M.2.2, .slice Sd.1 Sd.2.1 Sd.2.2]) :
  Calls Tryz.prog 97 #[.pointer (some ⟨b0, 0, none⟩)] w fun e w' => e = .returned (.agg #[.int .i64 0, .slice N.1 N.2.1 N.2.2, .slice M.1 M.2.1 M.2.2, .slice Sd.1 Sd.2.1 Sd.2.2]) ∧ Below w.heap.size w w' := by
 have c0 := X0.cell;have f0 := X0.froz;have ob0 := X0.lt
 go_enter Tryz.func97, Tryz.ntmps97
 go_wp2_with (first | ((with_reducible refine store_midX 34 X1 0 [.int .i64 0, .slice N.1 N.2.1 N.2.2, .slice M.1 M.2.1 M.2.2, .slice Sd.1 Sd.2.1 Sd.2.2] (by simp) (by kernel_rfl) (by simp [Value.oneCell']) rfl rfl ?_);intro V1 S;replace X0 := X0.kp S.kept;replace c0 := X0.cell;replace f0 := X0.froz;replace X1 : Bx V1 b1 [.int .i64 0, .slice N.1 N.2.1 N.2.2, .slice M.1 M.2.1 M.2.2, .slice Sd.1 Sd.2.1 Sd.2.2] := S.bx;replace c1 := X1.cell;replace f1 := X1.froz;replace B := bkp B S.kept;clear S) | ((have g := ob0);clear g;(with_reducible refine alloc_newX 34 [.int .i64 0, .slice none 0 0, .slice none 0 0, .slice none 0 0] (fun _ => by kernel_rfl) ?_);intro b1 W1 N1;have ob1 := N1.ge;have o0_b1 := ltl X0.lt N1.ge;replace X0 := X0.below N1.below;replace c0 := X0.cell;replace f0 := X0.froz;have B := N1.below;have X1 := N1.bx;have c1 := X1.cell;have f1 := X1.froz;clear N1))
 refine bodyPost_ret (v := .agg #[.int .i64 0, .slice N.1 N.2.1 N.2.2, .slice M.1 M.2.1 M.2.2, .slice Sd.1 Sd.2.1 Sd.2.2]) (by simp [results, Tryz.results97, go_sem, *]) rfl ⟨rfl, B⟩
theorem doAt_is (FN : Nat) (hcf : ∀ (vs : Array Value) (W : World), (callFunc FN vs).run Tryz.prog W = .ok (.enter FN vs) W) (C : Rep → Int) (Q : Rep → Rep) (Ms : Rep → List Ml) {own : Bool} {lo hi : Nat} (N M Sl : Hd) (xs : List Nod) (ms : List Mal) (es : List En) (v : Int) (w : World) (x : ClAt w own lo hi N M Sl xs ms es) (hs : ClSz N M Sl xs ms 1048576)
  (hact : ∀ (W : World) (own : Bool) (lo hi : Nat) (r : Rep) (hA : RH), Below w.heap.size w W → RepAt W own lo hi hA r → RSz hA 1048576 → Calls Tryz.prog FN #[.agg #[.int .i64 r.id, .int .i64 r.size, .int .i64 r.view, .bool r.normal, .int .i64 r.last, .slice hA.L.1 hA.L.2.1 hA.L.2.2, .int .i64 r.commit, .slice hA.O.1 hA.O.2.1 hA.O.2.2, .slice hA.A.1 hA.A.2.1 hA.A.2.2, .slice hA.D.1 hA.D.2.1 hA.D.2.2]] W fun e w' => NodeAns W w' e (C r) (Q r) (Ms r)) (hcm : ∀ r, repF r = 0 → C r = 0 → 0 ≤ (Q r).commit ∧ (Q r).commit ≤ (Q r).log.length) :
  Calls Tryz.prog 79 #[.agg #[.slice N.1 N.2.1 N.2.2, .slice M.1 M.2.1 M.2.2, .slice Sl.1 Sl.2.1 Sl.2.2], .int .i64 v, .func (.func FN) #[] #[]] w fun e w' => ClRes true w w' e (atC (xs.map (·.1)) (ms.map (·.1)) es v C) (atN (xs.map (·.1)) (ms.map (·.1)) es v C Q) (atM (xs.map (·.1)) (ms.map (·.1)) es v C Ms) (atE (xs.map (·.1)) (ms.map (·.1)) es v C Q) := by
 obtain ⟨rs, hrs⟩ : ∃ rs, xs.map (·.1) = rs := ⟨_, rfl⟩;obtain ⟨ns, hns⟩ : ∃ ns, ms.map (·.1) = ns := ⟨_, rfl⟩
 have hlen : rs.length = N.2.1 := by rw [← hrs];simpa using x.nodes.len
 have HRS : Hid _ := hrs
 have HNS : Hid _ := hns
 have HLEN : Hid _ := hlen
 have HA : Hid _ := hact
 have HCM : Hid _ := hcm
 obtain ⟨d, hd⟩ : ∃ d, nplC (cluF rs ns es) N.2.1 v = d := ⟨_, rfl⟩
 have HD : Hid _ := hd
 have HS : Hid _ := hs
 rw [hrs, hns];clear hact hcm hd hs hrs hns hlen
 go_enter Tryz.func79, Tryz.ntmps79
 go_wp2_with (first | ((have g := ob0);clear g;(with_reducible refine alloc_newX 34 [.int .i64 0, .slice none 0 0, .slice none 0 0, .slice none 0 0] (fun _ => by kernel_rfl) ?_);intro b1 W1 N1;have ob1 := Nat.le_trans B.size N1.ge;have o0_b1 := ltl X0.lt N1.ge;replace X0 := X0.below N1.below;replace c0 := X0.cell;replace f0 := X0.froz;replace B := below_next B N1.below;have X1 := N1.bx;have c1 := X1.cell;have f1 := X1.froz;clear N1) | ((with_reducible refine box_newX 32 [.slice N.1 N.2.1 N.2.2, .slice M.1 M.2.1 M.2.2, .slice Sl.1 Sl.2.1 Sl.2.2] rfl ?_);intro b0 W0 N0;have ob0 := N0.ge;have B := N0.below;have X0 := N0.bx;have c0 := X0.cell;have f0 := X0.froz;clear N0) | fail)
 refine (nodePl_is N M Sl xs ms es v _ (x.below B) HS.out _ rfl d (by rw [HRS.out, HNS.out];exact HD.out)).mono ?_
 rintro e w1 ⟨rfl, BB⟩;replace X0 := X0.below BB;replace c0 := X0.cell;replace f0 := X0.froz;replace X1 := X1.below BB;replace c1 := X1.cell;replace f1 := X1.froz;replace B := below_next B BB;clear BB
 by_cases q2 : d = 0
 rotate_left 1
 ·have q2' : (d != 0) = true := by simp [q2]
  go_wp2_with (first | ((with_reducible refine store_midX 34 X1 0 [.int .i64 d, .slice none 0 0, .slice none 0 0, .slice none 0 0] (by simp) (by kernel_rfl) (by simp [Value.oneCell']) rfl rfl ?_);intro V1 S;replace X0 := X0.kp S.kept;replace c0 := X0.cell;replace f0 := X0.froz;replace X1 : Bx V1 b1 [.int .i64 d, .slice none 0 0, .slice none 0 0, .slice none 0 0] := S.bx;replace c1 := X1.cell;replace f1 := X1.froz;replace B := bkp B S.kept;clear S))
  refine bodyPost_ret (v := .agg #[.int .i64 d, .slice none 0 0, .slice none 0 0, .slice none 0 0]) (by simp [results, Tryz.results79, go_sem, *]) rfl ?_
  obtain ⟨e1, e2, e3, e4⟩ := atC_bad (C := C) (Q := Q) (Ms := Ms) (rs := rs) (by rw [HLEN.out];exact HD.out) q2
  rw [e1, e2, e3, e4];exact ClRes.nix d B
 subst q2
 obtain ⟨hF, hv0, hv1⟩ := npl_ok HD.out
 have HF : Hid _ := hF
 obtain ⟨i, hiv⟩ : ∃ i : Nat, v = (i : Int) := ⟨v.toNat, by omega⟩
 subst hiv
 have hin : i < N.2.1 := by omega
 clear hF hv0 hv1;go_wp2_with fail;refine (liveOf_is N M Sl xs ms es _ (x.below B) HS.out).mono ?_;rintro e w2 ⟨b, N', M', S', xa, ya, rfl, L, e1, e2, BB⟩;obtain ⟨base, hbase⟩ : ∃ z, z = w1.heap.size := ⟨_, rfl⟩;rw [← hbase] at L
 have lb1 : b1 < base := by rw [hbase];exact X1.lt
 have lwb : w.heap.size ≤ base := by rw [hbase];exact B.size
 have hb2 : base ≤ w2.heap.size := by rw [hbase];exact BB.size
 clear hbase;replace X0 := X0.below BB;replace c0 := X0.cell;replace f0 := X0.froz;replace X1 := X1.below BB;replace c1 := X1.cell;replace f1 := X1.froz;replace B := below_next B BB;clear BB
 have HL : Hid _ := L
 have HE1 : Hid _ := e1
 have HE2 : Hid _ := e2
 clear L e1 e2
 have hln : N'.2.1 = N.2.1 := by
  have a1 := LAt.len HL.out.nodes;have a2 := LAt.len x.nodes
  have := congrArg List.length HE1.out
  simp only [List.length_map] at this;omega
 have hlm : M'.2.1 ≤ 120 := by
  have a1 := HL.out.mails.gr.len
  have := congrArg List.length HE2.out
  simp only [List.length_map] at this;have h4 := (clu_parts HF.out).2.1;rw [← HNS.out, List.length_map] at h4;omega
 obtain ⟨⟨r, h⟩, ex⟩ : ∃ a, xa[i]? = some a := ⟨_, List.getElem?_eq_getElem (by rw [LAt.len HL.out.nodes, hln];exact hin)⟩
 have HER : Hid (rs.getD i rep0 = r) := by
  show _ = _
  rw [← HRS.out, ← HE1.out];exact mapD ex
 have HR0 : Hid (repF r = 0) := by
  show _ = _
  have := (nodesF_all (clu_parts HF.out).2.2.1 i (by rw [HLEN.out];exact hin)).1
  rw [HER.out] at this;exact this
 obtain ⟨c, hc⟩ : ∃ c, C r = c := ⟨_, rfl⟩
 have HC : Hid _ := hc
 clear hc
 have HAT := atC_code (C := C) (Q := Q) (Ms := Ms) (rs := rs) (ms := ns) (es := es) (v := (i : Int)) (c := c) (by rw [HLEN.out];exact HD.out) (by rw [Int.toNat_natCast, HER.out];exact HC.out)
 rw [Int.toNat_natCast, HER.out] at HAT
 have HAT2 : Hid _ := HAT
 have HEX : Hid _ := ex
 clear HAT ex;go_wp2_with fail
 refine (do_is FN hcf N' M' S' xa ya es i (by omega) r h HEX.out _ HL.out hb2 hlm c (Q r) (Ms r) (fun W own lo hi hA bb y s => by have := HA.out W own lo hi r hA (below_next B bb) y s;rw [HC.out] at this;exact this) (fun z => HCM.out r HR0.out (by rw [HC.out];exact z))).mono ?_
 rintro e w3 ⟨rfl, BL, HZ⟩
 have X1' := X1.low BL lb1
 have B' := B.trans (BL.mono lwb)
 clear X0 c0 f0 X1 c1 f1 B;have X1 := X1';have c1 := X1.cell;have f1 := X1.froz;have B := B';clear X1' B'
 have HZZ : Hid _ := HZ
 clear HZ
 by_cases q3 : c = 0
 rotate_left 1
 ·have q3' : (c != 0) = true := by simp [q3]
  go_wp2_with (first | ((with_reducible refine store_midX 34 X1 0 [.int .i64 c, .slice none 0 0, .slice none 0 0, .slice none 0 0] (by simp) (by kernel_rfl) (by simp [Value.oneCell']) rfl rfl ?_);intro V1 S;replace X1 : Bx V1 b1 [.int .i64 c, .slice none 0 0, .slice none 0 0, .slice none 0 0] := S.bx;replace c1 := X1.cell;replace f1 := X1.froz;replace B := bkp B S.kept;clear S))
  refine bodyPost_ret (v := .agg #[.int .i64 c, .slice none 0 0, .slice none 0 0, .slice none 0 0]) (by simp [results, Tryz.results79, go_sem, *]) rfl ?_
  obtain ⟨e1, e2, -⟩ := HAT2.out
  obtain ⟨e3, e4, e5⟩ := e2 q3
  rw [e1, e3, e4, e5];exact ClRes.nix c B
 subst q3
 obtain ⟨N3, M3, S3, x3, y3, L3, f1', f2'⟩ := HZZ.out (by first | trivial | rfl)
 have HL3 : Hid _ := L3
 have HF1 : Hid _ := f1'
 have HF2 : Hid _ := f2'
 clear HZZ L3 f1' f2';go_wp2_with fail;refine (clAnswer_is N3 M3 S3 _ HL3.out.bx).mono ?_;rintro e w4 ⟨rfl, BB⟩
 have HL4 : Hid _ := HL3.out.below BB
 replace X1 := X1.below BB;replace c1 := X1.cell;replace f1 := X1.froz;replace B := below_next B BB;clear BB
 go_wp2_with (first | ((with_reducible refine store_midX 34 X1 0 [.int .i64 0, .slice N3.1 N3.2.1 N3.2.2, .slice M3.1 M3.2.1 M3.2.2, .slice S3.1 S3.2.1 S3.2.2] (by simp) (by kernel_rfl) (by simp [Value.oneCell']) rfl rfl ?_);intro V1 S;replace X1 : Bx V1 b1 [.int .i64 0, .slice N3.1 N3.2.1 N3.2.2, .slice M3.1 M3.2.1 M3.2.2, .slice S3.1 S3.2.1 S3.2.2] := S.bx;replace c1 := X1.cell;replace f1 := X1.froz;replace B := bkp B S.kept;have hk2 := S.kept;clear S))
 refine bodyPost_ret (v := .agg #[.int .i64 0, .slice N3.1 N3.2.1 N3.2.2, .slice M3.1 M3.2.1 M3.2.2, .slice S3.1 S3.2.1 S3.2.2]) (by simp [results, Tryz.results79, go_sem, *]) rfl ?_
 obtain ⟨e1, -, e2⟩ := HAT2.out
 obtain ⟨e3, e4, e5⟩ := e2 (by first | trivial | rfl)
 rw [e1, e3, e4, e5]
 refine ⟨N3, M3, S3, x3, y3, rfl, ((HL4.out.clu.kept hk2 (Or.inr (by omega))).widen lwb hk2.size), HL4.out.sz, ?_, ?_, B⟩
 ·rw [HF1.out, HE1.out, HRS.out]
 ·rw [HF2.out, HE2.out, HNS.out]
def prepM (r : Rep) (k : Nat) : Ml := if k < r.log.length then ⟨1, 0, 0, 0, k, true, r.log.getD k en0, 0, [], r.commit⟩ else ⟨1, 0, 0, 0, k, false, en0, 0, [], r.commit⟩
theorem sendPrepare_is {own : Bool} {lo hi : Nat} (r : Rep) (h : RH) (s : Hd) (tgt : Int) (k : Nat) (base b0 : Nat) (w : World) (Km : Nat → Hd) (ms : List Ml) (X0 : Bx w b0 [.int .i64 r.id, .int .i64 r.size, .int .i64 r.view, .bool r.normal, .int .i64 r.last, .slice h.L.1 h.L.2.1 h.L.2.2, .int .i64 r.commit, .slice h.O.1 h.O.2.1 h.O.2.2, .slice h.A.1 h.A.2.1 h.A.2.2, .slice h.D.1 h.D.2.1 h.D.2.2, .slice s.1 s.2.1 s.2.2]) (L5 : RowAt w own lo hi 6 h.L.1 h.L.2.1 h.L.2.2 (sixs r.log)) (G : SentAt w base (.slice s.1 s.2.1 s.2.2) Km ms) (hb : b0 < base) (hbase : base ≤ w.heap.size) (hn : ms.length ≤ 1000) :
  Calls Tryz.prog 203 #[.agg #[.pointer (some ⟨b0, 0, none⟩)], .int .i64 tgt, .int .i64 k] w fun e w' => ∃ s' : Hd, e = .returned (.tuple #[]) ∧ Bx w' b0 [.int .i64 r.id, .int .i64 r.size, .int .i64 r.view, .bool r.normal, .int .i64 r.last, .slice h.L.1 h.L.2.1 h.L.2.2, .int .i64 r.commit, .slice h.O.1 h.O.2.1 h.O.2.2, .slice h.A.1 h.A.2.1 h.A.2.2, .slice h.D.1 h.D.2.1 h.D.2.2, .slice s'.1 s'.2.1 s'.2.2] ∧ SentAt w' base (.slice s'.1 s'.2.1 s'.2.2) (fun j => if j = ms.length then (none, 0, 0) else Km j) (ms ++ [putM (prepM r k) r.id tgt r.view]) ∧ s'.2.1 = ms.length + 1 ∧ KeptS (fun k => k = b0 ∨ base ≤ k) w w' := by
 have hll := L5.nSixs;have c0 := X0.cell;have f0 := X0.froz;have ob0 := X0.lt
 have HG : Hid (GrowAt _ _ _ _ _ _ _ _ _) := G
 clear G
 go_enter Tryz.func203, Tryz.ntmps203
 go_upto_region 2 with (first | ((with_reducible refine store_midX 75 X2 0 [.int .i64 1, .int .i64 0, .int .i64 0, .int .i64 0, .int .i64 k, .bool false, .int .i64 0, .int .i64 0, .int .i64 0, .int .i64 0, .int .i64 0, .int .i64 0, .int .i64 0, .slice none 0 0, .int .i64 r.commit] (by simp) (by kernel_rfl) (by simp [Value.oneCell']) rfl rfl ?_);intro V1 S;replace X0 := X0.kp S.kept;replace c0 := X0.cell;replace f0 := X0.froz;replace X1 := X1.kp S.kept;replace c1 := X1.cell;replace X2 : Bx V1 b2 [.int .i64 1, .int .i64 0, .int .i64 0, .int .i64 0, .int .i64 k, .bool false, .int .i64 0, .int .i64 0, .int .i64 0, .int .i64 0, .int .i64 0, .int .i64 0, .int .i64 0, .slice none 0 0, .int .i64 r.commit] := S.bx;replace c2 := X2.cell;replace f2 := X2.froz;replace B := bkp B S.kept;clear S) | ((have g := ob1);clear g;(with_reducible refine alloc_newX 75 [.int .i64 0, .int .i64 0, .int .i64 0, .int .i64 0, .int .i64 0, .bool false, .int .i64 0, .int .i64 0, .int .i64 0, .int .i64 0, .int .i64 0, .int .i64 0, .int .i64 0, .slice none 0 0, .int .i64 0] (fun _ => by kernel_rfl) ?_);intro b2 W2 N2;have ob2 := Nat.le_trans B.size N2.ge;have o0_b2 := ltl X0.lt N2.ge;have o1_b2 := ltl X1.lt N2.ge;replace X0 := X0.below N2.below;replace c0 := X0.cell;replace f0 := X0.froz;replace X1 := X1.below N2.below;replace c1 := X1.cell;replace B := below_next B N2.below;have X2 := N2.bx;have c2 := X2.cell;have f2 := X2.froz;clear N2) | ((have g := ob0);clear g;(with_reducible refine box_newX 142 [.pointer (some ⟨b0, 0, none⟩)] rfl ?_);intro b1 W1 N1;have ob1 := N1.ge;have o0_b1 := ltl X0.lt N1.ge;replace X0 := X0.below N1.below;replace c0 := X0.cell;replace f0 := X0.froz;have B := N1.below;have X1 := N1.bx;have c1 := X1.cell;clear N1) | fail)
 by_cases hlt : k < h.L.2.1
 ·have hlk : (k : Int) < (h.L.2.1 : Int) := by omega
  obtain ⟨b, off, ea, _, _, hbl, e0, e1, e2, e3, e4, e5, _⟩ := (L5.below B).six hlt
  have HP : Hid (prepM r k = ⟨1, 0, 0, 0, k, true, r.log.getD k en0, 0, [], r.commit⟩) := by show _ = _;unfold prepM;rw [if_pos (by omega)]
  generalize r.log.getD k en0 = en at *
  have HX0 : Hid _ := X0
  rw [ea] at c0
  have hbw : b ≠ b2 := by have := (L5.inB (k := sb h.L.1) ⟨by omega, rfl⟩).2.2;rw [ea] at this;have e : sb (some (⟨b, off, none⟩ : Addr)) = b := rfl;omega
  go_wp2_with (first | ((with_reducible refine store_midX 49 X2 6 [.int .i64 en.1, .int .i64 en.2.1, .int .i64 en.2.2.1, .int .i64 en.2.2.2.1, .int .i64 en.2.2.2.2.1, .int .i64 en.2.2.2.2.2] (by simp) (by kernel_rfl) (by simp [Value.oneCell']) rfl rfl ?_);intro V3 S;replace X0 := X0.kp S.kept;replace c0 := X0.cell;rw [ea] at c0;replace f0 := X0.froz;replace e0 := S.kept.cell e0 (by omega);replace e1 := S.kept.cell e1 (by omega);replace e2 := S.kept.cell e2 (by omega);replace e3 := S.kept.cell e3 (by omega);replace e4 := S.kept.cell e4 (by omega);replace e5 := S.kept.cell e5 (by omega);replace X1 := X1.kp S.kept;replace c1 := X1.cell;replace X2 : Bx V3 b2 [.int .i64 1, .int .i64 0, .int .i64 0, .int .i64 0, .int .i64 k, .bool true, .int .i64 en.1, .int .i64 en.2.1, .int .i64 en.2.2.1, .int .i64 en.2.2.2.1, .int .i64 en.2.2.2.2.1, .int .i64 en.2.2.2.2.2, .int .i64 0, .slice none 0 0, .int .i64 r.commit] := S.bx;replace c2 := X2.cell;replace f2 := X2.froz;replace B := bkp B S.kept;clear S) | ((with_reducible refine store_oneX 4 X2 5 (.bool true) (by simp) (by kernel_rfl) rfl rfl rfl ?_);intro V2 S;replace X0 := X0.kp S.kept;replace c0 := X0.cell;rw [ea] at c0;replace f0 := X0.froz;replace e0 := S.kept.cell e0 (by omega);replace e1 := S.kept.cell e1 (by omega);replace e2 := S.kept.cell e2 (by omega);replace e3 := S.kept.cell e3 (by omega);replace e4 := S.kept.cell e4 (by omega);replace e5 := S.kept.cell e5 (by omega);replace X1 := X1.kp S.kept;replace c1 := X1.cell;replace X2 : Bx V2 b2 [.int .i64 1, .int .i64 0, .int .i64 0, .int .i64 0, .int .i64 k, .bool true, .int .i64 0, .int .i64 0, .int .i64 0, .int .i64 0, .int .i64 0, .int .i64 0, .int .i64 0, .slice none 0 0, .int .i64 r.commit] := S.bx;replace c2 := X2.cell;replace f2 := X2.froz;replace B := bkp B S.kept;clear S) | fail)
  refine (send_is r h s tgt ⟨1, 0, 0, 0, k, true, en, 0, [], r.commit⟩ (none, 0, 0) base b0 _ Km ms X0 (HG.out.below B) (RowAt.nilR _ _ _ _ _ _ _) (fun h0 => absurd rfl h0) hb (Nat.le_trans hbase B.size) hn).mono ?_
  rintro e w2 ⟨s', rfl, X2', G2, hs2, KS2⟩
  have K9 : Hid (KeptS (fun q => q = b0 ∨ base ≤ q) w w2) := (KeptS.below B).trans KS2
  have H1 : Hid _ := X2'
  have H2 : Hid _ := G2
  clear X2' G2 KS2 X0 X1 X2 c0 c1 c2 f0 f2;go_wp2
  refine bodyPost_end (v := .tuple #[]) (by simp [results, Tryz.results203, go_sem]) rfl ⟨s', rfl, H1.out, ?_, hs2, K9.out⟩
  rw [HP.out];exact H2.out
 ·have hlk : ¬ (k : Int) < (h.L.2.1 : Int) := by omega
  have HP : Hid (prepM r k = ⟨1, 0, 0, 0, k, false, en0, 0, [], r.commit⟩) := by show _ = _;unfold prepM;rw [if_neg (by omega)]
  go_wp2_with fail
  refine (send_is r h s tgt ⟨1, 0, 0, 0, k, false, en0, 0, [], r.commit⟩ (none, 0, 0) base b0 _ Km ms X0 (HG.out.below B) (RowAt.nilR _ _ _ _ _ _ _) (fun h0 => absurd rfl h0) hb (Nat.le_trans hbase B.size) hn).mono ?_
  rintro e w2 ⟨s', rfl, X2', G2, hs2, KS2⟩
  have K9 : Hid (KeptS (fun q => q = b0 ∨ base ≤ q) w w2) := (KeptS.below B).trans KS2
  have H1 : Hid _ := X2'
  have H2 : Hid _ := G2
  clear X2' G2 KS2 X0 X1 X2 c0 c1 c2 f0 f2;go_wp2
  refine bodyPost_end (v := .tuple #[]) (by simp [results, Tryz.results203, go_sem]) rfl ⟨s', rfl, H1.out, ?_, hs2, K9.out⟩
  rw [HP.out];exact H2.out
def agrM (r : Rep) : Int := if agrR r ≤ r.commit then r.commit else agrR r
def agrC (r : Rep) : Rep := ⟨r.id, r.size, r.view, r.normal, r.last, r.log, agrM r, r.oks, r.asks, r.doers⟩
theorem agree_is {own : Bool} {lo hi : Nat} (r : Rep) (h : RH) (s : Hd) (b0 : Nat) (w : World) (X0 : Bx w b0 [.int .i64 r.id, .int .i64 r.size, .int .i64 r.view, .bool r.normal, .int .i64 r.last, .slice h.L.1 h.L.2.1 h.L.2.2, .int .i64 r.commit, .slice h.O.1 h.O.2.1 h.O.2.2, .slice h.A.1 h.A.2.1 h.A.2.2, .slice h.D.1 h.D.2.1 h.D.2.2, .slice s.1 s.2.1 s.2.2]) (x : RepAt w own lo hi h r) (hs : 1 ≤ r.size ∧ r.size ≤ 5) (hid : 0 ≤ r.id ∧ r.id ≤ r.size - 1) (hl : (r.oks.length : Int) = r.size) (ho : ∀ y ∈ r.oks, 0 ≤ y ∧ y ≤ (r.log.length : Int)) :
  Calls Tryz.prog 202 #[.agg #[.pointer (some ⟨b0, 0, none⟩)]] w fun e w' => e = .returned (.tuple #[]) ∧ Bx w' b0 [.int .i64 (agrC r).id, .int .i64 (agrC r).size, .int .i64 (agrC r).view, .bool (agrC r).normal, .int .i64 (agrC r).last, .slice h.L.1 h.L.2.1 h.L.2.2, .int .i64 (agrC r).commit, .slice h.O.1 h.O.2.1 h.O.2.2, .slice h.A.1 h.A.2.1 h.A.2.2, .slice h.D.1 h.D.2.1 h.D.2.2, .slice s.1 s.2.1 s.2.2] ∧ KeptS (fun k => k = b0) w w' := by
 have HO : Hid _ := ho
 have HL : Hid _ := hl
 have HM : Hid (agrM r = if agrR r ≤ r.commit then r.commit else agrR r) := rfl
 clear ho hl;have c0 := X0.cell;have f0 := X0.froz;have ob0 := X0.lt
 go_enter Tryz.func202, Tryz.ntmps202
 go_wp2_with (first | ((have g := ob0);clear g;(with_reducible refine box_newX 142 [.pointer (some ⟨b0, 0, none⟩)] rfl ?_);intro b1 W1 N1;have ob1 := N1.ge;have o0_b1 := ltl X0.lt N1.ge;replace X0 := X0.below N1.below;replace c0 := X0.cell;replace f0 := X0.froz;have B := N1.below;have X1 := N1.bx;have c1 := X1.cell;clear N1) | fail)
 have D : Below W1.heap.size W1 W1.drew := (Below.refl _ _).drew
 have XD := X0.below D;have xD := x.below (below_next B D);have YD := X1.below D;have BD := below_next B D;clear D;obtain ⟨ag, hag⟩ : ∃ ag, agrR r = ag := ⟨_, rfl⟩;rw [hag] at HM
 have HAG : Hid _ := hag
 clear hag
 by_cases hmx : ag ≤ r.commit
 ·have HM2 : Hid (agrM r = r.commit) := by show _ = _;rw [HM.out, if_pos hmx]
  go_region_law (first | (go_simp;go_at_call 251;refine (agreed_is r h s b0 _ XD xD hs hid HL.out HO.out).mono ?_;rintro e w1 ⟨rfl, BB⟩;rw [HAG.out];have XN := XD.below BB;have cN := XN.cell;have fN := XN.froz;have YN := YD.below BB;have dN := YN.cell;have BN := below_next BD BB;clear BB))
  all_goals
   have X9 := XN.set 6 (by simp) (.int .i64 r.commit)
   have K9 := (KeptS.setCell (S := fun k => k = b0) (KeptS.below BN) (p := ⟨b0, 6, none⟩) rfl (.int .i64 r.commit))
   have HX9 : Hid _ := X9
   have HK9 : Hid _ := K9
   clear X9 K9 XN cN fN YN dN;go_wp2
   refine bodyPost_end (v := .tuple #[]) (by simp [results, Tryz.results202, go_sem]) rfl ⟨rfl, ?_, HK9.out⟩
   show Bx _ b0 [_, _, _, _, _, _, .int .i64 (agrM r), _, _, _, _]
   rw [HM2.out];exact HX9.out
 ·have HM2 : Hid (agrM r = ag) := by show _ = _;rw [HM.out, if_neg hmx]
  go_region_law (first | (go_simp;go_at_call 251;refine (agreed_is r h s b0 _ XD xD hs hid HL.out HO.out).mono ?_;rintro e w1 ⟨rfl, BB⟩;rw [HAG.out];have XN := XD.below BB;have cN := XN.cell;have fN := XN.froz;have YN := YD.below BB;have dN := YN.cell;have BN := below_next BD BB;clear BB))
  all_goals
   have X9 := XN.set 6 (by simp) (.int .i64 ag)
   have K9 := (KeptS.setCell (S := fun k => k = b0) (KeptS.below BN) (p := ⟨b0, 6, none⟩) rfl (.int .i64 ag))
   have HX9 : Hid _ := X9
   have HK9 : Hid _ := K9
   clear X9 K9 XN cN fN YN dN;go_wp2
   refine bodyPost_end (v := .tuple #[]) (by simp [results, Tryz.results202, go_sem]) rfl ⟨rfl, ?_, HK9.out⟩
   show Bx _ b0 [_, _, _, _, _, _, .int .i64 (agrM r), _, _, _, _]
   rw [HM2.out];exact HX9.out
structure OwnE (w : World) (z ue : Nat) (v : Value) (n : Nat) (xs : List En) : Prop where
 own : w.ownsRow z 49 6 v n (sixs xs)
 lt : ∀ g, v.ownBlock = some g → g < ue
def tookR (r : Rep) (en : En) : Rep := ⟨r.id, r.size, r.view, r.normal, r.last, r.log ++ [en], r.commit, r.oks, r.asks, r.doers⟩
def takeQ (r : Rep) (en : En) : Rep := agrC (tookR r en)
def takeM (r : Rep) (en : En) : List Ml := (othL r.id.toNat r.size.toNat).map fun t => putM (prepM (takeQ r en) r.log.length) r.id t r.view
theorem KeptS.fresh {S : Nat → Prop} {w w1 w2 : World} {b0 : Nat} (h : KeptS S w w1) (g : KeptS (fun q => q = b0 ∨ w1.heap.size ≤ q) w1 w2) (hb : S b0) : KeptS S w w2 :=
 ⟨g.os.trans h.os, g.tape.trans h.tape, g.output.trans h.output, Nat.le_trans h.size g.size, fun k hk hs => (g.block k (Nat.lt_of_lt_of_le hk h.size) (fun z => z.elim (fun e => hs (e ▸ hb)) (fun z => by have := h.size;omega))).trans (h.block k hk hs)⟩
def askC (r : Rep) (en : En) : Int := if ledF r = 0 then (if enFault en = 0 then (if r.log.length = 40 then 2 else 0) else enFault en) else ledF r
def askQ (r : Rep) (en : En) : Rep := if askC r en = 0 then takeQ r en else rep0
def askM (r : Rep) (en : En) : List Ml := if askC r en = 0 then takeM r en else []
theorem l1Max9_is (x y : Int) (w : World) : Calls Tryz.prog 135 #[.int .i64 x, .int .i64 y] w fun e w' => e = .returned (.int .i64 (max x y)) ∧ w' = w := by
 by_cases h : y < x
 ·have h' : max x y = x := by omega
  rw [h']
  go_enter Tryz.func135, Tryz.ntmps135
  go_wp2;go_ret;exact ⟨rfl, rfl⟩
 ·have h' : max x y = y := by omega
  rw [h']
  go_enter Tryz.func135, Tryz.ntmps135
  go_wp2;go_ret;exact ⟨rfl, rfl⟩
theorem agrTo_in (oks : List Int) (id size : Int) : ∀ k : Nat, 0 ≤ agrTo oks id size k ∧ agrTo oks id size k ≤ k
 | 0 => by simp [agrTo]
 | k + 1 => by
  have := agrTo_in oks id size k
  simp only [agrTo]
  split
  ·constructor <;> omega
  ·constructor <;> omega
structure AskOk (r : Rep) (en : En) : Prop where
 led : Led r
 lead : r.view % r.size = r.id
 norm : r.normal = true
 log : (askQ r en).log = r.log ++ [en]
 rep : repF (askQ r en) = 0
 ledQ : ledF (askQ r en) = 0
 agr : agrR (askQ r en) ≤ (askQ r en).commit
 len : ((askM r en).length : Int) = r.size - 1
 mail : ∀ i, i < (askM r en).length → ((askM r en).getD i ml0).kind = 1 ∧ ((askM r en).getD i ml0).en = en ∧ ((askM r en).getD i ml0).at_ = (r.log.length : Int)
end Go.Proofs.YtgldocaohcoleaaGreat
