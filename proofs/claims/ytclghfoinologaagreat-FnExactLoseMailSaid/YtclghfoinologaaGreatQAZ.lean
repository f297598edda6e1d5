/- Chapter 11: liveClusterOf of the program. -/
import Derived.Test.YtclghfoinologaaGreatQAY
import Derived.Defers
import Derived.Laws.Pointers
import Derived.OwnWalk
set_option maxRecDepth 20000
set_option maxHeartbeats 16000000
namespace Go.Proofs.YtclghfoinologaaGreat
open Go.RowKit
theorem copyNodes_z {own : Bool} {lo hi : Nat} (N : Hd) (xs : List Nod) (w : World) (x : NAt w own lo hi N xs) (hn : N.2.1 ≤ 1048576) (hs : ∀ (i : Nat) (a : Nod), xs[i]? = some a → RSz a.2 1048576) :
  Calls Tryz.prog 78 #[.slice N.1 N.2.1 N.2.2] w fun e w' => ∃ (z u : Nat) (N' : Hd) (ys : List Nod), e = .returned (.slice N'.1 N'.2.1 N'.2.2) ∧ w.heap.size ≤ z ∧ u ≤ w'.heap.size ∧ NAt w' true z u N' ys ∧ (ys.map (·.1) = xs.map (·.1) ∧ N'.2.1 = N.2.1 ∧ ∀ (i : Nat) (a : Nod), ys[i]? = some a → RSz a.2 1048576) ∧ Below w.heap.size w w' :=
 (copyNodes_o N xs w x hn hs).mono fun _ w' ⟨N', ys, e, e1, G, e2, e3, b⟩ => by
  obtain ⟨ao, cap, e4, L⟩ := G.els
  simp only [Value.slice.injEq, true_and] at e4
  refine ⟨w.heap.size, w'.heap.size, N', ys, e, Nat.le_refl _, Nat.le_refl _, ?_, ⟨e2, e1, e3⟩, b⟩
  show LAt nodeK w' true _ _ N'.1 N'.2.1 N'.2.2 ys
  rw [e4.1, e4.2];exact L
theorem copyMails_z {own : Bool} {lo hi : Nat} (M : Hd) (ms : List Mal) (w : World) (x : MAt w own lo hi M ms) (hn : M.2.1 ≤ 1048576) (hs : ∀ (i : Nat) (a : Mal), ms[i]? = some a → a.2.2.1 ≤ 1048576) :
  Calls Tryz.prog 79 #[.slice M.1 M.2.1 M.2.2] w fun e w' => ∃ (z u : Nat) (M' : Hd) (ys : List Mal), e = .returned (.slice M'.1 M'.2.1 M'.2.2) ∧ w.heap.size ≤ z ∧ u ≤ w'.heap.size ∧ MGr w' 96 z u M' ys ∧ (ys.map (·.1) = ms.map (·.1) ∧ M'.2.1 = M.2.1 ∧ ∀ (i : Nat) (a : Mal), ys[i]? = some a → a.2.2.1 ≤ 1048576) ∧ Below w.heap.size w w' :=
 (copyMails_o M ms w x hn hs).mono fun _ w' ⟨M', ys, e, e1, G, e2, e3, b⟩ => ⟨w.heap.size, w'.heap.size, M', ys, e, Nat.le_refl _, Nat.le_refl _, ⟨G, fun q hq => by
  rcases hq with h | ⟨i, a, ea, h⟩
  ·exact (G.own.lt q h).2
  ·exact (mailOk.inB (G.each i a ea) h).2.2⟩, ⟨e2, e1, e3⟩, b⟩
def LiveRes (w w' : World) (e : Ending) (xs : List Nod) (ms : List Mal) (es : List En) : Prop := ∃ (b : Nat) (N M S : Hd) (xa : List Nod) (ya : List Mal), e = .returned (.pointer (some ⟨b, 0, none⟩)) ∧ LiveAt w' 96 w.heap.size b N M S xa ya es ∧ xa.map (·.1) = xs.map (·.1) ∧ ya.map (·.1) = ms.map (·.1) ∧ Below w.heap.size w w'
theorem liveOf_is {own : Bool} {lo hi : Nat} (N M Sl : Hd) (xs : List Nod) (ms : List Mal) (es : List En) (w : World) (x : ClAt w own lo hi N M Sl xs ms es) (hs : ClSz N M Sl xs ms 1048576) :
  Calls Tryz.prog 41 #[.agg #[.slice N.1 N.2.1 N.2.2, .slice M.1 M.2.1 M.2.2, .slice Sl.1 Sl.2.1 Sl.2.2]] w fun e w' => LiveRes w w' e xs ms es := by
 have HS : Hid _ := hs
 have HN : Hid _ := x.nodes
 have HM : Hid _ := x.mails
 have HL : Hid _ := x.slog
 clear hs x
 go_enter Tryz.func41, Tryz.ntmps41
 go_wp2_with (first | ((with_reducible refine box_newX 36 [.slice N.1 N.2.1 N.2.2, .slice M.1 M.2.1 M.2.2, .slice Sl.1 Sl.2.1 Sl.2.2] rfl ?_);intro b0 W0 N0;have ob0 := N0.ge;have B := N0.below;obtain ⟨X0, c0, f0⟩ := N0.a;clear N0) | fail)
 have DQ : Below W0.heap.size W0 W0.drew := (Below.refl _ _).drew
 replace X0 := X0.below DQ;replace c0 := X0.cell;replace f0 := X0.froz;replace B := below_next B DQ;clear DQ
 refine wp_region_held_drew (S := (fun w' => ∀ k : Nat, w'.cell? ⟨b0, k, none⟩ = [.slice N.1 N.2.1 N.2.2, .slice M.1 M.2.1 M.2.2, .slice Sl.1 Sl.2.1 Sl.2.2][k]?)) (by kernel_rfl) c0 (fun hZq => ?_)
 refine tk 0 hZq ?_;refine tk 1 hZq ?_;refine tk 3 hZq ?_;refine tk 4 hZq ?_;refine tk 6 hZq ?_;refine tk 7 hZq ?_
 refine wpAnyH_ready (rs := [2, 10]) (by kernel_rfl) (by simp) ?_
 refine (AllReadyH.cons rfl (fun KK hKK => ?_) (AllReadyH.cons rfl (fun KK hKK => ?_) AllReadyH.nil))
 ·go_simp
  go_at_call 78
  refine (copyNodes_z N xs _ (NAt.below HN.out B) HS.out.n HS.out.nodes).mono ?_;rintro e v1 ⟨zn, un, N', xa, rfl, Gzn, hyn, yn, en, BB⟩;have ozn := Nat.le_trans B.size Gzn;have o0_zn := ltl X0.lt Gzn;clear Gzn;replace X0 := X0.below BB;replace c0 := X0.cell;replace f0 := X0.froz;replace B := below_next B BB
  have EN : Hid _ := en
  clear en;clear BB;clear hZq
  refine hKK _ _ c0 (fun hZq => ?_)
  clear hKK KK
  refine wpAnyH_ready (rs := [5, 10]) (by kernel_rfl) (by simp) ?_
  refine (AllReadyH.cons rfl (fun KK hKK => ?_) (AllReadyH.cons rfl (fun KK hKK => ?_) AllReadyH.nil))
  ·go_simp
   go_at_call 79
   refine (copyMails_z M ms _ (MAt.below HM.out B) HS.out.m HS.out.mails).mono ?_;rintro e v2 ⟨zm, um, M', ya, rfl, Gzm, hym, ym, em, BB⟩;have ozm := Nat.le_trans B.size Gzm;have o0_zm := ltl X0.lt Gzm;have oyn_zm := Nat.le_trans hyn Gzm;clear Gzm;replace X0 := X0.below BB;replace c0 := X0.cell;replace f0 := X0.froz;replace yn := yn.below BB;replace hyn := Nat.le_trans hyn BB.size;replace B := below_next B BB
   have EM : Hid _ := em
   clear em;clear BB;clear hZq
   refine hKK _ _ c0 (fun hZq => ?_)
   clear hKK KK
   refine wpAnyH_ready (rs := [8, 10]) (by kernel_rfl) (by simp) ?_
   refine (AllReadyH.cons rfl (fun KK hKK => ?_) (AllReadyH.cons rfl (fun KK hKK => ?_) AllReadyH.nil))
   ·go_simp
    go_at_call 80
    refine (cloneE_z Sl.1 Sl.2.1 Sl.2.2 es _ (HL.out.below B) HS.out.s).mono ?_;rintro e v3 ⟨ra, rc, zs, us, rfl, Gzs, -, hys, ys, BB⟩;have ozs := Nat.le_trans B.size Gzs;have o0_zs := ltl X0.lt Gzs;have oyn_zs := Nat.le_trans hyn Gzs;have oym_zs := Nat.le_trans hym Gzs;clear Gzs;replace X0 := X0.below BB;replace c0 := X0.cell;replace f0 := X0.froz;replace yn := yn.below BB;replace hyn := Nat.le_trans hyn BB.size;replace ym := ym.below BB;replace hym := Nat.le_trans hym BB.size;replace B := below_next B BB;clear BB;clear hZq
    refine hKK _ _ c0 (fun hZq => ?_)
    clear hKK KK;refine tk 9 hZq ?_
    refine rd1 10 (fun KK hKK => ?_)
    refine step_allocX 36 [.slice none 0 0, .slice none 0 0, .slice none 0 0] (fun _ => by kernel_rfl) ?_
    intro b1 W1 N1;have ob1 := N1.o B;have o0_b1 := N1.u X0;have oyn_b1 := Nat.le_trans hyn N1.ge;have oym_b1 := Nat.le_trans hym N1.ge;have oys_b1 := Nat.le_trans hys N1.ge;replace X0 := N1.r X0;replace c0 := X0.cell;replace f0 := X0.froz;replace yn := yn.below N1.below;replace hyn := Nat.le_trans hyn N1.below.size;replace ym := ym.below N1.below;replace hym := Nat.le_trans hym N1.below.size;replace ys := ys.below N1.below;replace hys := Nat.le_trans hys N1.below.size;replace B := N1.n B
    obtain ⟨X1, c1, f1⟩ := N1.a
    clear N1;clear hZq
    refine hKK _ _ c0 (fun hZq => ?_)
    clear hKK KK
    refine rd1 11 (fun KK hKK => ?_)
    refine step_midX 36 X1 0 [.slice N'.1 N'.2.1 N'.2.2, .slice M'.1 M'.2.1 M'.2.2, .slice ra Sl.2.1 rc] (by simp) (by kernel_rfl) (by simp [Value.oneCell']) rfl rfl ?_
    intro V1 S;replace X0 := X0.kp S.kept;replace c0 := X0.cell;replace f0 := X0.froz
    replace X1 : Bx V1 b1 [.slice N'.1 N'.2.1 N'.2.2, .slice M'.1 M'.2.1 M'.2.2, .slice ra Sl.2.1 rc] := S.bx
    replace c1 := X1.cell;replace f1 := X1.froz
    replace yn := yn.kept S.kept (by omega)
    replace hyn := Nat.le_trans hyn S.kept.size
    replace ym := ym.kept S.kept (by omega)
    replace hym := Nat.le_trans hym S.kept.size
    replace ys := ys.kept S.kept (by omega)
    replace hys := Nat.le_trans hys S.kept.size;replace B := bkp B S.kept;clear S;clear hZq
    refine hKK _ _ c0 (fun hZq => ?_)
    clear hKK KK
    refine wpAnyH_done (by kernel_rfl) ?_ _
    go_wp2_with (first | ((have g := ob1);clear g;(with_reducible refine box_newX 128 [.slice N'.1 N'.2.1 N'.2.2, .slice M'.1 M'.2.1 M'.2.2, .slice ra Sl.2.1 rc] rfl ?_);intro b2 W2 N2;have ob2 := N2.o B;have o0_b2 := N2.u X0;have o1_b2 := N2.u X1;have oyn_b2 := Nat.le_trans hyn N2.ge;have oym_b2 := Nat.le_trans hym N2.ge;have oys_b2 := Nat.le_trans hys N2.ge;replace X0 := N2.r X0;replace c0 := X0.cell;replace f0 := X0.froz;replace X1 := N2.r X1;replace c1 := X1.cell;replace f1 := X1.froz;replace yn := yn.below N2.below;replace hyn := Nat.le_trans hyn N2.below.size;replace ym := ym.below N2.below;replace hym := Nat.le_trans hym N2.below.size;replace ys := ys.below N2.below;replace hys := Nat.le_trans hys N2.below.size;replace B := N2.n B;obtain ⟨X2, c2, f2⟩ := N2.a;clear N2))
    go_ret;have eN := EN.out;have eM := EM.out
    exact ⟨b2, N', M', (ra, Sl.2.1, rc), xa, ya, rfl, liveAt_of X2 (by omega) yn ym ys (by omega) (by omega) (by omega) hyn hys (by omega) (by omega) (by omega) (by omega) (by omega) (by omega) ⟨by rw [eN.2.1];exact HS.out.n, by rw [eM.2.1];exact HS.out.m, HS.out.s, eN.2.2, eM.2.2⟩, eN.1, eM.1, B⟩
   ·refine step_allocX 36 [.slice none 0 0, .slice none 0 0, .slice none 0 0] (fun _ => by kernel_rfl) ?_
    intro b1 W1 N1;have ob1 := N1.o B;have o0_b1 := N1.u X0;have oyn_b1 := Nat.le_trans hyn N1.ge;have oym_b1 := Nat.le_trans hym N1.ge;replace X0 := N1.r X0;replace c0 := X0.cell;replace f0 := X0.froz;replace yn := yn.below N1.below;replace hyn := Nat.le_trans hyn N1.below.size;replace ym := ym.below N1.below;replace hym := Nat.le_trans hym N1.below.size;replace B := N1.n B
    obtain ⟨X1, c1, f1⟩ := N1.a
    clear N1;clear hZq
    refine hKK _ _ c0 (fun hZq => ?_)
    clear hKK KK
    refine rd1 8 (fun KK hKK => ?_)
    go_simp
    go_at_call 80
    refine (cloneE_z Sl.1 Sl.2.1 Sl.2.2 es _ (HL.out.below B) HS.out.s).mono ?_;rintro e v3 ⟨ra, rc, zs, us, rfl, Gzs, -, hys, ys, BB⟩;have ozs := Nat.le_trans B.size Gzs;have o0_zs := ltl X0.lt Gzs;have o1_zs := ltl X1.lt Gzs;have oyn_zs := Nat.le_trans hyn Gzs;have oym_zs := Nat.le_trans hym Gzs;clear Gzs;replace X0 := X0.below BB;replace c0 := X0.cell;replace f0 := X0.froz;replace X1 := X1.below BB;replace c1 := X1.cell;replace f1 := X1.froz;replace yn := yn.below BB;replace hyn := Nat.le_trans hyn BB.size;replace ym := ym.below BB;replace hym := Nat.le_trans hym BB.size;replace B := below_next B BB;clear BB;clear hZq
    refine hKK _ _ c0 (fun hZq => ?_)
    clear hKK KK;refine tk 9 hZq ?_
    refine rd1 11 (fun KK hKK => ?_)
    refine step_midX 36 X1 0 [.slice N'.1 N'.2.1 N'.2.2, .slice M'.1 M'.2.1 M'.2.2, .slice ra Sl.2.1 rc] (by simp) (by kernel_rfl) (by simp [Value.oneCell']) rfl rfl ?_
    intro V1 S;replace X0 := X0.kp S.kept;replace c0 := X0.cell;replace f0 := X0.froz
    replace X1 : Bx V1 b1 [.slice N'.1 N'.2.1 N'.2.2, .slice M'.1 M'.2.1 M'.2.2, .slice ra Sl.2.1 rc] := S.bx
    replace c1 := X1.cell;replace f1 := X1.froz
    replace yn := yn.kept S.kept (by omega)
    replace hyn := Nat.le_trans hyn S.kept.size
    replace ym := ym.kept S.kept (by omega)
    replace hym := Nat.le_trans hym S.kept.size
    replace ys := ys.kept S.kept (by omega)
    replace hys := Nat.le_trans hys S.kept.size;replace B := bkp B S.kept;clear S;clear hZq
    refine hKK _ _ c0 (fun hZq => ?_)
    clear hKK KK
    refine wpAnyH_done (by kernel_rfl) ?_ _
    go_wp2_with (first | ((have g := ob1);clear g;(with_reducible refine box_newX 128 [.slice N'.1 N'.2.1 N'.2.2, .slice M'.1 M'.2.1 M'.2.2, .slice ra Sl.2.1 rc] rfl ?_);intro b2 W2 N2;have ob2 := N2.o B;have o0_b2 := N2.u X0;have o1_b2 := N2.u X1;have oyn_b2 := Nat.le_trans hyn N2.ge;have oym_b2 := Nat.le_trans hym N2.ge;have oys_b2 := Nat.le_trans hys N2.ge;replace X0 := N2.r X0;replace c0 := X0.cell;replace f0 := X0.froz;replace X1 := N2.r X1;replace c1 := X1.cell;replace f1 := X1.froz;replace yn := yn.below N2.below;replace hyn := Nat.le_trans hyn N2.below.size;replace ym := ym.below N2.below;replace hym := Nat.le_trans hym N2.below.size;replace ys := ys.below N2.below;replace hys := Nat.le_trans hys N2.below.size;replace B := N2.n B;obtain ⟨X2, c2, f2⟩ := N2.a;clear N2))
    go_ret;have eN := EN.out;have eM := EM.out
    exact ⟨b2, N', M', (ra, Sl.2.1, rc), xa, ya, rfl, liveAt_of X2 (by omega) yn ym ys (by omega) (by omega) (by omega) hyn hys (by omega) (by omega) (by omega) (by omega) (by omega) (by omega) ⟨by rw [eN.2.1];exact HS.out.n, by rw [eM.2.1];exact HS.out.m, HS.out.s, eN.2.2, eM.2.2⟩, eN.1, eM.1, B⟩
  ·refine step_allocX 36 [.slice none 0 0, .slice none 0 0, .slice none 0 0] (fun _ => by kernel_rfl) ?_
   intro b1 W1 N1;have ob1 := N1.o B;have o0_b1 := N1.u X0;have oyn_b1 := Nat.le_trans hyn N1.ge;replace X0 := N1.r X0;replace c0 := X0.cell;replace f0 := X0.froz;replace yn := yn.below N1.below;replace hyn := Nat.le_trans hyn N1.below.size;replace B := N1.n B
   obtain ⟨X1, c1, f1⟩ := N1.a
   clear N1;clear hZq
   refine hKK _ _ c0 (fun hZq => ?_)
   clear hKK KK
   refine rd1 5 (fun KK hKK => ?_)
   go_simp
   go_at_call 79
   refine (copyMails_z M ms _ (MAt.below HM.out B) HS.out.m HS.out.mails).mono ?_;rintro e v2 ⟨zm, um, M', ya, rfl, Gzm, hym, ym, em, BB⟩;have ozm := Nat.le_trans B.size Gzm;have o0_zm := ltl X0.lt Gzm;have o1_zm := ltl X1.lt Gzm;have oyn_zm := Nat.le_trans hyn Gzm;clear Gzm;replace X0 := X0.below BB;replace c0 := X0.cell;replace f0 := X0.froz;replace X1 := X1.below BB;replace c1 := X1.cell;replace f1 := X1.froz;replace yn := yn.below BB;replace hyn := Nat.le_trans hyn BB.size;replace B := below_next B BB
   have EM : Hid _ := em
   clear em;clear BB;clear hZq
   refine hKK _ _ c0 (fun hZq => ?_)
   clear hKK KK
   refine rd1 8 (fun KK hKK => ?_)
   go_simp
   go_at_call 80
   refine (cloneE_z Sl.1 Sl.2.1 Sl.2.2 es _ (HL.out.below B) HS.out.s).mono ?_;rintro e v3 ⟨ra, rc, zs, us, rfl, Gzs, -, hys, ys, BB⟩;have ozs := Nat.le_trans B.size Gzs;have o0_zs := ltl X0.lt Gzs;have o1_zs := ltl X1.lt Gzs;have oyn_zs := Nat.le_trans hyn Gzs;have oym_zs := Nat.le_trans hym Gzs;clear Gzs;replace X0 := X0.below BB;replace c0 := X0.cell;replace f0 := X0.froz;replace X1 := X1.below BB;replace c1 := X1.cell;replace f1 := X1.froz;replace yn := yn.below BB;replace hyn := Nat.le_trans hyn BB.size;replace ym := ym.below BB;replace hym := Nat.le_trans hym BB.size;replace B := below_next B BB;clear BB;clear hZq
   refine hKK _ _ c0 (fun hZq => ?_)
   clear hKK KK;refine tk 9 hZq ?_
   refine rd1 11 (fun KK hKK => ?_)
   refine step_midX 36 X1 0 [.slice N'.1 N'.2.1 N'.2.2, .slice M'.1 M'.2.1 M'.2.2, .slice ra Sl.2.1 rc] (by simp) (by kernel_rfl) (by simp [Value.oneCell']) rfl rfl ?_
   intro V1 S;replace X0 := X0.kp S.kept;replace c0 := X0.cell;replace f0 := X0.froz
   replace X1 : Bx V1 b1 [.slice N'.1 N'.2.1 N'.2.2, .slice M'.1 M'.2.1 M'.2.2, .slice ra Sl.2.1 rc] := S.bx
   replace c1 := X1.cell;replace f1 := X1.froz
   replace yn := yn.kept S.kept (by omega)
   replace hyn := Nat.le_trans hyn S.kept.size
   replace ym := ym.kept S.kept (by omega)
   replace hym := Nat.le_trans hym S.kept.size
   replace ys := ys.kept S.kept (by omega)
   replace hys := Nat.le_trans hys S.kept.size;replace B := bkp B S.kept;clear S;clear hZq
   refine hKK _ _ c0 (fun hZq => ?_)
   clear hKK KK
   refine wpAnyH_done (by kernel_rfl) ?_ _
   go_wp2_with (first | ((have g := ob1);clear g;(with_reducible refine box_newX 128 [.slice N'.1 N'.2.1 N'.2.2, .slice M'.1 M'.2.1 M'.2.2, .slice ra Sl.2.1 rc] rfl ?_);intro b2 W2 N2;have ob2 := N2.o B;have o0_b2 := N2.u X0;have o1_b2 := N2.u X1;have oyn_b2 := Nat.le_trans hyn N2.ge;have oym_b2 := Nat.le_trans hym N2.ge;have oys_b2 := Nat.le_trans hys N2.ge;replace X0 := N2.r X0;replace c0 := X0.cell;replace f0 := X0.froz;replace X1 := N2.r X1;replace c1 := X1.cell;replace f1 := X1.froz;replace yn := yn.below N2.below;replace hyn := Nat.le_trans hyn N2.below.size;replace ym := ym.below N2.below;replace hym := Nat.le_trans hym N2.below.size;replace ys := ys.below N2.below;replace hys := Nat.le_trans hys N2.below.size;replace B := N2.n B;obtain ⟨X2, c2, f2⟩ := N2.a;clear N2))
   go_ret;have eN := EN.out;have eM := EM.out
   exact ⟨b2, N', M', (ra, Sl.2.1, rc), xa, ya, rfl, liveAt_of X2 (by omega) yn ym ys (by omega) (by omega) (by omega) hyn hys (by omega) (by omega) (by omega) (by omega) (by omega) (by omega) ⟨by rw [eN.2.1];exact HS.out.n, by rw [eM.2.1];exact HS.out.m, HS.out.s, eN.2.2, eM.2.2⟩, eN.1, eM.1, B⟩
 ·refine step_allocX 36 [.slice none 0 0, .slice none 0 0, .slice none 0 0] (fun _ => by kernel_rfl) ?_
  intro b1 W1 N1;have ob1 := N1.o B;have o0_b1 := N1.u X0;replace X0 := N1.r X0;replace c0 := X0.cell;replace f0 := X0.froz;replace B := N1.n B
  obtain ⟨X1, c1, f1⟩ := N1.a
  clear N1;clear hZq
  refine hKK _ _ c0 (fun hZq => ?_)
  clear hKK KK
  refine rd1 2 (fun KK hKK => ?_)
  go_simp
  go_at_call 78
  refine (copyNodes_z N xs _ (NAt.below HN.out B) HS.out.n HS.out.nodes).mono ?_;rintro e v1 ⟨zn, un, N', xa, rfl, Gzn, hyn, yn, en, BB⟩;have ozn := Nat.le_trans B.size Gzn;have o0_zn := ltl X0.lt Gzn;have o1_zn := ltl X1.lt Gzn;clear Gzn;replace X0 := X0.below BB;replace c0 := X0.cell;replace f0 := X0.froz;replace X1 := X1.below BB;replace c1 := X1.cell;replace f1 := X1.froz;replace B := below_next B BB
  have EN : Hid _ := en
  clear en;clear BB;clear hZq
  refine hKK _ _ c0 (fun hZq => ?_)
  clear hKK KK
  refine rd1 5 (fun KK hKK => ?_)
  go_simp
  go_at_call 79
  refine (copyMails_z M ms _ (MAt.below HM.out B) HS.out.m HS.out.mails).mono ?_;rintro e v2 ⟨zm, um, M', ya, rfl, Gzm, hym, ym, em, BB⟩;have ozm := Nat.le_trans B.size Gzm;have o0_zm := ltl X0.lt Gzm;have o1_zm := ltl X1.lt Gzm;have oyn_zm := Nat.le_trans hyn Gzm;clear Gzm;replace X0 := X0.below BB;replace c0 := X0.cell;replace f0 := X0.froz;replace X1 := X1.below BB;replace c1 := X1.cell;replace f1 := X1.froz;replace yn := yn.below BB;replace hyn := Nat.le_trans hyn BB.size;replace B := below_next B BB
  have EM : Hid _ := em
  clear em;clear BB;clear hZq
  refine hKK _ _ c0 (fun hZq => ?_)
  clear hKK KK
  refine rd1 8 (fun KK hKK => ?_)
  go_simp
  go_at_call 80
  refine (cloneE_z Sl.1 Sl.2.1 Sl.2.2 es _ (HL.out.below B) HS.out.s).mono ?_;rintro e v3 ⟨ra, rc, zs, us, rfl, Gzs, -, hys, ys, BB⟩;have ozs := Nat.le_trans B.size Gzs;have o0_zs := ltl X0.lt Gzs;have o1_zs := ltl X1.lt Gzs;have oyn_zs := Nat.le_trans hyn Gzs;have oym_zs := Nat.le_trans hym Gzs;clear Gzs;replace X0 := X0.below BB;replace c0 := X0.cell;replace f0 := X0.froz;replace X1 := X1.below BB;replace c1 := X1.cell;replace f1 := X1.froz;replace yn := yn.below BB;replace hyn := Nat.le_trans hyn BB.size;replace ym := ym.below BB;replace hym := Nat.le_trans hym BB.size;replace B := below_next B BB;clear BB;clear hZq
  refine hKK _ _ c0 (fun hZq => ?_)
  clear hKK KK;refine tk 9 hZq ?_
  refine rd1 11 (fun KK hKK => ?_)
  refine step_midX 36 X1 0 [.slice N'.1 N'.2.1 N'.2.2, .slice M'.1 M'.2.1 M'.2.2, .slice ra Sl.2.1 rc] (by simp) (by kernel_rfl) (by simp [Value.oneCell']) rfl rfl ?_
  intro V1 S;replace X0 := X0.kp S.kept;replace c0 := X0.cell;replace f0 := X0.froz
  replace X1 : Bx V1 b1 [.slice N'.1 N'.2.1 N'.2.2, .slice M'.1 M'.2.1 M'.2.2, .slice ra Sl.2.1 rc] := S.bx
  replace c1 := X1.cell;replace f1 := X1.froz
  replace yn := yn.kept S.kept (by omega)
  replace hyn := Nat.le_trans hyn S.kept.size
  replace ym := ym.kept S.kept (by omega)
  replace hym := Nat.le_trans hym S.kept.size
  replace ys := ys.kept S.kept (by omega)
  replace hys := Nat.le_trans hys S.kept.size;replace B := bkp B S.kept;clear S;clear hZq
  refine hKK _ _ c0 (fun hZq => ?_)
  clear hKK KK
  refine wpAnyH_done (by kernel_rfl) ?_ _
  go_wp2_with (first | ((have g := ob1);clear g;(with_reducible refine box_newX 128 [.slice N'.1 N'.2.1 N'.2.2, .slice M'.1 M'.2.1 M'.2.2, .slice ra Sl.2.1 rc] rfl ?_);intro b2 W2 N2;have ob2 := N2.o B;have o0_b2 := N2.u X0;have o1_b2 := N2.u X1;have oyn_b2 := Nat.le_trans hyn N2.ge;have oym_b2 := Nat.le_trans hym N2.ge;have oys_b2 := Nat.le_trans hys N2.ge;replace X0 := N2.r X0;replace c0 := X0.cell;replace f0 := X0.froz;replace X1 := N2.r X1;replace c1 := X1.cell;replace f1 := X1.froz;replace yn := yn.below N2.below;replace hyn := Nat.le_trans hyn N2.below.size;replace ym := ym.below N2.below;replace hym := Nat.le_trans hym N2.below.size;replace ys := ys.below N2.below;replace hys := Nat.le_trans hys N2.below.size;replace B := N2.n B;obtain ⟨X2, c2, f2⟩ := N2.a;clear N2))
  go_ret;have eN := EN.out;have eM := EM.out
  exact ⟨b2, N', M', (ra, Sl.2.1, rc), xa, ya, rfl, liveAt_of X2 (by omega) yn ym ys (by omega) (by omega) (by omega) hyn hys (by omega) (by omega) (by omega) (by omega) (by omega) (by omega) ⟨by rw [eN.2.1];exact HS.out.n, by rw [eM.2.1];exact HS.out.m, HS.out.s, eN.2.2, eM.2.2⟩, eN.1, eM.1, B⟩
def ClRes (own : Bool) (w w' : World) (e : Ending) (cd : Int) (rs : List Rep) (ms : List Ml) (es : List En) : Prop := ∃ (N M S : Hd) (xs : List Nod) (ys : List Mal), e = .returned (.agg #[.int .i64 cd, .slice N.1 N.2.1 N.2.2, .slice M.1 M.2.1 M.2.2, .slice S.1 S.2.1 S.2.2]) ∧ ClAt w' own w.heap.size w'.heap.size N M S xs ys es ∧ ClSz N M S xs ys 1048576 ∧ xs.map (·.1) = rs ∧ ys.map (·.1) = ms ∧ Below w.heap.size w w'
theorem ClRes.nix {own : Bool} {w w' : World} (cd : Int) (B : Below w.heap.size w w') : ClRes own w w' (.returned (.agg #[.int .i64 cd, .slice none 0 0, .slice none 0 0, .slice none 0 0])) cd [] [] [] :=
 ⟨(none, 0, 0), (none, 0, 0), (none, 0, 0), [], [], rfl, ⟨LAt.nil _ _ _ _ _ _ _, LAt.nil _ _ _ _ _ _ _, RowAt.nilR _ _ _ _ _ _ _, fun _ => ⟨fun q a _ => (by rcases a with a | ⟨i, a, e, _⟩;exact absurd rfl a.1;simp at e), fun q a _ => (by rcases a with a | ⟨i, a, e, _⟩;exact absurd rfl a.1;simp at e), fun q a _ => (by rcases a with a | ⟨i, a, e, _⟩;exact absurd rfl a.1;simp at e)⟩⟩, ⟨Nat.zero_le _, Nat.zero_le _, Nat.zero_le _, fun i a e => by simp at e, fun i a e => by simp at e⟩, rfl, rfl, B⟩
theorem npl_ok {rs : List Rep} {ms : List Ml} {es : List En} {n : Nat} {v : Int} (h : nplC (cluF rs ms es) n v = 0) : cluF rs ms es = 0 ∧ 0 ≤ v ∧ v ≤ (n : Int) - 1 := by
 unfold nplC at h
 by_cases q : cluF rs ms es = 0
 ·rw [if_pos q] at h
  by_cases q2 : 0 ≤ v ∧ v ≤ (n : Int) - 1
  ·exact ⟨q, q2⟩
  ·rw [if_neg q2] at h;cases h
 ·rw [if_neg q] at h;exact absurd h q
theorem clu_parts {rs : List Rep} {ms : List Ml} {es : List En} (h : cluF rs ms es = 0) : rs.length ≤ 5 ∧ ms.length ≤ 120 ∧ nodesF rs = 0 ∧ mailsF rs ms = 0 ∧ logF es = 0 := by
 unfold cluF at h
 by_cases q : (1 ≤ (rs.length : Int) ∧ (rs.length : Int) ≤ 5) ∧ ms.length ≤ 120
 ·rw [if_pos q] at h
  by_cases q2 : nodesF rs = 0
  ·rw [if_pos q2] at h
   by_cases q3 : mailsF rs ms = 0
   ·rw [if_pos q3] at h
    exact ⟨by omega, q.2, q2, q3, h⟩
   ·rw [if_neg q3] at h;exact absurd h q3
  ·rw [if_neg q2] at h;exact absurd h q2
 ·rw [if_neg q] at h;cases h
theorem clAnswer_is {b0 : Nat} (N M Sd : Hd) (w : World) (X0 : Bx w b0 [.slice N.1 N.2.1 N.2.2, .slice M.1 M.2.1 M.2.2, .slice Sd.1 Sd.2.1 Sd.2.2]) :
  Calls Tryz.prog 43 #[.pointer (some ⟨b0, 0, none⟩)] w fun e w' => e = .returned (.agg #[.int .i64 0, .slice N.1 N.2.1 N.2.2, .slice M.1 M.2.1 M.2.2, .slice Sd.1 Sd.2.1 Sd.2.2]) ∧ Below w.heap.size w w' := by
 have c0 := X0.cell;have f0 := X0.froz;have ob0 := X0.lt
 go_enter Tryz.func43, Tryz.ntmps43
 go_wp2_with (first | ((with_reducible refine sm 38 X1 0 [.int .i64 0, .slice N.1 N.2.1 N.2.2, .slice M.1 M.2.1 M.2.2, .slice Sd.1 Sd.2.1 Sd.2.2] ?_);intro V1 S;replace X0 := X0.kp S.kept;replace c0 := X0.cell;replace f0 := X0.froz;replace X1 : Bx V1 b1 [.int .i64 0, .slice N.1 N.2.1 N.2.2, .slice M.1 M.2.1 M.2.2, .slice Sd.1 Sd.2.1 Sd.2.2] := S.bx;replace c1 := X1.cell;replace f1 := X1.froz;replace B := bkp B S.kept;clear S) | ((have g := ob0);clear g;(with_reducible refine al 38 [.int .i64 0, .slice none 0 0, .slice none 0 0, .slice none 0 0] ?_);intro b1 W1 N1;have ob1 := N1.ge;have o0_b1 := N1.u X0;replace X0 := N1.r X0;replace c0 := X0.cell;replace f0 := X0.froz;have B := N1.below;obtain ⟨X1, c1, f1⟩ := N1.a;clear N1))
 refine bodyPost_ret (v := .agg #[.int .i64 0, .slice N.1 N.2.1 N.2.2, .slice M.1 M.2.1 M.2.2, .slice Sd.1 Sd.2.1 Sd.2.2]) (by simp [results, Tryz.results43, go_sem, *]) rfl ⟨rfl, B⟩
def prepM (r : Rep) (k : Nat) : Ml := if k < r.log.length then ⟨1, 0, 0, 0, k, true, r.log.getD k en0, 0, [], r.commit⟩ else ⟨1, 0, 0, 0, k, false, en0, 0, [], r.commit⟩
def agrM (r : Rep) : Int := if agrR r ≤ r.commit then r.commit else agrR r
def agrC (r : Rep) : Rep := ⟨r.id, r.size, r.view, r.normal, r.last, r.log, agrM r, r.oks, r.asks, r.doers⟩
structure OwnE (w : World) (z ue : Nat) (v : Value) (n : Nat) (xs : List En) : Prop where
 own : w.ownsRow z 43 6 v n (sixs xs)
 lt : ∀ g, v.ownBlock = some g → g < ue
def tookR (r : Rep) (en : En) : Rep := ⟨r.id, r.size, r.view, r.normal, r.last, r.log ++ [en], r.commit, r.oks, r.asks, r.doers⟩
def takeQ (r : Rep) (en : En) : Rep := agrC (tookR r en)
def takeM (r : Rep) (en : En) : List Ml := (othL r.id.toNat r.size.toNat).map fun t => putM (prepM (takeQ r en) r.log.length) r.id t r.view
end Go.Proofs.YtclghfoinologaaGreat
