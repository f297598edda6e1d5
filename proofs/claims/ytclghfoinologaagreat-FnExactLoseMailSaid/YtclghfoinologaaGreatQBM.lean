/- Chapter 11: a cluster, and an answer with one, marked, held and compared by the laws. -/
import Derived.Test.YtclghfoinologaaGreatQBL
set_option maxRecDepth 20000
set_option maxHeartbeats 16000000
namespace Go.Proofs.YtclghfoinologaaGreat
open Go.RowKit
def malK (ms : List Mal) (i : Nat) : Hd := (ms.getD i mal0).2
theorem inE_inL {ms : List Mal} {ao : Option Addr} {n : Nat} (hl : ms.length = n) {q : Nat} (h : inE ao n (malK ms) q) : inL mailK ao n ms q := by
 rcases h with h | ⟨i, hi, h0, h1⟩
 ·exact Or.inl h
 ·have hi' : i < ms.length := by rw [hl];exact hi
  have e : ms[i]? = some (ms.getD i mal0) := by simp [List.getD, hi']
  exact Or.inr ⟨i, _, e, ⟨h0, h1⟩⟩
def c1Q (N : Hd) (xs : List Nod) (k : Int) : Int := qAt k xs N.2.1
def c2Q (N M : Hd) (xs : List Nod) (ms : List Mal) (k : Int) : Int := kE 14 (malK ms) (c1Q N xs k) M.2.1
def c3Q (N M Sl : Hd) (xs : List Nod) (ms : List Mal) (k : Int) : Int := c2Q N M xs ms k + 6 * (Sl.2.1 : Int)
structure MCl (w : World) (o : Bool) (lo hi : Nat) (N M Sl : Hd) (xs : List Nod) (ms : List Mal) (k : Int) : Prop where
 nodes : LAt nodeK w o lo hi N.1 N.2.1 N.2.2 (mkTo k xs N.2.1)
 mails : ElsAt 15 w o lo hi M.1 M.2.1 M.2.2 (mkMF (malK ms) (c1Q N xs k)) (malK ms) (paM 14 13 (malK ms) (c1Q N xs k) (fun _ => []) M.2.1)
 slog : RowAt w o lo hi 6 Sl.1 Sl.2.1 Sl.2.2 (sixs (marks6 (c2Q N M xs ms k) Sl.2.1))
def inCl (N M Sl : Hd) (xs : List Nod) (ms : List Mal) (q : Nat) : Prop := inL nodeK N.1 N.2.1 xs q ∨ inL mailK M.1 M.2.1 ms q ∨ hR Sl q
section
variable {w w' : World} {o : Bool} {lo hi : Nat} {N M Sl : Hd} {xs : List Nod} {ms : List Mal} {es : List En} {k : Int}
theorem MCl.below (x : MCl w o lo hi N M Sl xs ms k) (hb : Below w.heap.size w w') : MCl w' o lo hi N M Sl xs ms k := ⟨x.nodes.below nodeOk hb, x.mails.below hb, x.slog.below hb⟩
theorem MCl.kept (x : MCl w o lo hi N M Sl xs ms k) {l u : Nat} (hk : Kept l u w w') (hd : hi ≤ l ∨ u ≤ lo) : MCl w' o lo hi N M Sl xs ms k := ⟨x.nodes.kept nodeOk hk hd, x.mails.kept hk hd, x.slog.kept hk hd⟩
theorem ClAt.inB (x : ClAt w o lo hi N M Sl xs ms es) {q : Nat} (hq : inCl N M Sl xs ms q) : lo ≤ q ∧ q < hi ∧ q < w.heap.size := by
 rcases hq with h | h | h
 ·exact x.nodes.inB h
 ·exact x.mails.inB h
 ·exact x.slog.inB h
theorem cQ_in (hk : 0 ≤ k) (hN : k + 6 * (nsum xs : Int) ≤ 12000000) (hz : ClSz N M Sl xs ms 1048576) (hl : ms.length = M.2.1) : (0 ≤ c1Q N xs k ∧ c1Q N xs k ≤ 12000000) ∧ (0 ≤ c2Q N M xs ms k ∧ c2Q N M xs ms k ≤ 100000000000000) ∧ (0 ≤ c3Q N M Sl xs ms k) ∧ ∀ i, i < M.2.1 → (malK ms i).2.1 ≤ 2097152 := by
 have h1 := qAt_le xs k N.2.1
 have hK : ∀ i, i < M.2.1 → (malK ms i).2.1 ≤ 2097152 := fun i hi => by
  have hi' : i < ms.length := by rw [hl];exact hi
  have e : ms[i]? = some (ms.getD i mal0) := by simp [List.getD, hi']
  have := hz.mails i _ e
  unfold malK;omega
 have h2 := kE_ge (t := 14) (by omega) (malK ms) (c1Q N xs k) M.2.1
 have h3 := kE_le (t := 14) (by omega) (by omega) (malK ms) (c1Q N xs k) (n := M.2.1) hK M.2.1 (Nat.le_refl _)
 have h4 := hz.m
 have e1 : c1Q N xs k = qAt k xs N.2.1 := rfl
 refine ⟨by omega, ⟨?_, ?_⟩, ?_, hK⟩
 ·unfold c2Q;omega
 ·unfold c2Q;omega
 ·unfold c3Q c2Q;omega
end
theorem markCluster_any {lo hi : Nat} (N M Sl : Hd) (xs : List Nod) (ms : List Mal) (es : List En) (k : Int) (w : World) (x : ClAt w true lo hi N M Sl xs ms es) (hz : ClSz N M Sl xs ms 1048576) (hk : 0 ≤ k) (hN : k + 6 * (nsum xs : Int) ≤ 12000000) :
  Calls Tryz.prog 12 #[.agg #[.slice N.1 N.2.1 N.2.2, .slice M.1 M.2.1 M.2.2, .slice Sl.1 Sl.2.1 Sl.2.2], .int .i64 k] w fun e w' => e = .returned (.int .i64 (c3Q N M Sl xs ms k)) ∧ MCl w' true lo hi N M Sl xs ms k ∧ KeptS (inCl N M Sl xs ms) w w' := by
 have HB : Hid (∀ q, inCl N M Sl xs ms q → q < w.heap.size) := fun q hq => (x.inB hq).2.2
 have ⟨s1, s2, s3⟩ := x.sep rfl
 have H1 : Hid _ := s1
 have H2 : Hid _ := s2
 have H3 : Hid _ := s3
 have HL : Hid _ := x.mails.len
 have HI : Hid _ := cQ_in hk hN hz x.mails.len
 have hM := hz.m;have hS := hz.s;clear s1 s2 s3
 go_enter Tryz.func12, Tryz.ntmps12
 go_wp2_with (first | ((with_reducible refine box_newX 36 [.slice N.1 N.2.1 N.2.2, .slice M.1 M.2.1 M.2.2, .slice Sl.1 Sl.2.1 Sl.2.2] rfl ?_);intro b0 W0 N0;have ob0 := N0.ge;have B := N0.below;obtain ⟨X0, c0⟩ := N0.c;clear N0) | fail)
 have XN := x.nodes.below B;have XM := x.mails.below B;have XS := x.slog.below B
 have kk : KeptS (inCl N M Sl xs ms) w W0 := KeptS.below B
 clear x;refine (markNods_any N.1 N.2.1 N.2.2 xs k _ XN hk hN).mono ?_;rintro e w1 ⟨rfl, LN, KS⟩
 have YM : MailsAt w1 true lo hi M.1 M.2.1 M.2.2 (malK ms) (ms.map (·.1)) := LAt.mails (LAt.keptS mailOk XM KS (Sep.symm H1.out))
 have YS := XS.keptR KS (Sep.symm H2.out)
 replace X0 := X0.keptS KS (fun q => by have := HB.out _ (Or.inl q);omega)
 replace c0 := X0.cell
 replace kk := kk.trans (KS.mono fun q hq => Or.inl hq)
 clear XN XM XS KS
 rw [show qAt k xs N.2.1 = c1Q N xs k from rfl]
 go_wp2_with fail
 refine (markMailS_any M.1 M.2.1 M.2.2 (malK ms) _ _ (c1Q N xs k) _ YM.els (fun _ _ => rfl) (by omega) HI.out.2.2.2 HI.out.1.1 (by have := HI.out.1.2;omega)).mono ?_
 rintro e w2 ⟨rfl, EM, KS⟩
 have KS2 : KeptS (inL mailK M.1 M.2.1 ms) w1 w2 := KS.mono fun q hq => inE_inL HL.out hq
 clear KS YM
 replace LN := LAt.keptS nodeOk LN KS2 (fun q hq => H1.out q (inL_snd (mkTo_snd xs k N.2.1) _ _ q hq))
 replace YS := YS.keptR KS2 (Sep.symm H3.out)
 replace X0 := X0.keptS KS2 (fun q => by have := HB.out _ (Or.inr (Or.inl q));omega)
 replace c0 := X0.cell
 replace kk := kk.trans (KS2.mono fun q hq => Or.inr (Or.inl hq))
 clear KS2
 rw [show kE 14 (malK ms) (c1Q N xs k) M.2.1 = c2Q N M xs ms k from rfl]
 go_wp2_with fail
 refine (markEntries_any Sl.1 Sl.2.1 Sl.2.2 es (c2Q N M xs ms k) _ YS.pinR (by omega) HI.out.2.1.1 (by have := HI.out.2.1.2;omega)).mono ?_
 rintro e w3 ⟨rfl, RS, K3⟩
 have KS3 : KeptS (hR Sl) w2 w3 := Kept.pinR K3
 have MM : MCl w3 true lo hi N M Sl xs ms k := ⟨LAt.keptS nodeOk LN KS3 (fun q hq => H2.out q (inL_snd (mkTo_snd xs k N.2.1) _ _ q hq)), (EM.keptS KS3 (fun q hq => H3.out q (inE_inL HL.out hq))).congr (fun _ _ _ _ => rfl) (fun i hi => by unfold paM;rw [if_pos hi, if_pos hi]), YS.repin RS⟩
 replace kk := kk.trans (KS3.mono fun q hq => Or.inr (Or.inr hq))
 clear LN EM YS RS K3 KS3 X0 c0 H1 H2 H3 HB HL HI
 rw [show c2Q N M xs ms k + 6 * (Sl.2.1 : Int) = c3Q N M Sl xs ms k from rfl]
 go_wp2;go_ret;exact ⟨rfl, MM, kk⟩
theorem heldCluster_any {o : Bool} {lo hi : Nat} (N M Sl : Hd) (xs : List Nod) (ms : List Mal) (k : Int) (w : World) (m : MCl w o lo hi N M Sl xs ms k) (hz : ClSz N M Sl xs ms 1048576) (hl : ms.length = M.2.1) (hk : 0 ≤ k) (hN : k + 6 * (nsum xs : Int) ≤ 12000000) :
  Calls Tryz.prog 37 #[.agg #[.slice N.1 N.2.1 N.2.2, .slice M.1 M.2.1 M.2.2, .slice Sl.1 Sl.2.1 Sl.2.2], .int .i64 k] w fun e w' => e = .returned (.int .i64 (c3Q N M Sl xs ms k)) ∧ Below w.heap.size w w' := by
 have HI : Hid _ := cQ_in hk hN hz hl
 have n1 : ¬ (c1Q N xs k) < 0 := by have := HI.out.1.1;omega
 have n2 : ¬ (c2Q N M xs ms k) < 0 := by have := HI.out.2.1.1;omega
 have n3 : ¬ (c3Q N M Sl xs ms k) < 0 := by have := HI.out.2.2.1;omega
 have hM := hz.m;have hS := hz.s
 go_enter Tryz.func37, Tryz.ntmps37
 go_wp2_with (first | ((with_reducible refine box_newX 36 [.slice N.1 N.2.1 N.2.2, .slice M.1 M.2.1 M.2.2, .slice Sl.1 Sl.2.1 Sl.2.2] rfl ?_);intro b0 W0 N0;have ob0 := N0.ge;have B := N0.below;obtain ⟨X0, c0⟩ := N0.c;clear N0) | fail)
 replace m := m.below B;refine (heldNods_any N.1 N.2.1 N.2.2 xs k _ m.nodes hk hN).mono ?_;rintro e W9 ⟨rfl, rfl⟩
 rw [show qAt k xs N.2.1 = c1Q N xs k from rfl]
 go_wp2_with fail
 refine (heldMailS_any M.1 M.2.1 M.2.2 (malK ms) _ (c1Q N xs k) _ m.mails (by omega) HI.out.2.2.2 HI.out.1.1 (by have := HI.out.1.2;omega)).mono ?_
 rintro e W9 ⟨rfl, rfl⟩
 rw [show kE 14 (malK ms) (c1Q N xs k) M.2.1 = c2Q N M xs ms k from rfl]
 go_wp2_with fail
 refine (heldEntries_any Sl.1 Sl.2.1 Sl.2.2 (c2Q N M xs ms k) _ m.slog (by omega) HI.out.2.1.1 (by have := HI.out.2.1.2;omega)).mono ?_
 rintro e W9 ⟨rfl, rfl⟩
 rw [show c2Q N M xs ms k + 6 * (Sl.2.1 : Int) = c3Q N M Sl xs ms k from rfl]
 go_wp2;go_ret;exact ⟨rfl, B⟩
theorem markClR_any {lo hi : Nat} (c : Int) (N M Sl : Hd) (xs : List Nod) (ms : List Mal) (es : List En) (k : Int) (w : World) (x : ClAt w true lo hi N M Sl xs ms es) (hz : ClSz N M Sl xs ms 1048576) (hk : 0 ≤ k) (hN : k + 6 * (nsum xs : Int) ≤ 12000000) :
  Calls Tryz.prog 13 #[.agg #[.int .i64 c, .slice N.1 N.2.1 N.2.2, .slice M.1 M.2.1 M.2.2, .slice Sl.1 Sl.2.1 Sl.2.2], .int .i64 k] w fun e w' => e = .returned (.int .i64 (c3Q N M Sl xs ms k)) ∧ MCl w' true lo hi N M Sl xs ms k ∧ KeptS (inCl N M Sl xs ms) w w' := by
 go_enter Tryz.func13, Tryz.ntmps13
 go_wp2_with (first | ((with_reducible refine box_newX 38 [.int .i64 c, .slice N.1 N.2.1 N.2.2, .slice M.1 M.2.1 M.2.2, .slice Sl.1 Sl.2.1 Sl.2.2] rfl ?_);intro b0 W0 N0;have ob0 := N0.ge;have B := N0.below;obtain ⟨X0, c0⟩ := N0.c;clear N0) | fail)
 have kk : KeptS (inCl N M Sl xs ms) w W0 := KeptS.below B
 refine (markCluster_any N M Sl xs ms es k _ (x.below B) hz hk hN).mono ?_;rintro e w1 ⟨rfl, MM, KS⟩;replace kk := kk.trans KS;clear KS X0 c0 B x;go_wp2;go_ret;exact ⟨rfl, MM, kk⟩
theorem heldClR_any {o : Bool} {lo hi : Nat} (c : Int) (N M Sl : Hd) (xs : List Nod) (ms : List Mal) (k : Int) (w : World) (m : MCl w o lo hi N M Sl xs ms k) (hz : ClSz N M Sl xs ms 1048576) (hl : ms.length = M.2.1) (hk : 0 ≤ k) (hN : k + 6 * (nsum xs : Int) ≤ 12000000) :
  Calls Tryz.prog 14 #[.agg #[.int .i64 c, .slice N.1 N.2.1 N.2.2, .slice M.1 M.2.1 M.2.2, .slice Sl.1 Sl.2.1 Sl.2.2], .int .i64 k] w fun e w' => e = .returned (.int .i64 (c3Q N M Sl xs ms k)) ∧ Below w.heap.size w w' := by
 have n3 : ¬ (c3Q N M Sl xs ms k) < 0 := by have := (cQ_in hk hN hz hl).2.2.1;omega
 go_enter Tryz.func14, Tryz.ntmps14
 go_wp2_with (first | ((with_reducible refine box_newX 38 [.int .i64 c, .slice N.1 N.2.1 N.2.2, .slice M.1 M.2.1 M.2.2, .slice Sl.1 Sl.2.1 Sl.2.2] rfl ?_);intro b0 W0 N0;have ob0 := N0.ge;have B := N0.below;obtain ⟨X0, c0⟩ := N0.c;clear N0) | fail)
 refine (heldCluster_any N M Sl xs ms k _ (m.below B) hz hl hk hN).mono ?_;rintro e w1 ⟨rfl, BB⟩;replace X0 := X0.below BB;replace c0 := X0.cell;replace B := below_next B BB;clear BB;go_wp2;go_ret;exact ⟨rfl, B⟩
theorem eqClR_yes {o1 o2 : Bool} {l1 u1 l2 u2 : Nat} (c : Int) (N M Sl N' M' Sl' : Hd) (xs ys : List Nod) (ms ns : List Mal) (es : List En) (w : World) (x : ClAt w o1 l1 u1 N M Sl xs ms es) (y : ClAt w o2 l2 u2 N' M' Sl' ys ns es) (hxy : ys.map (·.1) = xs.map (·.1)) (hmn : ns.map (·.1) = ms.map (·.1)) (hs : ClSz N M Sl xs ms 1048576) :
  Calls Tryz.prog 10 #[.agg #[.int .i64 c, .slice N.1 N.2.1 N.2.2, .slice M.1 M.2.1 M.2.2, .slice Sl.1 Sl.2.1 Sl.2.2], .agg #[.int .i64 c, .slice N'.1 N'.2.1 N'.2.2, .slice M'.1 M'.2.1 M'.2.2, .slice Sl'.1 Sl'.2.1 Sl'.2.2]] w fun e w' => e = .returned (.bool true) ∧ Below w.heap.size w w' := by
 have e0 : (c != c) = false := by simp
 go_enter Tryz.func10, Tryz.ntmps10
 go_wp2_with (first | ((have g := ob0);clear g;(with_reducible refine box_newX 38 [.int .i64 c, .slice N'.1 N'.2.1 N'.2.2, .slice M'.1 M'.2.1 M'.2.2, .slice Sl'.1 Sl'.2.1 Sl'.2.2] rfl ?_);intro b1 W1 N1;have ob1 := N1.o B;have o0_b1 := N1.u X0;replace X0 := N1.r X0;replace c0 := X0.cell;replace B := N1.n B;obtain ⟨X1, c1⟩ := N1.c;clear N1) | ((with_reducible refine box_newX 38 [.int .i64 c, .slice N.1 N.2.1 N.2.2, .slice M.1 M.2.1 M.2.2, .slice Sl.1 Sl.2.1 Sl.2.2] rfl ?_);intro b0 W0 N0;have ob0 := N0.ge;have B := N0.below;obtain ⟨X0, c0⟩ := N0.c;clear N0) | fail)
 refine (eqCluster_yes N M Sl N' M' Sl' xs ys ms ns es _ (x.below B) (y.below B) hxy hmn hs).mono ?_;rintro e w1 ⟨rfl, BB⟩;replace X0 := X0.below BB;replace c0 := X0.cell;replace X1 := X1.below BB;replace c1 := X1.cell;replace B := below_next B BB;clear BB;go_wp2;go_ret;exact ⟨rfl, B⟩
end Go.Proofs.YtclghfoinologaaGreat
namespace Go.Proofs.YtclghfoinologaaGreat
open Go.RowKit Go.ChangeShapes Go.WideShapes Go.Deep
section
variable {H : Type} {enc : TypeId × Value → H} {P : Program} {w : World}
def EnTy (P : Program) (e : TypeId) : Prop := ∃ f0 f1 f2 g0 g1 g2 g3 : Field, P.underlying e = some (.struct #[f0, f1, f2]) ∧ (f0.offset = 0 ∧ f1.offset = 1 ∧ f2.offset = 2) ∧ (P.cellsOf e = 6 ∧ P.cellsOf f0.type = 1 ∧ P.cellsOf f1.type = 1 ∧ P.cellsOf f2.type = 4) ∧
 (P.underlying f0.type = some (.int .i64) ∧ P.underlying f1.type = some (.int .i64) ∧ P.underlying f2.type = some (.struct #[g0, g1, g2, g3])) ∧ (g0.offset = 0 ∧ g1.offset = 1 ∧ g2.offset = 2 ∧ g3.offset = 3) ∧
 (P.cellsOf g0.type = 1 ∧ P.cellsOf g1.type = 1 ∧ P.cellsOf g2.type = 1 ∧ P.cellsOf g3.type = 1) ∧ (P.underlying g0.type = some (.int .i64) ∧ P.underlying g1.type = some (.int .i64) ∧ P.underlying g2.type = some (.int .i64) ∧ P.underlying g3.type = some (.int .i64))
theorem EnTy.cells {e : TypeId} (h : EnTy P e) : P.cellsOf e = 6 := by obtain ⟨_, _, _, _, _, _, _, _, _, h, _⟩ := h; exact h.1
theorem six_of {e : TypeId} (ht : EnTy P e) {fuel : Nat} {cs : List Value} {x : DataW H × List MemPlace} {base : Nat} {spare : Nat → Bool} {held : Bool} (hlen : cs.length = 6) (h : DataW.trod enc P w base spare held fuel e cs = some x) :
  ∃ q : En, cs = [.int .i64 q.1, .int .i64 q.2.1, .int .i64 q.2.2.1, .int .i64 q.2.2.2.1, .int .i64 q.2.2.2.2.1, .int .i64 q.2.2.2.2.2] := by
 obtain ⟨f0, f1, f2, k0, k1, k2, k3, he, ⟨o0, o1, o2⟩, ⟨_, c0, c1, c2⟩, ⟨i0, i1, hs⟩, ⟨p0, p1, p2, p3⟩, ⟨d0, d1, d2, d3⟩, ⟨j0, j1, j2, j3⟩⟩ := ht
 obtain ⟨ys, k, _, _, _, hyl, hf⟩ := DataW.trod_struct he h
 match ys, hyl, cs, hlen with
 | [y0, y1, y2], _, [v0, v1, v2, v3, v4, v5], _ =>
  have g0 := hf 0 f0 rfl;have g1 := hf 1 f1 rfl;have g2 := hf 2 f2 rfl
  simp [o0, o1, o2, c0, c1, c2] at g0 g1 g2
  obtain ⟨zs, m, _, _, _, hzl, hg⟩ := DataW.trod_struct hs g2
  match zs, hzl with
  | [z0, z1, z2, z3], _ =>
   have q0 := hg 0 k0 rfl;have q1 := hg 1 k1 rfl;have q2 := hg 2 k2 rfl;have q3 := hg 3 k3 rfl
   simp [p0, p1, p2, p3, d0, d1, d2, d3] at q0 q1 q2 q3
   obtain ⟨a0, e0, _, _⟩ := DataW.trod_int i0 g0
   obtain ⟨a1, e1, _, _⟩ := DataW.trod_int i1 g1
   obtain ⟨a2, e2, _, _⟩ := DataW.trod_int j0 q0
   obtain ⟨a3, e3, _, _⟩ := DataW.trod_int j1 q1
   obtain ⟨a4, e4, _, _⟩ := DataW.trod_int j2 q2
   obtain ⟨a5, e5, _, _⟩ := DataW.trod_int j3 q3
   simp only [List.cons.injEq, and_true] at e0 e1 e2 e3 e4 e5
   exact ⟨(a0, a1, a2, a3, a4, a5), by rw [e0, e1, e2, e3, e4, e5]⟩
theorem read_entries {t e : TypeId} {fuel : Nat} {v : Value} {x : DataW H × List MemPlace} (ht : P.underlying t = some (.slice e)) (he : EnTy P e) (h : DataW.trod enc P w 0 (fun _ => true) true fuel t [v] = some x) :
  ∃ ao n cap vs, v = .slice ao n cap ∧ n ≤ maxLen ∧ RowAt w false 0 w.heap.size 6 ao n cap (sixs vs) := by
 rcases open_slice ht h with ⟨hcs, _⟩ | ⟨a, len, cap, m, n, D, Pl, hcs, hb, hl, hm, hz, _, hx⟩
 ·simp only [List.cons.injEq, and_true] at hcs;exact ⟨none, 0, 0, [], hcs, Nat.zero_le _, RowAt.nil _ _ _ _ _⟩
 ·simp only [List.cons.injEq, and_true] at hcs;simp only [if_true] at hz;subst hz
  have each : ∀ i, i < m → ∃ q : En, ∀ j, j < 6 → w.cell? (a.add (i * 6 + j)) = some (.int .i64 (enF q j)) := fun i hi => by
   obtain ⟨cs, h1, h2⟩ := hx i hi
   rw [he.cells] at h1
   obtain ⟨_, hlen, hcell⟩ := World.cells?_some h1
   obtain ⟨q, hq⟩ := six_of he hlen h2
   refine ⟨q, fun j hj => ?_⟩
   have e0 := hcell j (by omega)
   rw [add_add, hq] at e0;rw [e0]
   match j, hj with
   | 0, _ => rfl
   | 1, _ => rfl
   | 2, _ => rfl
   | 3, _ => rfl
   | 4, _ => rfl
   | 5, _ => rfl
  obtain ⟨q, hq⟩ := choose_lt each
  have hlen : ((List.range len).map q).length = len := by simp
  have hget : ∀ i, i < len → ((List.range len).map q).getD i en0 = q i := fun i hi => by simp [List.getD, hi]
  refine ⟨some a, len, m, (List.range len).map q, hcs, Nat.le_trans hl hm, ?_, hl, fun hn => ?_⟩
  ·rw [sixs_len, hlen]
  ·have h0 := hq 0 (by omega) 0 (by omega)
   obtain ⟨b, off, spot⟩ := a
   have hspot : spot = none := by simpa [Addr.add] using World.cell?_spot h0
   subst hspot
   refine ⟨b, off, rfl, Nat.zero_le _, World.block_lt_of_cell? w _ h0, World.block_lt_of_cell? w _ h0, fun i hi => ?_, fun h => by cases h⟩
   have p0 := hq (i / 6) (by omega) (i % 6) (by omega)
   have t0 := sixs_get ((List.range len).map q) (i / 6) (i % 6) (by omega) (by omega)
   rw [show i / 6 * 6 + i % 6 = i by omega] at t0 p0
   rw [← addr_add, t0, p0, hget _ (by omega)]
end
theorem Tryz.enTy : EnTy Tryz.prog 30 := ⟨_, _, _, _, _, _, _, Tryz.underlying30, ⟨rfl, rfl, rfl⟩, ⟨by kernel_rfl, by kernel_rfl, by kernel_rfl, by kernel_rfl⟩, ⟨Tryz.underlying2, Tryz.underlying2, Tryz.underlying28⟩, ⟨rfl, rfl, rfl, rfl⟩, ⟨by kernel_rfl, by kernel_rfl, by kernel_rfl, by kernel_rfl⟩, ⟨Tryz.underlying2, Tryz.underlying2, Tryz.underlying2, Tryz.underlying2⟩⟩
end Go.Proofs.YtclghfoinologaaGreat
namespace Go.Proofs.YtclghfoinologaaGreat
open Go.RowKit Go.ChangeShapes Go.WideShapes Go.Deep
section
variable {H : Type} {enc : TypeId × Value → H} {P : Program} {w : World}
def DrTy (P : Program) (t : TypeId) : Prop := ∃ f0 f1 f2 f3 : Field, ∃ t2 : TypeId, P.underlying t = some (.struct #[f0, f1, f2, f3]) ∧ (f0.offset = 0 ∧ f1.offset = 1 ∧ f2.offset = 2 ∧ f3.offset = 3) ∧ (P.cellsOf f0.type = 1 ∧ P.cellsOf f1.type = 1 ∧ P.cellsOf f2.type = 1 ∧ P.cellsOf f3.type = 1) ∧ P.cellsOf t = 4 ∧ P.underlying f0.type = some .bool ∧ P.underlying f1.type = some (.int .i64) ∧ P.underlying f2.type = some (.slice t2) ∧ EnTy P t2 ∧ P.underlying f3.type = some (.int .i64)
def RepTy (P : Program) (t : TypeId) : Prop := ∃ f0 f1 f2 f3 f4 f5 f6 f7 f8 f9 : Field, ∃ t5 t7 t8 t9 : TypeId, P.underlying t = some (.struct #[f0, f1, f2, f3, f4, f5, f6, f7, f8, f9]) ∧ (f0.offset = 0 ∧ f1.offset = 1 ∧ f2.offset = 2 ∧ f3.offset = 3 ∧ f4.offset = 4 ∧ f5.offset = 5 ∧ f6.offset = 6 ∧ f7.offset = 7 ∧ f8.offset = 8 ∧ f9.offset = 9) ∧ (P.cellsOf f0.type = 1 ∧ P.cellsOf f1.type = 1 ∧ P.cellsOf f2.type = 1 ∧ P.cellsOf f3.type = 1 ∧ P.cellsOf f4.type = 1 ∧ P.cellsOf f5.type = 1 ∧ P.cellsOf f6.type = 1 ∧ P.cellsOf f7.type = 1 ∧ P.cellsOf f8.type = 1 ∧ P.cellsOf f9.type = 1) ∧ P.cellsOf t = 10 ∧ P.underlying f0.type = some (.int .i64) ∧ P.underlying f1.type = some (.int .i64) ∧ P.underlying f2.type = some (.int .i64) ∧ P.underlying f3.type = some .bool ∧ P.underlying f4.type = some (.int .i64) ∧ P.underlying f5.type = some (.slice t5) ∧ EnTy P t5 ∧ P.underlying f6.type = some (.int .i64) ∧ P.underlying f7.type = some (.slice t7) ∧ (P.underlying t7 = some (.int .i64) ∧ P.cellsOf t7 = 1) ∧ P.underlying f8.type = some (.slice t8) ∧ (P.underlying t8 = some .bool ∧ P.cellsOf t8 = 1) ∧ P.underlying f9.type = some (.slice t9) ∧ DrTy P t9
def MailTy (P : Program) (t : TypeId) : Prop := ∃ f0 f1 f2 f3 f4 f5 f6 f7 f8 f9 : Field, ∃ t8 : TypeId, P.underlying t = some (.struct #[f0, f1, f2, f3, f4, f5, f6, f7, f8, f9]) ∧ (f0.offset = 0 ∧ f1.offset = 1 ∧ f2.offset = 2 ∧ f3.offset = 3 ∧ f4.offset = 4 ∧ f5.offset = 5 ∧ f6.offset = 6 ∧ f7.offset = 12 ∧ f8.offset = 13 ∧ f9.offset = 14) ∧ (P.cellsOf f0.type = 1 ∧ P.cellsOf f1.type = 1 ∧ P.cellsOf f2.type = 1 ∧ P.cellsOf f3.type = 1 ∧ P.cellsOf f4.type = 1 ∧ P.cellsOf f5.type = 1 ∧ P.cellsOf f6.type = 6 ∧ P.cellsOf f7.type = 1 ∧ P.cellsOf f8.type = 1 ∧ P.cellsOf f9.type = 1) ∧ P.cellsOf t = 15 ∧ P.underlying f0.type = some (.int .i64) ∧ P.underlying f1.type = some (.int .i64) ∧ P.underlying f2.type = some (.int .i64) ∧ P.underlying f3.type = some (.int .i64) ∧ P.underlying f4.type = some (.int .i64) ∧ P.underlying f5.type = some .bool ∧ EnTy P f6.type ∧ P.underlying f7.type = some (.int .i64) ∧ P.underlying f8.type = some (.slice t8) ∧ EnTy P t8 ∧ P.underlying f9.type = some (.int .i64)
theorem read_doers {t e : TypeId} {fuel : Nat} {v : Value} {x : DataW H × List MemPlace} (ht : P.underlying t = some (.slice e)) (hty : DrTy P e) (h : DataW.trod enc P w 0 (fun _ => true) true fuel t [v] = some x) :
  ∃ ao n cap K ds, v = .slice ao n cap ∧ n ≤ maxLen ∧ (∀ i, i < n → (K i).2.1 ≤ maxLen) ∧ DoersAt w false 0 w.heap.size ao n cap K ds := by
 obtain ⟨f0, f1, f2, f3, t2, he, ⟨o0, o1, o2, o3⟩, ⟨c0, c1, c2, c3⟩, hC, u0, u1, u2, x2, u3⟩ := hty
 rcases open_slice ht h with ⟨hcs, _⟩ | ⟨a, len, cap, m, n, D, Pl, hcs, hb, hl, hm, hz, _, hx⟩
 ·simp only [List.cons.injEq, and_true] at hcs
  exact ⟨none, 0, 0, fun _ => (none, 0, 0), [], hcs, Nat.zero_le _, fun i hi => absurd hi (by omega), rfl, ElsAt.nil _ _ _ _ _ _ _ _ _ _⟩
 ·simp only [List.cons.injEq, and_true] at hcs;simp only [if_true] at hz;subst hz
  have each : ∀ i, i < m → ∃ q : Dr × Hd, (∀ j, j < 4 → w.cell? (a.add (i * 4 + j)) = some (drF (fun _ => q.2) [q.1] 0 j)) ∧ q.2.2.1 ≤ maxLen ∧ RowAt w false 0 w.heap.size 6 q.2.1 q.2.2.1 q.2.2.2 (sixs q.1.2.2.1) := fun i hi => by
   obtain ⟨cs, h1, h2⟩ := hx i hi
   rw [hC] at h1
   obtain ⟨_, hlen, hcell⟩ := World.cells?_some h1
   obtain ⟨ys, k, _, _, _, hyl, hf⟩ := DataW.trod_struct he h2
   match ys, hyl, cs, hlen with
   | [y0, y1, y2, y3], _, [v0, v1, v2, v3], _ =>
    have g0 := hf 0 f0 rfl;have g1 := hf 1 f1 rfl;have g2 := hf 2 f2 rfl;have g3 := hf 3 f3 rfl
    simp [o0, o1, o2, o3, c0, c1, c2, c3] at g0 g1 g2 g3
    obtain ⟨a0, d0, _⟩ := DataW.trod_bool u0 g0
    obtain ⟨a1, d1, _, _⟩ := DataW.trod_int u1 g1
    obtain ⟨k2, n2, m2, xs2, d2, hn2, hr2⟩ := read_entries u2 x2 g2
    obtain ⟨a3, d3, _, _⟩ := DataW.trod_int u3 g3
    simp only [List.cons.injEq, and_true] at d0 d1 d3
    refine ⟨((a0, a1, xs2, a3), (k2, n2, m2)), fun j hj => ?_, hn2, hr2⟩
    have e0 := hcell j (by omega)
    rw [add_add] at e0;rw [e0, d0, d1, d2, d3]
    match j, hj with
    | 0, _ => rfl
    | 1, _ => rfl
    | 2, _ => rfl
    | 3, _ => rfl
  obtain ⟨q, hq⟩ := choose_lt each
  have hlen : ((List.range len).map fun i => (q i).1).length = len := by simp
  have hget : ∀ i, i < len → ((List.range len).map fun i => (q i).1).getD i dr0 = (q i).1 := fun i hi => by simp [List.getD, hi]
  have hdr : ∀ i j, i < len → drF (fun i => (q i).2) ((List.range len).map fun i => (q i).1) i j = drF (fun _ => (q i).2) [(q i).1] 0 j := fun i j hi => by unfold drF;rw [hget i hi];rfl
  refine ⟨some a, len, m, fun i => (q i).2, (List.range len).map fun i => (q i).1, hcs, Nat.le_trans hl hm, fun i hi => (hq i (by omega)).2.1, hlen, ⟨by rw [flatF_len], hl, fun hn => ?_⟩, fun i hi => ?_, fun hx => by cases hx⟩
  ·have h0 := (hq 0 (by omega)).1 0 (by omega)
   obtain ⟨b, off, spot⟩ := a
   have hspot : spot = none := by simpa [Addr.add] using World.cell?_spot h0
   subst hspot
   refine ⟨b, off, rfl, Nat.zero_le _, World.block_lt_of_cell? w _ h0, World.block_lt_of_cell? w _ h0, fun i hi => ?_, fun h => by cases h⟩
   have p0 := (hq (i / 4) (by omega)).1 (i % 4) (by omega)
   have t0 := flatF_get (sz := 4) (n := len) (drF (fun i => (q i).2) ((List.range len).map fun i => (q i).1)) (i := i / 4) (j := i % 4) (by omega) (by omega)
   rw [show i / 4 * 4 + i % 4 = i by omega] at t0 p0
   rw [← addr_add, t0, p0, hdr _ _ (by omega)]
  ·unfold drL;rw [hget i hi];exact (hq i (by omega)).2.2
end
theorem Tryz.drTy : DrTy Tryz.prog 158 := ⟨_, _, _, _, _, Tryz.underlying158, ⟨rfl, rfl, rfl, rfl⟩, ⟨by kernel_rfl, by kernel_rfl, by kernel_rfl, by kernel_rfl⟩, by kernel_rfl, Tryz.underlying4, Tryz.underlying2, Tryz.underlying24, Tryz.enTy, Tryz.underlying2⟩
theorem Tryz.repTy : RepTy Tryz.prog 88 := ⟨_, _, _, _, _, _, _, _, _, _, _, _, _, _, Tryz.underlying88, ⟨rfl, rfl, rfl, rfl, rfl, rfl, rfl, rfl, rfl, rfl⟩, ⟨by kernel_rfl, by kernel_rfl, by kernel_rfl, by kernel_rfl, by kernel_rfl, by kernel_rfl, by kernel_rfl, by kernel_rfl, by kernel_rfl, by kernel_rfl⟩, by kernel_rfl, Tryz.underlying2, Tryz.underlying2, Tryz.underlying2, Tryz.underlying4, Tryz.underlying2, Tryz.underlying24, Tryz.enTy, Tryz.underlying2, Tryz.underlying59, ⟨Tryz.underlying2, Tryz.cellsInt⟩, Tryz.underlying60, ⟨Tryz.underlying4, Tryz.cellsBool⟩, Tryz.underlying86, Tryz.drTy⟩
theorem Tryz.mailTy : MailTy Tryz.prog 91 := ⟨_, _, _, _, _, _, _, _, _, _, _, Tryz.underlying91, ⟨rfl, rfl, rfl, rfl, rfl, rfl, rfl, rfl, rfl, rfl⟩, ⟨by kernel_rfl, by kernel_rfl, by kernel_rfl, by kernel_rfl, by kernel_rfl, by kernel_rfl, by kernel_rfl, by kernel_rfl, by kernel_rfl, by kernel_rfl⟩, by kernel_rfl, Tryz.underlying2, Tryz.underlying2, Tryz.underlying2, Tryz.underlying2, Tryz.underlying2, Tryz.underlying4, Tryz.enTy, Tryz.underlying2, Tryz.underlying24, Tryz.enTy, Tryz.underlying2⟩
end Go.Proofs.YtclghfoinologaaGreat
