/- Chapter 9: AskReplica of the program. -/
import Derived.Test.YtclghfoinologaaGreatWW
set_option maxRecDepth 20000
set_option maxHeartbeats 16000000
namespace Go.Proofs.YtclghfoinologaaGreat
open Go.RowKit
def askC (r : Rep) (en : En) : Int := if ledF r = 0 then (if enFault en = 0 then (if r.log.length = 40 then 2 else 0) else enFault en) else ledF r
def askQ (r : Rep) (en : En) : Rep := if askC r en = 0 then takeQ r en else rep0
def askM (r : Rep) (en : En) : List Ml := if askC r en = 0 then takeM r en else []
theorem takeM_len (r : Rep) (en : En) : (takeM r en).length ≤ r.size.toNat := by unfold takeM; rw [List.length_map]; exact othL_len _ _
theorem implAsk_is {own : Bool} {lo hi : Nat} (r : Rep) (h : RH) (en : En) (w : World) (x : RepAt w own lo hi h r) (hz : RSz h 1048576) (c : Int) (q : Rep) (ms : List Ml) (hc : askC r en = c) (hq : askQ r en = q) (hms : askM r en = ms) : Calls Tryz.prog 30 #[.agg #[.int .i64 r.id, .int .i64 r.size, .int .i64 r.view, .bool r.normal, .int .i64 r.last, .slice h.L.1 h.L.2.1 h.L.2.2, .int .i64 r.commit, .slice h.O.1 h.O.2.1 h.O.2.2, .slice h.A.1 h.A.2.1 h.A.2.2, .slice h.D.1 h.D.2.1 h.D.2.2], .agg #[.int .i64 en.1, .int .i64 en.2.1, .int .i64 en.2.2.1, .int .i64 en.2.2.2.1, .int .i64 en.2.2.2.2.1, .int .i64 en.2.2.2.2.2]] w fun e w' => NodeAns w w' e c q ms := by
 unfold askQ at hq;unfold askM at hms;rw [hc] at hq hms;unfold askC at hc;obtain ⟨cl, hcl⟩ : ∃ cl, ledF r = cl := ⟨_, rfl⟩;obtain ⟨ce, hce⟩ : ∃ ce, enFault en = ce := ⟨_, rfl⟩;rw [hcl, hce] at hc
 have HC : Hid _ := hcl
 have HE : Hid _ := hce
 have hll := x.log.nSixs;rw [hll] at hc;clear hcl hce
 go_enter Tryz.func30, Tryz.ntmps30
 go_wp2_with (first | ((have g := ob1);clear g;(with_reducible refine al 65 [.int .i64 0, .int .i64 0, .int .i64 0, .int .i64 0, .bool false, .int .i64 0, .slice none 0 0, .int .i64 0, .slice none 0 0, .slice none 0 0, .slice none 0 0, .slice none 0 0] ?_);intro b2 W2 N2;have ob2 := N2.o B;have o0_b2 := N2.u X0;have o1_b2 := N2.u X1;replace X0 := N2.r X0;replace c0 := X0.cell;replace X1 := N2.r X1;replace c1 := X1.cell;replace B := N2.n B;obtain ⟨X2, c2, f2⟩ := N2.a;clear N2) | ((have g := ob0);clear g;(with_reducible refine box_newX 43 [.int .i64 en.1, .int .i64 en.2.1, .int .i64 en.2.2.1, .int .i64 en.2.2.2.1, .int .i64 en.2.2.2.2.1, .int .i64 en.2.2.2.2.2] rfl ?_);intro b1 W1 N1;have ob1 := N1.o B;have o0_b1 := N1.u X0;replace X0 := N1.r X0;replace c0 := X0.cell;replace B := N1.n B;obtain ⟨X1, c1⟩ := N1.c;clear N1) | ((with_reducible refine box_newX 63 [.int .i64 r.id, .int .i64 r.size, .int .i64 r.view, .bool r.normal, .int .i64 r.last, .slice h.L.1 h.L.2.1 h.L.2.2, .int .i64 r.commit, .slice h.O.1 h.O.2.1 h.O.2.2, .slice h.A.1 h.A.2.1 h.A.2.2, .slice h.D.1 h.D.2.1 h.D.2.2] rfl ?_);intro b0 W0 N0;have ob0 := N0.ge;have B := N0.below;obtain ⟨X0, c0⟩ := N0.c;clear N0) | fail)
 refine (primaryFault_is r h _ (x.below B) (hz.mono (by omega)) cl HC.out).mono ?_
 rintro e w1 ⟨rfl, BB⟩;replace X0 := X0.below BB;replace c0 := X0.cell;replace X1 := X1.below BB;replace c1 := X1.cell;replace X2 := X2.below BB;replace c2 := X2.cell;replace f2 := X2.froz;replace B := below_next B BB;clear BB
 by_cases h0 : cl = 0
 rotate_left 1
 ·rw [if_neg h0] at hc;subst hc;rw [if_neg h0] at hq hms;subst hq;subst hms
  have h0' : (cl != 0) = true := by simp [h0]
  go_wp2_with (first | ((with_reducible refine sm 65 X2 0 [.int .i64 cl, .int .i64 0, .int .i64 0, .int .i64 0, .bool false, .int .i64 0, .slice none 0 0, .int .i64 0, .slice none 0 0, .slice none 0 0, .slice none 0 0, .slice none 0 0] ?_);intro V1 S;replace X0 := X0.kp S.kept;replace c0 := X0.cell;replace X1 := X1.kp S.kept;replace c1 := X1.cell;replace X2 : Bx V1 b2 [.int .i64 cl, .int .i64 0, .int .i64 0, .int .i64 0, .bool false, .int .i64 0, .slice none 0 0, .int .i64 0, .slice none 0 0, .slice none 0 0, .slice none 0 0, .slice none 0 0] := S.bx;replace c2 := X2.cell;replace f2 := X2.froz;replace B := bkp B S.kept;clear S))
  refine bodyPost_ret (v := .agg #[.int .i64 cl, .int .i64 0, .int .i64 0, .int .i64 0, .bool false, .int .i64 0, .slice none 0 0, .int .i64 0, .slice none 0 0, .slice none 0 0, .slice none 0 0, .slice none 0 0]) (by simp [results, Tryz.results30, go_sem, *]) rfl ⟨w.heap.size, _, ⟨(none, 0, 0), (none, 0, 0), (none, 0, 0), (none, 0, 0), fun _ => (none, 0, 0)⟩, (none, 0, 0), fun _ => (none, 0, 0), rfl, Nat.le_refl _, Nat.le_refl _, AnsAt.none _ _ _ _, ASz.none _, B⟩
 subst h0;rw [if_pos rfl] at hc
 obtain ⟨-, -, L⟩ := led_ok HC.out
 go_wp2_with fail;refine (implEF_is en.1 en.2.1 en.2.2.1 en.2.2.2.1 en.2.2.2.2.1 en.2.2.2.2.2 _ ce HE.out).mono ?_;rintro e w2 ⟨rfl, BB⟩;replace X0 := X0.below BB;replace c0 := X0.cell;replace X1 := X1.below BB;replace c1 := X1.cell;replace X2 := X2.below BB;replace c2 := X2.cell;replace f2 := X2.froz;replace B := below_next B BB;clear BB
 by_cases h1 : ce = 0
 rotate_left 1
 ·rw [if_neg h1] at hc;subst hc;rw [if_neg h1] at hq hms;subst hq;subst hms
  have h1' : (ce != 0) = true := by simp [h1]
  go_wp2_with (first | ((with_reducible refine sm 65 X2 0 [.int .i64 ce, .int .i64 0, .int .i64 0, .int .i64 0, .bool false, .int .i64 0, .slice none 0 0, .int .i64 0, .slice none 0 0, .slice none 0 0, .slice none 0 0, .slice none 0 0] ?_);intro V1 S;replace X0 := X0.kp S.kept;replace c0 := X0.cell;replace X1 := X1.kp S.kept;replace c1 := X1.cell;replace X2 : Bx V1 b2 [.int .i64 ce, .int .i64 0, .int .i64 0, .int .i64 0, .bool false, .int .i64 0, .slice none 0 0, .int .i64 0, .slice none 0 0, .slice none 0 0, .slice none 0 0, .slice none 0 0] := S.bx;replace c2 := X2.cell;replace f2 := X2.froz;replace B := bkp B S.kept;clear S))
  refine bodyPost_ret (v := .agg #[.int .i64 ce, .int .i64 0, .int .i64 0, .int .i64 0, .bool false, .int .i64 0, .slice none 0 0, .int .i64 0, .slice none 0 0, .slice none 0 0, .slice none 0 0, .slice none 0 0]) (by simp [results, Tryz.results30, go_sem, *]) rfl ⟨w.heap.size, _, ⟨(none, 0, 0), (none, 0, 0), (none, 0, 0), (none, 0, 0), fun _ => (none, 0, 0)⟩, (none, 0, 0), fun _ => (none, 0, 0), rfl, Nat.le_refl _, Nat.le_refl _, AnsAt.none _ _ _ _, ASz.none _, B⟩
 subst h1;rw [if_pos rfl] at hc
 by_cases h2 : h.L.2.1 = 40
 ·rw [if_pos h2] at hc;subst hc
  rw [if_neg (by decide)] at hq hms
  subst hq;subst hms
  have h2' : ((h.L.2.1 : Int) == 40) = true := by simp;omega
  clear h2
  go_wp2_with (first | ((with_reducible refine sm 65 X2 0 [.int .i64 2, .int .i64 0, .int .i64 0, .int .i64 0, .bool false, .int .i64 0, .slice none 0 0, .int .i64 0, .slice none 0 0, .slice none 0 0, .slice none 0 0, .slice none 0 0] ?_);intro V1 S;replace X0 := X0.kp S.kept;replace c0 := X0.cell;replace X1 := X1.kp S.kept;replace c1 := X1.cell;replace X2 : Bx V1 b2 [.int .i64 2, .int .i64 0, .int .i64 0, .int .i64 0, .bool false, .int .i64 0, .slice none 0 0, .int .i64 0, .slice none 0 0, .slice none 0 0, .slice none 0 0, .slice none 0 0] := S.bx;replace c2 := X2.cell;replace f2 := X2.froz;replace B := bkp B S.kept;clear S))
  refine bodyPost_ret (v := .agg #[.int .i64 2, .int .i64 0, .int .i64 0, .int .i64 0, .bool false, .int .i64 0, .slice none 0 0, .int .i64 0, .slice none 0 0, .slice none 0 0, .slice none 0 0, .slice none 0 0]) (by simp [results, Tryz.results30, go_sem, *]) rfl ⟨w.heap.size, _, ⟨(none, 0, 0), (none, 0, 0), (none, 0, 0), (none, 0, 0), fun _ => (none, 0, 0)⟩, (none, 0, 0), fun _ => (none, 0, 0), rfl, Nat.le_refl _, Nat.le_refl _, AnsAt.none _ _ _ _, ASz.none _, B⟩
 rw [if_neg h2] at hc;subst hc;rw [if_pos rfl] at hq hms;subst hq;subst hms
 have h2' : ((h.L.2.1 : Int) == 40) = false := by simp;omega
 have hl39 : r.log.length ≤ 39 := by have := L.log;omega
 clear h2 hll;go_wp2_with fail;have lb := X2.lt;have B9 := B.size;refine (primaryFor_o r h _ (x.below B) hz).mono ?_;rintro e w3 ⟨bq, z, ue, zl, ul, h', rfl, Gz, uq, Gq, XQ, R, HZ, OL, zzl, ulu, SPL, BB⟩;have R1 := R.widen Gz (Nat.le_refl ue)
 have OL1 : OwnE w3 w2.heap.size ul (.slice h'.L.1 h'.L.2.1 h'.L.2.2) h'.L.2.1 r.log := ⟨owns_down OL.own (Nat.le_trans Gz zzl), OL.lt⟩
 obtain ⟨z0, hz0⟩ : ∃ z0, z0 = w2.heap.size := ⟨_, rfl⟩;rw [← hz0] at R1 OL1 Gq lb B9
 have gw : z0 ≤ w3.heap.size := by rw [hz0];exact BB.size
 clear hz0 R OL Gz zzl;have R := R1;have OL := OL1;clear R1 OL1;replace X0 := X0.below BB;replace c0 := X0.cell;replace X1 := X1.below BB;replace c1 := X1.cell;replace X2 := X2.below BB;replace c2 := X2.cell;replace f2 := X2.froz;replace B := below_next B BB;clear BB
 go_wp2_with (first | ((with_reducible refine sm 112 X3 0 [.pointer (some ⟨bq, 0, none⟩)] ?_);intro V1 S;replace X0 := X0.kp S.kept;replace c0 := X0.cell;replace X1 := X1.kp S.kept;replace c1 := X1.cell;replace X2 := X2.kp S.kept;replace c2 := X2.cell;replace f2 := X2.froz;replace X3 : Bx V1 b3 [.pointer (some ⟨bq, 0, none⟩)] := S.bx;replace c3 := X3.cell;replace f3 := X3.froz;replace B := bkp B S.kept;replace XQ := XQ.kept S.kept (by omega);replace R := R.kept S.kept (by omega);replace OL := OL.kept S.kept (by omega);clear S) | ((have g := ob2);clear g;(with_reducible refine al 112 [.pointer none] ?_);intro b3 W3 N3;have ob3 := N3.o B;have o0_b3 := N3.u X0;have o1_b3 := N3.u X1;have o2_b3 := N3.u X2;replace X0 := N3.r X0;replace c0 := X0.cell;replace X1 := N3.r X1;replace c1 := X1.cell;replace X2 := N3.r X2;replace c2 := X2.cell;replace f2 := X2.froz;replace B := N3.n B;obtain ⟨X3, c3, f3⟩ := N3.a;have o3q := N3.u XQ;replace XQ := XQ.below N3.below;replace R := R.below N3.below;replace OL := OL.below N3.below;clear N3) | fail)
 have HOL : Hid (∀ k, (Value.slice h'.L.1 h'.L.2.1 h'.L.2.2).ownBlock = some k → z0 ≤ k ∧ k < bq) := fun k hk => ⟨(OL.own.lt k hk).1, Nat.lt_of_lt_of_le (OL.lt k hk) (Nat.le_trans ulu uq)⟩
 refine (take_is r h' en bq _ XQ R HZ OL SPL (Nat.le_refl _) ulu uq Gq (Nat.le_trans Gq (Nat.le_of_lt XQ.lt)) L.size L.id hl39 L.oks L.okb).mono ?_;rintro e w4 ⟨h2, s, Km, mid, base, rfl, XQ, R1, HZ2, G, hsn, NK, hmb, hlm, hmw, KS⟩;have hw4 := KS.size
 replace X0 := X0.keptS KS (fun z => z.elim (fun q => by omega) (fun q => by have := HOL.out _ q;omega))
 replace c0 := X0.cell
 replace X1 := X1.keptS KS (fun z => z.elim (fun q => by omega) (fun q => by have := HOL.out _ q;omega))
 replace c1 := X1.cell
 replace X2 := X2.keptS KS (fun z => z.elim (fun q => by omega) (fun q => by have := HOL.out _ q;omega))
 replace c2 := X2.cell;replace f2 := X2.froz
 replace X3 := X3.keptS KS (fun z => z.elim (fun q => by omega) (fun q => by have := HOL.out _ q;omega))
 replace c3 := X3.cell
 replace B := B.trans (KS.low _ (fun k hk => hk.elim (fun q => by omega) (fun q => by have := HOL.out _ q;omega)) B.size)
 skip
 have AN : AnsAt w4 true z0 w4.heap.size h2 s Km (takeQ r en) (takeM r en) := ans_of R1 G hmb hmw hlm rfl
 have hAN : w4.heap.size ≤ w4.heap.size := Nat.le_refl _
 have htl := takeM_len r en
 have AZ : ASz h2 s Km 1048576 := ⟨HZ2, by have := L.size;omega, fun j hj => by rw [NK j hj];exact Nat.zero_le _⟩
 clear R1 G NK hsn htl KS HOL OL SPL R HZ;go_wp2_with fail;refine (answer_is (takeQ r en).id (takeQ r en).size (takeQ r en).view (takeQ r en).normal (takeQ r en).last h2.L (takeQ r en).commit h2.O h2.A h2.D s bq _ XQ).mono ?_;rintro e w5 ⟨rfl, BB⟩;replace X0 := X0.below BB;replace c0 := X0.cell;replace X1 := X1.below BB;replace c1 := X1.cell;replace X2 := X2.below BB;replace c2 := X2.cell;replace f2 := X2.froz;replace X3 := X3.below BB;replace c3 := X3.cell;replace f3 := X3.froz;replace AN := AN.below BB;replace hAN := Nat.le_trans hAN BB.size;replace B := below_next B BB;clear BB
 go_wp2_with (first | ((with_reducible refine sm 65 X2 0 [.int .i64 0, .int .i64 (takeQ r en).id, .int .i64 (takeQ r en).size, .int .i64 (takeQ r en).view, .bool (takeQ r en).normal, .int .i64 (takeQ r en).last, .slice h2.L.1 h2.L.2.1 h2.L.2.2, .int .i64 (takeQ r en).commit, .slice h2.O.1 h2.O.2.1 h2.O.2.2, .slice h2.A.1 h2.A.2.1 h2.A.2.2, .slice h2.D.1 h2.D.2.1 h2.D.2.2, .slice s.1 s.2.1 s.2.2] ?_);intro V2 S;replace X0 := X0.kp S.kept;replace c0 := X0.cell;replace X1 := X1.kp S.kept;replace c1 := X1.cell;replace X2 : Bx V2 b2 [.int .i64 0, .int .i64 (takeQ r en).id, .int .i64 (takeQ r en).size, .int .i64 (takeQ r en).view, .bool (takeQ r en).normal, .int .i64 (takeQ r en).last, .slice h2.L.1 h2.L.2.1 h2.L.2.2, .int .i64 (takeQ r en).commit, .slice h2.O.1 h2.O.2.1 h2.O.2.2, .slice h2.A.1 h2.A.2.1 h2.A.2.2, .slice h2.D.1 h2.D.2.1 h2.D.2.2, .slice s.1 s.2.1 s.2.2] := S.bx;replace c2 := X2.cell;replace f2 := X2.froz;replace X3 := X3.kp S.kept;replace c3 := X3.cell;replace f3 := X3.froz;replace AN := AN.kept S.kept (by omega);replace hAN := Nat.le_trans hAN S.kept.size;replace B := bkp B S.kept;clear S))
 exact bodyPost_ret (v := .agg #[.int .i64 0, .int .i64 (takeQ r en).id, .int .i64 (takeQ r en).size, .int .i64 (takeQ r en).view, .bool (takeQ r en).normal, .int .i64 (takeQ r en).last, .slice h2.L.1 h2.L.2.1 h2.L.2.2, .int .i64 (takeQ r en).commit, .slice h2.O.1 h2.O.2.1 h2.O.2.2, .slice h2.A.1 h2.A.2.1 h2.A.2.2, .slice h2.D.1 h2.D.2.1 h2.D.2.2, .slice s.1 s.2.1 s.2.2]) (by simp [results, Tryz.results30, go_sem, *]) rfl ⟨_, _, h2, s, Km, rfl, B9, hAN, AN, AZ, B⟩
theorem l1Max9_is (x y : Int) (w : World) : Calls Tryz.prog 55 #[.int .i64 x, .int .i64 y] w fun e w' => e = .returned (.int .i64 (max x y)) ∧ w' = w := by
 by_cases h : y < x
 ·have h' : max x y = x := by omega
  rw [h']
  go_enter Tryz.func55, Tryz.ntmps55
  go_wp2;go_ret;exact ⟨rfl, rfl⟩
 ·have h' : max x y = y := by omega
  rw [h']
  go_enter Tryz.func55, Tryz.ntmps55
  go_wp2;go_ret;exact ⟨rfl, rfl⟩
theorem l8Copy_o {o : Bool} {l u : Nat} (ab : Option Addr) (nb cb : Nat) (xs : List En) (w : World) (h : RowAt w o l u 6 ab nb cb (sixs xs)) (hn : nb ≤ 1048576) :
  Calls Tryz.prog 50 #[.slice ab nb cb] w fun e w' => ∃ ra rc z ue, e = .returned (.slice ra nb rc) ∧ w.heap.size ≤ z ∧ ue ≤ w'.heap.size ∧ OwnE w' z ue (.slice ra nb rc) nb xs ∧ Below w.heap.size w w' := by
 obtain ⟨j0, hj0, hy0, hy1, hy2⟩ := info_parts Tryz.infoEntry
 have B3 : Below w.heap.size w (w.alloc (.cells #[] 43)) := (Below.refl _ _).alloc (Nat.le_refl _) _
 have O3 : (w.alloc (.cells #[] 43)).ownsRow w.heap.size 43 6 (.slice (some ⟨w.heap.size, 0, none⟩) 0 0) 0 [] := World.ownsRow_made w #[] 0 (Nat.le_refl _) (Nat.zero_le _) rfl
 have HQ : ∃ ra rc w4, (Builtin.append_ #[34, 34] 34 #[.slice (some ⟨w.heap.size, 0, none⟩) 0 0, .slice ab nb cb]).run Tryz.prog (w.alloc (.cells #[] 43)) = .ok (.slice ra nb rc) w4 ∧ OwnE w4 w.heap.size w4.heap.size (.slice ra nb rc) nb xs ∧ Below w.heap.size w w4 := by
  by_cases hm : nb = 0
  ·subst hm
   have hxs : sixs xs = [] := List.eq_nil_of_length_eq_zero (by have := h.len;omega)
   have hs := row_src (P := Tryz.prog) Tryz.underlying34 (h.below B3) (sixs_oneX xs);rw [hxs, ← hy1] at hs
   have := run_append_room_src (P := Tryz.prog) (w.alloc (.cells #[] 43)) 34 34 34 43 j0 Tryz.underlying34 hj0 w.heap.size 0 0 0 (.slice ab 0 cb) 0 [] hs (by omega) (fun j hj => by simp at hj) (fun j hj => by simp at hj)
   refine ⟨some ⟨w.heap.size, 0, none⟩, 0, w.alloc (.cells #[] 43), by simpa [World.setCells] using this, ⟨by rw [hxs];exact O3, fun g hg => (O3.lt g hg).2⟩, B3⟩
  ·obtain ⟨ad', cp, w4, hr4, R4, B4, F4⟩ := run_append_fresh (P := Tryz.prog) (w.alloc (.cells #[] 43)) 34 34 43 j0 (.agg #[.int .i64 0, .int .i64 0, .int .i64 0, .int .i64 0, .int .i64 0, .int .i64 0]) 6 48 Tryz.underlying34 hj0 hy0 hy1 hy2 (by rw [hy1];rfl) w.heap.size ab nb cb (sixs xs) (h.below B3) (sixs_oneX xs) hn (by omega)
   rcases F4 with ⟨q, _⟩ | ⟨q, q2⟩
   ·exact absurd q hm
   ·exact ⟨some ad', cp, w4, hr4, ⟨owns_down q (by simp), q2⟩, below_next B3 B4⟩
 obtain ⟨ra, rc, w4, hr4, O4, B5⟩ := HQ
 have HO : Hid _ := O4
 clear O3 O4
 go_enter Tryz.func50, Tryz.ntmps50
 go_wp2_with (at_builtin;refine Lib.wpList_append_run _ rfl _ _ _ _ rfl _ _ rfl rfl _ _ hr4 ?_)
 clear hr4 B3;go_wp2;go_ret;exact ⟨ra, rc, _, _, rfl, Nat.le_refl _, Nat.le_refl _, HO.out, B5⟩
theorem l9Copy_o {own : Bool} {lo hi : Nat} (r : Rep) (h : RH) (w : World) (x : RepAt w own lo hi h r) (hs : RSz h 1048576) (hn9 : h.D.2.1 ≤ 1000) :
  Calls Tryz.prog 54 #[.agg #[.int .i64 r.id, .int .i64 r.size, .int .i64 r.view, .bool r.normal, .int .i64 r.last, .slice h.L.1 h.L.2.1 h.L.2.2, .int .i64 r.commit, .slice h.O.1 h.O.2.1 h.O.2.2, .slice h.A.1 h.A.2.1 h.A.2.2, .slice h.D.1 h.D.2.1 h.D.2.2]] w fun e w' => ∃ (z u zl ul : Nat) (h' : RH), e = .returned (.agg #[.int .i64 r.id, .int .i64 r.size, .int .i64 r.view, .bool r.normal, .int .i64 r.last, .slice h'.L.1 h'.L.2.1 h'.L.2.2, .int .i64 r.commit, .slice h'.O.1 h'.O.2.1 h'.O.2.2, .slice h'.A.1 h'.A.2.1 h'.A.2.2, .slice h'.D.1 h'.D.2.1 h'.D.2.2]) ∧ w.heap.size ≤ z ∧ u ≤ w'.heap.size ∧ RepAt w' true z u h' r ∧ RSz h' 1048576 ∧ OwnE w' zl ul (.slice h'.L.1 h'.L.2.1 h'.L.2.2) h'.L.2.1 r.log ∧ z ≤ zl ∧ ul ≤ u ∧ (∀ k, hR h'.O k ∨ hR h'.A k ∨ inE h'.D.1 h'.D.2.1 h'.K k → ul ≤ k) ∧ Below w.heap.size w w' := by
 obtain ⟨i2, hi2, ha2, hb2, hc2⟩ := info_parts Tryz.info2'
 obtain ⟨i4, hi4, ha4, hb4, hc4⟩ := info_parts Tryz.info4'
 obtain ⟨i9, hi9, ha9, hb9, hc9⟩ := info_parts Tryz.infoDoer
 have HS : Hid (∀ i, i < h.D.2.1 → (h.K i).2.1 ≤ 1048576) := hs.K
 have hdl := x.doers.len
 go_enter Tryz.func54, Tryz.ntmps54
 go_wp2_with (first | ((have g := ob0);clear g;(with_reducible refine al 63 [.int .i64 0, .int .i64 0, .int .i64 0, .bool false, .int .i64 0, .slice none 0 0, .int .i64 0, .slice none 0 0, .slice none 0 0, .slice none 0 0] ?_);intro b1 W1 N1;have ob1 := N1.o B;have o0_b1 := N1.u X0;replace X0 := N1.r X0;replace c0 := X0.cell;replace f0 := X0.froz;replace B := N1.n B;obtain ⟨X1, c1, f1⟩ := N1.a;clear N1) | ((with_reducible refine box_newX 63 [.int .i64 r.id, .int .i64 r.size, .int .i64 r.view, .bool r.normal, .int .i64 r.last, .slice h.L.1 h.L.2.1 h.L.2.2, .int .i64 r.commit, .slice h.O.1 h.O.2.1 h.O.2.2, .slice h.A.1 h.A.2.1 h.A.2.2, .slice h.D.1 h.D.2.1 h.D.2.2] rfl ?_);intro b0 W0 N0;have ob0 := N0.ge;have B := N0.below;obtain ⟨X0, c0, f0⟩ := N0.a;clear N0) | fail)
 refine (l8Copy_o _ _ _ r.log _ (by exact x.log.below B) hs.L).mono ?_
 rintro e w5 ⟨ra5, rc5, z5, ue5, rfl, Gz5, hR5, R5, BB⟩;have oz5 := Nat.le_trans B.size Gz5;have o0_z5 := ltl X0.lt Gz5;have o1_z5 := ltl X1.lt Gz5;clear Gz5;replace X0 := X0.below BB;replace c0 := X0.cell;replace f0 := X0.froz;replace X1 := X1.below BB;replace c1 := X1.cell;replace f1 := X1.froz;replace B := below_next B BB;clear BB
 go_upto_region 2 with (first | ((with_reducible refine so 34 X0 5 (.slice ra5 h.L.2.1 rc5) ?_);intro V1 S;replace X0 : Bx V1 b0 [.int .i64 r.id, .int .i64 r.size, .int .i64 r.view, .bool r.normal, .int .i64 r.last, .slice ra5 h.L.2.1 rc5, .int .i64 r.commit, .slice h.O.1 h.O.2.1 h.O.2.2, .slice h.A.1 h.A.2.1 h.A.2.2, .slice h.D.1 h.D.2.1 h.D.2.2] := S.bx;replace c0 := X0.cell;replace f0 := X0.froz;replace X1 := X1.kp S.kept;replace c1 := X1.cell;replace f1 := X1.froz;replace R5 := R5.kept S.kept (by omega);replace hR5 := Nat.le_trans hR5 S.kept.size;replace B := bkp B S.kept;clear S))
 skip
 go_upto_region 3 with (first | ((with_reducible refine so 59 X0 7 (.slice (some ad7) h.O.2.1 rc7) ?_);intro V2 S;replace X0 : Bx V2 b0 [.int .i64 r.id, .int .i64 r.size, .int .i64 r.view, .bool r.normal, .int .i64 r.last, .slice ra5 h.L.2.1 rc5, .int .i64 r.commit, .slice (some ad7) h.O.2.1 rc7, .slice h.A.1 h.A.2.1 h.A.2.2, .slice h.D.1 h.D.2.1 h.D.2.2] := S.bx;replace c0 := X0.cell;replace f0 := X0.froz;replace X1 := X1.kp S.kept;replace c1 := X1.cell;replace f1 := X1.froz;replace X2 := X2.kp S.kept;replace c2 := X2.cell;replace R5 := R5.kept S.kept (by omega);replace hR5 := Nat.le_trans hR5 S.kept.size;replace R7 := R7.kept S.kept (by omega);replace hR7 := Nat.le_trans hR7 S.kept.size;replace B := bkp B S.kept;clear S) | (at_builtin;refine Lib.wpList_append_run _ rfl _ _ _ _ rfl _ _ rfl rfl _ _ hr7 ?_;have oz7 := Nat.le_trans B.size Gz7;have o0_z7 := ltl X0.lt Gz7;have o1_z7 := ltl X1.lt Gz7;have o2_z7 := ltl X2.lt Gz7;have oR5_z7 := Nat.le_trans hR5 Gz7;replace X0 := X0.below BB;replace c0 := X0.cell;replace f0 := X0.froz;replace X1 := X1.below BB;replace c1 := X1.cell;replace f1 := X1.froz;replace X2 := X2.below BB;replace c2 := X2.cell;replace R5 := R5.below BB;replace hR5 := Nat.le_trans hR5 BB.size;replace B := below_next B BB;clear BB) | ((have g := ob1);clear g;(with_reducible refine lit_newX 59 0 #[] [] 2 (fun _ => by kernel_rfl)  ?_);intro b2 W2 N2;have ob2 := N2.o B;have o0_b2 := N2.u X0;have o1_b2 := N2.u X1;have oR5_b2 := Nat.le_trans hR5 N2.ge;replace X0 := N2.r X0;replace c0 := X0.cell;replace f0 := X0.froz;replace X1 := N2.r X1;replace c1 := X1.cell;replace f1 := X1.froz;replace R5 := R5.below N2.below;replace hR5 := Nat.le_trans hR5 N2.below.size;replace B := N2.n B;obtain ⟨X2, c2⟩ := N2.c;clear N2;obtain ⟨ad7, rc7, v7, hr7, Q7, BB, -⟩ := run_append_fresh (P := Tryz.prog) W2 59 59 2 i2 (.int .i64 0) 1 8 Tryz.underlying59 hi2 ha2 hb2 hc2 (by rw [hb2];rfl) b2 h.O.1 h.O.2.1 h.O.2.2 (ints r.oks) (x.oks.below B) (ints_oneX r.oks) hs.O (by omega);obtain ⟨z7, ue7, Gz7, hR7, R7⟩ : ∃ z u, W2.heap.size ≤ z ∧ u ≤ v7.heap.size ∧ RowAt v7 true z u 1 (some ad7) h.O.2.1 rc7 (ints r.oks) := ⟨_, _, Nat.le_refl _, Nat.le_refl _, Q7⟩;clear Q7) | fail)
 go_upto_region 4 with (first | ((with_reducible refine so 60 X0 8 (.slice (some ad8) h.A.2.1 rc8) ?_);intro V3 S;replace X0 : Bx V3 b0 [.int .i64 r.id, .int .i64 r.size, .int .i64 r.view, .bool r.normal, .int .i64 r.last, .slice ra5 h.L.2.1 rc5, .int .i64 r.commit, .slice (some ad7) h.O.2.1 rc7, .slice (some ad8) h.A.2.1 rc8, .slice h.D.1 h.D.2.1 h.D.2.2] := S.bx;replace c0 := X0.cell;replace f0 := X0.froz;replace X1 := X1.kp S.kept;replace c1 := X1.cell;replace f1 := X1.froz;replace X2 := X2.kp S.kept;replace c2 := X2.cell;replace X3 := X3.kp S.kept;replace c3 := X3.cell;replace R5 := R5.kept S.kept (by omega);replace hR5 := Nat.le_trans hR5 S.kept.size;replace R7 := R7.kept S.kept (by omega);replace hR7 := Nat.le_trans hR7 S.kept.size;replace R8 := R8.kept S.kept (by omega);replace hR8 := Nat.le_trans hR8 S.kept.size;replace B := bkp B S.kept;clear S) | (at_builtin;refine Lib.wpList_append_run _ rfl _ _ _ _ rfl _ _ rfl rfl _ _ hr8 ?_;have oz8 := Nat.le_trans B.size Gz8;have o0_z8 := ltl X0.lt Gz8;have o1_z8 := ltl X1.lt Gz8;have o2_z8 := ltl X2.lt Gz8;have o3_z8 := ltl X3.lt Gz8;have oR5_z8 := Nat.le_trans hR5 Gz8;have oR7_z8 := Nat.le_trans hR7 Gz8;replace X0 := X0.below BB;replace c0 := X0.cell;replace f0 := X0.froz;replace X1 := X1.below BB;replace c1 := X1.cell;replace f1 := X1.froz;replace X2 := X2.below BB;replace c2 := X2.cell;replace X3 := X3.below BB;replace c3 := X3.cell;replace R5 := R5.below BB;replace hR5 := Nat.le_trans hR5 BB.size;replace R7 := R7.below BB;replace hR7 := Nat.le_trans hR7 BB.size;replace B := below_next B BB;clear BB) | ((have g := ob2);clear g;(with_reducible refine lit_newX 60 0 #[] [] 4 (fun _ => by kernel_rfl)  ?_);intro b3 W3 N3;have ob3 := N3.o B;have o0_b3 := N3.u X0;have o1_b3 := N3.u X1;have o2_b3 := N3.u X2;have oR5_b3 := Nat.le_trans hR5 N3.ge;have oR7_b3 := Nat.le_trans hR7 N3.ge;replace X0 := N3.r X0;replace c0 := X0.cell;replace f0 := X0.froz;replace X1 := N3.r X1;replace c1 := X1.cell;replace f1 := X1.froz;replace X2 := N3.r X2;replace c2 := X2.cell;replace R5 := R5.below N3.below;replace hR5 := Nat.le_trans hR5 N3.below.size;replace R7 := R7.below N3.below;replace hR7 := Nat.le_trans hR7 N3.below.size;replace B := N3.n B;obtain ⟨X3, c3⟩ := N3.c;clear N3;obtain ⟨ad8, rc8, v8, hr8, Q8, BB, -⟩ := run_append_fresh (P := Tryz.prog) W3 60 60 4 i4 (.bool false) 1 1 Tryz.underlying60 hi4 ha4 hb4 hc4 (by rw [hb4];rfl) b3 h.A.1 h.A.2.1 h.A.2.2 (bls r.asks) (x.asks.below B) (bls_one r.asks) hs.A (by omega);obtain ⟨z8, ue8, Gz8, hR8, R8⟩ : ∃ z u, W3.heap.size ≤ z ∧ u ≤ v8.heap.size ∧ RowAt v8 true z u 1 (some ad8) h.A.2.1 rc8 (bls r.asks) := ⟨_, _, Nat.le_refl _, Nat.le_refl _, Q8⟩;clear Q8) | fail)
 obtain ⟨zz, hzz⟩ : ∃ zz, zz = V3.heap.size := ⟨_, rfl⟩
 have lt0 : b0 < zz := by rw [hzz];exact X0.lt
 have lt1 : b1 < zz := by rw [hzz];exact X1.lt
 have l5 : ue5 ≤ zz := by rw [hzz];exact hR5
 have l7 : ue7 ≤ zz := by rw [hzz];exact hR7
 have l8 : ue8 ≤ zz := by rw [hzz];exact hR8
 have lw : w.heap.size ≤ zz := by rw [hzz];exact B.size
 have HZZ : Hid _ := hzz
 clear hzz;clear X2 c2 X3 c3
 go_wp2_with (first | ((with_reducible refine lit_newO 61 0 #[] [] 136 (fun _ => by kernel_rfl) ?_);intro b4 W9 N4 HH;replace X0 := N4.r X0;replace c0 := X0.cell;replace f0 := X0.froz;replace X1 := N4.r X1;replace c1 := X1.cell;replace f1 := X1.froz;replace R5 := R5.below N4.below;replace hR5 := Nat.le_trans hR5 N4.below.size;replace R7 := R7.below N4.below;replace hR7 := Nat.le_trans hR7 N4.below.size;replace R8 := R8.below N4.below;replace hR8 := Nat.le_trans hR8 N4.below.size;replace B := N4.n B;have GG : zz ≤ b4 := (by rw [HZZ.out];exact N4.ge);have LZ : zz ≤ W9.heap.size := (by rw [HZZ.out];exact N4.below.size);clear N4) | fail)
 have O0 : W9.ownsRow zz 136 4 (.slice (some ⟨b4, 0, none⟩) 0 0) 0 (flatF 4 0 (drF kd0 r.doers)) := by rw [flatF_zero];exact owns_litO GG HH
 have G0 : GrowAt 4 W9 zz 136 (.slice (some ⟨b4, 0, none⟩) 0 0) 0 (drF kd0 r.doers) kd0 (drL r.doers) := ⟨O0, fun i hi => absurd hi (Nat.not_lt_zero _), fun i hi => absurd hi (Nat.not_lt_zero _)⟩
 clear O0 HH HZZ GG
 have HX0 : Hid _ := X0
 have HX1 : Hid _ := X1
 have HR5 : Hid _ := R5
 have HR7 : Hid _ := R7
 have HR8 : Hid _ := R8
 have HB : Hid _ := B
 clear X0 X1 R5 R7 R8 B c1 f1 f0
 go_loopw [3, 4, 5] (fun v iv _ wr => ∃ (k : Nat) (K' : Nat → Hd), k ≤ h.D.2.1 ∧ iv = .int .i64 k ∧ GrowAt 4 wr zz 136 v k (drF K' r.doers) K' (drL r.doers) ∧ (∀ i, i < k → (K' i).2.1 = (h.K i).2.1) ∧ zz ≤ wr.heap.size ∧ Below zz W9 wr) (fun _ iv _ _ => h.D.2.1 - (intOf iv).toNat)
 case atStart => exact ⟨0, kd0, Nat.zero_le _, rfl, G0, fun i hi => absurd hi (Nat.not_lt_zero _), LZ, Below.refl _ _⟩
 case round =>
  rename_i v _
  obtain ⟨k, K', hk, rfl, G, HE, LZ2, BL⟩ := hrel
  clear c0 G0 LZ;have X0 := HX0.out.low BL lt0;have c0 := X0.cell
  have hbw : Below w.heap.size w wr := HB.out.trans (BL.mono lw)
  by_cases hlt : k < h.D.2.1
  ·have hlk : (k : Int) < (h.D.2.1 : Int) := by omega
   obtain ⟨b, off, ed, _, _, hbs, e0, e1, e2, e3, _⟩ := (x.doers.below hbw).doer hlt
   have RR := (x.doers.els.logs k hlt).below hbw;have hmk := HS.out k hlt;obtain ⟨kn, hkn⟩ : ∃ kn, (r.doers.getD k dr0).1 = kn := ⟨_, rfl⟩;obtain ⟨la, hla⟩ : ∃ la, (r.doers.getD k dr0).2.1 = la := ⟨_, rfl⟩;obtain ⟨cm, hcm⟩ : ∃ cm, (r.doers.getD k dr0).2.2.2 = cm := ⟨_, rfl⟩;rw [hkn] at e0;rw [hla] at e1;rw [hcm] at e3
   have H1 : Hid _ := hkn
   have H2 : Hid _ := hla
   have H3 : Hid _ := hcm
   clear hkn hla hcm;obtain ⟨⟨qa, qm, qc⟩, hKk⟩ : ∃ q, h.K k = q := ⟨_, rfl⟩;rw [hKk] at e2 RR hmk
   have HKK : Hid _ := hKk
   clear hKk
   simp only at e2 RR hmk
   rw [ed] at c0
   have HG : Hid _ := G
   have HEh : Hid _ := HE
   clear G HE
   go_wp2_with (first | ((with_reducible refine sm 136 X0 0 [.bool kn, .int .i64 la, .slice qa qm qc, .int .i64 cm] ?_);intro V1 S;replace X0 : Bx V1 b0 [.bool kn, .int .i64 la, .slice qa qm qc, .int .i64 cm] := S.bx;replace c0 := X0.cell;replace f0 := X0.froz;replace B := bkp B S.kept;clear S) | ((with_reducible refine al 136 [.bool false, .int .i64 0, .slice none 0 0, .int .i64 0] ?_);intro b0 W0 N0;have ob0 := N0.ge;have B := N0.below;obtain ⟨X0, c0, f0⟩ := N0.a;clear N0) | fail)
   refine (l8Copy_z qa qm qc _ _ (RR.below B) hmk).mono ?_;rintro e w1 ⟨ra1, rc1, z1, ue1, rfl, Gz1, zu1, hR1, R1, BB⟩;have oz1 := Nat.le_trans B.size Gz1;have o0_z1 := ltl X0.lt Gz1;clear Gz1;replace X0 := X0.below BB;replace c0 := X0.cell;replace f0 := X0.froz;replace B := below_next B BB;clear BB
   go_upto_region 10 with (first | ((with_reducible refine so 34 X0 2 (.slice ra1 qm rc1) ?_);intro V2 S;replace X0 : Bx V2 b0 [.bool kn, .int .i64 la, .slice ra1 qm rc1, .int .i64 cm] := S.bx;replace c0 := X0.cell;replace f0 := X0.froz;replace R1 := R1.kept S.kept (by omega);replace hR1 := Nat.le_trans hR1 S.kept.size;replace B := bkp B S.kept;clear S) | fail)
   go_wp2_with (first | (at_builtin;refine Lib.wpList_append_run _ rfl _ _ _ _ rfl _ _ rfl rfl _ _ (hr _) ?_) | ((have g := ob0);clear g;(with_reducible refine lit_newX 61 1 _ [.bool kn, .int .i64 la, .slice ra1 qm rc1, .int .i64 cm] 136 (fun _ => by kernel_rfl)  ?_);intro b1 W1 N1;have ob1 := N1.o B;have o0_b1 := N1.u X0;have oR1_b1 := Nat.le_trans hR1 N1.ge;replace X0 := N1.r X0;replace c0 := X0.cell;replace f0 := X0.froz;replace R1 := R1.below N1.below;replace hR1 := Nat.le_trans hR1 N1.below.size;replace B := N1.n B;obtain ⟨X1, c1⟩ := N1.c;clear N1;obtain ⟨v', w', hr, G2, BB⟩ := copy_snoc HG.out B X1 R1 oz1 hR1 LZ2 H1.out H2.out H3.out hlt hn9;have HG2 : Hid _ := G2;clear G2) | fail)
   have BL2 : Hid (Below zz W9 w') := (BL.trans (B.mono LZ2)).trans BB
   have HE2 : Hid (∀ i, i < k + 1 → ((fun j => if j = k then (ra1, qm, rc1) else K' j) i).2.1 = (h.K i).2.1) := fun i hi => by
    by_cases e : i = k
    ·subst e;rw [HKK.out];simp
    ·simp only [if_neg e];exact HEh.out i (by omega)
   have LZ3 : Hid (zz ≤ w'.heap.size) := Nat.le_trans LZ2 (Nat.le_trans B.size BB.size)
   clear X0 c0 f0 X1 c1 R1 B BB hr;go_wp2
   go_roundw
   case rel => exact ⟨k + 1, by omega, by go_num, (fun j => if j = k then (ra1, qm, rc1) else K' j), HG2.out, HE2.out, LZ3.out, BL2.out⟩
   case measure => simp [intOf];omega
  ·obtain rfl : k = h.D.2.1 := by omega
   obtain ⟨ao9, c9, rfl, E9⟩ := G.els
   have KB := Kept.ofB BL;have R5 := HR5.out.kept KB (Or.inl l5);have R7 := HR7.out.kept KB (Or.inl l7);have R8 := HR8.out.kept KB (Or.inl l8)
   have R9 : DoersAt wr true zz wr.heap.size ao9 h.D.2.1 c9 K' r.doers := ⟨hdl, E9⟩
   have X1 := HX1.out.low BL lt1;have c1 := X1.cell;have f0 := X0.froz;have f1 := X1.froz
   have B : Below w.heap.size w wr := hbw
   have hR5 : ue5 ≤ wr.heap.size := by omega
   have hR7 : ue7 ≤ wr.heap.size := by omega
   have hR8 : ue8 ≤ wr.heap.size := by omega
   obtain ⟨ue9, hu9⟩ : ∃ ue9, ue9 = wr.heap.size := ⟨_, rfl⟩;rw [← hu9] at R9
   have hR9 : ue9 ≤ wr.heap.size := Nat.le_of_eq hu9
   clear hu9 E9 G KB HX0 HX1 HR5 HR7 HR8 HB BL
   go_wp2_with (first | ((with_reducible refine sm 63 X1 0 [.int .i64 r.id, .int .i64 r.size, .int .i64 r.view, .bool r.normal, .int .i64 r.last, .slice ra5 h.L.2.1 rc5, .int .i64 r.commit, .slice (some ad7) h.O.2.1 rc7, .slice (some ad8) h.A.2.1 rc8, .slice ao9 h.D.2.1 c9] ?_);intro V22 S;replace X0 := X0.kp S.kept;replace c0 := X0.cell;replace f0 := X0.froz;replace X1 : Bx V22 b1 [.int .i64 r.id, .int .i64 r.size, .int .i64 r.view, .bool r.normal, .int .i64 r.last, .slice ra5 h.L.2.1 rc5, .int .i64 r.commit, .slice (some ad7) h.O.2.1 rc7, .slice (some ad8) h.A.2.1 rc8, .slice ao9 h.D.2.1 c9] := S.bx;replace c1 := X1.cell;replace f1 := X1.froz;replace R5 := R5.kept S.kept (by omega);replace hR5 := Nat.le_trans hR5 S.kept.size;replace R7 := R7.kept S.kept (by omega);replace hR7 := Nat.le_trans hR7 S.kept.size;replace R8 := R8.kept S.kept (by omega);replace hR8 := Nat.le_trans hR8 S.kept.size;replace R9 := R9.kept S.kept (by omega);replace hR9 := Nat.le_trans hR9 S.kept.size;replace B := bkp B S.kept;clear S) | ((with_reducible refine so 61 X0 9 (.slice ao9 h.D.2.1 c9) ?_);intro V21 S;replace X0 : Bx V21 b0 [.int .i64 r.id, .int .i64 r.size, .int .i64 r.view, .bool r.normal, .int .i64 r.last, .slice ra5 h.L.2.1 rc5, .int .i64 r.commit, .slice (some ad7) h.O.2.1 rc7, .slice (some ad8) h.A.2.1 rc8, .slice ao9 h.D.2.1 c9] := S.bx;replace c0 := X0.cell;replace f0 := X0.froz;replace X1 := X1.kp S.kept;replace c1 := X1.cell;replace f1 := X1.froz;replace R5 := R5.kept S.kept (by omega);replace hR5 := Nat.le_trans hR5 S.kept.size;replace R7 := R7.kept S.kept (by omega);replace hR7 := Nat.le_trans hR7 S.kept.size;replace R8 := R8.kept S.kept (by omega);replace hR8 := Nat.le_trans hR8 S.kept.size;replace R9 := R9.kept S.kept (by omega);replace hR9 := Nat.le_trans hR9 S.kept.size;replace B := bkp B S.kept;clear S))
   refine bodyPost_ret (v := .agg #[.int .i64 r.id, .int .i64 r.size, .int .i64 r.view, .bool r.normal, .int .i64 r.last, .slice ra5 h.L.2.1 rc5, .int .i64 r.commit, .slice (some ad7) h.O.2.1 rc7, .slice (some ad8) h.A.2.1 rc8, .slice ao9 h.D.2.1 c9]) (by simp [results, Tryz.results54, go_sem, *]) rfl ⟨w.heap.size, V22.heap.size, z5, ue5, ⟨(ra5, h.L.2.1, rc5), (some ad7, h.O.2.1, rc7), (some ad8, h.A.2.1, rc8), (ao9, h.D.2.1, c9), K'⟩, rfl, Nat.le_refl _, Nat.le_refl _, ?_, ?_, R5, oz5, hR5, fun k hk => ?_, B⟩
   ·exact repAt_ofZ (OwnE.row R5) R7 R8 R9 ⟨by omega, by omega⟩ ⟨by omega, by omega⟩ ⟨by omega, by omega⟩ ⟨by omega, by omega⟩ (by omega) (by omega) (by omega) (by omega) (by omega) (by omega)
   ·exact ⟨hs.L, hs.O, hs.A, hs.D, fun i hi => by rw [HE i hi];exact HS.out i hi⟩
   ·rcases hk with q | q | q
    ·have := R7.inB q;omega
    ·have := R8.inB q;omega
    ·have := R9.els.inB q;omega
theorem l9Agreed1_is {own : Bool} {lo hi : Nat} (cd : Int) (r : Rep) (h : RH) (s : Hd) (b0 : Nat) (w : World) (X0 : Bx w b0 [.int .i64 cd, .int .i64 r.id, .int .i64 r.size, .int .i64 r.view, .bool r.normal, .int .i64 r.last, .slice h.L.1 h.L.2.1 h.L.2.2, .int .i64 r.commit, .slice h.O.1 h.O.2.1 h.O.2.2, .slice h.A.1 h.A.2.1 h.A.2.2, .slice h.D.1 h.D.2.1 h.D.2.2, .slice s.1 s.2.1 s.2.2]) (x : RepAt w own lo hi h r) (hs : 1 ≤ r.size ∧ r.size ≤ 5) (hid : 0 ≤ r.id ∧ r.id ≤ r.size - 1) (hlo : r.log.length ≤ 40) (hl : (r.oks.length : Int) = r.size) :
  Calls Tryz.prog 56 #[.pointer (some ⟨b0, 1, none⟩)] w fun e w' => e = .returned (.int .i64 (agrR r)) ∧ w' = w := by
 have hol := x.oks.nInts;have hll := x.log.nSixs;have hxo := x.oks
 have HA : Hid (agrTo r.oks r.id r.size h.L.2.1 = agrR r) := by show _ = _;unfold agrR;rw [hll]
 obtain ⟨id, size, view, normal, last, log, commit, oks, asks, doers⟩ := r
 simp only at X0 hs hid hlo hl hol hll hxo HA
 generalize agrR _ = res at *
 obtain ⟨m, rfl⟩ : ∃ m : Nat, size = m := ⟨size.toNat, by omega⟩
 obtain ⟨i0, rfl⟩ : ∃ i0 : Nat, id = i0 := ⟨id.toNat, by omega⟩
 have HmO : Hid (m = h.O.2.1) := (by omega : m = h.O.2.1)
 have hLl : h.L.2.1 ≤ 40 := by omega
 clear x hll hol hl hlo log asks doers;have c0 := X0.cell
 go_enter Tryz.func56, Tryz.ntmps56
 go_wp2
 go_loopw [3, 4, 5] (fun kv _ _ wr => ∃ k : Nat, k ≤ h.L.2.1 ∧ kv = .int .i64 k ∧ Hid (agrTo oks i0 m k = res) ∧ w = wr) (fun kv _ _ _ => (intOf kv).toNat)
 case atStart => exact ⟨_, Nat.le_refl _, rfl, HA, rfl⟩
 case round =>
  obtain ⟨k, hk, rfl, HK, rfl⟩ := hrel
  clear HA
  by_cases h0 : k = 0
  ·subst h0
   have hd : res = 0 := by rw [← HK.out, agrTo]
   subst hd;go_wp2;go_ret;exact ⟨rfl, rfl⟩
  obtain ⟨p, rfl⟩ : ∃ p, k = p + 1 := ⟨k - 1, by omega⟩
  clear h0
  have hp0 : (0 : Int) < ((p + 1 : Nat) : Int) := by omega
  have s2 : ((p + 1 : Nat) : Int) = (p : Int) + 1 := by simp
  have hp1 : (0 : Int) < (p : Int) + 1 := by omega
  have s0 : IntKind.i64.wrap (p : Int) = p := wrapI_same _ (by omega)
  have HK2 : Hid _ := HK.out
  rw [agrTo] at HK2;clear HK;go_wp2
  go_loopw [4, 5] (fun hv iv wr => ∃ i : Nat, i ≤ m ∧ iv = .int .i64 i ∧ hv = .int .i64 (cntA oks i0 ((p : Int) + 1) i) ∧ w = wr) (fun _ iv _ => m - (intOf iv).toNat)
  case atStart => exact ⟨0, Nat.zero_le _, rfl, rfl, rfl⟩
  case round =>
   obtain ⟨i, hi, rfl, rfl, rfl⟩ := hrel
   have hb := cntA_in oks i0 ((p : Int) + 1) i
   by_cases hlt : i < m
   ·have hli : (i : Int) < (m : Int) := by omega
    have hlo : (i : Int) < (h.O.2.1 : Int) := by have := HmO.out;omega
    have HS : Hid (cntA oks i0 ((p : Int) + 1) (i + 1) = cntA oks i0 ((p : Int) + 1) i + (if (i : Int) ≠ (i0 : Int) ∧ (p : Int) + 1 ≤ oks.getD i 0 then 1 else 0)) := rfl
    obtain ⟨b, off, eo, _, _, _, e0, _⟩ := hxo.int (k := i) (by have := HmO.out;omega)
    rw [eo] at c0 X0;generalize oks.getD i 0 = y at *;generalize hcc : cntA oks i0 ((p : Int) + 1) i = cc at *
    have w1 : IntKind.i64.wrap (cc + 1) = cc + 1 := wrapI_same _ (by omega)
    by_cases q1 : (i : Int) = i0
    ·have q1' : ((i : Int) != (i0 : Int)) = false := by simp [q1]
     have HT : Hid _ := HS.out
     rw [if_neg (fun z => z.1 q1), Int.add_zero] at HT
     clear q1 HS hcc;go_wp2
     go_roundw
     case rel => exact ⟨i + 1, by omega, by go_num, by rw [HT.out], by first | rfl | trivial⟩
     case measure => simp [intOf];omega
    have q1' : ((i : Int) != (i0 : Int)) = true := by simp [q1]
    by_cases q2 : (p : Int) + 1 ≤ y
    ·have HT : Hid _ := HS.out
     rw [if_pos ⟨q1, q2⟩] at HT;clear q1 HS hcc;go_wp2
     go_roundw
     case rel => exact ⟨i + 1, by omega, by go_num, by rw [HT.out], by first | rfl | trivial⟩
     case measure => simp [intOf];omega
    ·have HT : Hid _ := HS.out
     rw [if_neg (fun z => q2 z.2), Int.add_zero] at HT
     clear q1 HS hcc;go_wp2
     go_roundw
     case rel => exact ⟨i + 1, by omega, by go_num, by rw [HT.out], by first | rfl | trivial⟩
     case measure => simp [intOf];omega
   ·obtain rfl : i = m := by omega
    have HX : Hid _ := HK2.out
    rw [Int.toNat_natCast] at HX;clear HK2;generalize cntA oks i0 ((p : Int) + 1) i = cc at *;go_wp2_with fail
    refine (l9Enough_is i (by omega) _).mono ?_
    rintro e W9 ⟨rfl, rfl⟩
    by_cases q : (i : Int) / 2 + 1 ≤ cc
    ·have e : res = (p : Int) + 1 := by rw [← HX.out, if_pos q]
     subst e;go_wp2;go_ret;exact ⟨rfl, rfl⟩
    ·have HY : Hid _ := HX.out
     rw [if_neg q] at HY;clear HX;go_wp2
     go_roundw
     case rel => exact ⟨p, by omega, by go_num, HY, by first | rfl | trivial⟩
     case measure => simp [intOf]
theorem specAsk_is {own : Bool} {lo hi : Nat} (r : Rep) (h : RH) (en : En) (w : World) (x : RepAt w own lo hi h r) (hz : RSz h 1048576) (c : Int) (q : Rep) (ms : List Ml) (hc : askC r en = c) (hq : askQ r en = q) (hms : askM r en = ms) : Calls Tryz.prog 23 #[.agg #[.int .i64 r.id, .int .i64 r.size, .int .i64 r.view, .bool r.normal, .int .i64 r.last, .slice h.L.1 h.L.2.1 h.L.2.2, .int .i64 r.commit, .slice h.O.1 h.O.2.1 h.O.2.2, .slice h.A.1 h.A.2.1 h.A.2.2, .slice h.D.1 h.D.2.1 h.D.2.2], .agg #[.int .i64 en.1, .int .i64 en.2.1, .int .i64 en.2.2.1, .int .i64 en.2.2.2.1, .int .i64 en.2.2.2.2.1, .int .i64 en.2.2.2.2.2]] w fun e w' => NodeRes w w' e c q ms := by
 unfold askQ at hq;unfold askM at hms;rw [hc] at hq hms;unfold askC at hc;obtain ⟨cl, hcl⟩ : ∃ cl, ledF r = cl := ⟨_, rfl⟩;obtain ⟨ce, hce⟩ : ∃ ce, enFault en = ce := ⟨_, rfl⟩;rw [hcl, hce] at hc
 have HC : Hid _ := hcl
 have HE : Hid _ := hce
 have hll := x.log.nSixs;rw [hll] at hc;clear hcl hce
 go_enter Tryz.func23, Tryz.ntmps23
 go_wp2_with (first | ((have g := ob1);clear g;(with_reducible refine al 65 [.int .i64 0, .int .i64 0, .int .i64 0, .int .i64 0, .bool false, .int .i64 0, .slice none 0 0, .int .i64 0, .slice none 0 0, .slice none 0 0, .slice none 0 0, .slice none 0 0] ?_);intro b2 W2 N2;have ob2 := N2.o B;have o0_b2 := N2.u X0;have o1_b2 := N2.u X1;replace X0 := N2.r X0;replace c0 := X0.cell;replace X1 := N2.r X1;replace c1 := X1.cell;replace B := N2.n B;obtain ⟨X2, c2, f2⟩ := N2.a;clear N2) | ((have g := ob0);clear g;(with_reducible refine box_newX 43 [.int .i64 en.1, .int .i64 en.2.1, .int .i64 en.2.2.1, .int .i64 en.2.2.2.1, .int .i64 en.2.2.2.2.1, .int .i64 en.2.2.2.2.2] rfl ?_);intro b1 W1 N1;have ob1 := N1.o B;have o0_b1 := N1.u X0;replace X0 := N1.r X0;replace c0 := X0.cell;replace B := N1.n B;obtain ⟨X1, c1⟩ := N1.c;clear N1) | ((with_reducible refine box_newX 63 [.int .i64 r.id, .int .i64 r.size, .int .i64 r.view, .bool r.normal, .int .i64 r.last, .slice h.L.1 h.L.2.1 h.L.2.2, .int .i64 r.commit, .slice h.O.1 h.O.2.1 h.O.2.2, .slice h.A.1 h.A.2.1 h.A.2.2, .slice h.D.1 h.D.2.1 h.D.2.2] rfl ?_);intro b0 W0 N0;have ob0 := N0.ge;have B := N0.below;obtain ⟨X0, c0⟩ := N0.c;clear N0) | fail)
 refine (l9Led_is r h b0 _ X0 (x.below B) (hz.mono (by omega)) cl HC.out).mono ?_
 rintro e w1 ⟨rfl, BB⟩;replace X0 := X0.below BB;replace c0 := X0.cell;replace X1 := X1.below BB;replace c1 := X1.cell;replace X2 := X2.below BB;replace c2 := X2.cell;replace f2 := X2.froz;replace B := below_next B BB;clear BB
 by_cases h0 : cl = 0
 rotate_left 1
 ·rw [if_neg h0] at hc;subst hc;rw [if_neg h0] at hq hms;subst hq;subst hms
  have h0' : (cl != 0) = true := by simp [h0]
  go_wp2_with fail;refine (l9Bad_is cl _).mono ?_;rintro e wb ⟨rfl, BB⟩;replace X0 := X0.below BB;replace c0 := X0.cell;replace X1 := X1.below BB;replace c1 := X1.cell;replace X2 := X2.below BB;replace c2 := X2.cell;replace f2 := X2.froz;replace B := below_next B BB;clear BB
  go_wp2_with (first | ((with_reducible refine sm 65 X2 0 [.int .i64 cl, .int .i64 0, .int .i64 0, .int .i64 0, .bool false, .int .i64 0, .slice none 0 0, .int .i64 0, .slice none 0 0, .slice none 0 0, .slice none 0 0, .slice none 0 0] ?_);intro V1 S;replace X0 := X0.kp S.kept;replace c0 := X0.cell;replace X1 := X1.kp S.kept;replace c1 := X1.cell;replace X2 : Bx V1 b2 [.int .i64 cl, .int .i64 0, .int .i64 0, .int .i64 0, .bool false, .int .i64 0, .slice none 0 0, .int .i64 0, .slice none 0 0, .slice none 0 0, .slice none 0 0, .slice none 0 0] := S.bx;replace c2 := X2.cell;replace f2 := X2.froz;replace B := bkp B S.kept;clear S))
  refine bodyPost_ret (v := .agg #[.int .i64 cl, .int .i64 0, .int .i64 0, .int .i64 0, .bool false, .int .i64 0, .slice none 0 0, .int .i64 0, .slice none 0 0, .slice none 0 0, .slice none 0 0, .slice none 0 0]) (by simp [results, Tryz.results23, go_sem, *]) rfl ⟨w.heap.size, _, ⟨(none, 0, 0), (none, 0, 0), (none, 0, 0), (none, 0, 0), fun _ => (none, 0, 0)⟩, (none, 0, 0), fun _ => (none, 0, 0), rfl, Nat.le_refl _, Nat.le_refl _, AnsAt.none _ _ _ _, ASz.none _, B⟩
 subst h0;rw [if_pos rfl] at hc
 obtain ⟨HR0, -, L⟩ := led_ok HC.out
 obtain ⟨-, -, -, SP, -⟩ := rep_ok HR0
 have SD := SP.2.2;have hdl := x.doers.len;have LS := L.size;have LI := L.id
 have hD5 : h.D.2.1 ≤ 1000 := by rw [← hdl];split at SD <;> omega
 clear SP SD hdl HR0;go_wp2_with fail;refine (specEF_is en.1 en.2.1 en.2.2.1 en.2.2.2.1 en.2.2.2.2.1 en.2.2.2.2.2 _ ce HE.out).mono ?_;rintro e w2 ⟨rfl, BB⟩;replace X0 := X0.below BB;replace c0 := X0.cell;replace X1 := X1.below BB;replace c1 := X1.cell;replace X2 := X2.below BB;replace c2 := X2.cell;replace f2 := X2.froz;replace B := below_next B BB;clear BB
 by_cases h1 : ce = 0
 rotate_left 1
 ·rw [if_neg h1] at hc;subst hc;rw [if_neg h1] at hq hms;subst hq;subst hms
  have h1' : (ce != 0) = true := by simp [h1]
  go_wp2_with fail;refine (l9Bad_is ce _).mono ?_;rintro e wb ⟨rfl, BB⟩;replace X0 := X0.below BB;replace c0 := X0.cell;replace X1 := X1.below BB;replace c1 := X1.cell;replace X2 := X2.below BB;replace c2 := X2.cell;replace f2 := X2.froz;replace B := below_next B BB;clear BB
  go_wp2_with (first | ((with_reducible refine sm 65 X2 0 [.int .i64 ce, .int .i64 0, .int .i64 0, .int .i64 0, .bool false, .int .i64 0, .slice none 0 0, .int .i64 0, .slice none 0 0, .slice none 0 0, .slice none 0 0, .slice none 0 0] ?_);intro V1 S;replace X0 := X0.kp S.kept;replace c0 := X0.cell;replace X1 := X1.kp S.kept;replace c1 := X1.cell;replace X2 : Bx V1 b2 [.int .i64 ce, .int .i64 0, .int .i64 0, .int .i64 0, .bool false, .int .i64 0, .slice none 0 0, .int .i64 0, .slice none 0 0, .slice none 0 0, .slice none 0 0, .slice none 0 0] := S.bx;replace c2 := X2.cell;replace f2 := X2.froz;replace B := bkp B S.kept;clear S))
  refine bodyPost_ret (v := .agg #[.int .i64 ce, .int .i64 0, .int .i64 0, .int .i64 0, .bool false, .int .i64 0, .slice none 0 0, .int .i64 0, .slice none 0 0, .slice none 0 0, .slice none 0 0, .slice none 0 0]) (by simp [results, Tryz.results23, go_sem, *]) rfl ⟨w.heap.size, _, ⟨(none, 0, 0), (none, 0, 0), (none, 0, 0), (none, 0, 0), fun _ => (none, 0, 0)⟩, (none, 0, 0), fun _ => (none, 0, 0), rfl, Nat.le_refl _, Nat.le_refl _, AnsAt.none _ _ _ _, ASz.none _, B⟩
 subst h1;rw [if_pos rfl] at hc
 by_cases h2 : h.L.2.1 = 40
 ·rw [if_pos h2] at hc;subst hc
  rw [if_neg (by decide)] at hq hms
  subst hq;subst hms
  have h2' : (h.L.2.1 : Int) ≥ 40 := by omega
  clear h2;go_wp2_with fail;refine (l9Bad_is 2 _).mono ?_;rintro e wb ⟨rfl, BB⟩;replace X0 := X0.below BB;replace c0 := X0.cell;replace X1 := X1.below BB;replace c1 := X1.cell;replace X2 := X2.below BB;replace c2 := X2.cell;replace f2 := X2.froz;replace B := below_next B BB;clear BB
  go_wp2_with (first | ((with_reducible refine sm 65 X2 0 [.int .i64 2, .int .i64 0, .int .i64 0, .int .i64 0, .bool false, .int .i64 0, .slice none 0 0, .int .i64 0, .slice none 0 0, .slice none 0 0, .slice none 0 0, .slice none 0 0] ?_);intro V1 S;replace X0 := X0.kp S.kept;replace c0 := X0.cell;replace X1 := X1.kp S.kept;replace c1 := X1.cell;replace X2 : Bx V1 b2 [.int .i64 2, .int .i64 0, .int .i64 0, .int .i64 0, .bool false, .int .i64 0, .slice none 0 0, .int .i64 0, .slice none 0 0, .slice none 0 0, .slice none 0 0, .slice none 0 0] := S.bx;replace c2 := X2.cell;replace f2 := X2.froz;replace B := bkp B S.kept;clear S))
  refine bodyPost_ret (v := .agg #[.int .i64 2, .int .i64 0, .int .i64 0, .int .i64 0, .bool false, .int .i64 0, .slice none 0 0, .int .i64 0, .slice none 0 0, .slice none 0 0, .slice none 0 0, .slice none 0 0]) (by simp [results, Tryz.results23, go_sem, *]) rfl ⟨w.heap.size, _, ⟨(none, 0, 0), (none, 0, 0), (none, 0, 0), (none, 0, 0), fun _ => (none, 0, 0)⟩, (none, 0, 0), fun _ => (none, 0, 0), rfl, Nat.le_refl _, Nat.le_refl _, AnsAt.none _ _ _ _, ASz.none _, B⟩
 rw [if_neg h2] at hc;subst hc;rw [if_pos rfl] at hq hms;subst hq;subst hms
 have h2' : ¬ (h.L.2.1 : Int) ≥ 40 := by have := L.log;omega
 have hl39 : r.log.length ≤ 39 := by have := L.log;omega
 have HLL : Hid _ := hll
 have hn39 : h.L.2.1 ≤ 39 := by omega
 clear h2 hll;go_wp2_with fail;have lb := X2.lt;have B9 := B.size;refine (l9Copy_o r h _ (x.below B) hz hD5).mono ?_;rintro e w3 ⟨z, ue, zl, ul, h', rfl, Gz, hR, R, HZ, OL, zzl, ulu, SPL, BB⟩;have R1 := R.widen Gz (Nat.le_refl ue)
 have OL1 : OwnE w3 w2.heap.size ul (.slice h'.L.1 h'.L.2.1 h'.L.2.2) h'.L.2.1 r.log := ⟨owns_down OL.own (Nat.le_trans Gz zzl), OL.lt⟩
 obtain ⟨z0, hz0⟩ : ∃ z0, z0 = w2.heap.size := ⟨_, rfl⟩;rw [← hz0] at R1 OL1 lb B9
 have gw : z0 ≤ w3.heap.size := by rw [hz0];exact BB.size
 clear hz0 R OL Gz zzl
 have hll' := R1.log.nSixs
 have HLN : Hid (h'.L.2.1 = h.L.2.1) := (by have := HLL.out;omega : h'.L.2.1 = h.L.2.1)
 clear hll';have R := R1;have OL := OL1;clear R1 OL1;replace X0 := X0.below BB;replace c0 := X0.cell;replace X1 := X1.below BB;replace c1 := X1.cell;replace X2 := X2.below BB;replace c2 := X2.cell;replace f2 := X2.froz;replace B := below_next B BB;clear BB
 go_upto_region 11 with (first | ((with_reducible refine sm 65 X3 0 [.int .i64 0, .int .i64 r.id, .int .i64 r.size, .int .i64 r.view, .bool r.normal, .int .i64 r.last, .slice h'.L.1 h'.L.2.1 h'.L.2.2, .int .i64 r.commit, .slice h'.O.1 h'.O.2.1 h'.O.2.2, .slice h'.A.1 h'.A.2.1 h'.A.2.2, .slice h'.D.1 h'.D.2.1 h'.D.2.2, .slice none 0 0] ?_);intro V1 S;replace X0 := X0.kp S.kept;replace c0 := X0.cell;replace X1 := X1.kp S.kept;replace c1 := X1.cell;replace X2 := X2.kp S.kept;replace c2 := X2.cell;replace f2 := X2.froz;replace X3 : Bx V1 b3 [.int .i64 0, .int .i64 r.id, .int .i64 r.size, .int .i64 r.view, .bool r.normal, .int .i64 r.last, .slice h'.L.1 h'.L.2.1 h'.L.2.2, .int .i64 r.commit, .slice h'.O.1 h'.O.2.1 h'.O.2.2, .slice h'.A.1 h'.A.2.1 h'.A.2.2, .slice h'.D.1 h'.D.2.1 h'.D.2.2, .slice none 0 0] := S.bx;replace c3 := X3.cell;replace f3 := X3.froz;replace B := bkp B S.kept;replace R := R.kept S.kept (by omega);replace OL := OL.kept S.kept (by omega);clear S) | ((have g := ob2);clear g;(with_reducible refine al 65 [.int .i64 0, .int .i64 0, .int .i64 0, .int .i64 0, .bool false, .int .i64 0, .slice none 0 0, .int .i64 0, .slice none 0 0, .slice none 0 0, .slice none 0 0, .slice none 0 0] ?_);intro b3 W3 N3;have ob3 := N3.o B;have o0_b3 := N3.u X0;have o1_b3 := N3.u X1;have o2_b3 := N3.u X2;replace X0 := N3.r X0;replace c0 := X0.cell;replace X1 := N3.r X1;replace c1 := X1.cell;replace X2 := N3.r X2;replace c2 := X2.cell;replace f2 := X2.froz;replace B := N3.n B;obtain ⟨X3, c3, f3⟩ := N3.a;have o3u := Nat.le_trans hR N3.ge;have o3z := Nat.le_trans gw N3.ge;replace R := R.below N3.below;replace OL := OL.below N3.below;clear N3) | fail)
 have lt3 := X3.lt
 have HOL : Hid (∀ k, (Value.slice h'.L.1 h'.L.2.1 h'.L.2.2).ownBlock = some k → z0 ≤ k ∧ k < ul) := fun k hk => ⟨(OL.own.lt k hk).1, OL.lt k hk⟩
 have HR3 : Hid _ := R
 have HOL3 : Hid _ := OL
 have HLT3 : Hid _ := lt3
 have HB3 : Hid (Below w.heap.size w V1) := B
 have HZW : Hid (z0 ≤ V1.heap.size) := Nat.le_of_lt (Nat.lt_of_le_of_lt o3z lt3)
 clear R OL lt3 B
 go_upto_region 12 with (first | ((with_reducible refine so 34 X3 6 (.slice sa (h'.L.2.1 + 1) sc) ?_);intro V9 S;replace X0 := X0.kp S.kept;replace c0 := X0.cell;replace X1 := X1.kp S.kept;replace c1 := X1.cell;replace X2 := X2.kp S.kept;replace c2 := X2.cell;replace f2 := X2.froz;replace X3 : Bx V9 b3 [.int .i64 0, .int .i64 r.id, .int .i64 r.size, .int .i64 r.view, .bool r.normal, .int .i64 r.last, .slice sa (h'.L.2.1 + 1) sc, .int .i64 r.commit, .slice h'.O.1 h'.O.2.1 h'.O.2.2, .slice h'.A.1 h'.A.2.1 h'.A.2.2, .slice h'.D.1 h'.D.2.1 h'.D.2.2, .slice none 0 0] := S.bx;replace c3 := X3.cell;replace f3 := X3.froz;have HKT : Hid (KeptS (fun k => k = b3 ∨ (Value.slice h'.L.1 h'.L.2.1 h'.L.2.2).ownBlock = some k) V1 V9) := HKS.out.trans (S.kept.toS fun k k1 k2 => Or.inl (by omega));have HOX : Hid (OwnE V9 z0 V9.heap.size (.slice sa (h'.L.2.1 + 1) sc) (h'.L.2.1 + 1) (r.log ++ [en])) := ⟨owns_kept HOW.out.own S.kept (fun k hk => HNB.out k hk), fun g hg => Nat.lt_of_lt_of_le (HOW.out.lt g hg) S.kept.size⟩;clear S) | (at_builtin;refine Lib.wpList_append_run _ rfl _ _ _ _ rfl _ _ rfl rfl _ _ (hr _) ?_;clear hr;replace X0 := Y0;clear Y0;replace c0 := X0.cell;replace X1 := Y1;clear Y1;replace c1 := X1.cell;replace X2 := Y2;clear Y2;replace c2 := X2.cell;replace X3 := Y3;clear Y3;replace c3 := X3.cell;replace f2 := X2.froz;replace f3 := X3.froz) | ((with_reducible refine lit_newX 34 1 _ [.int .i64 en.1, .int .i64 en.2.1, .int .i64 en.2.2.1, .int .i64 en.2.2.2.1, .int .i64 en.2.2.2.2.1, .int .i64 en.2.2.2.2.2] 43 (fun _ => by kernel_rfl) ?_);intro b4 W4 N4;replace X0 := N4.r X0;replace c0 := X0.cell;replace X1 := N4.r X1;replace c1 := X1.cell;replace X2 := N4.r X2;replace c2 := X2.cell;replace X3 := N4.r X3;replace c3 := X3.cell;have LX : Bx W4 b4 (enC en) := N4.bx;obtain ⟨v', w4, hr, OW, KS, hat, sa, sc, e9⟩ := log_snoc (HOL3.out.below N4.below) LX (Nat.le_trans HZW.out N4.below.size) (by have := HLN.out;omega);subst e9;have HOW : Hid _ := OW;have HKS : Hid (KeptS (fun k => k = b3 ∨ (Value.slice h'.L.1 h'.L.2.1 h'.L.2.2).ownBlock = some k) V1 w4) := (KeptS.below N4.below).trans (KS.mono fun k hk => Or.inr hk);have HAT : Hid _ := hat;have HSZ : Hid (V1.heap.size ≤ W4.heap.size) := N4.below.size;have Y0 := X0.keptS KS (fun q => by have := HOL.out _ q;omega);have Y1 := X1.keptS KS (fun q => by have := HOL.out _ q;omega);have Y2 := X2.keptS KS (fun q => by have := HOL.out _ q;omega);have Y3 := X3.keptS KS (fun q => by have := HOL.out _ q;omega);clear OW KS hat LX N4;have HNB : Hid (∀ k, (Value.slice sa (h'.L.2.1 + 1) sc).ownBlock = some k → k < b3 ∨ b3 + 1 ≤ k) := fun k hk => HAT.out.elim (fun q => (by have := HOL.out k (q ▸ hk);omega)) (fun q => (by rw [q] at hk;injection hk with hk;have := HSZ.out;have := HLT3.out;omega))) | fail)
 obtain ⟨RT, NB⟩ := took_rep (en := en) HR3.out HOL3.out SPL (Nat.le_refl _) ulu o3u HLT3.out HKT.out HOX.out (fun g hg => HAT.out.elim (fun q => Or.inl (q ▸ hg)) (fun q => by rw [q] at hg;injection hg with hg;exact Or.inr (by rw [← hg];exact HSZ.out)))
 obtain ⟨h2, hh2⟩ : ∃ h2 : RH, h2 = ⟨(sa, h'.L.2.1 + 1, sc), h'.O, h'.A, h'.D, h'.K⟩ := ⟨_, rfl⟩;rw [← hh2] at RT NB
 have Z2 : RSz h2 1048576 := by rw [hh2];exact ⟨by have := HLN.out;show h'.L.2.1 + 1 ≤ _;omega, HZ.O, HZ.A, HZ.D, HZ.K⟩
 replace X3 : Bx V9 b3 [.int .i64 0, .int .i64 (tookR r en).id, .int .i64 (tookR r en).size, .int .i64 (tookR r en).view, .bool (tookR r en).normal, .int .i64 (tookR r en).last, .slice h2.L.1 h2.L.2.1 h2.L.2.2, .int .i64 (tookR r en).commit, .slice h2.O.1 h2.O.2.1 h2.O.2.2, .slice h2.A.1 h2.A.2.1 h2.A.2.2, .slice h2.D.1 h2.D.2.1 h2.D.2.2, .slice none 0 0] := by rw [hh2];exact X3
 replace c3 := X3.cell;replace f3 := X3.froz;clear hh2
 have B : Below w.heap.size w V9 := HB3.out.trans (HKT.out.low _ (fun k hk => hk.elim (fun q => by omega) (fun q => by have := HOL.out _ q;omega)) HB3.out.size)
 clear HKT HOX HAT HSZ HOW HKS HNB HOL HR3 HOL3 HLT3 HB3 HZW SPL;obtain ⟨ag, hag⟩ : ∃ ag, max r.commit (agrR (tookR r en)) = ag := ⟨_, rfl⟩
 have HAG : Hid (agrM (tookR r en) = ag) := by
  show _ = _
  rw [← hag];unfold agrM
  show (if agrR (tookR r en) ≤ r.commit then r.commit else agrR (tookR r en)) = _
  split <;> omega
 have HAG0 : Hid _ := hag
 clear hag
 have hto : ((tookR r en).oks.length : Int) = (tookR r en).size := L.oks
 have htl : (tookR r en).log.length ≤ 40 := by show (r.log ++ [en]).length ≤ 40;rw [List.length_append];simp;omega
 have HTO : Hid _ := hto
 have HTL : Hid _ := htl
 clear hto htl;go_wp2_with fail
 have DQ : Below V9.heap.size V9 V9.drew := (Below.refl _ _).drew
 replace X0 := X0.below DQ;replace c0 := X0.cell;replace X1 := X1.below DQ;replace c1 := X1.cell;replace X2 := X2.below DQ;replace c2 := X2.cell;replace f2 := X2.froz;replace X3 := X3.below DQ;replace c3 := X3.cell;replace f3 := X3.froz;replace B := below_next B DQ;clear DQ
 replace RT : RepAt V9.drew true z0 V9.heap.size h2 (tookR r en) := RT.below (Below.refl _ _).drew
 refine wp_region_held_drew (S := (fun w' => ∀ k : Nat, w'.cell? ⟨b0, k, none⟩ = [.int .i64 r.id, .int .i64 r.size, .int .i64 r.view, .bool r.normal, .int .i64 r.last, .slice h.L.1 h.L.2.1 h.L.2.2, .int .i64 r.commit, .slice h.O.1 h.O.2.1 h.O.2.2, .slice h.A.1 h.A.2.1 h.A.2.2, .slice h.D.1 h.D.2.1 h.D.2.2][k]?)) (by kernel_rfl) c0 (fun hZq => ?_)
 refine tk 0 hZq ?_;refine tk 1 hZq ?_;refine tk 2 hZq ?_
 refine rd1 3 (fun KK hKK => ?_)
 go_simp
 go_at_call 56
 refine (l9Agreed1_is 0 (tookR r en) h2 (none, 0, 0) b3 _ X3 RT LS LI HTL.out HTO.out).mono ?_;rintro e W9 ⟨rfl, rfl⟩;clear hZq
 refine hKK _ _ c0 (fun hZq => ?_)
 clear hKK KK
 refine rd1 4 (fun KK hKK => ?_)
 go_simp
 go_at_call 55
 refine (l1Max9_is r.commit (agrR (tookR r en)) _).mono ?_;rintro e W9 ⟨rfl, rfl⟩;rw [HAG0.out];clear hZq
 refine hKK _ _ c0 (fun hZq => ?_)
 clear hKK KK;refine tk 5 hZq ?_;refine tk 6 hZq ?_
 refine rd1 7 (fun KK hKK => ?_)
 refine step_oneX 2 X3 7 (.int .i64 ag) (by simp) (by kernel_rfl) rfl rfl rfl ?_
 intro V8 S
 have HV98 : V9.heap.size ≤ V8.heap.size := S.kept.size
 replace RT := RT.keptS (S.kept.toS (S := fun k => k = b3) (fun k k1 k2 => by omega)) (fun k hk e => NB (e ▸ hk))
 replace X0 := X0.kp S.kept;replace c0 := X0.cell;replace X1 := X1.kp S.kept;replace c1 := X1.cell;replace X2 := X2.kp S.kept;replace c2 := X2.cell;replace f2 := X2.froz
 replace X3 : Bx V8 b3 [.int .i64 0, .int .i64 (tookR r en).id, .int .i64 (tookR r en).size, .int .i64 (tookR r en).view, .bool (tookR r en).normal, .int .i64 (tookR r en).last, .slice h2.L.1 h2.L.2.1 h2.L.2.2, .int .i64 ag, .slice h2.O.1 h2.O.2.1 h2.O.2.2, .slice h2.A.1 h2.A.2.1 h2.A.2.2, .slice h2.D.1 h2.D.2.1 h2.D.2.2, .slice none 0 0] := S.bx
 replace c3 := X3.cell;replace f3 := X3.froz;replace B := bkp B S.kept;clear S;clear hZq
 refine hKK _ _ c0 (fun hZq => ?_)
 clear hKK KK
 refine wpAnyH_done (by kernel_rfl) ?_ _
 obtain ⟨qt, hqt⟩ : ∃ qt, takeQ r en = qt := ⟨_, rfl⟩
 have XT : Bx V8 b3 [.int .i64 0, .int .i64 qt.id, .int .i64 qt.size, .int .i64 qt.view, .bool qt.normal, .int .i64 qt.last, .slice h2.L.1 h2.L.2.1 h2.L.2.2, .int .i64 qt.commit, .slice h2.O.1 h2.O.2.1 h2.O.2.2, .slice h2.A.1 h2.A.2.1 h2.A.2.2, .slice h2.D.1 h2.D.2.1 h2.D.2.2, .slice none 0 0] := by
  rw [← hqt]
  show Bx V8 b3 [_, _, _, _, _, _, _, .int .i64 (agrM (tookR r en)), _, _, _, _]
  rw [HAG.out];exact X3
 have RQ : RepAt V8 true z0 V9.heap.size h2 qt := by rw [← hqt];exact ⟨RT.log, RT.oks, RT.asks, RT.doers, RT.sep⟩
 have q1 : Hid (qt.size = r.size) := by show _ = _;rw [← hqt];rfl
 have q2 : Hid (qt.id = r.id) := by show _ = _;rw [← hqt];rfl
 have q3 : Hid (qt.view = r.view) := by show _ = _;rw [← hqt];rfl
 have q4 : Hid (qt.log = r.log ++ [en]) := by show _ = _;rw [← hqt];rfl
 have HQT : Hid _ := hqt
 clear hqt RT X3 c3 f3;have X3 := XT;have c3 := X3.cell;have f3 := X3.froz;clear XT
 obtain ⟨m, hm⟩ : ∃ m : Nat, r.size = m := ⟨r.size.toNat, by omega⟩
 obtain ⟨i, hi0⟩ : ∃ i : Nat, r.id = i := ⟨r.id.toNat, by omega⟩
 have hm5 : m ≤ 5 := by omega
 obtain ⟨fT, hfT⟩ : ∃ fT : Int → Ml, fT = fun t => putM (prepM qt r.log.length) r.id t r.view := ⟨_, rfl⟩
 have HTM : Hid (takeM r en = (othL i m).map fT) := by show _ = _;unfold takeM;rw [hm, hi0, hfT, HQT.out, hi0];rfl
 have HI0 : Hid (∀ t, mlV (none, 0, 0) (fT t) = [.int .i64 1, .int .i64 i, .int .i64 t, .int .i64 r.view, .int .i64 h.L.2.1, .bool true, .int .i64 en.1, .int .i64 en.2.1, .int .i64 en.2.2.1, .int .i64 en.2.2.2.1, .int .i64 en.2.2.2.2.1, .int .i64 en.2.2.2.2.2, .int .i64 0, .slice none 0 0, .int .i64 qt.commit]) := fun t => by
  have e1 : r.log.length < qt.log.length := by rw [q4.out, List.length_append];simp
  have e2 : qt.log.getD r.log.length en0 = en := by rw [q4.out];simp [List.getD]
  have e3 : prepM qt r.log.length = ⟨1, 0, 0, 0, r.log.length, true, en, 0, [], qt.commit⟩ := by unfold prepM;rw [if_pos e1, e2]
  rw [hfT]
  show mlV _ (putM (prepM qt r.log.length) r.id t r.view) = _
  rw [e3];simp only [putM, mlV, hi0, HLL.out]
  rfl
 have HFL : Hid (∀ t, (fT t).log = []) := fun t => by
  rw [hfT]
  show (putM (prepM qt r.log.length) r.id t r.view).log = []
  unfold prepM
  split <;> rfl
 have HM : Hid _ := hm
 have HI : Hid _ := hi0
 rw [hm, hi0] at X0 c0;clear hm hi0 hfT
 have HX0 : Hid _ := X0
 have HX1 : Hid _ := X1
 have HX2 : Hid _ := X2
 have HX3 : Hid _ := X3
 have HB8 : Hid _ := B
 have HRQ : Hid _ := RQ
 have lt0 := X0.lt;have lt1 := X1.lt;have lt2 := X2.lt;have lt3 := X3.lt
 have HV89 : Hid (V9.heap.size ≤ V8.heap.size) := HV98
 clear X0 c0 X1 c1 X2 c2 f2 X3 c3 f3 B RQ;go_wp2
 go_loopw [9] (fun iv wr => ∃ (k : Nat) (s : Hd) (Km : Nat → Hd), k ≤ m ∧ iv = .int .i64 k ∧ Bx wr b3 [.int .i64 0, .int .i64 qt.id, .int .i64 qt.size, .int .i64 qt.view, .bool qt.normal, .int .i64 qt.last, .slice h2.L.1 h2.L.2.1 h2.L.2.2, .int .i64 qt.commit, .slice h2.O.1 h2.O.2.1 h2.O.2.2, .slice h2.A.1 h2.A.2.1 h2.A.2.2, .slice h2.D.1 h2.D.2.1 h2.D.2.2, .slice s.1 s.2.1 s.2.2] ∧ SentAt wr V8.heap.size (.slice s.1 s.2.1 s.2.2) Km ((othL i k).map fT) ∧ s.2.1 = (othL i k).length ∧ NilK Km (othL i k).length ∧ V8.heap.size ≤ wr.heap.size ∧ KeptS (fun q => q = b3 ∨ V8.heap.size ≤ q) V8 wr) (fun iv _ => m - (intOf iv).toNat)
 case atStart => exact ⟨0, (none, 0, 0), kd0, Nat.zero_le _, rfl, HX3.out, GrowAt.nil _ _ _ _ _ _ _, rfl, fun j hj => absurd hj (Nat.not_lt_zero _), Nat.le_refl _, KeptS.refl _ _⟩
 case round =>
  obtain ⟨k, s, Km, hk, rfl, X3, G, hsk, NK, LZ, KS⟩ := hrel
  have X0 := HX0.out.keptS KS (by omega)
  have X1 := HX1.out.keptS KS (by omega)
  have c0 := X0.cell;have c1 := X1.cell;have c3 := X3.cell;have f3 := X3.froz;clear HX3
  by_cases hlt : k < m
  ·have hlk : (k : Int) < (m : Int) := by omega
   have HO : Hid (othL i (k + 1) = if k = i then othL i k else othL i k ++ [(k : Int)]) := rfl
   have hll := othL_len i k
   have HG : Hid (GrowAt _ _ _ _ _ _ _ _ _) := G
   have HNK : Hid _ := NK
   have HLZ : Hid _ := LZ
   have HKS : Hid _ := KS
   have HSK : Hid _ := hsk
   have HX3 : Hid _ := X3
   clear G NK KS hsk
   by_cases q : k = i
   ·have q1' : ((k : Int) != (i : Int)) = false := by simp [q]
    have HO2 : Hid (othL i (k + 1) = othL i k) := by show _ = _;rw [HO.out, if_pos q]
    clear q HO X3;go_wp2
    go_roundw
    case rel => exact ⟨k + 1, s, Km, by omega, by go_num, HX3.out, by rw [HO2.out];exact HG.out, by rw [HO2.out];exact HSK.out, by rw [HO2.out];exact HNK.out, HLZ.out, HKS.out⟩
    case measure => simp [intOf];omega
   ·have q1' : ((k : Int) != (i : Int)) = true := by simp;omega
    have HO2 : Hid (othL i (k + 1) = othL i k ++ [(k : Int)]) := by show _ = _;rw [HO.out, if_neg q]
    clear q HO HX3
    go_upto_region 15 with (first | ((with_reducible refine so 33 X3 11 (.slice sa ((othL i k).length + 1) sc) ?_);intro V7 S;have HX7 : Hid (Bx V7 b3 [.int .i64 0, .int .i64 qt.id, .int .i64 qt.size, .int .i64 qt.view, .bool qt.normal, .int .i64 qt.last, .slice h2.L.1 h2.L.2.1 h2.L.2.2, .int .i64 qt.commit, .slice h2.O.1 h2.O.2.1 h2.O.2.2, .slice h2.A.1 h2.A.2.1 h2.A.2.2, .slice h2.D.1 h2.D.2.1 h2.D.2.2, .slice (sa, (othL i k).length + 1, sc).1 (sa, (othL i k).length + 1, sc).2.1 (sa, (othL i k).length + 1, sc).2.2]) := S.bx;have HG7 : Hid _ := GrowAt.kept HG2.out S.kept (by omega);have HK7 : Hid (KeptS (fun q => q = b3 ∨ V8.heap.size ≤ q) V8 V7) := HKT.out.trans (S.kept.toS fun q q1 q2 => Or.inl (by omega));have HS7 : Hid (V8.heap.size ≤ V7.heap.size) := Nat.le_trans HS4.out S.kept.size;clear S X0 X1 X3 c0 c1 c3 f3 HG2 HKT HS4) | (at_builtin;refine Lib.wpList_append_run _ rfl _ _ _ _ rfl _ _ rfl rfl _ _ (hr _) ?_;clear hr;replace X0 := Y0;clear Y0;replace c0 := X0.cell;replace X1 := Y1;clear Y1;replace c1 := X1.cell;replace X3 := Y3;clear Y3;replace c3 := X3.cell;replace f3 := X3.froz) | ((with_reducible refine lit_newX 33 1 _ [.int .i64 1, .int .i64 i, .int .i64 k, .int .i64 r.view, .int .i64 h.L.2.1, .bool true, .int .i64 en.1, .int .i64 en.2.1, .int .i64 en.2.2.1, .int .i64 en.2.2.2.1, .int .i64 en.2.2.2.2.1, .int .i64 en.2.2.2.2.2, .int .i64 0, .slice none 0 0, .int .i64 qt.commit] 96 (fun _ => by kernel_rfl) ?_);intro b4 W4 N4;replace X0 := N4.r X0;replace c0 := X0.cell;replace X1 := N4.r X1;replace c1 := X1.cell;replace X3 := N4.r X3;replace c3 := X3.cell;have XM : Bx W4 b4 (mlV (none, 0, 0) (fT k)) := (by rw [HI0.out];exact N4.bx);have B4 := N4.below;clear N4;obtain ⟨v', w4, hr, G2, KS, BB⟩ := sent_snoc (hd := (none, 0, 0)) (m := fT k) (HG.out.below B4) XM (by rw [HFL.out];exact RowAt.nilR _ _ _ _ _ _ _) (fun h0 => absurd rfl h0) (Nat.le_trans HLZ.out B4.size) (by simp;omega);obtain ⟨sa, sc, e9, _, _⟩ := owns_slice (GrowAt.own (G2 : GrowAt _ _ _ _ _ _ _ _ _));rw [show (((othL i k).map fT) ++ [fT k]).length = (othL i k).length + 1 by simp] at e9;subst e9;have HG2 : Hid (GrowAt _ _ _ _ _ _ _ _ _) := G2;have HKT : Hid (KeptS (fun q => q = b3 ∨ V8.heap.size ≤ q) V8 w4) := HKS.out.trans ((KeptS.below B4).trans (KS.mono fun q hq => Or.inr (HG.out.own.lt q hq).1));have Y0 := X0.keptS KS (fun q => by have := (HG.out.own.lt _ q).1;omega);have Y1 := X1.keptS KS (fun q => by have := (HG.out.own.lt _ q).1;omega);have Y3 := X3.keptS KS (fun q => by have := (HG.out.own.lt _ q).1;omega);have HS4 : Hid (V8.heap.size ≤ w4.heap.size) := Nat.le_trans HLZ.out (Nat.le_trans B4.size KS.size);clear G2 KS BB XM B4) | fail)
    have G3 : Hid (SentAt V7 V8.heap.size (.slice sa ((othL i k).length + 1) sc) (fun j => if j = (othL i k).length then (none, 0, 0) else Km j) ((othL i (k + 1)).map fT)) := by show SentAt _ _ _ _ _;rw [HO2.out, List.map_append];have := HG7.out;rw [show ((othL i k).map fT).length = (othL i k).length by simp] at this;exact this
    have NK2 : Hid (NilK (fun j => if j = (othL i k).length then ((none : Option Addr), 0, 0) else Km j) (othL i (k + 1)).length) := fun j hj => by
     rw [HO2.out, List.length_append] at hj
     by_cases e : j = (othL i k).length
     ·simp [e]
     ·simp only [if_neg e];exact HNK.out j (by simp at hj;omega)
    have e8 : Hid ((othL i k).length + 1 = (othL i (k + 1)).length) := by show _ = _;rw [HO2.out, List.length_append];rfl
    go_wp2
    go_roundw
    case rel => exact ⟨k + 1, (sa, (othL i k).length + 1, sc), (fun j => if j = (othL i k).length then (none, 0, 0) else Km j), by omega, by go_num, HX7.out, G3.out, e8.out, NK2.out, HS7.out, HK7.out⟩
    case measure => simp [intOf];omega
  ·obtain rfl : k = m := by omega
   have X2 := HX2.out.keptS KS (by omega)
   have c2 := X2.cell;have f2 := X2.froz
   have RQ := HRQ.out.keptS KS (fun q hq hs => hs.elim (fun e => NB (e ▸ hq)) (fun e => by have := HRQ.out.inB hq;have := HV89.out;omega))
   have B : Below w.heap.size w wr := HB8.out.trans (KS.low _ (fun q hq => hq.elim (fun e => by omega) (fun e => Nat.le_trans HB8.out.size e)) HB8.out.size)
   clear KS X1 c1 HX0 HX1 HX2;have hV := HV89.out
   have AN : AnsAt wr true z0 wr.heap.size h2 s Km qt ((othL i k).map fT) := ans_of RQ G hV (Nat.le_trans hV LZ) (by omega) rfl
   have hAN : wr.heap.size ≤ wr.heap.size := Nat.le_refl _
   have hol := othL_len i k
   have AZ : ASz h2 s Km 1048576 := ⟨Z2, by omega, fun j hj => by rw [NK j (by omega)];exact Nat.zero_le _⟩
   have EQ := HQT.out;have EM := HTM.out;rw [← EM] at AN;clear G NK hsk RQ hol
   go_wp2_with (first | ((with_reducible refine sm 65 X2 0 [.int .i64 0, .int .i64 qt.id, .int .i64 qt.size, .int .i64 qt.view, .bool qt.normal, .int .i64 qt.last, .slice h2.L.1 h2.L.2.1 h2.L.2.2, .int .i64 qt.commit, .slice h2.O.1 h2.O.2.1 h2.O.2.2, .slice h2.A.1 h2.A.2.1 h2.A.2.2, .slice h2.D.1 h2.D.2.1 h2.D.2.2, .slice s.1 s.2.1 s.2.2] ?_);intro V31 S;replace X0 := X0.kp S.kept;replace c0 := X0.cell;replace X2 : Bx V31 b2 [.int .i64 0, .int .i64 qt.id, .int .i64 qt.size, .int .i64 qt.view, .bool qt.normal, .int .i64 qt.last, .slice h2.L.1 h2.L.2.1 h2.L.2.2, .int .i64 qt.commit, .slice h2.O.1 h2.O.2.1 h2.O.2.2, .slice h2.A.1 h2.A.2.1 h2.A.2.2, .slice h2.D.1 h2.D.2.1 h2.D.2.2, .slice s.1 s.2.1 s.2.2] := S.bx;replace c2 := X2.cell;replace f2 := X2.froz;replace X3 := X3.kp S.kept;replace c3 := X3.cell;replace f3 := X3.froz;replace AN := AN.kept S.kept (by omega);replace hAN := Nat.le_trans hAN S.kept.size;replace B := bkp B S.kept;clear S))
   rw [← EQ] at AN
   refine bodyPost_ret (v := .agg #[.int .i64 0, .int .i64 qt.id, .int .i64 qt.size, .int .i64 qt.view, .bool qt.normal, .int .i64 qt.last, .slice h2.L.1 h2.L.2.1 h2.L.2.2, .int .i64 qt.commit, .slice h2.O.1 h2.O.2.1 h2.O.2.2, .slice h2.A.1 h2.A.2.1 h2.A.2.2, .slice h2.D.1 h2.D.2.1 h2.D.2.2, .slice s.1 s.2.1 s.2.2]) (by simp [results, Tryz.results23, go_sem, *]) rfl ?_
   rw [← EQ];exact ⟨_, _, h2, s, Km, rfl, B9, hAN, AN.ro, AZ, B⟩
end Go.Proofs.YtclghfoinologaaGreat
