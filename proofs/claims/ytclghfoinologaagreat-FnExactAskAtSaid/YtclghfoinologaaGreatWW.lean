/- Chapter 9: a MailPrepare is sent, by the program. -/
import Derived.Test.YtclghfoinologaaGreatWS
import Derived.OwnWalk
set_option maxRecDepth 20000
set_option maxHeartbeats 16000000
namespace Go.Proofs.YtclghfoinologaaGreat
open Go.RowKit
def prepM (r : Rep) (k : Nat) : Ml := if k < r.log.length then ⟨1, 0, 0, 0, k, true, r.log.getD k en0, 0, [], r.commit⟩ else ⟨1, 0, 0, 0, k, false, en0, 0, [], r.commit⟩
theorem sendPrepare_is {own : Bool} {lo hi : Nat} (r : Rep) (h : RH) (s : Hd) (tgt : Int) (k : Nat) (base b0 : Nat) (w : World) (Km : Nat → Hd) (ms : List Ml) (X0 : Bx w b0 [.int .i64 r.id, .int .i64 r.size, .int .i64 r.view, .bool r.normal, .int .i64 r.last, .slice h.L.1 h.L.2.1 h.L.2.2, .int .i64 r.commit, .slice h.O.1 h.O.2.1 h.O.2.2, .slice h.A.1 h.A.2.1 h.A.2.2, .slice h.D.1 h.D.2.1 h.D.2.2, .slice s.1 s.2.1 s.2.2]) (L5 : RowAt w own lo hi 6 h.L.1 h.L.2.1 h.L.2.2 (sixs r.log)) (G : SentAt w base (.slice s.1 s.2.1 s.2.2) Km ms) (hb : b0 < base) (hbase : base ≤ w.heap.size) (hn : ms.length ≤ 1000) :
  Calls Tryz.prog 105 #[.agg #[.pointer (some ⟨b0, 0, none⟩)], .int .i64 tgt, .int .i64 k] w fun e w' => ∃ s' : Hd, e = .returned (.tuple #[]) ∧ Bx w' b0 [.int .i64 r.id, .int .i64 r.size, .int .i64 r.view, .bool r.normal, .int .i64 r.last, .slice h.L.1 h.L.2.1 h.L.2.2, .int .i64 r.commit, .slice h.O.1 h.O.2.1 h.O.2.2, .slice h.A.1 h.A.2.1 h.A.2.2, .slice h.D.1 h.D.2.1 h.D.2.2, .slice s'.1 s'.2.1 s'.2.2] ∧ SentAt w' base (.slice s'.1 s'.2.1 s'.2.2) (fun j => if j = ms.length then (none, 0, 0) else Km j) (ms ++ [putM (prepM r k) r.id tgt r.view]) ∧ s'.2.1 = ms.length + 1 ∧ KeptS (fun k => k = b0 ∨ base ≤ k) w w' := by
 have hll := L5.nSixs;have c0 := X0.cell;have f0 := X0.froz;have ob0 := X0.lt
 have HG : Hid (GrowAt _ _ _ _ _ _ _ _ _) := G
 clear G
 go_enter Tryz.func105, Tryz.ntmps105
 go_upto_region 2 with (first | ((with_reducible refine sm 96 X2 0 [.int .i64 1, .int .i64 0, .int .i64 0, .int .i64 0, .int .i64 k, .bool false, .int .i64 0, .int .i64 0, .int .i64 0, .int .i64 0, .int .i64 0, .int .i64 0, .int .i64 0, .slice none 0 0, .int .i64 r.commit] ?_);intro V1 S;replace X0 := X0.kp S.kept;replace c0 := X0.cell;replace f0 := X0.froz;replace X1 := X1.kp S.kept;replace c1 := X1.cell;replace X2 : Bx V1 b2 [.int .i64 1, .int .i64 0, .int .i64 0, .int .i64 0, .int .i64 k, .bool false, .int .i64 0, .int .i64 0, .int .i64 0, .int .i64 0, .int .i64 0, .int .i64 0, .int .i64 0, .slice none 0 0, .int .i64 r.commit] := S.bx;replace c2 := X2.cell;replace f2 := X2.froz;replace B := bkp B S.kept;clear S) | ((have g := ob1);clear g;(with_reducible refine al 96 [.int .i64 0, .int .i64 0, .int .i64 0, .int .i64 0, .int .i64 0, .bool false, .int .i64 0, .int .i64 0, .int .i64 0, .int .i64 0, .int .i64 0, .int .i64 0, .int .i64 0, .slice none 0 0, .int .i64 0] ?_);intro b2 W2 N2;have ob2 := N2.o B;have o0_b2 := N2.u X0;have o1_b2 := N2.u X1;replace X0 := N2.r X0;replace c0 := X0.cell;replace f0 := X0.froz;replace X1 := N2.r X1;replace c1 := X1.cell;replace B := N2.n B;obtain ⟨X2, c2, f2⟩ := N2.a;clear N2) | ((have g := ob0);clear g;(with_reducible refine box_newX 112 [.pointer (some ⟨b0, 0, none⟩)] rfl ?_);intro b1 W1 N1;have ob1 := N1.ge;have o0_b1 := N1.u X0;replace X0 := N1.r X0;replace c0 := X0.cell;replace f0 := X0.froz;have B := N1.below;obtain ⟨X1, c1⟩ := N1.c;clear N1) | fail)
 by_cases hlt : k < h.L.2.1
 ·have hlk : (k : Int) < (h.L.2.1 : Int) := by omega
  obtain ⟨b, off, ea, _, _, hbl, e0, e1, e2, e3, e4, e5, _⟩ := (L5.below B).six hlt
  have HP : Hid (prepM r k = ⟨1, 0, 0, 0, k, true, r.log.getD k en0, 0, [], r.commit⟩) := by show _ = _;unfold prepM;rw [if_pos (by omega)]
  generalize r.log.getD k en0 = en at *
  have HX0 : Hid _ := X0
  rw [ea] at c0
  have hbw : b ≠ b2 := by have := (L5.inB (k := sb h.L.1) ⟨by omega, rfl⟩).2.2;rw [ea] at this;have e : sb (some (⟨b, off, none⟩ : Addr)) = b := rfl;omega
  go_wp2_with (first | ((with_reducible refine sm 43 X2 6 [.int .i64 en.1, .int .i64 en.2.1, .int .i64 en.2.2.1, .int .i64 en.2.2.2.1, .int .i64 en.2.2.2.2.1, .int .i64 en.2.2.2.2.2] ?_);intro V3 S;replace X0 := X0.kp S.kept;replace c0 := X0.cell;rw [ea] at c0;replace f0 := X0.froz;replace e0 := S.kept.cell e0 (by omega);replace e1 := S.kept.cell e1 (by omega);replace e2 := S.kept.cell e2 (by omega);replace e3 := S.kept.cell e3 (by omega);replace e4 := S.kept.cell e4 (by omega);replace e5 := S.kept.cell e5 (by omega);replace X1 := X1.kp S.kept;replace c1 := X1.cell;replace X2 : Bx V3 b2 [.int .i64 1, .int .i64 0, .int .i64 0, .int .i64 0, .int .i64 k, .bool true, .int .i64 en.1, .int .i64 en.2.1, .int .i64 en.2.2.1, .int .i64 en.2.2.2.1, .int .i64 en.2.2.2.2.1, .int .i64 en.2.2.2.2.2, .int .i64 0, .slice none 0 0, .int .i64 r.commit] := S.bx;replace c2 := X2.cell;replace f2 := X2.froz;replace B := bkp B S.kept;clear S) | ((with_reducible refine so 4 X2 5 (.bool true) ?_);intro V2 S;replace X0 := X0.kp S.kept;replace c0 := X0.cell;rw [ea] at c0;replace f0 := X0.froz;replace e0 := S.kept.cell e0 (by omega);replace e1 := S.kept.cell e1 (by omega);replace e2 := S.kept.cell e2 (by omega);replace e3 := S.kept.cell e3 (by omega);replace e4 := S.kept.cell e4 (by omega);replace e5 := S.kept.cell e5 (by omega);replace X1 := X1.kp S.kept;replace c1 := X1.cell;replace X2 : Bx V2 b2 [.int .i64 1, .int .i64 0, .int .i64 0, .int .i64 0, .int .i64 k, .bool true, .int .i64 0, .int .i64 0, .int .i64 0, .int .i64 0, .int .i64 0, .int .i64 0, .int .i64 0, .slice none 0 0, .int .i64 r.commit] := S.bx;replace c2 := X2.cell;replace f2 := X2.froz;replace B := bkp B S.kept;clear S) | fail)
  refine (send_is r h s tgt ⟨1, 0, 0, 0, k, true, en, 0, [], r.commit⟩ (none, 0, 0) base b0 _ Km ms X0 (HG.out.below B) (RowAt.nilR _ _ _ _ _ _ _) (fun h0 => absurd rfl h0) hb (Nat.le_trans hbase B.size) hn).mono ?_
  rintro e w2 ⟨s', rfl, X2', G2, hs2, KS2⟩
  have K9 : Hid (KeptS (fun q => q = b0 ∨ base ≤ q) w w2) := (KeptS.below B).trans KS2
  have H1 : Hid _ := X2'
  have H2 : Hid _ := G2
  clear X2' G2 KS2 X0 X1 X2 c0 c1 c2 f0 f2;go_wp2
  refine bodyPost_end (v := .tuple #[]) (by simp [results, Tryz.results105, go_sem]) rfl ⟨s', rfl, H1.out, ?_, hs2, K9.out⟩
  rw [HP.out];exact H2.out
 ·have hlk : ¬ (k : Int) < (h.L.2.1 : Int) := by omega
  have HP : Hid (prepM r k = ⟨1, 0, 0, 0, k, false, en0, 0, [], r.commit⟩) := by show _ = _;unfold prepM;rw [if_neg (by omega)]
  go_wp2_with fail
  refine (send_is r h s tgt ⟨1, 0, 0, 0, k, false, en0, 0, [], r.commit⟩ (none, 0, 0) base b0 _ Km ms X0 (HG.out.below B) (RowAt.nilR _ _ _ _ _ _ _) (fun h0 => absurd rfl h0) hb (Nat.le_trans hbase B.size) hn).mono ?_
  rintro e w2 ⟨s', rfl, X2', G2, hs2, KS2⟩
  have K9 : Hid (KeptS (fun q => q = b0 ∨ base ≤ q) w w2) := (KeptS.below B).trans KS2
  have H1 : Hid _ := X2'
  have H2 : Hid _ := G2
  clear X2' G2 KS2 X0 X1 X2 c0 c1 c2 f0 f2;go_wp2
  refine bodyPost_end (v := .tuple #[]) (by simp [results, Tryz.results105, go_sem]) rfl ⟨s', rfl, H1.out, ?_, hs2, K9.out⟩
  rw [HP.out];exact H2.out
def agrM (r : Rep) : Int := if agrR r ≤ r.commit then r.commit else agrR r
def agrC (r : Rep) : Rep := ⟨r.id, r.size, r.view, r.normal, r.last, r.log, agrM r, r.oks, r.asks, r.doers⟩
theorem agree_is {own : Bool} {lo hi : Nat} (r : Rep) (h : RH) (s : Hd) (b0 : Nat) (w : World) (X0 : Bx w b0 [.int .i64 r.id, .int .i64 r.size, .int .i64 r.view, .bool r.normal, .int .i64 r.last, .slice h.L.1 h.L.2.1 h.L.2.2, .int .i64 r.commit, .slice h.O.1 h.O.2.1 h.O.2.2, .slice h.A.1 h.A.2.1 h.A.2.2, .slice h.D.1 h.D.2.1 h.D.2.2, .slice s.1 s.2.1 s.2.2]) (x : RepAt w own lo hi h r) (hs : 1 ≤ r.size ∧ r.size ≤ 5) (hid : 0 ≤ r.id ∧ r.id ≤ r.size - 1) (hl : (r.oks.length : Int) = r.size) (ho : ∀ y ∈ r.oks, 0 ≤ y ∧ y ≤ (r.log.length : Int)) :
  Calls Tryz.prog 103 #[.agg #[.pointer (some ⟨b0, 0, none⟩)]] w fun e w' => e = .returned (.tuple #[]) ∧ Bx w' b0 [.int .i64 (agrC r).id, .int .i64 (agrC r).size, .int .i64 (agrC r).view, .bool (agrC r).normal, .int .i64 (agrC r).last, .slice h.L.1 h.L.2.1 h.L.2.2, .int .i64 (agrC r).commit, .slice h.O.1 h.O.2.1 h.O.2.2, .slice h.A.1 h.A.2.1 h.A.2.2, .slice h.D.1 h.D.2.1 h.D.2.2, .slice s.1 s.2.1 s.2.2] ∧ KeptS (fun k => k = b0) w w' := by
 have HO : Hid _ := ho
 have HL : Hid _ := hl
 have HM : Hid (agrM r = if agrR r ≤ r.commit then r.commit else agrR r) := rfl
 clear ho hl;have c0 := X0.cell;have f0 := X0.froz;have ob0 := X0.lt
 go_enter Tryz.func103, Tryz.ntmps103
 go_wp2_with (first | ((have g := ob0);clear g;(with_reducible refine box_newX 112 [.pointer (some ⟨b0, 0, none⟩)] rfl ?_);intro b1 W1 N1;have ob1 := N1.ge;have o0_b1 := N1.u X0;replace X0 := N1.r X0;replace c0 := X0.cell;replace f0 := X0.froz;have B := N1.below;obtain ⟨X1, c1⟩ := N1.c;clear N1) | fail)
 have D : Below W1.heap.size W1 W1.drew := (Below.refl _ _).drew
 have XD := X0.below D;have xD := x.below (below_next B D);have YD := X1.below D;have BD := below_next B D;clear D;obtain ⟨ag, hag⟩ : ∃ ag, agrR r = ag := ⟨_, rfl⟩;rw [hag] at HM
 have HAG : Hid _ := hag
 clear hag
 by_cases hmx : ag ≤ r.commit
 ·have HM2 : Hid (agrM r = r.commit) := by show _ = _;rw [HM.out, if_pos hmx]
  go_region_law (first | (go_simp;go_at_call 141;refine (agreed_is r h s b0 _ XD xD hs hid HL.out HO.out).mono ?_;rintro e w1 ⟨rfl, BB⟩;rw [HAG.out];have XN := XD.below BB;have cN := XN.cell;have fN := XN.froz;have YN := YD.below BB;have dN := YN.cell;have BN := below_next BD BB;clear BB))
  all_goals
   have X9 := XN.set 6 (by simp) (.int .i64 r.commit)
   have K9 := (KeptS.setCell (S := fun k => k = b0) (KeptS.below BN) (p := ⟨b0, 6, none⟩) rfl (.int .i64 r.commit))
   have HX9 : Hid _ := X9
   have HK9 : Hid _ := K9
   clear X9 K9 XN cN fN YN dN;go_wp2
   refine bodyPost_end (v := .tuple #[]) (by simp [results, Tryz.results103, go_sem]) rfl ⟨rfl, ?_, HK9.out⟩
   show Bx _ b0 [_, _, _, _, _, _, .int .i64 (agrM r), _, _, _, _]
   rw [HM2.out];exact HX9.out
 ·have HM2 : Hid (agrM r = ag) := by show _ = _;rw [HM.out, if_neg hmx]
  go_region_law (first | (go_simp;go_at_call 141;refine (agreed_is r h s b0 _ XD xD hs hid HL.out HO.out).mono ?_;rintro e w1 ⟨rfl, BB⟩;rw [HAG.out];have XN := XD.below BB;have cN := XN.cell;have fN := XN.froz;have YN := YD.below BB;have dN := YN.cell;have BN := below_next BD BB;clear BB))
  all_goals
   have X9 := XN.set 6 (by simp) (.int .i64 ag)
   have K9 := (KeptS.setCell (S := fun k => k = b0) (KeptS.below BN) (p := ⟨b0, 6, none⟩) rfl (.int .i64 ag))
   have HX9 : Hid _ := X9
   have HK9 : Hid _ := K9
   clear X9 K9 XN cN fN YN dN;go_wp2
   refine bodyPost_end (v := .tuple #[]) (by simp [results, Tryz.results103, go_sem]) rfl ⟨rfl, ?_, HK9.out⟩
   show Bx _ b0 [_, _, _, _, _, _, .int .i64 (agrM r), _, _, _, _]
   rw [HM2.out];exact HX9.out
structure OwnE (w : World) (z ue : Nat) (v : Value) (n : Nat) (xs : List En) : Prop where
 own : w.ownsRow z 43 6 v n (sixs xs)
 lt : ∀ g, v.ownBlock = some g → g < ue
theorem OwnE.below {w w' : World} {z ue : Nat} {v : Value} {n : Nat} {xs : List En} (h : OwnE w z ue v n xs) (hb : Below w.heap.size w w') : OwnE w' z ue v n xs := ⟨owns_below h.own hb, h.lt⟩
theorem OwnE.kept {w w' : World} {z ue : Nat} {v : Value} {n : Nat} {xs : List En} (h : OwnE w z ue v n xs) {l u : Nat} (hk : Kept l u w w') (hd : ue ≤ l ∨ u ≤ z) : OwnE w' z ue v n xs := by
 refine ⟨⟨h.own.1, ?_⟩, h.lt⟩
 rcases h.own.2 with q | ⟨g, cap, cur, hv, hg, hh, rest⟩
 ·exact .inl q
 ·have hlt : g < w.heap.size := by
   rcases Nat.lt_or_ge g w.heap.size with q | q
   ·exact q
   ·rw [Array.getElem?_eq_none q] at hh;cases hh
  have h2 := h.lt g (by rw [hv];rfl)
  exact .inr ⟨g, cap, cur, hv, hg, by rw [hk.block g hlt (by omega)];exact hh, rest⟩
theorem cloneE_o {o : Bool} {l u : Nat} (ab : Option Addr) (nb cb : Nat) (xs : List En) (w : World) (h : RowAt w o l u 6 ab nb cb (sixs xs)) (hn : nb ≤ 1048576) :
  Calls Tryz.prog 80 #[.slice ab nb cb] w fun e w' => ∃ ra rc z ue, e = .returned (.slice ra nb rc) ∧ w.heap.size ≤ z ∧ ue ≤ w'.heap.size ∧ OwnE w' z ue (.slice ra nb rc) nb xs ∧ Below w.heap.size w w' := by
 obtain ⟨j0, hj0, hy0, hy1, hy2⟩ := info_parts Tryz.infoEntry
 have hq : ∀ W, (binOp .eql 34 (.slice ab nb cb) (.slice none 0 0)).run Tryz.prog W = .ok (.bool ab.isNone) W := fun W => Lib.run_eql_slice_nil W _ _ ab nb cb 0 0 Tryz.underlying34
 cases ab with
 | none =>
  simp only [Option.isNone_none] at hq
  have hz : nb = 0 := Decidable.byContradiction fun hne => by obtain ⟨_, _, e, _⟩ := h.cells hne;cases e
  subst hz
  have hbs : sixs xs = [] := List.eq_nil_of_length_eq_zero (by have := h.len;omega)
  go_enter Tryz.func80, Tryz.ntmps80
  go_wp2;go_ret
  exact ⟨none, 0, _, _, rfl, Nat.le_refl _, Nat.le_refl _, ⟨by rw [hbs];exact World.ownsRow_nil _ _ _ _, fun g hg => by cases hg⟩, Below.refl _ _⟩
 | some ad =>
  simp only [Option.isNone_some] at hq
  have B3 : Below w.heap.size w (w.alloc (.cells #[] 43)) := (Below.refl _ _).alloc (Nat.le_refl _) _
  have O3 : (w.alloc (.cells #[] 43)).ownsRow w.heap.size 43 6 (.slice (some ⟨w.heap.size, 0, none⟩) 0 0) 0 [] := World.ownsRow_made w #[] 0 (Nat.le_refl _) (Nat.zero_le _) rfl
  have hsrc : ∀ j u, (sixs xs)[j]? = some u → (w.alloc (.cells #[] 43)).cell? (ad.add j) = some u := fun j u hj => by
   have hjl : j < (sixs xs).length := (List.getElem?_eq_some_iff.1 hj).1
   have hl := h.len
   obtain ⟨b, off, e, _, _, _, hc, _⟩ := (h.below B3).cells (by omega)
   obtain rfl : ad = ⟨b, off, none⟩ := by simpa using e
   rw [Addr.add_lit, hc j (by omega), List.getD_eq_getElem?_getD, hj];rfl
  go_enter Tryz.func80, Tryz.ntmps80
  go_wp2_with (at_builtin;refine wpList_append_own _ rfl _ _ 34 rfl w.heap.size 43 j0 _ 6 48 Tryz.underlying34 hj0 hy0 hy1 hy2 rfl (by decide) _ 0 [] rfl O3 ad nb cb (sixs xs) rfl h.len hsrc (sixs_oneX xs) (by unfold maxLen;omega) (by omega) (by simp) ?_;intro v2 w1 hown1 hg1 _)
  rw [List.nil_append, Nat.zero_add] at hown1
  have hg2 : (w.alloc (.cells #[] 43)).grownBy w1 (some w.heap.size) := hg1
  have BB := B3.trans (grown_below hg2 B3.size (fun k hk => by injection hk with hk;omega))
  obtain ⟨ra, rc, e9, _, _⟩ := owns_slice hown1
  subst e9
  have HO : Hid _ := hown1
  have HL : Hid (∀ g, (Value.slice ra nb rc).ownBlock = some g → g < w1.heap.size) := fun g hg => (hown1.lt g hg).2
  clear hown1 hg1 hg2;go_wp2;go_ret;exact ⟨ra, rc, _, _, rfl, Nat.le_refl _, Nat.le_refl _, ⟨HO.out, HL.out⟩, BB⟩
theorem OwnE.row {w : World} {z ue : Nat} {ra : Option Addr} {n rc : Nat} {xs : List En} (h : OwnE w z ue (.slice ra n rc) n xs) : RowAt w true z ue 6 ra n rc (sixs xs) := by
 obtain ⟨ao, cap, e, R, hb⟩ := owns_slice h.own
 simp only [Value.slice.injEq] at e
 obtain ⟨rfl, -, rfl⟩ := e
 refine ⟨R.len, R.le, fun hn => ?_⟩
 obtain ⟨b, off, e, h1, _, h3, h4⟩ := R.cells hn
 have := h.lt b (by rw [hb hn, e];rfl)
 exact ⟨b, off, e, h1, this, h3, h4⟩
theorem copyReplica_o {own : Bool} {lo hi : Nat} (r : Rep) (h : RH) (w : World) (x : RepAt w own lo hi h r) (hs : RSz h 1048576) :
  Calls Tryz.prog 118 #[.agg #[.int .i64 r.id, .int .i64 r.size, .int .i64 r.view, .bool r.normal, .int .i64 r.last, .slice h.L.1 h.L.2.1 h.L.2.2, .int .i64 r.commit, .slice h.O.1 h.O.2.1 h.O.2.2, .slice h.A.1 h.A.2.1 h.A.2.2, .slice h.D.1 h.D.2.1 h.D.2.2]] w fun e w' => ∃ (z ue zl ul : Nat) (h' : RH), e = .returned (.agg #[.int .i64 r.id, .int .i64 r.size, .int .i64 r.view, .bool r.normal, .int .i64 r.last, .slice h'.L.1 h'.L.2.1 h'.L.2.2, .int .i64 r.commit, .slice h'.O.1 h'.O.2.1 h'.O.2.2, .slice h'.A.1 h'.A.2.1 h'.A.2.2, .slice h'.D.1 h'.D.2.1 h'.D.2.2]) ∧ w.heap.size ≤ z ∧ ue ≤ w'.heap.size ∧ RepAt w' true z ue h' r ∧ RSz h' 1048576 ∧ OwnE w' zl ul (.slice h'.L.1 h'.L.2.1 h'.L.2.2) h'.L.2.1 r.log ∧ z ≤ zl ∧ ul ≤ ue ∧ (∀ k, hR h'.O k ∨ hR h'.A k ∨ inE h'.D.1 h'.D.2.1 h'.K k → ul ≤ k) ∧ Below w.heap.size w w' := by
 have HS : Hid (∀ i, i < h.D.2.1 → (h.K i).2.1 ≤ 1048576) := hs.K
 go_enter Tryz.func118, Tryz.ntmps118
 go_wp2_with (first | ((have g := ob0);clear g;(with_reducible refine al 63 [.int .i64 0, .int .i64 0, .int .i64 0, .bool false, .int .i64 0, .slice none 0 0, .int .i64 0, .slice none 0 0, .slice none 0 0, .slice none 0 0] ?_);intro b1 W1 N1;have ob1 := N1.o B;have o0_b1 := N1.u X0;replace X0 := N1.r X0;replace c0 := X0.cell;replace f0 := X0.froz;replace B := N1.n B;obtain ⟨X1, c1, f1⟩ := N1.a;clear N1) | ((with_reducible refine box_newX 63 [.int .i64 r.id, .int .i64 r.size, .int .i64 r.view, .bool r.normal, .int .i64 r.last, .slice h.L.1 h.L.2.1 h.L.2.2, .int .i64 r.commit, .slice h.O.1 h.O.2.1 h.O.2.2, .slice h.A.1 h.A.2.1 h.A.2.2, .slice h.D.1 h.D.2.1 h.D.2.2] rfl ?_);intro b0 W0 N0;have ob0 := N0.ge;have B := N0.below;obtain ⟨X0, c0, f0⟩ := N0.a;clear N0) | fail)
 refine (cloneE_o _ _ _ r.log _ (by exact x.log.below B) hs.L).mono ?_
 rintro e w5 ⟨ra5, rc5, z5, ue5, rfl, Gz5, hR5, R5, BB⟩;have oz5 := Nat.le_trans B.size Gz5;have o0_z5 := ltl X0.lt Gz5;have o1_z5 := ltl X1.lt Gz5;clear Gz5;replace X0 := X0.below BB;replace c0 := X0.cell;replace f0 := X0.froz;replace X1 := X1.below BB;replace c1 := X1.cell;replace f1 := X1.froz;replace B := below_next B BB;clear BB
 go_wp2_with (first | ((with_reducible refine so 34 X0 5 (.slice ra5 h.L.2.1 rc5) ?_);intro V1 S;replace X0 : Bx V1 b0 [.int .i64 r.id, .int .i64 r.size, .int .i64 r.view, .bool r.normal, .int .i64 r.last, .slice ra5 h.L.2.1 rc5, .int .i64 r.commit, .slice h.O.1 h.O.2.1 h.O.2.2, .slice h.A.1 h.A.2.1 h.A.2.2, .slice h.D.1 h.D.2.1 h.D.2.2] := S.bx;replace c0 := X0.cell;replace f0 := X0.froz;replace X1 := X1.kp S.kept;replace c1 := X1.cell;replace f1 := X1.froz;replace R5 := R5.kept S.kept (by omega);replace hR5 := Nat.le_trans hR5 S.kept.size;replace B := bkp B S.kept;clear S) | fail)
 refine (cloneI_z _ _ _ r.oks _ (by exact x.oks.below B) hs.O).mono ?_
 rintro e w7 ⟨ra7, rc7, z7, ue7, rfl, Gz7, _, hR7, R7, BB⟩;have oz7 := Nat.le_trans B.size Gz7;have o0_z7 := ltl X0.lt Gz7;have o1_z7 := ltl X1.lt Gz7;have oR5_z7 := Nat.le_trans hR5 Gz7;clear Gz7;replace X0 := X0.below BB;replace c0 := X0.cell;replace f0 := X0.froz;replace X1 := X1.below BB;replace c1 := X1.cell;replace f1 := X1.froz;replace R5 := R5.below BB;replace hR5 := Nat.le_trans hR5 BB.size;replace B := below_next B BB;clear BB
 go_wp2_with (first | ((with_reducible refine so 59 X0 7 (.slice ra7 h.O.2.1 rc7) ?_);intro V2 S;replace X0 : Bx V2 b0 [.int .i64 r.id, .int .i64 r.size, .int .i64 r.view, .bool r.normal, .int .i64 r.last, .slice ra5 h.L.2.1 rc5, .int .i64 r.commit, .slice ra7 h.O.2.1 rc7, .slice h.A.1 h.A.2.1 h.A.2.2, .slice h.D.1 h.D.2.1 h.D.2.2] := S.bx;replace c0 := X0.cell;replace f0 := X0.froz;replace X1 := X1.kp S.kept;replace c1 := X1.cell;replace f1 := X1.froz;replace R5 := R5.kept S.kept (by omega);replace hR5 := Nat.le_trans hR5 S.kept.size;replace R7 := R7.kept S.kept (by omega);replace hR7 := Nat.le_trans hR7 S.kept.size;replace B := bkp B S.kept;clear S) | fail)
 refine (cloneB_z _ _ _ r.asks _ (by exact x.asks.below B) hs.A).mono ?_
 rintro e w8 ⟨ra8, rc8, z8, ue8, rfl, Gz8, _, hR8, R8, BB⟩;have oz8 := Nat.le_trans B.size Gz8;have o0_z8 := ltl X0.lt Gz8;have o1_z8 := ltl X1.lt Gz8;have oR5_z8 := Nat.le_trans hR5 Gz8;have oR7_z8 := Nat.le_trans hR7 Gz8;clear Gz8;replace X0 := X0.below BB;replace c0 := X0.cell;replace f0 := X0.froz;replace X1 := X1.below BB;replace c1 := X1.cell;replace f1 := X1.froz;replace R5 := R5.below BB;replace hR5 := Nat.le_trans hR5 BB.size;replace R7 := R7.below BB;replace hR7 := Nat.le_trans hR7 BB.size;replace B := below_next B BB;clear BB
 go_wp2_with (first | ((with_reducible refine so 60 X0 8 (.slice ra8 h.A.2.1 rc8) ?_);intro V3 S;replace X0 : Bx V3 b0 [.int .i64 r.id, .int .i64 r.size, .int .i64 r.view, .bool r.normal, .int .i64 r.last, .slice ra5 h.L.2.1 rc5, .int .i64 r.commit, .slice ra7 h.O.2.1 rc7, .slice ra8 h.A.2.1 rc8, .slice h.D.1 h.D.2.1 h.D.2.2] := S.bx;replace c0 := X0.cell;replace f0 := X0.froz;replace X1 := X1.kp S.kept;replace c1 := X1.cell;replace f1 := X1.froz;replace R5 := R5.kept S.kept (by omega);replace hR5 := Nat.le_trans hR5 S.kept.size;replace R7 := R7.kept S.kept (by omega);replace hR7 := Nat.le_trans hR7 S.kept.size;replace R8 := R8.kept S.kept (by omega);replace hR8 := Nat.le_trans hR8 S.kept.size;replace B := bkp B S.kept;clear S) | fail)
 refine (copyDoers_z _ _ _ h.K r.doers _ (by exact x.doers.below B) hs.D HS.out).mono ?_
 rintro e w9 ⟨ra9, rc9, z9, ue9, K', rfl, Gz9, hR9, R9, HK, BB⟩
 have HK' : Hid _ := HK
 clear HK;have oz9 := Nat.le_trans B.size Gz9;have o0_z9 := ltl X0.lt Gz9;have o1_z9 := ltl X1.lt Gz9;have oR5_z9 := Nat.le_trans hR5 Gz9;have oR7_z9 := Nat.le_trans hR7 Gz9;have oR8_z9 := Nat.le_trans hR8 Gz9;clear Gz9;replace X0 := X0.below BB;replace c0 := X0.cell;replace f0 := X0.froz;replace X1 := X1.below BB;replace c1 := X1.cell;replace f1 := X1.froz;replace R5 := R5.below BB;replace hR5 := Nat.le_trans hR5 BB.size;replace R7 := R7.below BB;replace hR7 := Nat.le_trans hR7 BB.size;replace R8 := R8.below BB;replace hR8 := Nat.le_trans hR8 BB.size;replace B := below_next B BB;clear BB
 go_wp2_with (first | ((with_reducible refine sm 63 X1 0 [.int .i64 r.id, .int .i64 r.size, .int .i64 r.view, .bool r.normal, .int .i64 r.last, .slice ra5 h.L.2.1 rc5, .int .i64 r.commit, .slice ra7 h.O.2.1 rc7, .slice ra8 h.A.2.1 rc8, .slice ra9 h.D.2.1 rc9] ?_);intro V5 S;replace X0 := X0.kp S.kept;replace c0 := X0.cell;replace f0 := X0.froz;replace X1 : Bx V5 b1 [.int .i64 r.id, .int .i64 r.size, .int .i64 r.view, .bool r.normal, .int .i64 r.last, .slice ra5 h.L.2.1 rc5, .int .i64 r.commit, .slice ra7 h.O.2.1 rc7, .slice ra8 h.A.2.1 rc8, .slice ra9 h.D.2.1 rc9] := S.bx;replace c1 := X1.cell;replace f1 := X1.froz;replace R5 := R5.kept S.kept (by omega);replace hR5 := Nat.le_trans hR5 S.kept.size;replace R7 := R7.kept S.kept (by omega);replace hR7 := Nat.le_trans hR7 S.kept.size;replace R8 := R8.kept S.kept (by omega);replace hR8 := Nat.le_trans hR8 S.kept.size;replace R9 := R9.kept S.kept (by omega);replace hR9 := Nat.le_trans hR9 S.kept.size;replace B := bkp B S.kept;clear S) | ((with_reducible refine so 61 X0 9 (.slice ra9 h.D.2.1 rc9) ?_);intro V4 S;replace X0 : Bx V4 b0 [.int .i64 r.id, .int .i64 r.size, .int .i64 r.view, .bool r.normal, .int .i64 r.last, .slice ra5 h.L.2.1 rc5, .int .i64 r.commit, .slice ra7 h.O.2.1 rc7, .slice ra8 h.A.2.1 rc8, .slice ra9 h.D.2.1 rc9] := S.bx;replace c0 := X0.cell;replace f0 := X0.froz;replace X1 := X1.kp S.kept;replace c1 := X1.cell;replace f1 := X1.froz;replace R5 := R5.kept S.kept (by omega);replace hR5 := Nat.le_trans hR5 S.kept.size;replace R7 := R7.kept S.kept (by omega);replace hR7 := Nat.le_trans hR7 S.kept.size;replace R8 := R8.kept S.kept (by omega);replace hR8 := Nat.le_trans hR8 S.kept.size;replace R9 := R9.kept S.kept (by omega);replace hR9 := Nat.le_trans hR9 S.kept.size;replace B := bkp B S.kept;clear S))
 have RL : RowAt V5 true z5 ue5 6 ra5 h.L.2.1 rc5 (sixs r.log) := OwnE.row R5
 refine bodyPost_ret (v := .agg #[.int .i64 r.id, .int .i64 r.size, .int .i64 r.view, .bool r.normal, .int .i64 r.last, .slice ra5 h.L.2.1 rc5, .int .i64 r.commit, .slice ra7 h.O.2.1 rc7, .slice ra8 h.A.2.1 rc8, .slice ra9 h.D.2.1 rc9]) (by simp [results, Tryz.results118, go_sem, *]) rfl ⟨w.heap.size, V5.heap.size, z5, ue5, ⟨(ra5, h.L.2.1, rc5), (ra7, h.O.2.1, rc7), (ra8, h.A.2.1, rc8), (ra9, h.D.2.1, rc9), K'⟩, rfl, Nat.le_refl _, Nat.le_refl _, ?_, ?_, R5, oz5, hR5, fun k hk => ?_, B⟩
 ·exact repAt_ofZ RL R7 R8 R9 ⟨by omega, by omega⟩ ⟨by omega, by omega⟩ ⟨by omega, by omega⟩ ⟨by omega, by omega⟩ (by omega) (by omega) (by omega) (by omega) (by omega) (by omega)
 ·exact ⟨hs.L, hs.O, hs.A, hs.D, fun i hi => by rw [HK'.out i hi];exact HS.out i hi⟩
 ·rcases hk with q | q | q
  ·have := R7.inB q;omega
  ·have := R8.inB q;omega
  ·have := R9.els.inB q;omega
theorem nodeOf_o {own : Bool} {lo hi : Nat} (r : Rep) (h : RH) (w : World) (x : RepAt w own lo hi h r) (hs : RSz h 1048576) :
  Calls Tryz.prog 102 #[.agg #[.int .i64 r.id, .int .i64 r.size, .int .i64 r.view, .bool r.normal, .int .i64 r.last, .slice h.L.1 h.L.2.1 h.L.2.2, .int .i64 r.commit, .slice h.O.1 h.O.2.1 h.O.2.2, .slice h.A.1 h.A.2.1 h.A.2.2, .slice h.D.1 h.D.2.1 h.D.2.2]] w fun e w' => ∃ (bq z ue zl ul : Nat) (h' : RH), e = .returned (.pointer (some ⟨bq, 0, none⟩)) ∧ w.heap.size ≤ z ∧ ue ≤ bq ∧ w.heap.size ≤ bq ∧ Bx w' bq [.int .i64 r.id, .int .i64 r.size, .int .i64 r.view, .bool r.normal, .int .i64 r.last, .slice h'.L.1 h'.L.2.1 h'.L.2.2, .int .i64 r.commit, .slice h'.O.1 h'.O.2.1 h'.O.2.2, .slice h'.A.1 h'.A.2.1 h'.A.2.2, .slice h'.D.1 h'.D.2.1 h'.D.2.2, .slice none 0 0] ∧ RepAt w' true z ue h' r ∧ RSz h' 1048576 ∧ OwnE w' zl ul (.slice h'.L.1 h'.L.2.1 h'.L.2.2) h'.L.2.1 r.log ∧ z ≤ zl ∧ ul ≤ ue ∧ (∀ k, hR h'.O k ∨ hR h'.A k ∨ inE h'.D.1 h'.D.2.1 h'.K k → ul ≤ k) ∧ Below w.heap.size w w' := by
 go_enter Tryz.func102, Tryz.ntmps102
 go_wp2_with (first | ((with_reducible refine box_newX 63 [.int .i64 r.id, .int .i64 r.size, .int .i64 r.view, .bool r.normal, .int .i64 r.last, .slice h.L.1 h.L.2.1 h.L.2.2, .int .i64 r.commit, .slice h.O.1 h.O.2.1 h.O.2.2, .slice h.A.1 h.A.2.1 h.A.2.2, .slice h.D.1 h.D.2.1 h.D.2.2] rfl ?_);intro b0 W0 N0;have ob0 := N0.ge;have B := N0.below;obtain ⟨X0, c0⟩ := N0.c;clear N0) | fail)
 refine (copyReplica_o r h _ (x.below B) hs).mono ?_;rintro e w1 ⟨z, ue, zl, ul, h', rfl, Gz, hR, R, HZ, OL, oz1, ou1, SPL, BB⟩;have oz := Nat.le_trans B.size Gz;have o0_z := ltl X0.lt Gz;clear Gz;replace X0 := X0.below BB;replace c0 := X0.cell;replace B := below_next B BB;clear BB
 have SPL : Hid _ := SPL
 go_wp2_with (first | ((have g := ob0);clear g;(with_reducible refine box_newX 147 [.int .i64 r.id, .int .i64 r.size, .int .i64 r.view, .bool r.normal, .int .i64 r.last, .slice h'.L.1 h'.L.2.1 h'.L.2.2, .int .i64 r.commit, .slice h'.O.1 h'.O.2.1 h'.O.2.2, .slice h'.A.1 h'.A.2.1 h'.A.2.2, .slice h'.D.1 h'.D.2.1 h'.D.2.2, .slice none 0 0] rfl ?_);intro b1 W1 N1;have ob1 := N1.o B;have o0_b1 := N1.u X0;have oR_b1 := Nat.le_trans hR N1.ge;replace X0 := N1.r X0;replace c0 := X0.cell;replace OL := OL.below N1.below;replace R := R.below N1.below;replace hR := Nat.le_trans hR N1.below.size;replace B := N1.n B;obtain ⟨X1, c1⟩ := N1.c;clear N1))
 go_ret;exact ⟨b1, z, ue, zl, ul, h', rfl, oz, oR_b1, ob1, X1, R, HZ, OL, oz1, ou1, SPL.out, B⟩
theorem primaryFor_o {own : Bool} {lo hi : Nat} (r : Rep) (h : RH) (w : World) (x : RepAt w own lo hi h r) (hs : RSz h 1048576) :
  Calls Tryz.prog 63 #[.agg #[.int .i64 r.id, .int .i64 r.size, .int .i64 r.view, .bool r.normal, .int .i64 r.last, .slice h.L.1 h.L.2.1 h.L.2.2, .int .i64 r.commit, .slice h.O.1 h.O.2.1 h.O.2.2, .slice h.A.1 h.A.2.1 h.A.2.2, .slice h.D.1 h.D.2.1 h.D.2.2]] w fun e w' => ∃ (bq z ue zl ul : Nat) (h' : RH), e = .returned (.agg #[.pointer (some ⟨bq, 0, none⟩)]) ∧ w.heap.size ≤ z ∧ ue ≤ bq ∧ w.heap.size ≤ bq ∧ Bx w' bq [.int .i64 r.id, .int .i64 r.size, .int .i64 r.view, .bool r.normal, .int .i64 r.last, .slice h'.L.1 h'.L.2.1 h'.L.2.2, .int .i64 r.commit, .slice h'.O.1 h'.O.2.1 h'.O.2.2, .slice h'.A.1 h'.A.2.1 h'.A.2.2, .slice h'.D.1 h'.D.2.1 h'.D.2.2, .slice none 0 0] ∧ RepAt w' true z ue h' r ∧ RSz h' 1048576 ∧ OwnE w' zl ul (.slice h'.L.1 h'.L.2.1 h'.L.2.2) h'.L.2.1 r.log ∧ z ≤ zl ∧ ul ≤ ue ∧ (∀ k, hR h'.O k ∨ hR h'.A k ∨ inE h'.D.1 h'.D.2.1 h'.K k → ul ≤ k) ∧ Below w.heap.size w w' := by
 go_enter Tryz.func63, Tryz.ntmps63
 go_wp2_with (first | ((have g := ob0);clear g;(with_reducible refine al 112 [.pointer none] ?_);intro b1 W1 N1;have ob1 := N1.o B;have o0_b1 := N1.u X0;replace X0 := N1.r X0;replace c0 := X0.cell;replace B := N1.n B;obtain ⟨X1, c1, f1⟩ := N1.a;clear N1) | ((with_reducible refine box_newX 63 [.int .i64 r.id, .int .i64 r.size, .int .i64 r.view, .bool r.normal, .int .i64 r.last, .slice h.L.1 h.L.2.1 h.L.2.2, .int .i64 r.commit, .slice h.O.1 h.O.2.1 h.O.2.2, .slice h.A.1 h.A.2.1 h.A.2.2, .slice h.D.1 h.D.2.1 h.D.2.2] rfl ?_);intro b0 W0 N0;have ob0 := N0.ge;have B := N0.below;obtain ⟨X0, c0⟩ := N0.c;clear N0) | fail)
 refine (nodeOf_o r h _ (x.below B) hs).mono ?_;rintro e w1 ⟨bq, z, ue, zl, ul, h', rfl, Gz, uq, Gq, XQ, R, HZ, OL, oz1, ou1, SPL, BB⟩
 have SPL : Hid _ := SPL
 have oz := Nat.le_trans B.size Gz;have oq := Nat.le_trans B.size Gq;have o1_z := ltl X1.lt Gz;have o1_q := ltl X1.lt Gq;clear Gz Gq;replace X0 := X0.below BB;replace c0 := X0.cell;replace X1 := X1.below BB;replace c1 := X1.cell;replace f1 := X1.froz;replace B := below_next B BB;clear BB
 go_wp2_with (first | ((with_reducible refine sm 112 X1 0 [.pointer (some ⟨bq, 0, none⟩)] ?_);intro V1 S;replace X1 : Bx V1 b1 [.pointer (some ⟨bq, 0, none⟩)] := S.bx;replace c1 := X1.cell;replace R := R.kept S.kept (by omega);replace OL := OL.kept S.kept (by omega);replace XQ := XQ.kept S.kept (by omega);replace B := bkp B S.kept;clear S))
 refine bodyPost_ret (v := .agg #[.pointer (some ⟨bq, 0, none⟩)]) (by simp [results, Tryz.results63, go_sem, *]) rfl ⟨bq, z, ue, zl, ul, h', rfl, oz, uq, oq, XQ, R, HZ, OL, oz1, ou1, SPL.out, B⟩
def enC (en : En) : List Value := [.int .i64 en.1, .int .i64 en.2.1, .int .i64 en.2.2.1, .int .i64 en.2.2.2.1, .int .i64 en.2.2.2.2.1, .int .i64 en.2.2.2.2.2]
theorem sixs_snoc (xs : List En) (en : En) : sixs (xs ++ [en]) = sixs xs ++ enC en := by
 rw [sixs_flat, sixs_flat, List.length_append]
 have : xs.length + [en].length = xs.length + 1 := rfl
 rw [this, flatF_snoc]
 congr 1
 ·exact flatF_congr fun i j hi _ => by rw [show (xs ++ [en]).getD i en0 = xs.getD i en0 by simp [List.getD, List.getElem?_append_left hi]]
 ·rw [show (xs ++ [en]).getD xs.length en0 = en by simp [List.getD]]
  simp [List.range_succ, enF, enC]
theorem log_snoc {W : World} {zl ul b1 n : Nat} {v : Value} {xs : List En} {en : En} (G : OwnE W zl ul v n xs) (X1 : Bx W b1 (enC en)) (hbase : zl ≤ W.heap.size) (hn : n ≤ 1000) :
  ∃ v' w', (∀ ty, (Builtin.append_ #[34, 34] ty #[v, .slice (some ⟨b1, 0, none⟩) 1 1]).run Tryz.prog W = .ok v' w') ∧ OwnE w' zl w'.heap.size v' (n + 1) (xs ++ [en]) ∧ KeptS (fun k => v.ownBlock = some k) W w' ∧ (v'.ownBlock = v.ownBlock ∨ v'.ownBlock = some W.heap.size) ∧ ∃ sa sc, v' = .slice sa (n + 1) sc := by
 obtain ⟨i2, hi2, ha2, hb2, hc2⟩ := info_parts Tryz.infoEntry
 have hsrc : ∀ j u, (enC en)[j]? = some u → W.cell? ((⟨b1, 0, none⟩ : Addr).add j) = some u := fun j u hj => by rw [Addr.add_lit, Nat.zero_add, X1.cell j];exact hj
 have A := fun ty => run_append_own_at (P := Tryz.prog) W zl 34 ty 43 i2 (.agg #[.int .i64 0, .int .i64 0, .int .i64 0, .int .i64 0, .int .i64 0, .int .i64 0]) 6 48 Tryz.underlying34 hi2 ha2 hb2 hc2 rfl (by omega) v n _ G.own ⟨b1, 0, none⟩ 1 1 (enC en) (by simp [enC]) hsrc (by simp [enC, Value.oneCell']) (by unfold maxLen;omega) (by omega) hbase
 obtain ⟨v', w', hr, ho, hg, _, hat⟩ := A 43
 have hrun : ∀ ty, (Builtin.append_ #[34, 34] ty #[v, .slice (some ⟨b1, 0, none⟩) 1 1]).run Tryz.prog W = .ok v' w' := fun ty => by
  have : ∀ ty, Builtin.append_ #[34, 34] ty #[v, .slice (some ⟨b1, 0, none⟩) 1 1] = Builtin.append_ #[34, 34] 43 #[v, .slice (some ⟨b1, 0, none⟩) 1 1] := fun _ => rfl
  rw [this];exact hr
 rw [← sixs_snoc] at ho
 obtain ⟨sa, sc, e, _, _⟩ := owns_slice ho
 exact ⟨v', w', hrun, ⟨ho, fun g hg' => (ho.lt g hg').2⟩, ⟨hg.os, hg.tape, hg.output, hg.size, fun k hk hs => hg.block k hk (fun e => hs e.symm)⟩, hat, sa, sc, e⟩
theorem owns_down {w : World} {base base' : Nat} {e : TypeId} {size : Nat} {v : Value} {n : Nat} {cs : List Value} (h : w.ownsRow base e size v n cs) (hb : base' ≤ base) : w.ownsRow base' e size v n cs := ⟨h.1, h.2.imp id fun ⟨g, cap, cur, h1, h2, h3⟩ => ⟨g, cap, cur, h1, Nat.le_trans hb h2, h3⟩⟩
def tookR (r : Rep) (en : En) : Rep := ⟨r.id, r.size, r.view, r.normal, r.last, r.log ++ [en], r.commit, r.oks, r.asks, r.doers⟩
theorem took_rep {w wx : World} {lo hi zl ul b0 n m : Nat} {h : RH} {r : Rep} {en : En} {v : Value} {sa : Option Addr} {sc : Nat} (x : RepAt w true lo hi h r) (OL : OwnE w zl ul v n r.log) (SPL : ∀ k, hR h.O k ∨ hR h.A k ∨ inE h.D.1 h.D.2.1 h.K k → ul ≤ k) (h1 : lo ≤ zl) (h2 : ul ≤ hi) (h3 : hi ≤ b0) (h4 : b0 < w.heap.size) (KS : KeptS (fun k => k = b0 ∨ v.ownBlock = some k) w wx) (OW : OwnE wx zl wx.heap.size (.slice sa m sc) m (r.log ++ [en])) (hat : ∀ g, (Value.slice sa m sc).ownBlock = some g → v.ownBlock = some g ∨ w.heap.size ≤ g) :
  RepAt wx true lo wx.heap.size ⟨(sa, m, sc), h.O, h.A, h.D, h.K⟩ (tookR r en) ∧ ¬ inRep ⟨(sa, m, sc), h.O, h.A, h.D, h.K⟩ b0 := by
 have nots : ∀ k, (hR h.O k ∨ hR h.A k ∨ inE h.D.1 h.D.2.1 h.K k) → k < hi ∧ ul ≤ k := fun k hk => ⟨by rcases hk with q | q | q;exact (x.oks.inB q).2.1;exact (x.asks.inB q).2.1;exact (x.doers.els.inB q).2.1, SPL k hk⟩
 have nk : ∀ k, (hR h.O k ∨ hR h.A k ∨ inE h.D.1 h.D.2.1 h.K k) → ¬ (k = b0 ∨ v.ownBlock = some k) := fun k hk hs => by
  have a := nots k hk
  rcases hs with q | q
  ·omega
  ·have := OL.lt k q;omega
 have lrow := OW.row
 have lnew : ∀ k, hR (sa, m, sc) k → v.ownBlock = some k ∨ w.heap.size ≤ k := fun k hk => by
  obtain ⟨hm, rfl⟩ := hk
  obtain ⟨b, off, e, _⟩ := lrow.cells hm
  have e2 : sa = some ⟨b, off, none⟩ := e
  refine hat _ ?_;rw [e2];rfl
 have sp : ∀ k, hR (sa, m, sc) k → ¬ (hR h.O k ∨ hR h.A k ∨ inE h.D.1 h.D.2.1 h.K k) := fun k hk hs => by
  have a := nots k hs
  rcases lnew k hk with q | q
  ·have := OL.lt k q;omega
  ·omega
 obtain ⟨s1, s2, s3, s4, s5, s6⟩ := x.sep rfl
 have hs := KS.size
 refine ⟨⟨lrow.widen h1 (Nat.le_refl _), (x.oks.keptR KS fun k hk => nk k (Or.inl hk)).widen (Nat.le_refl _) (by omega), (x.asks.keptR KS fun k hk => nk k (Or.inr (Or.inl hk))).widen (Nat.le_refl _) (by omega), (x.doers.keptS KS fun k hk => nk k (Or.inr (Or.inr hk))).widen (Nat.le_refl _) (by omega), fun _ => ⟨fun k a b => sp k a (Or.inl b), fun k a b => sp k a (Or.inr (Or.inl b)), fun k a b => sp k a (Or.inr (Or.inr b)), s4, s5, s6⟩⟩, ?_⟩
 rintro (q | q)
 ·rcases lnew b0 q with z | z
  ·have := OL.lt b0 z;omega
  ·omega
 ·exact nk b0 q (Or.inl rfl)
def takeQ (r : Rep) (en : En) : Rep := agrC (tookR r en)
def takeM (r : Rep) (en : En) : List Ml := (othL r.id.toNat r.size.toNat).map fun t => putM (prepM (takeQ r en) r.log.length) r.id t r.view
theorem KeptS.fresh {S : Nat → Prop} {w w1 w2 : World} {b0 : Nat} (h : KeptS S w w1) (g : KeptS (fun q => q = b0 ∨ w1.heap.size ≤ q) w1 w2) (hb : S b0) : KeptS S w w2 :=
 ⟨g.os.trans h.os, g.tape.trans h.tape, g.output.trans h.output, Nat.le_trans h.size g.size, fun k hk hs => (g.block k (Nat.lt_of_lt_of_le hk h.size) (fun z => z.elim (fun e => hs (e ▸ hb)) (fun z => by have := h.size;omega))).trans (h.block k hk hs)⟩
def TookAt (r : Rep) (h : RH) (en : En) (w wx : World) (b0 b1 b2 zl : Nat) : Prop := ∃ sa sc, Bx wx b0 [.int .i64 r.id, .int .i64 r.size, .int .i64 r.view, .bool r.normal, .int .i64 r.last, .slice sa (h.L.2.1 + 1) sc, .int .i64 r.commit, .slice h.O.1 h.O.2.1 h.O.2.2, .slice h.A.1 h.A.2.1 h.A.2.2, .slice h.D.1 h.D.2.1 h.D.2.2, .slice none 0 0] ∧ Bx wx b1 [.pointer (some ⟨b0, 0, none⟩)] ∧ Bx wx b2 [.int .i64 en.1, .int .i64 en.2.1, .int .i64 en.2.2.1, .int .i64 en.2.2.2.1, .int .i64 en.2.2.2.2.1, .int .i64 en.2.2.2.2.2] ∧ OwnE wx zl wx.heap.size (.slice sa (h.L.2.1 + 1) sc) (h.L.2.1 + 1) (r.log ++ [en]) ∧ KeptS (fun k => k = b0 ∨ (Value.slice h.L.1 h.L.2.1 h.L.2.2).ownBlock = some k) w wx ∧ ∀ g, (Value.slice sa (h.L.2.1 + 1) sc).ownBlock = some g → (Value.slice h.L.1 h.L.2.1 h.L.2.2).ownBlock = some g ∨ w.heap.size ≤ g
theorem take_is {lo hi zl ul : Nat} (r : Rep) (h : RH) (en : En) (b0 : Nat) (w : World) (X0 : Bx w b0 [.int .i64 r.id, .int .i64 r.size, .int .i64 r.view, .bool r.normal, .int .i64 r.last, .slice h.L.1 h.L.2.1 h.L.2.2, .int .i64 r.commit, .slice h.O.1 h.O.2.1 h.O.2.2, .slice h.A.1 h.A.2.1 h.A.2.2, .slice h.D.1 h.D.2.1 h.D.2.2, .slice none 0 0]) (x : RepAt w true lo hi h r) (hz : RSz h 1048576) (OL : OwnE w zl ul (.slice h.L.1 h.L.2.1 h.L.2.2) h.L.2.1 r.log) (SPL : ∀ k, hR h.O k ∨ hR h.A k ∨ inE h.D.1 h.D.2.1 h.K k → ul ≤ k) (h1 : lo ≤ zl) (h2 : ul ≤ hi) (h3 : hi ≤ b0) (hlb : lo ≤ b0) (h4 : zl ≤ w.heap.size) (hs : 1 ≤ r.size ∧ r.size ≤ 5) (hid : 0 ≤ r.id ∧ r.id ≤ r.size - 1) (hlg : r.log.length ≤ 39) (hl : (r.oks.length : Int) = r.size) (ho : ∀ y ∈ r.oks, 0 ≤ y ∧ y ≤ (r.log.length : Int)) :
  Calls Tryz.prog 64 #[.agg #[.pointer (some ⟨b0, 0, none⟩)], .agg #[.int .i64 en.1, .int .i64 en.2.1, .int .i64 en.2.2.1, .int .i64 en.2.2.2.1, .int .i64 en.2.2.2.2.1, .int .i64 en.2.2.2.2.2]] w fun e w' => ∃ (h2 : RH) (s : Hd) (Km : Nat → Hd) (mid base : Nat), e = .returned (.tuple #[]) ∧ Bx w' b0 [.int .i64 (takeQ r en).id, .int .i64 (takeQ r en).size, .int .i64 (takeQ r en).view, .bool (takeQ r en).normal, .int .i64 (takeQ r en).last, .slice h2.L.1 h2.L.2.1 h2.L.2.2, .int .i64 (takeQ r en).commit, .slice h2.O.1 h2.O.2.1 h2.O.2.2, .slice h2.A.1 h2.A.2.1 h2.A.2.2, .slice h2.D.1 h2.D.2.1 h2.D.2.2, .slice s.1 s.2.1 s.2.2] ∧ RepAt w' true lo mid h2 (takeQ r en) ∧ RSz h2 1048576 ∧ SentAt w' base (.slice s.1 s.2.1 s.2.2) Km (takeM r en) ∧ s.2.1 = (takeM r en).length ∧ NilK Km s.2.1 ∧ mid ≤ base ∧ lo ≤ base ∧ mid ≤ w'.heap.size ∧ KeptS (fun k => k = b0 ∨ (Value.slice h.L.1 h.L.2.1 h.L.2.2).ownBlock = some k) w w' := by
 have HX : Hid _ := x
 have HOL : Hid _ := OL
 have hll := x.log.nSixs;have c0 := X0.cell;have f0 := X0.froz;have ob0 := X0.lt;clear x OL
 go_enter Tryz.func64, Tryz.ntmps64
 go_upto_region 2 with (first | ((have g := ob1);clear g;(with_reducible refine box_newX 43 [.int .i64 en.1, .int .i64 en.2.1, .int .i64 en.2.2.1, .int .i64 en.2.2.2.1, .int .i64 en.2.2.2.2.1, .int .i64 en.2.2.2.2.2] rfl ?_);intro b2 W2 N2;have ob2 := N2.o B;have o0_b2 := N2.u X0;have o1_b2 := N2.u X1;replace X0 := N2.r X0;replace c0 := X0.cell;replace f0 := X0.froz;replace X1 := N2.r X1;replace c1 := X1.cell;replace B := N2.n B;obtain ⟨X2, c2⟩ := N2.c;clear N2) | ((have g := ob0);clear g;(with_reducible refine box_newX 112 [.pointer (some ⟨b0, 0, none⟩)] rfl ?_);intro b1 W1 N1;have ob1 := N1.ge;have o0_b1 := N1.u X0;replace X0 := N1.r X0;replace c0 := X0.cell;replace f0 := X0.froz;have B := N1.below;obtain ⟨X1, c1⟩ := N1.c;clear N1) | fail)
 go_cut [] (fun wx => TookAt r h en w wx b0 b1 b2 zl)
 case first =>
  have DA : Below W2.heap.size W2 (W2.alloc (.cells #[.int .i64 en.1, .int .i64 en.2.1, .int .i64 en.2.2.1, .int .i64 en.2.2.2.1, .int .i64 en.2.2.2.2.1, .int .i64 en.2.2.2.2.2] 43)).drew := ((Below.refl _ _).alloc (Nat.le_refl _) _).drew
  have DB : Below W2.heap.size W2 (W2.alloc (.cells #[.int .i64 en.1, .int .i64 en.2.1, .int .i64 en.2.2.1, .int .i64 en.2.2.2.1, .int .i64 en.2.2.2.2.1, .int .i64 en.2.2.2.2.2] 43)) := (Below.refl _ _).alloc (Nat.le_refl _) _
  have LX : Bx (W2.alloc (.cells #[.int .i64 en.1, .int .i64 en.2.1, .int .i64 en.2.2.1, .int .i64 en.2.2.2.1, .int .i64 en.2.2.2.2.1, .int .i64 en.2.2.2.2.2] 43)).drew W2.heap.size (enC en) := bx_alloc W2.drew (enC en) 43
  have hw9 := B.size
  obtain ⟨v', w', hr, OW, KS, hat, sa, sc, e9⟩ := log_snoc (HOL.out.below (below_next B DA)) LX (Nat.le_trans h4 (below_next B DA).size) (by omega)
  subst e9
  have nb : ∀ q, q = b0 ∨ q = b1 ∨ q = b2 → ¬ (Value.slice h.L.1 h.L.2.1 h.L.2.2).ownBlock = some q := fun q hq z => by have := HOL.out.lt q z;omega
  have XA := X0.below DB;have XD := X0.below DA;have XN := XD.keptS KS (nb b0 (Or.inl rfl));have cA := XA.cell;have cN := XN.cell;have fN := XN.froz;have YA := X1.below DB;have YD := X1.below DA;have YN := YD.keptS KS (nb b1 (Or.inr (Or.inl rfl)));have dA := YA.cell;have dN := YN.cell;have ZA := X2.below DB;have ZD := X2.below DA;have ZN := ZD.keptS KS (nb b2 (Or.inr (Or.inr rfl)));have eA := ZA.cell;have eN := ZN.cell
  have HOW : Hid _ := OW
  have HKS : Hid (KeptS (fun k => k = b0 ∨ (Value.slice h.L.1 h.L.2.1 h.L.2.2).ownBlock = some k) w w') := (KeptS.below (below_next B DA)).trans (KS.mono fun k hk => Or.inr hk)
  have HAT : Hid _ := hat
  have HSZ : Hid (w.heap.size ≤ W2.heap.size) := hw9
  clear OW KS hat LX
  go_region_law (first | (refine step_append_run rfl _ _ _ _ rfl _ _ rfl rfl _ _ (hr _) ?_))
  all_goals
   have KC : Kept b0 (b0 + 1) w' (w'.setCell ⟨b0, 5, none⟩ (.slice sa (h.L.2.1 + 1) sc)) := Kept.setCell (p := ⟨b0, 5, none⟩) (Kept.refl _ _ _) (Nat.le_refl _) (Nat.lt_succ_self _) _
   have X9 := XN.set 5 (by simp) (.slice sa (h.L.2.1 + 1) sc)
   have Y9 := YN.kept KC (by omega)
   have Z9 := ZN.kept KC (by omega)
   have K9 := HKS.out.setCell (p := ⟨b0, 5, none⟩) (Or.inl rfl) (.slice sa (h.L.2.1 + 1) sc)
   have O9 : OwnE (w'.setCell ⟨b0, 5, none⟩ (.slice sa (h.L.2.1 + 1) sc)) zl (w'.setCell ⟨b0, 5, none⟩ (.slice sa (h.L.2.1 + 1) sc)).heap.size (.slice sa (h.L.2.1 + 1) sc) (h.L.2.1 + 1) (r.log ++ [en]) := ⟨owns_kept HOW.out.own KC (fun k hk => by
    rcases HAT.out with z | z
    ·have := HOL.out.lt k (z ▸ hk);omega
    ·rw [z] at hk;injection hk with hk;have := XD.lt;omega), fun g hg => by simpa using HOW.out.lt g hg⟩
   have HTK : Hid (TookAt r h en w (w'.setCell ⟨b0, 5, none⟩ (.slice sa (h.L.2.1 + 1) sc)) b0 b1 b2 zl) := ⟨sa, sc, X9, Y9, Z9, O9, K9, fun g hg => by
    rcases HAT.out with z | z
    ·exact Or.inl (z ▸ hg)
    ·rw [z] at hg;injection hg with hg;exact Or.inr (by rw [← hg];exact Nat.le_trans HSZ.out DA.size)⟩
   clear KC X9 Y9 Z9 K9 O9 XN XA XD YA YD YN ZA ZD ZN cA cN fN dA dN eA eN hr;go_wp2_with fail
   go_meet
   exact HTK.out
 case rest =>
  have hbs := B.size
  obtain ⟨sa, sc, Y0, Y1, Y2, OW, KS, hat⟩ := hcut
  have hsz := KS.size
  obtain ⟨RT, NB⟩ := took_rep (en := en) HX.out HOL.out SPL h1 h2 h3 ob0 KS OW hat
  obtain ⟨h2, hh2⟩ : ∃ h2 : RH, h2 = ⟨(sa, h.L.2.1 + 1, sc), h.O, h.A, h.D, h.K⟩ := ⟨_, rfl⟩;rw [← hh2] at RT NB
  have X0' : Bx wc b0 [.int .i64 (tookR r en).id, .int .i64 (tookR r en).size, .int .i64 (tookR r en).view, .bool (tookR r en).normal, .int .i64 (tookR r en).last, .slice h2.L.1 h2.L.2.1 h2.L.2.2, .int .i64 (tookR r en).commit, .slice h2.O.1 h2.O.2.1 h2.O.2.2, .slice h2.A.1 h2.A.2.1 h2.A.2.2, .slice h2.D.1 h2.D.2.1 h2.D.2.2, .slice none 0 0] := by rw [hh2];exact Y0
  have Z2 : RSz h2 1048576 := by rw [hh2];exact ⟨by have := hll;show h.L.2.1 + 1 ≤ _;omega, hz.O, hz.A, hz.D, hz.K⟩
  have KW : Hid (KeptS (fun k => k = b0 ∨ (Value.slice h.L.1 h.L.2.1 h.L.2.2).ownBlock = some k) w wc) := KS
  have HLn : Hid (h2.L.2.1 = r.log.length + 1) := by show _ = _;rw [hh2, hll]
  clear hh2 Y0 OW KS hat;have cc0 := X0'.cell;have cc1 := Y1.cell;go_wp2_with fail
  refine (agree_is (tookR r en) h2 (none, 0, 0) b0 _ X0' RT hs hid hl (fun y hy => by have := ho y hy;show _ ∧ _ ≤ ((r.log ++ [en]).length : Int);rw [List.length_append];simp;omega)).mono ?_
  rintro e w3 ⟨rfl, X3, KS3⟩
  have Y3 := Y1.keptS KS3 (by omega)
  have R3 : RepAt w3 true lo wc.heap.size h2 (takeQ r en) := (fun z => ⟨z.log, z.oks, z.asks, z.doers, z.sep⟩ : RepAt w3 true lo wc.heap.size h2 (tookR r en) → _) (RT.keptS KS3 (fun k hk e => NB (e ▸ hk)))
  have K3 : Hid (KeptS (fun k => k = b0 ∨ (Value.slice h.L.1 h.L.2.1 h.L.2.2).ownBlock = some k) w w3) := KW.out.trans (KS3.mono fun k hk => Or.inl hk)
  have hs3 := KS3.size;clear X0' cc0 cc1 Y1 RT KS3;obtain ⟨qt, hqt⟩ : ∃ qt, takeQ r en = qt := ⟨_, rfl⟩
  rw [show agrC (tookR r en) = qt from hqt] at X3
  rw [hqt] at R3
  have q1 : Hid (qt.size = r.size) := by show _ = _;rw [← hqt];rfl
  have q2 : Hid (qt.id = r.id) := by show _ = _;rw [← hqt];rfl
  have q3 : Hid (qt.view = r.view) := by show _ = _;rw [← hqt];rfl
  have HQT : Hid _ := hqt
  clear hqt
  obtain ⟨m, hm⟩ : ∃ m : Nat, r.size = m := ⟨r.size.toNat, by omega⟩
  obtain ⟨i, hi0⟩ : ∃ i : Nat, r.id = i := ⟨r.id.toNat, by omega⟩
  have cc0 := X3.cell;have cc1 := Y3.cell;go_wp2_with fail
  refine (others_is qt h2 (none, 0, 0) b0 _ X3 m i (by rw [q1.out];exact hm) (by rw [q2.out];exact hi0) (by omega)).mono ?_
  rintro e w4 ⟨ra, rc, z, ue, rfl, Gz, zu, hR, R, BB⟩
  have lb : b0 < w4.heap.size := Nat.lt_of_lt_of_le X3.lt BB.size
  have lb1 : b1 < w4.heap.size := Nat.lt_of_lt_of_le Y3.lt BB.size
  have lbz : b0 < z := Nat.lt_of_lt_of_le X3.lt Gz
  have HX4 : Hid _ := X3.below BB
  have HY4 : Hid _ := Y3.below BB
  have HR4 : Hid _ := R3.below BB
  have hRn := R.le
  have HW : Hid _ := BB.size
  have K4 : Hid (KeptS (fun k => k = b0 ∨ (Value.slice h.L.1 h.L.2.1 h.L.2.2).ownBlock = some k) w w4) := K3.out.trans (KeptS.below BB)
  have hwc : wc.heap.size ≤ w4.heap.size := Nat.le_trans hs3 BB.size
  have hlen := othL_len i m
  have hm5 : m ≤ 5 := by omega
  have HC : Hid (takeM r en = (othL i m).map fun t => putM (prepM qt h.L.2.1) qt.id t qt.view) := by show _ = _;unfold takeM;rw [hm, hi0, HQT.out, q2.out, q3.out, hi0, hll];rfl
  clear X3 Y3 R3 BB Gz zu cc0 cc1 hm hi0;generalize hxs : othL i m = xs at *
  have HXS : Hid _ := hxs
  clear hxs
  obtain ⟨fT, hfT⟩ : ∃ fT : Int → Ml, fT = fun t => putM (prepM qt h.L.2.1) qt.id t qt.view := ⟨_, rfl⟩
  have HFT : Hid _ := hfT
  rw [← hfT] at HC;clear hfT
  have HNR : Hid (∀ q, inR ra xs.length q → ¬ (q = b0 ∨ w4.heap.size ≤ q)) := fun q hq hs => by
   have hb := R.inB hq;omega
  have HNL : Hid (∀ k, inR h2.L.1 h2.L.2.1 k → ¬ (k = b0 ∨ w4.heap.size ≤ k)) := fun k hk hs => by
   have hb := HR4.out.log.inB hk
   rcases hs with q | q
   ·exact NB (Or.inl (q ▸ hk))
   ·omega
  go_wp2
  go_loopw [6, 34] (fun _ iv wr => ∃ (k : Nat) (s : Hd) (Km : Nat → Hd), k ≤ xs.length ∧ iv = .int .i64 k ∧ Bx wr b0 [.int .i64 qt.id, .int .i64 qt.size, .int .i64 qt.view, .bool qt.normal, .int .i64 qt.last, .slice h2.L.1 h2.L.2.1 h2.L.2.2, .int .i64 qt.commit, .slice h2.O.1 h2.O.2.1 h2.O.2.2, .slice h2.A.1 h2.A.2.1 h2.A.2.2, .slice h2.D.1 h2.D.2.1 h2.D.2.2, .slice s.1 s.2.1 s.2.2] ∧ Bx wr b1 [.pointer (some ⟨b0, 0, none⟩)] ∧ SentAt wr w4.heap.size (.slice s.1 s.2.1 s.2.2) Km ((xs.take k).map fT) ∧ s.2.1 = k ∧ NilK Km k ∧ w4.heap.size ≤ wr.heap.size ∧ KeptS (fun q => q = b0 ∨ w4.heap.size ≤ q) w4 wr) (fun _ iv _ => xs.length - (intOf iv).toNat)
  case atStart => exact ⟨0, (none, 0, 0), kd0, Nat.zero_le _, rfl, HX4.out, HY4.out, GrowAt.nil _ _ _ _ _ _ _, rfl, fun j hj => absurd hj (Nat.not_lt_zero _), Nat.le_refl _, KeptS.refl _ _⟩
  case round =>
   obtain ⟨k, s, Km, hk, rfl, X0, X1, G, hsk, NK, LZ, KS⟩ := hrel
   clear HX4 HY4
   by_cases hlt : k < xs.length
   ·have hlk : (k : Int) < (xs.length : Int) := by omega
    have R2 : RowAt wr true z ue 1 ra xs.length rc (ints xs) := R.keptR KS (fun q hq hs => HNR.out q hq hs)
    obtain ⟨b, off, rfl, _, _, _, e0, _⟩ := R2.int hlt
    clear R2
    have L5 := HR4.out.log.keptR KS (fun q hq hs => HNL.out q hq hs)
    obtain ⟨t, ht⟩ : ∃ t, xs.getD k 0 = t := ⟨_, rfl⟩;rw [ht] at e0
    have HT : Hid _ := take_map_succ hlt fT
    rw [ht] at HT;clear ht
    have hml : ((xs.take k).map fT).length = k := by simp;omega
    have HML : Hid _ := hml
    have d1 := X1.cell;go_wp2_with fail
    refine (sendPrepare_is qt h2 s t h.L.2.1 w4.heap.size b0 _ Km _ X0 L5 G lb LZ (by rw [HML.out];omega)).mono ?_
    rintro e w5 ⟨s', rfl, X2, G2, hs2, KS2⟩;rw [HML.out] at G2 hs2
    have G3 : SentAt w5 w4.heap.size (.slice s'.1 s'.2.1 s'.2.2) (fun j => if j = k then (none, 0, 0) else Km j) ((xs.take (k + 1)).map fT) := by rw [HT.out, HFT.out];rw [HFT.out] at G2;exact G2
    have NK2 : NilK (fun j => if j = k then ((none : Option Addr), 0, 0) else Km j) (k + 1) := fun j hj => by
     by_cases e : j = k
     ·simp [e]
     ·simp only [if_neg e];exact NK j (by omega)
    have J1 : Hid _ := X2
    have J7 : Hid _ := X1.keptS KS2 (by omega)
    have J2 : Hid _ := G3
    have J3 : Hid _ := hs2
    have J4 : Hid _ := NK2
    have J5 : Hid (w4.heap.size ≤ w5.heap.size) := Nat.le_trans LZ KS2.size
    have J6 : Hid _ := KS.trans KS2
    clear X0 X1 X2 G G2 G3 hs2 NK2 KS KS2 HT hml HML e0 L5 d1;go_wp2
    go_roundw
    case rel => exact ⟨k + 1, s', (fun j => if j = k then (none, 0, 0) else Km j), by omega, by go_num, J1.out, J7.out, J2.out, J3.out, J4.out, J5.out, J6.out⟩
    case measure => simp [intOf];omega
   ·obtain rfl : k = xs.length := by omega
    rw [List.take_length] at G
    have R9 := HR4.out.keptS KS (fun k hk hs => by
     rcases hs with q | q
     ·exact NB (q ▸ hk)
     ·have := HR4.out.inB hk;omega)
    have K9 : KeptS (fun k => k = b0 ∨ (Value.slice h.L.1 h.L.2.1 h.L.2.2).ownBlock = some k) w wr := K4.out.fresh KS (Or.inl rfl)
    have J1 : Hid _ := X0
    have J2 : Hid _ := G
    have J3 : Hid _ := K9
    have J4 : Hid _ := NK
    have J5 : Hid _ := R9
    have J6 : Hid (wc.heap.size ≤ wr.heap.size) := Nat.le_trans hwc LZ
    clear X0 X1 G KS K9 NK R9;go_wp2;have EQ := HQT.out;subst EQ
    refine bodyPost_end (v := .tuple #[]) (by simp [results, Tryz.results64, go_sem]) rfl ⟨h2, s, Km, wc.heap.size, w4.heap.size, rfl, J1.out, J5.out, Z2, ?_, ?_, ?_, hwc, Nat.le_trans hlb (Nat.le_of_lt lb), J6.out, J3.out⟩
    ·rw [HC.out];exact J2.out
    ·rw [HC.out, hsk];simp
    ·rw [hsk];exact J4.out
end Go.Proofs.YtclghfoinologaaGreat
