/- Chapter 9: doers copied, compared and counted by the laws. -/
import Derived.Test.YtjefmhjlaibbkaaQAGR
import Derived.Test.YtjefmhjlaibbkaaXAR
set_option maxRecDepth 20000
set_option maxHeartbeats 16000000
namespace Go.Proofs.Ytjefmhjlaibbkaa
open Go.RowKit
theorem RowAt.tightG {w : World} {own : Bool} {lo hi size g o n cap : Nat} {cs : List Value} (h : RowAt w own lo hi size (some ⟨g, o, none⟩) n cap cs) : RowAt w own g (g + 1) size (some ⟨g, o, none⟩) n cap cs := by
 refine ⟨h.len, h.le, fun hn => ?_⟩
 obtain ⟨b, off, e, h1, h2, h3, h4, h5⟩ := h.cells hn
 simp only [Option.some.injEq, Addr.mk.injEq, and_true] at e
 obtain ⟨rfl, rfl⟩ := e
 exact ⟨_, _, rfl, Nat.le_refl _, Nat.lt_succ_self _, h3, h4, h5⟩
theorem toEntries_new {own : Bool} {lo hi : Nat} (ao : Option Addr) (n cap : Nat) (xs : List En) (w : World) (h : RowAt w own lo hi 6 ao n cap (sixs xs)) (hn : n ≤ 1048576) :
  Calls Try.prog 38 #[.slice ao n cap] w fun e w' => e = .returned (.slice (some ⟨w.heap.size, 0, none⟩) n n) ∧ RowAt w' true w.heap.size w'.heap.size 6 (some ⟨w.heap.size, 0, none⟩) n n (sixs xs) ∧ Below w.heap.size w w' ∧ w.heap.size < w'.heap.size := by
 have hx := h.nSixs
 obtain ⟨i0, hi0, hz0, hz1, hz2⟩ := info_parts Try.infoEntry
 go_enter Try.func38, Try.ntmps38
 go_wp2_with (first | (at_make; refine wpList_make_full _ rfl _ _ 24 rfl w.heap.size 97 i0 (.agg #[.int .i64 0, .int .i64 0, .int .i64 0, .int .i64 0, .int .i64 0, .int .i64 0]) 6 Try.underlying24 hi0 hz0 hz1 _ _ _ _ n rfl rfl rfl rfl ?b1 ?b2 ?b3 ?_))
 case b1 => rw [hz2]; omega
 case b2 => unfold maxLen; omega
 case b3 => exact Nat.le_refl _
 intro w1 hown hgrow
 have hb1 : Below w.heap.size w w1 := (Below.refl _ _).grown hgrow (Nat.le_refl _) (fun k hk => by cases hk)
 have hown0 : w1.ownsRow w.heap.size 97 6 (.slice (some ⟨w.heap.size, 0, none⟩) n n) n (cop (sixs xs) (.int .i64 0) (0 * 6)) := by
  rw [Nat.zero_mul, cop_zero, sixs_len, hx]; simpa [Value.cells, made6] using hown
 clear hown hgrow
 go_wp2
 go_loopw [4] (fun i wr => ∃ k : Nat, k ≤ n ∧ i = .int .i64 k ∧ wr.ownsRow w.heap.size 97 6 (.slice (some ⟨w.heap.size, 0, none⟩) n n) n (cop (sixs xs) (.int .i64 0) (k * 6)) ∧ Below w.heap.size w wr) (fun i _ => n - (intOf i).toNat)
 case atStart => exact ⟨0, Nat.zero_le _, rfl, hown0, hb1⟩
 case round =>
  obtain ⟨k, hk, rfl, hown, hb⟩ := hrel
  clear hown0 hb1
  by_cases hlt : k < n
  ·obtain ⟨b, off, rfl, _, _, hbs, hc0, hc1, hc2, hc3, hc4, hc5, _⟩ := h.six hlt
   have hcr0 := (hb.cell (p := ⟨b, off + k * 6, none⟩) hbs).trans hc0
   have hcr1 := (hb.cell (p := ⟨b, off + k * 6 + 1, none⟩) hbs).trans hc1
   have hcr2 := (hb.cell (p := ⟨b, off + k * 6 + 2, none⟩) hbs).trans hc2
   have hcr3 := (hb.cell (p := ⟨b, off + k * 6 + 3, none⟩) hbs).trans hc3
   have hcr4 := (hb.cell (p := ⟨b, off + k * 6 + 4, none⟩) hbs).trans hc4
   have hcr5 := (hb.cell (p := ⟨b, off + k * 6 + 5, none⟩) hbs).trans hc5
   have R : ∀ w1, Below wr.heap.size wr w1 → w1.cell? ⟨w.heap.size, k * 6, none⟩ = some (.int .i64 0) ∧ w1.cell? ⟨w.heap.size, k * 6 + 1, none⟩ = some (.int .i64 0) ∧ w1.cell? ⟨w.heap.size, k * 6 + 2, none⟩ = some (.int .i64 0) ∧ w1.cell? ⟨w.heap.size, k * 6 + 3, none⟩ = some (.int .i64 0) ∧ w1.cell? ⟨w.heap.size, k * 6 + 4, none⟩ = some (.int .i64 0) ∧ w1.cell? ⟨w.heap.size, k * 6 + 5, none⟩ = some (.int .i64 0) ∧ w1.frozen? ⟨w.heap.size, k * 6, none⟩ = false ∧ w1.frozen? ⟨w.heap.size, k * 6 + 1, none⟩ = false ∧ w1.frozen? ⟨w.heap.size, k * 6 + 2, none⟩ = false ∧ w1.frozen? ⟨w.heap.size, k * 6 + 3, none⟩ = false ∧ w1.frozen? ⟨w.heap.size, k * 6 + 4, none⟩ = false ∧ w1.frozen? ⟨w.heap.size, k * 6 + 5, none⟩ = false ∧
     ((((((w1.setCell ⟨w.heap.size, k * 6, none⟩ (.int .i64 (xs.getD k en0).1)).setCell ⟨w.heap.size, k * 6 + 1, none⟩ (.int .i64 (xs.getD k en0).2.1)).setCell ⟨w.heap.size, k * 6 + 2, none⟩ (.int .i64 (xs.getD k en0).2.2.1)).setCell ⟨w.heap.size, k * 6 + 3, none⟩ (.int .i64 (xs.getD k en0).2.2.2.1)).setCell ⟨w.heap.size, k * 6 + 4, none⟩ (.int .i64 (xs.getD k en0).2.2.2.2.1)).setCell ⟨w.heap.size, k * 6 + 5, none⟩ (.int .i64 (xs.getD k en0).2.2.2.2.2)).ownsRow w.heap.size 97 6 (.slice (some ⟨w.heap.size, 0, none⟩) n n) n (cop (sixs xs) (.int .i64 0) ((k + 1) * 6)) ∧
     Below w.heap.size w ((((((w1.setCell ⟨w.heap.size, k * 6, none⟩ (.int .i64 (xs.getD k en0).1)).setCell ⟨w.heap.size, k * 6 + 1, none⟩ (.int .i64 (xs.getD k en0).2.1)).setCell ⟨w.heap.size, k * 6 + 2, none⟩ (.int .i64 (xs.getD k en0).2.2.1)).setCell ⟨w.heap.size, k * 6 + 3, none⟩ (.int .i64 (xs.getD k en0).2.2.2.1)).setCell ⟨w.heap.size, k * 6 + 4, none⟩ (.int .i64 (xs.getD k en0).2.2.2.2.1)).setCell ⟨w.heap.size, k * 6 + 5, none⟩ (.int .i64 (xs.getD k en0).2.2.2.2.2)) := by
    intro w1 hb1
    have ho := owns_below hown hb1
    have hl : (sixs xs).length = n * 6 := by rw [sixs_len, hx]
    refine ⟨?_, ?_, ?_, ?_, ?_, ?_, ho.frozenAt _, ho.frozenAt _, ho.frozenAt _, ho.frozenAt _, ho.frozenAt _, ho.frozenAt _, ?_, ?_⟩
    ·rw [ho.cellAt _ (by omega), cop_get _ _ _ _ (by omega) (by omega)]
    ·rw [ho.cellAt _ (by omega), cop_get _ _ _ _ (by omega) (by omega)]
    ·rw [ho.cellAt _ (by omega), cop_get _ _ _ _ (by omega) (by omega)]
    ·rw [ho.cellAt _ (by omega), cop_get _ _ _ _ (by omega) (by omega)]
    ·rw [ho.cellAt _ (by omega), cop_get _ _ _ _ (by omega) (by omega)]
    ·rw [ho.cellAt _ (by omega), cop_get _ _ _ _ (by omega) (by omega)]
    ·have r := ((((((ho.stored (k * 6) (.int .i64 (xs.getD k en0).1)).1.stored (k * 6 + 1) (.int .i64 (xs.getD k en0).2.1)).1.stored (k * 6 + 2) (.int .i64 (xs.getD k en0).2.2.1)).1.stored (k * 6 + 3) (.int .i64 (xs.getD k en0).2.2.2.1)).1.stored (k * 6 + 4) (.int .i64 (xs.getD k en0).2.2.2.2.1)).1.stored (k * 6 + 5) (.int .i64 (xs.getD k en0).2.2.2.2.2)).1
     rwa [cop_set _ _ _ (k * 6) (by omega) (sixs_getD0 xs k (by omega)), cop_set _ _ _ (k * 6 + 1) (by omega) (sixs_getD1 xs k (by omega)), cop_set _ _ _ (k * 6 + 2) (by omega) (sixs_getD2 xs k (by omega)), cop_set _ _ _ (k * 6 + 3) (by omega) (sixs_getD3 xs k (by omega)), cop_set _ _ _ (k * 6 + 4) (by omega) (sixs_getD4 xs k (by omega)), cop_set _ _ _ (k * 6 + 5) (by omega) (sixs_getD5 xs k (by omega)), show k * 6 + 5 + 1 = (k + 1) * 6 by omega] at r
    ·exact (((((((below_step hb hb.size hb1).setCell (p := ⟨w.heap.size, k * 6, none⟩) (Nat.le_refl _) _).setCell (p := ⟨w.heap.size, k * 6 + 1, none⟩) (Nat.le_refl _) _).setCell (p := ⟨w.heap.size, k * 6 + 2, none⟩) (Nat.le_refl _) _).setCell (p := ⟨w.heap.size, k * 6 + 3, none⟩) (Nat.le_refl _) _).setCell (p := ⟨w.heap.size, k * 6 + 4, none⟩) (Nat.le_refl _) _).setCell (p := ⟨w.heap.size, k * 6 + 5, none⟩) (Nat.le_refl _) _)
   clear hc0 hc1 hc2 hc3 hc4 hc5 hown hb
   generalize (xs.getD k en0).1 = x0 at *
   generalize (xs.getD k en0).2.1 = x1 at *
   generalize (xs.getD k en0).2.2.1 = x2 at *
   generalize (xs.getD k en0).2.2.2.1 = x3 at *
   generalize (xs.getD k en0).2.2.2.2.1 = x4 at *
   generalize (xs.getD k en0).2.2.2.2.2 = x5 at *
   have HR : Hid _ := R
   clear R
   go_wp2_with fail
   refine (toEntry_any _ _ _ _ _ _ _).mono ?_
   rintro e w1 ⟨rfl, hb1⟩
   obtain ⟨a0, a1, a2, a3, a4, a5, z0, z1, z2, z3, z4, z5, a6, a7⟩ := HR.out w1 hb1
   clear HR hb1 hcr0 hcr1 hcr2 hcr3 hcr4 hcr5
   go_wp2
   go_roundw
   case rel => exact ⟨k + 1, by omega, by go_num, a6, a7⟩
   case measure => simp [intOf]; omega
  ·go_wp2
   go_ret
   have hkn : k * 6 = (sixs xs).length := by rw [sixs_len]; omega
   rw [hkn, cop_all] at hown
   exact ⟨rfl, RowAt.of_owns hown (Nat.le_refl _), hb, (owns_lt hown).2⟩
theorem toEntries_g {own : Bool} {lo hi : Nat} (ao : Option Addr) (n cap : Nat) (xs : List En) (w : World) (h : RowAt w own lo hi 6 ao n cap (sixs xs)) (hn : n ≤ 1048576) :
  Calls Try.prog 38 #[.slice ao n cap] w fun e w' => ∃ g, e = .returned (.slice (some ⟨g, 0, none⟩) n n) ∧ w.heap.size ≤ g ∧ g < w'.heap.size ∧ RowAt w' true g (g + 1) 6 (some ⟨g, 0, none⟩) n n (sixs xs) ∧ Below w.heap.size w w' :=
 (toEntries_new ao n cap xs w h hn).mono fun _ _ ⟨e1, r, b, l⟩ => ⟨_, e1, Nat.le_refl _, l, r.tightG, b⟩
theorem toDoer_any {own : Bool} {lo hi : Nat} (kn : Bool) (la cm : Int) (a : Option Addr) (n c : Nat) (xs : List En) (w : World) (h : RowAt w own lo hi 6 a n c (sixs xs)) (hn : n ≤ 1048576) :
  Calls Try.prog 117 #[.agg #[.bool kn, .int .i64 la, .slice a n c, .int .i64 cm]] w fun e w' => ∃ g, e = .returned (.agg #[.bool kn, .int .i64 la, .slice (some ⟨g, 0, none⟩) n n, .int .i64 cm]) ∧ w.heap.size ≤ g ∧ g < w'.heap.size ∧ RowAt w' true g (g + 1) 6 (some ⟨g, 0, none⟩) n n (sixs xs) ∧ Below w.heap.size w w' := by
 go_enter Try.func117, Try.ntmps117
 go_wp2_with (first | ((with_reducible refine so 2 X2 1 (.int .i64 la) ?_); intro V2 S; replace X0 := X0.kp S.kept; replace c0 := X0.cell; replace X1 := X1.kp S.kept; replace c1 := X1.cell; replace f1 := X1.froz; replace X2 : Bx V2 b2 [.bool kn, .int .i64 la, .slice none 0 0, .int .i64 0] := S.bx; replace c2 := X2.cell; replace f2 := X2.froz; replace B := bkp B S.kept; clear S) | ((with_reducible refine so 4 X2 0 (.bool kn) ?_); intro V1 S; replace X0 := X0.kp S.kept; replace c0 := X0.cell; replace X1 := X1.kp S.kept; replace c1 := X1.cell; replace f1 := X1.froz; replace X2 : Bx V1 b2 [.bool kn, .int .i64 0, .slice none 0 0, .int .i64 0] := S.bx; replace c2 := X2.cell; replace f2 := X2.froz; replace B := bkp B S.kept; clear S) | ((have g := ob1); clear g; (with_reducible refine al 39 [.bool false, .int .i64 0, .slice none 0 0, .int .i64 0] ?_); intro b2 W2 N2; have ob2 := N2.o B; have o0_b2 := N2.u X0; have o1_b2 := N2.u X1; replace X0 := N2.r X0; replace c0 := X0.cell; replace X1 := N2.r X1; replace c1 := X1.cell; replace f1 := X1.froz; replace B := N2.n B; obtain ⟨X2, c2, f2⟩ := N2.a; clear N2) | ((have g := ob0); clear g; (with_reducible refine al 39 [.bool false, .int .i64 0, .slice none 0 0, .int .i64 0] ?_); intro b1 W1 N1; have ob1 := N1.o B; have o0_b1 := N1.u X0; replace X0 := N1.r X0; replace c0 := X0.cell; replace B := N1.n B; obtain ⟨X1, c1, f1⟩ := N1.a; clear N1) | ((with_reducible refine box_newX 156 [.bool kn, .int .i64 la, .slice a n c, .int .i64 cm] rfl ?_); intro b0 W0 N0; have ob0 := N0.ge; have B := N0.below; obtain ⟨X0, c0⟩ := N0.c; clear N0) | fail)
 refine (toEntries_g a n c xs _ (by exact h.below B) hn).mono ?_
 rintro e w1 ⟨g, rfl, Gg, lR, R, BB⟩
 have og : w.heap.size ≤ g := Nat.le_trans B.size Gg
 have o0_g := ltl X0.lt Gg
 have o1_g := ltl X1.lt Gg
 have o2_g := ltl X2.lt Gg
 clear Gg
 replace X0 := X0.below BB
 replace c0 := X0.cell
 replace X1 := X1.below BB
 replace c1 := X1.cell
 replace f1 := X1.froz
 replace X2 := X2.below BB
 replace c2 := X2.cell
 replace f2 := X2.froz
 replace B := below_next B BB
 clear BB
 go_wp2_with (first | ((with_reducible refine sm 39 X1 0 [.bool kn, .int .i64 la, .slice (some ⟨g, 0, none⟩) n n, .int .i64 cm] ?_); intro V5 S; replace X0 := X0.kp S.kept; replace c0 := X0.cell; replace X1 : Bx V5 b1 [.bool kn, .int .i64 la, .slice (some ⟨g, 0, none⟩) n n, .int .i64 cm] := S.bx; replace c1 := X1.cell; replace f1 := X1.froz; replace X2 := X2.kp S.kept; replace c2 := X2.cell; replace f2 := X2.froz; replace R := R.kept S.kept (by omega); replace lR := Nat.lt_of_lt_of_le lR S.kept.size; replace B := bkp B S.kept; clear S) | ((with_reducible refine so 2 X2 3 (.int .i64 cm) ?_); intro V4 S; replace X0 := X0.kp S.kept; replace c0 := X0.cell; replace X1 := X1.kp S.kept; replace c1 := X1.cell; replace f1 := X1.froz; replace X2 : Bx V4 b2 [.bool kn, .int .i64 la, .slice (some ⟨g, 0, none⟩) n n, .int .i64 cm] := S.bx; replace c2 := X2.cell; replace f2 := X2.froz; replace R := R.kept S.kept (by omega); replace lR := Nat.lt_of_lt_of_le lR S.kept.size; replace B := bkp B S.kept; clear S) | ((with_reducible refine so 24 X2 2 (.slice (some ⟨g, 0, none⟩) n n) ?_); intro V3 S; replace X0 := X0.kp S.kept; replace c0 := X0.cell; replace X1 := X1.kp S.kept; replace c1 := X1.cell; replace f1 := X1.froz; replace X2 : Bx V3 b2 [.bool kn, .int .i64 la, .slice (some ⟨g, 0, none⟩) n n, .int .i64 0] := S.bx; replace c2 := X2.cell; replace f2 := X2.froz; replace R := R.kept S.kept (by omega); replace lR := Nat.lt_of_lt_of_le lR S.kept.size; replace B := bkp B S.kept; clear S))
 refine bodyPost_ret (v := .agg #[.bool kn, .int .i64 la, .slice (some ⟨g, 0, none⟩) n n, .int .i64 cm]) (by simp [results, Try.results117, go_sem, *]) rfl ⟨_, rfl, og, lR, R, B⟩
theorem ElsAt.newLog {sz : Nat} {w : World} {lo hi : Nat} {ao : Option Addr} {n cap : Nat} {F : Nat → Nat → Value} {K : Nat → Hd} {L : Nat → List En} (h : ElsAt sz w true lo hi ao n cap F K L) (i : Nat) (hd : Hd) (xs : List En) (hr : RowAt w true lo hi 6 hd.1 hd.2.1 hd.2.2 (sixs xs)) (hs : hd.2.1 ≠ 0 → ∀ k, inE ao n K k → k ≠ sb hd.1) :
  ElsAt sz w true lo hi ao n cap F (fun j => if j = i then hd else K j) (fun j => if j = i then xs else L j) := by
 refine ⟨h.row, fun q hq => ?_, fun _ q hq h0 => ?_⟩
 ·by_cases e : q = i
  ·subst e; simp only [if_true]; exact hr
  ·simp only [if_neg e]; exact h.logs q hq
 ·by_cases e : q = i
  ·subst e
   simp only [if_true] at h0 ⊢
   refine ⟨fun e => hs h0 _ (Or.inl ⟨by omega, rfl⟩) e.symm, fun j hj hne h1 => ?_⟩
   rw [if_neg hne] at h1 ⊢
   exact hs h0 _ (Or.inr ⟨j, hj, h1, rfl⟩)
  ·simp only [if_neg e] at h0 ⊢
   refine ⟨(h.sep rfl q hq h0).1, fun j hj hne h1 => ?_⟩
   by_cases e2 : j = i
   ·subst e2
    simp only [if_true] at h1 ⊢
    exact fun x => hs h1 _ (Or.inr ⟨q, hq, h0, rfl⟩) x.symm
   ·simp only [if_neg e2] at h1 ⊢
    exact (h.sep rfl q hq h0).2 j hj hne h1
def paF (K : Nat → Hd) (ds : List Dr) (k i j : Nat) : Value := if i < k then drF K ds i j else drF (fun _ => (none, 0, 0)) [] i j
def paL (ds : List Dr) (k i : Nat) : List En := if i < k then drL ds i else []
def kd0 : Nat → Hd := fun _ => (none, 0, 0)
theorem made_doers (n : Nat) : (madeCells #[Value.bool false, .int .i64 0, .slice none 0 0, .int .i64 0] (n * 4)).toList = flatF 4 n (paF kd0 [] 0) := by
 apply List.ext_getElem (by simp [madeCells, flatF])
 intro j h1 h2
 have : j % 4 = 0 ∨ j % 4 = 1 ∨ j % 4 = 2 ∨ j % 4 = 3 := by omega
 rcases this with e | e | e | e <;> simp [madeCells, flatF, paF, drF, hv, e, dr0]
theorem ElsAt.of_made {w : World} {base : Nat} {e : TypeId} {g n : Nat} (h : w.ownsRow base e 4 (.slice (some ⟨g, 0, none⟩) n n) n (flatF 4 n (paF kd0 [] 0))) (ds : List Dr) : ElsAt 4 w true base w.heap.size (some ⟨g, 0, none⟩) n n (paF kd0 ds 0) kd0 (paL ds 0) := by
 refine ElsAt.congr (F := paF kd0 [] 0) (L := fun _ => []) ⟨RowAt.of_owns h (Nat.le_refl _), fun i _ => RowAt.nilR _ _ _ _ _ _ _, fun _ i _ h0 => absurd rfl h0⟩ (fun i j _ _ => ?_) (fun i _ => ?_)
 ·simp [paF]
 ·simp [paL]
theorem doer_put {w : World} {base g n k : Nat} {K : Nat → Hd} {ds : List Dr} (h : ElsAt 4 w true base w.heap.size (some ⟨g, 0, none⟩) n n (paF K ds k) K (paL ds k)) (hk : k < n) {w1 : World} (hb : Below w.heap.size w w1) (g1 m c : Nat) (hg : w.heap.size ≤ g1) {xs : List En} (hr : RowAt w1 true g1 (g1 + 1) 6 (some ⟨g1, 0, none⟩) m c (sixs xs)) (hz : m ≠ 0 → g1 < w1.heap.size) (kn : Bool) (la cm : Int) (hd : ds.getD k dr0 = (kn, la, xs, cm)) :
  ElsAt 4 ((((w1.setCell ⟨g, k * 4, none⟩ (.bool kn)).setCell ⟨g, k * 4 + 1, none⟩ (.int .i64 la)).setCell ⟨g, k * 4 + 2, none⟩ (.slice (some ⟨g1, 0, none⟩) m c)).setCell ⟨g, k * 4 + 3, none⟩ (.int .i64 cm)) true base w1.heap.size (some ⟨g, 0, none⟩) n n (paF (fun j => if j = k then (some ⟨g1, 0, none⟩, m, c) else K j) ds (k + 1)) (fun j => if j = k then (some ⟨g1, 0, none⟩, m, c) else K j) (paL ds (k + 1)) := by
 have hlt := (h.row.inB (k := g) ⟨by omega, rfl⟩)
 have hr' : RowAt w1 true base w1.heap.size 6 (some ⟨g1, 0, none⟩) m c (sixs xs) := by
  refine ⟨hr.len, hr.le, fun hn => ?_⟩
  obtain ⟨b, off, e, q1, q2, q3, q4⟩ := hr.cells hn
  exact ⟨b, off, e, by omega, by have := hz hn; omega, q3, q4⟩
 have E1 := ((h.below hb).widen (Nat.le_refl _) hb.size).newLog k (some ⟨g1, 0, none⟩, m, c) xs hr' (fun h0 q hq e => by
  have := h.inB hq
  simp [sb] at e
  omega)
 have E2 := (((E1.store (i := k) (j := 0) hk (by omega) (.bool kn)).store (i := k) (j := 1) hk (by omega) (.int .i64 la)).store (i := k) (j := 2) hk (by omega) (.slice (some ⟨g1, 0, none⟩) m c)).store (i := k) (j := 3) hk (by omega) (.int .i64 cm)
 simp only [Nat.zero_add, Nat.add_zero] at E2
 refine E2.congr (fun i j hi hj => ?_) (fun i hi => ?_)
 ·by_cases e : i = k
  ·subst e
   rcases (by omega : j = 0 ∨ j = 1 ∨ j = 2 ∨ j = 3) with rfl | rfl | rfl | rfl <;> simp only [updF, paF, drF, hd, hv] <;> simp
  ·rcases (by omega : j = 0 ∨ j = 1 ∨ j = 2 ∨ j = 3) with rfl | rfl | rfl | rfl <;> simp only [updF, paF, drF] <;> by_cases e2 : i < k <;> simp [e, e2, show i < k + 1 ↔ i < k by omega]
 ·by_cases e : i = k
  ·subst e; unfold paL drL; rw [if_pos (by omega), hd]; simp
  ·simp [paL, e, show i < k + 1 ↔ i < k by omega]
theorem doer_there {w : World} {base g n k : Nat} {K : Nat → Hd} {ds : List Dr} (h : ElsAt 4 w true base w.heap.size (some ⟨g, 0, none⟩) n n (paF K ds k) K (paL ds k)) (hk : k < n) {w1 : World} (hb : Below w.heap.size w w1) :
  (w1.cell? ⟨g, k * 4, none⟩ = some (.bool false) ∧ w1.cell? ⟨g, k * 4 + 1, none⟩ = some (.int .i64 0) ∧ w1.cell? ⟨g, k * 4 + 2, none⟩ = some (.slice none 0 0) ∧ w1.cell? ⟨g, k * 4 + 3, none⟩ = some (.int .i64 0)) ∧ w1.frozen? ⟨g, k * 4, none⟩ = false ∧ w1.frozen? ⟨g, k * 4 + 1, none⟩ = false ∧ w1.frozen? ⟨g, k * 4 + 2, none⟩ = false ∧ w1.frozen? ⟨g, k * 4 + 3, none⟩ = false := by
 obtain ⟨b, off, e, _, _, _, hc, hf⟩ := (h.below hb).el (i := k) hk (by omega)
 simp only [Option.some.injEq, Addr.mk.injEq, and_true] at e
 obtain ⟨rfl, rfl⟩ := e
 have H : ∀ j, j < 4 → w1.cell? ⟨g, k * 4 + j, none⟩ = some (drF (fun _ => (none, 0, 0)) [] k j) := fun j hj => by have := hc j hj; rw [Nat.zero_add] at this; rw [this]; simp [paF]
 have G : ∀ j, j < 4 → w1.frozen? ⟨g, k * 4 + j, none⟩ = false := fun j hj => by have := hf rfl j hj; rwa [Nat.zero_add] at this
 exact ⟨⟨H 0 (by omega), H 1 (by omega), H 2 (by omega), H 3 (by omega)⟩, G 0 (by omega), G 1 (by omega), G 2 (by omega), G 3 (by omega)⟩
theorem Try.infoDoer : (Try.prog.info? 39).map (fun i => (i.zero, i.size, i.bytes)) = some (some (.agg #[.bool false, .int .i64 0, .slice none 0 0, .int .i64 0]), 4, 48) := by kernel_rfl
theorem toDoers_any {own : Bool} {lo hi : Nat} (ao : Option Addr) (n cap : Nat) (K : Nat → Hd) (ds : List Dr) (w : World) (h : DoersAt w own lo hi ao n cap K ds) (hn : n ≤ 1048576) (hm : ∀ i, i < n → (K i).2.1 ≤ 1048576) :
  Calls Try.prog 100 #[.slice ao n cap] w fun e w' => ∃ g K', e = .returned (.slice (some ⟨g, 0, none⟩) n n) ∧ w.heap.size ≤ g ∧ g < w'.heap.size ∧ DoersAt w' true w.heap.size w'.heap.size (some ⟨g, 0, none⟩) n n K' ds ∧ (∀ i, i < n → (K' i).2.1 = (K i).2.1) ∧ Below w.heap.size w w' := by
 have hx := h.len
 obtain ⟨i0, hi0, hz0, hz1, hz2⟩ := info_parts Try.infoDoer
 have HM : Hid _ := hm
 clear hm
 go_enter Try.func100, Try.ntmps100
 go_wp2_with (first | (at_make; refine wpList_make_full _ rfl _ _ 27 rfl w.heap.size 39 i0 (.agg #[.bool false, .int .i64 0, .slice none 0 0, .int .i64 0]) 4 Try.underlying27 hi0 hz0 hz1 _ _ _ _ n rfl rfl rfl rfl ?b1 ?b2 ?b3 ?_))
 case b1 => rw [hz2]; omega
 case b2 => unfold maxLen; omega
 case b3 => exact Nat.le_refl _
 intro w1 hown hgrow
 have hb1 : Below w.heap.size w w1 := (Below.refl _ _).grown hgrow (Nat.le_refl _) (fun k hk => by cases hk)
 have hown0 : w1.ownsRow w.heap.size 39 4 (.slice (some ⟨w.heap.size, 0, none⟩) n n) n (flatF 4 n (paF kd0 [] 0)) := by
  rw [← made_doers]; simpa [Value.cells] using hown
 have hlt0 := (owns_lt hown0).2
 have E0 := ElsAt.of_made hown0 ds
 clear hown hgrow hown0
 generalize hg : w.heap.size = g at *
 have HG : Hid _ := hg
 clear hg
 go_wp2
 go_loopw [4] (fun i wr => ∃ k : Nat, k ≤ n ∧ i = .int .i64 k ∧ (∃ K', ElsAt 4 wr true g wr.heap.size (some ⟨g, 0, none⟩) n n (paF K' ds k) K' (paL ds k) ∧ (∀ i, i < k → (K' i).2.1 = (K i).2.1)) ∧ g < wr.heap.size ∧ Below g w wr) (fun i _ => n - (intOf i).toNat)
 case atStart => exact ⟨0, Nat.zero_le _, rfl, ⟨kd0, E0, fun i hi => absurd hi (Nat.not_lt_zero _)⟩, hlt0, hb1⟩
 case round =>
  obtain ⟨k, hk, rfl, ⟨K', E, HE⟩, hgl, hb⟩ := hrel
  clear E0 hb1 hlt0
  by_cases hlt : k < n
  ·have hlk : (k : Int) < (n : Int) := by omega
   obtain ⟨b, off, rfl, _, _, hbs, e0, e1, e2, e3, _⟩ := h.doer hlt
   replace hb : Below w.heap.size w wr := by rw [HG.out]; exact hb
   have R := (h.els.logs k hlt).below hb
   replace e0 := cell_later hb e0
   replace e1 := cell_later hb e1
   replace e2 := cell_later hb e2
   replace e3 := cell_later hb e3
   replace hb : Below g w wr := by rw [← HG.out]; exact hb
   have hmk := HM.out k hlt
   have HQ : Hid (∀ w1, Below wr.heap.size wr w1 → (w1.cell? ⟨g, k * 4, none⟩ = some (.bool false) ∧ w1.cell? ⟨g, k * 4 + 1, none⟩ = some (.int .i64 0) ∧ w1.cell? ⟨g, k * 4 + 2, none⟩ = some (.slice none 0 0) ∧ w1.cell? ⟨g, k * 4 + 3, none⟩ = some (.int .i64 0)) ∧ w1.frozen? ⟨g, k * 4, none⟩ = false ∧ w1.frozen? ⟨g, k * 4 + 1, none⟩ = false ∧ w1.frozen? ⟨g, k * 4 + 2, none⟩ = false ∧ w1.frozen? ⟨g, k * 4 + 3, none⟩ = false) := fun w1 hb1 => doer_there E hlt hb1
   have HP : Hid (∀ w1 g1 kn la xs cm, ds.getD k dr0 = (kn, la, xs, cm) → Below wr.heap.size wr w1 → wr.heap.size ≤ g1 → g1 < w1.heap.size → RowAt w1 true g1 (g1 + 1) 6 (some ⟨g1, 0, none⟩) (K k).2.1 (K k).2.1 (sixs xs) → ElsAt 4 ((((w1.setCell ⟨g, k * 4, none⟩ (.bool kn)).setCell ⟨g, k * 4 + 1, none⟩ (.int .i64 la)).setCell ⟨g, k * 4 + 2, none⟩ (.slice (some ⟨g1, 0, none⟩) (K k).2.1 (K k).2.1)).setCell ⟨g, k * 4 + 3, none⟩ (.int .i64 cm)) true g w1.heap.size (some ⟨g, 0, none⟩) n n (paF (fun j => if j = k then (some ⟨g1, 0, none⟩, (K k).2.1, (K k).2.1) else K' j) ds (k + 1)) (fun j => if j = k then (some ⟨g1, 0, none⟩, (K k).2.1, (K k).2.1) else K' j) (paL ds (k + 1))) := fun w1 g1 kn la xs cm hd hb1 hg1 hl1 hr => doer_put E hlt hb1 g1 _ _ hg1 (xs := xs) hr (fun _ => hl1) kn la cm hd
   have HE2 : Hid (∀ g1 i, i < k + 1 → ((fun j => if j = k then ((some ⟨g1, 0, none⟩ : Option Addr), (K k).2.1, (K k).2.1) else K' j) i).2.1 = (K i).2.1) := fun g1 i hi => by
    by_cases e : i = k
    ·simp [e]
    ·simp only [if_neg e]; exact HE i (by omega)
   clear E HE
   generalize hkk : K k = q at *
   obtain ⟨qa, qm, qc⟩ := q
   obtain ⟨⟨kn, la, xs, cm⟩, hdk⟩ : ∃ d, ds.getD k dr0 = d := ⟨_, rfl⟩
   have HDK : Hid _ := hdk
   unfold drL at R
   rw [hdk] at e0 e1 e3 R
   clear hdk
   simp only at e0 e1 e2 e3 R hmk HQ HP HE2
   go_wp2_with fail
   refine (toDoer_any kn la cm qa qm qc xs _ R hmk).mono ?_
   rintro e w1 ⟨g1, rfl, hg1, hl1, R1, hb1⟩
   obtain ⟨⟨z0, z1, z2, z3⟩, y0, y1, y2, y3⟩ := HQ.out w1 hb1
   have P := HP.out w1 g1 kn la xs cm HDK.out hb1 hg1 hl1 R1
   have E3 := HE2.out g1
   replace hb := below_step hb (Nat.le_of_lt hgl) hb1
   have hgl' := Nat.lt_of_lt_of_le hgl hb1.size
   clear HQ HP HE2 HDK e0 e1 e2 e3 R R1 hb1 hg1 hl1
   have HP : Hid _ := P
   have HE3 : Hid _ := E3
   clear P E3
   have hS : Below g w ((((w1.setCell ⟨g, k * 4, none⟩ (.bool kn)).setCell ⟨g, k * 4 + 1, none⟩ (.int .i64 la)).setCell ⟨g, k * 4 + 2, none⟩ (.slice (some ⟨g1, 0, none⟩) qm qm)).setCell ⟨g, k * 4 + 3, none⟩ (.int .i64 cm)) := by
    repeat (with_reducible refine Below.setCell ?_ (by simp <;> omega) _)
    exact hb
   have hT : g < ((((w1.setCell ⟨g, k * 4, none⟩ (.bool kn)).setCell ⟨g, k * 4 + 1, none⟩ (.int .i64 la)).setCell ⟨g, k * 4 + 2, none⟩ (.slice (some ⟨g1, 0, none⟩) qm qm)).setCell ⟨g, k * 4 + 3, none⟩ (.int .i64 cm)).heap.size := by simpa using hgl'
   have HT : Hid _ := hT
   clear hT hb
   go_wp2
   go_roundw
   case rel => exact ⟨k + 1, by omega, by go_num, ⟨_, HP.out.widen (Nat.le_refl _) (by simp), HE3.out⟩, HT.out, hS⟩
   case measure => simp [intOf]; omega
  ·obtain rfl : k = n := by omega
   go_wp2
   go_ret
   rw [HG.out]
   refine ⟨g, K', rfl, Nat.le_refl _, hgl, ⟨hx, E.congr (fun i j hi hj => ?_) (fun i hi => ?_)⟩, HE, hb⟩
   ·simp [paF, hi]
   ·simp [paL, hi]
theorem eqDoer_yes {o1 o2 : Bool} {l1 u1 l2 u2 : Nat} (kn : Bool) (la cm : Int) (a1 a2 : Option Addr) (n d1 m d2 : Nat) (xs : List En) (w : World) (h1 : RowAt w o1 l1 u1 6 a1 n d1 (sixs xs)) (h2 : RowAt w o2 l2 u2 6 a2 m d2 (sixs xs)) (hn : n ≤ 2097152) :
  Calls Try.prog 125 #[.agg #[.bool kn, .int .i64 la, .slice a1 n d1, .int .i64 cm], .agg #[.bool kn, .int .i64 la, .slice a2 m d2, .int .i64 cm]] w fun e w' => e = .returned (.bool true) ∧ Below w.heap.size w w' := by
 have e1 : (kn != kn) = false := by simp
 have e2 : (la != la) = false := by simp
 have e3 : (cm != cm) = false := by simp
 go_enter Try.func125, Try.ntmps125
 go_wp2_with (first | ((have g := ob0); clear g; (with_reducible refine box_newX 39 [.bool kn, .int .i64 la, .slice a2 m d2, .int .i64 cm] rfl ?_); intro b1 W1 N1; have ob1 := N1.o B; have o0_b1 := N1.u X0; replace X0 := N1.r X0; replace c0 := X0.cell; replace B := N1.n B; obtain ⟨X1, c1⟩ := N1.c; clear N1) | ((with_reducible refine box_newX 39 [.bool kn, .int .i64 la, .slice a1 n d1, .int .i64 cm] rfl ?_); intro b0 W0 N0; have ob0 := N0.ge; have B := N0.below; obtain ⟨X0, c0⟩ := N0.c; clear N0) | fail)
 refine (eqEntries_yes a1 a2 n d1 m d2 xs _ (h1.below B) (h2.below B) hn).mono ?_
 rintro e w1 ⟨rfl, BB⟩
 replace X0 := X0.below BB
 replace c0 := X0.cell
 replace X1 := X1.below BB
 replace c1 := X1.cell
 replace B := below_next B BB
 clear BB
 go_wp2
 go_ret
 exact ⟨rfl, B⟩
theorem eqDoers_yes {o1 o2 : Bool} {l1 u1 l2 u2 : Nat} (a1 a2 : Option Addr) (n c1 m c2 : Nat) (K1 K2 : Nat → Hd) (ds : List Dr) (w : World) (h1 : DoersAt w o1 l1 u1 a1 n c1 K1 ds) (h2 : DoersAt w o2 l2 u2 a2 m c2 K2 ds) (hn : n ≤ 2097152) (hm : ∀ i, i < n → (K1 i).2.1 ≤ 2097152) :
  Calls Try.prog 108 #[.slice a1 n c1, .slice a2 m c2] w fun e w' => e = .returned (.bool true) ∧ Below w.heap.size w w' := by
 obtain rfl : n = m := by rw [← h1.len, ← h2.len]
 have hb0 : ((n : Int) != (n : Int)) = false := by simp
 have HM : Hid _ := hm
 clear hm
 go_enter Try.func108, Try.ntmps108
 go_wp2
 go_loopw [5] (fun i wr => ∃ k : Nat, k ≤ n ∧ i = .int .i64 k ∧ Below w.heap.size w wr) (fun i _ => n - (intOf i).toNat)
 case atStart => exact ⟨0, Nat.zero_le _, rfl, Below.refl _ _⟩
 case round =>
  obtain ⟨k, hk, rfl, hb⟩ := hrel
  by_cases hlt : k < n
  ·have hlk : (k : Int) < (n : Int) := by omega
   have D : Below wr.heap.size wr wr.drew := (Below.refl _ _).drew
   replace hb := below_next hb D
   clear D
   obtain ⟨b1, f1, rfl, _, _, _, e0, e1, e2, e3, _⟩ := h1.doer hlt
   obtain ⟨b2, f2, rfl, _, _, _, d0, d1, d2, d3, _⟩ := h2.doer hlt
   have g1 := (h1.els.logs k hlt).below hb
   have g2 := (h2.els.logs k hlt).below hb
   have hmk := HM.out k hlt
   replace e0 := cell_later hb e0
   replace e1 := cell_later hb e1
   replace e2 := cell_later hb e2
   replace e3 := cell_later hb e3
   replace d0 := cell_later hb d0
   replace d1 := cell_later hb d1
   replace d2 := cell_later hb d2
   replace d3 := cell_later hb d3
   unfold drL at g1 g2
   generalize K1 k = q1 at *
   generalize K2 k = q2 at *
   generalize ds.getD k dr0 = d at *
   obtain ⟨p1, m1, t1⟩ := q1
   obtain ⟨p2, m2, t2⟩ := q2
   obtain ⟨kn, la, xs, cm⟩ := d
   simp only at e0 e1 e2 e3 d0 d1 d2 d3 g1 g2 hmk
   go_wp2_with fail
   go_region_held3 (fun w' => w'.cell? ⟨b1, f1 + k * 4, none⟩ = some (.bool kn) ∧ w'.cell? ⟨b1, f1 + k * 4 + 1, none⟩ = some (.int .i64 la) ∧ w'.cell? ⟨b1, f1 + k * 4 + 2, none⟩ = some (.slice p1 m1 t1) ∧ w'.cell? ⟨b1, f1 + k * 4 + 3, none⟩ = some (.int .i64 cm) ∧ w'.cell? ⟨b2, f2 + k * 4, none⟩ = some (.bool kn) ∧ w'.cell? ⟨b2, f2 + k * 4 + 1, none⟩ = some (.int .i64 la) ∧ w'.cell? ⟨b2, f2 + k * 4 + 2, none⟩ = some (.slice p2 m2 t2) ∧ w'.cell? ⟨b2, f2 + k * 4 + 3, none⟩ = some (.int .i64 cm)) (exact ⟨e0, e1, e2, e3, d0, d1, d2, d3⟩) (first | (go_at_call 125; refine (eqDoer_yes kn la cm _ _ _ _ _ _ xs _ g1 g2 hmk).mono ?_; rintro e w3 ⟨rfl, hb3⟩; replace e0 := cell_later hb3 e0; replace e1 := cell_later hb3 e1; replace e2 := cell_later hb3 e2; replace e3 := cell_later hb3 e3; replace d0 := cell_later hb3 d0; replace d1 := cell_later hb3 d1; replace d2 := cell_later hb3 d2; replace d3 := cell_later hb3 d3; replace hb := below_next hb hb3; clear hb3))
   clear e0 e1 e2 e3 d0 d1 d2 d3 g1 g2
   go_wp2
   go_roundw
   case rel => exact ⟨k + 1, by omega, by go_num, hb⟩
   case measure => simp [intOf]; omega
  ·obtain rfl : k = n := by omega
   go_wp2
   go_ret
   exact ⟨rfl, hb⟩
theorem szDoer_left (kn : Bool) (la cm : Int) (a : Option Addr) (n c : Nat) (lt : Int) (w : World) (hn : n ≤ maxLen) (h0 : 0 ≤ lt) (h1 : lt ≤ 1048576) :
  Calls Try.prog 116 #[.agg #[.bool kn, .int .i64 la, .slice a n c, .int .i64 cm], .int .i64 lt] w fun e w' => e = .returned (.int .i64 (if lt < n then -1 else lt - n)) ∧ Below w.heap.size w w' := by
 go_enter Try.func116, Try.ntmps116
 go_wp2_with (first | ((with_reducible refine box_newX 156 [.bool kn, .int .i64 la, .slice a n c, .int .i64 cm] rfl ?_); intro b0 W0 N0; have ob0 := N0.ge; have B := N0.below; obtain ⟨X0, c0⟩ := N0.c; clear N0) | fail)
 refine (szEntries_left a n c lt _ hn h0 h1).mono ?_
 rintro e W9 ⟨rfl, rfl⟩
 by_cases hb : lt < n
 ·rw [if_pos hb]
  go_wp2
  go_ret
  exact ⟨rfl, B⟩
 ·rw [if_neg hb]
  have hb2 : ¬ lt - (n : Int) < 0 := by omega
  go_wp2
  go_ret
  exact ⟨rfl, B⟩
theorem szDoers_left {own : Bool} {lo hi : Nat} (ao : Option Addr) (n cap : Nat) (K : Nat → Hd) (ds : List Dr) (lt : Int) (w : World) (h : DoersAt w own lo hi ao n cap K ds) (hn : n ≤ maxLen) (hl : ∀ i, i < n → (K i).2.1 ≤ maxLen) (h0 : 0 ≤ lt) (h1 : lt ≤ 1048576) :
  Calls Try.prog 95 #[.slice ao n cap, .int .i64 lt] w fun e w' => ∃ r : Int, e = .returned (.int .i64 r) ∧ Below w.heap.size w w' ∧ (r < 0 ∨ (0 ≤ r ∧ r ≤ 1048576 ∧ n ≤ 1048576 ∧ ∀ i, i < n → (K i).2.1 ≤ 1048576)) := by
 have HL : Hid _ := hl
 clear hl
 by_cases hbig : lt < n
 ·have hbi : lt - (n : Int) < 0 := by omega
  unfold maxLen at hn
  go_enter Try.func95, Try.ntmps95
  go_wp2
  go_ret
  exact ⟨-1, rfl, Below.refl _ _, Or.inl (by omega)⟩
 have hbi : ¬ lt - (n : Int) < 0 := by omega
 unfold maxLen at hn
 go_enter Try.func95, Try.ntmps95
 go_wp2
 go_loopw [1, 5] (fun l i wr => ∃ k : Nat, k ≤ n ∧ i = .int .i64 k ∧ (∃ r : Int, l = .int .i64 r ∧ 0 ≤ r ∧ r ≤ 1048576) ∧ Hid (∀ i, i < k → (K i).2.1 ≤ 1048576) ∧ Below w.heap.size w wr) (fun _ i _ => n - (intOf i).toNat)
 case atStart => exact ⟨0, Nat.zero_le _, rfl, ⟨_, rfl, by omega, by omega⟩, fun i hi => absurd hi (Nat.not_lt_zero _), Below.refl _ _⟩
 case round =>
  obtain ⟨k, hk, rfl, ⟨r, rfl, hr0, hr1⟩, HK, hb⟩ := hrel
  by_cases hlt : k < n
  ·have hlk : (k : Int) < (n : Int) := by omega
   obtain ⟨b, off, rfl, _, _, hbs, e0, e1, e2, e3, _⟩ := h.doer hlt
   replace e0 := cell_later hb e0
   replace e1 := cell_later hb e1
   replace e2 := cell_later hb e2
   replace e3 := cell_later hb e3
   have hmk := HL.out k hlt
   have HQ : Hid (∀ m, (K k).2.1 = m → m ≤ 1048576 → ∀ i, i < k + 1 → (K i).2.1 ≤ 1048576) := fun m hm hm2 i hi => by
    rcases Nat.lt_succ_iff_lt_or_eq.1 hi with q | q
    ·exact HK.out i q
    ·rw [q, hm]; exact hm2
   clear HK
   generalize K k = hk' at *
   obtain ⟨ha, m, hc⟩ := hk'
   simp only at e2 hmk HQ
   generalize (ds.getD k dr0).1 = kn at *
   generalize (ds.getD k dr0).2.1 = la at *
   generalize (ds.getD k dr0).2.2.2 = cm at *
   go_wp2_with fail
   refine (szDoer_left kn la cm ha m hc r _ hmk hr0 hr1).mono ?_
   rintro e W ⟨rfl, hb1⟩
   replace hb := below_step hb hb.size hb1
   clear hb1 e0 e1 e2 e3
   by_cases hb : r < m
   ·rw [if_pos hb]
    go_wp2
    go_ret
    exact ⟨-1, rfl, by assumption, Or.inl (by omega)⟩
   ·rw [if_neg hb]
    have hb2 : ¬ r - (m : Int) < 0 := by omega
    have HQ' := HQ.out m rfl (by omega)
    clear HQ
    go_wp2
    go_roundw
    case rel => exact ⟨k + 1, by omega, by go_num, ⟨_, rfl, by omega, by omega⟩, HQ', by assumption⟩
    case measure => simp [intOf]; omega
  ·obtain rfl : k = n := by omega
   go_wp2
   go_ret
   exact ⟨r, rfl, hb, Or.inr ⟨hr0, by omega, by omega, HK.out⟩⟩
theorem toInts_new {own : Bool} {lo hi : Nat} (ao : Option Addr) (n cap : Nat) (xs : List Int) (w : World) (h : RowAt w own lo hi 1 ao n cap (ints xs)) (hn : n ≤ 1048576) :
  Calls Try.prog 98 #[.slice ao n cap] w fun e w' => e = .returned (.slice (some ⟨w.heap.size, 0, none⟩) n n) ∧ RowAt w' true w.heap.size w'.heap.size 1 (some ⟨w.heap.size, 0, none⟩) n n (ints xs) ∧ Below w.heap.size w w' ∧ w.heap.size < w'.heap.size := by
 have hx := h.nInts
 obtain ⟨i0, hi0, hz0, hz1, hz2⟩ := info_parts Try.info2'
 go_enter Try.func98, Try.ntmps98
 go_wp2_with (first | (at_make; refine wpList_make_full _ rfl _ _ 25 rfl w.heap.size 2 i0 (.int .i64 0) 1 Try.underlying25 hi0 hz0 hz1 _ _ _ _ n rfl rfl rfl rfl ?b1 ?b2 ?b3 ?_))
 case b1 => rw [hz2]; omega
 case b2 => unfold maxLen; omega
 case b3 => exact Nat.le_refl _
 intro w1 hown hgrow
 have hb1 : Below w.heap.size w w1 := (Below.refl _ _).grown hgrow (Nat.le_refl _) (fun k hk => by cases hk)
 have hown0 : w1.ownsRow w.heap.size 2 1 (.slice (some ⟨w.heap.size, 0, none⟩) n n) n (cop (ints xs) (.int .i64 0) 0) := by
  rw [cop_zero, ints_length, hx]; simpa [Value.cells, toList_madeCells_one] using hown
 clear hown hgrow
 go_wp2
 go_loopw [4] (fun i wr => ∃ k : Nat, k ≤ n ∧ i = .int .i64 k ∧ wr.ownsRow w.heap.size 2 1 (.slice (some ⟨w.heap.size, 0, none⟩) n n) n (cop (ints xs) (.int .i64 0) k) ∧ Below w.heap.size w wr) (fun i _ => n - (intOf i).toNat)
 case atStart => exact ⟨0, Nat.zero_le _, rfl, hown0, hb1⟩
 case round =>
  obtain ⟨k, hk, rfl, hown, hb⟩ := hrel
  clear hown0 hb1
  by_cases hlt : k < n
  ·obtain ⟨b, off, rfl, _, _, hbs, hc, _⟩ := h.int hlt
   have hcr : wr.cell? ⟨b, off + k, none⟩ = some (.int .i64 (xs.getD k 0)) := (hb.cell (p := ⟨b, off + k, none⟩) hbs).trans hc
   have hcw : wr.cell? ⟨w.heap.size, k, none⟩ = some (.int .i64 0) := by
    rw [hown.cellAt k (by omega), cop_get _ _ _ _ (Nat.le_refl _) (by rw [ints_length]; omega)]
   have hfw : wr.frozen? ⟨w.heap.size, k, none⟩ = false := hown.frozenAt k
   have R := hown.stored k (.int .i64 (xs.getD k 0))
   rw [cop_set _ _ _ k (by rw [ints_length]; omega) (ints_getD xs k (by omega))] at R
   have hb2 : Below w.heap.size w (wr.setCell ⟨w.heap.size, k, none⟩ (.int .i64 (xs.getD k 0))) := hb.setCell (p := ⟨w.heap.size, k, none⟩) (Nat.le_refl _) _
   have R2 := R.1
   clear hc R hown hb
   generalize xs.getD k 0 = x at *
   go_wp2
   go_roundw
   case rel => exact ⟨k + 1, by omega, by go_num, R2, hb2⟩
   case measure => simp [intOf]; omega
  ·go_wp2
   go_ret
   have hkn : k = (ints xs).length := by rw [ints_length]; omega
   rw [hkn, cop_all] at hown
   exact ⟨rfl, RowAt.of_owns hown (Nat.le_refl _), hb, (owns_lt hown).2⟩
theorem toBools_new {own : Bool} {lo hi : Nat} (ao : Option Addr) (n cap : Nat) (bs : List Bool) (w : World) (h : RowAt w own lo hi 1 ao n cap (bls bs)) (hn : n ≤ 1048576) :
  Calls Try.prog 99 #[.slice ao n cap] w fun e w' => e = .returned (.slice (some ⟨w.heap.size, 0, none⟩) n n) ∧ RowAt w' true w.heap.size w'.heap.size 1 (some ⟨w.heap.size, 0, none⟩) n n (bls bs) ∧ Below w.heap.size w w' ∧ w.heap.size < w'.heap.size := by
 have hx := h.nBools
 obtain ⟨i0, hi0, hz0, hz1, hz2⟩ := info_parts Try.info4'
 go_enter Try.func99, Try.ntmps99
 go_wp2_with (first | (at_make; refine wpList_make_full _ rfl _ _ 26 rfl w.heap.size 4 i0 (.bool false) 1 Try.underlying26 hi0 hz0 hz1 _ _ _ _ n rfl rfl rfl rfl ?b1 ?b2 ?b3 ?_))
 case b1 => rw [hz2]; omega
 case b2 => unfold maxLen; omega
 case b3 => exact Nat.le_refl _
 intro w1 hown hgrow
 have hb1 : Below w.heap.size w w1 := (Below.refl _ _).grown hgrow (Nat.le_refl _) (fun k hk => by cases hk)
 have hown0 : w1.ownsRow w.heap.size 4 1 (.slice (some ⟨w.heap.size, 0, none⟩) n n) n (cop (bls bs) (.bool false) 0) := by
  rw [cop_zero, bls_length, hx]; simpa [Value.cells, toList_madeCells_one] using hown
 clear hown hgrow
 go_wp2
 go_loopw [4] (fun i wr => ∃ k : Nat, k ≤ n ∧ i = .int .i64 k ∧ wr.ownsRow w.heap.size 4 1 (.slice (some ⟨w.heap.size, 0, none⟩) n n) n (cop (bls bs) (.bool false) k) ∧ Below w.heap.size w wr) (fun i _ => n - (intOf i).toNat)
 case atStart => exact ⟨0, Nat.zero_le _, rfl, hown0, hb1⟩
 case round =>
  obtain ⟨k, hk, rfl, hown, hb⟩ := hrel
  clear hown0 hb1
  by_cases hlt : k < n
  ·obtain ⟨b, off, rfl, _, _, hbs, hc, _⟩ := h.bool hlt
   have hcr : wr.cell? ⟨b, off + k, none⟩ = some (.bool (bs.getD k false)) := (hb.cell (p := ⟨b, off + k, none⟩) hbs).trans hc
   have hcw : wr.cell? ⟨w.heap.size, k, none⟩ = some (.bool false) := by
    rw [hown.cellAt k (by omega), cop_get _ _ _ _ (Nat.le_refl _) (by rw [bls_length]; omega)]
   have hfw : wr.frozen? ⟨w.heap.size, k, none⟩ = false := hown.frozenAt k
   have R := hown.stored k (.bool (bs.getD k false))
   rw [cop_set _ _ _ k (by rw [bls_length]; omega) (bls_getD bs k (by omega))] at R
   have hb2 : Below w.heap.size w (wr.setCell ⟨w.heap.size, k, none⟩ (.bool (bs.getD k false))) := hb.setCell (p := ⟨w.heap.size, k, none⟩) (Nat.le_refl _) _
   have R2 := R.1
   clear hc R hown hb
   generalize bs.getD k false = x at *
   go_wp2
   go_roundw
   case rel => exact ⟨k + 1, by omega, by go_num, R2, hb2⟩
   case measure => simp [intOf]; omega
  ·go_wp2
   go_ret
   have hkn : k = (bls bs).length := by rw [bls_length]; omega
   rw [hkn, cop_all] at hown
   exact ⟨rfl, RowAt.of_owns hown (Nat.le_refl _), hb, (owns_lt hown).2⟩
theorem toInts_g {own : Bool} {lo hi : Nat} (ao : Option Addr) (n cap : Nat) (xs : List Int) (w : World) (h : RowAt w own lo hi 1 ao n cap (ints xs)) (hn : n ≤ 1048576) :
  Calls Try.prog 98 #[.slice ao n cap] w fun e w' => ∃ g, e = .returned (.slice (some ⟨g, 0, none⟩) n n) ∧ w.heap.size ≤ g ∧ g < w'.heap.size ∧ RowAt w' true g (g + 1) 1 (some ⟨g, 0, none⟩) n n (ints xs) ∧ Below w.heap.size w w' :=
 (toInts_new ao n cap xs w h hn).mono fun _ _ ⟨e1, r, b, l⟩ => ⟨_, e1, Nat.le_refl _, l, r.tightG, b⟩
theorem toBools_g {own : Bool} {lo hi : Nat} (ao : Option Addr) (n cap : Nat) (xs : List Bool) (w : World) (h : RowAt w own lo hi 1 ao n cap (bls xs)) (hn : n ≤ 1048576) :
  Calls Try.prog 99 #[.slice ao n cap] w fun e w' => ∃ g, e = .returned (.slice (some ⟨g, 0, none⟩) n n) ∧ w.heap.size ≤ g ∧ g < w'.heap.size ∧ RowAt w' true g (g + 1) 1 (some ⟨g, 0, none⟩) n n (bls xs) ∧ Below w.heap.size w w' :=
 (toBools_new ao n cap xs w h hn).mono fun _ _ ⟨e1, r, b, l⟩ => ⟨_, e1, Nat.le_refl _, l, r.tightG, b⟩
theorem toDoers_z {own : Bool} {lo hi : Nat} (ao : Option Addr) (n cap : Nat) (K : Nat → Hd) (ds : List Dr) (w : World) (h : DoersAt w own lo hi ao n cap K ds) (hn : n ≤ 1048576) (hm : ∀ i, i < n → (K i).2.1 ≤ 1048576) :
  Calls Try.prog 100 #[.slice ao n cap] w fun e w' => ∃ z g K', e = .returned (.slice (some ⟨g, 0, none⟩) n n) ∧ w.heap.size ≤ z ∧ z < w'.heap.size ∧ z ≤ g ∧ DoersAt w' true z w'.heap.size (some ⟨g, 0, none⟩) n n K' ds ∧ (∀ i, i < n → (K' i).2.1 = (K i).2.1) ∧ Below w.heap.size w w' :=
 (toDoers_any ao n cap K ds w h hn hm).mono fun _ _ ⟨g, K', e1, h1, h2, d, k, b⟩ => ⟨w.heap.size, g, K', e1, Nat.le_refl _, Nat.lt_of_le_of_lt h1 h2, h1, d, k, b⟩
theorem szBools_any (ao : Option Addr) (n cap : Nat) (l : Int) (w : World) (hn : n ≤ maxLen) (h0 : 0 ≤ l) (h1 : l ≤ 1048576) :
  Calls Try.prog 94 #[.slice ao n cap, .int .i64 l] w fun e w' => e = .returned (.int .i64 (if l < n then -1 else l - n)) ∧ w' = w := by
 unfold maxLen at hn
 by_cases h : l < n
 all_goals
  go_enter Try.func94, Try.ntmps94
  go_wp2
  go_ret
  exact ⟨by simp, rfl⟩
theorem repAt_of {w : World} {g5 g7 g8 g9 z9 n5 m5 n7 m7 n8 m8 n9 m9 : Nat} {K' : Nat → Hd} {r : Rep} {lo hi u : Nat} (R5 : RowAt w true g5 (g5 + 1) 6 (some ⟨g5, 0, none⟩) n5 m5 (sixs r.log)) (R7 : RowAt w true g7 (g7 + 1) 1 (some ⟨g7, 0, none⟩) n7 m7 (ints r.oks)) (R8 : RowAt w true g8 (g8 + 1) 1 (some ⟨g8, 0, none⟩) n8 m8 (bls r.asks)) (D : DoersAt w true z9 u (some ⟨g9, 0, none⟩) n9 m9 K' r.doers)
  (h5 : lo ≤ g5 ∧ g5 < hi) (h7 : lo ≤ g7 ∧ g7 < hi) (h8 : lo ≤ g8 ∧ g8 < hi) (h9 : lo ≤ z9 ∧ u ≤ hi) (o1 : g5 ≠ g7 ∧ g5 ≠ g8 ∧ g7 ≠ g8) (o2 : g5 < z9 ∧ g7 < z9 ∧ g8 < z9) :
  RepAt w true lo hi ⟨(some ⟨g5, 0, none⟩, n5, m5), (some ⟨g7, 0, none⟩, n7, m7), (some ⟨g8, 0, none⟩, n8, m8), (some ⟨g9, 0, none⟩, n9, m9), K'⟩ r :=
 ⟨R5.widen h5.1 h5.2, R7.widen h7.1 h7.2, R8.widen h8.1 h8.2, D.widen h9.1 h9.2, fun _ => ⟨fun x h1 h2 => o1.1 (h1.2.symm.trans h2.2), fun x h1 h2 => o1.2.1 (h1.2.symm.trans h2.2), fun x h1 h2 => by have := (D.els.inB h2).1; have e : x = g5 := h1.2; omega, fun x h1 h2 => o1.2.2 (h1.2.symm.trans h2.2), fun x h1 h2 => by have := (D.els.inB h2).1; have e : x = g7 := h1.2; omega, fun x h1 h2 => by have := (D.els.inB h2).1; have e : x = g8 := h1.2; omega⟩⟩
theorem toReplica_any {own : Bool} {lo hi : Nat} (r : Rep) (h : RH) (w : World) (x : RepAt w own lo hi h r) (hs : RSz h 1048576) :
  Calls Try.prog 73 #[.agg #[.int .i64 r.id, .int .i64 r.size, .int .i64 r.view, .bool r.normal, .int .i64 r.last, .slice h.L.1 h.L.2.1 h.L.2.2, .int .i64 r.commit, .slice h.O.1 h.O.2.1 h.O.2.2, .slice h.A.1 h.A.2.1 h.A.2.2, .slice h.D.1 h.D.2.1 h.D.2.2]] w fun e w' => ∃ h' : RH, e = .returned (.agg #[.int .i64 r.id, .int .i64 r.size, .int .i64 r.view, .bool r.normal, .int .i64 r.last, .slice h'.L.1 h'.L.2.1 h'.L.2.2, .int .i64 r.commit, .slice h'.O.1 h'.O.2.1 h'.O.2.2, .slice h'.A.1 h'.A.2.1 h'.A.2.2, .slice h'.D.1 h'.D.2.1 h'.D.2.2]) ∧ RepAt w' true w.heap.size w'.heap.size h' r ∧ RSz h' 1048576 ∧ Below w.heap.size w w' := by
 have HS : Hid (∀ i, i < h.D.2.1 → (h.K i).2.1 ≤ 1048576) := hs.K
 go_enter Try.func73, Try.ntmps73
 go_wp2_with (first | ((with_reducible refine so 2 X2 4 (.int .i64 r.last) ?_); intro V5 S; replace X0 := X0.kp S.kept; replace c0 := X0.cell; replace X1 := X1.kp S.kept; replace c1 := X1.cell; replace f1 := X1.froz; replace X2 : Bx V5 b2 [.int .i64 r.id, .int .i64 r.size, .int .i64 r.view, .bool r.normal, .int .i64 r.last, .slice none 0 0, .int .i64 0, .slice none 0 0, .slice none 0 0, .slice none 0 0] := S.bx; replace c2 := X2.cell; replace f2 := X2.froz; replace B := bkp B S.kept; clear S) | ((with_reducible refine so 4 X2 3 (.bool r.normal) ?_); intro V4 S; replace X0 := X0.kp S.kept; replace c0 := X0.cell; replace X1 := X1.kp S.kept; replace c1 := X1.cell; replace f1 := X1.froz; replace X2 : Bx V4 b2 [.int .i64 r.id, .int .i64 r.size, .int .i64 r.view, .bool r.normal, .int .i64 0, .slice none 0 0, .int .i64 0, .slice none 0 0, .slice none 0 0, .slice none 0 0] := S.bx; replace c2 := X2.cell; replace f2 := X2.froz; replace B := bkp B S.kept; clear S) | ((with_reducible refine so 2 X2 2 (.int .i64 r.view) ?_); intro V3 S; replace X0 := X0.kp S.kept; replace c0 := X0.cell; replace X1 := X1.kp S.kept; replace c1 := X1.cell; replace f1 := X1.froz; replace X2 : Bx V3 b2 [.int .i64 r.id, .int .i64 r.size, .int .i64 r.view, .bool false, .int .i64 0, .slice none 0 0, .int .i64 0, .slice none 0 0, .slice none 0 0, .slice none 0 0] := S.bx; replace c2 := X2.cell; replace f2 := X2.froz; replace B := bkp B S.kept; clear S) | ((with_reducible refine so 2 X2 1 (.int .i64 r.size) ?_); intro V2 S; replace X0 := X0.kp S.kept; replace c0 := X0.cell; replace X1 := X1.kp S.kept; replace c1 := X1.cell; replace f1 := X1.froz; replace X2 : Bx V2 b2 [.int .i64 r.id, .int .i64 r.size, .int .i64 0, .bool false, .int .i64 0, .slice none 0 0, .int .i64 0, .slice none 0 0, .slice none 0 0, .slice none 0 0] := S.bx; replace c2 := X2.cell; replace f2 := X2.froz; replace B := bkp B S.kept; clear S) | ((with_reducible refine so 2 X2 0 (.int .i64 r.id) ?_); intro V1 S; replace X0 := X0.kp S.kept; replace c0 := X0.cell; replace X1 := X1.kp S.kept; replace c1 := X1.cell; replace f1 := X1.froz; replace X2 : Bx V1 b2 [.int .i64 r.id, .int .i64 0, .int .i64 0, .bool false, .int .i64 0, .slice none 0 0, .int .i64 0, .slice none 0 0, .slice none 0 0, .slice none 0 0] := S.bx; replace c2 := X2.cell; replace f2 := X2.froz; replace B := bkp B S.kept; clear S) | ((have g := ob1); clear g; (with_reducible refine al 29 [.int .i64 0, .int .i64 0, .int .i64 0, .bool false, .int .i64 0, .slice none 0 0, .int .i64 0, .slice none 0 0, .slice none 0 0, .slice none 0 0] ?_); intro b2 W2 N2; have ob2 := N2.o B; have o0_b2 := N2.u X0; have o1_b2 := N2.u X1; replace X0 := N2.r X0; replace c0 := X0.cell; replace X1 := N2.r X1; replace c1 := X1.cell; replace f1 := X1.froz; replace B := N2.n B; obtain ⟨X2, c2, f2⟩ := N2.a; clear N2) | ((have g := ob0); clear g; (with_reducible refine al 29 [.int .i64 0, .int .i64 0, .int .i64 0, .bool false, .int .i64 0, .slice none 0 0, .int .i64 0, .slice none 0 0, .slice none 0 0, .slice none 0 0] ?_); intro b1 W1 N1; have ob1 := N1.o B; have o0_b1 := N1.u X0; replace X0 := N1.r X0; replace c0 := X0.cell; replace B := N1.n B; obtain ⟨X1, c1, f1⟩ := N1.a; clear N1) | ((with_reducible refine box_newX 107 [.int .i64 r.id, .int .i64 r.size, .int .i64 r.view, .bool r.normal, .int .i64 r.last, .slice h.L.1 h.L.2.1 h.L.2.2, .int .i64 r.commit, .slice h.O.1 h.O.2.1 h.O.2.2, .slice h.A.1 h.A.2.1 h.A.2.2, .slice h.D.1 h.D.2.1 h.D.2.2] rfl ?_); intro b0 W0 N0; have ob0 := N0.ge; have B := N0.below; obtain ⟨X0, c0⟩ := N0.c; clear N0) | fail)
 refine (toEntries_g _ _ _ r.log _ (by exact x.log.below B) hs.L).mono ?_
 rintro e w1 ⟨g5, rfl, Gg5, lR5, R5, BB⟩
 have og5 : w.heap.size ≤ g5 := Nat.le_trans B.size Gg5
 have o0_g5 := ltl X0.lt Gg5
 have o1_g5 := ltl X1.lt Gg5
 have o2_g5 := ltl X2.lt Gg5
 clear Gg5
 replace X0 := X0.below BB
 replace c0 := X0.cell
 replace X1 := X1.below BB
 replace c1 := X1.cell
 replace f1 := X1.froz
 replace X2 := X2.below BB
 replace c2 := X2.cell
 replace f2 := X2.froz
 replace B := below_next B BB
 clear BB
 go_wp2_with (first | ((with_reducible refine so 2 X2 6 (.int .i64 r.commit) ?_); intro V7 S; replace X0 := X0.kp S.kept; replace c0 := X0.cell; replace X1 := X1.kp S.kept; replace c1 := X1.cell; replace f1 := X1.froz; replace X2 : Bx V7 b2 [.int .i64 r.id, .int .i64 r.size, .int .i64 r.view, .bool r.normal, .int .i64 r.last, .slice (some ⟨g5, 0, none⟩) h.L.2.1 h.L.2.1, .int .i64 r.commit, .slice none 0 0, .slice none 0 0, .slice none 0 0] := S.bx; replace c2 := X2.cell; replace f2 := X2.froz; replace R5 := R5.kept S.kept (by omega); replace lR5 := Nat.lt_of_lt_of_le lR5 S.kept.size; replace B := bkp B S.kept; clear S) | ((with_reducible refine so 24 X2 5 (.slice (some ⟨g5, 0, none⟩) h.L.2.1 h.L.2.1) ?_); intro V6 S; replace X0 := X0.kp S.kept; replace c0 := X0.cell; replace X1 := X1.kp S.kept; replace c1 := X1.cell; replace f1 := X1.froz; replace X2 : Bx V6 b2 [.int .i64 r.id, .int .i64 r.size, .int .i64 r.view, .bool r.normal, .int .i64 r.last, .slice (some ⟨g5, 0, none⟩) h.L.2.1 h.L.2.1, .int .i64 0, .slice none 0 0, .slice none 0 0, .slice none 0 0] := S.bx; replace c2 := X2.cell; replace f2 := X2.froz; replace R5 := R5.kept S.kept (by omega); replace lR5 := Nat.lt_of_lt_of_le lR5 S.kept.size; replace B := bkp B S.kept; clear S) | fail)
 refine (toInts_g _ _ _ r.oks _ (by exact x.oks.below B) hs.O).mono ?_
 rintro e w2 ⟨g7, rfl, Gg7, lR7, R7, BB⟩
 have og7 : w.heap.size ≤ g7 := Nat.le_trans B.size Gg7
 have o0_g7 := ltl X0.lt Gg7
 have o1_g7 := ltl X1.lt Gg7
 have o2_g7 := ltl X2.lt Gg7
 have oR5_g7 := ltl lR5 Gg7
 clear Gg7
 replace X0 := X0.below BB
 replace c0 := X0.cell
 replace X1 := X1.below BB
 replace c1 := X1.cell
 replace f1 := X1.froz
 replace X2 := X2.below BB
 replace c2 := X2.cell
 replace f2 := X2.froz
 replace R5 := R5.below BB
 replace lR5 := Nat.lt_of_lt_of_le lR5 BB.size
 replace B := below_next B BB
 clear BB
 go_wp2_with (first | ((with_reducible refine so 25 X2 7 (.slice (some ⟨g7, 0, none⟩) h.O.2.1 h.O.2.1) ?_); intro V8 S; replace X0 := X0.kp S.kept; replace c0 := X0.cell; replace X1 := X1.kp S.kept; replace c1 := X1.cell; replace f1 := X1.froz; replace X2 : Bx V8 b2 [.int .i64 r.id, .int .i64 r.size, .int .i64 r.view, .bool r.normal, .int .i64 r.last, .slice (some ⟨g5, 0, none⟩) h.L.2.1 h.L.2.1, .int .i64 r.commit, .slice (some ⟨g7, 0, none⟩) h.O.2.1 h.O.2.1, .slice none 0 0, .slice none 0 0] := S.bx; replace c2 := X2.cell; replace f2 := X2.froz; replace R5 := R5.kept S.kept (by omega); replace lR5 := Nat.lt_of_lt_of_le lR5 S.kept.size; replace R7 := R7.kept S.kept (by omega); replace lR7 := Nat.lt_of_lt_of_le lR7 S.kept.size; replace B := bkp B S.kept; clear S) | fail)
 refine (toBools_g _ _ _ r.asks _ (by exact x.asks.below B) hs.A).mono ?_
 rintro e w3 ⟨g8, rfl, Gg8, lR8, R8, BB⟩
 have og8 : w.heap.size ≤ g8 := Nat.le_trans B.size Gg8
 have o0_g8 := ltl X0.lt Gg8
 have o1_g8 := ltl X1.lt Gg8
 have o2_g8 := ltl X2.lt Gg8
 have oR5_g8 := ltl lR5 Gg8
 have oR7_g8 := ltl lR7 Gg8
 clear Gg8
 replace X0 := X0.below BB
 replace c0 := X0.cell
 replace X1 := X1.below BB
 replace c1 := X1.cell
 replace f1 := X1.froz
 replace X2 := X2.below BB
 replace c2 := X2.cell
 replace f2 := X2.froz
 replace R5 := R5.below BB
 replace lR5 := Nat.lt_of_lt_of_le lR5 BB.size
 replace R7 := R7.below BB
 replace lR7 := Nat.lt_of_lt_of_le lR7 BB.size
 replace B := below_next B BB
 clear BB
 go_wp2_with (first | ((with_reducible refine so 26 X2 8 (.slice (some ⟨g8, 0, none⟩) h.A.2.1 h.A.2.1) ?_); intro V9 S; replace X0 := X0.kp S.kept; replace c0 := X0.cell; replace X1 := X1.kp S.kept; replace c1 := X1.cell; replace f1 := X1.froz; replace X2 : Bx V9 b2 [.int .i64 r.id, .int .i64 r.size, .int .i64 r.view, .bool r.normal, .int .i64 r.last, .slice (some ⟨g5, 0, none⟩) h.L.2.1 h.L.2.1, .int .i64 r.commit, .slice (some ⟨g7, 0, none⟩) h.O.2.1 h.O.2.1, .slice (some ⟨g8, 0, none⟩) h.A.2.1 h.A.2.1, .slice none 0 0] := S.bx; replace c2 := X2.cell; replace f2 := X2.froz; replace R5 := R5.kept S.kept (by omega); replace lR5 := Nat.lt_of_lt_of_le lR5 S.kept.size; replace R7 := R7.kept S.kept (by omega); replace lR7 := Nat.lt_of_lt_of_le lR7 S.kept.size; replace R8 := R8.kept S.kept (by omega); replace lR8 := Nat.lt_of_lt_of_le lR8 S.kept.size; replace B := bkp B S.kept; clear S) | fail)
 refine (toDoers_z _ _ _ h.K r.doers _ (by exact x.doers.below B) hs.D HS.out).mono ?_
 rintro e w4 ⟨z9, g9, K', rfl, Gz9, lD, hz9, D, hK', BB⟩
 have oz9 : w.heap.size ≤ z9 := Nat.le_trans B.size Gz9
 have o0_z9 := ltl X0.lt Gz9
 have o1_z9 := ltl X1.lt Gz9
 have o2_z9 := ltl X2.lt Gz9
 have oR5_z9 := ltl lR5 Gz9
 have oR7_z9 := ltl lR7 Gz9
 have oR8_z9 := ltl lR8 Gz9
 clear Gz9
 replace X0 := X0.below BB
 replace c0 := X0.cell
 replace X1 := X1.below BB
 replace c1 := X1.cell
 replace f1 := X1.froz
 replace X2 := X2.below BB
 replace c2 := X2.cell
 replace f2 := X2.froz
 replace R5 := R5.below BB
 replace lR5 := Nat.lt_of_lt_of_le lR5 BB.size
 replace R7 := R7.below BB
 replace lR7 := Nat.lt_of_lt_of_le lR7 BB.size
 replace R8 := R8.below BB
 replace lR8 := Nat.lt_of_lt_of_le lR8 BB.size
 replace B := below_next B BB
 have HK : Hid _ := hK'
 clear hK'
 have uD : w4.heap.size ≤ w4.heap.size := Nat.le_refl _
 clear BB
 go_wp2_with (first | ((with_reducible refine sm 29 X1 0 [.int .i64 r.id, .int .i64 r.size, .int .i64 r.view, .bool r.normal, .int .i64 r.last, .slice (some ⟨g5, 0, none⟩) h.L.2.1 h.L.2.1, .int .i64 r.commit, .slice (some ⟨g7, 0, none⟩) h.O.2.1 h.O.2.1, .slice (some ⟨g8, 0, none⟩) h.A.2.1 h.A.2.1, .slice (some ⟨g9, 0, none⟩) h.D.2.1 h.D.2.1] ?_); intro V11 S; replace X0 := X0.kp S.kept; replace c0 := X0.cell; replace X1 : Bx V11 b1 [.int .i64 r.id, .int .i64 r.size, .int .i64 r.view, .bool r.normal, .int .i64 r.last, .slice (some ⟨g5, 0, none⟩) h.L.2.1 h.L.2.1, .int .i64 r.commit, .slice (some ⟨g7, 0, none⟩) h.O.2.1 h.O.2.1, .slice (some ⟨g8, 0, none⟩) h.A.2.1 h.A.2.1, .slice (some ⟨g9, 0, none⟩) h.D.2.1 h.D.2.1] := S.bx; replace c1 := X1.cell; replace f1 := X1.froz; replace X2 := X2.kp S.kept; replace c2 := X2.cell; replace f2 := X2.froz; replace R5 := R5.kept S.kept (by omega); replace lR5 := Nat.lt_of_lt_of_le lR5 S.kept.size; replace R7 := R7.kept S.kept (by omega); replace lR7 := Nat.lt_of_lt_of_le lR7 S.kept.size; replace R8 := R8.kept S.kept (by omega); replace lR8 := Nat.lt_of_lt_of_le lR8 S.kept.size; replace D := D.kept S.kept (by omega); replace lD := Nat.lt_of_lt_of_le lD S.kept.size; replace uD := Nat.le_trans uD S.kept.size; replace B := bkp B S.kept; clear S) | ((with_reducible refine so 27 X2 9 (.slice (some ⟨g9, 0, none⟩) h.D.2.1 h.D.2.1) ?_); intro V10 S; replace X0 := X0.kp S.kept; replace c0 := X0.cell; replace X1 := X1.kp S.kept; replace c1 := X1.cell; replace f1 := X1.froz; replace X2 : Bx V10 b2 [.int .i64 r.id, .int .i64 r.size, .int .i64 r.view, .bool r.normal, .int .i64 r.last, .slice (some ⟨g5, 0, none⟩) h.L.2.1 h.L.2.1, .int .i64 r.commit, .slice (some ⟨g7, 0, none⟩) h.O.2.1 h.O.2.1, .slice (some ⟨g8, 0, none⟩) h.A.2.1 h.A.2.1, .slice (some ⟨g9, 0, none⟩) h.D.2.1 h.D.2.1] := S.bx; replace c2 := X2.cell; replace f2 := X2.froz; replace R5 := R5.kept S.kept (by omega); replace lR5 := Nat.lt_of_lt_of_le lR5 S.kept.size; replace R7 := R7.kept S.kept (by omega); replace lR7 := Nat.lt_of_lt_of_le lR7 S.kept.size; replace R8 := R8.kept S.kept (by omega); replace lR8 := Nat.lt_of_lt_of_le lR8 S.kept.size; replace D := D.kept S.kept (by omega); replace lD := Nat.lt_of_lt_of_le lD S.kept.size; replace uD := Nat.le_trans uD S.kept.size; replace B := bkp B S.kept; clear S))
 refine bodyPost_ret (v := .agg #[.int .i64 r.id, .int .i64 r.size, .int .i64 r.view, .bool r.normal, .int .i64 r.last, .slice (some ⟨g5, 0, none⟩) h.L.2.1 h.L.2.1, .int .i64 r.commit, .slice (some ⟨g7, 0, none⟩) h.O.2.1 h.O.2.1, .slice (some ⟨g8, 0, none⟩) h.A.2.1 h.A.2.1, .slice (some ⟨g9, 0, none⟩) h.D.2.1 h.D.2.1]) (by simp [results, Try.results73, go_sem, *]) rfl ⟨⟨(some ⟨g5, 0, none⟩, h.L.2.1, h.L.2.1), (some ⟨g7, 0, none⟩, h.O.2.1, h.O.2.1), (some ⟨g8, 0, none⟩, h.A.2.1, h.A.2.1), (some ⟨g9, 0, none⟩, h.D.2.1, h.D.2.1), K'⟩, rfl, ?_, ?_, B⟩
 ·exact repAt_of R5 R7 R8 D ⟨by omega, by omega⟩ ⟨by omega, by omega⟩ ⟨by omega, by omega⟩ ⟨by omega, by omega⟩ ⟨by omega, by omega, by omega⟩ ⟨by omega, by omega, by omega⟩
 ·exact ⟨hs.L, hs.O, hs.A, hs.D, fun i hi => by rw [HK.out i hi]; exact HS.out i hi⟩
theorem eqReplica_yes {o1 o2 : Bool} {l1 u1 l2 u2 : Nat} (r : Rep) (h k : RH) (w : World) (x : RepAt w o1 l1 u1 h r) (y : RepAt w o2 l2 u2 k r) (hs : RSz h 2097152) :
  Calls Try.prog 79 #[.agg #[.int .i64 r.id, .int .i64 r.size, .int .i64 r.view, .bool r.normal, .int .i64 r.last, .slice h.L.1 h.L.2.1 h.L.2.2, .int .i64 r.commit, .slice h.O.1 h.O.2.1 h.O.2.2, .slice h.A.1 h.A.2.1 h.A.2.2, .slice h.D.1 h.D.2.1 h.D.2.2], .agg #[.int .i64 r.id, .int .i64 r.size, .int .i64 r.view, .bool r.normal, .int .i64 r.last, .slice k.L.1 k.L.2.1 k.L.2.2, .int .i64 r.commit, .slice k.O.1 k.O.2.1 k.O.2.2, .slice k.A.1 k.A.2.1 k.A.2.2, .slice k.D.1 k.D.2.1 k.D.2.2]] w fun e w' => e = .returned (.bool true) ∧ Below w.heap.size w w' := by
 have e0 : (r.id != r.id) = false := by simp
 have e1 : (r.size != r.size) = false := by simp
 have e2 : (r.view != r.view) = false := by simp
 have e3 : (r.normal != r.normal) = false := by simp
 have e4 : (r.last != r.last) = false := by simp
 have e5 : (r.commit != r.commit) = false := by simp
 have HS : Hid (∀ i, i < h.D.2.1 → (h.K i).2.1 ≤ 2097152) := hs.K
 have hk : k.O.2.1 ≤ 2097152 := by rw [← y.oks.nInts, x.oks.nInts]; exact hs.O
 go_enter Try.func79, Try.ntmps79
 go_wp2_with (first | ((have g := ob0); clear g; (with_reducible refine box_newX 29 [.int .i64 r.id, .int .i64 r.size, .int .i64 r.view, .bool r.normal, .int .i64 r.last, .slice k.L.1 k.L.2.1 k.L.2.2, .int .i64 r.commit, .slice k.O.1 k.O.2.1 k.O.2.2, .slice k.A.1 k.A.2.1 k.A.2.2, .slice k.D.1 k.D.2.1 k.D.2.2] rfl ?_); intro b1 W1 N1; have ob1 := N1.o B; have o0_b1 := N1.u X0; replace X0 := N1.r X0; replace c0 := X0.cell; replace B := N1.n B; obtain ⟨X1, c1⟩ := N1.c; clear N1) | ((with_reducible refine box_newX 29 [.int .i64 r.id, .int .i64 r.size, .int .i64 r.view, .bool r.normal, .int .i64 r.last, .slice h.L.1 h.L.2.1 h.L.2.2, .int .i64 r.commit, .slice h.O.1 h.O.2.1 h.O.2.2, .slice h.A.1 h.A.2.1 h.A.2.2, .slice h.D.1 h.D.2.1 h.D.2.2] rfl ?_); intro b0 W0 N0; have ob0 := N0.ge; have B := N0.below; obtain ⟨X0, c0⟩ := N0.c; clear N0) | fail)
 refine (eqEntries_yes _ _ _ _ _ _ r.log _ (x.log.below B) (y.log.below B) hs.L).mono ?_
 rintro e w1 ⟨rfl, BB⟩
 replace X0 := X0.below BB
 replace c0 := X0.cell
 replace X1 := X1.below BB
 replace c1 := X1.cell
 replace B := below_next B BB
 clear BB
 go_wp2_with fail
 refine (eqInts_is _ _ _ _ _ _ r.oks r.oks _ (x.oks.below B) (y.oks.below B) hs.O hk true (by simp)).mono ?_
 rintro e w2 ⟨rfl, BB⟩
 replace X0 := X0.below BB
 replace c0 := X0.cell
 replace X1 := X1.below BB
 replace c1 := X1.cell
 replace B := below_next B BB
 clear BB
 go_wp2_with fail
 refine (eqBools_yes _ _ _ _ _ _ r.asks _ (x.asks.below B) (y.asks.below B) hs.A).mono ?_
 rintro e w3 ⟨rfl, BB⟩
 replace X0 := X0.below BB
 replace c0 := X0.cell
 replace X1 := X1.below BB
 replace c1 := X1.cell
 replace B := below_next B BB
 clear BB
 go_wp2_with fail
 refine (eqDoers_yes _ _ _ _ _ _ h.K k.K r.doers _ (x.doers.below B) (y.doers.below B) hs.D HS.out).mono ?_
 rintro e w4 ⟨rfl, BB⟩
 replace X0 := X0.below BB
 replace c0 := X0.cell
 replace X1 := X1.below BB
 replace c1 := X1.cell
 replace B := below_next B BB
 clear BB
 go_wp2
 go_ret
 exact ⟨rfl, B⟩
end Go.Proofs.Ytjefmhjlaibbkaa
