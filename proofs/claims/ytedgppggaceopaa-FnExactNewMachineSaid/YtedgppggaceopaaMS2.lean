/- Chapter 12: machines in memory: counted, copied and compared by the laws. -/
import Derived.Test.YtedgppggaceopaaWA
import Derived.Test.YtedgppggaceopaaMS1
import Derived.Test.YtedgppggaceopaaPV2
namespace Go.Proofs.Ytedgppggaceopaa
open Go.RowKit

/-- where a machine's lists lie -/
structure MacH where
  N : Hd
  B : Hd
  V : Hd
  S : Hd
  K : Nat → KS
abbrev Mac := Fo × List Vo × List Se
structure MacAt (w : World) (own : Bool) (lo hi : Nat) (h : MacH) (m : Mac) : Prop where
  fo : FoAt w own lo hi h.N.1 h.N.2.1 h.N.2.2 h.B.1 h.B.2.1 h.B.2.2 h.K m.1
  vo : RowAt w own lo hi 3 h.V.1 h.V.2.1 h.V.2.2 (trips m.2.1)
  se : RowAt w own lo hi 4 h.S.1 h.S.2.1 h.S.2.2 (fours m.2.2)
structure MacSz (h : MacH) (f : Fo) (z : Nat) : Prop where
  n : h.N.2.1 ≤ z
  b : h.B.2.1 ≤ z
  v : h.V.2.1 ≤ z
  s : h.S.2.1 ≤ z
  k : kl f.1 h.N.2.1 ≤ z
theorem fo_lensM {w : World} {o : Bool} {l u : Nat} {an : Option Addr} {nn cn : Nat} {ab : Option Addr} {nb cb : Nat} {K : Nat → KS} {f : Fo} (h : FoAt w o l u an nn cn ab nb cb K f) {N : Nat} (hk : kl f.1 nn ≤ N) : ∀ i, i < nn → (K i).2.1 ≤ N := fun i hi => by
  have h1 := h.nodes.nKids hi
  have h2 := kl_at (ns := f.1) (i := i) (by rw [h.nodes.len]; exact hi)
  rw [h.nodes.len] at h2
  omega
section
variable {w w' : World} {own : Bool} {lo hi : Nat} {h : MacH} {m : Mac}
theorem MacAt.below (x : MacAt w own lo hi h m) (hb : Below w.heap.size w w') : MacAt w' own lo hi h m := ⟨x.fo.below hb, x.vo.below hb, x.se.below hb⟩
theorem MacAt.kept (x : MacAt w own lo hi h m) {l u : Nat} (hk : Kept l u w w') (hd : hi ≤ l ∨ u ≤ lo) : MacAt w' own lo hi h m := ⟨x.fo.kept hk hd, x.vo.kept hk hd, x.se.kept hk hd⟩
theorem MacAt.widen (x : MacAt w own lo hi h m) {lo' hi' : Nat} (h1 : lo' ≤ lo) (h2 : hi ≤ hi') : MacAt w own lo' hi' h m := ⟨x.fo.widen h1 h2, x.vo.widen h1 h2, x.se.widen h1 h2⟩
theorem MacSz.mono {f : Fo} {z z' : Nat} (s : MacSz h f z) (hz : z ≤ z') : MacSz h f z' := ⟨Nat.le_trans s.n hz, Nat.le_trans s.b hz, Nat.le_trans s.v hz, Nat.le_trans s.s hz, Nat.le_trans s.k hz⟩
end
set_option maxRecDepth 20000 in
set_option maxHeartbeats 2000000 in
theorem szMachine_lt {own : Bool} {lo hi : Nat} (h : MacH) (m : Mac) (w : World) (x : MacAt w own lo hi h m) (hn : h.N.2.1 ≤ maxLen) (hb : h.B.2.1 ≤ maxLen) (hK : ∀ i, i < h.N.2.1 → (h.K i).2.1 ≤ maxLen) (hv : h.V.2.1 ≤ maxLen) (hs : h.S.2.1 ≤ maxLen) (L0 : Int) (g0 : 0 ≤ L0) (g1 : L0 ≤ 1048576) :
    Calls Try.prog 7 #[.agg #[.slice h.N.1 h.N.2.1 h.N.2.2, .slice h.B.1 h.B.2.1 h.B.2.2, .slice h.V.1 h.V.2.1 h.V.2.2, .slice h.S.1 h.S.2.1 h.S.2.2], .int .i64 L0] w fun e w' => ∃ q : Int, e = .returned (.int .i64 q) ∧ Below w.heap.size w w' ∧ (q < 0 ∨ (0 ≤ q ∧ q ≤ L0 ∧ MacSz h m.1 1048576)) := by
  have HK : Hid _ := hK
  clear hK
  go_enter Try.func7, Try.ntmps7
  go_wp2_with (first | ((with_reducible refine box_newX 31 [.slice h.N.1 h.N.2.1 h.N.2.2, .slice h.B.1 h.B.2.1 h.B.2.2, .slice h.V.1 h.V.2.1 h.V.2.2, .slice h.S.1 h.S.2.1 h.S.2.2] rfl ?_); intro b0 W0 N0; have ob0 : w.heap.size ≤ b0 := N0.ge; have B := N0.below; have X0 := N0.bx; have c0 := X0.cell; clear N0) | fail)
  refine (szPool_left h.N.1 h.N.2.1 h.N.2.2 h.B.1 h.B.2.1 h.B.2.2 h.V.1 h.V.2.1 h.V.2.2 h.K m.1 m.2.1 _ (x.fo.below B) (x.vo.below B) hn hb HK.out hv L0 g0 g1).mono ?_
  rintro e w1 ⟨q, rfl, BB, hq⟩
  replace X0 := X0.below BB
  replace c0 := X0.cell
  replace B := below_next B BB
  clear BB
  rcases hq with hq | ⟨h0, h1⟩
  · go_wp2
    go_ret
    exact ⟨-1, rfl, B, Or.inl (by omega)⟩
  have HQ : Hid _ := h1
  have hq1 : q ≤ 1048576 := by omega
  have hqL : Hid (q ≤ L0) := by show q ≤ L0; omega
  have hq0 : ¬ q < 0 := by omega
  clear h1
  go_wp2_with fail
  refine (szSessions_left h.S.1 h.S.2.1 h.S.2.2 q _ hs h0 hq1).mono ?_
  rintro e W9 ⟨rfl, rfl⟩
  by_cases hx : q < h.S.2.1
  · rw [if_pos hx]
    go_wp2
    go_ret
    exact ⟨-1, rfl, B, Or.inl (by omega)⟩
  rw [if_neg hx]
  have hx' : ¬ (q - (h.S.2.1 : Int) < 0) := by omega
  have HX : Hid (MacSz h m.1 1048576) := by have := HQ.out; have := hqL.out; exact ⟨by omega, by omega, by omega, by omega, by omega⟩
  have HL : Hid (q - (h.S.2.1 : Int) ≤ L0) := by have := hqL.out; show _ ≤ _; omega
  clear hq1
  go_wp2
  go_ret
  exact ⟨_, rfl, B, Or.inr ⟨by omega, HL.out, HX.out⟩⟩
theorem toPool_z {o o2 : Bool} {l u l2 u2 : Nat} (h : MacH) (m : Mac) (w : World) (x : FoAt w o l u h.N.1 h.N.2.1 h.N.2.2 h.B.1 h.B.2.1 h.B.2.2 h.K m.1) (hv : RowAt w o2 l2 u2 3 h.V.1 h.V.2.1 h.V.2.2 (trips m.2.1)) (hs : MacSz h m.1 1048576) :
    Calls Try.prog 25 #[.agg #[.slice h.N.1 h.N.2.1 h.N.2.2, .slice h.B.1 h.B.2.1 h.B.2.2, .slice h.V.1 h.V.2.1 h.V.2.2]] w fun e w' => ∃ (z u : Nat) (N' B' V' : Hd) (K' : Nat → KS), e = .returned (.agg #[.slice N'.1 N'.2.1 N'.2.2, .slice B'.1 B'.2.1 B'.2.2, .slice V'.1 V'.2.1 V'.2.2]) ∧ w.heap.size ≤ z ∧ u ≤ w'.heap.size ∧ (FoAt w' true z u N'.1 N'.2.1 N'.2.2 B'.1 B'.2.1 B'.2.2 K' m.1 ∧ RowAt w' true z u 3 V'.1 V'.2.1 V'.2.2 (trips m.2.1)) ∧ N'.2.1 = h.N.2.1 ∧ B'.2.1 = h.B.2.1 ∧ V'.2.1 = h.V.2.1 ∧ Below w.heap.size w w' :=
  (toPool_any h.N.1 h.N.2.1 h.N.2.2 h.B.1 h.B.2.1 h.B.2.2 h.V.1 h.V.2.1 h.V.2.2 h.K m.1 m.2.1 w x hv hs.n hs.b (fo_lensM x hs.k) hs.v).mono fun _ w' ⟨bn, bb, bv, _, K', e, F, V, m1, m2, b⟩ => ⟨w.heap.size, w'.heap.size, (bn, h.N.2.1, h.N.2.1), (bb, h.B.2.1, h.B.2.1), (bv, h.V.2.1, h.V.2.1), K', e, Nat.le_refl _, Nat.le_refl _, ⟨F.widen (Nat.le_refl _) m2, V.widen m1 (Nat.le_refl _)⟩, rfl, rfl, rfl, b⟩
structure PoA (w : World) (z u : Nat) (N B V : Hd) (K : Nat → KS) (m : Mac) : Prop where
  fo : FoAt w true z u N.1 N.2.1 N.2.2 B.1 B.2.1 B.2.2 K m.1
  vo : RowAt w true z u 3 V.1 V.2.1 V.2.2 (trips m.2.1)
theorem PoA.below {w w' : World} {z u : Nat} {N B V : Hd} {K : Nat → KS} {m : Mac} (x : PoA w z u N B V K m) (hb : Below w.heap.size w w') : PoA w' z u N B V K m := ⟨x.fo.below hb, x.vo.below hb⟩
theorem PoA.kept {w w' : World} {z u : Nat} {N B V : Hd} {K : Nat → KS} {m : Mac} (x : PoA w z u N B V K m) {l r : Nat} (hk : Kept l r w w') (hd : u ≤ l ∨ r ≤ z) : PoA w' z u N B V K m := ⟨x.fo.kept hk hd, x.vo.kept hk hd⟩
set_option maxRecDepth 20000 in
set_option maxHeartbeats 2000000 in
theorem toMachine_any {own : Bool} {lo hi : Nat} (h : MacH) (m : Mac) (w : World) (x : MacAt w own lo hi h m) (hs : MacSz h m.1 1048576) :
    Calls Try.prog 9 #[.agg #[.slice h.N.1 h.N.2.1 h.N.2.2, .slice h.B.1 h.B.2.1 h.B.2.2, .slice h.V.1 h.V.2.1 h.V.2.2, .slice h.S.1 h.S.2.1 h.S.2.2]] w fun e w' => ∃ (z u : Nat) (h' : MacH), e = .returned (.agg #[.slice h'.N.1 h'.N.2.1 h'.N.2.2, .slice h'.B.1 h'.B.2.1 h'.B.2.2, .slice h'.V.1 h'.V.2.1 h'.V.2.2, .slice h'.S.1 h'.S.2.1 h'.S.2.2]) ∧ w.heap.size ≤ z ∧ u ≤ w'.heap.size ∧ MacAt w' true z u h' m ∧ MacSz h' m.1 1048576 ∧ Below w.heap.size w w' := by
  have HS : Hid _ := hs
  have hs3 := hs.s
  clear hs
  go_enter Try.func9, Try.ntmps9
  go_wp2_with (first | ((have g := ob1); clear g; (with_reducible refine alloc_newX 43 [.slice none 0 0, .slice none 0 0, .slice none 0 0, .slice none 0 0] (fun _ => by kernel_rfl) ?_); intro b2 W2 N2; have ob2 : w.heap.size ≤ b2 := Nat.le_trans B.size N2.ge; have o0_b2 : b0 < b2 := Nat.lt_of_lt_of_le X0.lt N2.ge; have o1_b2 : b1 < b2 := Nat.lt_of_lt_of_le X1.lt N2.ge; replace X0 := X0.below N2.below; replace c0 := X0.cell; replace X1 := X1.below N2.below; replace c1 := X1.cell; replace f1 := X1.froz; replace B := below_next B N2.below; have X2 := N2.bx; have c2 := X2.cell; have f2 := X2.froz; clear N2) | ((have g := ob0); clear g; (with_reducible refine alloc_newX 43 [.slice none 0 0, .slice none 0 0, .slice none 0 0, .slice none 0 0] (fun _ => by kernel_rfl) ?_); intro b1 W1 N1; have ob1 : w.heap.size ≤ b1 := Nat.le_trans B.size N1.ge; have o0_b1 : b0 < b1 := Nat.lt_of_lt_of_le X0.lt N1.ge; replace X0 := X0.below N1.below; replace c0 := X0.cell; replace B := below_next B N1.below; have X1 := N1.bx; have c1 := X1.cell; have f1 := X1.froz; clear N1) | ((with_reducible refine box_newX 31 [.slice h.N.1 h.N.2.1 h.N.2.2, .slice h.B.1 h.B.2.1 h.B.2.2, .slice h.V.1 h.V.2.1 h.V.2.2, .slice h.S.1 h.S.2.1 h.S.2.2] rfl ?_); intro b0 W0 N0; have ob0 : w.heap.size ≤ b0 := N0.ge; have B := N0.below; have X0 := N0.bx; have c0 := X0.cell; clear N0) | fail)
  refine (toPool_z h m _ (x.fo.below B) (x.vo.below B) HS.out).mono ?_
  rintro e w1 ⟨zp, up, N', B', V', K', rfl, Gzp, hp0, ⟨pF, pV⟩, eN, eB, eV, BB⟩
  have p : PoA w1 zp up N' B' V' K' m := ⟨pF, pV⟩
  clear pF pV
  have hp := hp0
  clear hp0
  have HE : Hid (N'.2.1 = h.N.2.1 ∧ B'.2.1 = h.B.2.1 ∧ V'.2.1 = h.V.2.1) := ⟨eN, eB, eV⟩
  clear eN eB eV
  have ozp : w.heap.size ≤ zp := Nat.le_trans B.size Gzp
  have o0_zp : b0 < zp := Nat.lt_of_lt_of_le X0.lt Gzp
  have o1_zp : b1 < zp := Nat.lt_of_lt_of_le X1.lt Gzp
  have o2_zp : b2 < zp := Nat.lt_of_lt_of_le X2.lt Gzp
  clear Gzp
  replace X0 := X0.below BB
  replace c0 := X0.cell
  replace X1 := X1.below BB
  replace c1 := X1.cell
  replace f1 := X1.froz
  replace X2 := X2.below BB
  replace c2 := X2.cell
  replace f2 := X2.froz
  replace B := below_next B BB
  clear BB
  go_wp2_with (first | ((with_reducible refine store_midX 40 X2 0 [.slice N'.1 N'.2.1 N'.2.2, .slice B'.1 B'.2.1 B'.2.2, .slice V'.1 V'.2.1 V'.2.2] (by simp) (by kernel_rfl) (by simp [Value.oneCell']) rfl rfl ?_); intro V1 S; replace X0 := X0.kept S.kept (by omega); replace c0 := X0.cell; replace X1 := X1.kept S.kept (by omega); replace c1 := X1.cell; replace f1 := X1.froz; replace X2 : Bx V1 b2 [.slice N'.1 N'.2.1 N'.2.2, .slice B'.1 B'.2.1 B'.2.2, .slice V'.1 V'.2.1 V'.2.2, .slice none 0 0] := S.bx; replace c2 := X2.cell; replace f2 := X2.froz; replace p := p.kept S.kept (by omega); replace hp := Nat.le_trans hp S.kept.size; replace B := B.trans (S.kept.below _ (by omega) B.size); clear S) | fail)
  refine (toSessions_any h.S.1 h.S.2.1 h.S.2.2 m.2.2 _ (x.se.below B) hs3).mono ?_
  rintro e w2 ⟨rfl, R, BB⟩
  have e0 : ∃ g, g = V1.heap.size := ⟨_, rfl⟩
  obtain ⟨g, eg⟩ := e0
  rw [← eg] at R ⊢
  have Gg : V1.heap.size ≤ g := Nat.le_of_eq eg.symm
  have lR : w2.heap.size ≤ w2.heap.size := Nat.le_refl _
  have og : w.heap.size ≤ g := Nat.le_trans B.size Gg
  have o0_g : b0 < g := Nat.lt_of_lt_of_le X0.lt Gg
  have o1_g : b1 < g := Nat.lt_of_lt_of_le X1.lt Gg
  have o2_g : b2 < g := Nat.lt_of_lt_of_le X2.lt Gg
  have op_g : up ≤ g := Nat.le_trans hp Gg
  replace X0 := X0.below BB
  replace c0 := X0.cell
  replace X1 := X1.below BB
  replace c1 := X1.cell
  replace f1 := X1.froz
  replace X2 := X2.below BB
  replace c2 := X2.cell
  replace f2 := X2.froz
  replace p := p.below BB
  replace hp := Nat.le_trans hp BB.size
  replace B := below_next B BB
  have hR : g ≤ w2.heap.size := by rw [eg]; exact BB.size
  clear BB eg lR
  obtain ⟨uR, hu⟩ : ∃ u, u = w2.heap.size := ⟨_, rfl⟩
  have HU : Hid (g ≤ uR) := by rw [hu]; exact hR
  rw [← hu] at R
  replace hR : uR ≤ w2.heap.size := Nat.le_of_eq hu
  clear hu
  go_wp2_with (first | ((with_reducible refine store_midX 43 X1 0 [.slice N'.1 N'.2.1 N'.2.2, .slice B'.1 B'.2.1 B'.2.2, .slice V'.1 V'.2.1 V'.2.2, .slice (some ⟨g, 0, none⟩) h.S.2.1 h.S.2.1] (by simp) (by kernel_rfl) (by simp [Value.oneCell']) rfl rfl ?_); intro V3 S; replace X0 := X0.kept S.kept (by omega); replace c0 := X0.cell; replace X1 : Bx V3 b1 [.slice N'.1 N'.2.1 N'.2.2, .slice B'.1 B'.2.1 B'.2.2, .slice V'.1 V'.2.1 V'.2.2, .slice (some ⟨g, 0, none⟩) h.S.2.1 h.S.2.1] := S.bx; replace c1 := X1.cell; replace f1 := X1.froz; replace X2 := X2.kept S.kept (by omega); replace c2 := X2.cell; replace f2 := X2.froz; replace p := p.kept S.kept (by omega); replace hp := Nat.le_trans hp S.kept.size; replace R := R.kept S.kept (by omega); replace hR := Nat.le_trans hR S.kept.size; replace B := B.trans (S.kept.below _ (by omega) B.size); clear S) | ((with_reducible refine store_oneX 41 X2 3 (.slice (some ⟨g, 0, none⟩) h.S.2.1 h.S.2.1) (by simp) (by kernel_rfl) rfl rfl rfl ?_); intro V2 S; replace X0 := X0.kept S.kept (by omega); replace c0 := X0.cell; replace X1 := X1.kept S.kept (by omega); replace c1 := X1.cell; replace f1 := X1.froz; replace X2 : Bx V2 b2 [.slice N'.1 N'.2.1 N'.2.2, .slice B'.1 B'.2.1 B'.2.2, .slice V'.1 V'.2.1 V'.2.2, .slice (some ⟨g, 0, none⟩) h.S.2.1 h.S.2.1] := S.bx; replace c2 := X2.cell; replace f2 := X2.froz; replace p := p.kept S.kept (by omega); replace hp := Nat.le_trans hp S.kept.size; replace R := R.kept S.kept (by omega); replace hR := Nat.le_trans hR S.kept.size; replace B := B.trans (S.kept.below _ (by omega) B.size); clear S))
  refine bodyPost_ret (v := .agg #[.slice N'.1 N'.2.1 N'.2.2, .slice B'.1 B'.2.1 B'.2.2, .slice V'.1 V'.2.1 V'.2.2, .slice (some ⟨g, 0, none⟩) h.S.2.1 h.S.2.1]) (by simp [results, Try.results9, go_sem, *]) rfl ⟨_, _, ⟨N', B', V', (some ⟨g, 0, none⟩, h.S.2.1, h.S.2.1), K'⟩, rfl, Nat.le_refl _, Nat.le_refl _, ⟨p.fo.widen (by omega) (by omega), p.vo.widen (by omega) (by omega), R.widen (by omega) (by omega)⟩, ?_, B⟩
  obtain ⟨e1, e2, e3⟩ := HE.out
  exact ⟨by rw [e1]; exact HS.out.n, by rw [e2]; exact HS.out.b, by rw [e3]; exact HS.out.v, HS.out.s, by show kl m.1.1 N'.2.1 ≤ _; rw [e1]; exact HS.out.k⟩
set_option maxRecDepth 20000 in
set_option maxHeartbeats 2000000 in
theorem eqMachine_yes {o1 o2 : Bool} {l1 u1 l2 u2 : Nat} (h h' : MacH) (m : Mac) (w : World) (x : MacAt w o1 l1 u1 h m) (y : MacAt w o2 l2 u2 h' m) (hs : MacSz h m.1 2097152) :
    Calls Try.prog 11 #[.agg #[.slice h.N.1 h.N.2.1 h.N.2.2, .slice h.B.1 h.B.2.1 h.B.2.2, .slice h.V.1 h.V.2.1 h.V.2.2, .slice h.S.1 h.S.2.1 h.S.2.2], .agg #[.slice h'.N.1 h'.N.2.1 h'.N.2.2, .slice h'.B.1 h'.B.2.1 h'.B.2.2, .slice h'.V.1 h'.V.2.1 h'.V.2.2, .slice h'.S.1 h'.S.2.1 h'.S.2.2]] w fun e w' => e = .returned (.bool true) ∧ Below w.heap.size w w' := by
  have HS : Hid _ := hs
  have HK : Hid _ := fo_lensM x.fo hs.k
  clear hs
  go_enter Try.func11, Try.ntmps11
  go_wp2_with (first | ((have g := ob0); clear g; (with_reducible refine box_newX 43 [.slice h'.N.1 h'.N.2.1 h'.N.2.2, .slice h'.B.1 h'.B.2.1 h'.B.2.2, .slice h'.V.1 h'.V.2.1 h'.V.2.2, .slice h'.S.1 h'.S.2.1 h'.S.2.2] rfl ?_); intro b1 W1 N1; have ob1 : w.heap.size ≤ b1 := Nat.le_trans B.size N1.ge; have o0_b1 : b0 < b1 := Nat.lt_of_lt_of_le X0.lt N1.ge; replace X0 := X0.below N1.below; replace c0 := X0.cell; replace B := below_next B N1.below; have X1 := N1.bx; have c1 := X1.cell; clear N1) | ((with_reducible refine box_newX 43 [.slice h.N.1 h.N.2.1 h.N.2.2, .slice h.B.1 h.B.2.1 h.B.2.2, .slice h.V.1 h.V.2.1 h.V.2.2, .slice h.S.1 h.S.2.1 h.S.2.2] rfl ?_); intro b0 W0 N0; have ob0 : w.heap.size ≤ b0 := N0.ge; have B := N0.below; have X0 := N0.bx; have c0 := X0.cell; clear N0) | fail)
  refine (eqPool_yes _ _ _ _ _ _ _ _ _ _ _ _ _ _ _ _ _ _ h.K h'.K m.1 m.2.1 _ (x.fo.below B) (x.vo.below B) (y.fo.below B) (y.vo.below B) HS.out.n HS.out.b HK.out HS.out.v).mono ?_
  rintro e w1 ⟨rfl, BB⟩
  replace X0 := X0.below BB
  replace c0 := X0.cell
  replace X1 := X1.below BB
  replace c1 := X1.cell
  replace B := below_next B BB
  clear BB
  go_wp2_with fail
  refine (eqSessions_yes _ _ _ _ _ _ m.2.2 _ (x.se.below B) (y.se.below B) HS.out.s).mono ?_
  rintro e w2 ⟨rfl, BB⟩
  replace X0 := X0.below BB
  replace c0 := X0.cell
  replace X1 := X1.below BB
  replace c1 := X1.cell
  replace B := below_next B BB
  clear BB
  go_wp2
  go_ret
  exact ⟨rfl, B⟩

end Go.Proofs.Ytedgppggaceopaa
