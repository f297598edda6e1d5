/- Chapter 11: a cluster counted, copied and compared by the laws. -/
import Derived.Test.YtikplcpgocgogaaCO2
import Derived.Test.YtikplcpgocgogaaCO3
namespace Go.Proofs.Ytikplcpgocgogaa
open Go.RowKit

def NAt (w : World) (own : Bool) (lo hi : Nat) (N : Hd) (xs : List Nod) : Prop := LAt nodeK w own lo hi N.1 N.2.1 N.2.2 xs
def MAt (w : World) (own : Bool) (lo hi : Nat) (M : Hd) (ms : List Mal) : Prop := LAt mailK w own lo hi M.1 M.2.1 M.2.2 ms
section
variable {w w' : World} {own : Bool} {lo hi : Nat} {N M Sl : Hd} {xs : List Nod} {ms : List Mal} {es : List En}
theorem NAt.below (h : NAt w own lo hi N xs) (hb : Below w.heap.size w w') : NAt w' own lo hi N xs := LAt.below nodeOk h hb
theorem MAt.below (h : MAt w own lo hi M ms) (hb : Below w.heap.size w w') : MAt w' own lo hi M ms := LAt.below mailOk h hb
theorem NAt.kept (h : NAt w own lo hi N xs) {l u : Nat} (hk : Kept l u w w') (hd : hi ≤ l ∨ u ≤ lo) : NAt w' own lo hi N xs := LAt.kept nodeOk h hk hd
theorem MAt.kept (h : MAt w own lo hi M ms) {l u : Nat} (hk : Kept l u w w') (hd : hi ≤ l ∨ u ≤ lo) : MAt w' own lo hi M ms := LAt.kept mailOk h hk hd
theorem NAt.widen (h : NAt w own lo hi N xs) {lo' hi' : Nat} (h1 : lo' ≤ lo) (h2 : hi ≤ hi') : NAt w own lo' hi' N xs := LAt.widen nodeOk h h1 h2
theorem MAt.widen (h : MAt w own lo hi M ms) {lo' hi' : Nat} (h1 : lo' ≤ lo) (h2 : hi ≤ hi') : MAt w own lo' hi' M ms := LAt.widen mailOk h h1 h2
theorem NAt.inB (h : NAt w own lo hi N xs) {q : Nat} (hq : inL nodeK N.1 N.2.1 xs q) : lo ≤ q ∧ q < hi ∧ q < w.heap.size := LAt.inB nodeOk h hq
theorem MAt.inB (h : MAt w own lo hi M ms) {q : Nat} (hq : inL mailK M.1 M.2.1 ms q) : lo ≤ q ∧ q < hi ∧ q < w.heap.size := LAt.inB mailOk h hq
/-- a cluster's lists in memory -/
structure ClAt (w : World) (own : Bool) (lo hi : Nat) (N M Sl : Hd) (xs : List Nod) (ms : List Mal) (es : List En) : Prop where
  nodes : NAt w own lo hi N xs
  mails : MAt w own lo hi M ms
  slog : RowAt w own lo hi 6 Sl.1 Sl.2.1 Sl.2.2 (sixs es)
  sep : own = true → Sep (inL nodeK N.1 N.2.1 xs) (inL mailK M.1 M.2.1 ms) ∧ Sep (inL nodeK N.1 N.2.1 xs) (hR Sl) ∧ Sep (inL mailK M.1 M.2.1 ms) (hR Sl)
structure ClSz (N M Sl : Hd) (xs : List Nod) (ms : List Mal) (z : Nat) : Prop where
  n : N.2.1 ≤ z
  m : M.2.1 ≤ z
  s : Sl.2.1 ≤ z
  nodes : ∀ (i : Nat) (a : Nod), xs[i]? = some a → RSz a.2 z
  mails : ∀ (i : Nat) (a : Mal), ms[i]? = some a → a.2.2.1 ≤ z
theorem ClAt.below (x : ClAt w own lo hi N M Sl xs ms es) (hb : Below w.heap.size w w') : ClAt w' own lo hi N M Sl xs ms es := ⟨x.nodes.below hb, x.mails.below hb, x.slog.below hb, x.sep⟩
theorem ClAt.kept (x : ClAt w own lo hi N M Sl xs ms es) {l u : Nat} (hk : Kept l u w w') (hd : hi ≤ l ∨ u ≤ lo) : ClAt w' own lo hi N M Sl xs ms es := ⟨x.nodes.kept hk hd, x.mails.kept hk hd, x.slog.kept hk hd, x.sep⟩
theorem ClAt.widen (x : ClAt w own lo hi N M Sl xs ms es) {lo' hi' : Nat} (h1 : lo' ≤ lo) (h2 : hi ≤ hi') : ClAt w own lo' hi' N M Sl xs ms es := ⟨x.nodes.widen h1 h2, x.mails.widen h1 h2, x.slog.widen h1 h2, x.sep⟩
/-- lists in ranges of memory of their own make a cluster -/
theorem clAt_of {z1 u1 z2 u2 g : Nat} (x1 : NAt w true z1 u1 N xs) (x2 : MAt w true z2 u2 M ms) (x3 : RowAt w true g (g + 1) 6 Sl.1 Sl.2.1 Sl.2.2 (sixs es)) (h1 : u1 ≤ z2) (h2 : u2 ≤ g) (h3 : lo ≤ z2) (h4 : lo ≤ g) (h5 : u1 ≤ g) (h6 : g < hi) (h7 : lo ≤ z1) : ClAt w true lo hi N M Sl xs ms es := by
  refine ⟨x1.widen h7 (by omega), x2.widen (by omega) (by omega), x3.widen (by omega) (by omega), fun _ => ⟨fun q a b => ?_, fun q a b => ?_, fun q a b => ?_⟩⟩
  · have := x1.inB a; have := x2.inB b; omega
  · have := x1.inB a; have := x3.inB b; omega
  · have := x2.inB a; have := x3.inB b; omega
end
set_option maxRecDepth 20000 in
set_option maxHeartbeats 2000000 in
theorem szCluster_lt {own : Bool} {lo hi : Nat} (N M Sl : Hd) (xs : List Nod) (ms : List Mal) (es : List En) (w : World) (x : ClAt w own lo hi N M Sl xs ms es) (hs : ClSz N M Sl xs ms maxLen) :
    Calls Try.prog 30 #[.agg #[.slice N.1 N.2.1 N.2.2, .slice M.1 M.2.1 M.2.2, .slice Sl.1 Sl.2.1 Sl.2.2], .int .i64 1048576] w fun e w' => ∃ q : Int, e = .returned (.int .i64 q) ∧ Below w.heap.size w w' ∧ (q < 0 ∨ (0 ≤ q ∧ q ≤ 1048576 ∧ ClSz N M Sl xs ms 1048576)) := by
  have HS : Hid _ := hs
  have hs3 := hs.s
  clear hs
  go_enter Try.func30, Try.ntmps30
  go_wp2_with (first | ((with_reducible refine box_newX 73 [.slice N.1 N.2.1 N.2.2, .slice M.1 M.2.1 M.2.2, .slice Sl.1 Sl.2.1 Sl.2.2] rfl ?_); intro b0 W0 N0; have ob0 : w.heap.size ≤ b0 := N0.ge; have B := N0.below; have X0 := N0.bx; have c0 := X0.cell; clear N0) | fail)
  refine (szReplicas_lt N.1 N.2.1 N.2.2 xs 1048576 _ (x.nodes.below B) HS.out.n HS.out.nodes (by omega) (by omega)).mono ?_
  rintro e w1 ⟨p1, rfl, BB, hp1⟩
  replace X0 := X0.below BB
  replace c0 := X0.cell
  replace B := below_next B BB
  clear BB
  rcases hp1 with hp1 | ⟨p1_0, p1_1, p1_n, p1_m⟩
  · go_wp2
    go_ret
    exact ⟨-1, rfl, B, Or.inl (by omega)⟩
  have p1' : ¬ p1 < 0 := by omega
  have P1 : Hid _ := p1_m
  clear p1_m
  go_wp2_with fail
  refine (szMails_lt M.1 M.2.1 M.2.2 ms p1 _ (x.mails.below B) HS.out.m HS.out.mails p1_0 p1_1).mono ?_
  rintro e w2 ⟨p2, rfl, BB, hp2⟩
  replace X0 := X0.below BB
  replace c0 := X0.cell
  replace B := below_next B BB
  clear BB
  rcases hp2 with hp2 | ⟨p2_0, p2_1, p2_n, p2_m⟩
  · go_wp2
    go_ret
    exact ⟨-1, rfl, B, Or.inl (by omega)⟩
  have p2' : ¬ p2 < 0 := by omega
  have P2 : Hid _ := p2_m
  clear p2_m
  go_wp2_with fail
  refine (szEntries_left Sl.1 Sl.2.1 Sl.2.2 p2 _ hs3 p2_0 p2_1).mono ?_
  rintro e W9 ⟨rfl, rfl⟩
  by_cases hb : p2 < Sl.2.1
  · rw [if_pos hb]
    go_wp2
    go_ret
    exact ⟨-1, rfl, B, Or.inl (by omega)⟩
  rw [if_neg hb]
  have hb2 : ¬ p2 - (Sl.2.1 : Int) < 0 := by omega
  go_wp2
  go_ret
  exact ⟨_, rfl, B, Or.inr ⟨by omega, by omega, p1_n, p2_n, by omega, P1.out, P2.out⟩⟩
theorem toReplicas_z {own : Bool} {lo hi : Nat} (N : Hd) (xs : List Nod) (w : World) (x : NAt w own lo hi N xs) (hn : N.2.1 ≤ 1048576) (hs : ∀ (i : Nat) (a : Nod), xs[i]? = some a → RSz a.2 1048576) :
    Calls Try.prog 97 #[.slice N.1 N.2.1 N.2.2] w fun e w' => ∃ z u N' ys, e = .returned (.slice N'.1 N'.2.1 N'.2.2) ∧ w.heap.size ≤ z ∧ u ≤ w'.heap.size ∧ NAt w' true z u N' ys ∧ ys.map (·.1) = xs.map (·.1) ∧ N'.2.1 ≤ 1048576 ∧ (∀ (i : Nat) (a : Nod), ys[i]? = some a → RSz a.2 1048576) ∧ Below w.heap.size w w' :=
  (toReplicas_any N.1 N.2.1 N.2.2 xs w x hn hs).mono fun _ _ ⟨g, ys, e1, _, _, y, m, s, b⟩ => ⟨_, _, (some ⟨g, 0, none⟩, N.2.1, N.2.1), ys, e1, Nat.le_refl _, Nat.le_refl _, y, m, hn, s, b⟩
theorem toMails_z {own : Bool} {lo hi : Nat} (M : Hd) (ms : List Mal) (w : World) (x : MAt w own lo hi M ms) (hn : M.2.1 ≤ 1048576) (hs : ∀ (i : Nat) (a : Mal), ms[i]? = some a → a.2.2.1 ≤ 1048576) :
    Calls Try.prog 98 #[.slice M.1 M.2.1 M.2.2] w fun e w' => ∃ z u M' ys, e = .returned (.slice M'.1 M'.2.1 M'.2.2) ∧ w.heap.size ≤ z ∧ u ≤ w'.heap.size ∧ MAt w' true z u M' ys ∧ ys.map (·.1) = ms.map (·.1) ∧ M'.2.1 ≤ 1048576 ∧ (∀ (i : Nat) (a : Mal), ys[i]? = some a → a.2.2.1 ≤ 1048576) ∧ Below w.heap.size w w' :=
  (toMails_any M.1 M.2.1 M.2.2 ms w x hn hs).mono fun _ _ ⟨g, ys, e1, _, _, y, m, s, b⟩ => ⟨_, _, (some ⟨g, 0, none⟩, M.2.1, M.2.1), ys, e1, Nat.le_refl _, Nat.le_refl _, y, m, hn, s, b⟩
set_option maxRecDepth 20000 in
set_option maxHeartbeats 2000000 in
theorem toCluster_any {own : Bool} {lo hi : Nat} (N M Sl : Hd) (xs : List Nod) (ms : List Mal) (es : List En) (w : World) (x : ClAt w own lo hi N M Sl xs ms es) (hs : ClSz N M Sl xs ms 1048576) :
    Calls Try.prog 32 #[.agg #[.slice N.1 N.2.1 N.2.2, .slice M.1 M.2.1 M.2.2, .slice Sl.1 Sl.2.1 Sl.2.2]] w fun e w' => ∃ z u N' M' Sl' ys ns, e = .returned (.agg #[.slice N'.1 N'.2.1 N'.2.2, .slice M'.1 M'.2.1 M'.2.2, .slice Sl'.1 Sl'.2.1 Sl'.2.2]) ∧ w.heap.size ≤ z ∧ u ≤ w'.heap.size ∧ ClAt w' true z u N' M' Sl' ys ns es ∧ ys.map (·.1) = xs.map (·.1) ∧ ns.map (·.1) = ms.map (·.1) ∧ ClSz N' M' Sl' ys ns 1048576 ∧ Below w.heap.size w w' := by
  have HS : Hid _ := hs
  have hs3 := hs.s
  clear hs
  go_enter Try.func32, Try.ntmps32
  go_wp2_with (first | ((have g := ob1); clear g; (with_reducible refine alloc_newX 78 [.slice none 0 0, .slice none 0 0, .slice none 0 0] (fun _ => by kernel_rfl) ?_); intro b2 W2 N2; have ob2 : w.heap.size ≤ b2 := Nat.le_trans B.size N2.ge; have o0_b2 : b0 < b2 := Nat.lt_of_lt_of_le X0.lt N2.ge; have o1_b2 : b1 < b2 := Nat.lt_of_lt_of_le X1.lt N2.ge; replace X0 := X0.below N2.below; replace c0 := X0.cell; replace X1 := X1.below N2.below; replace c1 := X1.cell; replace f1 := X1.froz; replace B := below_next B N2.below; have X2 := N2.bx; have c2 := X2.cell; have f2 := X2.froz; clear N2) | ((have g := ob0); clear g; (with_reducible refine alloc_newX 78 [.slice none 0 0, .slice none 0 0, .slice none 0 0] (fun _ => by kernel_rfl) ?_); intro b1 W1 N1; have ob1 : w.heap.size ≤ b1 := Nat.le_trans B.size N1.ge; have o0_b1 : b0 < b1 := Nat.lt_of_lt_of_le X0.lt N1.ge; replace X0 := X0.below N1.below; replace c0 := X0.cell; replace B := below_next B N1.below; have X1 := N1.bx; have c1 := X1.cell; have f1 := X1.froz; clear N1) | ((with_reducible refine box_newX 73 [.slice N.1 N.2.1 N.2.2, .slice M.1 M.2.1 M.2.2, .slice Sl.1 Sl.2.1 Sl.2.2] rfl ?_); intro b0 W0 N0; have ob0 : w.heap.size ≤ b0 := N0.ge; have B := N0.below; have X0 := N0.bx; have c0 := X0.cell; clear N0) | fail)
  refine (toReplicas_z N xs _ (x.nodes.below B) HS.out.n HS.out.nodes).mono ?_
  rintro e w1 ⟨za, ua, N', ys, rfl, Gza, hya, ya, ma, na, sa, BB⟩
  have oza : w.heap.size ≤ za := Nat.le_trans B.size Gza
  have o0_za : b0 < za := Nat.lt_of_lt_of_le X0.lt Gza
  have o1_za : b1 < za := Nat.lt_of_lt_of_le X1.lt Gza
  have o2_za : b2 < za := Nat.lt_of_lt_of_le X2.lt Gza
  clear Gza
  replace X0 := X0.below BB
  replace c0 := X0.cell
  replace X1 := X1.below BB
  replace c1 := X1.cell
  replace f1 := X1.froz
  replace X2 := X2.below BB
  replace c2 := X2.cell
  replace f2 := X2.froz
  replace B := below_next B BB
  have MA : Hid _ := ma
  have NA : Hid _ := na
  have SA : Hid _ := sa
  clear ma na sa
  clear BB
  go_wp2_with (first | ((with_reducible refine store_oneX 76 X2 0 (.slice N'.1 N'.2.1 N'.2.2) (by simp) (by kernel_rfl) rfl rfl rfl ?_); intro V1 S; replace X0 := X0.kept S.kept (by omega); replace c0 := X0.cell; replace X1 := X1.kept S.kept (by omega); replace c1 := X1.cell; replace f1 := X1.froz; replace X2 : Bx V1 b2 [.slice N'.1 N'.2.1 N'.2.2, .slice none 0 0, .slice none 0 0] := S.bx; replace c2 := X2.cell; replace f2 := X2.froz; replace ya := ya.kept S.kept (by omega); replace hya := Nat.le_trans hya S.kept.size; replace B := B.trans (S.kept.below _ (by omega) B.size); clear S) | fail)
  refine (toMails_z M ms _ (x.mails.below B) HS.out.m HS.out.mails).mono ?_
  rintro e w2 ⟨zb, ub, M', ns, rfl, Gzb, hyb, yb, mb, nb, sb', BB⟩
  have ozb : w.heap.size ≤ zb := Nat.le_trans B.size Gzb
  have o0_zb : b0 < zb := Nat.lt_of_lt_of_le X0.lt Gzb
  have o1_zb : b1 < zb := Nat.lt_of_lt_of_le X1.lt Gzb
  have o2_zb : b2 < zb := Nat.lt_of_lt_of_le X2.lt Gzb
  have oya_zb : ua ≤ zb := Nat.le_trans hya Gzb
  clear Gzb
  replace X0 := X0.below BB
  replace c0 := X0.cell
  replace X1 := X1.below BB
  replace c1 := X1.cell
  replace f1 := X1.froz
  replace X2 := X2.below BB
  replace c2 := X2.cell
  replace f2 := X2.froz
  replace ya := ya.below BB
  replace hya := Nat.le_trans hya BB.size
  replace B := below_next B BB
  have MB : Hid _ := mb
  have NB : Hid _ := nb
  have SB : Hid _ := sb'
  clear mb nb sb'
  clear BB
  go_wp2_with (first | ((with_reducible refine store_oneX 36 X2 1 (.slice M'.1 M'.2.1 M'.2.2) (by simp) (by kernel_rfl) rfl rfl rfl ?_); intro V2 S; replace X0 := X0.kept S.kept (by omega); replace c0 := X0.cell; replace X1 := X1.kept S.kept (by omega); replace c1 := X1.cell; replace f1 := X1.froz; replace X2 : Bx V2 b2 [.slice N'.1 N'.2.1 N'.2.2, .slice M'.1 M'.2.1 M'.2.2, .slice none 0 0] := S.bx; replace c2 := X2.cell; replace f2 := X2.froz; replace ya := ya.kept S.kept (by omega); replace hya := Nat.le_trans hya S.kept.size; replace yb := yb.kept S.kept (by omega); replace hyb := Nat.le_trans hyb S.kept.size; replace B := B.trans (S.kept.below _ (by omega) B.size); clear S) | fail)
  refine (toEntries_g Sl.1 Sl.2.1 Sl.2.2 es _ (x.slog.below B) hs3).mono ?_
  rintro e w3 ⟨g, rfl, Gg, lR, R, BB⟩
  have og : w.heap.size ≤ g := Nat.le_trans B.size Gg
  have o0_g : b0 < g := Nat.lt_of_lt_of_le X0.lt Gg
  have o1_g : b1 < g := Nat.lt_of_lt_of_le X1.lt Gg
  have o2_g : b2 < g := Nat.lt_of_lt_of_le X2.lt Gg
  have oya_g : ua ≤ g := Nat.le_trans hya Gg
  have oyb_g : ub ≤ g := Nat.le_trans hyb Gg
  clear Gg
  replace X0 := X0.below BB
  replace c0 := X0.cell
  replace X1 := X1.below BB
  replace c1 := X1.cell
  replace f1 := X1.froz
  replace X2 := X2.below BB
  replace c2 := X2.cell
  replace f2 := X2.froz
  replace ya := ya.below BB
  replace hya := Nat.le_trans hya BB.size
  replace yb := yb.below BB
  replace hyb := Nat.le_trans hyb BB.size
  replace B := below_next B BB
  clear BB
  go_wp2_with (first | ((with_reducible refine store_midX 78 X1 0 [.slice N'.1 N'.2.1 N'.2.2, .slice M'.1 M'.2.1 M'.2.2, .slice (some ⟨g, 0, none⟩) Sl.2.1 Sl.2.1] (by simp) (by kernel_rfl) (by simp [Value.oneCell']) rfl rfl ?_); intro V4 S; replace X0 := X0.kept S.kept (by omega); replace c0 := X0.cell; replace X1 : Bx V4 b1 [.slice N'.1 N'.2.1 N'.2.2, .slice M'.1 M'.2.1 M'.2.2, .slice (some ⟨g, 0, none⟩) Sl.2.1 Sl.2.1] := S.bx; replace c1 := X1.cell; replace f1 := X1.froz; replace X2 := X2.kept S.kept (by omega); replace c2 := X2.cell; replace f2 := X2.froz; replace R := R.kept S.kept (by omega); replace lR := Nat.lt_of_lt_of_le lR S.kept.size; replace ya := ya.kept S.kept (by omega); replace hya := Nat.le_trans hya S.kept.size; replace yb := yb.kept S.kept (by omega); replace hyb := Nat.le_trans hyb S.kept.size; replace B := B.trans (S.kept.below _ (by omega) B.size); clear S) | ((with_reducible refine store_oneX 24 X2 2 (.slice (some ⟨g, 0, none⟩) Sl.2.1 Sl.2.1) (by simp) (by kernel_rfl) rfl rfl rfl ?_); intro V3 S; replace X0 := X0.kept S.kept (by omega); replace c0 := X0.cell; replace X1 := X1.kept S.kept (by omega); replace c1 := X1.cell; replace f1 := X1.froz; replace X2 : Bx V3 b2 [.slice N'.1 N'.2.1 N'.2.2, .slice M'.1 M'.2.1 M'.2.2, .slice (some ⟨g, 0, none⟩) Sl.2.1 Sl.2.1] := S.bx; replace c2 := X2.cell; replace f2 := X2.froz; replace R := R.kept S.kept (by omega); replace lR := Nat.lt_of_lt_of_le lR S.kept.size; replace ya := ya.kept S.kept (by omega); replace hya := Nat.le_trans hya S.kept.size; replace yb := yb.kept S.kept (by omega); replace hyb := Nat.le_trans hyb S.kept.size; replace B := B.trans (S.kept.below _ (by omega) B.size); clear S))
  refine bodyPost_ret (v := .agg #[.slice N'.1 N'.2.1 N'.2.2, .slice M'.1 M'.2.1 M'.2.2, .slice (some ⟨g, 0, none⟩) Sl.2.1 Sl.2.1]) (by simp [results, Try.results32, go_sem, *]) rfl ⟨_, _, N', M', (some ⟨g, 0, none⟩, Sl.2.1, Sl.2.1), ys, ns, rfl, Nat.le_refl _, Nat.le_refl _, ?_, MA.out, MB.out, ⟨NA.out, NB.out, hs3, SA.out, SB.out⟩, B⟩
  clear x HS
  exact clAt_of ya yb R (by omega) (by omega) (by omega) (by omega) (by omega) (by omega) (by omega)
set_option maxRecDepth 20000 in
set_option maxHeartbeats 2000000 in
theorem eqCluster_yes {o1 o2 : Bool} {l1 u1 l2 u2 : Nat} (N M Sl N' M' Sl' : Hd) (xs ys : List Nod) (ms ns : List Mal) (es : List En) (w : World) (x : ClAt w o1 l1 u1 N M Sl xs ms es) (y : ClAt w o2 l2 u2 N' M' Sl' ys ns es) (hxy : ys.map (·.1) = xs.map (·.1)) (hmn : ns.map (·.1) = ms.map (·.1)) (hs : ClSz N M Sl xs ms 1048576) :
    Calls Try.prog 34 #[.agg #[.slice N.1 N.2.1 N.2.2, .slice M.1 M.2.1 M.2.2, .slice Sl.1 Sl.2.1 Sl.2.2], .agg #[.slice N'.1 N'.2.1 N'.2.2, .slice M'.1 M'.2.1 M'.2.2, .slice Sl'.1 Sl'.2.1 Sl'.2.2]] w fun e w' => e = .returned (.bool true) ∧ Below w.heap.size w w' := by
  have HS : Hid _ := hs
  have HXY : Hid _ := hxy
  have Y2 := LAt.mails y.mails
  rw [hmn] at Y2
  have HY2 : Hid _ := Y2
  have HX2 : Hid _ := LAt.mails x.mails
  have HK : Hid (∀ i, i < M.2.1 → ((fun i => (ms.getD i mal0).2) i).2.1 ≤ 2097152) := fun i hi => by
    have hl : i < ms.length := by rw [x.mails.len]; exact hi
    have e : ms[i]? = some (ms.getD i mal0) := by simp [List.getD, hl]
    exact Nat.le_trans (hs.mails i _ e) (by omega)
  clear hs hxy hmn Y2
  go_enter Try.func34, Try.ntmps34
  go_wp2_with (first | ((have g := ob0); clear g; (with_reducible refine box_newX 78 [.slice N'.1 N'.2.1 N'.2.2, .slice M'.1 M'.2.1 M'.2.2, .slice Sl'.1 Sl'.2.1 Sl'.2.2] rfl ?_); intro b1 W1 N1; have ob1 : w.heap.size ≤ b1 := Nat.le_trans B.size N1.ge; have o0_b1 : b0 < b1 := Nat.lt_of_lt_of_le X0.lt N1.ge; replace X0 := X0.below N1.below; replace c0 := X0.cell; replace B := below_next B N1.below; have X1 := N1.bx; have c1 := X1.cell; clear N1) | ((with_reducible refine box_newX 78 [.slice N.1 N.2.1 N.2.2, .slice M.1 M.2.1 M.2.2, .slice Sl.1 Sl.2.1 Sl.2.2] rfl ?_); intro b0 W0 N0; have ob0 : w.heap.size ≤ b0 := N0.ge; have B := N0.below; have X0 := N0.bx; have c0 := X0.cell; clear N0) | fail)
  refine (eqReplicas_yes N.1 N'.1 N.2.1 N.2.2 N'.2.1 N'.2.2 xs ys _ (x.nodes.below B) (y.nodes.below B) HXY.out HS.out.n HS.out.nodes).mono ?_
  rintro e w1 ⟨rfl, BB⟩
  replace X0 := X0.below BB
  replace c0 := X0.cell
  replace X1 := X1.below BB
  replace c1 := X1.cell
  replace B := below_next B BB
  clear BB
  go_wp2_with fail
  refine (eqMails_yes M.1 M'.1 M.2.1 M.2.2 M'.2.1 M'.2.2 _ _ _ _ (HX2.out.below B) (HY2.out.below B) (Nat.le_trans HS.out.m (by omega)) HK.out).mono ?_
  rintro e w2 ⟨rfl, BB⟩
  replace X0 := X0.below BB
  replace c0 := X0.cell
  replace X1 := X1.below BB
  replace c1 := X1.cell
  replace B := below_next B BB
  clear BB
  go_wp2_with fail
  refine (eqEntries_yes _ _ _ _ _ _ es _ (x.slog.below B) (y.slog.below B) (Nat.le_trans HS.out.s (by omega))).mono ?_
  rintro e w3 ⟨rfl, BB⟩
  replace X0 := X0.below BB
  replace c0 := X0.cell
  replace X1 := X1.below BB
  replace c1 := X1.cell
  replace B := below_next B BB
  clear BB
  go_wp2
  go_ret
  exact ⟨rfl, B⟩

end Go.Proofs.Ytikplcpgocgogaa
