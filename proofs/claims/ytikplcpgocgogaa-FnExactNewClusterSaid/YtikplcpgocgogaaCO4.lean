/- Chapter 11: a cluster counted, copied and compared by the laws. -/
import Derived.Test.YtikplcpgocgogaaCO2
import Derived.Test.YtikplcpgocgogaaCO3
namespace Go.Proofs.Ytikplcpgocgogaa
open Go.RowKit

def NAt (w : World) (own : Bool) (lo hi : Nat) (N : Hd) (xs : List Nod) : Prop := LAt nodeK w own lo hi N.1 N.2.1 N.2.2 xs
def MAt (w : World) (own : Bool) (lo hi : Nat) (M : Hd) (ms : List Mal) : Prop := LAt mailK w own lo hi M.1 M.2.1 M.2.2 ms
section
variable {w w' : World} {own : Bool} {lo hi : Nat} {N M Sl : Hd} {xs : List Nod} {ms : List Mal} {es : List En}
theorem NAt.below (h : NAt w own lo hi N xs) (hb : Below w.heap.size w w') : NAt w' own lo hi N xs := LAt.below nodeOk h hb
theorem MAt.below (h : MAt w own lo hi M ms) (hb : Below w.heap.size w w') : MAt w' own lo hi M ms := LAt.below mailOk h hb
theorem NAt.kept (h : NAt w own lo hi N xs) {l u : Nat} (hk : Kept l u w w') (hd : hi ≤ l ∨ u ≤ lo) : NAt w' own lo hi N xs := LAt.kept nodeOk h hk hd
theorem MAt.kept (h : MAt w own lo hi M ms) {l u : Nat} (hk : Kept l u w w') (hd : hi ≤ l ∨ u ≤ lo) : MAt w' own lo hi M ms := LAt.kept mailOk h hk hd
theorem NAt.widen (h : NAt w own lo hi N xs) {lo' hi' : Nat} (h1 : lo' ≤ lo) (h2 : hi ≤ hi') : NAt w own lo' hi' N xs := LAt.widen nodeOk h h1 h2
theorem MAt.widen (h : MAt w own lo hi M ms) {lo' hi' : Nat} (h1 : lo' ≤ lo) (h2 : hi ≤ hi') : MAt w own lo' hi' M ms := LAt.widen mailOk h h1 h2
theorem NAt.inB (h : NAt w own lo hi N xs) {q : Nat} (hq : inL nodeK N.1 N.2.1 xs q) : lo ≤ q ∧ q < hi ∧ q < w.heap.size := LAt.inB nodeOk h hq
theorem MAt.inB (h : MAt w own lo hi M ms) {q : Nat} (hq : inL mailK M.1 M.2.1 ms q) : lo ≤ q ∧ q < hi ∧ q < w.heap.size := LAt.inB mailOk h hq
/-- a cluster's lists in memory -/
structure ClAt (w : World) (own : Bool) (lo hi : Nat) (N M Sl : Hd) (xs : List Nod) (ms : List Mal) (es : List En) : Prop where
  nodes : NAt w own lo hi N xs
  mails : MAt w own lo hi M ms
  slog : RowAt w own lo hi 6 Sl.1 Sl.2.1 Sl.2.2 (sixs es)
  sep : own = true → Sep (inL nodeK N.1 N.2.1 xs) (inL mailK M.1 M.2.1 ms) ∧ Sep (inL nodeK N.1 N.2.1 xs) (hR Sl) ∧ Sep (inL mailK M.1 M.2.1 ms) (hR Sl)
structure ClSz (N M Sl : Hd) (xs : List Nod) (ms : List Mal) (z : Nat) : Prop where
  n : N.2.1 ≤ z
  m : M.2.1 ≤ z
  s : Sl.2.1 ≤ z
  nodes : ∀ (i : Nat) (a : Nod), xs[i]? = some a → RSz a.2 z
  mails : ∀ (i : Nat) (a : Mal), ms[i]? = some a → a.2.2.1 ≤ z
theorem ClAt.below (x : ClAt w own lo hi N M Sl xs ms es) (hb : Below w.heap.size w w') : ClAt w' own lo hi N M Sl xs ms es := ⟨x.nodes.below hb, x.mails.below hb, x.slog.below hb, x.sep⟩
theorem ClAt.kept (x : ClAt w own lo hi N M Sl xs ms es) {l u : Nat} (hk : Kept l u w w') (hd : hi ≤ l ∨ u ≤ lo) : ClAt w' own lo hi N M Sl xs ms es := ⟨x.nodes.kept hk hd, x.mails.kept hk hd, x.slog.kept hk hd, x.sep⟩
theorem ClAt.widen (x : ClAt w own lo hi N M Sl xs ms es) {lo' hi' : Nat} (h1 : lo' ≤ lo) (h2 : hi ≤ hi') : ClAt w own lo' hi' N M Sl xs ms es := ⟨x.nodes.widen h1 h2, x.mails.widen h1 h2, x.slog.widen h1 h2, x.sep⟩
end
set_option maxRecDepth 20000 in
set_option maxHeartbeats 2000000 in
theorem eqCluster_yes {o1 o2 : Bool} {l1 u1 l2 u2 : Nat} (N M Sl N' M' Sl' : Hd) (xs ys : List Nod) (ms ns : List Mal) (es : List En) (w : World) (x : ClAt w o1 l1 u1 N M Sl xs ms es) (y : ClAt w o2 l2 u2 N' M' Sl' ys ns es) (hxy : ys.map (·.1) = xs.map (·.1)) (hmn : ns.map (·.1) = ms.map (·.1)) (hs : ClSz N M Sl xs ms 1048576) :
    Calls Try.prog 34 #[.agg #[.slice N.1 N.2.1 N.2.2, .slice M.1 M.2.1 M.2.2, .slice Sl.1 Sl.2.1 Sl.2.2], .agg #[.slice N'.1 N'.2.1 N'.2.2, .slice M'.1 M'.2.1 M'.2.2, .slice Sl'.1 Sl'.2.1 Sl'.2.2]] w fun e w' => e = .returned (.bool true) ∧ Below w.heap.size w w' := by
  have HS : Hid _ := hs
  have HXY : Hid _ := hxy
  have Y2 := LAt.mails y.mails
  rw [hmn] at Y2
  have HY2 : Hid _ := Y2
  have HX2 : Hid _ := LAt.mails x.mails
  have HK : Hid (∀ i, i < M.2.1 → ((fun i => (ms.getD i mal0).2) i).2.1 ≤ 2097152) := fun i hi => by
    have hl : i < ms.length := by rw [x.mails.len]; exact hi
    have e : ms[i]? = some (ms.getD i mal0) := by simp [List.getD, hl]
    exact Nat.le_trans (hs.mails i _ e) (by omega)
  clear hs hxy hmn Y2
  go_enter Try.func34, Try.ntmps34
  go_wp2_with (first | ((have g := ob0); clear g; (with_reducible refine box_newX 78 [.slice N'.1 N'.2.1 N'.2.2, .slice M'.1 M'.2.1 M'.2.2, .slice Sl'.1 Sl'.2.1 Sl'.2.2] rfl ?_); intro b1 W1 N1; have ob1 : w.heap.size ≤ b1 := Nat.le_trans B.size N1.ge; have o0_b1 : b0 < b1 := Nat.lt_of_lt_of_le X0.lt N1.ge; replace X0 := X0.below N1.below; replace c0 := X0.cell; replace B := below_next B N1.below; have X1 := N1.bx; have c1 := X1.cell; clear N1) | ((with_reducible refine box_newX 78 [.slice N.1 N.2.1 N.2.2, .slice M.1 M.2.1 M.2.2, .slice Sl.1 Sl.2.1 Sl.2.2] rfl ?_); intro b0 W0 N0; have ob0 : w.heap.size ≤ b0 := N0.ge; have B := N0.below; have X0 := N0.bx; have c0 := X0.cell; clear N0) | fail)
  refine (eqReplicas_yes N.1 N'.1 N.2.1 N.2.2 N'.2.1 N'.2.2 xs ys _ (x.nodes.below B) (y.nodes.below B) HXY.out HS.out.n HS.out.nodes).mono ?_
  rintro e w1 ⟨rfl, BB⟩
  replace X0 := X0.below BB
  replace c0 := X0.cell
  replace X1 := X1.below BB
  replace c1 := X1.cell
  replace B := below_next B BB
  clear BB
  go_wp2_with fail
  refine (eqMails_yes M.1 M'.1 M.2.1 M.2.2 M'.2.1 M'.2.2 _ _ _ _ (HX2.out.below B) (HY2.out.below B) (Nat.le_trans HS.out.m (by omega)) HK.out).mono ?_
  rintro e w2 ⟨rfl, BB⟩
  replace X0 := X0.below BB
  replace c0 := X0.cell
  replace X1 := X1.below BB
  replace c1 := X1.cell
  replace B := below_next B BB
  clear BB
  go_wp2_with fail
  refine (eqEntries_yes _ _ _ _ _ _ es _ (x.slog.below B) (y.slog.below B) (Nat.le_trans HS.out.s (by omega))).mono ?_
  rintro e w3 ⟨rfl, BB⟩
  replace X0 := X0.below BB
  replace c0 := X0.cell
  replace X1 := X1.below BB
  replace c1 := X1.cell
  replace B := below_next B BB
  clear BB
  go_wp2
  go_ret
  exact ⟨rfl, B⟩

end Go.Proofs.Ytikplcpgocgogaa
