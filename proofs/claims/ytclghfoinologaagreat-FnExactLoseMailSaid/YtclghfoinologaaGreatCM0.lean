/- Chapter 11: lists of nodes that are marked, in plain words. No program is named here. -/
import Derived.Test.YtclghfoinologaaGreatZC
set_option maxRecDepth 20000
set_option maxHeartbeats 16000000
namespace Go.Proofs.YtclghfoinologaaGreat
open Go.RowKit
def ksum (K : Nat → Hd) : Nat → Nat
 | 0 => 0
 | i + 1 => ksum K i + (K i).2.1
theorem ksum_le (K : Nat → Hd) : ∀ (n i : Nat), i < n → (K i).2.1 ≤ ksum K n
 | 0, i, h => absurd h (Nat.not_lt_zero _)
 | n + 1, i, h => by
  show (K i).2.1 ≤ ksum K n + (K n).2.1
  rcases Nat.lt_succ_iff_lt_or_eq.1 h with q | q
  ·have := ksum_le K n i q;omega
  ·subst q;omega
theorem kE_sum (K : Nat → Hd) (k : Int) : ∀ n : Nat, kE 3 K k n = k + 3 * (n : Int) + 6 * (ksum K n : Int)
 | 0 => by simp [kE, ksum]
 | n + 1 => by have := kE_sum K k n;simp only [kE, ksum];omega
def rsum (h : RH) : Nat := h.L.2.1 + h.O.2.1 + h.A.2.1 + h.D.2.1 + ksum h.K h.D.2.1
theorem rsum_sz (h : RH) : RSz h (rsum h) := ⟨by unfold rsum; omega, by unfold rsum; omega, by unfold rsum; omega, by unfold rsum; omega, fun i hi => by have := ksum_le h.K _ i hi; unfold rsum; omega⟩
def nsum : List Nod → Nat
 | [] => 0
 | a :: t => 1 + rsum a.2 + nsum t
def mkDrs (K : Nat → Hd) (k : Int) (n : Nat) : List Dr := (List.range n).map fun i => ((kE 3 K k i) % 3 == 0, kE 3 K k i + 1, marks6 (kE 3 K k i + 2) (K i).2.1, kE 3 K k i + 2 + 6 * ((K i).2.1 : Int))
theorem mkDrs_get (K : Nat → Hd) (k : Int) (n i : Nat) (h : i < n) : (mkDrs K k n).getD i dr0 = ((kE 3 K k i) % 3 == 0, kE 3 K k i + 1, marks6 (kE 3 K k i + 2) (K i).2.1, kE 3 K k i + 2 + 6 * ((K i).2.1 : Int)) := by simp [mkDrs, List.getD, h]
theorem mkDrs_F (K : Nat → Hd) (k : Int) (n i j : Nat) (h : i < n) (hj : j < 4) : drF K (mkDrs K k n) i j = mkDF K k i j := by
 unfold drF mkDF;rw [mkDrs_get K k n i h]
 rcases (by omega : j = 0 ∨ j = 1 ∨ j = 2 ∨ j = 3) with rfl | rfl | rfl | rfl <;> rfl
theorem mkDrs_L (K : Nat → Hd) (k : Int) (n i : Nat) (L : Nat → List En) (h : i < n) : drL (mkDrs K k n) i = paM 3 2 K k L n i := by
 unfold drL paM;rw [mkDrs_get K k n i h, if_pos h]
def qO (h : RH) (q : Int) : Int := q + 6 + 6 * (h.L.2.1 : Int)
def qA (h : RH) (q : Int) : Int := qO h q + h.O.2.1
def qD (h : RH) (q : Int) : Int := qA h q + h.A.2.1
def qN (h : RH) (q : Int) : Int := kE 3 h.K (qD h q) h.D.2.1
def mkRep (h : RH) (q : Int) : Rep := ⟨q, q + 1, q + 2, q % 3 == 0, q + 4, marks6 (q + 5) h.L.2.1, q + 5 + 6 * (h.L.2.1 : Int), marks (qO h q) h.O.2.1, marksB (qA h q) h.A.2.1, mkDrs h.K (qD h q) h.D.2.1⟩
theorem qN_le (h : RH) (q : Int) : qN h q ≤ q + 6 * ((1 + rsum h : Nat) : Int) ∧ q ≤ qN h q ∧ q ≤ qO h q ∧ qO h q ≤ qA h q ∧ qA h q ≤ qD h q ∧ qD h q ≤ qN h q := by
 unfold qN;rw [kE_sum];unfold qD qA qO rsum;omega
def qAt (q : Int) : List Nod → Nat → Int
 | _, 0 => q
 | [], _ + 1 => q
 | a :: t, i + 1 => qAt (qN a.2 q) t i
def mkTo (q : Int) : List Nod → Nat → List Nod
 | xs, 0 => xs
 | [], _ + 1 => []
 | a :: t, i + 1 => (mkRep a.2 q, a.2) :: mkTo (qN a.2 q) t i
theorem qAt_next : ∀ (xs : List Nod) (q : Int) (i : Nat) (a : Nod), xs[i]? = some a → qAt q xs (i + 1) = qN a.2 (qAt q xs i)
 | [], q, i, a, e => by simp at e
 | x :: t, q, 0, a, e => by have : x = a := by simpa using e
                            subst this;simp [qAt]
 | x :: t, q, i + 1, a, e => qAt_next t (qN x.2 q) i a (by simpa using e)
theorem qAt_le : ∀ (xs : List Nod) (q : Int) (i : Nat), q ≤ qAt q xs i ∧ qAt q xs i ≤ q + 6 * (nsum xs : Int)
 | _, q, 0 => by simp [qAt];omega
 | [], q, i + 1 => by simp [qAt, nsum]
 | x :: t, q, i + 1 => by
  have h1 := qAt_le t (qN x.2 q) i;have h2 := qN_le x.2 q;simp only [qAt, nsum];omega
theorem qAt_more : ∀ (xs : List Nod) (q : Int) (i : Nat) (a : Nod), xs[i]? = some a → qAt q xs i + 6 * ((1 + rsum a.2 : Nat) : Int) ≤ q + 6 * (nsum xs : Int)
 | [], q, i, a, e => by simp at e
 | x :: t, q, 0, a, e => by
  have : x = a := by simpa using e
  subst this;simp only [qAt, nsum];omega
 | x :: t, q, i + 1, a, e => by
  have h1 := qAt_more t (qN x.2 q) i a (by simpa using e)
  have h2 := qN_le x.2 q;simp only [qAt, nsum];omega
theorem mkTo_at : ∀ (xs : List Nod) (q : Int) (i : Nat), (mkTo q xs i)[i]? = xs[i]?
 | _, q, 0 => by simp [mkTo]
 | [], q, i + 1 => by simp [mkTo]
 | x :: t, q, i + 1 => by simpa [mkTo] using mkTo_at t (qN x.2 q) i
theorem mkTo_len : ∀ (xs : List Nod) (q : Int) (i : Nat), (mkTo q xs i).length = xs.length
 | _, q, 0 => by simp [mkTo]
 | [], q, i + 1 => by simp [mkTo]
 | x :: t, q, i + 1 => by simpa [mkTo] using mkTo_len t (qN x.2 q) i
theorem mkTo_next : ∀ (xs : List Nod) (q : Int) (i : Nat) (a : Nod), xs[i]? = some a → mkTo q xs (i + 1) = (mkTo q xs i).set i (mkRep a.2 (qAt q xs i), a.2)
 | [], q, i, a, e => by simp at e
 | x :: t, q, 0, a, e => by
  have : x = a := by simpa using e
  subst this
  cases t <;> simp [mkTo, qAt]
 | x :: t, q, i + 1, a, e => by
  have ih := mkTo_next t (qN x.2 q) i a (by simpa using e)
  show (mkRep x.2 q, x.2) :: mkTo (qN x.2 q) t (i + 1) = _
  rw [ih];rfl
theorem mkTo_done (xs : List Nod) : ∀ (q : Int) (n i : Nat) (a : Nod), i < n → xs[i]? = some a → (mkTo q xs n)[i]? = some (mkRep a.2 (qAt q xs i), a.2) := by
 induction xs with
 | nil => intro q n i a _ e;simp at e
 | cons x t ih =>
  intro q n i a h e
  cases n with
  | zero => omega
  | succ n =>
   cases i with
   | zero =>
    have : x = a := by simpa using e
    subst this;simp [mkTo, qAt]
   | succ i =>
    have := ih (qN x.2 q) n i a (by omega) (by simpa using e)
    simpa [mkTo, qAt] using this
theorem mkTo_snd : ∀ (xs : List Nod) (q : Int) (i : Nat), (mkTo q xs i).map (·.2) = xs.map (·.2)
 | _, q, 0 => by simp [mkTo]
 | [], q, i + 1 => by simp [mkTo]
 | x :: t, q, i + 1 => by simpa [mkTo] using mkTo_snd t (qN x.2 q) i
theorem inL_snd {xs ys : List Nod} (h : ys.map (·.2) = xs.map (·.2)) (ao : Option Addr) (n q : Nat) (hq : inL nodeK ao n ys q) : inL nodeK ao n xs q := by
 rcases hq with h0 | ⟨i, a, e, h0⟩
 ·exact Or.inl h0
 ·have t := congrArg (·[i]?) h;simp only [List.getElem?_map, e, Option.map_some] at t
  cases e2 : xs[i]? with
  | none => rw [e2] at t;cases t
  | some b =>
   rw [e2] at t
   have e3 : a.2 = b.2 := by simpa using t
   refine Or.inr ⟨i, b, e2, ?_⟩
   show inRep b.2 q
   rw [← e3];exact h0
section
variable {w w' : World} {lo hi : Nat} {h : RH} {r : Rep}
theorem RepAt.logSet (x : RepAt w true lo hi h r) (k : KeptS (hR h.L) w w') {l u : Nat} {es : List En} (R : RowAt w' true l u 6 h.L.1 h.L.2.1 h.L.2.2 (sixs es)) : RepAt w' true lo hi h { r with log := es } :=
 have s := x.sep rfl
 ⟨x.log.repin R, x.oks.keptR k (Sep.symm s.1), x.asks.keptR k (Sep.symm s.2.1), x.doers.keptS k (Sep.symm s.2.2.1), x.sep⟩
theorem RepAt.oksSet (x : RepAt w true lo hi h r) (k : KeptS (hR h.O) w w') {l u : Nat} {es : List Int} (R : RowAt w' true l u 1 h.O.1 h.O.2.1 h.O.2.2 (ints es)) : RepAt w' true lo hi h { r with oks := es } :=
 have s := x.sep rfl
 ⟨x.log.keptR k s.1, x.oks.repin R, x.asks.keptR k (Sep.symm s.2.2.2.1), x.doers.keptS k (Sep.symm s.2.2.2.2.1), x.sep⟩
theorem RepAt.asksSet (x : RepAt w true lo hi h r) (k : KeptS (hR h.A) w w') {l u : Nat} {es : List Bool} (R : RowAt w' true l u 1 h.A.1 h.A.2.1 h.A.2.2 (bls es)) : RepAt w' true lo hi h { r with asks := es } :=
 have s := x.sep rfl
 ⟨x.log.keptR k s.2.1, x.oks.keptR k s.2.2.2.1, x.asks.repin R, x.doers.keptS k (Sep.symm s.2.2.2.2.2), x.sep⟩
theorem RepAt.doersSet (x : RepAt w true lo hi h r) (k : KeptS (inE h.D.1 h.D.2.1 h.K) w w') {q : Int} {L : Nat → List En} (R : ElsAt 4 w' true lo hi h.D.1 h.D.2.1 h.D.2.2 (mkDF h.K q) h.K (paM 3 2 h.K q L h.D.2.1)) : RepAt w' true lo hi h { r with doers := mkDrs h.K q h.D.2.1 } :=
 have s := x.sep rfl
 ⟨x.log.keptR k s.2.2.1, x.oks.keptR k s.2.2.2.2.1, x.asks.keptR k s.2.2.2.2.2, ⟨by simp [mkDrs], R.congr (fun i j hi hj => (mkDrs_F _ _ _ _ _ hi hj).symm) (fun i hi => (mkDrs_L _ _ _ _ _ hi).symm)⟩, x.sep⟩
end
def NMk (w0 : World) (lo hi b off n cap : Nat) (xs : List Nod) (i : Nat) (r : Rep) (h : RH) (W : World) : Prop :=
 LAt nodeK W true lo hi (some ⟨b, off, none⟩) n cap (xs.set i (r, h)) ∧ KeptS (inL nodeK (some ⟨b, off, none⟩) n xs) w0 W
section
variable {w0 W W' : World} {lo hi b off n cap i : Nat} {xs : List Nod} {r : Rep} {h : RH}
theorem NMk.start (x : LAt nodeK W true lo hi (some ⟨b, off, none⟩) n cap xs) (e : xs[i]? = some (r, h)) (k : KeptS (inL nodeK (some ⟨b, off, none⟩) n xs) w0 W) : NMk w0 lo hi b off n cap xs i r h W := by
 refine ⟨?_, k⟩
 have : xs.set i (r, h) = xs := by
  apply List.ext_getElem?
  intro j
  by_cases c : i = j
  ·subst c;rw [e];simp [(List.getElem?_eq_some_iff.1 e).1]
  ·rw [List.getElem?_set_ne c]
 rw [this];exact x
theorem NMk.el (M : NMk w0 lo hi b off n cap xs i r h W) (hi' : i < n) : (xs.set i (r, h))[i]? = some (r, h) := by
 have := M.1.len
 simp at this
 simp [this, hi']
theorem NMk.facts (M : NMk w0 lo hi b off n cap xs i r h W) (hi' : i < n) : Ro W b (off + i * 10) [.int .i64 r.id, .int .i64 r.size, .int .i64 r.view, .bool r.normal, .int .i64 r.last, .slice h.L.1 h.L.2.1 h.L.2.2, .int .i64 r.commit, .slice h.O.1 h.O.2.1 h.O.2.2, .slice h.A.1 h.A.2.1 h.A.2.2, .slice h.D.1 h.D.2.1 h.D.2.2] ∧ (∀ j, j < 10 → W.frozen? ⟨b, off + i * 10 + j, none⟩ = false) ∧ RepAt W true lo hi h r := by
 obtain ⟨r', h', b', off', e, e2, _, _, X, R, F⟩ := M.1.node hi'
 rw [M.el hi'] at e;simp only [Option.some.injEq, Prod.mk.injEq] at e
 obtain ⟨rfl, rfl⟩ := e
 simp only [Option.some.injEq, Addr.mk.injEq, and_true] at e2
 obtain ⟨rfl, rfl⟩ := e2
 exact ⟨X, F rfl, R⟩
theorem NMk.cell (M : NMk w0 lo hi b off n cap xs i r h W) (hi' : i < n) (j : Nat) (hj : j < 10) (v : Value) (r' : Rep) (hc : repC r' h = (repC r h).set j v) (hr : r'.log = r.log ∧ r'.oks = r.oks ∧ r'.asks = r.asks ∧ r'.doers = r.doers) :
  NMk w0 lo hi b off n cap xs i r' h (W.setCell ⟨b, off + i * 10 + j, none⟩ v) := by
 obtain ⟨X, F, R⟩ := M.facts hi'
 have hx : i < xs.length := by have := M.1.len;simp at this;omega
 have KS1 : KeptS (fun x => x = b) W (W.setCell ⟨b, off + i * 10 + j, none⟩ v) := by
  refine KeptS.setCell (KeptS.refl _ _) ?_ _;rfl
 have hin : inL nodeK (some ⟨b, off, none⟩) n xs b := Or.inl ⟨by omega, rfl⟩
 refine ⟨?_, M.2.setCell (p := ⟨b, off + i * 10 + j, none⟩) hin _⟩
 have R2 : RepAt W true lo hi h r' := ⟨by rw [hr.1];exact R.log, by rw [hr.2.1];exact R.oks, by rw [hr.2.2.1];exact R.asks, ⟨by rw [hr.2.2.2];exact R.doers.len, by rw [hr.2.2.2];exact R.doers.els⟩, R.sep⟩
 have P := M.1.put nodeOk hi' (r', h) R2 (fun q hq => M.1.far rfl i _ (M.el hi') q hq) (fun m c ec hne q hq hq2 => M.1.sep rfl i m _ _ (M.el hi') ec (Ne.symm hne) q hq hq2)
 have es : (xs.set i (r, h)).set i (r', h) = xs.set i (r', h) := by simp
 rw [es] at P
 -- the cells that are put differ in one alone
 have hb := X.lt
 refine ⟨P.len, ?_, fun m c ec => ?_, P.far, P.sep⟩
 ·refine ⟨P.row.len, P.row.le, fun hn => ?_⟩
  obtain ⟨b', off', e, h1, h2, h3, h4, h5⟩ := P.row.cells hn
  simp only [Option.some.injEq, Addr.mk.injEq, and_true] at e
  obtain ⟨rfl, rfl⟩ := e
  refine ⟨_, _, rfl, h1, h2, by simpa [World.setCell] using hb, fun q hq => ?_, fun _ q hq => ?_⟩
  ·rw [← h4 q hq]
   by_cases hin2 : i * 10 ≤ q ∧ q < i * 10 + 10
   ·have t := World.cell?_setCells_in b (nodeK.cells (r', h)) (off + i * 10) W (fun m hm => by
     have hm' : m < 10 := hm
     rw [X.cell.2 m hm', List.getElem?_eq_getElem (by simpa using hm')];rfl) (q - i * 10) (by show q - i * 10 < 10;omega)
    rw [show off + i * 10 + (q - i * 10) = off + q by omega] at t
    show _ = (W.setCells b (off + i * 10) (nodeK.cells (r', h))).cell? ⟨b, off + q, none⟩
    rw [t]
    have hcc : nodeK.cells (r', h) = (repC r h).set j v := hc
    by_cases e : q - i * 10 = j
    ·have e2 : off + q = off + i * 10 + j := by omega
     rw [e2, World.cell?_setCell_same _ _ _ (by rw [X.cell.2 j hj, List.getElem?_eq_getElem (by simpa using hj)])]
     simp only [hcc, e];rw [List.getElem_set_self]
    ·rw [World.cell?_setCell_other _ _ _ _ (by intro z;injection z with _ z;omega), show off + q = off + i * 10 + (q - i * 10) by omega, X.cell.2 (q - i * 10) (by omega)]
     simp only [hcc];rw [List.getElem_set_ne (Ne.symm e)];exact List.getElem?_eq_getElem _
   ·rw [World.cell?_setCell_other _ _ _ _ (by intro z;injection z with _ z;omega)]
    exact (World.cell?_setCells_out b (nodeK.cells (r', h)) (off + i * 10) W ⟨b, off + q, none⟩ (fun _ _ => by show off + q < off + i * 10 ∨ off + i * 10 + 10 ≤ off + q;omega)).symm
  ·rw [World.frozen?_setCell]
   have := h5 rfl q hq
   rwa [World.frozen?_setCells] at this
 ·by_cases e2 : m = i
  ·subst e2
   have : (r', h) = c := by simpa [hx] using ec
   subst this
   exact RepAt.keptS R2 KS1 fun q hq e3 => M.1.far rfl m _ (M.el hi') q hq e3
  ·have ec0 : (xs.set i (r, h))[m]? = some c := by rw [List.getElem?_set_ne (Ne.symm e2)] at ec ⊢;exact ec
   exact nodeOk.keptS (M.1.each m c ec0) KS1 fun q hq => M.1.far rfl m c ec0 q hq
theorem NMk.mem (M : NMk w0 lo hi b off n cap xs i r h W) (hi' : i < n) (S : Nat → Prop) (KS : KeptS S W W') (hS : ∀ q, S q → inRep h q) (hin : ∀ q, inRep h q → inL nodeK (some ⟨b, off, none⟩) n xs q) (r' : Rep) (hc : repC r' h = repC r h) (R : RepAt W' true lo hi h r') : NMk w0 lo hi b off n cap xs i r' h W' := by
 have hx : i < xs.length := by have := M.1.len;simp at this;omega
 have el := M.el hi'
 have hcel : (xs.set i (r', h)).flatMap nodeK.cells = (xs.set i (r, h)).flatMap nodeK.cells := by
  have : ∀ (ys : List Nod) (m : Nat), (ys.set m (r', h)).flatMap nodeK.cells = (ys.set m (r, h)).flatMap nodeK.cells := fun ys => by
   induction ys with
   | nil => intro m;rfl
   | cons y t ih =>
    intro m
    cases m with
    | zero => simp only [List.set_cons_zero, List.flatMap_cons];congr 1
    | succ m => simp only [List.set_cons_succ, List.flatMap_cons, ih m]
  exact this xs i
 have get : ∀ (m : Nat) (c : Nod), (xs.set i (r', h))[m]? = some c → ∃ d, (xs.set i (r, h))[m]? = some d ∧ d.2 = c.2 ∧ (m ≠ i → d = c) := fun m c ec => by
  by_cases e : m = i
  ·subst e
   have : (r', h) = c := by simpa [hx] using ec
   subst this
   exact ⟨_, el, rfl, fun z => absurd rfl z⟩
  ·exact ⟨c, by rw [List.getElem?_set_ne (Ne.symm e)] at ec ⊢;exact ec, rfl, fun _ => rfl⟩
 refine ⟨⟨by simpa using M.1.len, ?_, fun m c ec => ?_, fun _ m c ec q hq => ?_, fun _ m p c d e1 e2 hne q hq hq2 => ?_⟩, M.2.trans (KS.mono fun q hq => hin q (hS q hq))⟩
 ·rw [hcel]
  exact M.1.row.keptR KS fun q hq hs => M.1.far rfl i _ el q (hS q hs) hq.2
 ·by_cases e : m = i
  ·subst e
   have : (r', h) = c := by simpa [hx] using ec
   subst this;exact R
  ·have ec0 : (xs.set i (r, h))[m]? = some c := by rw [List.getElem?_set_ne (Ne.symm e)] at ec ⊢;exact ec
   exact nodeOk.keptS (M.1.each m c ec0) KS fun q hq hs => M.1.sep rfl i m _ _ el ec0 (Ne.symm e) q (hS q hs) hq
 ·obtain ⟨d, e1, e2, _⟩ := get m c ec
  exact M.1.far rfl m d e1 q (by show inRep d.2 q;rw [e2];exact hq)
 ·obtain ⟨c', e3, e4, _⟩ := get m c e1
  obtain ⟨d', e5, e6, _⟩ := get p d e2
  exact M.1.sep rfl m p c' d' e3 e5 hne q (by show inRep c'.2 q;rw [e4];exact hq) (by show inRep d'.2 q;rw [e6];exact hq2)
end
end Go.Proofs.YtclghfoinologaaGreat
