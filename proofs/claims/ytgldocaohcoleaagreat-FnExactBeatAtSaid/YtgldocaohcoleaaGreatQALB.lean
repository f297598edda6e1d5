/- Chapter 11: lists of nodes that are marked, in plain words. No program is named here. -/
import Derived.Test.YtgldocaohcoleaaGreatZCB
set_option maxRecDepth 20000
set_option maxHeartbeats 16000000
namespace Go.Proofs.YtgldocaohcoleaaGreat
open Go.RowKit
def ksum (K : Nat → Hd) : Nat → Nat
 | 0 => 0
 | i + 1 => ksum K i + (K i).2.1
theorem ksum_le (K : Nat → Hd) : ∀ (n i : Nat), i < n → (K i).2.1 ≤ ksum K n
 | 0, i, h => absurd h (Nat.not_lt_zero _)
 | n + 1, i, h => by
  show (K i).2.1 ≤ ksum K n + (K n).2.1
  rcases Nat.lt_succ_iff_lt_or_eq.1 h with q | q
  ·have := ksum_le K n i q;omega
  ·subst q;omega
theorem kE_sum (K : Nat → Hd) (k : Int) : ∀ n : Nat, kE 3 K k n = k + 3 * (n : Int) + 6 * (ksum K n : Int)
 | 0 => by simp [kE, ksum]
 | n + 1 => by have := kE_sum K k n;simp only [kE, ksum];omega
def rsum (h : RH) : Nat := h.L.2.1 + h.O.2.1 + h.A.2.1 + h.D.2.1 + ksum h.K h.D.2.1
theorem rsum_sz (h : RH) : RSz h (rsum h) := ⟨by unfold rsum; omega, by unfold rsum; omega, by unfold rsum; omega, by unfold rsum; omega, fun i hi => by have := ksum_le h.K _ i hi; unfold rsum; omega⟩
def nsum : List Nod → Nat
 | [] => 0
 | a :: t => 1 + rsum a.2 + nsum t
def mkDrs (K : Nat → Hd) (k : Int) (n : Nat) : List Dr := (List.range n).map fun i => ((kE 3 K k i) % 3 == 0, kE 3 K k i + 1, marks6 (kE 3 K k i + 2) (K i).2.1, kE 3 K k i + 2 + 6 * ((K i).2.1 : Int))
theorem mkDrs_get (K : Nat → Hd) (k : Int) (n i : Nat) (h : i < n) : (mkDrs K k n).getD i dr0 = ((kE 3 K k i) % 3 == 0, kE 3 K k i + 1, marks6 (kE 3 K k i + 2) (K i).2.1, kE 3 K k i + 2 + 6 * ((K i).2.1 : Int)) := by simp [mkDrs, List.getD, h]
theorem mkDrs_F (K : Nat → Hd) (k : Int) (n i j : Nat) (h : i < n) (hj : j < 4) : drF K (mkDrs K k n) i j = mkDF K k i j := by
 unfold drF mkDF;rw [mkDrs_get K k n i h]
 rcases (by omega : j = 0 ∨ j = 1 ∨ j = 2 ∨ j = 3) with rfl | rfl | rfl | rfl <;> rfl
theorem mkDrs_L (K : Nat → Hd) (k : Int) (n i : Nat) (L : Nat → List En) (h : i < n) : drL (mkDrs K k n) i = paM 3 2 K k L n i := by
 unfold drL paM;rw [mkDrs_get K k n i h, if_pos h]
def qO (h : RH) (q : Int) : Int := q + 6 + 6 * (h.L.2.1 : Int)
def qA (h : RH) (q : Int) : Int := qO h q + h.O.2.1
def qD (h : RH) (q : Int) : Int := qA h q + h.A.2.1
def qN (h : RH) (q : Int) : Int := kE 3 h.K (qD h q) h.D.2.1
def mkRep (h : RH) (q : Int) : Rep := ⟨q, q + 1, q + 2, q % 3 == 0, q + 4, marks6 (q + 5) h.L.2.1, q + 5 + 6 * (h.L.2.1 : Int), marks (qO h q) h.O.2.1, marksB (qA h q) h.A.2.1, mkDrs h.K (qD h q) h.D.2.1⟩
theorem qN_le (h : RH) (q : Int) : qN h q ≤ q + 6 * ((1 + rsum h : Nat) : Int) ∧ q ≤ qN h q ∧ q ≤ qO h q ∧ qO h q ≤ qA h q ∧ qA h q ≤ qD h q ∧ qD h q ≤ qN h q := by
 unfold qN;rw [kE_sum];unfold qD qA qO rsum;omega
def qAt (q : Int) : List Nod → Nat → Int
 | _, 0 => q
 | [], _ + 1 => q
 | a :: t, i + 1 => qAt (qN a.2 q) t i
def mkTo (q : Int) : List Nod → Nat → List Nod
 | xs, 0 => xs
 | [], _ + 1 => []
 | a :: t, i + 1 => (mkRep a.2 q, a.2) :: mkTo (qN a.2 q) t i
theorem qAt_next : ∀ (xs : List Nod) (q : Int) (i : Nat) (a : Nod), xs[i]? = some a → qAt q xs (i + 1) = qN a.2 (qAt q xs i)
 | [], q, i, a, e => by simp at e
 | x :: t, q, 0, a, e => by have : x = a := by simpa using e
                            subst this;simp [qAt]
 | x :: t, q, i + 1, a, e => qAt_next t (qN x.2 q) i a (by simpa using e)
theorem qAt_le : ∀ (xs : List Nod) (q : Int) (i : Nat), q ≤ qAt q xs i ∧ qAt q xs i ≤ q + 6 * (nsum xs : Int)
 | _, q, 0 => by simp [qAt];omega
 | [], q, i + 1 => by simp [qAt, nsum]
 | x :: t, q, i + 1 => by
  have h1 := qAt_le t (qN x.2 q) i;have h2 := qN_le x.2 q;simp only [qAt, nsum];omega
theorem qAt_more : ∀ (xs : List Nod) (q : Int) (i : Nat) (a : Nod), xs[i]? = some a → qAt q xs i + 6 * ((1 + rsum a.2 : Nat) : Int) ≤ q + 6 * (nsum xs : Int)
 | [], q, i, a, e => by simp at e
 | x :: t, q, 0, a, e => by
  have : x = a := by simpa using e
  subst this;simp only [qAt, nsum];omega
 | x :: t, q, i + 1, a, e => by
  have h1 := qAt_more t (qN x.2 q) i a (by simpa using e)
  have h2 := qN_le x.2 q;simp only [qAt, nsum];omega
theorem mkTo_at : ∀ (xs : List Nod) (q : Int) (i : Nat), (mkTo q xs i)[i]? = xs[i]?
 | _, q, 0 => by simp [mkTo]
 | [], q, i + 1 => by simp [mkTo]
 | x :: t, q, i + 1 => by simpa [mkTo] using mkTo_at t (qN x.2 q) i
theorem mkTo_len : ∀ (xs : List Nod) (q : Int) (i : Nat), (mkTo q xs i).length = xs.length
 | _, q, 0 => by simp [mkTo]
 | [], q, i + 1 => by simp [mkTo]
 | x :: t, q, i + 1 => by simpa [mkTo] using mkTo_len t (qN x.2 q) i
theorem mkTo_next : ∀ (xs : List Nod) (q : Int) (i : Nat) (a : Nod), xs[i]? = some a → mkTo q xs (i + 1) = (mkTo q xs i).set i (mkRep a.2 (qAt q xs i), a.2)
 | [], q, i, a, e => by simp at e
 | x :: t, q, 0, a, e => by
  have : x = a := by simpa using e
  subst this
  cases t <;> simp [mkTo, qAt]
 | x :: t, q, i + 1, a, e => by
  have ih := mkTo_next t (qN x.2 q) i a (by simpa using e)
  show (mkRep x.2 q, x.2) :: mkTo (qN x.2 q) t (i + 1) = _
  rw [ih];rfl
theorem mkTo_done (xs : List Nod) : ∀ (q : Int) (n i : Nat) (a : Nod), i < n → xs[i]? = some a → (mkTo q xs n)[i]? = some (mkRep a.2 (qAt q xs i), a.2) := by
 induction xs with
 | nil => intro q n i a _ e;simp at e
 | cons x t ih =>
  intro q n i a h e
  cases n with
  | zero => omega
  | succ n =>
   cases i with
   | zero =>
    have : x = a := by simpa using e
    subst this;simp [mkTo, qAt]
   | succ i =>
    have := ih (qN x.2 q) n i a (by omega) (by simpa using e)
    simpa [mkTo, qAt] using this
theorem mkTo_snd : ∀ (xs : List Nod) (q : Int) (i : Nat), (mkTo q xs i).map (·.2) = xs.map (·.2)
 | _, q, 0 => by simp [mkTo]
 | [], q, i + 1 => by simp [mkTo]
 | x :: t, q, i + 1 => by simpa [mkTo] using mkTo_snd t (qN x.2 q) i
theorem inL_snd {xs ys : List Nod} (h : ys.map (·.2) = xs.map (·.2)) (ao : Option Addr) (n q : Nat) (hq : inL nodeK ao n ys q) : inL nodeK ao n xs q := by
 rcases hq with h0 | ⟨i, a, e, h0⟩
 ·exact Or.inl h0
 ·have t := congrArg (·[i]?) h;simp only [List.getElem?_map, e, Option.map_some] at t
  cases e2 : xs[i]? with
  | none => rw [e2] at t;cases t
  | some b =>
   rw [e2] at t
   have e3 : a.2 = b.2 := by simpa using t
   refine Or.inr ⟨i, b, e2, ?_⟩
   show inRep b.2 q
   rw [← e3];exact h0
section
variable {w w' : World} {lo hi : Nat} {h : RH} {r : Rep}
theorem RepAt.logSet (x : RepAt w true lo hi h r) (k : KeptS (hR h.L) w w') {l u : Nat} {es : List En} (R : RowAt w' true l u 6 h.L.1 h.L.2.1 h.L.2.2 (sixs es)) : RepAt w' true lo hi h { r with log := es } :=
 have s := x.sep rfl
 ⟨x.log.repin R, x.oks.keptR k (Sep.symm s.1), x.asks.keptR k (Sep.symm s.2.1), x.doers.keptS k (Sep.symm s.2.2.1), x.sep⟩
theorem RepAt.oksSet (x : RepAt w true lo hi h r) (k : KeptS (hR h.O) w w') {l u : Nat} {es : List Int} (R : RowAt w' true l u 1 h.O.1 h.O.2.1 h.O.2.2 (ints es)) : RepAt w' true lo hi h { r with oks := es } :=
 have s := x.sep rfl
 ⟨x.log.keptR k s.1, x.oks.repin R, x.asks.keptR k (Sep.symm s.2.2.2.1), x.doers.keptS k (Sep.symm s.2.2.2.2.1), x.sep⟩
theorem RepAt.asksSet (x : RepAt w true lo hi h r) (k : KeptS (hR h.A) w w') {l u : Nat} {es : List Bool} (R : RowAt w' true l u 1 h.A.1 h.A.2.1 h.A.2.2 (bls es)) : RepAt w' true lo hi h { r with asks := es } :=
 have s := x.sep rfl
 ⟨x.log.keptR k s.2.1, x.oks.keptR k s.2.2.2.1, x.asks.repin R, x.doers.keptS k (Sep.symm s.2.2.2.2.2), x.sep⟩
theorem RepAt.doersSet (x : RepAt w true lo hi h r) (k : KeptS (inE h.D.1 h.D.2.1 h.K) w w') {q : Int} {L : Nat → List En} (R : ElsAt 4 w' true lo hi h.D.1 h.D.2.1 h.D.2.2 (mkDF h.K q) h.K (paM 3 2 h.K q L h.D.2.1)) : RepAt w' true lo hi h { r with doers := mkDrs h.K q h.D.2.1 } :=
 have s := x.sep rfl
 ⟨x.log.keptR k s.2.2.1, x.oks.keptR k s.2.2.2.2.1, x.asks.keptR k s.2.2.2.2.2, ⟨by simp [mkDrs], R.congr (fun i j hi hj => (mkDrs_F _ _ _ _ _ hi hj).symm) (fun i hi => (mkDrs_L _ _ _ _ _ hi).symm)⟩, x.sep⟩
end
def NMk (w0 : World) (lo hi b off n cap : Nat) (xs : List Nod) (i : Nat) (r : Rep) (h : RH) (W : World) : Prop :=
 LAt nodeK W true lo hi (some ⟨b, off, none⟩) n cap (xs.set i (r, h)) ∧ KeptS (inL nodeK (some ⟨b, off, none⟩) n xs) w0 W
section
variable {w0 W W' : World} {lo hi b off n cap i : Nat} {xs : List Nod} {r : Rep} {h : RH}
theorem NMk.start (x : LAt nodeK W true lo hi (some ⟨b, off, none⟩) n cap xs) (e : xs[i]? = some (r, h)) (k : KeptS (inL nodeK (some ⟨b, off, none⟩) n xs) w0 W) : NMk w0 lo hi b off n cap xs i r h W := by
 refine ⟨?_, k⟩
 have : xs.set i (r, h) = xs := by
  apply List.ext_getElem?
  intro j
  by_cases c : i = j
  ·subst c;rw [e];simp [(List.getElem?_eq_some_iff.1 e).1]
  ·rw [List.getElem?_set_ne c]
 rw [this];exact x
theorem NMk.el (M : NMk w0 lo hi b off n cap xs i r h W) (hi' : i < n) : (xs.set i (r, h))[i]? = some (r, h) := by
 have := M.1.len
 simp at this
 simp [this, hi']
theorem NMk.facts (M : NMk w0 lo hi b off n cap xs i r h W) (hi' : i < n) : Ro W b (off + i * 10) [.int .i64 r.id, .int .i64 r.size, .int .i64 r.view, .bool r.normal, .int .i64 r.last, .slice h.L.1 h.L.2.1 h.L.2.2, .int .i64 r.commit, .slice h.O.1 h.O.2.1 h.O.2.2, .slice h.A.1 h.A.2.1 h.A.2.2, .slice h.D.1 h.D.2.1 h.D.2.2] ∧ (∀ j, j < 10 → W.frozen? ⟨b, off + i * 10 + j, none⟩ = false) ∧ RepAt W true lo hi h r := by
 obtain ⟨r', h', b', off', e, e2, _, _, X, R, F⟩ := M.1.node hi'
 rw [M.el hi'] at e;simp only [Option.some.injEq, Prod.mk.injEq] at e
 obtain ⟨rfl, rfl⟩ := e
 simp only [Option.some.injEq, Addr.mk.injEq, and_true] at e2
 obtain ⟨rfl, rfl⟩ := e2
 exact ⟨X, F rfl, R⟩
theorem NMk.cell (M : NMk w0 lo hi b off n cap xs i r h W) (hi' : i < n) (j : Nat) (hj : j < 10) (v : Value) (r' : Rep) (hc : repC r' h = (repC r h).set j v) (hr : r'.log = r.log ∧ r'.oks = r.oks ∧ r'.asks = r.asks ∧ r'.doers = r.doers) :
  NMk w0 lo hi b off n cap xs i r' h (W.setCell ⟨b, off + i * 10 + j, none⟩ v) := by
 obtain ⟨X, F, R⟩ := M.facts hi'
 have hx : i < xs.length := by have := M.1.len;simp at this;omega
 have KS1 : KeptS (fun x => x = b) W (W.setCell ⟨b, off + i * 10 + j, none⟩ v) := by
  refine KeptS.setCell (KeptS.refl _ _) ?_ _;rfl
 have hin : inL nodeK (some ⟨b, off, none⟩) n xs b := Or.inl ⟨by omega, rfl⟩
 refine ⟨?_, M.2.setCell (p := ⟨b, off + i * 10 + j, none⟩) hin _⟩
 have R2 : RepAt W true lo hi h r' := ⟨by rw [hr.1];exact R.log, by rw [hr.2.1];exact R.oks, by rw [hr.2.2.1];exact R.asks, ⟨by rw [hr.2.2.2];exact R.doers.len, by rw [hr.2.2.2];exact R.doers.els⟩, R.sep⟩
 have P := M.1.put nodeOk hi' (r', h) R2 (fun q hq => M.1.far rfl i _ (M.el hi') q hq) (fun m c ec hne q hq hq2 => M.1.sep rfl i m _ _ (M.el hi') ec (Ne.symm hne) q hq hq2)
 have es : (xs.set i (r, h)).set i (r', h) = xs.set i (r', h) := by simp
 rw [es] at P
 -- the cells that are put differ in one alone
 have hb := X.lt
 refine ⟨P.len, ?_, fun m c ec => ?_, P.far, P.sep⟩
 ·refine ⟨P.row.len, P.row.le, fun hn => ?_⟩
  obtain ⟨b', off', e, h1, h2, h3, h4, h5⟩ := P.row.cells hn
  simp only [Option.some.injEq, Addr.mk.injEq, and_true] at e
  obtain ⟨rfl, rfl⟩ := e
  refine ⟨_, _, rfl, h1, h2, by simpa [World.setCell] using hb, fun q hq => ?_, fun _ q hq => ?_⟩
  ·rw [← h4 q hq]
   by_cases hin2 : i * 10 ≤ q ∧ q < i * 10 + 10
   ·have t := World.cell?_setCells_in b (nodeK.cells (r', h)) (off + i * 10) W (fun m hm => by
     have hm' : m < 10 := hm
     rw [X.cell.2 m hm', List.getElem?_eq_getElem (by simpa using hm')];rfl) (q - i * 10) (by show q - i * 10 < 10;omega)
    rw [show off + i * 10 + (q - i * 10) = off + q by omega] at t
    show _ = (W.setCells b (off + i * 10) (nodeK.cells (r', h))).cell? ⟨b, off + q, none⟩
    rw [t]
    have hcc : nodeK.cells (r', h) = (repC r h).set j v := hc
    by_cases e : q - i * 10 = j
    ·have e2 : off + q = off + i * 10 + j := by omega
     rw [e2, World.cell?_setCell_same _ _ _ (by rw [X.cell.2 j hj, List.getElem?_eq_getElem (by simpa using hj)])]
     simp only [hcc, e];rw [List.getElem_set_self]
    ·rw [World.cell?_setCell_other _ _ _ _ (by intro z;injection z with _ z;omega), show off + q = off + i * 10 + (q - i * 10) by omega, X.cell.2 (q - i * 10) (by omega)]
     simp only [hcc];rw [List.getElem_set_ne (Ne.symm e)];exact List.getElem?_eq_getElem _
   ·rw [World.cell?_setCell_other _ _ _ _ (by intro z;injection z with _ z;omega)]
    exact (World.cell?_setCells_out b (nodeK.cells (r', h)) (off + i * 10) W ⟨b, off + q, none⟩ (fun _ _ => by show off + q < off + i * 10 ∨ off + i * 10 + 10 ≤ off + q;omega)).symm
  ·rw [World.frozen?_setCell]
   have := h5 rfl q hq
   rwa [World.frozen?_setCells] at this
 ·by_cases e2 : m = i
  ·subst e2
   have : (r', h) = c := by simpa [hx] using ec
   subst this
   exact RepAt.keptS R2 KS1 fun q hq e3 => M.1.far rfl m _ (M.el hi') q hq e3
  ·have ec0 : (xs.set i (r, h))[m]? = some c := by rw [List.getElem?_set_ne (Ne.symm e2)] at ec ⊢;exact ec
   exact nodeOk.keptS (M.1.each m c ec0) KS1 fun q hq => M.1.far rfl m c ec0 q hq
theorem NMk.mem (M : NMk w0 lo hi b off n cap xs i r h W) (hi' : i < n) (S : Nat → Prop) (KS : KeptS S W W') (hS : ∀ q, S q → inRep h q) (hin : ∀ q, inRep h q → inL nodeK (some ⟨b, off, none⟩) n xs q) (r' : Rep) (hc : repC r' h = repC r h) (R : RepAt W' true lo hi h r') : NMk w0 lo hi b off n cap xs i r' h W' := by
 have hx : i < xs.length := by have := M.1.len;simp at this;omega
 have el := M.el hi'
 have hcel : (xs.set i (r', h)).flatMap nodeK.cells = (xs.set i (r, h)).flatMap nodeK.cells := by
  have : ∀ (ys : List Nod) (m : Nat), (ys.set m (r', h)).flatMap nodeK.cells = (ys.set m (r, h)).flatMap nodeK.cells := fun ys => by
   induction ys with
   | nil => intro m;rfl
   | cons y t ih =>
    intro m
    cases m with
    | zero => simp only [List.set_cons_zero, List.flatMap_cons];congr 1
    | succ m => simp only [List.set_cons_succ, List.flatMap_cons, ih m]
  exact this xs i
 have get : ∀ (m : Nat) (c : Nod), (xs.set i (r', h))[m]? = some c → ∃ d, (xs.set i (r, h))[m]? = some d ∧ d.2 = c.2 ∧ (m ≠ i → d = c) := fun m c ec => by
  by_cases e : m = i
  ·subst e
   have : (r', h) = c := by simpa [hx] using ec
   subst this
   exact ⟨_, el, rfl, fun z => absurd rfl z⟩
  ·exact ⟨c, by rw [List.getElem?_set_ne (Ne.symm e)] at ec ⊢;exact ec, rfl, fun _ => rfl⟩
 refine ⟨⟨by simpa using M.1.len, ?_, fun m c ec => ?_, fun _ m c ec q hq => ?_, fun _ m p c d e1 e2 hne q hq hq2 => ?_⟩, M.2.trans (KS.mono fun q hq => hin q (hS q hq))⟩
 ·rw [hcel]
  exact M.1.row.keptR KS fun q hq hs => M.1.far rfl i _ el q (hS q hs) hq.2
 ·by_cases e : m = i
  ·subst e
   have : (r', h) = c := by simpa [hx] using ec
   subst this;exact R
  ·have ec0 : (xs.set i (r, h))[m]? = some c := by rw [List.getElem?_set_ne (Ne.symm e)] at ec ⊢;exact ec
   exact nodeOk.keptS (M.1.each m c ec0) KS fun q hq hs => M.1.sep rfl i m _ _ el ec0 (Ne.symm e) q (hS q hs) hq
 ·obtain ⟨d, e1, e2, _⟩ := get m c ec
  exact M.1.far rfl m d e1 q (by show inRep d.2 q;rw [e2];exact hq)
 ·obtain ⟨c', e3, e4, _⟩ := get m c e1
  obtain ⟨d', e5, e6, _⟩ := get p d e2
  exact M.1.sep rfl m p c' d' e3 e5 hne q (by show inRep c'.2 q;rw [e4];exact hq) (by show inRep d'.2 q;rw [e6];exact hq2)
end
def CloR (w w' : World) (e : Ending) (sz n : Nat) (cs : List Value) : Prop := ∃ ra rc z u, e = .returned (.slice ra n rc) ∧ w.heap.size ≤ z ∧ z ≤ u ∧ u ≤ w'.heap.size ∧ RowAt w' true z u sz ra n rc cs ∧ Below w.heap.size w w'
theorem bls_one (xs : List Bool) : ∀ u ∈ bls xs, u.oneCell' = true := fun u hu => by
 obtain ⟨b, _, rfl⟩ := List.mem_map.1 hu;rfl
theorem sixs_oneX (xs : List En) : ∀ u ∈ sixs xs, u.oneCell' = true := fun u hu => by
 obtain ⟨j, _, rfl⟩ := List.mem_map.1 hu;rfl
theorem ints_oneX (xs : List Int) : ∀ u ∈ ints xs, u.oneCell' = true := fun u hu => by
 obtain ⟨j, _, rfl⟩ := List.mem_map.1 hu;rfl
theorem cloneE_z {o : Bool} {l u : Nat} (ab : Option Addr) (nb cb : Nat) (xs : List En) (w : World) (h : RowAt w o l u 6 ab nb cb (sixs xs)) (hn : nb ≤ 1048576) :
  Calls Tryz.prog 179 #[.slice ab nb cb] w fun e w' => CloR w w' e 6 nb (sixs xs) := by
 obtain ⟨j0, hj0, hy0, hy1, hy2⟩ := info_parts Tryz.infoEntry
 have hq : ∀ W, (binOp .eql 30 (.slice ab nb cb) (.slice none 0 0)).run Tryz.prog W = .ok (.bool ab.isNone) W := fun W => Lib.run_eql_slice_nil W _ _ ab nb cb 0 0 Tryz.underlying30
 cases ab with
 | none =>
  simp only [Option.isNone_none] at hq
  have hz : nb = 0 := Decidable.byContradiction fun hne => by obtain ⟨_, _, e, _⟩ := h.cells hne;cases e
  subst hz
  have hbs : (sixs xs) = [] := List.eq_nil_of_length_eq_zero (by have := h.len;omega)
  rw [hbs]
  go_enter Tryz.func179, Tryz.ntmps179
  go_wp2;go_ret;exact ⟨none, 0, _, _, rfl, Nat.le_refl _, Nat.le_refl _, Nat.le_refl _, RowAt.nil _ _ _ _ _, Below.refl _ _⟩
 | some ad =>
  simp only [Option.isNone_some] at hq
  have B3 : Below w.heap.size w (w.alloc (.cells #[] 49)) := (Below.refl _ _).alloc (Nat.le_refl _) _
  obtain ⟨ad', cp, w4, hr4, R4, B4, -⟩ := run_append_fresh (P := Tryz.prog) (w.alloc (.cells #[] 49)) 30 30 49 j0 (.agg #[.int .i64 0, .int .i64 0, .int .i64 0, .int .i64 0, .int .i64 0, .int .i64 0]) 6 48 Tryz.underlying30 hj0 hy0 hy1 hy2 (by rw [hy1];rfl) w.heap.size (some ad) nb cb (sixs xs) (h.below B3) (sixs_oneX xs) hn (by omega)
  go_enter Tryz.func179, Tryz.ntmps179
  go_wp2_with (at_builtin;refine Lib.wpList_append_run _ rfl _ _ _ _ rfl _ _ rfl rfl _ _ hr4 ?_)
  have B5 := below_next B3 B4
  have R5 : RowAt w4 true w.heap.size w4.heap.size 6 (some ad') nb cp (sixs xs) := R4.widen (by simp) (Nat.le_refl _)
  clear B3 B4 R4 hr4;go_wp2;go_ret;exact ⟨some ad', cp, _, _, rfl, Nat.le_refl _, B5.size, Nat.le_refl _, R5, B5⟩
theorem cloneI_z {o : Bool} {l u : Nat} (ab : Option Addr) (nb cb : Nat) (bs : List Int) (w : World) (h : RowAt w o l u 1 ab nb cb (ints bs)) (hn : nb ≤ 1048576) :
  Calls Tryz.prog 247 #[.slice ab nb cb] w fun e w' => CloR w w' e 1 nb (ints bs) := by
 obtain ⟨j0, hj0, hy0, hy1, hy2⟩ := info_parts Tryz.info2'
 have hq : ∀ W, (binOp .eql 61 (.slice ab nb cb) (.slice none 0 0)).run Tryz.prog W = .ok (.bool ab.isNone) W := fun W => Lib.run_eql_slice_nil W _ _ ab nb cb 0 0 Tryz.underlying61
 cases ab with
 | none =>
  simp only [Option.isNone_none] at hq
  have hz : nb = 0 := Decidable.byContradiction fun hne => by obtain ⟨_, _, e, _⟩ := h.cells hne;cases e
  subst hz
  have hbs : (ints bs) = [] := List.eq_nil_of_length_eq_zero (by have := h.len;omega)
  rw [hbs]
  go_enter Tryz.func247, Tryz.ntmps247
  go_wp2;go_ret;exact ⟨none, 0, _, _, rfl, Nat.le_refl _, Nat.le_refl _, Nat.le_refl _, RowAt.nil _ _ _ _ _, Below.refl _ _⟩
 | some ad =>
  simp only [Option.isNone_some] at hq
  have B3 : Below w.heap.size w (w.alloc (.cells #[] 2)) := (Below.refl _ _).alloc (Nat.le_refl _) _
  obtain ⟨ad', cp, w4, hr4, R4, B4, -⟩ := run_append_fresh (P := Tryz.prog) (w.alloc (.cells #[] 2)) 61 61 2 j0 (.int .i64 0) 1 8 Tryz.underlying61 hj0 hy0 hy1 hy2 (by rw [hy1];rfl) w.heap.size (some ad) nb cb (ints bs) (h.below B3) (ints_oneX bs) hn (by omega)
  go_enter Tryz.func247, Tryz.ntmps247
  go_wp2_with (at_builtin;refine Lib.wpList_append_run _ rfl _ _ _ _ rfl _ _ rfl rfl _ _ hr4 ?_)
  have B5 := below_next B3 B4
  have R5 : RowAt w4 true w.heap.size w4.heap.size 1 (some ad') nb cp (ints bs) := R4.widen (by simp) (Nat.le_refl _)
  clear B3 B4 R4 hr4;go_wp2;go_ret;exact ⟨some ad', cp, _, _, rfl, Nat.le_refl _, B5.size, Nat.le_refl _, R5, B5⟩
theorem cloneB_z {o : Bool} {l u : Nat} (ab : Option Addr) (nb cb : Nat) (xs : List Bool) (w : World) (h : RowAt w o l u 1 ab nb cb (bls xs)) (hn : nb ≤ 1048576) :
  Calls Tryz.prog 248 #[.slice ab nb cb] w fun e w' => CloR w w' e 1 nb (bls xs) := by
 obtain ⟨j0, hj0, hy0, hy1, hy2⟩ := info_parts Tryz.info4'
 have hq : ∀ W, (binOp .eql 62 (.slice ab nb cb) (.slice none 0 0)).run Tryz.prog W = .ok (.bool ab.isNone) W := fun W => Lib.run_eql_slice_nil W _ _ ab nb cb 0 0 Tryz.underlying62
 cases ab with
 | none =>
  simp only [Option.isNone_none] at hq
  have hz : nb = 0 := Decidable.byContradiction fun hne => by obtain ⟨_, _, e, _⟩ := h.cells hne;cases e
  subst hz
  have hbs : (bls xs) = [] := List.eq_nil_of_length_eq_zero (by have := h.len;omega)
  rw [hbs]
  go_enter Tryz.func248, Tryz.ntmps248
  go_wp2;go_ret;exact ⟨none, 0, _, _, rfl, Nat.le_refl _, Nat.le_refl _, Nat.le_refl _, RowAt.nil _ _ _ _ _, Below.refl _ _⟩
 | some ad =>
  simp only [Option.isNone_some] at hq
  have B3 : Below w.heap.size w (w.alloc (.cells #[] 4)) := (Below.refl _ _).alloc (Nat.le_refl _) _
  obtain ⟨ad', cp, w4, hr4, R4, B4, -⟩ := run_append_fresh (P := Tryz.prog) (w.alloc (.cells #[] 4)) 62 62 4 j0 (.bool false) 1 1 Tryz.underlying62 hj0 hy0 hy1 hy2 (by rw [hy1];rfl) w.heap.size (some ad) nb cb (bls xs) (h.below B3) (bls_one xs) hn (by omega)
  go_enter Tryz.func248, Tryz.ntmps248
  go_wp2_with (at_builtin;refine Lib.wpList_append_run _ rfl _ _ _ _ rfl _ _ rfl rfl _ _ hr4 ?_)
  have B5 := below_next B3 B4
  have R5 : RowAt w4 true w.heap.size w4.heap.size 1 (some ad') nb cp (bls xs) := R4.widen (by simp) (Nat.le_refl _)
  clear B3 B4 R4 hr4;go_wp2;go_ret;exact ⟨some ad', cp, _, _, rfl, Nat.le_refl _, B5.size, Nat.le_refl _, R5, B5⟩
theorem cloneD_z {o : Bool} {l u : Nat} (ab : Option Addr) (nb cb : Nat) (cs : List Value) (w : World) (h : RowAt w o l u 4 ab nb cb cs) (h1 : ∀ u ∈ cs, u.oneCell' = true) (hn : nb ≤ 1048576) :
  Calls Tryz.prog 272 #[.slice ab nb cb] w fun e w' => CloR w w' e 4 nb cs := by
 obtain ⟨j0, hj0, hy0, hy1, hy2⟩ := info_parts Tryz.infoDoer
 have hq : ∀ W, (binOp .eql 63 (.slice ab nb cb) (.slice none 0 0)).run Tryz.prog W = .ok (.bool ab.isNone) W := fun W => Lib.run_eql_slice_nil W _ _ ab nb cb 0 0 Tryz.underlying63
 cases ab with
 | none =>
  simp only [Option.isNone_none] at hq
  have hz : nb = 0 := Decidable.byContradiction fun hne => by obtain ⟨_, _, e, _⟩ := h.cells hne;cases e
  subst hz
  have hbs : cs = [] := List.eq_nil_of_length_eq_zero (by have := h.len;omega)
  rw [hbs]
  go_enter Tryz.func272, Tryz.ntmps272
  go_wp2;go_ret;exact ⟨none, 0, _, _, rfl, Nat.le_refl _, Nat.le_refl _, Nat.le_refl _, RowAt.nil _ _ _ _ _, Below.refl _ _⟩
 | some ad =>
  simp only [Option.isNone_some] at hq
  have B3 : Below w.heap.size w (w.alloc (.cells #[] 194)) := (Below.refl _ _).alloc (Nat.le_refl _) _
  obtain ⟨ad', cp, w4, hr4, R4, B4, -⟩ := run_append_fresh (P := Tryz.prog) (w.alloc (.cells #[] 194)) 63 63 194 j0 (.agg #[.bool false, .int .i64 0, .slice none 0 0, .int .i64 0]) 4 48 Tryz.underlying63 hj0 hy0 hy1 hy2 (by rw [hy1];rfl) w.heap.size (some ad) nb cb cs (h.below B3) h1 hn (by omega)
  go_enter Tryz.func272, Tryz.ntmps272
  go_wp2_with (at_builtin;refine Lib.wpList_append_run _ rfl _ _ _ _ rfl _ _ rfl rfl _ _ hr4 ?_)
  have B5 := below_next B3 B4
  have R5 : RowAt w4 true w.heap.size w4.heap.size 4 (some ad') nb cp cs := R4.widen (by simp) (Nat.le_refl _)
  clear B3 B4 R4 hr4;go_wp2;go_ret;exact ⟨some ad', cp, _, _, rfl, Nat.le_refl _, B5.size, Nat.le_refl _, R5, B5⟩
def cpF (K K' : Nat → Hd) (ds : List Dr) (k i j : Nat) : Value := if i < k then drF K' ds i j else drF K ds i j
theorem drF_one (K : Nat → Hd) (ds : List Dr) (i j : Nat) : (drF K ds i j).oneCell' = true := by
 unfold drF;split <;> (try rfl);split <;> (try rfl);split <;> rfl
theorem flat_one (n : Nat) (K : Nat → Hd) (ds : List Dr) : ∀ u ∈ flatF 4 n (drF K ds), u.oneCell' = true := fun u hu => by
 obtain ⟨j, _, rfl⟩ := List.mem_map.1 hu;exact drF_one K ds _ _
theorem ElsAt.of_clone {w : World} {lo hi : Nat} {ra : Option Addr} {n rc : Nat} {K : Nat → Hd} {ds : List Dr} (h : RowAt w true lo hi 4 ra n rc (flatF 4 n (drF K ds))) : ElsAt 4 w true lo hi ra n rc (cpF K kd0 ds 0) kd0 (paL ds 0) :=
 ElsAt.congr (F := drF K ds) (L := fun _ => []) ⟨h, fun i _ => RowAt.nilR _ _ _ _ _ _ _, fun _ i _ h0 => absurd rfl h0⟩ (fun i j _ _ => by simp [cpF]) (fun i _ => by simp [paL])
theorem copy_put {w : World} {lo b off n cap k : Nat} {K K' : Nat → Hd} {ds : List Dr} (h : ElsAt 4 w true lo w.heap.size (some ⟨b, off, none⟩) n cap (cpF K K' ds k) K' (paL ds k)) (hk : k < n) {w1 : World} (hb : Below w.heap.size w w1) {z1 u1 : Nat} (ra : Option Addr) (m c : Nat) (hz : w.heap.size ≤ z1) (hu : u1 ≤ w1.heap.size) (hlo : lo ≤ w.heap.size) (hr : RowAt w1 true z1 u1 6 ra m c (sixs (drL ds k))) :
  ElsAt 4 (w1.setCell ⟨b, off + (k * 4 + 2), none⟩ (.slice ra m c)) true lo w1.heap.size (some ⟨b, off, none⟩) n cap (cpF K (fun j => if j = k then (ra, m, c) else K' j) ds (k + 1)) (fun j => if j = k then (ra, m, c) else K' j) (paL ds (k + 1)) := by
 have E1 := ((h.below hb).widen (Nat.le_refl _) hb.size).newLog k (ra, m, c) (drL ds k) (hr.widen (by omega) hu) (fun h0 q hq e => by
  have h1 := h.inB hq;have h2 := hr.inB (k := sb ra) ⟨h0, rfl⟩
  simp only at e
  omega)
 have E2 := E1.store (i := k) (j := 2) hk (by omega) (.slice ra m c)
 refine E2.congr (fun i j hi hj => ?_) (fun i hi => ?_)
 ·by_cases e : i = k
  ·subst e
   rcases (by omega : j = 0 ∨ j = 1 ∨ j = 2 ∨ j = 3) with rfl | rfl | rfl | rfl <;> simp [updF, cpF, drF, hv]
  ·rcases (by omega : j = 0 ∨ j = 1 ∨ j = 2 ∨ j = 3) with rfl | rfl | rfl | rfl <;> simp only [updF, cpF, drF] <;> by_cases e2 : i < k <;> simp [e, e2, show i < k + 1 ↔ i < k by omega]
 ·by_cases e : i = k
  ·subst e;unfold paL;rw [if_pos (by omega)];simp
  ·simp [paL, e, show i < k + 1 ↔ i < k by omega]
theorem copyDoers_z {own : Bool} {lo hi : Nat} (ao : Option Addr) (n cap : Nat) (K : Nat → Hd) (ds : List Dr) (w : World) (h : DoersAt w own lo hi ao n cap K ds) (hn : n ≤ 1048576) (hm : ∀ i, i < n → (K i).2.1 ≤ 1048576) :
  Calls Tryz.prog 249 #[.slice ao n cap] w fun e w' => ∃ ra rc z u K', e = .returned (.slice ra n rc) ∧ w.heap.size ≤ z ∧ u ≤ w'.heap.size ∧ DoersAt w' true z u ra n rc K' ds ∧ (∀ i, i < n → (K' i).2.1 = (K i).2.1) ∧ Below w.heap.size w w' := by
 have hx := h.len
 have HM : Hid _ := hm
 clear hm
 go_enter Tryz.func249, Tryz.ntmps249
 go_wp2_with fail;refine (cloneD_z ao n cap _ w h.els.row (flat_one n K ds) hn).mono ?_;rintro e w1 ⟨ra, rc, z, u, rfl, Gz, zu, hR, R, B⟩;have E0 := (ElsAt.of_clone R).widen (Nat.le_refl _) hR;have hrc := R.le;have hz0 := Nat.le_trans zu hR;clear R zu hR;go_wp2
 go_loopw [4, 5, 10] (fun _ _ i wr => ∃ k : Nat, k ≤ n ∧ i = .int .i64 k ∧ (∃ K', ElsAt 4 wr true z wr.heap.size ra n rc (cpF K K' ds k) K' (paL ds k) ∧ (∀ i, i < k → (K' i).2.1 = (K i).2.1)) ∧ z ≤ wr.heap.size ∧ Below w.heap.size w wr) (fun _ _ i _ => n - (intOf i).toNat)
 case atStart => exact ⟨0, Nat.zero_le _, rfl, ⟨kd0, E0, fun i hi => absurd hi (Nat.not_lt_zero _)⟩, hz0, B⟩
 case round =>
  obtain ⟨k, hk, rfl, ⟨K', E, HE⟩, hzl, hb⟩ := hrel
  clear E0 B hz0
  by_cases hlt : k < n
  ·have hlk : (k : Int) < (n : Int) := by omega
   obtain ⟨b, off, rfl, hb1, hb2, hbs, hc, hf⟩ := E.el hlt (by omega)
   have e0 : wr.cell? ⟨b, off + k * 4, none⟩ = some (.bool (ds.getD k dr0).1) := by have := hc 0 (by omega);simpa [cpF, drF] using this
   have e1 : wr.cell? ⟨b, off + k * 4 + 1, none⟩ = some (.int .i64 (ds.getD k dr0).2.1) := by have := hc 1 (by omega);rw [← Nat.add_assoc] at this;simpa [cpF, drF] using this
   have e2 : wr.cell? ⟨b, off + k * 4 + 2, none⟩ = some (.slice (K k).1 (K k).2.1 (K k).2.2) := by have := hc 2 (by omega);rw [← Nat.add_assoc] at this;simpa [cpF, drF, hv] using this
   have e3 : wr.cell? ⟨b, off + k * 4 + 3, none⟩ = some (.int .i64 (ds.getD k dr0).2.2.2) := by have := hc 3 (by omega);rw [← Nat.add_assoc] at this;simpa [cpF, drF] using this
   have f2 : wr.frozen? ⟨b, off + k * 4 + 2, none⟩ = false := by have := hf rfl 2 (by omega);rwa [← Nat.add_assoc] at this
   have R := (h.els.logs k hlt).below hb;have hmk := HM.out k hlt
   have HP : Hid (∀ w1 z1 u1 ra m c, Below wr.heap.size wr w1 → wr.heap.size ≤ z1 → u1 ≤ w1.heap.size → RowAt w1 true z1 u1 6 ra m c (sixs (drL ds k)) → ElsAt 4 (w1.setCell ⟨b, off + (k * 4 + 2), none⟩ (.slice ra m c)) true z w1.heap.size (some ⟨b, off, none⟩) n rc (cpF K (fun j => if j = k then (ra, m, c) else K' j) ds (k + 1)) (fun j => if j = k then (ra, m, c) else K' j) (paL ds (k + 1))) := fun w1 z1 u1 ra m c q1 q2 q3 q4 => copy_put E hlt q1 ra m c q2 q3 hzl q4
   have HE2 : Hid (∀ (ra : Option Addr) (c i : Nat), i < k + 1 → ((fun j => if j = k then (ra, (K k).2.1, c) else K' j) i).2.1 = (K i).2.1) := fun ra c i hi => by
    by_cases e : i = k
    ·simp [e]
    ·simp only [if_neg e];exact HE i (by omega)
   clear E HE hc hf;generalize (ds.getD k dr0).1 = kn at *;generalize (ds.getD k dr0).2.1 = la at *;generalize (ds.getD k dr0).2.2.2 = cm at *;generalize K k = q at *
   obtain ⟨qa, qm, qc⟩ := q
   simp only at e2 R hmk HE2
   go_wp2_with (first | ((with_reducible refine store_midX 194 X0 0 [.bool kn, .int .i64 la, .slice qa qm qc, .int .i64 cm] (by simp) (by kernel_rfl) (by simp [Value.oneCell']) rfl rfl ?_);intro V1 S;replace X0 : Bx V1 b0 [.bool kn, .int .i64 la, .slice qa qm qc, .int .i64 cm] := S.bx;replace c0 := X0.cell;replace f0 := X0.froz;replace B := bkp B S.kept;clear S) | ((with_reducible refine alloc_newX 194 [.bool false, .int .i64 0, .slice none 0 0, .int .i64 0] (fun _ => by kernel_rfl) ?_);intro b0 W0 N0;have ob0 := N0.ge;have B := N0.below;have X0 := N0.bx;have c0 := X0.cell;have f0 := X0.froz;clear N0) | fail)
   refine (cloneE_z qa qm qc (drL ds k) _ (R.below B) hmk).mono ?_;rintro e w1 ⟨ra1, rc1, z1, u1, rfl, Gz1, _, hu1, R1, BB⟩;have Gz2 := Nat.le_trans B.size Gz1;replace B := below_next B BB;have P := HP.out w1 z1 u1 ra1 qm rc1 B Gz2 hu1 R1
   have HP1 : Hid _ := P
   have HE3 : Hid _ := HE2.out ra1 rc1
   replace e2 := cell_later B e2;replace f2 := frozen_later B hbs f2;replace hb := below_next hb B
   have hzl' := Nat.le_trans hzl B.size
   clear P HP HE2 R1 BB B X0 c0 f0 ob0 e0 e1 e3 R Gz1 Gz2 hu1 hbs
   have hS : Below w.heap.size w (w1.setCell ⟨b, off + k * 4 + 2, none⟩ (.slice ra1 qm rc1)) := Below.setCell hb (p := ⟨b, off + k * 4 + 2, none⟩) (by show _ ≤ b;omega) _
   have HS : Hid _ := hS
   clear hS hb;go_wp2
   go_roundw
   case rel => exact ⟨k + 1, by omega, by go_num, ⟨_, by have := HP1.out.widen (Nat.le_refl _) (show w1.heap.size ≤ (w1.setCell ⟨b, off + (k * 4 + 2), none⟩ (.slice ra1 qm rc1)).heap.size by simp);simpa [Nat.add_assoc] using this, HE3.out⟩, by simpa using hzl', HS.out⟩
   case measure => simp [intOf];omega
  ·obtain rfl : k = n := by omega
   go_wp2;go_ret
   exact ⟨ra, rc, z, _, K', rfl, Gz, Nat.le_refl _, ⟨hx, E.congr (fun i j hi hj => by simp [cpF, hi]) (fun i hi => by simp [paL, hi])⟩, HE, hb⟩
theorem repAt_ofZ {w : World} {r : Rep} {h : RH} {lo hi z5 u5 z7 u7 z8 u8 z9 u9 : Nat} (R5 : RowAt w true z5 u5 6 h.L.1 h.L.2.1 h.L.2.2 (sixs r.log)) (R7 : RowAt w true z7 u7 1 h.O.1 h.O.2.1 h.O.2.2 (ints r.oks)) (R8 : RowAt w true z8 u8 1 h.A.1 h.A.2.1 h.A.2.2 (bls r.asks)) (D : DoersAt w true z9 u9 h.D.1 h.D.2.1 h.D.2.2 h.K r.doers)
  (h5 : lo ≤ z5 ∧ u5 ≤ hi) (h7 : lo ≤ z7 ∧ u7 ≤ hi) (h8 : lo ≤ z8 ∧ u8 ≤ hi) (h9 : lo ≤ z9 ∧ u9 ≤ hi) (o57 : u5 ≤ z7 ∨ u7 ≤ z5) (o58 : u5 ≤ z8 ∨ u8 ≤ z5) (o59 : u5 ≤ z9 ∨ u9 ≤ z5) (o78 : u7 ≤ z8 ∨ u8 ≤ z7) (o79 : u7 ≤ z9 ∨ u9 ≤ z7) (o89 : u8 ≤ z9 ∨ u9 ≤ z8) : RepAt w true lo hi h r :=
 ⟨R5.widen h5.1 h5.2, R7.widen h7.1 h7.2, R8.widen h8.1 h8.2, D.widen h9.1 h9.2, fun _ => ⟨fun x h1 h2 => by have a := R5.inB h1;have b := R7.inB h2;omega, fun x h1 h2 => by have a := R5.inB h1;have b := R8.inB h2;omega, fun x h1 h2 => by have a := R5.inB h1;have b := D.els.inB h2;omega, fun x h1 h2 => by have a := R7.inB h1;have b := R8.inB h2;omega, fun x h1 h2 => by have a := R7.inB h1;have b := D.els.inB h2;omega, fun x h1 h2 => by have a := R8.inB h1;have b := D.els.inB h2;omega⟩⟩
theorem copyReplica_z {own : Bool} {lo hi : Nat} (r : Rep) (h : RH) (w : World) (x : RepAt w own lo hi h r) (hs : RSz h 1048576) :
  Calls Tryz.prog 193 #[.agg #[.int .i64 r.id, .int .i64 r.size, .int .i64 r.view, .bool r.normal, .int .i64 r.last, .slice h.L.1 h.L.2.1 h.L.2.2, .int .i64 r.commit, .slice h.O.1 h.O.2.1 h.O.2.2, .slice h.A.1 h.A.2.1 h.A.2.2, .slice h.D.1 h.D.2.1 h.D.2.2]] w fun e w' => ∃ (z u : Nat) (h' : RH), e = .returned (.agg #[.int .i64 r.id, .int .i64 r.size, .int .i64 r.view, .bool r.normal, .int .i64 r.last, .slice h'.L.1 h'.L.2.1 h'.L.2.2, .int .i64 r.commit, .slice h'.O.1 h'.O.2.1 h'.O.2.2, .slice h'.A.1 h'.A.2.1 h'.A.2.2, .slice h'.D.1 h'.D.2.1 h'.D.2.2]) ∧ w.heap.size ≤ z ∧ u ≤ w'.heap.size ∧ RepAt w' true z u h' r ∧ RSz h' 1048576 ∧ Below w.heap.size w w' := by
 have HS : Hid (∀ i, i < h.D.2.1 → (h.K i).2.1 ≤ 1048576) := hs.K
 go_enter Tryz.func193, Tryz.ntmps193
 go_wp2_with (first | ((have g := ob0);clear g;(with_reducible refine alloc_newX 65 [.int .i64 0, .int .i64 0, .int .i64 0, .bool false, .int .i64 0, .slice none 0 0, .int .i64 0, .slice none 0 0, .slice none 0 0, .slice none 0 0] (fun _ => by kernel_rfl) ?_);intro b1 W1 N1;have ob1 := Nat.le_trans B.size N1.ge;have o0_b1 := ltl X0.lt N1.ge;replace X0 := X0.below N1.below;replace c0 := X0.cell;replace f0 := X0.froz;replace B := below_next B N1.below;have X1 := N1.bx;have c1 := X1.cell;have f1 := X1.froz;clear N1) | ((with_reducible refine box_newX 65 [.int .i64 r.id, .int .i64 r.size, .int .i64 r.view, .bool r.normal, .int .i64 r.last, .slice h.L.1 h.L.2.1 h.L.2.2, .int .i64 r.commit, .slice h.O.1 h.O.2.1 h.O.2.2, .slice h.A.1 h.A.2.1 h.A.2.2, .slice h.D.1 h.D.2.1 h.D.2.2] rfl ?_);intro b0 W0 N0;have ob0 := N0.ge;have B := N0.below;have X0 := N0.bx;have c0 := X0.cell;have f0 := X0.froz;clear N0) | fail)
 refine (cloneE_z _ _ _ r.log _ (by exact x.log.below B) hs.L).mono ?_
 rintro e w5 ⟨ra5, rc5, z5, u5, rfl, Gz5, _, hR5, R5, BB⟩;have oz5 := Nat.le_trans B.size Gz5;have o0_z5 := ltl X0.lt Gz5;have o1_z5 := ltl X1.lt Gz5;clear Gz5;replace X0 := X0.below BB;replace c0 := X0.cell;replace f0 := X0.froz;replace X1 := X1.below BB;replace c1 := X1.cell;replace f1 := X1.froz;replace B := below_next B BB;clear BB
 go_wp2_with (first | ((with_reducible refine store_oneX 30 X0 5 (.slice ra5 h.L.2.1 rc5) (by simp) (by kernel_rfl) rfl rfl rfl ?_);intro V1 S;replace X0 : Bx V1 b0 [.int .i64 r.id, .int .i64 r.size, .int .i64 r.view, .bool r.normal, .int .i64 r.last, .slice ra5 h.L.2.1 rc5, .int .i64 r.commit, .slice h.O.1 h.O.2.1 h.O.2.2, .slice h.A.1 h.A.2.1 h.A.2.2, .slice h.D.1 h.D.2.1 h.D.2.2] := S.bx;replace c0 := X0.cell;replace f0 := X0.froz;replace X1 := X1.kp S.kept;replace c1 := X1.cell;replace f1 := X1.froz;replace R5 := R5.kept S.kept (by omega);replace hR5 := Nat.le_trans hR5 S.kept.size;replace B := bkp B S.kept;clear S) | fail)
 refine (cloneI_z _ _ _ r.oks _ (by exact x.oks.below B) hs.O).mono ?_
 rintro e w7 ⟨ra7, rc7, z7, u7, rfl, Gz7, _, hR7, R7, BB⟩;have oz7 := Nat.le_trans B.size Gz7;have o0_z7 := ltl X0.lt Gz7;have o1_z7 := ltl X1.lt Gz7;have oR5_z7 := Nat.le_trans hR5 Gz7;clear Gz7;replace X0 := X0.below BB;replace c0 := X0.cell;replace f0 := X0.froz;replace X1 := X1.below BB;replace c1 := X1.cell;replace f1 := X1.froz;replace R5 := R5.below BB;replace hR5 := Nat.le_trans hR5 BB.size;replace B := below_next B BB;clear BB
 go_wp2_with (first | ((with_reducible refine store_oneX 61 X0 7 (.slice ra7 h.O.2.1 rc7) (by simp) (by kernel_rfl) rfl rfl rfl ?_);intro V2 S;replace X0 : Bx V2 b0 [.int .i64 r.id, .int .i64 r.size, .int .i64 r.view, .bool r.normal, .int .i64 r.last, .slice ra5 h.L.2.1 rc5, .int .i64 r.commit, .slice ra7 h.O.2.1 rc7, .slice h.A.1 h.A.2.1 h.A.2.2, .slice h.D.1 h.D.2.1 h.D.2.2] := S.bx;replace c0 := X0.cell;replace f0 := X0.froz;replace X1 := X1.kp S.kept;replace c1 := X1.cell;replace f1 := X1.froz;replace R5 := R5.kept S.kept (by omega);replace hR5 := Nat.le_trans hR5 S.kept.size;replace R7 := R7.kept S.kept (by omega);replace hR7 := Nat.le_trans hR7 S.kept.size;replace B := bkp B S.kept;clear S) | fail)
 refine (cloneB_z _ _ _ r.asks _ (by exact x.asks.below B) hs.A).mono ?_
 rintro e w8 ⟨ra8, rc8, z8, u8, rfl, Gz8, _, hR8, R8, BB⟩;have oz8 := Nat.le_trans B.size Gz8;have o0_z8 := ltl X0.lt Gz8;have o1_z8 := ltl X1.lt Gz8;have oR5_z8 := Nat.le_trans hR5 Gz8;have oR7_z8 := Nat.le_trans hR7 Gz8;clear Gz8;replace X0 := X0.below BB;replace c0 := X0.cell;replace f0 := X0.froz;replace X1 := X1.below BB;replace c1 := X1.cell;replace f1 := X1.froz;replace R5 := R5.below BB;replace hR5 := Nat.le_trans hR5 BB.size;replace R7 := R7.below BB;replace hR7 := Nat.le_trans hR7 BB.size;replace B := below_next B BB;clear BB
 go_wp2_with (first | ((with_reducible refine store_oneX 62 X0 8 (.slice ra8 h.A.2.1 rc8) (by simp) (by kernel_rfl) rfl rfl rfl ?_);intro V3 S;replace X0 : Bx V3 b0 [.int .i64 r.id, .int .i64 r.size, .int .i64 r.view, .bool r.normal, .int .i64 r.last, .slice ra5 h.L.2.1 rc5, .int .i64 r.commit, .slice ra7 h.O.2.1 rc7, .slice ra8 h.A.2.1 rc8, .slice h.D.1 h.D.2.1 h.D.2.2] := S.bx;replace c0 := X0.cell;replace f0 := X0.froz;replace X1 := X1.kp S.kept;replace c1 := X1.cell;replace f1 := X1.froz;replace R5 := R5.kept S.kept (by omega);replace hR5 := Nat.le_trans hR5 S.kept.size;replace R7 := R7.kept S.kept (by omega);replace hR7 := Nat.le_trans hR7 S.kept.size;replace R8 := R8.kept S.kept (by omega);replace hR8 := Nat.le_trans hR8 S.kept.size;replace B := bkp B S.kept;clear S) | fail)
 refine (copyDoers_z _ _ _ h.K r.doers _ (by exact x.doers.below B) hs.D HS.out).mono ?_
 rintro e w9 ⟨ra9, rc9, z9, u9, K', rfl, Gz9, hR9, R9, HK, BB⟩
 have HK' : Hid _ := HK
 clear HK;have oz9 := Nat.le_trans B.size Gz9;have o0_z9 := ltl X0.lt Gz9;have o1_z9 := ltl X1.lt Gz9;have oR5_z9 := Nat.le_trans hR5 Gz9;have oR7_z9 := Nat.le_trans hR7 Gz9;have oR8_z9 := Nat.le_trans hR8 Gz9;clear Gz9;replace X0 := X0.below BB;replace c0 := X0.cell;replace f0 := X0.froz;replace X1 := X1.below BB;replace c1 := X1.cell;replace f1 := X1.froz;replace R5 := R5.below BB;replace hR5 := Nat.le_trans hR5 BB.size;replace R7 := R7.below BB;replace hR7 := Nat.le_trans hR7 BB.size;replace R8 := R8.below BB;replace hR8 := Nat.le_trans hR8 BB.size;replace B := below_next B BB;clear BB
 go_wp2_with (first | ((with_reducible refine store_midX 65 X1 0 [.int .i64 r.id, .int .i64 r.size, .int .i64 r.view, .bool r.normal, .int .i64 r.last, .slice ra5 h.L.2.1 rc5, .int .i64 r.commit, .slice ra7 h.O.2.1 rc7, .slice ra8 h.A.2.1 rc8, .slice ra9 h.D.2.1 rc9] (by simp) (by kernel_rfl) (by simp [Value.oneCell']) rfl rfl ?_);intro V5 S;replace X0 := X0.kp S.kept;replace c0 := X0.cell;replace f0 := X0.froz;replace X1 : Bx V5 b1 [.int .i64 r.id, .int .i64 r.size, .int .i64 r.view, .bool r.normal, .int .i64 r.last, .slice ra5 h.L.2.1 rc5, .int .i64 r.commit, .slice ra7 h.O.2.1 rc7, .slice ra8 h.A.2.1 rc8, .slice ra9 h.D.2.1 rc9] := S.bx;replace c1 := X1.cell;replace f1 := X1.froz;replace R5 := R5.kept S.kept (by omega);replace hR5 := Nat.le_trans hR5 S.kept.size;replace R7 := R7.kept S.kept (by omega);replace hR7 := Nat.le_trans hR7 S.kept.size;replace R8 := R8.kept S.kept (by omega);replace hR8 := Nat.le_trans hR8 S.kept.size;replace R9 := R9.kept S.kept (by omega);replace hR9 := Nat.le_trans hR9 S.kept.size;replace B := bkp B S.kept;clear S) | ((with_reducible refine store_oneX 63 X0 9 (.slice ra9 h.D.2.1 rc9) (by simp) (by kernel_rfl) rfl rfl rfl ?_);intro V4 S;replace X0 : Bx V4 b0 [.int .i64 r.id, .int .i64 r.size, .int .i64 r.view, .bool r.normal, .int .i64 r.last, .slice ra5 h.L.2.1 rc5, .int .i64 r.commit, .slice ra7 h.O.2.1 rc7, .slice ra8 h.A.2.1 rc8, .slice ra9 h.D.2.1 rc9] := S.bx;replace c0 := X0.cell;replace f0 := X0.froz;replace X1 := X1.kp S.kept;replace c1 := X1.cell;replace f1 := X1.froz;replace R5 := R5.kept S.kept (by omega);replace hR5 := Nat.le_trans hR5 S.kept.size;replace R7 := R7.kept S.kept (by omega);replace hR7 := Nat.le_trans hR7 S.kept.size;replace R8 := R8.kept S.kept (by omega);replace hR8 := Nat.le_trans hR8 S.kept.size;replace R9 := R9.kept S.kept (by omega);replace hR9 := Nat.le_trans hR9 S.kept.size;replace B := bkp B S.kept;clear S))
 refine bodyPost_ret (v := .agg #[.int .i64 r.id, .int .i64 r.size, .int .i64 r.view, .bool r.normal, .int .i64 r.last, .slice ra5 h.L.2.1 rc5, .int .i64 r.commit, .slice ra7 h.O.2.1 rc7, .slice ra8 h.A.2.1 rc8, .slice ra9 h.D.2.1 rc9]) (by simp [results, Tryz.results193, go_sem, *]) rfl ⟨w.heap.size, V5.heap.size, ⟨(ra5, h.L.2.1, rc5), (ra7, h.O.2.1, rc7), (ra8, h.A.2.1, rc8), (ra9, h.D.2.1, rc9), K'⟩, rfl, Nat.le_refl _, Nat.le_refl _, ?_, ?_, B⟩
 ·exact repAt_ofZ R5 R7 R8 R9 ⟨by omega, by omega⟩ ⟨by omega, by omega⟩ ⟨by omega, by omega⟩ ⟨by omega, by omega⟩ (by omega) (by omega) (by omega) (by omega) (by omega) (by omega)
 ·exact ⟨hs.L, hs.O, hs.A, hs.D, fun i hi => by rw [HK'.out i hi];exact HS.out i hi⟩
theorem nodeOf_z {own : Bool} {lo hi : Nat} (r : Rep) (h : RH) (w : World) (x : RepAt w own lo hi h r) (hs : RSz h 1048576) :
  Calls Tryz.prog 109 #[.agg #[.int .i64 r.id, .int .i64 r.size, .int .i64 r.view, .bool r.normal, .int .i64 r.last, .slice h.L.1 h.L.2.1 h.L.2.2, .int .i64 r.commit, .slice h.O.1 h.O.2.1 h.O.2.2, .slice h.A.1 h.A.2.1 h.A.2.2, .slice h.D.1 h.D.2.1 h.D.2.2]] w fun e w' => ∃ (bq z u : Nat) (h' : RH), e = .returned (.pointer (some ⟨bq, 0, none⟩)) ∧ w.heap.size ≤ z ∧ u ≤ bq ∧ w.heap.size ≤ bq ∧ Bx w' bq [.int .i64 r.id, .int .i64 r.size, .int .i64 r.view, .bool r.normal, .int .i64 r.last, .slice h'.L.1 h'.L.2.1 h'.L.2.2, .int .i64 r.commit, .slice h'.O.1 h'.O.2.1 h'.O.2.2, .slice h'.A.1 h'.A.2.1 h'.A.2.2, .slice h'.D.1 h'.D.2.1 h'.D.2.2, .slice none 0 0] ∧ RepAt w' true z u h' r ∧ RSz h' 1048576 ∧ Below w.heap.size w w' := by
 go_enter Tryz.func109, Tryz.ntmps109
 go_wp2_with (first | ((with_reducible refine box_newX 65 [.int .i64 r.id, .int .i64 r.size, .int .i64 r.view, .bool r.normal, .int .i64 r.last, .slice h.L.1 h.L.2.1 h.L.2.2, .int .i64 r.commit, .slice h.O.1 h.O.2.1 h.O.2.2, .slice h.A.1 h.A.2.1 h.A.2.2, .slice h.D.1 h.D.2.1 h.D.2.2] rfl ?_);intro b0 W0 N0;have ob0 := N0.ge;have B := N0.below;have X0 := N0.bx;have c0 := X0.cell;clear N0) | fail)
 refine (copyReplica_z r h _ (x.below B) hs).mono ?_;rintro e w1 ⟨z, u, h', rfl, Gz, hR, R, HZ, BB⟩;have oz := Nat.le_trans B.size Gz;have o0_z := ltl X0.lt Gz;clear Gz;replace X0 := X0.below BB;replace c0 := X0.cell;replace B := below_next B BB;clear BB
 go_wp2_with (first | ((have g := ob0);clear g;(with_reducible refine box_newX 145 [.int .i64 r.id, .int .i64 r.size, .int .i64 r.view, .bool r.normal, .int .i64 r.last, .slice h'.L.1 h'.L.2.1 h'.L.2.2, .int .i64 r.commit, .slice h'.O.1 h'.O.2.1 h'.O.2.2, .slice h'.A.1 h'.A.2.1 h'.A.2.2, .slice h'.D.1 h'.D.2.1 h'.D.2.2, .slice none 0 0] rfl ?_);intro b1 W1 N1;have ob1 := Nat.le_trans B.size N1.ge;have o0_b1 := ltl X0.lt N1.ge;have oR_b1 := Nat.le_trans hR N1.ge;replace X0 := X0.below N1.below;replace c0 := X0.cell;replace R := R.below N1.below;replace hR := Nat.le_trans hR N1.below.size;replace B := below_next B N1.below;have X1 := N1.bx;have c1 := X1.cell;clear N1))
 go_ret;exact ⟨b1, z, u, h', rfl, oz, oR_b1, ob1, X1, R, HZ, B⟩
theorem primaryFor_z {own : Bool} {lo hi : Nat} (r : Rep) (h : RH) (w : World) (x : RepAt w own lo hi h r) (hs : RSz h 1048576) :
  Calls Tryz.prog 126 #[.agg #[.int .i64 r.id, .int .i64 r.size, .int .i64 r.view, .bool r.normal, .int .i64 r.last, .slice h.L.1 h.L.2.1 h.L.2.2, .int .i64 r.commit, .slice h.O.1 h.O.2.1 h.O.2.2, .slice h.A.1 h.A.2.1 h.A.2.2, .slice h.D.1 h.D.2.1 h.D.2.2]] w fun e w' => ∃ (bq z u : Nat) (h' : RH), e = .returned (.agg #[.pointer (some ⟨bq, 0, none⟩)]) ∧ w.heap.size ≤ z ∧ u ≤ bq ∧ w.heap.size ≤ bq ∧ Bx w' bq [.int .i64 r.id, .int .i64 r.size, .int .i64 r.view, .bool r.normal, .int .i64 r.last, .slice h'.L.1 h'.L.2.1 h'.L.2.2, .int .i64 r.commit, .slice h'.O.1 h'.O.2.1 h'.O.2.2, .slice h'.A.1 h'.A.2.1 h'.A.2.2, .slice h'.D.1 h'.D.2.1 h'.D.2.2, .slice none 0 0] ∧ RepAt w' true z u h' r ∧ RSz h' 1048576 ∧ Below w.heap.size w w' := by
 go_enter Tryz.func126, Tryz.ntmps126
 go_wp2_with (first | ((have g := ob0);clear g;(with_reducible refine alloc_newX 142 [.pointer none] (fun _ => by kernel_rfl) ?_);intro b1 W1 N1;have ob1 := Nat.le_trans B.size N1.ge;have o0_b1 := ltl X0.lt N1.ge;replace X0 := X0.below N1.below;replace c0 := X0.cell;replace B := below_next B N1.below;have X1 := N1.bx;have c1 := X1.cell;have f1 := X1.froz;clear N1) | ((with_reducible refine box_newX 65 [.int .i64 r.id, .int .i64 r.size, .int .i64 r.view, .bool r.normal, .int .i64 r.last, .slice h.L.1 h.L.2.1 h.L.2.2, .int .i64 r.commit, .slice h.O.1 h.O.2.1 h.O.2.2, .slice h.A.1 h.A.2.1 h.A.2.2, .slice h.D.1 h.D.2.1 h.D.2.2] rfl ?_);intro b0 W0 N0;have ob0 := N0.ge;have B := N0.below;have X0 := N0.bx;have c0 := X0.cell;clear N0) | fail)
 refine (nodeOf_z r h _ (x.below B) hs).mono ?_;rintro e w1 ⟨bq, z, u, h', rfl, Gz, uq, Gq, XQ, R, HZ, BB⟩;have oz := Nat.le_trans B.size Gz;have oq := Nat.le_trans B.size Gq;have o1_z := ltl X1.lt Gz;have o1_q := ltl X1.lt Gq;clear Gz Gq;replace X0 := X0.below BB;replace c0 := X0.cell;replace X1 := X1.below BB;replace c1 := X1.cell;replace f1 := X1.froz;replace B := below_next B BB;clear BB
 go_wp2_with (first | ((with_reducible refine store_midX 142 X1 0 [.pointer (some ⟨bq, 0, none⟩)] (by simp) (by kernel_rfl) (by simp [Value.oneCell']) rfl rfl ?_);intro V1 S;replace X1 : Bx V1 b1 [.pointer (some ⟨bq, 0, none⟩)] := S.bx;replace c1 := X1.cell;replace R := R.kept S.kept (by omega);replace XQ := XQ.kept S.kept (by omega);replace B := bkp B S.kept;clear S))
 refine bodyPost_ret (v := .agg #[.pointer (some ⟨bq, 0, none⟩)]) (by simp [results, Tryz.results126, go_sem, *]) rfl ⟨bq, z, u, h', rfl, oz, uq, oq, XQ, R, HZ, B⟩
end Go.Proofs.YtgldocaohcoleaaGreat
