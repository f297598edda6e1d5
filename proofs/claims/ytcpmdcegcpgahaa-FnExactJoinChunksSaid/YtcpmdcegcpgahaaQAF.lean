/- Lists of lists of numbers, as long as they may be: copied, counted, compared, marked. -/
import Derived.Test.YtcpmdcegcpgahaaQAE
import Derived.Test.YtcpmdcegcpgahaaQAC
import Derived.Test.YtcpmdcegcpgahaaQAB
import Derived.Test.YtcpmdcegcpgahaaQAD
import Derived.Lib.AppendZeros
import Derived.Maps.AppendAt
import Derived.Deep.DeepCutAuto
set_option maxRecDepth 20000
set_option maxHeartbeats 16000000
namespace Go.Proofs.Ytcpmdcegcpgahaa
open Go.RowKit
theorem lens_le_succ (rs : List (List Int)) (i : Nat) : lens rs i ≤ lens rs (i + 1) := by
 by_cases hi : i < rs.length
 ·rw [lens_succ hi]; omega
 ·have : lens rs (i + 1) = lens rs i := by unfold lens; rw [List.take_of_length_le (by omega), List.take_of_length_le (by omega)]
  omega
theorem lens_up (rs : List (List Int)) {i j : Nat} (h : i ≤ j) : lens rs i ≤ lens rs j := by
 induction j with
 | zero =>
  obtain rfl : i = 0 := by omega
  exact Nat.le_refl _
 | succ j ih =>
  by_cases e : i = j + 1
  ·subst e; exact Nat.le_refl _
  ·exact Nat.le_trans (ih (by omega)) (lens_le_succ rs j)
theorem lens_all (rs : List (List Int)) {j : Nat} (h : rs.length ≤ j) : lens rs j = lens rs rs.length := by
 unfold lens; rw [List.take_of_length_le h, List.take_of_length_le (Nat.le_refl _)]
theorem lens_mono (rs : List (List Int)) (j : Nat) : lens rs j ≤ lens rs rs.length := by
 by_cases h : j ≤ rs.length
 ·exact lens_up rs h
 ·rw [lens_all rs (by omega)]; exact Nat.le_refl _
theorem lens_row {rs : List (List Int)} {j : Nat} (h : j < rs.length) : (rs.getD j []).length ≤ lens rs rs.length := by
 have h1 := lens_succ h
 have h2 := lens_mono rs (j + 1)
 omega
structure RecsRO (w : World) (vs : List Value) (rs : List (List Int)) : Prop where
 len : vs.length = rs.length
 each : ∀ i, i < rs.length → ∃ (o : Bool) (a : Option Addr) (n c l u : Nat), vs.getD i default = .slice a n c ∧ n ≤ maxLen ∧ RowAt w o l u 1 a n c (ints (rs.getD i []))
theorem RecsRO.below {w w' : World} {vs : List Value} {rs : List (List Int)} (h : RecsRO w vs rs) (B : Below w.heap.size w w') : RecsRO w' vs rs :=
 ⟨h.len, fun i hi => let ⟨o, a, n, c, l, u, e, hm, r⟩ := h.each i hi; ⟨o, a, n, c, l, u, e, hm, r.below B⟩⟩
theorem RecsOwn.ro {w : World} {lo : Nat} {v : Value} {vs : List Value} {rs : List (List Int)} (h : RecsOwn w lo v vs rs) (hs : lens rs rs.length ≤ 1048576) : RecsRO w vs rs := by
 refine ⟨h.but.len, fun i hi => ?_⟩
 obtain ⟨g, n, c, h1, _, _, _, h5⟩ := h.but.each i hi
 refine ⟨true, _, n, c, _, _, h1, ?_, h5⟩
 have := h5.nInts
 have := lens_row hi
 unfold maxLen
 omega
theorem markSS_w {lo hi : Nat} (a : Option Addr) (c : Nat) (vs : List Value) (rs : List (List Int)) (w : World) (h : RecsOwn w lo (.slice a rs.length c) vs rs) (hhi : ∀ j, j < rs.length → blkOf (vs.getD j default) < hi) (hs : lens rs rs.length ≤ 1048576) (hn : rs.length ≤ 1048576) :
  Calls Try.prog 14 #[.slice a rs.length c, .int .i64 1] w fun e w' => e = .returned (.int .i64 (1 + (lens rs rs.length : Int))) ∧ RecsOwn w' lo (.slice a rs.length c) vs (mkL rs rs.length) ∧ Kept lo hi w w' := by
 go_enter Try.func14, Try.ntmps14
 go_wp2
 go_loopw [1, 5] (fun q i wr => ∃ j : Nat, j ≤ rs.length ∧ i = .int .i64 j ∧ q = .int .i64 (1 + (lens rs j : Int)) ∧ RecsOwn wr lo (.slice a rs.length c) vs (mkL rs j) ∧ Kept lo hi w wr) (fun _ i _ => rs.length - (intOf i).toNat)
 case atStart => exact ⟨0, by omega, rfl, rfl, by rw [mkL_zero]; exact h, Kept.refl _ _ _⟩
 case round =>
  obtain ⟨j, hj, rfl, rfl, D, hk⟩ := hrel
  by_cases hlt : j < rs.length
  ·have hlk : (j : Int) < (rs.length : Nat) := by omega
   obtain ⟨g, n, c', e1, e2, e3, e4, e5⟩ := D.but.each j (by rw [mkL_len]; exact hlt)
   have hgw : g < hi := by have := hhi j hlt; rw [e1] at this; exact this
   rw [mkL_getD _ _ _ hlt, if_neg (Nat.lt_irrefl _)] at e5
   have hnl : (rs.getD j []).length = n := e5.nInts
   have hn8 : n ≤ 1048576 := by rw [← hnl]; exact Nat.le_trans (lens_row hlt) hs
   have hle : lens rs j ≤ 1048576 := Nat.le_trans (lens_mono rs j) hs
   obtain ⟨_, _, e0, R⟩ := RowAt.of_owned D.own
   rw [mkL_len] at e0 R
   cases e0
   obtain ⟨bo, fo, rfl, _, hc⟩ := R.elem hlt e1
   have HS : Hid _ := lens_succ hlt
   have HN : Hid _ := hnl
   have hst := fun (w' : World) => D.step (w' := w') hlt e1
   have HST : Hid _ := hst
   rw [hnl] at HS
   clear R hnl e1 hst
   generalize lens rs j = q at *
   go_wp2_with fail
   refine (markInts_any _ n c' (rs.getD j []) _ _ e5 (by omega) (by omega) (by omega)).mono ?_
   rintro e w1 ⟨rfl, r1, hk1⟩
   have D1 := HST.out w1 hk1 (by rw [HN.out]; exact r1)
   have hk2 := hk.trans (hk1.mono e3 hgw)
   clear r1 hk1 e5 hc HST D
   go_wp2
   go_roundw
   case rel => exact ⟨j + 1, by omega, by go_num, by rw [HS.out]; congr 1; omega, D1, hk2⟩
   case measure => simp [intOf]; omega
  ·obtain rfl : j = rs.length := by omega
   have hlk : ¬ ((rs.length : Nat) : Int) < (rs.length : Nat) := by omega
   go_wp2
   go_ret
   exact ⟨rfl, D, hk⟩
theorem eqSS_w {o1 o2 : Bool} {l1 u1 l2 u2 lo1 lo2 : Nat} (a1 a2 : Option Addr) (n c1 c2 : Nat) (vs1 vs2 : List Value) (rs : List (List Int)) (w : World) (r1 : RowAt w o1 l1 u1 1 a1 n c1 vs1) (q1 : RecsAt w lo1 vs1 rs) (r2 : RowAt w o2 l2 u2 1 a2 n c2 vs2) (q2 : RecsAt w lo2 vs2 rs) (hr : rs.length = n) (hs : lens rs rs.length ≤ 1048576) (hn : n ≤ 1048576) :
  Calls Try.prog 13 #[.slice a1 n c1, .slice a2 n c2] w fun e w' => e = .returned (.bool true) ∧ Below w.heap.size w w' := by
 have hnn : ((n : Int) != (n : Int)) = false := by simp
 go_enter Try.func13, Try.ntmps13
 go_wp2
 go_loopw [5] (fun i wr => ∃ j : Nat, j ≤ n ∧ i = .int .i64 j ∧ Below w.heap.size w wr) (fun i _ => n - (intOf i).toNat)
 case atStart => exact ⟨0, by omega, rfl, Below.refl _ _⟩
 case round =>
  obtain ⟨j, hj, rfl, hb⟩ := hrel
  by_cases hlt : j < n
  ·have hlk : (j : Int) < (n : Nat) := by omega
   have D : Below wr.heap.size wr wr.drew := (Below.refl _ _).drew
   have hb := below_next hb D
   obtain ⟨x1, m1, d1, lx1, ux1, e1, _, _, g1⟩ := q1.each j (by omega)
   obtain ⟨x2, m2, d2, lx2, ux2, e2, _, _, g2⟩ := q2.each j (by omega)
   obtain ⟨b1, f1, rfl, _, k1⟩ := (r1.below hb).elem hlt e1
   obtain ⟨b2, f2, rfl, _, k2⟩ := (r2.below hb).elem hlt e2
   replace g1 := g1.below hb
   replace g2 := g2.below hb
   have hm1 : m1 ≤ 2097152 := by rw [← g1.nInts]; have := lens_row (rs := rs) (j := j) (by omega); omega
   have hm2 : m2 ≤ 2097152 := by rw [← g2.nInts]; have := lens_row (rs := rs) (j := j) (by omega); omega
   clear e1 e2 D
   generalize rs.getD j [] = r at *
   go_wp2_with fail
   go_region_held3 (fun w' => w'.cell? ⟨b1, f1 + j, none⟩ = some (.slice x1 m1 d1) ∧ w'.cell? ⟨b2, f2 + j, none⟩ = some (.slice x2 m2 d2)) (exact ⟨k1, k2⟩) (first | (go_at_call 48; refine (eqInts_is _ _ _ _ _ _ r r _ g1 g2 hm1 hm2 true (decide_eq_true rfl)).mono ?_; rintro e w3 ⟨rfl, hb3⟩; replace k1 := cell_later hb3 k1; replace k2 := cell_later hb3 k2; replace hb := below_next hb hb3; clear hb3))
   go_wp2
   go_roundw
   case rel => exact ⟨j + 1, by omega, by go_num, hb⟩
   case measure => simp [intOf]; omega
  ·obtain rfl : j = n := by omega
   have hlk : ¬ ((j : Nat) : Int) < (j : Nat) := by omega
   go_wp2
   go_ret
   exact ⟨rfl, hb⟩
theorem szSS_left {o : Bool} {lo hi : Nat} (ao : Option Addr) (n cap : Nat) (vs : List Value) (rs : List (List Int)) (w : World) (r : RowAt w o lo hi 1 ao n cap vs) (q : RecsRO w vs rs) (hr : rs.length = n) (hn : n ≤ maxLen) :
  Calls Try.prog 8 #[.slice ao n cap, .int .i64 1048576] w fun e w' => ∃ r : Int, e = .returned (.int .i64 r) ∧ w' = w ∧ (r < 0 ∨ (0 ≤ r ∧ n ≤ 1048576 ∧ lens rs rs.length ≤ 1048576)) := by
 have hn' : n ≤ 9223372036854775807 := by unfold maxLen at hn; omega
 by_cases hbig : 1048576 < n
 ·have hbi : (1048576 : Int) < (n : Int) := by omega
  unfold maxLen at hn
  go_enter Try.func8, Try.ntmps8
  go_wp2
  go_ret
  exact ⟨-1, rfl, rfl, Or.inl (by omega)⟩
 have hbi : ¬ (1048576 : Int) - (n : Int) < 0 := by omega
 unfold maxLen at hn
 go_enter Try.func8, Try.ntmps8
 go_wp2
 go_loopw [1, 5] (fun l i wr => ∃ k : Nat, k ≤ n ∧ i = .int .i64 k ∧ (∃ r : Int, l = .int .i64 r ∧ 0 ≤ r ∧ r ≤ 1048576 ∧ r + n + lens rs k = 1048576) ∧ wr = w) (fun _ i _ => n - (intOf i).toNat)
 case atStart => exact ⟨0, Nat.zero_le _, rfl, ⟨_, rfl, by omega, by omega, by simp [lens]⟩, rfl⟩
 case round =>
  obtain ⟨k, hk, rfl, ⟨z, rfl, hr0, hr1, hr2⟩, rfl⟩ := hrel
  by_cases hlt : k < n
  ·have hlk : (k : Int) < (n : Int) := by omega
   obtain ⟨o1, a1, m, d1, lx1, ux1, e1, hmk, g1⟩ := q.each k (by omega)
   obtain ⟨b1, f1, rfl, _, k1⟩ := r.elem hlt e1
   have hs1 := lens_succ (rs := rs) (i := k) (by omega)
   rw [g1.nInts] at hs1
   have HQ : Hid (z - (m : Int) + n + (lens rs (k + 1) : Nat) = 1048576) := by show _ = _; omega
   clear e1 g1 hr2 hs1
   go_wp2_with fail
   refine (szInts_any a1 m d1 z _ hmk hr0 hr1).mono ?_
   rintro e W ⟨rfl, rfl⟩
   by_cases hb : z < m
   ·rw [if_pos hb]
    go_wp2
    go_ret
    exact ⟨-1, rfl, rfl, Or.inl (by omega)⟩
   ·rw [if_neg hb]
    have hb2 : ¬ z - (m : Int) < 0 := by omega
    go_wp2
    go_roundw
    case rel => exact ⟨k + 1, by omega, by go_num, ⟨_, rfl, by omega, by omega, HQ.out⟩, by first | rfl | trivial⟩
    case measure => simp [intOf]; omega
  ·obtain rfl : k = n := by omega
   go_wp2
   go_ret
   exact ⟨z, rfl, rfl, Or.inr ⟨hr0, by omega, by rw [hr]; omega⟩⟩
def gcs (n : Nat) (f : Nat → Value) (k : Nat) : List Value := (List.range n).map fun j => if j < k then f j else .slice none 0 0
theorem gcs_len (n : Nat) (f : Nat → Value) (k : Nat) : (gcs n f k).length = n := by simp [gcs]
theorem gcs_get {n : Nat} {f : Nat → Value} {j : Nat} (h : j < n) : (gcs n f n).getD j default = f j := by simp [gcs, List.getD, h]
theorem gcs_none {n : Nat} {f : Nat → Value} {k : Nat} (h : k < n) : (gcs n f k)[k]? = some (.slice none 0 0) := by simp [gcs, h]
theorem gcs_zero (n : Nat) (f : Nat → Value) : gcs n f 0 = List.replicate n (.slice none 0 0) := by simp [gcs, List.map_const']
theorem gcs_set {n : Nat} {f : Nat → Value} {k : Nat} (_ : k < n) (d : Value) : (gcs n f k).set k d = gcs n (fun j => if j = k then d else f j) (k + 1) := by
 apply List.ext_getElem (by simp [gcs])
 intro j h1 h2
 simp only [List.getElem_set, gcs, List.getElem_map, List.getElem_range]
 by_cases e : k = j
 ·subst e; rw [if_pos rfl, if_pos (by omega), if_pos rfl]
 ·rw [if_neg e]
  by_cases q : j < k
  ·rw [if_pos q, if_pos (by omega), if_neg (fun x => e x.symm)]
  ·rw [if_neg q, if_neg (by omega)]
theorem Try.infoNums : (Try.prog.info? 24).map (fun i => (i.zero, i.size, i.bytes)) = some (some (.slice none 0 0), 1, 24) := by kernel_rfl
theorem made_nums (n : Nat) : (madeCells #[Value.slice none 0 0] n).toList = List.replicate n (.slice none 0 0) := by
 apply List.ext_getElem?
 intro j
 by_cases hj : j < n
 ·simp [madeCells, hj, Nat.mod_one]
 ·simp [madeCells, hj]
structure GcsAt (w : World) (lo n : Nat) (f : Nat → Value) (k : Nat) (rs : List (List Int)) : Prop where
 own : w.ownsRow lo 24 1 (.slice (some ⟨lo, 0, none⟩) n n) n (gcs n f k)
 each : ∀ i, i < k → ∃ g m c, f i = .slice (some ⟨g, 0, none⟩) m c ∧ lo < g ∧ g < w.heap.size ∧ RowAt w true g (g + 1) 1 (some ⟨g, 0, none⟩) m c (ints (rs.getD i []))
 inc : ∀ i j, i < j → j < k → blkOf (f i) < blkOf (f j)
theorem GcsAt.below {w w' : World} {lo n : Nat} {f : Nat → Value} {k : Nat} {rs : List (List Int)} (h : GcsAt w lo n f k rs) (B : Below w.heap.size w w') : GcsAt w' lo n f k rs :=
 ⟨owns_below h.own B, fun i hi => let ⟨g, m, c, e, h1, h2, r⟩ := h.each i hi; ⟨g, m, c, e, h1, Nat.lt_of_lt_of_le h2 B.size, r.below B⟩, h.inc⟩
theorem GcsAt.put {w : World} {lo n : Nat} {f : Nat → Value} {k : Nat} {rs : List (List Int)} (h : GcsAt w lo n f k rs) (hk : k < n) {z g m c : Nat} (hz : ∀ i, i < k → blkOf (f i) < z) (hzg : z ≤ g) (hlz : lo < z) (hg : g < w.heap.size) (r : RowAt w true g (g + 1) 1 (some ⟨g, 0, none⟩) m c (ints (rs.getD k []))) :
  w.cell? ⟨lo, k, none⟩ = some (.slice none 0 0) ∧ w.frozen? ⟨lo, k, none⟩ = false ∧ ∃ f', GcsAt (w.setCell ⟨lo, k, none⟩ (.slice (some ⟨g, 0, none⟩) m c)) lo n f' (k + 1) rs := by
 have K : Kept lo (lo + 1) w (w.setCell ⟨lo, k, none⟩ (.slice (some ⟨g, 0, none⟩) m c)) := Kept.setCell (Kept.refl _ _ _) (p := ⟨lo, k, none⟩) (Nat.le_refl _) (Nat.lt_succ_self _) _
 refine ⟨by rw [h.own.cellAt _ (by omega), gcs_none hk], h.own.frozenAt _, fun j => if j = k then .slice (some ⟨g, 0, none⟩) m c else f j, ?_, fun i hi => ?_, fun i j hij hj => ?_⟩
 ·have r := (h.own.stored k (.slice (some ⟨g, 0, none⟩) m c)).1
  rw [← gcs_set hk]
  exact r
 ·by_cases e : i = k
  ·subst e
   simp only [if_true]
   exact ⟨g, m, c, rfl, by omega, Nat.lt_of_lt_of_le hg K.size, r.kept K (by omega)⟩
  ·simp only [if_neg e]
   obtain ⟨g', m', c', e1, e2, e3, e4⟩ := h.each i (by omega)
   exact ⟨g', m', c', e1, e2, Nat.lt_of_lt_of_le e3 K.size, e4.kept K (by omega)⟩
 ·by_cases e : j = k
  ·subst e
   simp only [if_true, if_neg (Nat.ne_of_lt hij)]
   have := hz i hij
   show blkOf (f i) < g
   omega
  ·simp only [if_neg e, if_neg (show i ≠ k by omega)]
   exact h.inc i j hij (by omega)
theorem GcsAt.blk {w : World} {lo n : Nat} {f : Nat → Value} {k : Nat} {rs : List (List Int)} (h : GcsAt w lo n f k rs) : ∀ i, i < k → blkOf (f i) < w.heap.size := fun i hi => by
 obtain ⟨g, m, c, e, _, h2, _⟩ := h.each i hi
 rw [e]; exact h2
theorem GcsAt.done {w : World} {lo n : Nat} {f : Nat → Value} {rs : List (List Int)} (h : GcsAt w lo n f n rs) (hr : rs.length = n) : RecsOwn w lo (.slice (some ⟨lo, 0, none⟩) n n) (gcs n f n) rs := by
 refine ⟨by rw [hr]; exact h.own, ⟨by rw [gcs_len, hr], fun i hi => ?_⟩, fun i j hij hj => ?_⟩
 ·obtain ⟨g, m, c, e, h1, h2, r⟩ := h.each i (by omega)
  refine ⟨g, m, c, by rw [gcs_get (by omega)]; exact e, ?_, by omega, h2, r⟩
  intro e
  have e' : lo = g := by simpa [Value.ownBlock] using e
  omega
 ·rw [gcs_len] at hj
  rw [gcs_get (by omega), gcs_get hj]
  exact h.inc i j hij hj
theorem toSS_any {o : Bool} {lo hi : Nat} (ao : Option Addr) (n cap : Nat) (vs : List Value) (rs : List (List Int)) (w : World) (r : RowAt w o lo hi 1 ao n cap vs) (q : RecsRO w vs rs) (hr : rs.length = n) (hn : n ≤ 1048576) (hs : lens rs rs.length ≤ 1048576) :
  Calls Try.prog 10 #[.slice ao n cap] w fun e w' => ∃ g vs', e = .returned (.slice (some ⟨g, 0, none⟩) n n) ∧ w.heap.size ≤ g ∧ RecsOwn w' g (.slice (some ⟨g, 0, none⟩) n n) vs' rs ∧ (∀ j, j < n → blkOf (vs'.getD j default) < w'.heap.size) ∧ Below w.heap.size w w' := by
 obtain ⟨i0, hi0, hz0, hz1, hz2⟩ := info_parts Try.infoNums
 go_enter Try.func10, Try.ntmps10
 go_wp2_with (first | (at_make; refine wpList_make_full _ rfl _ _ 22 rfl w.heap.size 24 i0 (.slice none 0 0) 1 Try.underlying22 hi0 hz0 hz1 _ _ _ _ n rfl rfl rfl rfl ?b1 ?b2 ?b3 ?_))
 case b1 => rw [hz2]; omega
 case b2 => unfold maxLen; omega
 case b3 => exact Nat.le_refl _
 intro w1 hown hgrow
 have hb1 : Below w.heap.size w w1 := (Below.refl _ _).grown hgrow (Nat.le_refl _) (fun k hk => by cases hk)
 have hown0 : w1.ownsRow w.heap.size 24 1 (.slice (some ⟨w.heap.size, 0, none⟩) n n) n (gcs n (fun _ => .slice none 0 0) 0) := by
  rw [gcs_zero]; simpa [Value.cells, made_nums] using hown
 clear hown hgrow
 go_wp2
 go_loopw [4] (fun i wr => ∃ k : Nat, k ≤ n ∧ i = .int .i64 k ∧ (∃ f, GcsAt wr w.heap.size n f k rs) ∧ Below w.heap.size w wr) (fun i _ => n - (intOf i).toNat)
 case atStart => exact ⟨0, Nat.zero_le _, rfl, ⟨_, hown0, fun i hi => absurd hi (Nat.not_lt_zero _), fun i j _ hj => absurd hj (Nat.not_lt_zero _)⟩, hb1⟩
 case round =>
  obtain ⟨k, hk, rfl, ⟨f, G⟩, hb⟩ := hrel
  clear hown0 hb1
  by_cases hlt : k < n
  ·have hlk : (k : Int) < (n : Int) := by omega
   obtain ⟨o1, a1, m, d1, lx1, ux1, e1, hmk, g1⟩ := q.each k (by omega)
   obtain ⟨b1, f1, rfl, hbs, e0⟩ := r.elem hlt e1
   replace e0 := cell_later hb e0
   replace g1 := g1.below hb
   have hm : m ≤ 1048576 := by rw [← g1.nInts]; exact Nat.le_trans (lens_row (by omega)) hs
   have F1 : ∀ w1, Below wr.heap.size wr w1 → ∀ g, wr.heap.size ≤ g → g < w1.heap.size → RowAt w1 true g (g + 1) 1 (some ⟨g, 0, none⟩) m m (ints (rs.getD k [])) → w1.cell? ⟨w.heap.size, k, none⟩ = some (.slice none 0 0) ∧ w1.frozen? ⟨w.heap.size, k, none⟩ = false ∧
     (∃ f', GcsAt (w1.setCell ⟨w.heap.size, k, none⟩ (.slice (some ⟨g, 0, none⟩) m m)) w.heap.size n f' (k + 1) rs) ∧
     Below w.heap.size w (w1.setCell ⟨w.heap.size, k, none⟩ (.slice (some ⟨g, 0, none⟩) m m)) := by
    intro w1 hb1 g hg hg2 hr
    have hlw : w.heap.size + 1 ≤ wr.heap.size := (owns_lt G.own).2
    obtain ⟨p1, p2, p3⟩ := (G.below hb1).put hlt (z := wr.heap.size) G.blk hg (by omega) hg2 hr
    exact ⟨p1, p2, p3, (below_step hb hb.size hb1).setCell (p := ⟨w.heap.size, k, none⟩) (Nat.le_refl _) _⟩
   have HF : Hid _ := F1
   clear F1 G hb e1
   generalize rs.getD k [] = xk at *
   go_wp2_with fail
   refine (toInts_g _ _ _ xk _ g1 hm).mono ?_
   rintro e w1 ⟨g, rfl, hg, hg2, R1, hb1⟩
   obtain ⟨a0, z0, a6, a7⟩ := HF.out w1 hb1 g hg hg2 R1
   clear HF hb1 e0 R1 g1
   go_wp2
   go_roundw
   case rel => exact ⟨k + 1, by omega, by go_num, a6, a7⟩
   case measure => simp [intOf]; omega
  ·obtain rfl : k = n := by omega
   go_wp2
   go_ret
   exact ⟨_, gcs k f k, rfl, Nat.le_refl _, G.done hr, fun j hj => by rw [gcs_get hj]; exact G.blk j hj, hb⟩
def mark6 (k : Int) (j : Nat) : En := (k + 6 * (j : Int), k + 6 * (j : Int) + 1, k + 6 * (j : Int) + 2, k + 6 * (j : Int) + 3, k + 6 * (j : Int) + 4, k + 6 * (j : Int) + 5)
def marks6 (k : Int) (n : Nat) : List En := (List.range n).map (mark6 k)
def kE (t : Int) (K : Nat → Hd) (k : Int) : Nat → Int
 | 0 => k
 | i + 1 => kE t K k i + t + 6 * ((K i).2.1 : Int)
def paM (t base : Int) (K : Nat → Hd) (k : Int) (L : Nat → List En) (i0 a : Nat) : List En := if a < i0 then marks6 (kE t K k a + base) (K a).2.1 else L a
def mkDF (K : Nat → Hd) (k : Int) (i c : Nat) : Value := [.bool ((kE 3 K k i) % 3 == 0), .int .i64 (kE 3 K k i + 1), hv (K i), .int .i64 (kE 3 K k i + 2 + 6 * ((K i).2.1 : Int))].getD c default
def mkMF (K : Nat → Hd) (k : Int) (i c : Nat) : Value := [.int .i64 (kE 14 K k i), .int .i64 (kE 14 K k i + 1), .int .i64 (kE 14 K k i + 2), .int .i64 (kE 14 K k i + 3), .int .i64 (kE 14 K k i + 4), .bool ((kE 14 K k i + 5) % 3 == 0), .int .i64 (kE 14 K k i + 6), .int .i64 (kE 14 K k i + 7), .int .i64 (kE 14 K k i + 8), .int .i64 (kE 14 K k i + 9), .int .i64 (kE 14 K k i + 10), .int .i64 (kE 14 K k i + 11), .int .i64 (kE 14 K k i + 12), hv (K i), .int .i64 (kE 14 K k i + 13 + 6 * ((K i).2.1 : Int))].getD c default
def marksB (k : Int) (n : Nat) : List Bool := (List.range n).map fun j : Nat => (k + (j : Int)) % 3 == 0
def mkO (h : RH) (k : Int) : Int := k + 6 * (h.L.2.1 : Int)
def mkA (h : RH) (k : Int) : Int := mkO h k + h.O.2.1
def mkD (h : RH) (k : Int) : Int := mkA h k + h.A.2.1
def mkEnd (h : RH) (k : Int) : Int := kE 3 h.K (mkD h k) h.D.2.1
structure MarkAt (w : World) (o : Bool) (lo hi : Nat) (h : RH) (k : Int) : Prop where
 log : RowAt w o lo hi 6 h.L.1 h.L.2.1 h.L.2.2 (sixs (marks6 k h.L.2.1))
 oks : RowAt w o lo hi 1 h.O.1 h.O.2.1 h.O.2.2 (ints (marks (mkO h k) h.O.2.1))
 asks : RowAt w o lo hi 1 h.A.1 h.A.2.1 h.A.2.2 (bls (marksB (mkA h k) h.A.2.1))
 doers : ElsAt 4 w o lo hi h.D.1 h.D.2.1 h.D.2.2 (mkDF h.K (mkD h k)) h.K (paM 3 2 h.K (mkD h k) (fun _ => []) h.D.2.1)
structure AnsAt (w : World) (own : Bool) (lo hi : Nat) (h : RH) (s : Hd) (Km : Nat → Hd) (r : Rep) (ms : List Ml) : Prop where
 rep : RepAt w own lo hi h r
 send : MailsAt w own lo hi s.1 s.2.1 s.2.2 Km ms
 sep : own = true → Sep (inRep h) (inE s.1 s.2.1 Km)
structure ASz (h : RH) (s : Hd) (Km : Nat → Hd) (m : Nat) : Prop where
 rep : RSz h m
 n : s.2.1 ≤ m
 K : ∀ i, i < s.2.1 → (Km i).2.1 ≤ m
section
variable {w w' : World} {own : Bool} {lo hi : Nat} {h : RH} {s : Hd} {Km : Nat → Hd} {r : Rep} {ms : List Ml}
end
structure MAns (w : World) (o : Bool) (lo hi : Nat) (h : RH) (s : Hd) (Km : Nat → Hd) : Prop where
 rep : MarkAt w o lo hi h 1
 send : ElsAt 15 w o lo hi s.1 s.2.1 s.2.2 (mkMF Km (mkEnd h 1)) Km (paM 14 13 Km (mkEnd h 1) (fun _ => []) s.2.1)
def leadsB (r : Rep) : Bool := r.normal && (r.view % r.size == r.id)
def sizesP (r : Rep) : Prop := (r.oks.length : Int) = (if leadsB r = true then r.size else 0) ∧ (r.asks.length : Int) = (if r.normal = true then 0 else r.size) ∧ (r.doers.length : Int) = (if r.normal = true then 0 else r.size)
instance (r : Rep) : Decidable (sizesP r) := by unfold sizesP; infer_instance
def numsP (r : Rep) : Prop := (1 ≤ r.size ∧ r.size ≤ 5) ∧ (0 ≤ r.id ∧ r.id ≤ r.size - 1) ∧ (0 ≤ r.view ∧ r.view ≤ 200) ∧ (0 ≤ r.last ∧ r.last ≤ r.view)
instance (r : Rep) : Decidable (numsP r) := by unfold numsP; infer_instance
structure InsIn (xs ys : List Int) (i j : Nat) : Prop where
 perm : ys.Perm xs
 low : ∀ p q, p < q → q < j → ys.getD p 0 ≤ ys.getD q 0
 up : ∀ p q, j ≤ p → p < q → q ≤ i → ys.getD p 0 ≤ ys.getD q 0
 over : ∀ p q, p < j → j < q → q ≤ i → ys.getD p 0 ≤ ys.getD q 0
structure Led (r : Rep) : Prop where
 size : 1 ≤ r.size ∧ r.size ≤ 5
 id : 0 ≤ r.id ∧ r.id ≤ r.size - 1
 view : 0 ≤ r.view ∧ r.view ≤ 200
 log : r.log.length ≤ 40
 commit : 0 ≤ r.commit ∧ r.commit ≤ r.log.length
 oks : (r.oks.length : Int) = r.size
 okb : ∀ y ∈ r.oks, 0 ≤ y ∧ y ≤ (r.log.length : Int)
structure GrowAt (sz : Nat) (w : World) (base : Nat) (T : TypeId) (v : Value) (n : Nat) (F : Nat → Nat → Value) (K : Nat → Hd) (L : Nat → List En) : Prop where
 own : w.ownsRow base T sz v n (flatF sz n F)
 logs : ∀ i, i < n → RowAt w true base w.heap.size 6 (K i).1 (K i).2.1 (K i).2.2 (sixs (L i))
 sep : ∀ i, i < n → (K i).2.1 ≠ 0 → v.ownBlock ≠ some (sb (K i).1) ∧ ∀ j, j < n → j ≠ i → (K j).2.1 ≠ 0 → sb (K j).1 ≠ sb (K i).1
theorem owns_slice {w : World} {base : Nat} {T : TypeId} {sz n : Nat} {v : Value} {cs : List Value} (h : w.ownsRow base T sz v n cs) : ∃ ao cap, v = .slice ao n cap ∧ RowAt w true base w.heap.size sz ao n cap cs ∧ (n ≠ 0 → v.ownBlock = some (sb ao)) := by
 rcases h.2 with ⟨q1, q2⟩ | ⟨g, cap, cur, hv, rest⟩
 ·subst q1; subst q2
  exact ⟨none, 0, rfl, ⟨by simpa using h.1, Nat.le_refl _, fun q => absurd rfl q⟩, fun q => absurd rfl q⟩
 ·have h' := h
  rw [hv] at h'
  exact ⟨_, cap, hv, RowAt.of_owns h' rest.2.2.1, fun _ => by rw [hv]; rfl⟩
theorem Bx.low {w W : World} {b n : Nat} {vs : List Value} (h : Bx w b vs) (hb : Below n w W) (hn : b < n) : Bx W b vs :=
 ⟨Nat.lt_of_lt_of_le h.lt hb.size, fun k => by rw [World.cell?_of_block (w := w) (a := ⟨b, k, none⟩) (hb.block b hn)]; exact h.cell k, fun k => by rw [World.frozen?_of_block (w := w) (a := ⟨b, k, none⟩) (hb.block b hn)]; exact h.froz k⟩
theorem ints_oneM (xs : List Int) : ∀ u ∈ ints xs, u.oneCell' = true := fun u hu => by
 obtain ⟨x, _, rfl⟩ := List.mem_map.1 hu
 rfl
theorem ints_appendM (xs ys : List Int) : ints (xs ++ ys) = ints xs ++ ints ys := List.map_append
theorem app_run {w : World} {base : Nat} {v : Value} {n : Nat} {xs : List Int} (hown : w.ownsRow base 2 1 v n (ints xs)) {ow : Bool} {l u : Nat} (ad : Addr) (m c : Nat) (ys : List Int) (hrow : RowAt w ow l u 1 (some ad) m c (ints ys)) (ty : TypeId) (hn : n + m ≤ 1000000) (hbase : base ≤ w.heap.size) {B0 : Nat} {W0 : World} (hB : Below B0 W0 w) (hB0 : B0 ≤ base) :
  ∃ v' w', (Builtin.append_ #[24, 24] ty #[v, .slice (some ad) m c]).run Try.prog w = .ok v' w' ∧ w'.ownsRow base 2 1 v' (n + m) (ints (xs ++ ys)) ∧ Below B0 W0 w' := by
 obtain ⟨i0, hi0, hz0, hz1, hz2⟩ := info_parts Try.info2'
 have hl : (ints ys).length = m * 1 := hrow.len
 obtain ⟨v', w', hr, ho, hg, _⟩ := run_append_own (P := Try.prog) w base 24 ty 2 i0 (.int .i64 0) 1 8 Try.underlying24 hi0 hz0 hz1 hz2 rfl (by decide) v n (ints xs) hown ad m c (ints ys) hl (fun j u hj => by
  have hjl : j < (ints ys).length := (List.getElem?_eq_some_iff.1 hj).1
  obtain ⟨b, off, e, _, _, _, hc, _⟩ := hrow.cells (by omega)
  have e2 : ad = ⟨b, off, none⟩ := Option.some.inj e
  rw [e2]
  have := hc j (by omega)
  rw [List.getD_eq_getElem?_getD, hj, Option.getD_some] at this
  rw [Addr.add_lit]; exact this) (ints_oneM ys) (by unfold maxLen; omega) (by omega) hbase
 exact ⟨v', w', hr, by rw [ints_appendM]; exact ho, hB.grown hg (Nat.le_trans hB0 hbase) (fun g hg' => Nat.le_trans hB0 (hown.lt g hg').1)⟩
theorem step_app {ops : Array Oper} {o : Oper} {a : Act} {w : World} {C : Act → World → Prop} {Q : Exit → Act → World → Prop} {E : Prop} (hgd : o.guard = none) (s x : Operand)
  (ho : o.op = .call { callee := .builtin .append, args := #[s, x], argTypes := #[24, 24] }) (base : Nat) {v : Value} {n : Nat} {xs : List Int} (hown : w.ownsRow base 2 1 v n (ints xs)) {ow : Bool} {l u : Nat} (ad : Addr) (m c : Nat) (ys : List Int) (hrow : RowAt w ow l u 1 (some ad) m c (ints ys)) (hs : a.eval s = v) (hx : a.eval x = .slice (some ad) m c) (hn : n + m ≤ 1000000) (hbase : base ≤ w.heap.size) {B0 : Nat} {W0 : World} (hB : Below B0 W0 w) (hB0 : B0 ≤ base)
  (h : ∀ v' w', w'.ownsRow base 2 1 v' (n + m) (ints (xs ++ ys)) → Below B0 W0 w' → C (a.put o.dst v') w') :
  if Region.wanted o (yielded ops a.tmps) = true then Oper.wp Try.prog o a w C Q else E := by
 obtain ⟨v', w', hr, h1, h2⟩ := app_run hown ad m c ys hrow o.type hn hbase hB hB0
 exact step_append_run hgd s x _ _ ho _ _ hs hx _ _ hr (h _ _ h1 h2)
end Go.Proofs.Ytcpmdcegcpgahaa
