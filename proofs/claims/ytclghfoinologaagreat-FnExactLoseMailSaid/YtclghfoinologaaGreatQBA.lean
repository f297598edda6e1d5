/- Chapter 9: AskReplica of the program. -/
import Derived.Test.YtclghfoinologaaGreatQAZ
set_option maxRecDepth 20000
set_option maxHeartbeats 16000000
namespace Go.Proofs.YtclghfoinologaaGreat
open Go.RowKit
def askC (r : Rep) (en : En) : Int := if ledF r = 0 then (if enFault en = 0 then (if r.log.length = 40 then 2 else 0) else enFault en) else ledF r
def askQ (r : Rep) (en : En) : Rep := if askC r en = 0 then takeQ r en else rep0
def askM (r : Rep) (en : En) : List Ml := if askC r en = 0 then takeM r en else []
structure AskOk (r : Rep) (en : En) : Prop where
 led : Led r
 lead : r.view % r.size = r.id
 norm : r.normal = true
 log : (askQ r en).log = r.log ++ [en]
 rep : repF (askQ r en) = 0
 ledQ : ledF (askQ r en) = 0
 agr : agrR (askQ r en) ≤ (askQ r en).commit
 len : ((askM r en).length : Int) = r.size - 1
 mail : ∀ i, i < (askM r en).length → ((askM r en).getD i ml0).kind = 1 ∧ ((askM r en).getD i ml0).en = en ∧ ((askM r en).getD i ml0).at_ = (r.log.length : Int)
def dsum (ds : List Dr) : Nat → Nat
 | 0 => 0
 | i + 1 => dsum ds i + (drL ds i).length
def rlen (r : Rep) : Nat := r.log.length + r.oks.length + r.asks.length + r.doers.length + dsum r.doers r.doers.length
def nlen : List Rep → Nat
 | [] => 0
 | r :: t => 1 + rlen r + nlen t
theorem dsum_eq {w : World} {own : Bool} {lo hi n cap : Nat} {ao : Option Addr} {K : Nat → Hd} {ds : List Dr} (x : DoersAt w own lo hi ao n cap K ds) : ∀ k, k ≤ n → ksum K k = dsum ds k
 | 0, _ => rfl
 | k + 1, h => by
  have h1 := dsum_eq x k (by omega)
  have h2 := (x.els.logs k (by omega)).nSixs
  show ksum K k + (K k).2.1 = dsum ds k + (drL ds k).length
  omega
theorem rsum_eq {w : World} {own : Bool} {lo hi : Nat} {h : RH} {r : Rep} (y : RepAt w own lo hi h r) : rsum h = rlen r := by
 have h1 := y.log.nSixs;have h2 := y.oks.nInts;have h3 := y.asks.nBls;have h4 := y.doers.len;have h5 := dsum_eq y.doers h.D.2.1 (Nat.le_refl _);unfold rsum rlen;rw [h5, h4];omega
theorem nsum_eq {w : World} {own : Bool} {lo hi : Nat} : ∀ xs : List Nod, (∀ (i : Nat) (a : Nod), xs[i]? = some a → RepAt w own lo hi a.2 a.1) → nsum xs = nlen (xs.map (·.1))
 | [], _ => rfl
 | a :: t, h => by
  have h1 := rsum_eq (h 0 a (by simp))
  have h2 := nsum_eq t fun i b e => h (i + 1) b (by simpa using e)
  simp only [nsum, List.map_cons, nlen];omega
theorem nsum_take : ∀ (xs : List Nod) (k : Nat) (a : Nod), xs[k]? = some a → nsum (xs.take (k + 1)) = nsum (xs.take k) + 1 + rsum a.2
 | [], k, a, e => by simp at e
 | x :: t, 0, a, e => by
  have : x = a := by simpa using e
  subst this;simp [nsum]
 | x :: t, k + 1, a, e => by
  have := nsum_take t k a (by simpa using e)
  simp only [List.take_succ_cons, nsum];omega
structure FewR (r : Rep) : Prop where
 log : r.log.length ≤ 40
 oks : r.oks.length ≤ 5
 asks : r.asks.length ≤ 5
 doers : r.doers.length ≤ 5
 logs : ∀ i, (drL r.doers i).length ≤ 40
theorem FewR.len {r : Rep} (h : FewR r) : rlen r ≤ 255 := by
 have h1 : ∀ k, dsum r.doers k ≤ 40 * k := fun k => by
  induction k with
  | zero => exact Nat.le_refl _
  | succ k ih => have := h.logs k;show dsum r.doers k + _ ≤ _;omega
 have h2 := h1 r.doers.length
 have := h.log;have := h.oks;have := h.asks;have := h.doers
 unfold rlen;omega
theorem nlen_small : ∀ rs : List Rep, (∀ r ∈ rs, FewR r) → nlen rs ≤ 256 * rs.length
 | [], _ => Nat.le_refl _
 | r :: t, h => by
  have h1 := (h r (by simp)).len
  have h2 := nlen_small t fun q hq => h q (by simp [hq])
  simp only [nlen, List.length_cons];omega
theorem log_few {xs : List En} (h : logF xs = 0) : xs.length ≤ 40 := by
 unfold logF at h
 by_cases c : 40 < xs.length
 ·rw [if_pos c] at h;exact absurd h (by decide)
 ·omega
theorem drsF_mem : ∀ (ds : List Dr), drsF ds = 0 → ∀ d ∈ ds, drFault d = 0
 | [], _, d, hd => by simp at hd
 | x :: t, h, d, hd => by
  unfold drsF at h
  by_cases c : drFault x = 0
  ·rw [if_pos c] at h
   rcases List.mem_cons.1 hd with rfl | q
   ·exact c
   ·exact drsF_mem t h d q
  ·rw [if_neg c] at h;exact absurd h c
theorem dr_few {d : Dr} (h : drFault d = 0) : d.2.2.1.length ≤ 40 := by
 unfold drFault at h
 split at h
 ·exact absurd h (by decide)
 ·split at h
  ·exact log_few (lg_ok h).1
  ·exact absurd h (by decide)
theorem drL_few {ds : List Dr} (h : ∀ d ∈ ds, d.2.2.1.length ≤ 40) (i : Nat) : (drL ds i).length ≤ 40 := by
 unfold drL
 rcases Nat.lt_or_ge i ds.length with c | c
 ·rw [List.getD_eq_getElem?_getD, List.getElem?_eq_getElem c];exact h _ (List.getElem_mem c)
 ·rw [List.getD_eq_getElem?_getD, List.getElem?_eq_none c];exact Nat.zero_le _
theorem small_of {r : Rep} (h : repF r = 0) : FewR r := by
 have h1 := rep_size h
 obtain ⟨-, h2, -, ⟨s1, s2, s3⟩, -, h3⟩ := rep_ok h
 refine ⟨log_few (lg_ok h2).1, ?_, ?_, ?_, drL_few fun d hd => dr_few (drsF_mem _ h3 d hd)⟩
 ·split at s1 <;> omega
 ·split at s2 <;> omega
 ·split at s3 <;> omega
theorem szDoers_sum {own : Bool} {lo hi : Nat} (ao : Option Addr) (n cap : Nat) (K : Nat → Hd) (ds : List Dr) (lt : Int) (w : World) (h : DoersAt w own lo hi ao n cap K ds) (hn : n ≤ maxLen) (hl : ∀ i, i < n → (K i).2.1 ≤ maxLen) (h0 : 0 ≤ lt) (h1 : lt ≤ 1048576) :
  Calls Tryz.prog 84 #[.slice ao n cap, .int .i64 lt] w fun e w' => ∃ r : Int, e = .returned (.int .i64 r) ∧ Below w.heap.size w w' ∧ (r < 0 ∨ (0 ≤ r ∧ r ≤ 1048576 ∧ n ≤ 1048576 ∧ (∀ i, i < n → (K i).2.1 ≤ 1048576) ∧ r + n + (ksum K n : Int) ≤ lt)) := by
 have HL : Hid _ := hl
 clear hl
 by_cases hbig : lt < n
 ·have hbi : lt - (n : Int) < 0 := by omega
  unfold maxLen at hn
  go_enter Tryz.func84, Tryz.ntmps84
  go_wp2;go_ret
  exact ⟨-1, rfl, Below.refl _ _, Or.inl (by omega)⟩
 have hbi : ¬ lt - (n : Int) < 0 := by omega
 unfold maxLen at hn
 go_enter Tryz.func84, Tryz.ntmps84
 go_wp2
 go_loopw [1, 5] (fun l i wr => ∃ k : Nat, k ≤ n ∧ i = .int .i64 k ∧ (∃ r : Int, l = .int .i64 r ∧ 0 ≤ r ∧ r ≤ 1048576 ∧ r + n + (ksum K k : Int) ≤ lt) ∧ Hid (∀ i, i < k → (K i).2.1 ≤ 1048576) ∧ Below w.heap.size w wr) (fun _ i _ => n - (intOf i).toNat)
 case atStart => exact ⟨0, Nat.zero_le _, rfl, ⟨_, rfl, by omega, by omega, by simp only [ksum];omega⟩, fun i hi => absurd hi (Nat.not_lt_zero _), Below.refl _ _⟩
 case round =>
  obtain ⟨k, hk, rfl, ⟨r, rfl, hr0, hr1, hrs⟩, HK, hb⟩ := hrel
  by_cases hlt : k < n
  ·have hlk : (k : Int) < (n : Int) := by omega
   obtain ⟨b, off, rfl, _, _, hbs, e0, e1, e2, e3, _⟩ := h.doer hlt
   replace e0 := cell_later hb e0;replace e1 := cell_later hb e1;replace e2 := cell_later hb e2;replace e3 := cell_later hb e3;have hmk := HL.out k hlt
   have HQ : Hid (∀ m, (K k).2.1 = m → m ≤ 1048576 → ∀ i, i < k + 1 → (K i).2.1 ≤ 1048576) := fun m hm hm2 i hi => by
    rcases Nat.lt_succ_iff_lt_or_eq.1 hi with q | q
    ·exact HK.out i q
    ·rw [q, hm];exact hm2
   clear HK
   have HQ2 : Hid (∀ m, (K k).2.1 = m → ksum K (k + 1) = ksum K k + m) := fun m hm => by rw [← hm];rfl
   generalize K k = hk' at *
   obtain ⟨ha, m, hc⟩ := hk'
   simp only at e2 hmk HQ HQ2
   generalize (ds.getD k dr0).1 = kn at *;generalize (ds.getD k dr0).2.1 = la at *;generalize (ds.getD k dr0).2.2.2 = cm at *;go_wp2_with fail;refine (szDoer_left kn la cm ha m hc r _ hmk hr0 hr1).mono ?_;rintro e W ⟨rfl, hb1⟩;replace hb := below_step hb hb.size hb1;clear hb1 e0 e1 e2 e3
   by_cases hb : r < m
   ·rw [if_pos hb];go_wp2;go_ret
    exact ⟨-1, rfl, by assumption, Or.inl (by omega)⟩
   ·rw [if_neg hb]
    have hb2 : ¬ r - (m : Int) < 0 := by omega
    have HQ' := HQ.out m rfl (by omega)
    have hq2 := HQ2.out m rfl;clear HQ HQ2;go_wp2
    go_roundw
    case rel => exact ⟨k + 1, by omega, by go_num, ⟨_, rfl, by omega, by omega, by omega⟩, HQ', by assumption⟩
    case measure => simp [intOf];omega
  ·obtain rfl : k = n := by omega
   go_wp2;go_ret
   exact ⟨r, rfl, hb, Or.inr ⟨hr0, by omega, by omega, HK.out, hrs⟩⟩
theorem szReplica_sum {own : Bool} {lo hi : Nat} (r : Rep) (h : RH) (lt : Int) (w : World) (x : RepAt w own lo hi h r) (hs : RSz h maxLen) (hl0 : 0 ≤ lt) (hl1 : lt ≤ 1048576) :
  Calls Tryz.prog 44 #[.agg #[.int .i64 r.id, .int .i64 r.size, .int .i64 r.view, .bool r.normal, .int .i64 r.last, .slice h.L.1 h.L.2.1 h.L.2.2, .int .i64 r.commit, .slice h.O.1 h.O.2.1 h.O.2.2, .slice h.A.1 h.A.2.1 h.A.2.2, .slice h.D.1 h.D.2.1 h.D.2.2], .int .i64 lt] w fun e w' => ∃ q : Int, e = .returned (.int .i64 q) ∧ Below w.heap.size w w' ∧ (q < 0 ∨ (0 ≤ q ∧ q ≤ 1048576 ∧ RSz h 1048576 ∧ q + (rsum h : Int) ≤ lt)) := by
 go_enter Tryz.func44, Tryz.ntmps44
 go_wp2_with (first | ((with_reducible refine box_newX 88 [.int .i64 r.id, .int .i64 r.size, .int .i64 r.view, .bool r.normal, .int .i64 r.last, .slice h.L.1 h.L.2.1 h.L.2.2, .int .i64 r.commit, .slice h.O.1 h.O.2.1 h.O.2.2, .slice h.A.1 h.A.2.1 h.A.2.2, .slice h.D.1 h.D.2.1 h.D.2.2] rfl ?_);intro b0 W0 N0;have ob0 := N0.ge;have B := N0.below;obtain ⟨X0, c0⟩ := N0.c;clear N0) | fail)
 have HS : Hid (∀ i, i < h.D.2.1 → (h.K i).2.1 ≤ maxLen) := hs.K
 refine (szEntries_left h.L.1 h.L.2.1 h.L.2.2 (lt) _ hs.L (by omega) (by omega)).mono ?_
 rintro e W9 ⟨rfl, rfl⟩
 by_cases yL : (lt : Int) < h.L.2.1
 ·rw [if_pos yL];go_wp2;go_ret
  exact ⟨-1, rfl, B, Or.inl (by omega)⟩
 rw [if_neg yL]
 have zL : ¬ ((lt : Int) - h.L.2.1 < 0) := by omega
 go_wp2_with fail
 refine (szInts_any h.O.1 h.O.2.1 h.O.2.2 (lt - h.L.2.1) _ hs.O (by omega) (by omega)).mono ?_
 rintro e W9 ⟨rfl, rfl⟩
 by_cases yO : (lt - h.L.2.1 : Int) < h.O.2.1
 ·rw [if_pos yO];go_wp2;go_ret
  exact ⟨-1, rfl, B, Or.inl (by omega)⟩
 rw [if_neg yO]
 have zO : ¬ ((lt - h.L.2.1 : Int) - h.O.2.1 < 0) := by omega
 go_wp2_with fail
 refine (szBools_any h.A.1 h.A.2.1 h.A.2.2 (lt - h.L.2.1 - h.O.2.1) _ hs.A (by omega) (by omega)).mono ?_
 rintro e W9 ⟨rfl, rfl⟩
 by_cases yA : (lt - h.L.2.1 - h.O.2.1 : Int) < h.A.2.1
 ·rw [if_pos yA];go_wp2;go_ret
  exact ⟨-1, rfl, B, Or.inl (by omega)⟩
 rw [if_neg yA]
 have zA : ¬ ((lt - h.L.2.1 - h.O.2.1 : Int) - h.A.2.1 < 0) := by omega
 go_wp2_with fail
 refine (szDoers_sum h.D.1 h.D.2.1 h.D.2.2 h.K r.doers (lt - h.L.2.1 - h.O.2.1 - h.A.2.1) _ (x.doers.below B) hs.D HS.out (by omega) (by omega)).mono ?_
 rintro e w1 ⟨q, rfl, BB, hq⟩;replace X0 := X0.below BB;replace c0 := X0.cell;replace B := below_next B BB;clear BB
 rcases hq with hq | ⟨h0, h1, h2, h3, h5⟩
 ·go_wp2;go_ret
  exact ⟨-1, rfl, B, Or.inl (by omega)⟩
 have HT : Hid (RSz h 1048576) := ⟨by omega, by omega, by omega, h2, h3⟩
 have HU : Hid (q + (rsum h : Int) ≤ lt) := by (show _ ≤ _;unfold rsum;omega)
 have h4 : ¬ q < 0 := by omega
 clear h3;go_wp2;go_ret;exact ⟨q, rfl, B, Or.inr ⟨h0, h1, HT.out, HU.out⟩⟩
theorem szReplicas_sum {own : Bool} {lo hi : Nat} (ao : Option Addr) (n cap : Nat) (xs : List Nod) (lt : Int) (w : World) (x : LAt nodeK w own lo hi ao n cap xs) (hn : n ≤ maxLen) (hs : (∀ (i : Nat) (a : Nod), xs[i]? = some a → RSz a.2 maxLen)) (h0 : 0 ≤ lt) (h1 : lt ≤ 1048576) :
  Calls Tryz.prog 17 #[.slice ao n cap, .int .i64 lt] w fun e w' => ∃ q : Int, e = .returned (.int .i64 q) ∧ Below w.heap.size w w' ∧ (q < 0 ∨ (0 ≤ q ∧ q ≤ 1048576 ∧ n ≤ 1048576 ∧ (∀ (i : Nat) (a : Nod), xs[i]? = some a → RSz a.2 1048576) ∧ q + (nsum xs : Int) ≤ lt)) := by
 have HS : Hid _ := hs
 clear hs
 by_cases hbig : lt < n
 ·have hbi : lt - (n : Int) < 0 := by omega
  unfold maxLen at hn
  go_enter Tryz.func17, Tryz.ntmps17
  go_wp2;go_ret
  exact ⟨-1, rfl, Below.refl _ _, Or.inl (by omega)⟩
 have hbi : ¬ lt - (n : Int) < 0 := by omega
 unfold maxLen at hn
 go_enter Tryz.func17, Tryz.ntmps17
 go_wp2
 go_loopw [1, 5] (fun l i wr => ∃ k : Nat, k ≤ n ∧ i = .int .i64 k ∧ (∃ q : Int, l = .int .i64 q ∧ 0 ≤ q ∧ q ≤ 1048576 ∧ q + ((n : Int) - k) + (nsum (xs.take k) : Int) ≤ lt) ∧ Hid (∀ (i : Nat) (a : Nod), i < k → xs[i]? = some a → RSz a.2 1048576) ∧ Below w.heap.size w wr) (fun _ i _ => n - (intOf i).toNat)
 case atStart => exact ⟨0, Nat.zero_le _, rfl, ⟨_, rfl, by omega, by omega, by simp [nsum]⟩, fun i a hi => absurd hi (Nat.not_lt_zero _), Below.refl _ _⟩
 case round =>
  obtain ⟨k, hk, rfl, ⟨q, rfl, hr0, hr1, hrs⟩, HK, hb⟩ := hrel
  by_cases hlt : k < n
  ·have hlk : (k : Int) < (n : Int) := by omega
   obtain ⟨r, h, b, off, ex, rfl, _, _, X0, y, _⟩ := (x.below nodeOk hb).node hlt
   have c0 := X0.cell;have hmk := HS.out k _ ex
   have HQ : Hid (RSz h 1048576 → ∀ (i : Nat) (a : Nod), i < k + 1 → xs[i]? = some a → RSz a.2 1048576) := fun hm i a hi e => by
    rcases Nat.lt_succ_iff_lt_or_eq.1 hi with c | c
    ·exact HK.out i a c e
    ·subst c;rw [ex] at e;have e2 := Option.some.inj e;rw [← e2];exact hm
   have hnt : nsum (xs.take (k + 1)) = nsum (xs.take k) + 1 + rsum h := nsum_take xs k _ ex
   have HNT : Hid _ := hnt
   clear HK ex hnt
   simp only at hmk
   go_wp2_with fail;refine (szReplica_sum r h q _ y hmk hr0 hr1).mono ?_;rintro e W ⟨p, rfl, hb1, hp⟩;replace hb := below_step hb hb.size hb1;clear hb1 X0 c0 y
   rcases hp with hp | ⟨p0, p1, p2, p3⟩
   ·go_wp2;go_ret
    exact ⟨-1, rfl, hb, Or.inl (by omega)⟩
   have hb2 : ¬ p < 0 := by omega
   have HQ' := HQ.out p2
   have HT : Hid _ := HQ'
   clear HQ HQ' p2;go_wp2
   go_roundw
   case rel => exact ⟨k + 1, by omega, by go_num, ⟨_, rfl, by omega, by omega, by rw [HNT.out];omega⟩, HT, by assumption⟩
   case measure => simp [intOf];omega
  ·obtain rfl : k = n := by omega
   go_wp2;go_ret
   exact ⟨q, rfl, hb, Or.inr ⟨hr0, hr1, by omega, fun i a e => HK.out i a (by rw [← x.len];exact (List.getElem?_eq_some_iff.1 e).1) e, by rw [List.take_of_length_le (by rw [x.len];omega)] at hrs;omega⟩⟩
theorem szCluster_sum {own : Bool} {lo hi : Nat} (N M Sl : Hd) (xs : List Nod) (ms : List Mal) (es : List En) (w : World) (x : ClAt w own lo hi N M Sl xs ms es) (hs : ClSz N M Sl xs ms maxLen) :
  Calls Tryz.prog 5 #[.agg #[.slice N.1 N.2.1 N.2.2, .slice M.1 M.2.1 M.2.2, .slice Sl.1 Sl.2.1 Sl.2.2], .int .i64 1048576] w fun e w' => ∃ q : Int, e = .returned (.int .i64 q) ∧ Below w.heap.size w w' ∧ (q < 0 ∨ (0 ≤ q ∧ q ≤ 1048576 ∧ ClSz N M Sl xs ms 1048576 ∧ nsum xs ≤ 1048576)) := by
 have HS : Hid _ := hs
 have hs3 := hs.s;clear hs
 go_enter Tryz.func5, Tryz.ntmps5
 go_wp2_with (first | ((with_reducible refine box_newX 26 [.slice N.1 N.2.1 N.2.2, .slice M.1 M.2.1 M.2.2, .slice Sl.1 Sl.2.1 Sl.2.2] rfl ?_);intro b0 W0 N0;have ob0 := N0.ge;have B := N0.below;obtain ⟨X0, c0⟩ := N0.c;clear N0) | fail)
 refine (szReplicas_sum N.1 N.2.1 N.2.2 xs 1048576 _ (x.nodes.below B) HS.out.n HS.out.nodes (by omega) (by omega)).mono ?_
 rintro e w1 ⟨p1, rfl, BB, hp1⟩;replace X0 := X0.below BB;replace c0 := X0.cell;replace B := below_next B BB;clear BB
 rcases hp1 with hp1 | ⟨p1_0, p1_1, p1_n, p1_m, p1_s⟩
 ·go_wp2;go_ret
  exact ⟨-1, rfl, B, Or.inl (by omega)⟩
 have p1' : ¬ p1 < 0 := by omega
 have P1 : Hid _ := p1_m
 clear p1_m;go_wp2_with fail;refine (szMails_lt M.1 M.2.1 M.2.2 ms p1 _ (x.mails.below B) HS.out.m HS.out.mails p1_0 p1_1).mono ?_;rintro e w2 ⟨p2, rfl, BB, hp2⟩;replace X0 := X0.below BB;replace c0 := X0.cell;replace B := below_next B BB;clear BB
 rcases hp2 with hp2 | ⟨p2_0, p2_1, p2_n, p2_m⟩
 ·go_wp2;go_ret
  exact ⟨-1, rfl, B, Or.inl (by omega)⟩
 have p2' : ¬ p2 < 0 := by omega
 have P2 : Hid _ := p2_m
 clear p2_m;go_wp2_with fail;refine (szEntries_left Sl.1 Sl.2.1 Sl.2.2 p2 _ hs3 p2_0 p2_1).mono ?_;rintro e W9 ⟨rfl, rfl⟩
 by_cases hb : p2 < Sl.2.1
 ·rw [if_pos hb];go_wp2;go_ret
  exact ⟨-1, rfl, B, Or.inl (by omega)⟩
 rw [if_neg hb]
 have hb2 : ¬ p2 - (Sl.2.1 : Int) < 0 := by omega
 go_wp2;go_ret
 exact ⟨_, rfl, B, Or.inr ⟨by omega, by omega, ⟨p1_n, p2_n, by omega, P1.out, P2.out⟩, by omega⟩⟩
def ClZ (own : Bool) (w w' : World) (e : Ending) (cd : Int) (rs : List Rep) (ms : List Ml) (es : List En) : Prop := ∃ (z u : Nat) (N M S : Hd) (xs : List Nod) (ys : List Mal), e = .returned (.agg #[.int .i64 cd, .slice N.1 N.2.1 N.2.2, .slice M.1 M.2.1 M.2.2, .slice S.1 S.2.1 S.2.2]) ∧ w.heap.size ≤ z ∧ u ≤ w'.heap.size ∧ ClAt w' own z u N M S xs ys es ∧ ClSz N M S xs ys 1048576 ∧ xs.map (·.1) = rs ∧ ys.map (·.1) = ms ∧ Below w.heap.size w w'
theorem ClRes.z {own : Bool} {w w' : World} {e : Ending} {cd : Int} {rs : List Rep} {ms : List Ml} {es : List En} (h : ClRes own w w' e cd rs ms es) : ClZ own w w' e cd rs ms es := by
 obtain ⟨N, M, S, xs, ys, e1, x, s, e2, e3, b⟩ := h
 exact ⟨_, _, N, M, S, xs, ys, e1, Nat.le_refl _, Nat.le_refl _, x, s, e2, e3, b⟩
theorem clz_sum {w : World} {o : Bool} {z u : Nat} {N M S : Hd} {xs : List Nod} {ys : List Mal} {es : List En} (x : ClAt w o z u N M S xs ys es) : nsum xs = nlen (xs.map (·.1)) := nsum_eq xs x.nodes.each
end Go.Proofs.YtclghfoinologaaGreat
