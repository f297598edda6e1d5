/- Chapter 11: the laws' sizes tell the sum. -/
import Derived.Test.YtannjgdginfgeaaCZ0
import Derived.Test.YtannjgdginfgeaaZC
namespace Go.Proofs.Ytannjgdginfgeaa
open Go.RowKit

set_option maxRecDepth 20000 in
set_option maxHeartbeats 2000000 in
theorem szDoers_sum {own : Bool} {lo hi : Nat} (ao : Option Addr) (n cap : Nat) (K : Nat → Hd) (ds : List Dr) (lt : Int) (w : World) (h : DoersAt w own lo hi ao n cap K ds) (hn : n ≤ maxLen) (hl : ∀ i, i < n → (K i).2.1 ≤ maxLen) (h0 : 0 ≤ lt) (h1 : lt ≤ 1048576) :
    Calls Try.prog 89 #[.slice ao n cap, .int .i64 lt] w fun e w' => ∃ r : Int, e = .returned (.int .i64 r) ∧ Below w.heap.size w w' ∧ (r < 0 ∨ (0 ≤ r ∧ r ≤ 1048576 ∧ n ≤ 1048576 ∧ (∀ i, i < n → (K i).2.1 ≤ 1048576) ∧ r + n + (ksum K n : Int) ≤ lt)) := by
  have HL : Hid _ := hl
  clear hl
  by_cases hbig : lt < n
  · have hbi : lt - (n : Int) < 0 := by omega
    unfold maxLen at hn
    go_enter Try.func89, Try.ntmps89
    go_wp2
    go_ret
    exact ⟨-1, rfl, Below.refl _ _, Or.inl (by omega)⟩
  have hbi : ¬ lt - (n : Int) < 0 := by omega
  unfold maxLen at hn
  go_enter Try.func89, Try.ntmps89
  go_wp2
  go_loopw [1, 5] (fun l i wr => ∃ k : Nat, k ≤ n ∧ i = .int .i64 k ∧ (∃ r : Int, l = .int .i64 r ∧ 0 ≤ r ∧ r ≤ 1048576 ∧ r + n + (ksum K k : Int) ≤ lt) ∧ Hid (∀ i, i < k → (K i).2.1 ≤ 1048576) ∧ Below w.heap.size w wr) (fun _ i _ => n - (intOf i).toNat)
  case atStart => exact ⟨0, Nat.zero_le _, rfl, ⟨_, rfl, by omega, by omega, by simp only [ksum]; omega⟩, fun i hi => absurd hi (Nat.not_lt_zero _), Below.refl _ _⟩
  case round =>
    obtain ⟨k, hk, rfl, ⟨r, rfl, hr0, hr1, hrs⟩, HK, hb⟩ := hrel
    by_cases hlt : k < n
    · have hlk : (k : Int) < (n : Int) := by omega
      obtain ⟨b, off, rfl, _, _, hbs, e0, e1, e2, e3, _⟩ := h.doer hlt
      replace e0 := cell_later hb e0
      replace e1 := cell_later hb e1
      replace e2 := cell_later hb e2
      replace e3 := cell_later hb e3
      have hmk := HL.out k hlt
      have HQ : Hid (∀ m, (K k).2.1 = m → m ≤ 1048576 → ∀ i, i < k + 1 → (K i).2.1 ≤ 1048576) := fun m hm hm2 i hi => by
        rcases Nat.lt_succ_iff_lt_or_eq.1 hi with q | q
        · exact HK.out i q
        · rw [q, hm]; exact hm2
      clear HK
      have HQ2 : Hid (∀ m, (K k).2.1 = m → ksum K (k + 1) = ksum K k + m) := fun m hm => by rw [← hm]; rfl
      generalize K k = hk' at *
      obtain ⟨ha, m, hc⟩ := hk'
      simp only at e2 hmk HQ HQ2
      generalize (ds.getD k dr0).1 = kn at *
      generalize (ds.getD k dr0).2.1 = la at *
      generalize (ds.getD k dr0).2.2.2 = cm at *
      go_wp2_with fail
      refine (szDoer_left kn la cm ha m hc r _ hmk hr0 hr1).mono ?_
      rintro e W ⟨rfl, hb1⟩
      replace hb := below_step hb hb.size hb1
      clear hb1 e0 e1 e2 e3
      by_cases hb : r < m
      · rw [if_pos hb]
        go_wp2
        go_ret
        exact ⟨-1, rfl, by assumption, Or.inl (by omega)⟩
      · rw [if_neg hb]
        have hb2 : ¬ r - (m : Int) < 0 := by omega
        have HQ' := HQ.out m rfl (by omega)
        have hq2 := HQ2.out m rfl
        clear HQ HQ2
        go_wp2
        go_roundw
        case rel => exact ⟨k + 1, by omega, by go_num, ⟨_, rfl, by omega, by omega, by omega⟩, HQ', by assumption⟩
        case measure => simp [intOf]; omega
    · obtain rfl : k = n := by omega
      go_wp2
      go_ret
      exact ⟨r, rfl, hb, Or.inr ⟨hr0, by omega, by omega, HK.out, hrs⟩⟩

set_option maxRecDepth 20000 in
set_option maxHeartbeats 2000000 in
theorem szReplica_sum {own : Bool} {lo hi : Nat} (r : Rep) (h : RH) (lt : Int) (w : World) (x : RepAt w own lo hi h r) (hs : RSz h maxLen) (hl0 : 0 ≤ lt) (hl1 : lt ≤ 1048576) :
    Calls Try.prog 57 #[.agg #[.int .i64 r.id, .int .i64 r.size, .int .i64 r.view, .bool r.normal, .int .i64 r.last, .slice h.L.1 h.L.2.1 h.L.2.2, .int .i64 r.commit, .slice h.O.1 h.O.2.1 h.O.2.2, .slice h.A.1 h.A.2.1 h.A.2.2, .slice h.D.1 h.D.2.1 h.D.2.2], .int .i64 lt] w fun e w' => ∃ q : Int, e = .returned (.int .i64 q) ∧ Below w.heap.size w w' ∧ (q < 0 ∨ (0 ≤ q ∧ q ≤ 1048576 ∧ RSz h 1048576 ∧ q + (rsum h : Int) ≤ lt)) := by
  go_enter Try.func57, Try.ntmps57
  go_wp2_with (first | ((with_reducible refine box_newX 80 [.int .i64 r.id, .int .i64 r.size, .int .i64 r.view, .bool r.normal, .int .i64 r.last, .slice h.L.1 h.L.2.1 h.L.2.2, .int .i64 r.commit, .slice h.O.1 h.O.2.1 h.O.2.2, .slice h.A.1 h.A.2.1 h.A.2.2, .slice h.D.1 h.D.2.1 h.D.2.2] rfl ?_); intro b0 W0 N0; have ob0 : w.heap.size ≤ b0 := N0.ge; have B := N0.below; have X0 := N0.bx; have c0 := X0.cell; clear N0) | fail)
  have HS : Hid (∀ i, i < h.D.2.1 → (h.K i).2.1 ≤ maxLen) := hs.K
  refine (szEntries_left h.L.1 h.L.2.1 h.L.2.2 (lt) _ hs.L (by omega) (by omega)).mono ?_
  rintro e W9 ⟨rfl, rfl⟩
  by_cases yL : (lt : Int) < h.L.2.1
  · rw [if_pos yL]
    go_wp2
    go_ret
    exact ⟨-1, rfl, B, Or.inl (by omega)⟩
  rw [if_neg yL]
  have zL : ¬ ((lt : Int) - h.L.2.1 < 0) := by omega
  go_wp2_with fail
  refine (szInts_any h.O.1 h.O.2.1 h.O.2.2 (lt - h.L.2.1) _ hs.O (by omega) (by omega)).mono ?_
  rintro e W9 ⟨rfl, rfl⟩
  by_cases yO : (lt - h.L.2.1 : Int) < h.O.2.1
  · rw [if_pos yO]
    go_wp2
    go_ret
    exact ⟨-1, rfl, B, Or.inl (by omega)⟩
  rw [if_neg yO]
  have zO : ¬ ((lt - h.L.2.1 : Int) - h.O.2.1 < 0) := by omega
  go_wp2_with fail
  refine (szBools_any h.A.1 h.A.2.1 h.A.2.2 (lt - h.L.2.1 - h.O.2.1) _ hs.A (by omega) (by omega)).mono ?_
  rintro e W9 ⟨rfl, rfl⟩
  by_cases yA : (lt - h.L.2.1 - h.O.2.1 : Int) < h.A.2.1
  · rw [if_pos yA]
    go_wp2
    go_ret
    exact ⟨-1, rfl, B, Or.inl (by omega)⟩
  rw [if_neg yA]
  have zA : ¬ ((lt - h.L.2.1 - h.O.2.1 : Int) - h.A.2.1 < 0) := by omega
  go_wp2_with fail
  refine (szDoers_sum h.D.1 h.D.2.1 h.D.2.2 h.K r.doers (lt - h.L.2.1 - h.O.2.1 - h.A.2.1) _ (x.doers.below B) hs.D HS.out (by omega) (by omega)).mono ?_
  rintro e w1 ⟨q, rfl, BB, hq⟩
  replace X0 := X0.below BB
  replace c0 := X0.cell
  replace B := below_next B BB
  clear BB
  rcases hq with hq | ⟨h0, h1, h2, h3, h5⟩
  · go_wp2
    go_ret
    exact ⟨-1, rfl, B, Or.inl (by omega)⟩
  have HT : Hid (RSz h 1048576) := ⟨by omega, by omega, by omega, h2, h3⟩
  have HU : Hid (q + (rsum h : Int) ≤ lt) := by (show _ ≤ _; unfold rsum; omega)
  have h4 : ¬ q < 0 := by omega
  clear h3
  go_wp2
  go_ret
  exact ⟨q, rfl, B, Or.inr ⟨h0, h1, HT.out, HU.out⟩⟩
set_option maxRecDepth 20000 in
set_option maxHeartbeats 2000000 in
theorem szReplicas_sum {own : Bool} {lo hi : Nat} (ao : Option Addr) (n cap : Nat) (xs : List Nod) (lt : Int) (w : World) (x : LAt nodeK w own lo hi ao n cap xs) (hn : n ≤ maxLen) (hs : (∀ (i : Nat) (a : Nod), xs[i]? = some a → RSz a.2 maxLen)) (h0 : 0 ≤ lt) (h1 : lt ≤ 1048576) :
    Calls Try.prog 29 #[.slice ao n cap, .int .i64 lt] w fun e w' => ∃ q : Int, e = .returned (.int .i64 q) ∧ Below w.heap.size w w' ∧ (q < 0 ∨ (0 ≤ q ∧ q ≤ 1048576 ∧ n ≤ 1048576 ∧ (∀ (i : Nat) (a : Nod), xs[i]? = some a → RSz a.2 1048576) ∧ q + (nsum xs : Int) ≤ lt)) := by
  have HS : Hid _ := hs
  clear hs
  by_cases hbig : lt < n
  · have hbi : lt - (n : Int) < 0 := by omega
    unfold maxLen at hn
    go_enter Try.func29, Try.ntmps29
    go_wp2
    go_ret
    exact ⟨-1, rfl, Below.refl _ _, Or.inl (by omega)⟩
  have hbi : ¬ lt - (n : Int) < 0 := by omega
  unfold maxLen at hn
  go_enter Try.func29, Try.ntmps29
  go_wp2
  go_loopw [1, 5] (fun l i wr => ∃ k : Nat, k ≤ n ∧ i = .int .i64 k ∧ (∃ q : Int, l = .int .i64 q ∧ 0 ≤ q ∧ q ≤ 1048576 ∧ q + ((n : Int) - k) + (nsum (xs.take k) : Int) ≤ lt) ∧ Hid (∀ (i : Nat) (a : Nod), i < k → xs[i]? = some a → RSz a.2 1048576) ∧ Below w.heap.size w wr) (fun _ i _ => n - (intOf i).toNat)
  case atStart => exact ⟨0, Nat.zero_le _, rfl, ⟨_, rfl, by omega, by omega, by simp [nsum]⟩, fun i a hi => absurd hi (Nat.not_lt_zero _), Below.refl _ _⟩
  case round =>
    obtain ⟨k, hk, rfl, ⟨q, rfl, hr0, hr1, hrs⟩, HK, hb⟩ := hrel
    by_cases hlt : k < n
    · have hlk : (k : Int) < (n : Int) := by omega
      obtain ⟨r, h, b, off, ex, rfl, _, _, X0, y, _⟩ := (x.below nodeOk hb).node hlt
      have c0 := X0.cell
      have hmk := HS.out k _ ex
      have HQ : Hid (RSz h 1048576 → ∀ (i : Nat) (a : Nod), i < k + 1 → xs[i]? = some a → RSz a.2 1048576) := fun hm i a hi e => by
        rcases Nat.lt_succ_iff_lt_or_eq.1 hi with c | c
        · exact HK.out i a c e
        · subst c
          rw [ex] at e
          have e2 := Option.some.inj e
          rw [← e2]; exact hm
      have hnt : nsum (xs.take (k + 1)) = nsum (xs.take k) + 1 + rsum h := nsum_take xs k _ ex
      have HNT : Hid _ := hnt
      clear HK ex hnt
      simp only at hmk
      go_wp2_with fail
      refine (szReplica_sum r h q _ y hmk hr0 hr1).mono ?_
      rintro e W ⟨p, rfl, hb1, hp⟩
      replace hb := below_step hb hb.size hb1
      clear hb1 X0 c0 y
      rcases hp with hp | ⟨p0, p1, p2, p3⟩
      · go_wp2
        go_ret
        exact ⟨-1, rfl, hb, Or.inl (by omega)⟩
      have hb2 : ¬ p < 0 := by omega
      have HQ' := HQ.out p2
      have HT : Hid _ := HQ'
      clear HQ HQ' p2
      go_wp2
      go_roundw
      case rel => exact ⟨k + 1, by omega, by go_num, ⟨_, rfl, by omega, by omega, by rw [HNT.out]; omega⟩, HT, by assumption⟩
      case measure => simp [intOf]; omega
    · obtain rfl : k = n := by omega
      go_wp2
      go_ret
      exact ⟨q, rfl, hb, Or.inr ⟨hr0, hr1, by omega, fun i a e => HK.out i a (by rw [← x.len]; exact (List.getElem?_eq_some_iff.1 e).1) e, by rw [List.take_of_length_le (by rw [x.len]; omega)] at hrs; omega⟩⟩
set_option maxRecDepth 20000 in
set_option maxHeartbeats 2000000 in
theorem szCluster_sum {own : Bool} {lo hi : Nat} (N M Sl : Hd) (xs : List Nod) (ms : List Mal) (es : List En) (w : World) (x : ClAt w own lo hi N M Sl xs ms es) (hs : ClSz N M Sl xs ms maxLen) :
    Calls Try.prog 9 #[.agg #[.slice N.1 N.2.1 N.2.2, .slice M.1 M.2.1 M.2.2, .slice Sl.1 Sl.2.1 Sl.2.2], .int .i64 1048576] w fun e w' => ∃ q : Int, e = .returned (.int .i64 q) ∧ Below w.heap.size w w' ∧ (q < 0 ∨ (0 ≤ q ∧ q ≤ 1048576 ∧ ClSz N M Sl xs ms 1048576 ∧ nsum xs ≤ 1048576)) := by
  have HS : Hid _ := hs
  have hs3 := hs.s
  clear hs
  go_enter Try.func9, Try.ntmps9
  go_wp2_with (first | ((with_reducible refine box_newX 26 [.slice N.1 N.2.1 N.2.2, .slice M.1 M.2.1 M.2.2, .slice Sl.1 Sl.2.1 Sl.2.2] rfl ?_); intro b0 W0 N0; have ob0 : w.heap.size ≤ b0 := N0.ge; have B := N0.below; have X0 := N0.bx; have c0 := X0.cell; clear N0) | fail)
  refine (szReplicas_sum N.1 N.2.1 N.2.2 xs 1048576 _ (x.nodes.below B) HS.out.n HS.out.nodes (by omega) (by omega)).mono ?_
  rintro e w1 ⟨p1, rfl, BB, hp1⟩
  replace X0 := X0.below BB
  replace c0 := X0.cell
  replace B := below_next B BB
  clear BB
  rcases hp1 with hp1 | ⟨p1_0, p1_1, p1_n, p1_m, p1_s⟩
  · go_wp2
    go_ret
    exact ⟨-1, rfl, B, Or.inl (by omega)⟩
  have p1' : ¬ p1 < 0 := by omega
  have P1 : Hid _ := p1_m
  clear p1_m
  go_wp2_with fail
  refine (szMails_lt M.1 M.2.1 M.2.2 ms p1 _ (x.mails.below B) HS.out.m HS.out.mails p1_0 p1_1).mono ?_
  rintro e w2 ⟨p2, rfl, BB, hp2⟩
  replace X0 := X0.below BB
  replace c0 := X0.cell
  replace B := below_next B BB
  clear BB
  rcases hp2 with hp2 | ⟨p2_0, p2_1, p2_n, p2_m⟩
  · go_wp2
    go_ret
    exact ⟨-1, rfl, B, Or.inl (by omega)⟩
  have p2' : ¬ p2 < 0 := by omega
  have P2 : Hid _ := p2_m
  clear p2_m
  go_wp2_with fail
  refine (szEntries_left Sl.1 Sl.2.1 Sl.2.2 p2 _ hs3 p2_0 p2_1).mono ?_
  rintro e W9 ⟨rfl, rfl⟩
  by_cases hb : p2 < Sl.2.1
  · rw [if_pos hb]
    go_wp2
    go_ret
    exact ⟨-1, rfl, B, Or.inl (by omega)⟩
  rw [if_neg hb]
  have hb2 : ¬ p2 - (Sl.2.1 : Int) < 0 := by omega
  go_wp2
  go_ret
  exact ⟨_, rfl, B, Or.inr ⟨by omega, by omega, ⟨p1_n, p2_n, by omega, P1.out, P2.out⟩, by omega⟩⟩

end Go.Proofs.Ytannjgdginfgeaa
