/- Chapter 8: logs that are drawn. -/
import Derived.Test.YtpbhiednmnolgaaEX
import Derived.Test.YtpbhiednmnolgaaXD
import Derived.Test.YtpbhiednmnolgaaXA
import Derived.Test.YtpbhiednmnolgaaYN
import Derived.Test.YtpbhiednmnolgaaXH
import Derived.Deep.AppendLies
namespace Go.Proofs.Ytpbhiednmnolgaa
open Go.RowKit

theorem wp_appX {ops : Array Oper} {rest : List Oper} {o : Oper} {a : Act} {w : World} {Q : Exit → Act → World → Prop} (t e : TypeId) (i0 : TypeInfo) (z : Value) (size bytes : Nat) (ht : Try.prog.underlying t = some (.slice e)) (hi0 : Try.prog.info? e = some i0) (hz0 : i0.zero = some z) (hz1 : i0.size = size) (hz2 : i0.bytes = bytes) (hzs : z.cells.size = size) (hsz : 0 < size) (hby : bytes ≤ 64) (hgd : o.guard = none) (s x : Operand)
    (ho : o.op = .call { callee := .builtin .append, args := #[s, x], argTypes := #[t, t] }) (base : Nat) {v : Value} {n : Nat} {cs : List Value} (hown : w.ownsRow base e size v n cs) {ow : Bool} {l u : Nat} (ad : Addr) (m c : Nat) (ns : List Value) (hrow : RowAt w ow l u size (some ad) m c ns) (h1 : ∀ u ∈ ns, u.oneCell' = true) (hs : a.eval s = v) (hx : a.eval x = .slice (some ad) m c) (hn : n + m ≤ 1000000) (hbase : base ≤ w.heap.size)
    (h : ∀ v' w', w'.ownsRow base e size v' (n + m) (cs ++ ns) → Below base w w' → (v' = .slice none 0 0 → v = .slice none 0 0) → wpList Try.prog ops Q rest (a.put o.dst v') w') : wpList Try.prog ops Q (o :: rest) a w := by
  obtain ⟨v', w', hr, ho', hg, hnn⟩ := run_append_own (P := Try.prog) w base t o.type e i0 z size bytes ht hi0 hz0 hz1 hz2 hzs hsz v n cs hown ad m c ns hrow.len (fun j u hj => by
    have hjl : j < ns.length := (List.getElem?_eq_some_iff.1 hj).1
    have hl := hrow.len
    have hm : m ≠ 0 := fun e => by rw [e, Nat.zero_mul] at hl; omega
    obtain ⟨b, off, e, _, _, _, hc, _⟩ := hrow.cells hm
    have e2 : ad = ⟨b, off, none⟩ := Option.some.inj e
    rw [e2]
    have := hc j (by omega)
    rw [List.getD_eq_getElem?_getD, hj, Option.getD_some] at this
    rw [Addr.add_lit]; exact this) h1 (by unfold maxLen; omega) (Nat.le_trans (Nat.mul_le_mul hn hby) (by decide)) hbase
  exact Lib.wpList_append_run w hgd s x _ _ ho _ _ hs hx _ _ hr (h _ _ ho' ((Below.refl base w).grown hg hbase (fun g hg' => (hown.lt g hg').1)) (fun q => (hnn.1 q).1))
theorem sixs_one (xs : List En) : ∀ u ∈ sixs xs, u.oneCell' = true := fun u hu => by
  obtain ⟨j, _, rfl⟩ := List.mem_map.1 hu
  rfl
theorem sixs_append (xs ys : List En) : sixs (xs ++ ys) = sixs xs ++ sixs ys := by
  apply List.ext_getElem (by simp [sixs_len]; omega)
  intro j h1 h2
  rw [sixs_len, List.length_append] at h1
  by_cases hj : j < xs.length * 6
  · rw [List.getElem_append_left (by rw [sixs_len]; exact hj)]
    simp only [sixs, List.getElem_map, List.getElem_range]
    rw [show (xs ++ ys).getD (j / 6) en0 = xs.getD (j / 6) en0 from by simp [List.getD, List.getElem?_append_left (show j / 6 < xs.length by omega)]]
  · rw [List.getElem_append_right (by rw [sixs_len]; omega)]
    simp only [sixs, List.getElem_map, List.getElem_range, List.length_map, List.length_range]
    rw [show (xs ++ ys).getD (j / 6) en0 = ys.getD ((j - xs.length * 6) / 6) en0 from by
      rw [List.getD_eq_getElem?_getD, List.getElem?_append_right (by omega), List.getD_eq_getElem?_getD]
      congr 2; omega, show j % 6 = (j - xs.length * 6) % 6 by omega]
theorem sixs_single (x0 x1 x2 x3 x4 x5 : Int) : sixs [(x0, x1, x2, x3, x4, x5)] = [.int .i64 x0, .int .i64 x1, .int .i64 x2, .int .i64 x3, .int .i64 x4, .int .i64 x5] := by simp [sixs, enF, List.range_succ]
theorem sixs_take (xs : List En) (k : Nat) (hk : k ≤ xs.length) : (sixs xs).take (k * 6) = sixs (xs.take k) := by
  have e : xs = xs.take k ++ xs.drop k := (List.take_append_drop k xs).symm
  have hl : (sixs (xs.take k)).length = k * 6 := by rw [sixs_len, List.length_take]; omega
  conv => lhs; rw [e, sixs_append, ← hl, List.take_left]
theorem owns_front {w : World} {base : Nat} {e : TypeId} {size g n cap : Nat} {cs : List Value} (h : w.ownsRow base e size (.slice (some ⟨g, 0, none⟩) n cap) n cs) {k : Nat} (hk : k ≤ n) : w.ownsRow base e size (.slice (some ⟨g, 0, none⟩) k cap) k (cs.take (k * size)) := by
  rcases h.2 with ⟨q, _⟩ | ⟨g', cap', cur, hv, hg, hh, h1, h2, h3, h4⟩
  · cases q
  · cases hv
    have hks : k * size ≤ n * size := Nat.mul_le_mul_right _ hk
    refine ⟨by rw [List.length_take, h.1]; omega, Or.inr ⟨g, cap, cur, rfl, hg, hh, Nat.le_trans hk h1, h2, h3, ?_⟩⟩
    rw [← h4, List.take_take, Nat.min_eq_left hks]
theorem owns_lit0 (w : World) (e : TypeId) (size : Nat) : (w.alloc (.cells #[] e)).ownsRow w.heap.size e size (.slice (some ⟨w.heap.size, 0, none⟩) 0 0) 0 [] :=
  ⟨by simp, Or.inr ⟨w.heap.size, 0, #[], rfl, Nat.le_refl _, by simpa using heap_alloc_new w (.cells #[] e), Nat.le_refl _, by unfold maxLen; omega, by simp, by simp⟩⟩
theorem owns_some {w : World} {base : Nat} {e : TypeId} {size : Nat} {v : Value} {n : Nat} {cs : List Value} (h : w.ownsRow base e size v n cs) (hn : n ≠ 0) : ∃ g c, v = .slice (some ⟨g, 0, none⟩) n c := by
  rcases h.2 with ⟨_, q⟩ | ⟨g, cap, _, hv, _⟩
  · exact absurd q hn
  · exact ⟨g, cap, hv⟩
theorem owns_mono8 {w : World} {base base' : Nat} {e : TypeId} {size : Nat} {v : Value} {n : Nat} {cs : List Value} (h : w.ownsRow base e size v n cs) (hb : base' ≤ base) : w.ownsRow base' e size v n cs := by
  refine ⟨h.1, ?_⟩
  rcases h.2 with q | ⟨g, cap, cur, hv, hg, r⟩
  · exact Or.inl q
  · exact Or.inr ⟨g, cap, cur, hv, Nat.le_trans hb hg, r⟩
set_option maxRecDepth 20000 in
set_option maxHeartbeats 4000000 in
theorem l8Log_any (g p : Nat) (ac : Option Addr) (nc cc : Nat) (bs : List Nat) (w : World) (h : SB w g p ac nc cc bs) (hp : p ≤ 60000) : Calls Try.prog 67 #[.pointer (some ⟨g, 0, none⟩)] w fun e w' => ∃ (gl n c : Nat) (xs : List En) (p' : Nat), e = .returned (.slice (some ⟨gl, 0, none⟩) n c) ∧ n ≤ 8 ∧ w'.ownsRow w.heap.size 29 6 (.slice (some ⟨gl, 0, none⟩) n c) n (sixs xs) ∧ p' ≤ p + 70 ∧ SB w' g p' ac nc cc bs ∧ Kept g (g + 1) w w' := by
  have hg := h.lt
  obtain ⟨i0, hi0, hz0, hz1, hz2⟩ := info_parts Try.infoEntry
  have A : Below w.heap.size w (w.alloc (.cells #[] 29)) := (Below.refl _ _).alloc (Nat.le_refl _) _
  have O0 := owns_lit0 w 29 6
  have D0 := h.below A
  go_enter Try.func67, Try.ntmps67
  go_wp2_with fail
  refine (next_sb D0 9 rfl (by omega) (by omega) (by omega)).mono ?_
  rintro e w1 ⟨v, hv, rfl, D1, K1, -⟩
  have O1 := owns_kept O0 K1 (fun k e => by have := (O0.lt k e).1; omega)
  have KK : Kept g (g + 1) w w1 := (Kept.of_below A).trans K1
  clear A O0 D0 K1
  go_wp2
  go_loopw [3, 4] (fun u i wr => ∃ (j m q : Nat) (xs : List En), i = .int .i64 j ∧ j + m ≤ 8 ∧ q + 7 * j ≤ p + 60 ∧ (∃ gl c, u = .slice (some ⟨gl, 0, none⟩) m c) ∧ wr.ownsRow w.heap.size 29 6 u m (sixs xs) ∧ SrcAt wr g q ac nc cc ∧ Kept g (g + 1) w wr) (fun _ i _ => (intOf i).toNat)
  case atStart => exact ⟨v, 0, p + 1, [], rfl, by omega, by omega, ⟨_, _, rfl⟩, O1, D1.src, KK⟩
  case round =>
    obtain ⟨j, m, q, xs, rfl, hjm, hq, ⟨gl, c, rfl⟩, O, S, KK'⟩ := hrel
    clear O1 D1 KK
    have D := h.move KK' S
    have KK := KK'
    clear KK' S
    by_cases hj : j = 0
    · subst hj
      go_wp2
      go_ret
      exact ⟨_, _, _, xs, q, rfl, by omega, O, by omega, D, KK⟩
    · have hj1 : (0 : Int) < (j : Int) := by omega
      go_wp2_with fail
      refine (l8Entry_any g q ac nc cc bs _ D (by omega)).mono ?_
      rintro e u1 ⟨x0, x1, x2, x3, x4, x5, p', rfl, _, _, hp', D', K'⟩
      replace O := owns_kept O K' (fun k e => by have := (O.lt k e).1; omega)
      replace KK := KK.trans K'
      clear K'
      have rl := row_lit u1 [.int .i64 x0, .int .i64 x1, .int .i64 x2, .int .i64 x3, .int .i64 x4, .int .i64 x5] 29 1 6 rfl
      have O2 : (u1.alloc (.cells #[.int .i64 x0, .int .i64 x1, .int .i64 x2, .int .i64 x3, .int .i64 x4, .int .i64 x5] 29)).ownsRow w.heap.size 29 6 _ _ _ := O.alloc (.cells #[.int .i64 x0, .int .i64 x1, .int .i64 x2, .int .i64 x3, .int .i64 x4, .int .i64 x5] 29)
      have HB : Hid (w.heap.size ≤ (u1.alloc (.cells #[.int .i64 x0, .int .i64 x1, .int .i64 x2, .int .i64 x3, .int .i64 x4, .int .i64 x5] 29)).heap.size) := Nat.le_trans KK.size (by simp)
      have D2 := D'.below ((Below.refl _ _).alloc (Nat.le_refl _) (.cells #[.int .i64 x0, .int .i64 x1, .int .i64 x2, .int .i64 x3, .int .i64 x4, .int .i64 x5] 29))
      have K2 := KK.next ((Below.refl _ _).alloc (Nat.le_refl _) (.cells #[.int .i64 x0, .int .i64 x1, .int .i64 x2, .int .i64 x3, .int .i64 x4, .int .i64 x5] 29))
      clear O D' KK D
      go_wp2_with (first | (at_builtin; refine wp_appX 40 29 i0 (.agg #[.int .i64 0, .int .i64 0, .int .i64 0, .int .i64 0, .int .i64 0, .int .i64 0]) 6 48 Try.underlying40 hi0 hz0 hz1 hz2 rfl (by decide) (by decide) rfl _ _ rfl w.heap.size O2 ⟨u1.heap.size, 0, none⟩ 1 1 [.int .i64 x0, .int .i64 x1, .int .i64 x2, .int .i64 x3, .int .i64 x4, .int .i64 x5] rl (by simp [Value.oneCell']) rfl rfl (by omega) HB.out ?_; intro v' w' O3 B3 _))
      obtain ⟨gl', c', rfl⟩ := owns_some O3 (by omega)
      have O4 : w'.ownsRow w.heap.size 29 6 (.slice (some ⟨gl', 0, none⟩) (m + 1) c') (m + 1) (sixs (xs ++ [(x0, x1, x2, x3, x4, x5)])) := by rw [sixs_append, sixs_single]; exact O3
      have K4 := K2.low B3
      have S4 := D2.src.low B3 hg
      clear O3 B3 K2 D2 O2 rl
      go_roundw
      case rel => exact ⟨j - 1, m + 1, p', xs ++ [(x0, x1, x2, x3, x4, x5)], by go_num, by omega, by omega, ⟨_, _, rfl⟩, O4, S4, K4⟩
      case measure => simp [intOf]; omega
set_option maxRecDepth 20000 in
set_option maxHeartbeats 4000000 in
theorem l8Copy_is {o : Bool} {l u : Nat} (ad : Addr) (n c : Nat) (xs : List En) (w : World) (h : RowAt w o l u 6 (some ad) n c (sixs xs)) (hn : n ≤ 1000) : Calls Try.prog 82 #[.slice (some ad) n c] w fun e w' => ∃ gb cb, e = .returned (.slice (some ⟨gb, 0, none⟩) n cb) ∧ w'.ownsRow w.heap.size 29 6 (.slice (some ⟨gb, 0, none⟩) n cb) n (sixs xs) ∧ Below w.heap.size w w' := by
  obtain ⟨i0, hi0, hz0, hz1, hz2⟩ := info_parts Try.infoEntry
  have A : Below w.heap.size w (w.alloc (.cells #[] 29)) := (Below.refl _ _).alloc (Nat.le_refl _) _
  have O0 := owns_lit0 w 29 6
  have h2 := h.below A
  have HA : Hid _ := A
  have HB : Hid (w.heap.size ≤ (w.alloc (.cells #[] 29)).heap.size) := A.size
  clear A
  go_enter Try.func82, Try.ntmps82
  go_wp2_with (first | (at_builtin; refine wp_appX 40 29 i0 (.agg #[.int .i64 0, .int .i64 0, .int .i64 0, .int .i64 0, .int .i64 0, .int .i64 0]) 6 48 Try.underlying40 hi0 hz0 hz1 hz2 rfl (by decide) (by decide) rfl _ _ rfl w.heap.size O0 ad n c (sixs xs) h2 (sixs_one xs) rfl rfl (by omega) HB.out ?_; intro v' w' O3 B3 hnn))
  rw [Nat.zero_add, List.nil_append] at O3
  obtain ⟨g, c', rfl⟩ : ∃ g c', v' = .slice (some ⟨g, 0, none⟩) n c' := by
    rcases O3.2 with ⟨q, _⟩ | ⟨g, cap, _, hv, _⟩
    · cases hnn q
    · exact ⟨g, cap, hv⟩
  clear hnn
  go_ret
  exact ⟨_, _, rfl, O3, HA.out.trans B3⟩

end Go.Proofs.Ytpbhiednmnolgaa

/- Chapter 8: two logs that are drawn. -/
namespace Go.Proofs.Ytpbhiednmnolgaa
open Go.RowKit

theorem RowAt.under {w w' : World} {own : Bool} {lo hi size : Nat} {ao : Option Addr} {n cap : Nat} {cs : List Value} (h : RowAt w own lo hi size ao n cap cs) {B : Nat} (hb : Below B w w') (hd : hi ≤ B) : RowAt w' own lo hi size ao n cap cs :=
  h.kept (l := B) (u := w.heap.size) ⟨hb.os, hb.tape, hb.output, hb.size, fun k hk ho => hb.block k (by omega)⟩ (Or.inl hd)
def TwoLogs (w w' : World) (e : Ending) : Prop := ∃ (g0 n0 c0 : Nat) (xs : List En) (g1 n1 c1 : Nat) (ys : List En), e = .returned (.tuple #[.slice (some ⟨g0, 0, none⟩) n0 c0, .slice (some ⟨g1, 0, none⟩) n1 c1]) ∧ n0 ≤ 9 ∧ n1 ≤ 9 ∧ RowAt w' true w.heap.size w'.heap.size 6 (some ⟨g0, 0, none⟩) n0 c0 (sixs xs) ∧ RowAt w' true w.heap.size w'.heap.size 6 (some ⟨g1, 0, none⟩) n1 c1 (sixs ys) ∧ Below w.heap.size w w'
set_option maxRecDepth 20000 in
set_option maxHeartbeats 4000000 in
theorem l8Two_any {o : Bool} {lo hi : Nat} (ac : Option Addr) (nc cc : Nat) (bs : List Nat) (w : World) (hr : RowAt w o lo hi 1 ac nc cc (bys bs)) (hb : ∀ i, bs.getD i 0 < 256) (hhi : hi ≤ w.heap.size) (hc : nc ≤ 1048576) : Calls Try.prog 64 #[.slice ac nc cc] w fun e w' => TwoLogs w w' e := by
  obtain ⟨i0, hi0, hz0, hz1, hz2⟩ := info_parts Try.infoEntry
  go_enter Try.func64, Try.ntmps64
  go_wp2_with fail
  refine (l1Source_any _ _ _ _).mono ?_
  rintro e w1 ⟨rfl, s1, B1, z1⟩
  have h : SB w1 w.heap.size 0 ac nc cc bs := ⟨s1, ⟨_, _, _, hr.below B1, Or.inl hhi⟩, hb, hc⟩
  have hg : w.heap.size + 1 ≤ w1.heap.size := Nat.le_of_eq z1.symm
  clear s1 z1
  obtain ⟨g, hgg⟩ : ∃ g, w.heap.size = g := ⟨_, rfl⟩
  rw [hgg] at h hg B1 ⊢
  have HW : Hid _ := hgg
  clear hgg
  go_wp2_with fail
  refine (l8Log_any g 0 ac nc cc bs _ h (by omega)).mono ?_
  rintro e w2 ⟨ga, n, c, xs, p', rfl, hn8, OA, hp', D, KK⟩
  obtain ⟨aa, ca, hva, R⟩ := RowAt.of_owned OA
  cases hva
  have hw2 := KK.size
  obtain ⟨BC, hBC0⟩ : ∃ BC, w2.heap.size = BC := ⟨_, rfl⟩
  go_wp2_with fail
  refine (l8Copy_is _ n c xs _ R (by omega)).mono ?_
  rintro e w3 ⟨gb, cb0, rfl, O, BB⟩
  replace R := R.below BB
  replace D := D.below BB
  replace KK := KK.next BB
  have hB := BB.size
  rw [hBC0] at R O hB hw2
  have hBC : w1.heap.size ≤ BC := hw2
  clear BB OA hBC0 hw2
  by_cases hz : n = 0
  · subst hz
    have hn0 : ¬ (0 : Int) < ((0 : Nat) : Int) := by omega
    go_wp2_with fail
    refine (chance_sb D 2 rfl (by omega) (by omega) (by omega)).mono ?_
    rintro e u8 ⟨cc2, rfl, D', K', -⟩
    replace O := owns_kept O K' (fun k e => by have := (O.lt k e).1; omega)
    replace R := R.kept K' (Or.inr (by omega))
    have hsz := K'.size
    replace hB := Nat.le_trans hB hsz
    replace KK := KK.trans K'
    replace D := D'
    clear D' K' hsz
    cases cc2 with
    | false =>
      obtain ⟨ab, cb, hvb, RB⟩ := RowAt.of_owned O
      cases hvb
      go_wp2
      go_ret2
      unfold TwoLogs
      rw [HW.out]
      exact ⟨_, _, _, xs, _, _, _, _, rfl, by omega, by omega, R.widen (by omega) hB, RB.widen (by omega) (Nat.le_refl _), B1.trans (KK.below _ (Nat.le_refl _) (by omega))⟩
    | true =>
      go_wp2_with fail
      refine (l8Entry_any g _ ac nc cc bs _ D (by omega)).mono ?_
      rintro e u9 ⟨x0, x1, x2, x3, x4, x5, p9, rfl, _, _, hp9, D', K'⟩
      replace O := owns_kept O K' (fun k e => by have := (O.lt k e).1; omega)
      replace R := R.kept K' (Or.inr (by omega))
      have hsz := K'.size
      replace hB := Nat.le_trans hB hsz
      replace KK := KK.trans K'
      replace D := D'
      clear D' K' hsz
      have rl := row_lit u9 [.int .i64 x0, .int .i64 x1, .int .i64 x2, .int .i64 x3, .int .i64 x4, .int .i64 x5] 29 1 6 rfl
      have A9 : Below u9.heap.size u9 (u9.alloc (.cells #[.int .i64 x0, .int .i64 x1, .int .i64 x2, .int .i64 x3, .int .i64 x4, .int .i64 x5] 29)) := (Below.refl _ _).alloc (Nat.le_refl _) _
      have O2 : (u9.alloc (.cells #[.int .i64 x0, .int .i64 x1, .int .i64 x2, .int .i64 x3, .int .i64 x4, .int .i64 x5] 29)).ownsRow BC 29 6 _ _ _ := O.alloc (.cells #[.int .i64 x0, .int .i64 x1, .int .i64 x2, .int .i64 x3, .int .i64 x4, .int .i64 x5] 29)
      have HB : Hid (BC ≤ (u9.alloc (.cells #[.int .i64 x0, .int .i64 x1, .int .i64 x2, .int .i64 x3, .int .i64 x4, .int .i64 x5] 29)).heap.size) := Nat.le_trans hB A9.size
      have K2 := KK.next A9
      replace R := R.below A9
      clear O KK D A9
      go_wp2_with (first | (at_builtin; refine wp_appX 40 29 i0 (.agg #[.int .i64 0, .int .i64 0, .int .i64 0, .int .i64 0, .int .i64 0, .int .i64 0]) 6 48 Try.underlying40 hi0 hz0 hz1 hz2 rfl (by decide) (by decide) rfl _ _ rfl BC O2 ⟨u9.heap.size, 0, none⟩ 1 1 [.int .i64 x0, .int .i64 x1, .int .i64 x2, .int .i64 x3, .int .i64 x4, .int .i64 x5] rl (by simp [Value.oneCell']) rfl rfl (by omega) HB.out ?_; intro v' w' O3 B3 _))
      obtain ⟨gl', c', rfl⟩ := owns_some O3 (by omega)
      obtain ⟨ab, cb, hvb, RB⟩ := RowAt.of_owned O3
      cases hvb
      rw [← sixs_single, ← sixs_append] at RB
      have R3 := R.under B3 (Nat.le_refl _)
      have K3 := K2.low (B3.mono hBC)
      have hB3 := Nat.le_trans HB.out B3.size
      clear O3 B3 K2 O2 rl R
      go_ret2
      unfold TwoLogs
      rw [HW.out]
      exact ⟨_, _, _, xs, _, _, _, _, rfl, by omega, by omega, R3.widen (by omega) hB3, RB.widen (by omega) (Nat.le_refl _), B1.trans (K3.below _ (Nat.le_refl _) (by omega))⟩
  have hn0 : (0 : Int) < (n : Int) := by omega
  go_wp2_with fail
  refine (chance_sb D 2 rfl (by omega) (by omega) (by omega)).mono ?_
  rintro e u4 ⟨cc1, rfl, D', K', -⟩
  replace O := owns_kept O K' (fun k e => by have := (O.lt k e).1; omega)
  replace R := R.kept K' (Or.inr (by omega))
  have hsz := K'.size
  replace hB := Nat.le_trans hB hsz
  replace KK := KK.trans K'
  replace D := D'
  clear D' K' hsz
  cases cc1 with
  | false =>
    go_wp2_with fail
    refine (chance_sb D 2 rfl (by omega) (by omega) (by omega)).mono ?_
    rintro e u8 ⟨cc2, rfl, D', K', -⟩
    replace O := owns_kept O K' (fun k e => by have := (O.lt k e).1; omega)
    replace R := R.kept K' (Or.inr (by omega))
    have hsz := K'.size
    replace hB := Nat.le_trans hB hsz
    replace KK := KK.trans K'
    replace D := D'
    clear D' K' hsz
    cases cc2 with
    | false =>
      obtain ⟨ab, cb, hvb, RB⟩ := RowAt.of_owned O
      cases hvb
      go_wp2
      go_ret2
      unfold TwoLogs
      rw [HW.out]
      exact ⟨_, _, _, xs, _, _, _, _, rfl, by omega, by omega, R.widen (by omega) hB, RB.widen (by omega) (Nat.le_refl _), B1.trans (KK.below _ (Nat.le_refl _) (by omega))⟩
    | true =>
      go_wp2_with fail
      refine (l8Entry_any g _ ac nc cc bs _ D (by omega)).mono ?_
      rintro e u9 ⟨x0, x1, x2, x3, x4, x5, p9, rfl, _, _, hp9, D', K'⟩
      replace O := owns_kept O K' (fun k e => by have := (O.lt k e).1; omega)
      replace R := R.kept K' (Or.inr (by omega))
      have hsz := K'.size
      replace hB := Nat.le_trans hB hsz
      replace KK := KK.trans K'
      replace D := D'
      clear D' K' hsz
      have rl := row_lit u9 [.int .i64 x0, .int .i64 x1, .int .i64 x2, .int .i64 x3, .int .i64 x4, .int .i64 x5] 29 1 6 rfl
      have A9 : Below u9.heap.size u9 (u9.alloc (.cells #[.int .i64 x0, .int .i64 x1, .int .i64 x2, .int .i64 x3, .int .i64 x4, .int .i64 x5] 29)) := (Below.refl _ _).alloc (Nat.le_refl _) _
      have O2 : (u9.alloc (.cells #[.int .i64 x0, .int .i64 x1, .int .i64 x2, .int .i64 x3, .int .i64 x4, .int .i64 x5] 29)).ownsRow BC 29 6 _ _ _ := O.alloc (.cells #[.int .i64 x0, .int .i64 x1, .int .i64 x2, .int .i64 x3, .int .i64 x4, .int .i64 x5] 29)
      have HB : Hid (BC ≤ (u9.alloc (.cells #[.int .i64 x0, .int .i64 x1, .int .i64 x2, .int .i64 x3, .int .i64 x4, .int .i64 x5] 29)).heap.size) := Nat.le_trans hB A9.size
      have K2 := KK.next A9
      replace R := R.below A9
      clear O KK D A9
      go_wp2_with (first | (at_builtin; refine wp_appX 40 29 i0 (.agg #[.int .i64 0, .int .i64 0, .int .i64 0, .int .i64 0, .int .i64 0, .int .i64 0]) 6 48 Try.underlying40 hi0 hz0 hz1 hz2 rfl (by decide) (by decide) rfl _ _ rfl BC O2 ⟨u9.heap.size, 0, none⟩ 1 1 [.int .i64 x0, .int .i64 x1, .int .i64 x2, .int .i64 x3, .int .i64 x4, .int .i64 x5] rl (by simp [Value.oneCell']) rfl rfl (by omega) HB.out ?_; intro v' w' O3 B3 _))
      obtain ⟨gl', c', rfl⟩ := owns_some O3 (by omega)
      obtain ⟨ab, cb, hvb, RB⟩ := RowAt.of_owned O3
      cases hvb
      rw [← sixs_single, ← sixs_append] at RB
      have R3 := R.under B3 (Nat.le_refl _)
      have K3 := K2.low (B3.mono hBC)
      have hB3 := Nat.le_trans HB.out B3.size
      clear O3 B3 K2 O2 rl R
      go_ret2
      unfold TwoLogs
      rw [HW.out]
      exact ⟨_, _, _, xs, _, _, _, _, rfl, by omega, by omega, R3.widen (by omega) hB3, RB.widen (by omega) (Nat.le_refl _), B1.trans (K3.below _ (Nat.le_refl _) (by omega))⟩
  | true =>
    go_wp2_with fail
    refine (next_sb D n rfl (by omega) (by omega) (by omega)).mono ?_
    rintro e u5 ⟨k, hk, rfl, D', K', -⟩
    replace O := owns_kept O K' (fun k e => by have := (O.lt k e).1; omega)
    replace R := R.kept K' (Or.inr (by omega))
    have hsz := K'.size
    replace hB := Nat.le_trans hB hsz
    replace KK := KK.trans K'
    replace D := D'
    clear D' K' hsz
    have hki : (k : Int) ≤ (n : Int) := by omega
    have hxl : xs.length = n := by have := O.1; rw [sixs_len] at this; omega
    replace O := owns_front O (Nat.le_of_lt hk)
    rw [sixs_take _ _ (by omega)] at O
    have hkc : k ≤ cb0 := by obtain ⟨_, _, e, q⟩ := RowAt.of_owned O; cases e; exact q.le
    clear hxl
    go_wp2_with fail
    refine (chance_sb D 2 rfl (by omega) (by omega) (by omega)).mono ?_
    rintro e u8 ⟨cc2, rfl, D', K', -⟩
    replace O := owns_kept O K' (fun k e => by have := (O.lt k e).1; omega)
    replace R := R.kept K' (Or.inr (by omega))
    have hsz := K'.size
    replace hB := Nat.le_trans hB hsz
    replace KK := KK.trans K'
    replace D := D'
    clear D' K' hsz
    cases cc2 with
    | false =>
      obtain ⟨ab, cb, hvb, RB⟩ := RowAt.of_owned O
      cases hvb
      go_wp2
      go_ret2
      unfold TwoLogs
      rw [HW.out]
      exact ⟨_, _, _, xs, _, _, _, _, rfl, by omega, by omega, R.widen (by omega) hB, RB.widen (by omega) (Nat.le_refl _), B1.trans (KK.below _ (Nat.le_refl _) (by omega))⟩
    | true =>
      go_wp2_with fail
      refine (l8Entry_any g _ ac nc cc bs _ D (by omega)).mono ?_
      rintro e u9 ⟨x0, x1, x2, x3, x4, x5, p9, rfl, _, _, hp9, D', K'⟩
      replace O := owns_kept O K' (fun k e => by have := (O.lt k e).1; omega)
      replace R := R.kept K' (Or.inr (by omega))
      have hsz := K'.size
      replace hB := Nat.le_trans hB hsz
      replace KK := KK.trans K'
      replace D := D'
      clear D' K' hsz
      have rl := row_lit u9 [.int .i64 x0, .int .i64 x1, .int .i64 x2, .int .i64 x3, .int .i64 x4, .int .i64 x5] 29 1 6 rfl
      have A9 : Below u9.heap.size u9 (u9.alloc (.cells #[.int .i64 x0, .int .i64 x1, .int .i64 x2, .int .i64 x3, .int .i64 x4, .int .i64 x5] 29)) := (Below.refl _ _).alloc (Nat.le_refl _) _
      have O2 : (u9.alloc (.cells #[.int .i64 x0, .int .i64 x1, .int .i64 x2, .int .i64 x3, .int .i64 x4, .int .i64 x5] 29)).ownsRow BC 29 6 _ _ _ := O.alloc (.cells #[.int .i64 x0, .int .i64 x1, .int .i64 x2, .int .i64 x3, .int .i64 x4, .int .i64 x5] 29)
      have HB : Hid (BC ≤ (u9.alloc (.cells #[.int .i64 x0, .int .i64 x1, .int .i64 x2, .int .i64 x3, .int .i64 x4, .int .i64 x5] 29)).heap.size) := Nat.le_trans hB A9.size
      have K2 := KK.next A9
      replace R := R.below A9
      clear O KK D A9
      go_wp2_with (first | (at_builtin; refine wp_appX 40 29 i0 (.agg #[.int .i64 0, .int .i64 0, .int .i64 0, .int .i64 0, .int .i64 0, .int .i64 0]) 6 48 Try.underlying40 hi0 hz0 hz1 hz2 rfl (by decide) (by decide) rfl _ _ rfl BC O2 ⟨u9.heap.size, 0, none⟩ 1 1 [.int .i64 x0, .int .i64 x1, .int .i64 x2, .int .i64 x3, .int .i64 x4, .int .i64 x5] rl (by simp [Value.oneCell']) rfl rfl (by omega) HB.out ?_; intro v' w' O3 B3 _))
      obtain ⟨gl', c', rfl⟩ := owns_some O3 (by omega)
      obtain ⟨ab, cb, hvb, RB⟩ := RowAt.of_owned O3
      cases hvb
      rw [← sixs_single, ← sixs_append] at RB
      have R3 := R.under B3 (Nat.le_refl _)
      have K3 := K2.low (B3.mono hBC)
      have hB3 := Nat.le_trans HB.out B3.size
      clear O3 B3 K2 O2 rl R
      go_ret2
      unfold TwoLogs
      rw [HW.out]
      exact ⟨_, _, _, xs, _, _, _, _, rfl, by omega, by omega, R3.widen (by omega) hB3, RB.widen (by omega) (Nat.le_refl _), B1.trans (K3.below _ (Nat.le_refl _) (by omega))⟩
set_option maxRecDepth 20000 in
set_option maxHeartbeats 4000000 in
theorem drawCommon_any {o : Bool} {lo hi : Nat} (ac : Option Addr) (nc cc : Nat) (bs : List Nat) (w : World) (hr : RowAt w o lo hi 1 ac nc cc (bys bs)) (hb : ∀ i, bs.getD i 0 < 256) (hhi : hi ≤ w.heap.size) (hc : nc ≤ 1048576) : Calls Try.prog 22 #[.slice ac nc cc] w fun e w' => TwoLogs w w' e := by
  go_enter Try.func22, Try.ntmps22
  go_wp2_with fail
  refine (l8Two_any ac nc cc bs _ hr hb hhi hc).mono ?_
  rintro e w1 ⟨a0, n0, c0, xs, a1, n1, c1, ys, rfl, h0, h1, R0, R1, B⟩
  go_wp2
  go_ret2
  exact ⟨_, _, _, xs, _, _, _, ys, rfl, h0, h1, R0, R1, B⟩

end Go.Proofs.Ytpbhiednmnolgaa

/- Chapter 8: lists of logs that are drawn. -/
namespace Go.Proofs.Ytpbhiednmnolgaa
open Go.RowKit

theorem wp_appL {ops : Array Oper} {rest : List Oper} {o : Oper} {a : Act} {w : World} {Q : Exit → Act → World → Prop} (t e : TypeId) (i0 : TypeInfo) (z : Value) (bytes : Nat) (ht : Try.prog.underlying t = some (.slice e)) (hi0 : Try.prog.info? e = some i0) (hz0 : i0.zero = some z) (hz1 : i0.size = 1) (hz2 : i0.bytes = bytes) (hzs : z.cells.size = 1) (hby : bytes ≤ 64) (hgd : o.guard = none) (s x : Operand)
    (ho : o.op = .call { callee := .builtin .append, args := #[s, x], argTypes := #[t, t] }) (base : Nat) {g0 n c0 : Nat} {cs : List Value} (hown : w.ownsRow base e 1 (.slice (some ⟨g0, 0, none⟩) n c0) n cs) {ow : Bool} {l u : Nat} (ad : Addr) (y : Value) (hrow : RowAt w ow l u 1 (some ad) 1 1 [y]) (h1 : y.oneCell' = true) (hs : a.eval s = .slice (some ⟨g0, 0, none⟩) n c0) (hx : a.eval x = .slice (some ad) 1 1) (hn : n ≤ 1000) (hbase : base ≤ w.heap.size)
    (h : ∀ g' c' w', w'.ownsRow base e 1 (.slice (some ⟨g', 0, none⟩) (n + 1) c') (n + 1) (cs ++ [y]) → Kept g0 (g0 + 1) w w' → (g' = g0 ∨ w.heap.size ≤ g') → wpList Try.prog ops Q rest (a.put o.dst (.slice (some ⟨g', 0, none⟩) (n + 1) c')) w') : wpList Try.prog ops Q (o :: rest) a w := by
  obtain ⟨g, cap, w', hr, ho', hg, hl, _⟩ := run_append_lies (P := Try.prog) w t o.type base e i0 z 1 bytes ht hi0 hz0 hz1 hz2 hzs (by decide) _ n cs hown ad 1 1 [y] rfl (fun j u hj => by
    have hjl : j < [y].length := (List.getElem?_eq_some_iff.1 hj).1
    obtain ⟨b, off, e, _, _, _, hc, _⟩ := hrow.cells (by omega)
    have e2 : ad = ⟨b, off, none⟩ := Option.some.inj e
    rw [e2]
    have := hc j (by simpa using hjl)
    rw [List.getD_eq_getElem?_getD, hj, Option.getD_some] at this
    rw [Addr.add_lit]; exact this) (by simpa using h1) (by decide) (by unfold maxLen; omega) (Nat.le_trans (Nat.mul_le_mul (Nat.succ_le_succ hn) hby) (by decide)) hbase w.heap.size rfl
  refine Lib.wpList_append_run w hgd s x _ _ ho _ _ hs hx _ _ hr (h _ _ _ ho' ⟨hg.os, hg.tape, hg.output, hg.size, fun k hk hd => hg.block k hk (fun e => ?_)⟩ ?_)
  · simp only [Value.ownBlock, Option.some.injEq] at e
    omega
  · rcases hl with q | q
    · simp only [Value.ownBlock, Option.some.injEq] at q
      exact Or.inl q.symm
    · exact Or.inr (Nat.le_of_eq q.symm)
/-- what a drawn list of logs stands at -/
structure BestSt (W : World) (B gl n cl gg m cg : Nat) (ls : List Int) (hs : Nat → Hd) (xss : List (List En)) : Prop where
  ne : gl ≠ gg
  ol : W.ownsRow B 2 1 (.slice (some ⟨gl, 0, none⟩) n cl) n (ints ls)
  og : W.ownsRow B 40 1 (.slice (some ⟨gg, 0, none⟩) m cg) m (hcs m hs m)
  len : xss.length = m
  each : ∀ i, i < m → ∃ r, B ≤ r ∧ r < W.heap.size ∧ r ≠ gl ∧ r ≠ gg ∧ RowAt W false r (r + 1) 6 (hs i).1 (hs i).2.1 (hs i).2.2 (sixs (xss.getD i []))
section
variable {W W' : World} {B gl n cl gg m cg : Nat} {ls : List Int} {hs : Nat → Hd} {xss : List (List En)}
theorem own_blk {k : Nat} {g n c : Nat} (e : (Value.slice (some ⟨g, 0, none⟩) n c).ownBlock = some k) : k = g := by simp only [Value.ownBlock, Option.some.injEq] at e; exact e.symm
theorem BestSt.keep (h : BestSt W B gl n cl gg m cg ls hs xss) {x : Nat} (K : Kept x (x + 1) W W') (hx : x + 1 ≤ B) : BestSt W' B gl n cl gg m cg ls hs xss := by
  refine ⟨h.ne, owns_kept h.ol K (fun k e => by have := (h.ol.lt k e).1; omega), owns_kept h.og K (fun k e => by have := (h.og.lt k e).1; omega), h.len, fun i hi => ?_⟩
  obtain ⟨r, h1, h5, h2, h3, h4⟩ := h.each i hi
  exact ⟨r, h1, Nat.lt_of_lt_of_le h5 K.size, h2, h3, h4.kept K (Or.inr (by omega))⟩
theorem BestSt.below (h : BestSt W B gl n cl gg m cg ls hs xss) (b : Below W.heap.size W W') : BestSt W' B gl n cl gg m cg ls hs xss := by
  refine ⟨h.ne, owns_below h.ol b, owns_below h.og b, h.len, fun i hi => ?_⟩
  obtain ⟨r, h1, h5, h2, h3, h4⟩ := h.each i hi
  exact ⟨r, h1, Nat.lt_of_lt_of_le h5 b.size, h2, h3, h4.below b⟩
theorem BestSt.inSize (h : BestSt W B gl n cl gg m cg ls hs xss) : gl < W.heap.size ∧ gg < W.heap.size := ⟨(owns_lt h.ol).2, (owns_lt h.og).2⟩
/-- a row whose block is as old as this world lies below its size, or holds nothing -/
theorem BestSt.lasts (h : BestSt W B gl n cl gg m cg ls hs xss) {g' c' : Nat} {x : Int} (ho : W'.ownsRow B 2 1 (.slice (some ⟨g', 0, none⟩) (n + 1) c') (n + 1) (ints ls ++ [.int .i64 x])) (K : Kept gl (gl + 1) W W') (hg : g' = gl ∨ W.heap.size ≤ g') : BestSt W' B g' (n + 1) c' gg m cg (ls ++ [x]) hs xss := by
  have hs1 := h.inSize
  have hne := h.ne
  refine ⟨by omega, by rw [ints_appendM]; exact ho, owns_kept h.og K (fun k e => by have := own_blk e; omega), h.len, fun i hi => ?_⟩
  obtain ⟨r, h1, h5, h2, h3, h4⟩ := h.each i hi
  exact ⟨r, h1, Nat.lt_of_lt_of_le h5 K.size, by omega, h3, h4.kept K (by omega)⟩
theorem hcs_snoc (m : Nat) (hs : Nat → Hd) (d : Hd) : hcs m hs m ++ [hv d] = hcs (m + 1) (fun i => if i = m then d else hs i) (m + 1) := by
  apply List.ext_getElem (by simp [hcs])
  intro j h1 h2
  rw [hcs_len] at h2
  by_cases e : j < m
  · rw [List.getElem_append_left (by rw [hcs_len]; exact e)]
    simp only [hcs, List.getElem_map, List.getElem_range]
    rw [if_pos e, if_pos h2, if_neg (by omega)]
  · obtain rfl : j = m := by omega
    rw [List.getElem_append_right (by rw [hcs_len]; exact Nat.le_refl _)]
    simp [hcs]
theorem BestSt.logs (h : BestSt W B gl n cl gg m cg ls hs xss) {g' c' : Nat} {d : Hd} {xs : List En} (ho : W'.ownsRow B 40 1 (.slice (some ⟨g', 0, none⟩) (m + 1) c') (m + 1) (hcs m hs m ++ [hv d])) (K : Kept gg (gg + 1) W W') (hg : g' = gg ∨ W.heap.size ≤ g')
    (hn : ∃ r, B ≤ r ∧ r < W.heap.size ∧ r ≠ gl ∧ r ≠ gg ∧ RowAt W false r (r + 1) 6 d.1 d.2.1 d.2.2 (sixs xs)) : BestSt W' B gl n cl g' (m + 1) c' ls (fun i => if i = m then d else hs i) (xss ++ [xs]) := by
  have hs1 := h.inSize
  have hne := h.ne
  have hlen := h.len
  refine ⟨by omega, owns_kept h.ol K (fun k e => by have := own_blk e; omega), by rw [← hcs_snoc]; exact ho, by simp [hlen], fun i hi => ?_⟩
  by_cases e : i = m
  · subst e
    obtain ⟨r, h1, h5, h2, h3, h4⟩ := hn
    refine ⟨r, h1, Nat.lt_of_lt_of_le h5 K.size, h2, by omega, ?_⟩
    rw [if_pos rfl, show (xss ++ [xs]).getD i [] = xs from by simp [List.getD, ← hlen]]
    exact h4.kept K (by omega)
  · obtain ⟨r, h1, h5, h2, h3, h4⟩ := h.each i (by omega)
    refine ⟨r, h1, Nat.lt_of_lt_of_le h5 K.size, h2, by omega, ?_⟩
    rw [if_neg e, show (xss ++ [xs]).getD i [] = xss.getD i [] from by simp [List.getD, List.getElem?_append_left (show i < xss.length by omega)]]
    exact h4.kept K (by omega)
end
def LogsDrawn (w w' : World) (e : Ending) : Prop := ∃ (a0 : Option Addr) (n0 c0 : Nat) (ls : List Int) (a1 : Option Addr) (n1 c1 : Nat) (hs : Nat → Hd) (xss : List (List En)), e = .returned (.tuple #[.slice a0 n0 c0, .slice a1 n1 c1]) ∧ n0 ≤ 9 ∧ n1 ≤ 9 ∧ RowAt w' true w.heap.size w'.heap.size 1 a0 n0 c0 (ints ls) ∧ LogsAt w' true w.heap.size w'.heap.size a1 n1 c1 hs xss ∧ Below w.heap.size w w'
theorem BestSt.drawn {w W : World} {B gl n cl gg m cg : Nat} {ls : List Int} {hs : Nat → Hd} {xss : List (List En)} (h : BestSt W B gl n cl gg m cg ls hs xss) (hb : Below w.heap.size w W) (hB : w.heap.size ≤ B) (hn : n ≤ 9) (hm : m ≤ 9) : LogsDrawn w W (.returned (.tuple #[.slice (some ⟨gl, 0, none⟩) n cl, .slice (some ⟨gg, 0, none⟩) m cg])) := by
  obtain ⟨_, _, e1, R1⟩ := RowAt.of_owned h.ol
  cases e1
  obtain ⟨_, _, e2, R2⟩ := RowAt.of_owned h.og
  cases e2
  refine ⟨_, _, _, ls, _, _, _, hs, xss, rfl, hn, hm, R1.widen hB (Nat.le_refl _), ⟨h.len, R2.widen hB (Nat.le_refl _), fun i hi => ?_⟩, hb⟩
  obtain ⟨r, _, _, _, _, h4⟩ := h.each i hi
  exact ⟨r + 1, h4.widen (Nat.zero_le _) (Nat.le_refl _)⟩
set_option maxRecDepth 20000 in
set_option maxHeartbeats 4000000 in
theorem drawBest_any {o : Bool} {lo hi : Nat} (ac : Option Addr) (nc cc : Nat) (bs : List Nat) (w : World) (hr : RowAt w o lo hi 1 ac nc cc (bys bs)) (hb : ∀ i, bs.getD i 0 < 256) (hhi : hi ≤ w.heap.size) (hc : nc ≤ 1048576) : Calls Try.prog 26 #[.slice ac nc cc] w fun e w' => LogsDrawn w w' e := by
  obtain ⟨j0, hj0, hy0, hy1, hy2⟩ := info_parts Try.info2'
  obtain ⟨k0, hk0, hq0, hq1, hq2⟩ := info_parts Try.infoLog
  go_enter Try.func26, Try.ntmps26
  go_wp2_with fail
  refine (l1Source_any _ _ _ _).mono ?_
  rintro e w1 ⟨rfl, s1, B1, z1⟩
  have h : SB w1 w.heap.size 0 ac nc cc bs := ⟨s1, ⟨_, _, _, hr.below B1, Or.inl hhi⟩, hb, hc⟩
  have hg : w.heap.size + 1 ≤ w1.heap.size := Nat.le_of_eq z1.symm
  clear s1 z1
  obtain ⟨g, hgg⟩ : ∃ g, w.heap.size = g := ⟨_, rfl⟩
  have hgle := Nat.le_of_eq hgg
  have hgle' := Nat.le_of_eq hgg.symm
  rw [hgg] at h hg B1 ⊢
  have HW : Hid _ := hgg
  clear hgg
  have A1 : Below w1.heap.size w1 (w1.alloc (.cells #[] 2)) := (Below.refl _ _).alloc (Nat.le_refl _) _
  have A2 : Below (w1.alloc (.cells #[] 2)).heap.size (w1.alloc (.cells #[] 2)) ((w1.alloc (.cells #[] 2)).alloc (.cells #[] 40)) := (Below.refl _ _).alloc (Nat.le_refl _) _
  have O1 := owns_lit0 w1 2 1
  have O2 := owns_lit0 (w1.alloc (.cells #[] 2)) 40 1
  have z2 : (w1.alloc (.cells #[] 2)).heap.size = w1.heap.size + 1 := by simp
  have ST : BestSt ((w1.alloc (.cells #[] 2)).alloc (.cells #[] 40)) w1.heap.size w1.heap.size 0 0 (w1.heap.size + 1) 0 0 [] (fun _ => (none, 0, 0)) [] := ⟨by omega, owns_below O1 A2, by rw [z2] at O2; exact owns_mono8 O2 (Nat.le_succ _), rfl, fun i hi => absurd hi (Nat.not_lt_zero _)⟩
  have D := (h.below A1).below A2
  have KK : Kept g (g + 1) w1 _ := (Kept.of_below A1).next A2
  clear A1 A2 O1 O2 z2
  go_wp2_with fail
  refine (next_sb D 5 rfl (by omega) (by omega) (by omega)).mono ?_
  rintro e w2 ⟨v, hv, rfl, D', K', -⟩
  replace ST := ST.keep K' hg
  replace KK := KK.trans K'
  clear D K'
  go_wp2
  go_loopw [5, 6, 7] (fun u1 u2 i wr => ∃ (j m q gl cl gg cg : Nat) (ls : List Int) (hs : Nat → Hd) (xss : List (List En)), i = .int .i64 j ∧ j + m ≤ 4 ∧ q + 80 * j ≤ 400 ∧ u1 = .slice (some ⟨gl, 0, none⟩) m cl ∧ u2 = .slice (some ⟨gg, 0, none⟩) m cg ∧ BestSt wr w1.heap.size gl m cl gg m cg ls hs xss ∧ SrcAt wr g q ac nc cc ∧ Kept g (g + 1) w1 wr) (fun _ _ i _ => (intOf i).toNat)
  case atStart => exact ⟨v, 0, 1, _, _, _, _, [], _, [], rfl, by omega, by omega, rfl, rfl, ST, D'.src, KK⟩
  case round =>
    obtain ⟨j, m, q, gl, cl, gg, cg, ls, hs, xss, rfl, hjm, hq, rfl, rfl, ST', S, KK'⟩ := hrel
    clear ST D' KK
    have D := h.move KK' S
    have KK := KK'
    have ST := ST'
    clear KK' S ST'
    by_cases hj : j = 0
    · subst hj
      go_wp2_with fail
      refine (chance_sb D 12 rfl (by omega) (by omega) (by omega)).mono ?_
      rintro e u3 ⟨bb, rfl, D', K', -⟩
      replace ST := ST.keep K' hg
      replace KK := KK.trans K'
      clear D K'
      cases bb with
      | false =>
        go_wp2
        go_ret2
        refine BestSt.drawn ST ?_ (by omega) (by omega) (by omega)
        rw [HW.out]
        exact B1.trans (KK.below _ (Nat.le_refl _) (by omega))
      | true =>
        have A : Below u3.heap.size u3 (u3.alloc (.cells #[.int .i64 1] 2)) := (Below.refl _ _).alloc (Nat.le_refl _) _
        have rl := row_lit u3 [.int .i64 1] 2 1 1 rfl
        replace ST := ST.below A
        replace KK := KK.next A
        have OL := ST.ol
        have HB : Hid (w1.heap.size ≤ (u3.alloc (.cells #[.int .i64 1] 2)).heap.size) := KK.size
        clear A D'
        go_wp2_with (first | (at_builtin; refine wp_appL 24 2 j0 (.int .i64 0) 8 Try.underlying24 hj0 hy0 hy1 hy2 rfl (by decide) rfl _ _ rfl w1.heap.size OL ⟨u3.heap.size, 0, none⟩ (.int .i64 1) rl rfl rfl rfl (by omega) HB.out ?_; intro g' c' w' O3 K3 hgn))
        have hgl := (owns_lt OL).1
        have ST3 := ST.lasts O3 K3 hgn
        have KK3 := KK.low (K3.below _ hgl KK.size)
        go_ret2
        refine BestSt.drawn ST3 ?_ (by omega) (by omega) (by omega)
        rw [HW.out]
        exact B1.trans (KK3.below _ (Nat.le_refl _) (by omega))
    · have hj1 : (0 : Int) < (j : Int) := by omega
      go_wp2_with fail
      refine (next_sb D 3 rfl (by omega) (by omega) (by omega)).mono ?_
      rintro e u3 ⟨x, hx, rfl, D', K', -⟩
      replace ST := ST.keep K' hg
      replace KK := KK.trans K'
      clear D K'
      have A : Below u3.heap.size u3 (u3.alloc (.cells #[.int .i64 (x : Int)] 2)) := (Below.refl _ _).alloc (Nat.le_refl _) _
      have rl := row_lit u3 [.int .i64 (x : Int)] 2 1 1 rfl
      replace ST := ST.below A
      replace KK := KK.next A
      have D := D'.below A
      have OL := ST.ol
      have HB : Hid (w1.heap.size ≤ (u3.alloc (.cells #[.int .i64 (x : Int)] 2)).heap.size) := KK.size
      clear A D'
      go_wp2_with (first | (at_builtin; refine wp_appL 24 2 j0 (.int .i64 0) 8 Try.underlying24 hj0 hy0 hy1 hy2 rfl (by decide) rfl _ _ rfl w1.heap.size OL ⟨u3.heap.size, 0, none⟩ (.int .i64 (x : Int)) rl rfl rfl rfl (by omega) HB.out ?_; intro g' c' w' O3 K3 hgn) | fail)
      have hgl := (owns_lt OL).1
      have ST3 := ST.lasts O3 K3 hgn
      have KK3 := KK.low (K3.below _ hgl KK.size)
      have D3 := h.move KK3 (D.src.kept K3 (Or.inl (by omega)))
      clear O3 K3 hgn ST KK D OL rl HB
      refine (l8Log_any g _ ac nc cc bs _ D3 (by omega)).mono ?_
      rintro e u4 ⟨ga, n, c, xs, p', rfl, hn8, OA, hp', D', K'⟩
      have hlo := KK3.size
      have hin := ST3.inSize
      have hga := owns_lt OA
      obtain ⟨_, _, eA, RA⟩ := RowAt.of_owned OA
      cases eA
      obtain ⟨bA, hbA⟩ : ∃ q : RowAt u4 false ga (ga + 1) 6 (some ⟨ga, 0, none⟩) n c (sixs xs), True := ⟨⟨RA.len, RA.le, fun hz => by
        obtain ⟨b, off, e, g1, g2, g3, g4, _⟩ := RA.cells hz
        cases e
        exact ⟨ga, 0, rfl, Nat.le_refl _, Nat.lt_succ_self _, g3, g4, fun q => by cases q⟩⟩, trivial⟩
      have ST4 := ST3.keep K' hg
      have KK4 := KK3.trans K'
      clear hbA RA OA K' ST3 KK3 D3
      have A : Below u4.heap.size u4 (u4.alloc (.cells #[.slice (some ⟨ga, 0, none⟩) n c] 40)) := (Below.refl _ _).alloc (Nat.le_refl _) _
      have rl := row_lit u4 [.slice (some ⟨ga, 0, none⟩) n c] 40 1 1 rfl
      have hAs := A.size
      replace ST4 := ST4.below A
      replace KK4 := KK4.next A
      have D := D'.below A
      replace bA := bA.below A
      have OL := ST4.og
      have HB : Hid (w1.heap.size ≤ (u4.alloc (.cells #[.slice (some ⟨ga, 0, none⟩) n c] 40)).heap.size) := KK4.size
      clear A D'
      go_wp2_with (first | (at_builtin; refine wp_appL 45 40 k0 (.slice none 0 0) 24 Try.underlying45 hk0 hq0 hq1 hq2 rfl (by decide) rfl _ _ rfl w1.heap.size OL ⟨u4.heap.size, 0, none⟩ (.slice (some ⟨ga, 0, none⟩) n c) rl rfl rfl rfl (by omega) HB.out ?_; intro g2 c2 w2' O5 K5 hgn5))
      have hgl5 := (owns_lt OL).1
      have ST5 := ST4.logs (d := (some ⟨ga, 0, none⟩, n, c)) (xs := xs) O5 K5 hgn5 ⟨ga, by omega, by omega, by omega, by omega, bA⟩
      have KK5 := KK4.low (K5.below _ hgl5 KK4.size)
      have S5 := D.src.kept K5 (Or.inl (by omega))
      clear O5 K5 hgn5 ST4 KK4 D OL rl HB bA
      go_roundw
      case rel => exact ⟨j - 1, m + 1, p', g', c', g2, c2, ls ++ [(x : Int)], _, xss ++ [xs], by go_num, by omega, by omega, rfl, rfl, ST5, S5, KK5⟩
      case measure => simp [intOf]; omega

end Go.Proofs.Ytpbhiednmnolgaa
