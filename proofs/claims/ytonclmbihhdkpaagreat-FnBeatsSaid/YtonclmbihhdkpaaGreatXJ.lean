/- Chapter 8: logs that are drawn. -/
import Derived.Test.YtonclmbihhdkpaaGreatQAQ
import Derived.Test.YtonclmbihhdkpaaGreatQAE
import Derived.Test.YtonclmbihhdkpaaGreatQAG
set_option maxRecDepth 20000
set_option maxHeartbeats 16000000
namespace Go.Proofs.YtonclmbihhdkpaaGreat
open Go.RowKit
theorem wp_appX {ops : Array Oper} {rest : List Oper} {o : Oper} {a : Act} {w : World} {Q : Exit → Act → World → Prop} (t e : TypeId) (i0 : TypeInfo) (z : Value) (size bytes : Nat) (ht : Tryz.prog.underlying t = some (.slice e)) (hi0 : Tryz.prog.info? e = some i0) (hz0 : i0.zero = some z) (hz1 : i0.size = size) (hz2 : i0.bytes = bytes) (hzs : z.cells.size = size) (hsz : 0 < size) (hby : bytes ≤ 64) (hgd : o.guard = none) (s x : Operand)
  (ho : o.op = .call { callee := .builtin .append, args := #[s, x], argTypes := #[t, t] }) (base : Nat) {v : Value} {n : Nat} {cs : List Value} (hown : w.ownsRow base e size v n cs) {ow : Bool} {l u : Nat} (ad : Addr) (m c : Nat) (ns : List Value) (hrow : RowAt w ow l u size (some ad) m c ns) (h1 : ∀ u ∈ ns, u.oneCell' = true) (hs : a.eval s = v) (hx : a.eval x = .slice (some ad) m c) (hn : n + m ≤ 1000000) (hbase : base ≤ w.heap.size)
  (h : ∀ v' w', w'.ownsRow base e size v' (n + m) (cs ++ ns) → Below base w w' → (v' = .slice none 0 0 → v = .slice none 0 0) → wpList Tryz.prog ops Q rest (a.put o.dst v') w') : wpList Tryz.prog ops Q (o :: rest) a w := by
 obtain ⟨v', w', hr, ho', hg, hnn⟩ := run_append_own (P := Tryz.prog) w base t o.type e i0 z size bytes ht hi0 hz0 hz1 hz2 hzs hsz v n cs hown ad m c ns hrow.len (fun j u hj => by
  have hjl : j < ns.length := (List.getElem?_eq_some_iff.1 hj).1
  have hl := hrow.len
  have hm : m ≠ 0 := fun e => by rw [e, Nat.zero_mul] at hl; omega
  obtain ⟨b, off, e, _, _, _, hc, _⟩ := hrow.cells hm
  have e2 : ad = ⟨b, off, none⟩ := Option.some.inj e
  rw [e2]
  have := hc j (by omega)
  rw [List.getD_eq_getElem?_getD, hj, Option.getD_some] at this
  rw [Addr.add_lit]; exact this) h1 (by unfold maxLen; omega) (Nat.le_trans (Nat.mul_le_mul hn hby) (by decide)) hbase
 exact Lib.wpList_append_run w hgd s x _ _ ho _ _ hs hx _ _ hr (h _ _ ho' ((Below.refl base w).grown hg hbase (fun g hg' => (hown.lt g hg').1)) (fun q => (hnn.1 q).1))
theorem sixs_append (xs ys : List En) : sixs (xs ++ ys) = sixs xs ++ sixs ys := by
 apply List.ext_getElem (by simp [sixs_len]; omega)
 intro j h1 h2
 rw [sixs_len, List.length_append] at h1
 by_cases hj : j < xs.length * 6
 ·rw [List.getElem_append_left (by rw [sixs_len]; exact hj)]
  simp only [sixs, List.getElem_map, List.getElem_range]
  rw [show (xs ++ ys).getD (j / 6) en0 = xs.getD (j / 6) en0 from by simp [List.getD, List.getElem?_append_left (show j / 6 < xs.length by omega)]]
 ·rw [List.getElem_append_right (by rw [sixs_len]; omega)]
  simp only [sixs, List.getElem_map, List.getElem_range, List.length_map, List.length_range]
  rw [show (xs ++ ys).getD (j / 6) en0 = ys.getD ((j - xs.length * 6) / 6) en0 from by
   rw [List.getD_eq_getElem?_getD, List.getElem?_append_right (by omega), List.getD_eq_getElem?_getD]
   congr 2; omega, show j % 6 = (j - xs.length * 6) % 6 by omega]
theorem sixs_single (x0 x1 x2 x3 x4 x5 : Int) : sixs [(x0, x1, x2, x3, x4, x5)] = [.int .i64 x0, .int .i64 x1, .int .i64 x2, .int .i64 x3, .int .i64 x4, .int .i64 x5] := by simp [sixs, enF, List.range_succ]
theorem owns_lit0 (w : World) (e : TypeId) (size : Nat) : (w.alloc (.cells #[] e)).ownsRow w.heap.size e size (.slice (some ⟨w.heap.size, 0, none⟩) 0 0) 0 [] :=
 ⟨by simp, Or.inr ⟨w.heap.size, 0, #[], rfl, Nat.le_refl _, by simpa using heap_alloc_new w (.cells #[] e), Nat.le_refl _, by unfold maxLen; omega, by simp, by simp⟩⟩
theorem owns_some {w : World} {base : Nat} {e : TypeId} {size : Nat} {v : Value} {n : Nat} {cs : List Value} (h : w.ownsRow base e size v n cs) (hn : n ≠ 0) : ∃ g c, v = .slice (some ⟨g, 0, none⟩) n c := by
 rcases h.2 with ⟨_, q⟩ | ⟨g, cap, _, hv, _⟩
 ·exact absurd q hn
 ·exact ⟨g, cap, hv⟩
theorem l8Log_any (g p : Nat) (ac : Option Addr) (nc cc : Nat) (bs : List Nat) (w : World) (h : SB w g p ac nc cc bs) (hp : p ≤ 60000) : Calls Tryz.prog 182 #[.pointer (some ⟨g, 0, none⟩)] w fun e w' => ∃ (gl n c : Nat) (xs : List En) (p' : Nat), e = .returned (.slice (some ⟨gl, 0, none⟩) n c) ∧ n ≤ 8 ∧ w'.ownsRow w.heap.size 44 6 (.slice (some ⟨gl, 0, none⟩) n c) n (sixs xs) ∧ p' ≤ p + 70 ∧ SB w' g p' ac nc cc bs ∧ Kept g (g + 1) w w' := by
 have hg := h.lt
 obtain ⟨i0, hi0, hz0, hz1, hz2⟩ := info_parts Tryz.infoEntry
 have A : Below w.heap.size w (w.alloc (.cells #[] 44)) := (Below.refl _ _).alloc (Nat.le_refl _) _
 have O0 := owns_lit0 w 44 6
 have D0 := h.below A
 go_enter Tryz.func182, Tryz.ntmps182
 go_wp2_with fail
 refine (next_sb D0 9 rfl (by omega) (by omega) (by omega)).mono ?_
 rintro e w1 ⟨v, hv, rfl, D1, K1, -⟩
 have O1 := owns_kept O0 K1 (fun k e => by have := (O0.lt k e).1; omega)
 have KK : Kept g (g + 1) w w1 := (Kept.of_below A).trans K1
 clear A O0 D0 K1
 go_wp2
 go_loopw [3, 4] (fun u i wr => ∃ (j m q : Nat) (xs : List En), i = .int .i64 j ∧ j + m ≤ 8 ∧ q + 7 * j ≤ p + 60 ∧ (∃ gl c, u = .slice (some ⟨gl, 0, none⟩) m c) ∧ wr.ownsRow w.heap.size 44 6 u m (sixs xs) ∧ SrcAt wr g q ac nc cc ∧ Kept g (g + 1) w wr) (fun _ i _ => (intOf i).toNat)
 case atStart => exact ⟨v, 0, p + 1, [], rfl, by omega, by omega, ⟨_, _, rfl⟩, O1, D1.src, KK⟩
 case round =>
  obtain ⟨j, m, q, xs, rfl, hjm, hq, ⟨gl, c, rfl⟩, O, S, KK'⟩ := hrel
  clear O1 D1 KK
  have D := h.move KK' S
  have KK := KK'
  clear KK' S
  by_cases hj : j = 0
  ·subst hj
   go_wp2
   go_ret
   exact ⟨_, _, _, xs, q, rfl, by omega, O, by omega, D, KK⟩
  ·have hj1 : (0 : Int) < (j : Int) := by omega
   go_wp2_with fail
   refine (l8Entry_any g q ac nc cc bs _ D (by omega)).mono ?_
   rintro e u1 ⟨x0, x1, x2, x3, x4, x5, p', rfl, _, _, hp', D', K'⟩
   replace O := owns_kept O K' (fun k e => by have := (O.lt k e).1; omega)
   replace KK := KK.trans K'
   clear K'
   have rl := row_lit u1 [.int .i64 x0, .int .i64 x1, .int .i64 x2, .int .i64 x3, .int .i64 x4, .int .i64 x5] 44 1 6 rfl
   have O2 : (u1.alloc (.cells #[.int .i64 x0, .int .i64 x1, .int .i64 x2, .int .i64 x3, .int .i64 x4, .int .i64 x5] 44)).ownsRow w.heap.size 44 6 _ _ _ := O.alloc (.cells #[.int .i64 x0, .int .i64 x1, .int .i64 x2, .int .i64 x3, .int .i64 x4, .int .i64 x5] 44)
   have HB : Hid (w.heap.size ≤ (u1.alloc (.cells #[.int .i64 x0, .int .i64 x1, .int .i64 x2, .int .i64 x3, .int .i64 x4, .int .i64 x5] 44)).heap.size) := Nat.le_trans KK.size (by simp)
   have D2 := D'.below ((Below.refl _ _).alloc (Nat.le_refl _) (.cells #[.int .i64 x0, .int .i64 x1, .int .i64 x2, .int .i64 x3, .int .i64 x4, .int .i64 x5] 44))
   have K2 := KK.next ((Below.refl _ _).alloc (Nat.le_refl _) (.cells #[.int .i64 x0, .int .i64 x1, .int .i64 x2, .int .i64 x3, .int .i64 x4, .int .i64 x5] 44))
   clear O D' KK D
   go_wp2_with (first | (at_builtin; refine wp_appX 24 44 i0 (.agg #[.int .i64 0, .int .i64 0, .int .i64 0, .int .i64 0, .int .i64 0, .int .i64 0]) 6 48 Tryz.underlying24 hi0 hz0 hz1 hz2 rfl (by decide) (by decide) rfl _ _ rfl w.heap.size O2 ⟨u1.heap.size, 0, none⟩ 1 1 [.int .i64 x0, .int .i64 x1, .int .i64 x2, .int .i64 x3, .int .i64 x4, .int .i64 x5] rl (by simp [Value.oneCell']) rfl rfl (by omega) HB.out ?_; intro v' w' O3 B3 _))
   obtain ⟨gl', c', rfl⟩ := owns_some O3 (by omega)
   have O4 : w'.ownsRow w.heap.size 44 6 (.slice (some ⟨gl', 0, none⟩) (m + 1) c') (m + 1) (sixs (xs ++ [(x0, x1, x2, x3, x4, x5)])) := by rw [sixs_append, sixs_single]; exact O3
   have K4 := K2.low B3
   have S4 := D2.src.low B3 hg
   clear O3 B3 K2 D2 O2 rl
   go_roundw
   case rel => exact ⟨j - 1, m + 1, p', xs ++ [(x0, x1, x2, x3, x4, x5)], by go_num, by omega, by omega, ⟨_, _, rfl⟩, O4, S4, K4⟩
   case measure => simp [intOf]; omega
end Go.Proofs.YtonclmbihhdkpaaGreat
