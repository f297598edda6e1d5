/- Chapter 3: how blocks are drawn: what the model's l3Blocks answers. -/
import Derived.Test.YtlblbjebbecgbaaSB2
import Derived.Test.YtlblbjebbecgbaaP2
namespace Go.Proofs.Ytlblbjebbecgbaa
open Go.RowKit

set_option maxRecDepth 20000 in
set_option maxHeartbeats 4000000 in
theorem l3Blocks_any (g p : Nat) (ac : Option Addr) (nc cc : Nat) (bs : List Nat) (w : World) (h : SB w g p ac nc cc bs) (hp : p ≤ 500) :
    Calls Try.prog 85 #[.pointer (some ⟨g, 0, none⟩)] w fun e w' => ∃ ao n c bl p', e = .returned (.slice ao n c) ∧ n ≤ 25 ∧ p' ≤ p + 40 ∧ RowAt w' true w.heap.size w'.heap.size 2 ao n c (pairs bl) ∧ SB w' g p' ac nc cc bs ∧ Kept g (g + 1) w w' := by
  have hg := h.lt
  obtain ⟨j0, hj0, hy0, hy1, hy2⟩ := info_parts Try.infoBlk
  have A : Below w.heap.size w (w.alloc (.cells #[] 55)) := (Below.refl _ _).alloc (Nat.le_refl _) _
  have O0 : (w.alloc (.cells #[] 55)).ownsRow w.heap.size 55 2 (.slice (some ⟨w.heap.size, 0, none⟩) 0 0) 0 [] := World.ownsRow_lit w #[] 0 (Nat.le_refl _) (Nat.zero_le _) rfl
  have D0 := h.below A
  go_enter Try.func85, Try.ntmps85
  go_wp2_with fail
  refine (next_sb D0 9 rfl (by omega) (by omega) (by omega)).mono ?_
  rintro e w1 ⟨v, hv, rfl, D1, K1, z1⟩
  have O1 := owns_kept O0 K1 (fun k e => by have := (O0.lt k e).1; omega)
  have KK : Kept g (g + 1) w w1 := (Kept.of_below A).trans K1
  clear A O0 D0 K1 z1
  go_wp2
  go_loopw [3, 4] (fun u i wr => ∃ (j m q : Nat) (bl : List (Int × Int)), i = .int .i64 j ∧ j + m ≤ 8 ∧ q + 2 * j ≤ p + 17 ∧ wr.ownsRow w.heap.size 55 2 u m (pairs bl) ∧ SrcAt wr g q ac nc cc ∧ Kept g (g + 1) w wr) (fun _ i _ => (intOf i).toNat)
  case atStart => exact ⟨v, 0, p + 1, [], rfl, by omega, by omega, O1, D1.src, KK⟩
  case round =>
    obtain ⟨j, m, q, bl, rfl, hjm, hq, O, S, hk⟩ := hrel
    clear O1 D1 KK
    have hsw := hk.size
    have D := h.move hk S
    by_cases hj : j = 0
    · subst hj
      by_cases hm : m = 0
      · subst hm
        obtain ⟨ua, uc, rfl, rt⟩ := RowAt.of_owned O
        have Dt := D
        have hkt := hk
        clear O D hk
        go_wp2_with fail
        refine (chance_sb Dt 40 rfl (by omega) (by omega) (by omega)).mono ?_
        rintro e wt ⟨bb, rfl, Du, Ku, zu⟩
        have ru := rt.kept Ku (by omega)
        have hku := hkt.trans Ku
        have hsu := Nat.le_of_eq zu
        have hsu' := Nat.le_of_eq zu.symm
        have hwu := hku.size
        clear Dt Ku zu rt hkt
        cases bb with
        | false =>
          go_wp2
          go_ret
          exact ⟨_, _, _, _, _, rfl, by omega, by omega, ru.widen (by omega) (by omega), Du, hku⟩
        | true =>
          go_wp2_with (first | (at_make; refine wpList_make_full _ rfl _ _ 47 rfl wt.heap.size 55 j0 (.agg #[.int .i64 0, .int .i64 0]) 2 Try.underlying47 hj0 hy0 hy1 _ _ _ _ 25 rfl rfl rfl rfl ?b1 ?b2 ?b3 ?_))
          case b1 => rw [hy2]; omega
          case b2 => unfold maxLen; omega
          case b3 => exact Nat.le_refl _
          intro wv hown hgrow
          have hbv : Below wt.heap.size wt wv := (Below.refl _ _).grown hgrow (Nat.le_refl _) (fun k hk => by cases hk)
          replace hown : wv.ownsRow wt.heap.size 55 2 (.slice (some ⟨wt.heap.size, 0, none⟩) 25 25) 25 (pairs (List.replicate 25 (0, 0))) := by rw [← made_pairs]; exact hown
          obtain ⟨_, _, e', R⟩ := RowAt.of_owned hown
          cases e'
          have Dv := Du.below hbv
          have hkv := hku.next hbv
          clear hgrow hown hbv
          go_wp2
          go_ret
          exact ⟨_, _, _, _, _, rfl, by omega, by omega, R.widen hwu (Nat.le_refl _), Dv, hkv⟩
      have hmp : 0 < m := by omega
      have hmi : (0 : Int) < m := by omega
      obtain ⟨gb, cb, rfl, hgb, hgb', rt⟩ := own_block O hm
      clear O
      go_wp2_with fail
      refine (next_sb D 16 rfl (by omega) (by omega) (by omega)).mono ?_
      rintro e w2 ⟨sw, hsw2, rfl, D2, K2, z2⟩
      replace rt := rt.kept K2 (by omega)
      replace hk := hk.trans K2
      have hz2 := Nat.le_of_eq z2.symm
      have hw2 := hk.size
      clear D K2 z2 S
      by_cases s0 : sw = 0
      · subst s0
        have AL : Below w2.heap.size w2 (w2.alloc (.cells #[.int .i64 (-1), .int .i64 (201), .int .i64 (0)] 2)) := (Below.refl _ _).alloc (Nat.le_refl _) _
        have rl := row_lit w2 [.int .i64 (-1), .int .i64 (201), .int .i64 (0)] 2 3 1 rfl
        have D3 := D2.below AL
        go_wp2_with fail
        refine (pick_sb D3 3 rfl (by omega) (by omega) (by omega) _ _ [-1, 201, 0] (by exact rl) (by omega)).mono ?_
        rintro e w3 ⟨x, rfl, D4, K4, z4⟩
        have hAL := AL.size
        replace rt := (rt.below AL).kept K4 (by omega)
        have hk4 := (hk.next AL).trans K4
        have hw4 := hk4.size
        have hs4 := K4.size
        obtain ⟨_, _, e', _, _, _, gc, gf⟩ := rt.cells (by omega)
        cases e'
        have c0 := gc 0 (by omega)
        have f0 := gf rfl 0 (by omega)
        rw [Nat.zero_add] at c0 f0
        have rs := rt.stored (i := 0) (by omega) (.int .i64 x)
        rw [Nat.zero_add] at rs
        have e9 := pairs_set1 bl 0 x
        simp only [Nat.zero_mul] at e9
        rw [e9] at rs
        have K5 : Kept gb (gb + 1) w3 (w3.setCell ⟨gb, 0, none⟩ (.int .i64 x)) := by refine Kept.setCell (Kept.refl _ _ _) ?_ ?_ _ <;> simp
        have hs5 := K5.size
        have hkt : Kept g (g + 1) w (w3.setCell ⟨gb, 0, none⟩ (.int .i64 x)) := hk4.low (K5.below _ (by omega) (by omega))
        have Dt : SB (w3.setCell ⟨gb, 0, none⟩ (.int .i64 x)) g (q + 1 + 1) ac nc cc bs := h.move hkt (D4.src.kept K5 (by omega))
        have hgbs : gb < w3.heap.size := by omega
        have hss : (w3.setCell ⟨gb, 0, none⟩ (.int .i64 x)).heap.size = w3.heap.size := by simp
        have hss' := Nat.le_of_eq hss.symm
        clear AL rl D3 D4 K4 z4 rt gc gf e9 K5 hk4 hk D2 hss
        go_wp2_with fail
        refine (chance_sb Dt 40 rfl (by omega) (by omega) (by omega)).mono ?_
        rintro e wt ⟨bb, rfl, Du, Ku, zu⟩
        have ru := rs.kept Ku (by omega)
        have hku := hkt.trans Ku
        have hsu := Nat.le_of_eq zu
        have hsu' := Nat.le_of_eq zu.symm
        have hwu := hku.size
        clear Dt Ku zu rs hkt
        cases bb with
        | false =>
          go_wp2
          go_ret
          exact ⟨_, _, _, _, _, rfl, by omega, by omega, ru.widen (by omega) (by omega), Du, hku⟩
        | true =>
          go_wp2_with (first | (at_make; refine wpList_make_full _ rfl _ _ 47 rfl wt.heap.size 55 j0 (.agg #[.int .i64 0, .int .i64 0]) 2 Try.underlying47 hj0 hy0 hy1 _ _ _ _ 25 rfl rfl rfl rfl ?b1 ?b2 ?b3 ?_))
          case b1 => rw [hy2]; omega
          case b2 => unfold maxLen; omega
          case b3 => exact Nat.le_refl _
          intro wv hown hgrow
          have hbv : Below wt.heap.size wt wv := (Below.refl _ _).grown hgrow (Nat.le_refl _) (fun k hk => by cases hk)
          replace hown : wv.ownsRow wt.heap.size 55 2 (.slice (some ⟨wt.heap.size, 0, none⟩) 25 25) 25 (pairs (List.replicate 25 (0, 0))) := by rw [← made_pairs]; exact hown
          obtain ⟨_, _, e', R⟩ := RowAt.of_owned hown
          cases e'
          have Dv := Du.below hbv
          have hkv := hku.next hbv
          clear hgrow hown hbv
          go_wp2
          go_ret
          exact ⟨_, _, _, _, _, rfl, by omega, by omega, R.widen hwu (Nat.le_refl _), Dv, hkv⟩
      by_cases s1 : sw = 1
      · subst s1
        have AL : Below w2.heap.size w2 (w2.alloc (.cells #[.int .i64 (-1), .int .i64 (256), .int .i64 (5)] 2)) := (Below.refl _ _).alloc (Nat.le_refl _) _
        have rl := row_lit w2 [.int .i64 (-1), .int .i64 (256), .int .i64 (5)] 2 3 1 rfl
        have D3 := D2.below AL
        go_wp2_with fail
        refine (pick_sb D3 3 rfl (by omega) (by omega) (by omega) _ _ [-1, 256, 5] (by exact rl) (by omega)).mono ?_
        rintro e w3 ⟨x, rfl, D4, K4, z4⟩
        have hAL := AL.size
        replace rt := (rt.below AL).kept K4 (by omega)
        have hk4 := (hk.next AL).trans K4
        have hw4 := hk4.size
        have hs4 := K4.size
        obtain ⟨_, _, e', _, _, _, gc, gf⟩ := rt.cells (by omega)
        cases e'
        have c0 := gc 1 (by omega)
        have f0 := gf rfl 1 (by omega)
        rw [Nat.zero_add] at c0 f0
        have rs := rt.stored (i := 1) (by omega) (.int .i64 x)
        rw [Nat.zero_add] at rs
        have e9 := pairs_set2 bl 0 x
        simp only [Nat.zero_mul, Nat.zero_add] at e9
        rw [e9] at rs
        have K5 : Kept gb (gb + 1) w3 (w3.setCell ⟨gb, 1, none⟩ (.int .i64 x)) := by refine Kept.setCell (Kept.refl _ _ _) ?_ ?_ _ <;> simp
        have hs5 := K5.size
        have hkt : Kept g (g + 1) w (w3.setCell ⟨gb, 1, none⟩ (.int .i64 x)) := hk4.low (K5.below _ (by omega) (by omega))
        have Dt : SB (w3.setCell ⟨gb, 1, none⟩ (.int .i64 x)) g (q + 1 + 1) ac nc cc bs := h.move hkt (D4.src.kept K5 (by omega))
        have hgbs : gb < w3.heap.size := by omega
        have hss : (w3.setCell ⟨gb, 1, none⟩ (.int .i64 x)).heap.size = w3.heap.size := by simp
        have hss' := Nat.le_of_eq hss.symm
        clear AL rl D3 D4 K4 z4 rt gc gf e9 K5 hk4 hk D2 hss
        go_wp2_with fail
        refine (chance_sb Dt 40 rfl (by omega) (by omega) (by omega)).mono ?_
        rintro e wt ⟨bb, rfl, Du, Ku, zu⟩
        have ru := rs.kept Ku (by omega)
        have hku := hkt.trans Ku
        have hsu := Nat.le_of_eq zu
        have hsu' := Nat.le_of_eq zu.symm
        have hwu := hku.size
        clear Dt Ku zu rs hkt
        cases bb with
        | false =>
          go_wp2
          go_ret
          exact ⟨_, _, _, _, _, rfl, by omega, by omega, ru.widen (by omega) (by omega), Du, hku⟩
        | true =>
          go_wp2_with (first | (at_make; refine wpList_make_full _ rfl _ _ 47 rfl wt.heap.size 55 j0 (.agg #[.int .i64 0, .int .i64 0]) 2 Try.underlying47 hj0 hy0 hy1 _ _ _ _ 25 rfl rfl rfl rfl ?b1 ?b2 ?b3 ?_))
          case b1 => rw [hy2]; omega
          case b2 => unfold maxLen; omega
          case b3 => exact Nat.le_refl _
          intro wv hown hgrow
          have hbv : Below wt.heap.size wt wv := (Below.refl _ _).grown hgrow (Nat.le_refl _) (fun k hk => by cases hk)
          replace hown : wv.ownsRow wt.heap.size 55 2 (.slice (some ⟨wt.heap.size, 0, none⟩) 25 25) 25 (pairs (List.replicate 25 (0, 0))) := by rw [← made_pairs]; exact hown
          obtain ⟨_, _, e', R⟩ := RowAt.of_owned hown
          cases e'
          have Dv := Du.below hbv
          have hkv := hku.next hbv
          clear hgrow hown hbv
          go_wp2
          go_ret
          exact ⟨_, _, _, _, _, rfl, by omega, by omega, R.widen hwu (Nat.le_refl _), Dv, hkv⟩
      have i0 : ¬ (sw : Int) = 0 := by omega
      have i1 : ¬ (sw : Int) = 1 := by omega
      have Dt := D2
      have hkt := hk
      clear D2 hk
      go_wp2_with fail
      refine (chance_sb Dt 40 rfl (by omega) (by omega) (by omega)).mono ?_
      rintro e wt ⟨bb, rfl, Du, Ku, zu⟩
      have ru := rt.kept Ku (by omega)
      have hku := hkt.trans Ku
      have hsu := Nat.le_of_eq zu
      have hsu' := Nat.le_of_eq zu.symm
      have hwu := hku.size
      clear Dt Ku zu rt hkt
      cases bb with
      | false =>
        go_wp2
        go_ret
        exact ⟨_, _, _, _, _, rfl, by omega, by omega, ru.widen (by omega) (by omega), Du, hku⟩
      | true =>
        go_wp2_with (first | (at_make; refine wpList_make_full _ rfl _ _ 47 rfl wt.heap.size 55 j0 (.agg #[.int .i64 0, .int .i64 0]) 2 Try.underlying47 hj0 hy0 hy1 _ _ _ _ 25 rfl rfl rfl rfl ?b1 ?b2 ?b3 ?_))
        case b1 => rw [hy2]; omega
        case b2 => unfold maxLen; omega
        case b3 => exact Nat.le_refl _
        intro wv hown hgrow
        have hbv : Below wt.heap.size wt wv := (Below.refl _ _).grown hgrow (Nat.le_refl _) (fun k hk => by cases hk)
        replace hown : wv.ownsRow wt.heap.size 55 2 (.slice (some ⟨wt.heap.size, 0, none⟩) 25 25) 25 (pairs (List.replicate 25 (0, 0))) := by rw [← made_pairs]; exact hown
        obtain ⟨_, _, e', R⟩ := RowAt.of_owned hown
        cases e'
        have Dv := Du.below hbv
        have hkv := hku.next hbv
        clear hgrow hown hbv
        go_wp2
        go_ret
        exact ⟨_, _, _, _, _, rfl, by omega, by omega, R.widen hwu (Nat.le_refl _), Dv, hkv⟩
    · have hjp : (0 : Int) < j := by omega
      have AL : Below wr.heap.size wr (wr.alloc (.cells #[.int .i64 0, .int .i64 1, .int .i64 1, .int .i64 2, .int .i64 200] 2)) := (Below.refl _ _).alloc (Nat.le_refl _) _
      have rl := row_lit wr [.int .i64 0, .int .i64 1, .int .i64 1, .int .i64 2, .int .i64 200] 2 5 1 rfl
      have OA := O.alloc (.cells #[.int .i64 0, .int .i64 1, .int .i64 1, .int .i64 2, .int .i64 200] 2)
      go_wp2_with fail
      refine (pick_sb (D.below AL) 5 rfl (by omega) (by omega) (by omega) _ _ [0, 1, 1, 2, 200] (by exact rl) (by omega)).mono ?_
      rintro e w2 ⟨x, rfl, D2, K2, z2⟩
      have O2 := owns_kept OA K2 (fun k e => by have := (OA.lt k e).1; omega)
      have hk2 := (hk.next AL).trans K2
      have hs2 := hk2.size
      have hO2 := fun k e => (O2.lt k e).2
      clear AL rl OA K2 z2 O D hk S
      have AB : Below w2.heap.size w2 (w2.alloc (.cells #[.int .i64 x, .int .i64 0] 55)) := (Below.refl _ _).alloc (Nat.le_refl _) _
      have O3 := O2.alloc (.cells #[.int .i64 x, .int .i64 0] 55)
      have D3 := D2.below AB
      have hk3 := hk2.next AB
      have c0 : (w2.alloc (.cells #[.int .i64 x, .int .i64 0] 55)).cell? ⟨w2.heap.size, 0, none⟩ = some (.int .i64 x) := by simp
      have c1 : (w2.alloc (.cells #[.int .i64 x, .int .i64 0] 55)).cell? ⟨w2.heap.size, 1, none⟩ = some (.int .i64 0) := by simp
      have f1 : (w2.alloc (.cells #[.int .i64 x, .int .i64 0] 55)).frozen? ⟨w2.heap.size, 1, none⟩ = false := by simp
      have hbs : w2.heap.size + 1 ≤ (w2.alloc (.cells #[.int .i64 x, .int .i64 0] 55)).heap.size := by simp
      clear AB D2 hk2 O2
      by_cases hx : 0 < x
      · go_wp2_with fail
        refine (big_sb D3 256 rfl (by omega) (by omega) (by omega)).mono ?_
        rintro e w3 ⟨y, rfl, D4, K4, z4⟩
        replace c0 := K4.cell c0 (by omega)
        replace c1 := K4.cell c1 (by omega)
        replace f1 := K4.frozen (by omega) (by omega) f1
        have O4 := owns_kept O3 K4 (fun k e => by have := (O3.lt k e).1; omega)
        have hk4 := hk3.trans K4
        have hs4 := K4.size
        clear O3 D3 K4 z4 hk3
        have K5 : Kept w2.heap.size (w2.heap.size + 1) w3 (w3.setCell ⟨w2.heap.size, 1, none⟩ (.int .i64 y)) := by refine Kept.setCell (Kept.refl _ _ _) ?_ ?_ _ <;> simp
        have O5 := owns_kept O4 K5 (fun k e => Or.inl (hO2 k e))
        have hk5 := hk4.low (K5.below w.heap.size (by omega) (by omega))
        have s5 := D4.src.kept K5 (Or.inl (by omega))
        have e0 : (w3.setCell ⟨w2.heap.size, 1, none⟩ (.int .i64 y)).cell? ⟨w2.heap.size, 0, none⟩ = some (.int .i64 x) := (World.cell?_setCell_other _ _ _ _ (by intro e; simp at e)).trans c0
        have e1 : (w3.setCell ⟨w2.heap.size, 1, none⟩ (.int .i64 y)).cell? ⟨w2.heap.size, 1, none⟩ = some (.int .i64 y) := World.cell?_setCell_same _ _ _ c1
        clear K5 O4 hk4 D4
        have OB := O5.alloc (.cells #[.int .i64 x, .int .i64 y] 55)
        have hsz : w.heap.size ≤ (w3.setCell ⟨w2.heap.size, 1, none⟩ (.int .i64 y)).heap.size := hk5.size
        have rn := row_lit (w3.setCell ⟨w2.heap.size, 1, none⟩ (.int .i64 y)) [.int .i64 x, .int .i64 y] 55 1 2 rfl
        rw [show (w3.setCell ⟨w2.heap.size, 1, none⟩ (.int .i64 y)).heap.size = w3.heap.size by simp] at rn
        have HNW : Hid _ := rn.news (by omega)
        clear rn
        go_wp2_with (first | (at_builtin; refine wpList_append_own _ rfl _ _ 47 rfl w.heap.size 55 j0 (.agg #[.int .i64 0, .int .i64 0]) 2 16 Try.underlying47 hj0 hy0 hy1 hy2 rfl (by decide) _ _ _ rfl OB ⟨w3.heap.size, 0, none⟩ 1 1 [.int .i64 x, .int .i64 y] rfl rfl ?d1 ?d2 ?d3 ?d4 ?d5 ?_))
        case d1 => exact HNW.out
        case d2 => intro u hu; simp at hu; rcases hu with rfl | rfl <;> rfl
        case d3 => unfold maxLen; omega
        case d4 => omega
        case d5 => simp at hsz ⊢; omega
        intro v2 w6 O6 hgrow _
        have B6 : Below w.heap.size (w3.setCell ⟨w2.heap.size, 1, none⟩ (.int .i64 y)) w6 := (((Below.refl _ _).alloc hsz _ : Below w.heap.size (w3.setCell ⟨w2.heap.size, 1, none⟩ (.int .i64 y)) _)).grown hgrow (by simp at hsz ⊢; omega) (fun g hg => (OB.lt g hg).1)
        have hk6 := hk5.low B6
        have s6 := SrcAt.low s5 B6 hg
        have O7 : w6.ownsRow w.heap.size 55 2 v2 (m + 1) (pairs (bl ++ [(x, y)])) := by rw [pairs_append]; simpa [pairs] using O6
        clear O6 hgrow OB B6
        go_wp2
        go_roundw
        case rel => exact ⟨j - 1, m + 1, q + 1 + 1, _, by go_num, by omega, by omega, O7, s6, hk6⟩
        case measure => simp [intOf]; omega
      · have s3 := D3.src
        have OB := O3.alloc (.cells #[.int .i64 x, .int .i64 0] 55)
        have hsz : w.heap.size ≤ (w2.alloc (.cells #[.int .i64 x, .int .i64 0] 55)).heap.size := hk3.size
        have rn := row_lit (w2.alloc (.cells #[.int .i64 x, .int .i64 0] 55)) [.int .i64 x, .int .i64 0] 55 1 2 rfl
        rw [show (w2.alloc (.cells #[.int .i64 x, .int .i64 0] 55)).heap.size = w2.heap.size + 1 by simp] at rn
        have HNW : Hid _ := rn.news (by omega)
        clear rn
        go_wp2_with (first | (at_builtin; refine wpList_append_own _ rfl _ _ 47 rfl w.heap.size 55 j0 (.agg #[.int .i64 0, .int .i64 0]) 2 16 Try.underlying47 hj0 hy0 hy1 hy2 rfl (by decide) _ _ _ rfl OB ⟨w2.heap.size + 1, 0, none⟩ 1 1 [.int .i64 x, .int .i64 0] rfl rfl ?d1 ?d2 ?d3 ?d4 ?d5 ?_))
        case d1 => exact HNW.out
        case d2 => intro u hu; simp at hu; rcases hu with rfl | rfl <;> rfl
        case d3 => unfold maxLen; omega
        case d4 => omega
        case d5 => simp at hsz ⊢; omega
        intro v2 w6 O6 hgrow _
        have B6 : Below w.heap.size (w2.alloc (.cells #[.int .i64 x, .int .i64 0] 55)) w6 := (((Below.refl _ _).alloc hsz _ : Below w.heap.size (w2.alloc (.cells #[.int .i64 x, .int .i64 0] 55)) _)).grown hgrow (by simp at hsz ⊢; omega) (fun g hg => (OB.lt g hg).1)
        have hk6 := hk3.low B6
        have s6 := SrcAt.low s3 B6 hg
        have O7 : w6.ownsRow w.heap.size 55 2 v2 (m + 1) (pairs (bl ++ [(x, 0)])) := by rw [pairs_append]; simpa [pairs] using O6
        clear O6 hgrow OB B6
        go_wp2
        go_roundw
        case rel => exact ⟨j - 1, m + 1, q + 1, _, by go_num, by omega, by omega, O7, s6, hk6⟩
        case measure => simp [intOf]; omega

end Go.Proofs.Ytlblbjebbecgbaa
