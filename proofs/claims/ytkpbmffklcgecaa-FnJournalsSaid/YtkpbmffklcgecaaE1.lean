/- Chapter 2: how records are drawn: what the model's l2Record answers. -/
import Derived.Test.YtkpbmffklcgecaaSB
import Derived.Test.YtkpbmffklcgecaaDrawD
import Derived.Test.YtkpbmffklcgecaaK2
namespace Go.Proofs.Ytkpbmffklcgecaa
open Go.RowKit

set_option maxRecDepth 20000 in
set_option maxHeartbeats 1000000 in
theorem l2Record_any (g p : Nat) (ac : Option Addr) (nc cc : Nat) (bs : List Nat) (w : World) (h : SB w g p ac nc cc bs) (hp : p ≤ 90000) :
    Calls Try.prog 95 #[.pointer (some ⟨g, 0, none⟩)] w fun e w' => ∃ (ad : Addr) (n c : Nat) (ws : List Int) (p' : Nat), e = .returned (.slice (some ad) n c) ∧ 1 ≤ n ∧ n ≤ 5 ∧ p' ≤ p + 6 ∧ RowAt w' true w.heap.size w'.heap.size 1 (some ad) n c (ints ws) ∧ SB w' g p' ac nc cc bs ∧ Kept g (g + 1) w w' := by
  have hg := h.lt
  obtain ⟨i0, hi0, hz0, hz1, hz2⟩ := info_parts Try.info2'
  have A : Below w.heap.size w (w.alloc (.cells #[] 2)) := (Below.refl _ _).alloc (Nat.le_refl _) _
  have hown0 : (w.alloc (.cells #[] 2)).ownsRow w.heap.size 2 1 (.slice (some ⟨w.heap.size, 0, none⟩) 0 0) 0 [] := World.ownsRow_lit w #[] 0 (Nat.le_refl _) (Nat.zero_le _) rfl
  have D0 := h.below A
  go_enter Try.func95, Try.ntmps95
  go_wp2_with fail
  refine (next_sb D0 5 rfl (by omega) (by omega) (by omega)).mono ?_
  rintro e w1 ⟨v, hv, rfl, D1, K1, z1⟩
  have hown1 := owns_kept hown0 K1 (fun k e => by have := (hown0.lt k e).1; omega)
  have KK : Kept g (g + 1) w w1 := (Kept.of_below A).trans K1
  clear A hown0 D0 K1 z1
  have hw1 := KK.size
  go_wp2
  go_loopw [3, 4] (fun q i wr => ∃ (j m : Nat) (ws : List Int), i = .int .i64 j ∧ j + m = 1 + v ∧ wr.ownsRow w.heap.size 2 1 q m (ints ws) ∧ SrcAt wr g (p + 1 + m) ac nc cc ∧ Kept g (g + 1) w wr) (fun _ i _ => (intOf i).toNat)
  case atStart => exact ⟨1 + v, 0, [], by go_num, by omega, hown1, D1.src, KK⟩
  case round =>
    obtain ⟨j, m, ws, rfl, hjm, hown, D, hk⟩ := hrel
    have D := h.move hk D
    clear hown1 D1 KK
    have hsw := hk.size
    by_cases hj : j = 0
    · subst hj
      have hm0 : m ≠ 0 := by omega
      obtain ⟨g1, cap1, rfl, hg1, hg1', RR⟩ := own_block hown hm0
      have RA := RR.widen hg1 (show g1 + 1 ≤ wr.heap.size by omega)
      clear hown RR
      go_wp2
      go_ret
      exact ⟨_, m, cap1, ws, p + 1 + m, rfl, by omega, by omega, by omega, RA, D, hk⟩
    · have hj0 : (0 : Int) < j := by omega
      go_wp2_with fail
      refine (next_sb D 99 rfl (by omega) (by omega) (by omega)).mono ?_
      rintro e w2 ⟨x, hx, rfl, D2, K2, z2⟩
      have hown2 := owns_kept hown K2 (fun k e => by have := (hown.lt k e).1; omega)
      have hk2 := hk.trans K2
      have hs2 := hk2.size
      clear hown D hk K2 z2
      have A2 : Below w2.heap.size w2 (w2.alloc (.cells #[.int .i64 x] 2)) := (Below.refl _ _).alloc (Nat.le_refl _) _
      have hownA := hown2.alloc (.cells #[.int .i64 x] 2)
      go_wp2_with (first | (at_builtin; refine wpList_append_own _ rfl _ _ 24 rfl w.heap.size 2 i0 (.int .i64 0) 1 8 Try.underlying24 hi0 hz0 hz1 hz2 rfl (by decide) _ _ _ rfl hownA ⟨w2.heap.size, 0, none⟩ 1 1 [.int .i64 x] rfl rfl ?d1 ?d2 ?d3 ?d4 ?d5 ?_))
      case d1 =>
        intro i u hi
        match i, hi with
        | 0, hi => simp at hi; subst hi; simp [Addr.add]
      case d2 => intro u hu; simp at hu; subst hu; rfl
      case d3 => unfold maxLen; omega
      case d4 => omega
      case d5 => simp; omega
      intro v2 w3 hown3 hgrow _
      have B3 : Below w.heap.size w2 w3 := (((Below.refl _ _).alloc hs2 _ : Below w.heap.size w2 _)).grown hgrow (by simp; omega) (fun g hg => (hownA.lt g hg).1)
      have hk3 := hk2.low B3
      have s3 := D2.src.low B3 hg
      have hown4 : w3.ownsRow w.heap.size 2 1 v2 (m + 1) (ints (ws ++ [(x : Int)])) := by simpa [ints] using hown3
      clear hown3 hgrow hownA A2 B3 hown2 D2 hk2
      go_wp2
      go_roundw
      case rel => exact ⟨j - 1, m + 1, _, by go_num, by omega, hown4, by rw [show p + 1 + (m + 1) = p + 1 + m + 1 by omega]; exact s3, hk3⟩
      case measure => simp [intOf]; omega

end Go.Proofs.Ytkpbmffklcgecaa
