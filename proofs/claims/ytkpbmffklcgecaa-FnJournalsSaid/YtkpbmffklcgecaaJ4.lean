/- Chapter 2: what the model's append answers. -/
import Derived.Test.YtkpbmffklcgecaaJ4a
import Derived.Deep.RegionLaw
namespace Go.Proofs.Ytkpbmffklcgecaa
open Go.RowKit

theorem specRec_is {o : Bool} {l u : Nat} (ao : Option Addr) (n cap : Nat) (xs : List Int) (w : World) (h : RowAt w o l u 1 ao n cap (ints xs)) (hn : n ≤ 2097152) (r : Int) (hr : recFault xs = r) :
    Calls Try.prog 62 #[.slice ao n cap] w fun e w' => e = .returned (.int .i64 r) ∧ Below w.heap.size w w' := by
  rw [← hr]; exact specRec_any ao n cap xs w h hn
theorem l2Sum_is {o : Bool} {l u : Nat} (x : Int) (ad : Addr) (n cap : Nat) (xs : List Int) (w : World) (h : RowAt w o l u 1 (some ad) n cap (ints xs)) (hn0 : n ≠ 0) (hn : n ≤ 1000) (r : Int) (hr : sumOf (x :: xs) = r) :
    Calls Try.prog 101 #[.int .i64 x, .slice (some ad) n cap] w fun e w' => e = .returned (.int .i64 r) ∧ Below w.heap.size w w' := by
  rw [← hr]; exact l2Sum_any x ad n cap xs w h hn0 hn
theorem owns_lt' {w : World} {base : Nat} {e : TypeId} {size : Nat} {v : Value} {n : Nat} {cs : List Value} (h : w.ownsRow base e size v n cs) {k : Nat} (hk : v.ownBlock = some k) : k < w.heap.size := (h.lt k hk).2

set_option maxRecDepth 20000 in
set_option maxHeartbeats 2000000 in
theorem specApp_ok {o0 o1 o2 : Bool} {l0 u0 l1 u1 l2 u2 : Nat} (a0 a1 : Option Addr) (n0 c0 n1 c1 : Nat) (xs : List Int) (ys : List (Int × Int)) (a2 : Option Addr) (n2 c2 : Nat) (ws : List Int) (w : World) (h0 : RowAt w o0 l0 u0 1 a0 n0 c0 (ints xs)) (h1 : RowAt w o1 l1 u1 2 a1 n1 c1 (pairs ys)) (h2 : RowAt w o2 l2 u2 1 a2 n2 c2 (ints ws)) (hn : n0 ≤ 1048576) (hm : n1 ≤ 1048576) (hq : n2 ≤ 1048576) (h0f : faultOf xs ys = 0) (h0r : recFault ws = 0) (hfull : ¬ (64 < usedOf xs ys + 2 + ws.length ∨ 200 < ys.length + 3 + ws.length)) :
    Calls Try.prog 55 #[.agg #[.slice a0 n0 c0, .slice a1 n1 c1], .slice a2 n2 c2] w fun e w' => DiskRes w w' e (appCode xs ys ws) (appX xs ys ws) (appY xs ys ws) := by
  have hl2 := h2.nInts
  have hl1 := h1.nPairs
  have B1 : Below w.heap.size w ((w.alloc (.cells #[.slice a0 n0 c0, .slice a1 n1 c1] 27)).alloc (.cells #[.int .i64 0, .slice none 0 0, .slice none 0 0] 32)) := ((Below.refl _ _).alloc (Nat.le_refl _) _).alloc (by simp) _
  obtain ⟨hx, hy, hpl⟩ := fault_zero h0f
  have HF : Hid _ := h0f
  obtain ⟨hok, -⟩ := rec_zero h0r
  have HR : Hid _ := h0r
  have hu := used_le (ys := ys) hx
  unfold okRec at hok
  have hn2 : n2 ≤ 8 := by omega
  have hn1 : 1 ≤ n2 := by omega
  have hc : appCode xs ys ws = 0 := by rw [appCode, if_pos h0f, if_pos h0r, if_neg hfull]
  obtain ⟨e1, e2⟩ := app_lists hc
  rw [hc, e1, e2]
  clear hc e1 e2 h0f h0r
  obtain ⟨bw, fw, rfl, -⟩ := h2.int (k := 0) (by omega)
  obtain rfl : n0 = 64 := by rw [← h0.nInts]; exact hx
  go_enter Try.func55, Try.ntmps55
  go_wp2_with fail
  refine (l1Fault_is _ _ _ _ _ _ _ xs ys _ (by exact h0.below B1) (by exact h1.below B1) (by omega) (by omega) (by simp) (by simp) 0 HF.out).mono ?_
  rintro e w1 ⟨rfl, hW⟩
  have k0 : w1.cell? ⟨w.heap.size, 0, none⟩ = some (.slice a0 64 c0) := by rw [hW]; simp
  have k1 : w1.cell? ⟨w.heap.size, 1, none⟩ = some (.slice a1 n1 c1) := by rw [hW]; simp
  have z0 : w1.cell? ⟨w.heap.size + 1, 0, none⟩ = some (.int .i64 0) := by rw [hW]; simp
  have z1 : w1.cell? ⟨w.heap.size + 1, 1, none⟩ = some (.slice none 0 0) := by rw [hW]; simp
  have z2 : w1.cell? ⟨w.heap.size + 1, 2, none⟩ = some (.slice none 0 0) := by rw [hW]; simp
  have y0 : w1.frozen? ⟨w.heap.size + 1, 0, none⟩ = false := by rw [hW]; simp
  have y1 : w1.frozen? ⟨w.heap.size + 1, 1, none⟩ = false := by rw [hW]; simp
  have y2 : w1.frozen? ⟨w.heap.size + 1, 2, none⟩ = false := by rw [hW]; simp
  have hres : w1.heap[w.heap.size + 1]? = some (.cells #[.int .i64 0, .slice none 0 0, .slice none 0 0] 32 (0, 0)) := by rw [hW]; simpa using heap_alloc2_new _ _ _
  have hz : w.heap.size + 1 < w1.heap.size := by rw [hW]; simp
  have B := B1
  rw [← hW] at B
  clear hW
  go_wp2_with fail
  refine (specRec_is _ _ _ ws _ (by exact h2.below B) (by omega) 0 HR.out).mono ?_
  rintro e w2 ⟨rfl, hb⟩
  replace k0 := cell_later hb k0
  replace k1 := cell_later hb k1
  replace z0 := cell_later hb z0
  replace z1 := cell_later hb z1
  replace z2 := cell_later hb z2
  replace y0 := frozen_later hb hz y0
  replace y1 := frozen_later hb hz y1
  replace y2 := frozen_later hb hz y2
  replace hres := (hb.block _ hz).trans hres
  replace hz := Nat.lt_of_lt_of_le hz hb.size
  replace B := below_next B hb
  clear hb
  go_wp2_with fail
  refine (l1All_any _ _ _ _ _ _ _ xs ys _ (by exact h0.below B) (by exact h1.below B) hx (by omega) hpl k0 k1).mono ?_
  rintro e w3 ⟨ao, cap, rfl, r2, hb⟩
  replace k0 := cell_later hb k0
  replace k1 := cell_later hb k1
  replace z0 := cell_later hb z0
  replace z1 := cell_later hb z1
  replace z2 := cell_later hb z2
  replace y0 := frozen_later hb hz y0
  replace y1 := frozen_later hb hz y1
  replace y2 := frozen_later hb hz y2
  replace hres := (hb.block _ hz).trans hres
  replace hz := Nat.lt_of_lt_of_le hz hb.size
  replace B := below_next B hb
  clear hb
  go_wp2_with fail
  refine (l2Scan_any ao cap (putAll xs ys) _ r2).mono ?_
  rintro e w4 ⟨sa, sn, sc, vs, rfl, hsn, -, -, hb⟩
  replace k0 := cell_later hb k0
  replace k1 := cell_later hb k1
  replace z0 := cell_later hb z0
  replace z1 := cell_later hb z1
  replace z2 := cell_later hb z2
  replace y0 := frozen_later hb hz y0
  replace y1 := frozen_later hb hz y1
  replace y2 := frozen_later hb hz y2
  replace hres := (hb.block _ hz).trans hres
  replace hz := Nat.lt_of_lt_of_le hz hb.size
  replace B := below_next B hb
  clear hb
  have hsn' : sn = (recsOf xs ys).length := hsn
  have hU : (scanOf (putAll xs ys)).2 = usedOf xs ys := rfl
  rw [hU]
  clear hU hsn r2
  obtain ⟨uu, huu⟩ : ∃ uu, usedOf xs ys = uu := ⟨_, rfl⟩
  rw [huu] at hu ⊢
  rw [huu] at hfull
  have hi : ¬ (64 : Int) < uu + 2 + n2 := by omega
  have hi2 : ¬ (200 : Int) < n1 + 3 + n2 := by omega
  have hb1 : uu + 2 + n2 ≤ 64 := by omega
  have hb2 : n1 + 3 + n2 ≤ 200 := by omega
  have HW : Hid (appWords xs ys ws = ((n2 : Int) :: sumOf ((sn : Int) :: ws) :: ws) ++ (if uu + 2 + n2 < 64 then [0] else [])) := by
    show appWords xs ys ws = _
    rw [appWords, huu, ← hsn', hl2]
  have HU : Hid _ := huu
  have HSN : Hid _ := hsn'
  clear hfull huu hsn'
  go_wp2_with fail
  refine (l1Copy_any _ _ _ _ _ _ xs ys _ (by exact h0.below B) (by exact h1.below B) hn hm).mono ?_
  rintro e w5 ⟨b0, d0, b1, d1, mid, rfl, m1, m2, r0, hF, hb⟩
  have hmw : w.heap.size + 2 ≤ mid := by omega
  have hm5 : mid ≤ w5.heap.size := m2
  replace r0 := r0.widen (lo' := w.heap.size + 2) (by omega) (Nat.le_refl _)
  replace k0 := cell_later hb k0
  replace k1 := cell_later hb k1
  replace z0 := cell_later hb z0
  replace z1 := cell_later hb z1
  replace z2 := cell_later hb z2
  replace y0 := frozen_later hb hz y0
  replace y1 := frozen_later hb hz y1
  replace y2 := frozen_later hb hz y2
  replace hres := (hb.block _ hz).trans hres
  replace hz := Nat.lt_of_lt_of_le hz hb.size
  replace B := below_next B hb
  clear hb
  clear m1 m2
  have hylen : ys.length = n1 := hl1
  have A5 : Below w5.heap.size w5 (w5.alloc (.cells #[.slice (some b0) 64 d0, .slice (some b1) n1 d1] 27)) := (Below.refl _ _).alloc (Nat.le_refl _) _
  obtain ⟨S, hS⟩ : ∃ S, sumOf ((sn : Int) :: ws) = S := ⟨_, rfl⟩
  have HS : Hid _ := hS
  rw [hS] at HW
  clear hS
  go_wp2_with fail
  refine (l2Sum_is (sn : Int) ⟨bw, fw, none⟩ n2 c2 ws _ (by exact (h2.below B).below A5) (by omega) (by omega) S HS.out).mono ?_
  rintro e w6 ⟨rfl, hb6⟩
  have hbox : w6.heap[w5.heap.size]? = some (.cells #[.slice (some b0) 64 d0, .slice (some b1) n1 d1] 27 (0, 0)) := (hb6.block _ (by simp)).trans (heap_alloc_new _ _)
  have hs6 : w5.heap.size + 1 ≤ w6.heap.size := by have := hb6.size; simpa using this
  have hb := below_next A5 hb6
  clear A5 hb6
  replace k0 := cell_later hb k0
  replace k1 := cell_later hb k1
  replace z0 := cell_later hb z0
  replace z1 := cell_later hb z1
  replace z2 := cell_later hb z2
  replace y0 := frozen_later hb hz y0
  replace y1 := frozen_later hb hz y1
  replace y2 := frozen_later hb hz y2
  replace hres := (hb.block _ hz).trans hres
  replace r0 := r0.below hb
  replace hF := hF.below hb
  replace hz := Nat.lt_of_lt_of_le hz hb.size
  replace B := below_next B hb
  clear hb
  have own6 : (w6.alloc (.cells #[.int .i64 n2, .int .i64 S] 2)).ownsRow w6.heap.size 2 1 (.slice (some ⟨w6.heap.size, 0, none⟩) 2 2) 2 [.int .i64 n2, .int .i64 S] := World.ownsRow_lit w6 #[.int .i64 n2, .int .i64 S] 2 (Nat.le_refl _) (by decide) rfl
  have A6 : Below w6.heap.size w6 (w6.alloc (.cells #[.int .i64 n2, .int .i64 S] 2)) := (Below.refl _ _).alloc (Nat.le_refl _) _
  have R2 := (h2.below B).below A6
  obtain ⟨i0, hi0, hz0, hz1, hz2⟩ := info_parts Try.info2'
  obtain ⟨j0, hj0, hy0, hy1, hy2⟩ := info_parts Try.infoPut
  go_wp2_with (first | (at_builtin; refine wpList_append_own _ rfl _ _ 24 rfl w6.heap.size 2 i0 (.int .i64 0) 1 8 Try.underlying24 hi0 hz0 hz1 hz2 rfl (by decide) _ _ _ rfl own6 ⟨bw, fw, none⟩ n2 c2 (ints ws) rfl ?e0 ?e1 ?e2 ?e3 ?e4 ?e5 ?_))
  case e0 => exact R2.len
  case e1 => exact R2.news (by omega)
  case e2 => exact ints_cell _
  case e3 => unfold maxLen; omega
  case e4 => omega
  case e5 => simp
  intro v7 w7 own7 hgrow7 _
  have hb7 : Below w6.heap.size w6 w7 := A6.grown hgrow7 (by simp) (fun g hg => (own6.lt g hg).1)
  have hs7 := hb7.size
  clear own6 A6 R2 hgrow7
  by_cases h64 : uu + 2 + n2 < 64
  · have hi3 : (uu : Int) + 2 + n2 < 64 := by omega
    obtain ⟨aw, haw⟩ : ∃ aw, appWords xs ys ws = aw := ⟨_, rfl⟩
    have hawl : aw.length = 2 + n2 + 1 := by rw [← haw, HW.out, if_pos h64]; simp [hl2]; omega
    have HAW : Hid (ints aw = ([.int .i64 n2, .int .i64 S] ++ ints ws) ++ [.int .i64 0]) := by
      show ints aw = _
      rw [← haw, HW.out, if_pos h64]; simp [ints]
    have HAE : Hid _ := haw
    clear haw h64
    have own8 := own7.alloc (.cells #[.int .i64 0] 2)
    go_wp2_with (first | (at_builtin; refine wpList_append_own _ rfl _ _ 24 rfl w6.heap.size 2 i0 (.int .i64 0) 1 8 Try.underlying24 hi0 hz0 hz1 hz2 rfl (by decide) _ _ _ rfl own8 ⟨w7.heap.size, 0, none⟩ 1 1 [.int .i64 0] rfl rfl ?e1 ?e2 ?e3 ?e4 ?e5 ?_))
    case e1 =>
      intro j u hj
      match j, hj with
      | 0, hj => simp at hj; subst hj; simp [Addr.add]
    case e2 => intro u hu; simp at hu; subst hu; rfl
    case e3 => unfold maxLen; omega
    case e4 => omega
    case e5 => simp; omega
    intro v8 w8 own9 hgrow8 _
    have hbL : Below w6.heap.size w6 w8 := (hb7.alloc hs7 _).grown hgrow8 (by simp; omega) (fun g hg => (own8.lt g hg).1)
    have ownL : w8.ownsRow w6.heap.size 2 1 v8 (2 + n2 + 1) (ints aw) := by rw [HAW.out]; exact own9
    clear own9 own8 hgrow8 own7 hb7 hs7
    obtain ⟨aoL, capL, rfl, RL⟩ := RowAt.of_owned ownL
    have hsl := hbL.size
    have hbox := (hbL.block _ (by omega)).trans hbox
    replace k0 := cell_later hbL k0
    replace k1 := cell_later hbL k1
    replace z0 := cell_later hbL z0
    replace z1 := cell_later hbL z1
    replace z2 := cell_later hbL z2
    replace y0 := frozen_later hbL hz y0
    replace y1 := frozen_later hbL hz y1
    replace y2 := frozen_later hbL hz y2
    replace hres := (hbL.block _ hz).trans hres
    replace r0 := r0.below hbL
    replace hF := hF.below hbL
    replace hz := Nat.lt_of_lt_of_le hz hbL.size
    replace B := below_next B hbL
    clear hbL
    have D0 : AD w mid w5.heap.size w8.heap.size b0 64 d0 aoL (2 + n2 + 1) capL xs aw w8 (.slice (some b1) n1 d1) (n1 + 0) (ys ++ puts uu (aw.take 0)) := by
      refine ⟨hres, hbox, r0, ?_, RL.widen (by omega) (Nat.le_refl _), B, hmw, hm5, by omega, Nat.le_refl _⟩
      simp only [List.take_zero, puts, List.append_nil, Nat.add_zero]
      rcases hF with ⟨ea, eb, g, ec⟩ | ⟨h, h'⟩
      · exact Or.inl ⟨ea, List.eq_nil_of_length_eq_zero (by omega), g, ec⟩
      · exact Or.inr ⟨h, fun k hk => Or.inl (h' k hk)⟩
    clear hF hres hbox r0 RL ownL k0 k1 z0 z1 z2 y0 y1 y2 hz B
    have hsz2 : 0 < 2 := by omega
    have hyj : (Value.agg #[.int .i64 0, .int .i64 0]).cells.size = j0.size := by rw [hy1]; rfl
    have hb16 : 16 ≤ 1048576 := by omega
    go_wp2_with fail
    go_loopw [12] (fun i wr => ∃ (k : Nat) (v : Value), k ≤ (2 + n2 + 1) ∧ i = .int .i64 k ∧ AD w mid w5.heap.size w8.heap.size b0 64 d0 aoL (2 + n2 + 1) capL xs aw wr v (n1 + k) (ys ++ puts uu (aw.take k))) (fun i _ => (2 + n2 + 1) - (intOf i).toNat)
    case atStart => exact ⟨0, _, by omega, rfl, D0⟩
    case round =>
      obtain ⟨k, v, hk, rfl, D⟩ := hrel
      clear D0
      by_cases hlt : k < (2 + n2 + 1)
      · have hlk : (k : Int) < (((2 + n2 + 1) : Nat) : Int) := by omega
        have hps := puts_snoc aw uu k (by omega)
        have D' := D.move (Below.refl _ _).drew
        obtain ⟨ba, fa, rfl, _, _, _, ca, _⟩ := D'.all.int hlt
        have hN := D.h4
        have hM := Nat.le_trans D.h2 (Nat.le_of_lt (Nat.lt_of_lt_of_le D.h3 D.h4))
        generalize aw.getD k 0 = X at *
        have D1 : AD w mid w5.heap.size w8.heap.size b0 64 d0 _ (2 + n2 + 1) capL xs aw (wr.alloc (.cells #[.int .i64 ((uu : Int) + k), .int .i64 X] 41)) v (n1 + k) (ys ++ puts uu (aw.take k)) := D.move ((Below.refl _ _).alloc (Nat.le_refl _) _)
        have D2 : AD w mid w5.heap.size w8.heap.size b0 64 d0 _ (2 + n2 + 1) capL xs aw (wr.alloc (.cells #[.int .i64 ((uu : Int) + k), .int .i64 X] 41)).drew v (n1 + k) (ys ++ puts uu (aw.take k)) := D1.move (Below.refl _ _).drew
        have rw4 : RowAt (wr.alloc (.cells #[.int .i64 ((uu : Int) + k), .int .i64 X] 41)).drew true wr.heap.size (wr.heap.size + 1) 2 (some ⟨wr.heap.size, 0, none⟩) 1 1 (pairs [((uu : Int) + k, X)]) := (row_two wr 41 ((uu : Int) + k) X).below (Below.refl _ _).drew
        have cc1 := D'.c1
        have cc2 := D1.c1
        have hN2 : w8.heap.size ≤ (wr.alloc (.cells #[.int .i64 ((uu : Int) + k), .int .i64 X] 41)).drew.heap.size := D2.h4
        have hM2 : mid ≤ (wr.alloc (.cells #[.int .i64 ((uu : Int) + k), .int .i64 X] 41)).drew.heap.size := Nat.le_trans D2.h2 (Nat.le_of_lt (Nat.lt_of_lt_of_le D2.h3 D2.h4))
        have hn63 : n1 + k + 1 ≤ 1048576 := by omega
        have q9 : IntKind.i64.wrap ((uu : Int) + k) = (uu : Int) + k := wrapI_same _ (by omega)
        have HPS : Hid _ := hps
        clear hps D D1 D'
        go_wp2_with fail
        have T := fun ops dst type pos after a K Q E s x => step_append_loose (P := Try.prog) (ops := ops) (dst := dst) (type := type) (pos := pos) (after := after) (a := a) (K := K) (Q := Q) (E := E) (s := s) (x := x) 25 j0 (.agg #[.int .i64 0, .int .i64 0]) 16 Try.underlying25 hj0 hy0 hy1 hy2 hyj mid w5.heap.size w8.heap.size v (n1 + k) (ys ++ puts uu (aw.take k)) D2.cache hM2 hN2 _ 1 ((uu : Int) + k, X) rw4 hn63 hb16
        have HT : Hid _ := T
        clear T
        go_region_law (first | ((with_reducible refine HT.out _ _ _ _ _ _ _ _ _ _ _ ?_ ?_ ?_); rfl; rfl; intro v5 wz O5 P5 G5; obtain ⟨ao5, cap5, rfl, -⟩ := RowAt.of_owned O5; have D5 := D2.put O5 P5 G5; obtain ⟨c5, f5⟩ := D2.held G5))
        all_goals
          go_wp2
          go_roundw
          case rel => exact ⟨k + 1, _, by omega, by go_num, by rw [HPS.out, ← List.append_assoc]; exact D5⟩
          case measure => simp [intOf]; omega
      · obtain rfl : k = (2 + n2 + 1) := by omega
        have c0' := D.c0
        have c1' := D.c1
        have f0' := D.f0 0
        have f1' := D.f0 1
        have r0' := D.r0
        have r1' := D.r1
        have r2' := D.r2
        have y0' := D.rf 0
        have y1' := D.rf 1
        have y2' := D.rf 2
        have hbel := D.below
        have hwd := D.words
        have hh1 := D.h1
        have hh2 := D.h2
        have hh3 := D.h3
        have hh4 := D.h4
        have htk : aw.take (2 + n2 + 1) = aw := List.take_of_length_le (by omega)
        rcases D.cache with ⟨e0, _, _⟩ | ⟨hca, _⟩
        · exact absurd e0 (by omega)
        rw [htk] at hca
        obtain ⟨ac5, cc5, rfl, RC⟩ := RowAt.of_owned hca
        have hlk : ¬ ((((2 + n2 + 1) : Nat) : Int) < (((2 + n2 + 1) : Nat) : Int)) := by omega
        clear D hca htk
        go_wp2
        refine bodyPost_ret (v := .agg #[.int .i64 0, .slice (some b0) 64 d0, .slice ac5 (n1 + (2 + n2 + 1)) cc5]) (by simp [results, Try.results55, go_sem, r0', r1', r2']) rfl ⟨_, _, _, _, _, _, rfl, ⟨mid, ?_, ?_, RowAt.widen (RowAt.kept hwd (l := w.heap.size + 1) (u := w.heap.size + 2) ?_ ?_) ?_ ?_, ?_⟩, ?_⟩
        · omega
        · simp; omega
        · refine Kept.setCell (Kept.setCell (Kept.setCell (Kept.refl _ _ _) ?_ ?_ _) ?_ ?_ _) ?_ ?_ _ <;> simp
        · omega
        · omega
        · omega
        · rw [HU.out, HAE.out]
          refine RowAt.widen (RowAt.kept RC (l := w.heap.size + 1) (u := w.heap.size + 2) ?_ ?_) ?_ ?_
          · refine Kept.setCell (Kept.setCell (Kept.setCell (Kept.refl _ _ _) ?_ ?_ _) ?_ ?_ _) ?_ ?_ _ <;> simp
          · omega
          · omega
          · simp
        · refine Below.setCell (Below.setCell (Below.setCell hbel ?_ _) ?_ _) ?_ _ <;> simp
  · have hi3 : ¬ (uu : Int) + 2 + n2 < 64 := by omega
    obtain ⟨aw, haw⟩ : ∃ aw, appWords xs ys ws = aw := ⟨_, rfl⟩
    have hawl : aw.length = 2 + n2 := by rw [← haw, HW.out, if_neg h64]; simp [hl2]; omega
    have HAW : Hid (ints aw = [.int .i64 n2, .int .i64 S] ++ ints ws) := by
      show ints aw = _
      rw [← haw, HW.out, if_neg h64]; simp [ints]
    have HAE : Hid _ := haw
    clear haw h64
    have hbL := hb7
    have ownL : w7.ownsRow w6.heap.size 2 1 v7 (2 + n2) (ints aw) := by rw [HAW.out]; exact own7
    clear own7 hb7 hs7
    obtain ⟨aoL, capL, rfl, RL⟩ := RowAt.of_owned ownL
    have hsl := hbL.size
    have hbox := (hbL.block _ (by omega)).trans hbox
    replace k0 := cell_later hbL k0
    replace k1 := cell_later hbL k1
    replace z0 := cell_later hbL z0
    replace z1 := cell_later hbL z1
    replace z2 := cell_later hbL z2
    replace y0 := frozen_later hbL hz y0
    replace y1 := frozen_later hbL hz y1
    replace y2 := frozen_later hbL hz y2
    replace hres := (hbL.block _ hz).trans hres
    replace r0 := r0.below hbL
    replace hF := hF.below hbL
    replace hz := Nat.lt_of_lt_of_le hz hbL.size
    replace B := below_next B hbL
    clear hbL
    have D0 : AD w mid w5.heap.size w7.heap.size b0 64 d0 aoL (2 + n2) capL xs aw w7 (.slice (some b1) n1 d1) (n1 + 0) (ys ++ puts uu (aw.take 0)) := by
      refine ⟨hres, hbox, r0, ?_, RL.widen (by omega) (Nat.le_refl _), B, hmw, hm5, by omega, Nat.le_refl _⟩
      simp only [List.take_zero, puts, List.append_nil, Nat.add_zero]
      rcases hF with ⟨ea, eb, g, ec⟩ | ⟨h, h'⟩
      · exact Or.inl ⟨ea, List.eq_nil_of_length_eq_zero (by omega), g, ec⟩
      · exact Or.inr ⟨h, fun k hk => Or.inl (h' k hk)⟩
    clear hF hres hbox r0 RL ownL k0 k1 z0 z1 z2 y0 y1 y2 hz B
    have hsz2 : 0 < 2 := by omega
    have hyj : (Value.agg #[.int .i64 0, .int .i64 0]).cells.size = j0.size := by rw [hy1]; rfl
    have hb16 : 16 ≤ 1048576 := by omega
    go_wp2_with fail
    go_loopw [12] (fun i wr => ∃ (k : Nat) (v : Value), k ≤ (2 + n2) ∧ i = .int .i64 k ∧ AD w mid w5.heap.size w7.heap.size b0 64 d0 aoL (2 + n2) capL xs aw wr v (n1 + k) (ys ++ puts uu (aw.take k))) (fun i _ => (2 + n2) - (intOf i).toNat)
    case atStart => exact ⟨0, _, by omega, rfl, D0⟩
    case round =>
      obtain ⟨k, v, hk, rfl, D⟩ := hrel
      clear D0
      by_cases hlt : k < (2 + n2)
      · have hlk : (k : Int) < (((2 + n2) : Nat) : Int) := by omega
        have hps := puts_snoc aw uu k (by omega)
        have D' := D.move (Below.refl _ _).drew
        obtain ⟨ba, fa, rfl, _, _, _, ca, _⟩ := D'.all.int hlt
        have hN := D.h4
        have hM := Nat.le_trans D.h2 (Nat.le_of_lt (Nat.lt_of_lt_of_le D.h3 D.h4))
        generalize aw.getD k 0 = X at *
        have D1 : AD w mid w5.heap.size w7.heap.size b0 64 d0 _ (2 + n2) capL xs aw (wr.alloc (.cells #[.int .i64 ((uu : Int) + k), .int .i64 X] 41)) v (n1 + k) (ys ++ puts uu (aw.take k)) := D.move ((Below.refl _ _).alloc (Nat.le_refl _) _)
        have D2 : AD w mid w5.heap.size w7.heap.size b0 64 d0 _ (2 + n2) capL xs aw (wr.alloc (.cells #[.int .i64 ((uu : Int) + k), .int .i64 X] 41)).drew v (n1 + k) (ys ++ puts uu (aw.take k)) := D1.move (Below.refl _ _).drew
        have rw4 : RowAt (wr.alloc (.cells #[.int .i64 ((uu : Int) + k), .int .i64 X] 41)).drew true wr.heap.size (wr.heap.size + 1) 2 (some ⟨wr.heap.size, 0, none⟩) 1 1 (pairs [((uu : Int) + k, X)]) := (row_two wr 41 ((uu : Int) + k) X).below (Below.refl _ _).drew
        have cc1 := D'.c1
        have cc2 := D1.c1
        have hN2 : w7.heap.size ≤ (wr.alloc (.cells #[.int .i64 ((uu : Int) + k), .int .i64 X] 41)).drew.heap.size := D2.h4
        have hM2 : mid ≤ (wr.alloc (.cells #[.int .i64 ((uu : Int) + k), .int .i64 X] 41)).drew.heap.size := Nat.le_trans D2.h2 (Nat.le_of_lt (Nat.lt_of_lt_of_le D2.h3 D2.h4))
        have hn63 : n1 + k + 1 ≤ 1048576 := by omega
        have q9 : IntKind.i64.wrap ((uu : Int) + k) = (uu : Int) + k := wrapI_same _ (by omega)
        have HPS : Hid _ := hps
        clear hps D D1 D'
        go_wp2_with fail
        have T := fun ops dst type pos after a K Q E s x => step_append_loose (P := Try.prog) (ops := ops) (dst := dst) (type := type) (pos := pos) (after := after) (a := a) (K := K) (Q := Q) (E := E) (s := s) (x := x) 25 j0 (.agg #[.int .i64 0, .int .i64 0]) 16 Try.underlying25 hj0 hy0 hy1 hy2 hyj mid w5.heap.size w7.heap.size v (n1 + k) (ys ++ puts uu (aw.take k)) D2.cache hM2 hN2 _ 1 ((uu : Int) + k, X) rw4 hn63 hb16
        have HT : Hid _ := T
        clear T
        go_region_law (first | ((with_reducible refine HT.out _ _ _ _ _ _ _ _ _ _ _ ?_ ?_ ?_); rfl; rfl; intro v5 wz O5 P5 G5; obtain ⟨ao5, cap5, rfl, -⟩ := RowAt.of_owned O5; have D5 := D2.put O5 P5 G5; obtain ⟨c5, f5⟩ := D2.held G5))
        all_goals
          go_wp2
          go_roundw
          case rel => exact ⟨k + 1, _, by omega, by go_num, by rw [HPS.out, ← List.append_assoc]; exact D5⟩
          case measure => simp [intOf]; omega
      · obtain rfl : k = (2 + n2) := by omega
        have c0' := D.c0
        have c1' := D.c1
        have f0' := D.f0 0
        have f1' := D.f0 1
        have r0' := D.r0
        have r1' := D.r1
        have r2' := D.r2
        have y0' := D.rf 0
        have y1' := D.rf 1
        have y2' := D.rf 2
        have hbel := D.below
        have hwd := D.words
        have hh1 := D.h1
        have hh2 := D.h2
        have hh3 := D.h3
        have hh4 := D.h4
        have htk : aw.take (2 + n2) = aw := List.take_of_length_le (by omega)
        rcases D.cache with ⟨e0, _, _⟩ | ⟨hca, _⟩
        · exact absurd e0 (by omega)
        rw [htk] at hca
        obtain ⟨ac5, cc5, rfl, RC⟩ := RowAt.of_owned hca
        have hlk : ¬ ((((2 + n2) : Nat) : Int) < (((2 + n2) : Nat) : Int)) := by omega
        clear D hca htk
        go_wp2
        refine bodyPost_ret (v := .agg #[.int .i64 0, .slice (some b0) 64 d0, .slice ac5 (n1 + (2 + n2)) cc5]) (by simp [results, Try.results55, go_sem, r0', r1', r2']) rfl ⟨_, _, _, _, _, _, rfl, ⟨mid, ?_, ?_, RowAt.widen (RowAt.kept hwd (l := w.heap.size + 1) (u := w.heap.size + 2) ?_ ?_) ?_ ?_, ?_⟩, ?_⟩
        · omega
        · simp; omega
        · refine Kept.setCell (Kept.setCell (Kept.setCell (Kept.refl _ _ _) ?_ ?_ _) ?_ ?_ _) ?_ ?_ _ <;> simp
        · omega
        · omega
        · omega
        · rw [HU.out, HAE.out]
          refine RowAt.widen (RowAt.kept RC (l := w.heap.size + 1) (u := w.heap.size + 2) ?_ ?_) ?_ ?_
          · refine Kept.setCell (Kept.setCell (Kept.setCell (Kept.refl _ _ _) ?_ ?_ _) ?_ ?_ _) ?_ ?_ _ <;> simp
          · omega
          · omega
          · simp
        · refine Below.setCell (Below.setCell (Below.setCell hbel ?_ _) ?_ _) ?_ _ <;> simp

end Go.Proofs.Ytkpbmffklcgecaa
