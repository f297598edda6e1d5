/- Chapter 8: an entry out of its words, by the program: what cannot be read is a panic that is recovered. -/
import Derived.Test.YtpbhiednmnolgaaEX
import Derived.Test.YtpbhiednmnolgaaH5
import Derived.WalkLawsBesides
import Derived.Defers
import Derived.Recover
import Derived.Laws.Pointers
namespace Go.Proofs.Ytpbhiednmnolgaa
open Go.RowKit

def panV : Value := .iface 9 (.string ⟨#[119, 111, 114, 100, 115, 32, 116, 104, 97, 116, 32, 99, 97, 110, 110, 111, 116, 32, 98, 101, 32, 114, 101, 97, 100]⟩)
theorem mustRead_yes (w : World) : Calls Try.prog 76 #[.bool true] w fun e w' => e = .returned (.tuple #[]) ∧ w' = w := by
  go_enter Try.func76, Try.ntmps76
  go_wp2
  go_end0
  exact ⟨rfl, rfl⟩
theorem mustRead_no (w : World) : Calls Try.prog 76 #[.bool false] w fun e w' => e = .panicked [{ v := panV, recovered := false }] ∧ w' = w := by
  unfold panV
  go_enter Try.func76, Try.ntmps76
  go_wp2
  exact ⟨rfl, rfl, rfl⟩
set_option maxRecDepth 20000 in
set_option maxHeartbeats 4000000 in
theorem readEntry_is {o : Bool} {l u : Nat} (ao : Option Addr) (n c : Nat) (xs : List Int) (w : World) (h : RowAt w o l u 1 ao n c (ints xs)) (cd y0 y1 y2 y3 y4 y5 : Int) (hr : unER xs = (cd, y0, y1, y2, y3, y4, y5)) : Calls Try.prog 53 #[.slice ao n c] w fun e w' => (if cd = 0 then e = .returned (.agg #[.int .i64 y0, .int .i64 y1, .int .i64 y2, .int .i64 y3, .int .i64 y4, .int .i64 y5]) else e = .panicked [{ v := panV, recovered := false }]) ∧ Below w.heap.size w w' := by
  have hxl := h.nInts
  have HR : Hid _ := hr
  clear hr
  by_cases h5 : n = 5
  rotate_left 1
  · have hn5 : ((n : Int) == 5) = false := by simp; omega
    have HB : (5, en0) = (cd, y0, y1, y2, y3, y4, y5) := by rw [← HR.out, unER_len (by omega)]
    have hc : cd = 5 := by injection HB with q _; exact q.symm
    subst hc
    clear HR HB
    go_enter Try.func53, Try.ntmps53
    go_wp2_with (first | ((with_reducible refine alloc_new 29 #[.int .i64 0, .int .i64 0, .int .i64 0, .int .i64 0, .int .i64 0, .int .i64 0] (fun _ => by kernel_rfl) ?_); intro b0 W0 N0; have O0 : Hid (w.heap.size ≤ b0) := N0.ge; have B := N0.below; have H0 : Hid (b0 < W0.heap.size) := N0.lt; have c0_0 : W0.cell? ⟨b0, 0, none⟩ = some (.int .i64 0) := N0.cell 0 _ rfl; have c0_1 : W0.cell? ⟨b0, 1, none⟩ = some (.int .i64 0) := N0.cell 1 _ rfl; have c0_2 : W0.cell? ⟨b0, 2, none⟩ = some (.int .i64 0) := N0.cell 2 _ rfl; have c0_3 : W0.cell? ⟨b0, 3, none⟩ = some (.int .i64 0) := N0.cell 3 _ rfl; have c0_4 : W0.cell? ⟨b0, 4, none⟩ = some (.int .i64 0) := N0.cell 4 _ rfl; have c0_5 : W0.cell? ⟨b0, 5, none⟩ = some (.int .i64 0) := N0.cell 5 _ rfl; have y0_0 : W0.frozen? ⟨b0, 0, none⟩ = false := N0.froz 0; have y0_1 : W0.frozen? ⟨b0, 1, none⟩ = false := N0.froz 1; have y0_2 : W0.frozen? ⟨b0, 2, none⟩ = false := N0.froz 2; have y0_3 : W0.frozen? ⟨b0, 3, none⟩ = false := N0.froz 3; have y0_4 : W0.frozen? ⟨b0, 4, none⟩ = false := N0.froz 4; have y0_5 : W0.frozen? ⟨b0, 5, none⟩ = false := N0.froz 5; clear N0) | fail)
    refine (mustRead_no _).mono ?_
    rintro e W ⟨rfl, rfl⟩
    exact ⟨rfl, by rw [if_neg (by decide)], B⟩
  subst h5
  obtain ⟨b, off, rfl, _, _, hbs, g4, _⟩ := h.cells (by omega)
  have G : ∀ k, k < 5 → w.cell? ⟨b, off + k, none⟩ = some (.int .i64 (xs.getD k 0)) := fun k hk => by rw [g4 k (by omega), ints_getD xs k (by omega)]
  have HG : Hid _ := G
  clear G g4
  have hle := h.le
  go_enter Try.func53, Try.ntmps53
  go_wp2_with (first | ((with_reducible refine alloc_new 29 #[.int .i64 0, .int .i64 0, .int .i64 0, .int .i64 0, .int .i64 0, .int .i64 0] (fun _ => by kernel_rfl) ?_); intro b0 W0 N0; have O0 : Hid (w.heap.size ≤ b0) := N0.ge; have B := N0.below; have H0 : Hid (b0 < W0.heap.size) := N0.lt; have c0_0 : W0.cell? ⟨b0, 0, none⟩ = some (.int .i64 0) := N0.cell 0 _ rfl; have c0_1 : W0.cell? ⟨b0, 1, none⟩ = some (.int .i64 0) := N0.cell 1 _ rfl; have c0_2 : W0.cell? ⟨b0, 2, none⟩ = some (.int .i64 0) := N0.cell 2 _ rfl; have c0_3 : W0.cell? ⟨b0, 3, none⟩ = some (.int .i64 0) := N0.cell 3 _ rfl; have c0_4 : W0.cell? ⟨b0, 4, none⟩ = some (.int .i64 0) := N0.cell 4 _ rfl; have c0_5 : W0.cell? ⟨b0, 5, none⟩ = some (.int .i64 0) := N0.cell 5 _ rfl; have y0_0 : W0.frozen? ⟨b0, 0, none⟩ = false := N0.froz 0; have y0_1 : W0.frozen? ⟨b0, 1, none⟩ = false := N0.froz 1; have y0_2 : W0.frozen? ⟨b0, 2, none⟩ = false := N0.froz 2; have y0_3 : W0.frozen? ⟨b0, 3, none⟩ = false := N0.froz 3; have y0_4 : W0.frozen? ⟨b0, 4, none⟩ = false := N0.froz 4; have y0_5 : W0.frozen? ⟨b0, 5, none⟩ = false := N0.froz 5; clear N0) | fail)
  refine (mustRead_yes _).mono ?_
  rintro e W ⟨rfl, rfl⟩
  go_wp2
  go_loopw [4, 14] (fun _ i wr => ∃ k : Nat, k ≤ 5 ∧ i = .int .i64 k ∧ Hid (∀ j, j < k → wordB (xs.getD j 0) = true) ∧ wr = W) (fun _ i _ => 5 - (intOf i).toNat)
  case atStart => exact ⟨0, Nat.zero_le _, rfl, fun j hj => absurd hj (Nat.not_lt_zero _), rfl⟩
  case round =>
    obtain ⟨k, hk, rfl, HW, rfl⟩ := hrel
    by_cases hlt : k < 5
    · have hlk : (k : Int) < 5 := by omega
      have e0 := cell_later B (HG.out k hlt)
      obtain ⟨d, hd⟩ : ∃ d, wordB (xs.getD k 0) = d := ⟨_, rfl⟩
      have HD : Hid _ := hd
      clear hd
      generalize hx : xs.getD k 0 = xk at *
      go_wp2_with fail
      refine (isWord_is xk _ d HD.out).mono ?_
      rintro e W2 ⟨rfl, rfl⟩
      go_wp2_with fail
      cases d with
      | true =>
        have HW' : Hid (∀ j, j < k + 1 → wordB (xs.getD j 0) = true) := fun j hj => by
          rcases Nat.lt_succ_iff_lt_or_eq.1 hj with q | q
          · exact HW.out j q
          · rw [q, hx]; exact HD.out
        clear HW HD
        refine (mustRead_yes _).mono ?_
        rintro e W3 ⟨rfl, rfl⟩
        go_wp2
        go_roundw
        case rel => exact ⟨k + 1, by omega, by go_num, HW', by first | rfl | trivial⟩
        case measure => simp [intOf]; omega
      | false =>
        have HB : (5, en0) = (cd, y0, y1, y2, y3, y4, y5) := by rw [← HR.out, unER_word (k := k) (by omega) (by rw [hx]; exact HD.out)]
        have hc : cd = 5 := by injection HB with q _; exact q.symm
        subst hc
        clear HR HD HW
        refine (mustRead_no _).mono ?_
        rintro e W3 ⟨rfl, rfl⟩
        exact ⟨rfl, by rw [if_neg (by decide)], B⟩
    · obtain rfl : k = 5 := by omega
      have HE : Hid _ := unER_all hxl HW.out
      have W2 := word_of (HW.out 2 (by omega))
      have e0 := HG.out 0 (by omega)
      have e1 := HG.out 1 (by omega)
      have e2 := HG.out 2 (by omega)
      have e3 := HG.out 3 (by omega)
      have e4 := HG.out 4 (by omega)
      unfold unX at HE
      clear HW HG
      generalize xs.getD 0 0 = x0 at *
      generalize xs.getD 1 0 = x1 at *
      generalize xs.getD 2 0 = x2 at *
      generalize xs.getD 3 0 = x3 at *
      generalize xs.getD 4 0 = x4 at *
      obtain ⟨w1, w2⟩ := wrap_word W2
      obtain ⟨cd', hcd⟩ : ∃ cd', enFault (x0, x1, x2.tdiv 256, x2.tmod 256, x3, x4) = cd' := ⟨_, rfl⟩
      rw [hcd] at HE
      have HC : Hid _ := hcd
      clear hcd W2
      simp only [Nat.add_zero] at e0
      replace e0 := cell_later B e0
      replace e1 := cell_later B e1
      replace e2 := cell_later B e2
      replace e3 := cell_later B e3
      replace e4 := cell_later B e4
      go_wp2_with fail
      have D : Below wr.heap.size wr wr.drew := (Below.refl _ _).drew
      have ge3 := cell_later D e3
      have ge4 := cell_later D e4
      clear D
      go_region_held3 (fun w' => w'.cell? ⟨b, off + 3, none⟩ = some (.int .i64 x3) ∧ w'.cell? ⟨b, off + 4, none⟩ = some (.int .i64 x4)) (first | with_reducible exact ⟨ge3, ge4⟩ | exact ⟨cell_later ((Below.refl _ _).alloc (Nat.le_refl _) _) ge3, cell_later ((Below.refl _ _).alloc (Nat.le_refl _) _) ge4⟩) (fail)
      clear ge3 ge4
      have A : Below wr.heap.size wr (wr.alloc (.cells #[.int .i64 (x2.tdiv 256), .int .i64 (x2.tmod 256), .int .i64 x3, .int .i64 x4] 27)).drew := ((Below.refl _ _).alloc (Nat.le_refl _) _).drew
      have n0 : (wr.alloc (.cells #[.int .i64 (x2.tdiv 256), .int .i64 (x2.tmod 256), .int .i64 x3, .int .i64 x4] 27)).drew.cell? ⟨wr.heap.size, 0, none⟩ = some (.int .i64 (x2.tdiv 256)) := by simp
      have n1 : (wr.alloc (.cells #[.int .i64 (x2.tdiv 256), .int .i64 (x2.tmod 256), .int .i64 x3, .int .i64 x4] 27)).drew.cell? ⟨wr.heap.size, 1, none⟩ = some (.int .i64 (x2.tmod 256)) := by simp
      have n2 : (wr.alloc (.cells #[.int .i64 (x2.tdiv 256), .int .i64 (x2.tmod 256), .int .i64 x3, .int .i64 x4] 27)).drew.cell? ⟨wr.heap.size, 2, none⟩ = some (.int .i64 x3) := by simp
      have n3 : (wr.alloc (.cells #[.int .i64 (x2.tdiv 256), .int .i64 (x2.tmod 256), .int .i64 x3, .int .i64 x4] 27)).drew.cell? ⟨wr.heap.size, 3, none⟩ = some (.int .i64 x4) := by simp
      clear e2 e3 e4
      replace c0_0 := cell_later A c0_0
      replace y0_0 := frozen_later A H0.out y0_0
      replace c0_1 := cell_later A c0_1
      replace y0_1 := frozen_later A H0.out y0_1
      replace c0_2 := cell_later A c0_2
      replace y0_2 := frozen_later A H0.out y0_2
      replace c0_3 := cell_later A c0_3
      replace y0_3 := frozen_later A H0.out y0_3
      replace c0_4 := cell_later A c0_4
      replace y0_4 := frozen_later A H0.out y0_4
      replace c0_5 := cell_later A c0_5
      replace y0_5 := frozen_later A H0.out y0_5
      replace e0 := cell_later A e0
      replace e1 := cell_later A e1
      replace H0 : Hid _ := Nat.lt_of_lt_of_le H0.out A.size
      replace B := below_next B A
      clear A
      generalize wr.heap.size = b2 at *
      generalize (wr.alloc (.cells #[.int .i64 (x2.tdiv 256), .int .i64 (x2.tmod 256), .int .i64 x3, .int .i64 x4] 27)).drew = W5 at *
      generalize x2.tdiv 256 = q1 at *
      generalize x2.tmod 256 = q2 at *
      go_wp2_with fail
      have D : Below W5.heap.size W5 W5.drew := (Below.refl _ _).drew
      have ge0 := cell_later D e0
      have ge1 := cell_later D e1
      have gn0 := cell_later D n0
      have gn1 := cell_later D n1
      have gn2 := cell_later D n2
      have gn3 := cell_later D n3
      clear D
      clear n0
      clear n1
      clear n2
      clear n3
      go_region_held3 (fun w' => w'.cell? ⟨b, off, none⟩ = some (.int .i64 x0) ∧ w'.cell? ⟨b, off + 1, none⟩ = some (.int .i64 x1) ∧ w'.cell? ⟨b2, 0, none⟩ = some (.int .i64 q1) ∧ w'.cell? ⟨b2, 1, none⟩ = some (.int .i64 q2) ∧ w'.cell? ⟨b2, 2, none⟩ = some (.int .i64 x3) ∧ w'.cell? ⟨b2, 3, none⟩ = some (.int .i64 x4)) (first | with_reducible exact ⟨ge0, ge1, gn0, gn1, gn2, gn3⟩ | exact ⟨cell_later ((Below.refl _ _).alloc (Nat.le_refl _) _) ge0, cell_later ((Below.refl _ _).alloc (Nat.le_refl _) _) ge1, cell_later ((Below.refl _ _).alloc (Nat.le_refl _) _) gn0, cell_later ((Below.refl _ _).alloc (Nat.le_refl _) _) gn1, cell_later ((Below.refl _ _).alloc (Nat.le_refl _) _) gn2, cell_later ((Below.refl _ _).alloc (Nat.le_refl _) _) gn3⟩) (fail)
      clear ge0 ge1 gn0 gn1 gn2 gn3
      have A : Below W5.heap.size W5 (W5.alloc (.cells #[.int .i64 x0, .int .i64 x1, .int .i64 q1, .int .i64 q2, .int .i64 x3, .int .i64 x4] 29)).drew := ((Below.refl _ _).alloc (Nat.le_refl _) _).drew
      have m0 : (W5.alloc (.cells #[.int .i64 x0, .int .i64 x1, .int .i64 q1, .int .i64 q2, .int .i64 x3, .int .i64 x4] 29)).drew.cell? ⟨W5.heap.size, 0, none⟩ = some (.int .i64 x0) := by simp
      have m1 : (W5.alloc (.cells #[.int .i64 x0, .int .i64 x1, .int .i64 q1, .int .i64 q2, .int .i64 x3, .int .i64 x4] 29)).drew.cell? ⟨W5.heap.size, 1, none⟩ = some (.int .i64 x1) := by simp
      have m2 : (W5.alloc (.cells #[.int .i64 x0, .int .i64 x1, .int .i64 q1, .int .i64 q2, .int .i64 x3, .int .i64 x4] 29)).drew.cell? ⟨W5.heap.size, 2, none⟩ = some (.int .i64 q1) := by simp
      have m3 : (W5.alloc (.cells #[.int .i64 x0, .int .i64 x1, .int .i64 q1, .int .i64 q2, .int .i64 x3, .int .i64 x4] 29)).drew.cell? ⟨W5.heap.size, 3, none⟩ = some (.int .i64 q2) := by simp
      have m4 : (W5.alloc (.cells #[.int .i64 x0, .int .i64 x1, .int .i64 q1, .int .i64 q2, .int .i64 x3, .int .i64 x4] 29)).drew.cell? ⟨W5.heap.size, 4, none⟩ = some (.int .i64 x3) := by simp
      have m5 : (W5.alloc (.cells #[.int .i64 x0, .int .i64 x1, .int .i64 q1, .int .i64 q2, .int .i64 x3, .int .i64 x4] 29)).drew.cell? ⟨W5.heap.size, 5, none⟩ = some (.int .i64 x4) := by simp
      clear e0 e1
      replace c0_0 := cell_later A c0_0
      replace y0_0 := frozen_later A H0.out y0_0
      replace c0_1 := cell_later A c0_1
      replace y0_1 := frozen_later A H0.out y0_1
      replace c0_2 := cell_later A c0_2
      replace y0_2 := frozen_later A H0.out y0_2
      replace c0_3 := cell_later A c0_3
      replace y0_3 := frozen_later A H0.out y0_3
      replace c0_4 := cell_later A c0_4
      replace y0_4 := frozen_later A H0.out y0_4
      replace c0_5 := cell_later A c0_5
      replace y0_5 := frozen_later A H0.out y0_5
      replace H0 : Hid _ := Nat.lt_of_lt_of_le H0.out A.size
      replace B := below_next B A
      clear A
      generalize W5.heap.size = b3 at *
      generalize (W5.alloc (.cells #[.int .i64 x0, .int .i64 x1, .int .i64 q1, .int .i64 q2, .int .i64 x3, .int .i64 x4] 29)).drew = W6 at *
      go_wp2_with fail
      refine (implEF_is x0 x1 q1 q2 x3 x4 _ cd' HC.out).mono ?_
      rintro e w6 ⟨rfl, B6⟩
      replace c0_0 := cell_later B6 c0_0
      replace y0_0 := frozen_later B6 H0.out y0_0
      replace c0_1 := cell_later B6 c0_1
      replace y0_1 := frozen_later B6 H0.out y0_1
      replace c0_2 := cell_later B6 c0_2
      replace y0_2 := frozen_later B6 H0.out y0_2
      replace c0_3 := cell_later B6 c0_3
      replace y0_3 := frozen_later B6 H0.out y0_3
      replace c0_4 := cell_later B6 c0_4
      replace y0_4 := frozen_later B6 H0.out y0_4
      replace c0_5 := cell_later B6 c0_5
      replace y0_5 := frozen_later B6 H0.out y0_5
      replace m0 := cell_later B6 m0
      replace m1 := cell_later B6 m1
      replace m2 := cell_later B6 m2
      replace m3 := cell_later B6 m3
      replace m4 := cell_later B6 m4
      replace m5 := cell_later B6 m5
      replace H0 : Hid _ := Nat.lt_of_lt_of_le H0.out B6.size
      replace B := below_next B B6
      clear B6
      by_cases z : cd' = 0
      · subst z
        have HB : (0, x0, x1, q1, q2, x3, x4) = (cd, y0, y1, y2, y3, y4, y5) := by rw [← HR.out, HE.out, if_pos rfl]
        clear HR HE HC
        simp only [Prod.mk.injEq] at HB
        obtain ⟨rfl, rfl, rfl, rfl, rfl, rfl, rfl⟩ := HB
        go_wp2_with fail
        refine (mustRead_yes _).mono ?_
        rintro e W ⟨rfl, rfl⟩
        go_wp2
        refine bodyPost_ret (v := .agg #[.int .i64 x0, .int .i64 x1, .int .i64 q1, .int .i64 q2, .int .i64 x3, .int .i64 x4]) (by simp [results, Try.results53, go_sem, c0_0, c0_1, c0_2, c0_3, c0_4, c0_5]) rfl ?_
        have KZ : Kept b0 (b0 + 1) W ((((((W.setCell ⟨b0, 0, none⟩ (.int .i64 x0)).setCell ⟨b0, 1, none⟩ (.int .i64 x1)).setCell ⟨b0, 2, none⟩ (.int .i64 q1)).setCell ⟨b0, 3, none⟩ (.int .i64 q2)).setCell ⟨b0, 4, none⟩ (.int .i64 x3)).setCell ⟨b0, 5, none⟩ (.int .i64 x4)) := by refine Kept.setCell (Kept.setCell (Kept.setCell (Kept.setCell (Kept.setCell (Kept.setCell (Kept.refl _ _ _) ?_ ?_ _) ?_ ?_ _) ?_ ?_ _) ?_ ?_ _) ?_ ?_ _) ?_ ?_ _ <;> simp
        exact ⟨by first | rfl | rw [if_pos rfl], B.trans (KZ.below _ O0.out B.size)⟩
      · have hz : (cd' == 0) = false := by simp [z]
        have HB : (5, en0) = (cd, y0, y1, y2, y3, y4, y5) := by rw [← HR.out, HE.out, if_neg z]
        have hc : cd = 5 := by injection HB with q _; exact q.symm
        subst hc
        clear HR HE HC HB
        go_wp2_with fail
        refine (mustRead_no _).mono ?_
        rintro e W ⟨rfl, rfl⟩
        exact ⟨rfl, by rw [if_neg (by decide)], B⟩

theorem catch_panicking (p : Nat) (v0 v1 v2 v3 v4 v5 v6 : Value) (u : TypeId) (pv : Value) (older : List PanicEntry) (w : World) (c0 : w.cell? ⟨p, 0, none⟩ = some v0) (y0 : w.frozen? ⟨p, 0, none⟩ = false) (c1 : w.cell? ⟨p, 1, none⟩ = some v1) (y1 : w.frozen? ⟨p, 1, none⟩ = false) (c2 : w.cell? ⟨p, 2, none⟩ = some v2) (y2 : w.frozen? ⟨p, 2, none⟩ = false) (c3 : w.cell? ⟨p, 3, none⟩ = some v3) (y3 : w.frozen? ⟨p, 3, none⟩ = false) (c4 : w.cell? ⟨p, 4, none⟩ = some v4) (y4 : w.frozen? ⟨p, 4, none⟩ = false) (c5 : w.cell? ⟨p, 5, none⟩ = some v5) (y5 : w.frozen? ⟨p, 5, none⟩ = false) (c6 : w.cell? ⟨p, 6, none⟩ = some v6) (y6 : w.frozen? ⟨p, 6, none⟩ = false) :
    CallsD Try.prog 52 #[.pointer (some ⟨p, 0, none⟩)] (.panicking ({ v := .iface u pv, recovered := false } :: older)) w fun e u' w' =>
      e = .returned (.tuple #[]) ∧ u' = .panicking ({ v := .iface u pv, recovered := true } :: older) ∧ w' = (((((((w.setCell ⟨p, 0, none⟩ (.int .i64 5)).setCell ⟨p, 1, none⟩ (.int .i64 0)).setCell ⟨p, 2, none⟩ (.int .i64 0)).setCell ⟨p, 3, none⟩ (.int .i64 0)).setCell ⟨p, 4, none⟩ (.int .i64 0)).setCell ⟨p, 5, none⟩ (.int .i64 0)).setCell ⟨p, 6, none⟩ (.int .i64 0)) := by
  refine callsD_of_wpS Try.func52 rfl fun c₀ cs hu => ?_
  apply wpS_seq
  apply wpS_region
  simp [wpOpsS, go_sem, recoverD, hu, Try.ntmps52, Exit.thenS]
  refine wpS_cond (t := true) (by simp [Act.eval, Array.replicate]) ?_
  simp only [if_true]
  apply wpS_region
  simp [wpOpsS, go_sem, c0, y0, c1, y1, c2, y2, c3, y3, c4, y4, c5, y5, c6, y6, bodyPostS, results, Try.results52]

theorem catch_idle (p : Nat) (w : World) :
    CallsD Try.prog 52 #[.pointer (some ⟨p, 0, none⟩)] .returning w fun e u' w' => e = .returned (.tuple #[]) ∧ u' = .returning ∧ w' = w := by
  refine callsD_of_wpS Try.func52 rfl fun c₀ cs hu => ?_
  apply wpS_seq
  apply wpS_region
  simp [wpOpsS, go_sem, recoverD, hu, Try.ntmps52, Exit.thenS]
  refine wpS_cond (t := false) (by simp [Act.eval, Array.replicate]) ?_
  simp only [Bool.false_eq_true, if_false]
  refine wpS_of_wp (wp_skip ?_)
  cases c₀
  simp_all [bodyPostS, results, Try.results52]
set_option maxRecDepth 20000 in
set_option maxHeartbeats 4000000 in
theorem implUnE_is {o : Bool} {l u : Nat} (ao : Option Addr) (n c : Nat) (xs : List Int) (w : World) (h : RowAt w o l u 1 ao n c (ints xs)) (cd y0 y1 y2 y3 y4 y5 : Int) (hr : unER xs = (cd, y0, y1, y2, y3, y4, y5)) : Calls Try.prog 14 #[.slice ao n c] w fun e w' => e = .returned (.agg #[.int .i64 cd, .int .i64 y0, .int .i64 y1, .int .i64 y2, .int .i64 y3, .int .i64 y4, .int .i64 y5]) ∧ Below w.heap.size w w' := by
  have HR : Hid _ := hr
  have hcd : cd = 0 ∨ cd = 5 := by unfold unER at hr; split at hr <;> (injection hr with q _; omega)
  clear hr
  have hmf : ∀ (fn : Fn) (first cap : Array Value) (w : World), (Instr.makeFunc fn first cap).run Try.prog w = .ok (.func fn first cap) w := fun _ _ _ _ => rfl
  go_enter_defers Try.func14, Try.ntmps14
  go_wp2_with (first | ((with_reducible refine alloc_new 31 #[.int .i64 0, .int .i64 0, .int .i64 0, .int .i64 0, .int .i64 0, .int .i64 0, .int .i64 0] (fun _ => by kernel_rfl) ?_); intro b0 W0 N0; have O0 : Hid (w.heap.size ≤ b0) := N0.ge; have B := N0.below; have H0 : Hid (b0 < W0.heap.size) := N0.lt; have c0_0 : W0.cell? ⟨b0, 0, none⟩ = some (.int .i64 0) := N0.cell 0 _ rfl; have c0_1 : W0.cell? ⟨b0, 1, none⟩ = some (.int .i64 0) := N0.cell 1 _ rfl; have c0_2 : W0.cell? ⟨b0, 2, none⟩ = some (.int .i64 0) := N0.cell 2 _ rfl; have c0_3 : W0.cell? ⟨b0, 3, none⟩ = some (.int .i64 0) := N0.cell 3 _ rfl; have c0_4 : W0.cell? ⟨b0, 4, none⟩ = some (.int .i64 0) := N0.cell 4 _ rfl; have c0_5 : W0.cell? ⟨b0, 5, none⟩ = some (.int .i64 0) := N0.cell 5 _ rfl; have c0_6 : W0.cell? ⟨b0, 6, none⟩ = some (.int .i64 0) := N0.cell 6 _ rfl; have y0_0 : W0.frozen? ⟨b0, 0, none⟩ = false := N0.froz 0; have y0_1 : W0.frozen? ⟨b0, 1, none⟩ = false := N0.froz 1; have y0_2 : W0.frozen? ⟨b0, 2, none⟩ = false := N0.froz 2; have y0_3 : W0.frozen? ⟨b0, 3, none⟩ = false := N0.froz 3; have y0_4 : W0.frozen? ⟨b0, 4, none⟩ = false := N0.froz 4; have y0_5 : W0.frozen? ⟨b0, 5, none⟩ = false := N0.froz 5; have y0_6 : W0.frozen? ⟨b0, 6, none⟩ = false := N0.froz 6; clear N0) | fail)
  refine (readEntry_is ao n c xs _ (h.below B) cd y0 y1 y2 y3 y4 y5 HR.out).mono ?_
  rintro e w1 ⟨he, BB⟩
  replace c0_0 := cell_later BB c0_0
  replace c0_1 := cell_later BB c0_1
  replace c0_2 := cell_later BB c0_2
  replace c0_3 := cell_later BB c0_3
  replace c0_4 := cell_later BB c0_4
  replace c0_5 := cell_later BB c0_5
  replace c0_6 := cell_later BB c0_6
  replace y0_0 := frozen_later BB H0.out y0_0
  replace y0_1 := frozen_later BB H0.out y0_1
  replace y0_2 := frozen_later BB H0.out y0_2
  replace y0_3 := frozen_later BB H0.out y0_3
  replace y0_4 := frozen_later BB H0.out y0_4
  replace y0_5 := frozen_later BB H0.out y0_5
  replace y0_6 := frozen_later BB H0.out y0_6
  replace H0 : Hid (b0 < w1.heap.size) := Nat.lt_of_lt_of_le H0.out BB.size
  replace B := below_next B BB
  clear BB
  rcases hcd with hcd | hcd
  · subst hcd
    rw [if_pos rfl] at he
    subst he
    go_wp2
    refine leaves_cons (f := 52) (args := #[.pointer (some ⟨b0, 0, none⟩)]) (by simp) (by simp [go_sem]) ?_
    refine (catch_idle b0 _).mono ?_
    rintro e u' w'' ⟨rfl, rfl, rfl⟩
    have KZ : Kept b0 (b0 + 1) w1 (((((((w1.setCell ⟨b0, 0, none⟩ (.int .i64 0)).setCell ⟨b0, 1, none⟩ (.int .i64 y0)).setCell ⟨b0, 2, none⟩ (.int .i64 y1)).setCell ⟨b0, 3, none⟩ (.int .i64 y2)).setCell ⟨b0, 4, none⟩ (.int .i64 y3)).setCell ⟨b0, 5, none⟩ (.int .i64 y4)).setCell ⟨b0, 6, none⟩ (.int .i64 y5)) := by refine Kept.setCell (Kept.setCell (Kept.setCell (Kept.setCell (Kept.setCell (Kept.setCell (Kept.setCell (Kept.refl _ _ _) ?_ ?_ _) ?_ ?_ _) ?_ ?_ _) ?_ ?_ _) ?_ ?_ _) ?_ ?_ _) ?_ ?_ _ <;> simp
    have KB := B.trans (KZ.below _ O0.out B.size)
    clear KZ
    simp [Leaves, settle, results, Try.results14, go_sem, c0_0, c0_1, c0_2, c0_3, c0_4, c0_5, c0_6]
    exact KB
  · subst hcd
    have HB : (5, en0) = ((5, y0, y1, y2, y3, y4, y5) : Int × En) := by
      have q := HR.out
      unfold unER at q
      split at q
      · cases q
      · exact q
    simp only [en0, Prod.mk.injEq] at HB
    obtain ⟨_, rfl, rfl, rfl, rfl, rfl, rfl⟩ := HB
    rw [if_neg (by decide)] at he
    subst he
    clear HR
    go_wp2
    refine leaves_cons (f := 52) (args := #[.pointer (some ⟨b0, 0, none⟩)]) (by simp) (by simp [go_sem]) ?_
    unfold panV
    refine (catch_panicking b0 _ _ _ _ _ _ _ _ _ [] _ c0_0 y0_0 c0_1 y0_1 c0_2 y0_2 c0_3 y0_3 c0_4 y0_4 c0_5 y0_5 c0_6 y0_6).mono ?_
    rintro e u' w'' ⟨rfl, rfl, rfl⟩
    have KZ : Kept b0 (b0 + 1) w1 (((((((w1.setCell ⟨b0, 0, none⟩ (.int .i64 5)).setCell ⟨b0, 1, none⟩ (.int .i64 0)).setCell ⟨b0, 2, none⟩ (.int .i64 0)).setCell ⟨b0, 3, none⟩ (.int .i64 0)).setCell ⟨b0, 4, none⟩ (.int .i64 0)).setCell ⟨b0, 5, none⟩ (.int .i64 0)).setCell ⟨b0, 6, none⟩ (.int .i64 0)) := by refine Kept.setCell (Kept.setCell (Kept.setCell (Kept.setCell (Kept.setCell (Kept.setCell (Kept.setCell (Kept.refl _ _ _) ?_ ?_ _) ?_ ?_ _) ?_ ?_ _) ?_ ?_ _) ?_ ?_ _) ?_ ?_ _) ?_ ?_ _ <;> simp
    have KB := B.trans (KZ.below _ O0.out B.size)
    clear KZ
    simp [Leaves, settle, results, Try.results14, go_sem, c0_0, c0_1, c0_2, c0_3, c0_4, c0_5, c0_6]
    exact KB

end Go.Proofs.Ytpbhiednmnolgaa
