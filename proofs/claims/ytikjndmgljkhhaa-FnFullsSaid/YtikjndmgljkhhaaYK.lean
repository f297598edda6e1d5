/- Chapter 5: what an operation answered, in a box, with where its pool lies. -/
import Derived.Test.YtikjndmgljkhhaaEX
import Derived.Test.YtikjndmgljkhhaaPS
import Derived.Test.YtikjndmgljkhhaaFacts2
import Derived.Test.YtikjndmgljkhhaaYS
import Derived.Test.YtikjndmgljkhhaaW6
import Derived.Deep.DeepCutAuto
import Derived.Test.YtikjndmgljkhhaaRows
import Derived.Test.YtikjndmgljkhhaaZR
namespace Go.Proofs.Ytikjndmgljkhhaa
open Go.RowKit

/-- box xb holds what an operation answered with no code; its pool lies behind W -/
def ApBoxL (W wx : World) (xb : Nat) (r v : Int) (g : Fo) (us : List Vo) : Prop := ∃ an nn cn ab nb cb av nv cv lo hi, wx.cell? ⟨xb, 0, none⟩ = some (.int .i64 0) ∧ wx.cell? ⟨xb, 1, none⟩ = some (.int .i64 r) ∧ wx.cell? ⟨xb, 2, none⟩ = some (.int .i64 v) ∧ wx.cell? ⟨xb, 3, none⟩ = some (.slice an nn cn) ∧ wx.cell? ⟨xb, 4, none⟩ = some (.slice ab nb cb) ∧ wx.cell? ⟨xb, 5, none⟩ = some (.slice av nv cv) ∧ PoS wx lo hi an nn cn ab nb cb av nv cv g us ∧ W.heap.size ≤ lo ∧ Below W.heap.size W wx
theorem ApBoxL.new {W w6 : World} {r v : Int} {g : Fo} {us : List Vo} {an : Option Addr} {nn cn : Nat} {ab : Option Addr} {nb cb : Nat} {av : Option Addr} {nv cv lo hi : Nat} (P : PoS w6 lo hi an nn cn ab nb cb av nv cv g us) (B : Below W.heap.size W w6) (hl : W.heap.size ≤ lo) : ApBoxL W (w6.alloc (.cells #[.int .i64 0, .int .i64 r, .int .i64 v, .slice an nn cn, .slice ab nb cb, .slice av nv cv] 33)) w6.heap.size r v g us := by
  have N := newB_mk w6 #[.int .i64 0, .int .i64 r, .int .i64 v, .slice an nn cn, .slice ab nb cb, .slice av nv cv] 33
  exact ⟨_, _, _, _, _, _, _, _, _, _, _, N.cell 0 _ rfl, N.cell 1 _ rfl, N.cell 2 _ rfl, N.cell 3 _ rfl, N.cell 4 _ rfl, N.cell 5 _ rfl, P.below N.below, hl, below_next B N.below⟩
theorem ApBoxL.set {W w6 W6 : World} {xb : Nat} {r v : Int} {g : Fo} {us : List Vo} {an : Option Addr} {nn cn : Nat} {ab : Option Addr} {nb cb : Nat} {av : Option Addr} {nv cv lo hi : Nat} (P : PoS w6 lo hi an nn cn ab nb cb av nv cv g us) (B : Below W.heap.size W w6) (S : SetB w6 W6 xb [.int .i64 0, .int .i64 r, .int .i64 v, .slice an nn cn, .slice ab nb cb, .slice av nv cv]) (h1 : xb < lo) (h2 : W.heap.size ≤ xb) : ApBoxL W W6 xb r v g us :=
  ⟨_, _, _, _, _, _, _, _, _, _, _, S.cell 0 _ rfl, S.cell 1 _ rfl, S.cell 2 _ rfl, S.cell 3 _ rfl, S.cell 4 _ rfl, S.cell 5 _ rfl, P.set S (Or.inr h1), Nat.le_trans h2 (Nat.le_of_lt h1), B.trans (S.kept.below _ h2 B.size)⟩

end Go.Proofs.Ytikjndmgljkhhaa

/- Where no block is free nothing is written: the walk of FnFulls. -/
namespace Go.Proofs.Ytikjndmgljkhhaa
open Go.RowKit

theorem blk_right {f : Fo} (h : Right f) : blkFault f.2 = 0 := by
  have := fault_of_right h
  unfold foFault at this
  by_cases c : blkFault f.2 = 0
  · exact c
  · rw [if_neg c] at this; exact absurd this c
theorem clear_pool {f : Fo} {q R : Int} {k : Nat} (h : One f q R k k) (hk : k ≤ 15) {j : Nat} (hjk : j < k) {g : Fo} {T : Int} (e : applyA f [(1, q, R)] 3 1 j 0 = (0, 0, g, [(1, q, T)])) : PoolOk g [(1, q, T)] := by
  have hj : j ≤ 15 := by omega
  have o3 := op_clear hj
  have hb := (h.has j hj).2 hjk
  have hc : clearTCode f R j = 0 := by
    have := clear_code h.ok (v := (1, q, R)) (by simp) hj
    rw [if_neg (by show ¬ blockAt f R j < 0; omega)] at this
    exact this
  obtain ⟨T3, _, _⟩ := clear_ok (m := 0) h.ok (by simp) hj hc
  have P2 : PoolOk (clearFo f R j) [(1, q, clearRootT f R j)] := T3.ok
  have e2 : applyA f [(1, q, R)] 3 1 j 0 = (0, 0, clearFo f R j, [(1, q, clearRootT f R j)]) := by
    rw [apply_ans h.ok o3]
    unfold applyR
    rw [if_neg (by decide), at_one, if_neg (by decide), if_neg (by decide), if_pos rfl]
    have e : clearR f [(1, q, R)] (0 : Int).toNat j = (0, clearFo f R j, [(1, q, clearRootT f R j)]) := by
      unfold clearR
      show (if clearTCode f R j = 0 then _ else _) = _
      rw [if_pos hc]
      rfl
    rw [e]
  rw [e2] at e
  obtain ⟨-, -, rfl, e3⟩ : (0 : Int) = 0 ∧ (0 : Int) = 0 ∧ clearFo f R j = g ∧ [((1 : Int), q, clearRootT f R j)] = [(1, q, T)] := by simpa using e
  rw [← e3]; exact P2
set_option maxRecDepth 20000 in
set_option maxHeartbeats 4000000 in
theorem lawFulls (ac : Option Addr) (nc cc : Nat) (cs : List Nat) (w : World) (h : RowAt w false 0 w.heap.size 1 ac nc cc (bys cs)) (hcs : ∀ i, cs.getD i 0 < 256) (hn : nc ≤ maxLen) :
    Calls Try.prog 3 #[.slice ac nc cc] w fun e w' => e = .returned (.bool true) ∧ Below w.heap.size w w' := by
  unfold maxLen at hn
  by_cases hbig : 1048576 < nc
  · go_enter Try.func3, Try.ntmps3
    go_wp2_with fail
    refine (lwBig_is ac nc cc _ true (by simp; omega)).mono ?_
    rintro e w0 ⟨rfl, rfl⟩
    go_wp2
    go_ret
    exact ⟨rfl, Below.refl _ _⟩
  have hc : nc ≤ 1048576 := by omega
  obtain ⟨d0, hd0⟩ : ∃ d, lwN cs 0 6 = d := ⟨_, rfl⟩
  have hd6 : d0 < 6 := by rw [← hd0]; exact lwN_lt _ _ _ (by decide)
  have HD0 : Hid _ := hd0
  clear hd0
  have hw0 : IntKind.i64.wrap (1 + (d0 : Int)) = 1 + (d0 : Int) := by rw [IntKind.wrap_i64]; omega
  have HNI : Hid (1 + (d0 : Int) = ((1 + d0 : Nat) : Int)) := by show _ = _; omega
  go_enter Try.func3, Try.ntmps3
  go_wp2_with fail
  refine (lwBig_is ac nc cc _ false (by simp; omega)).mono ?_
  rintro e w0 ⟨rfl, rfl⟩
  go_wp2_with fail
  refine (lwAt_of ac nc cc cs 0 6 _ _ rfl rfl _ h hcs (by omega) hc (by omega) d0 HD0.out).mono ?_
  rintro e w1 ⟨rfl, B⟩
  go_wp2_with fail
  refine (newS_of (1 + d0) (by omega) _ HNI.out _).mono ?_
  rintro e w2 ⟨xa, xn, xc, ya, yn, yc, za, zn, zc, rfl, P0, B2⟩
  replace B := below_next B B2
  clear B2
  have pf := poolField
  go_wp2_with fail
  have CR := create_one (n := 1 + d0) (by omega) (q := 16) (by omega) (by omega)
  have ON := one_new (q := 16) (n := 1 + d0) (by omega) (by omega) (by omega)
  refine (applyS P0 1 1 0 16 0 0 _ _ CR.1 CR.2 ON.ok).mono ?_
  rintro e w3 ⟨an, nn, cn, ab, nb, cb, av, nv, cv, rfl, P1, B3⟩
  have QP : Hid (w2.heap.size ≤ w3.heap.size) := B3.size
  replace B := below_next B B3
  clear B3 P0 CR
  have HBW : Hid (w0.heap.size ≤ w3.heap.size) := B.size
  go_wp2_with (first | ((with_reducible refine alloc_new 31 #[.slice none 0 0, .slice none 0 0, .slice none 0 0] (fun _ => by kernel_rfl) ?_); intro b0 W0 N0; replace B := below_next B N0.below; have P2 := P1.below N0.below; have c0_0 : W0.cell? ⟨b0, 0, none⟩ = some (.slice none 0 0) := N0.cell 0 _ rfl; have y0_0 : W0.frozen? ⟨b0, 0, none⟩ = false := N0.froz 0; have c0_1 : W0.cell? ⟨b0, 1, none⟩ = some (.slice none 0 0) := N0.cell 1 _ rfl; have y0_1 : W0.frozen? ⟨b0, 1, none⟩ = false := N0.froz 1; have c0_2 : W0.cell? ⟨b0, 2, none⟩ = some (.slice none 0 0) := N0.cell 2 _ rfl; have y0_2 : W0.frozen? ⟨b0, 2, none⟩ = false := N0.froz 2; have H0 : Hid (b0 < W0.heap.size) := N0.lt; have HN : Hid (w3.heap.size ≤ b0) := N0.ge; clear N0) | ((with_reducible refine store_box 31 b0 [.slice an nn cn, .slice ab nb cb, .slice av nv cv] (by simp) (there3 c0_0 c0_1 c0_2 y0_0 y0_1 y0_2) (by kernel_rfl) (by simp [Value.oneCell']) rfl rfl ?_); intro W1 S0; replace B := B.trans (S0.kept.below _ (Nat.le_trans HBW.out HN.out) B.size); have P3 := P2.set S0 (Or.inl HN.out); replace c0_0 : W1.cell? ⟨b0, 0, none⟩ = some (.slice an nn cn) := S0.cell 0 _ rfl; replace y0_0 := S0.fr y0_0; replace c0_1 : W1.cell? ⟨b0, 1, none⟩ = some (.slice ab nb cb) := S0.cell 1 _ rfl; replace y0_1 := S0.fr y0_1; replace c0_2 : W1.cell? ⟨b0, 2, none⟩ = some (.slice av nv cv) := S0.cell 2 _ rfl; replace y0_2 := S0.fr y0_2; replace H0 : Hid (b0 < W1.heap.size) := Nat.lt_of_lt_of_le H0.out S0.kept.size; clear S0 P2 P1) | fail)
  obtain ⟨q, hq⟩ : ∃ q : Int, q = 1 + (d0 : Int) := ⟨_, rfl⟩
  rw [← hq]
  have HQ : Hid (q = 1 + (d0 : Int)) := hq
  have HQI : Hid (q = ((1 + d0 : Nat) : Int)) := by show _ = _; omega
  clear hq hw0 pf
  have QI : QAt w0 W1 b0 16 0 (1 + d0) := ⟨_, _, _, _, _, _, _, _, _, _, _, _, _, c0_0, c0_1, c0_2, y0_0, y0_1, y0_2, H0.out, P3, Or.inl HN.out, ON, B⟩
  have HB0 : Hid (w0.heap.size ≤ b0) := Nat.le_trans HBW.out HN.out
  clear c0_0 c0_1 c0_2 y0_0 y0_1 y0_2 H0 P3 HN ON QP
  go_loopw [5] (fun i wr => ∃ k : Nat, k ≤ 1 + d0 ∧ i = .int .i64 k ∧ QAt w0 wr b0 16 k (1 + d0)) (fun i _ => (1 + d0) - (intOf i).toNat)
  case atStart => exact ⟨0, by omega, rfl, QI⟩
  case round =>
    obtain ⟨k, hk, rfl, an, nn, cn, ab, nb, cb, av, nv, cv, f, R, lo, hi, c0_0, c0_1, c0_2, y0_0, y0_1, y0_2, hl0, P4, hav, ON, B4⟩ := hrel
    have H0 : Hid (b0 < wr.heap.size) := hl0
    have HLW : Hid (b0 < wr.heap.size) := hl0
    clear hl0 hav QI
    by_cases hlt : k < 1 + d0
    · have hlk : (k : Int) < q := by have := HQ.out; omega
      have hlk' : decide ((k : Int) < q) = true := decide_eq_true hlk
      obtain ⟨j, hj⟩ : ∃ j, lwN cs (k + 1) 99 = j := ⟨_, rfl⟩
      have hjq : j < 99 := by rw [← hj]; exact lwN_lt _ _ _ (by omega)
      have HJ : Hid _ := hj
      clear hj
      have HKI : Hid ((k : Int) + 1 = ((k + 1 : Nat) : Int)) := by show _ = _; omega
      have H99 : Hid ((99 : Int) = ((99 : Nat) : Int)) := rfl
      have hwk : IntKind.i64.wrap ((k : Int) + 1) = (k : Int) + 1 := by rw [IntKind.wrap_i64]; omega
      obtain ⟨g, T, a1, a2, ON2⟩ := write_new ON (by omega) (by omega) (by omega) (x := (j : Int)) (by omega) (by omega)
      have HA1 : Hid _ := a1
      have HA2 : Hid _ := a2
      have HOK : Hid (PoolOk g [(1, 16, T)]) := ON2.ok
      have HON : Hid _ := ON2
      clear a1 a2 ON ON2
      go_upto_region 8 with fail
      go_cut [6] (fun v wx => ∃ xb : Nat, v = .pointer (some ⟨xb, 0, none⟩) ∧ ApBoxL wr wx xb 0 0 g [(1, 16, T)])
      case first =>
        have NZ := newB_mk wr #[.int .i64 0, .int .i64 0, .int .i64 0, .slice none 0 0, .slice none 0 0, .slice none 0 0] 33
        have BA : Below wr.drew.heap.size wr.drew (wr.alloc (.cells #[.int .i64 0, .int .i64 0, .int .i64 0, .slice none 0 0, .slice none 0 0, .slice none 0 0] 33)).drew := ((Below.refl _ _).alloc (Nat.le_refl _) _ : Below wr.drew.heap.size wr.drew (wr.drew.alloc (.cells #[.int .i64 0, .int .i64 0, .int .i64 0, .slice none 0 0, .slice none 0 0, .slice none 0 0] 33)))
        have z0 : (wr.alloc (.cells #[.int .i64 0, .int .i64 0, .int .i64 0, .slice none 0 0, .slice none 0 0, .slice none 0 0] 33)).drew.cell? ⟨wr.heap.size, 0, none⟩ = some (.int .i64 0) := NZ.cell 0 _ rfl
        have z1 : (wr.alloc (.cells #[.int .i64 0, .int .i64 0, .int .i64 0, .slice none 0 0, .slice none 0 0, .slice none 0 0] 33)).drew.cell? ⟨wr.heap.size, 1, none⟩ = some (.int .i64 0) := NZ.cell 1 _ rfl
        have z2 : (wr.alloc (.cells #[.int .i64 0, .int .i64 0, .int .i64 0, .slice none 0 0, .slice none 0 0, .slice none 0 0] 33)).drew.cell? ⟨wr.heap.size, 2, none⟩ = some (.int .i64 0) := NZ.cell 2 _ rfl
        have z3 : (wr.alloc (.cells #[.int .i64 0, .int .i64 0, .int .i64 0, .slice none 0 0, .slice none 0 0, .slice none 0 0] 33)).drew.cell? ⟨wr.heap.size, 3, none⟩ = some (.slice none 0 0) := NZ.cell 3 _ rfl
        have z4 : (wr.alloc (.cells #[.int .i64 0, .int .i64 0, .int .i64 0, .slice none 0 0, .slice none 0 0, .slice none 0 0] 33)).drew.cell? ⟨wr.heap.size, 4, none⟩ = some (.slice none 0 0) := NZ.cell 4 _ rfl
        have z5 : (wr.alloc (.cells #[.int .i64 0, .int .i64 0, .int .i64 0, .slice none 0 0, .slice none 0 0, .slice none 0 0] 33)).drew.cell? ⟨wr.heap.size, 5, none⟩ = some (.slice none 0 0) := NZ.cell 5 _ rfl
        have f0 : (wr.alloc (.cells #[.int .i64 0, .int .i64 0, .int .i64 0, .slice none 0 0, .slice none 0 0, .slice none 0 0] 33)).drew.frozen? ⟨wr.heap.size, 0, none⟩ = false := NZ.froz 0
        have f1 : (wr.alloc (.cells #[.int .i64 0, .int .i64 0, .int .i64 0, .slice none 0 0, .slice none 0 0, .slice none 0 0] 33)).drew.frozen? ⟨wr.heap.size, 1, none⟩ = false := NZ.froz 1
        have f2 : (wr.alloc (.cells #[.int .i64 0, .int .i64 0, .int .i64 0, .slice none 0 0, .slice none 0 0, .slice none 0 0] 33)).drew.frozen? ⟨wr.heap.size, 2, none⟩ = false := NZ.froz 2
        have f3 : (wr.alloc (.cells #[.int .i64 0, .int .i64 0, .int .i64 0, .slice none 0 0, .slice none 0 0, .slice none 0 0] 33)).drew.frozen? ⟨wr.heap.size, 3, none⟩ = false := NZ.froz 3
        have f4 : (wr.alloc (.cells #[.int .i64 0, .int .i64 0, .int .i64 0, .slice none 0 0, .slice none 0 0, .slice none 0 0] 33)).drew.frozen? ⟨wr.heap.size, 4, none⟩ = false := NZ.froz 4
        have f5 : (wr.alloc (.cells #[.int .i64 0, .int .i64 0, .int .i64 0, .slice none 0 0, .slice none 0 0, .slice none 0 0] 33)).drew.frozen? ⟨wr.heap.size, 5, none⟩ = false := NZ.froz 5
        have HZ : Hid (wr.heap.size < (wr.alloc (.cells #[.int .i64 0, .int .i64 0, .int .i64 0, .slice none 0 0, .slice none 0 0, .slice none 0 0] 33)).drew.heap.size) := NZ.lt
        clear NZ
        have HE_b0 : Hid (b0 ≠ wr.heap.size) := Nat.ne_of_lt H0.out
        have D : Below wr.heap.size wr wr.drew := (Below.refl _ _).drew
        replace c0_0 := cell_later D c0_0
        replace c0_1 := cell_later D c0_1
        replace c0_2 := cell_later D c0_2
        replace P4 := P4.below D
        replace B4 := below_next B4 D
        have BW : Below wr.heap.size wr wr.drew := D
        clear D
        go_region_held3 (fun w' => w'.cell? ⟨b0, 0, none⟩ = some (.slice an nn cn) ∧ w'.cell? ⟨b0, 1, none⟩ = some (.slice ab nb cb) ∧ w'.cell? ⟨b0, 2, none⟩ = some (.slice av nv cv)) (first | with_reducible exact ⟨c0_0, c0_1, c0_2⟩ | with_reducible exact ⟨cell_later BA c0_0, cell_later BA c0_1, cell_later BA c0_2⟩ | with_reducible exact ⟨cell_later NZ0.below c0_0, cell_later NZ0.below c0_1, cell_later NZ0.below c0_2⟩ | with_reducible exact ⟨cell_later N6.below c0_0, cell_later N6.below c0_1, cell_later N6.below c0_2⟩ | with_reducible exact ⟨cell_later M6.below c0_0, cell_later M6.below c0_1, cell_later M6.below c0_2⟩ | with_reducible exact ⟨SB.at c0_0 HE_b0.out, SB.at c0_1 HE_b0.out, SB.at c0_2 HE_b0.out⟩ | with_reducible exact ⟨SB.at c0_0 (Nat.ne_of_lt (Nat.lt_of_lt_of_le H0.out HL0.out)), SB.at c0_1 (Nat.ne_of_lt (Nat.lt_of_lt_of_le H0.out HL0.out)), SB.at c0_2 (Nat.ne_of_lt (Nat.lt_of_lt_of_le H0.out HL0.out))⟩)
          (first | (go_at_call 11; (with_reducible refine (lwAt_of ac nc cc cs (k + 1) 99 ((k : Int) + 1) 99 HKI.out H99.out _ (h.below B4) hcs (by omega) hc (by omega) j HJ.out).mono ?_); rintro e wl0 ⟨rfl, B5⟩; replace c0_0 := cell_later B5 c0_0; replace c0_1 := cell_later B5 c0_1; replace c0_2 := cell_later B5 c0_2; replace P4 := P4.below B5; replace B4 := below_next B4 B5; replace BW := below_next BW B5; have HL0 : Hid (wr.heap.size ≤ wl0.heap.size) := BW.size; have NZ0 := newB_mk wl0 #[.int .i64 0, .int .i64 0, .int .i64 0, .slice none 0 0, .slice none 0 0, .slice none 0 0] 33; clear B5) | (go_at_call 11; (with_reducible refine (lwAt_of ac nc cc cs (k + 1) 99 ((k : Int) + 1) 99 HKI.out H99.out _ (h.below (below_next B4 BA)) hcs (by omega) hc (by omega) j HJ.out).mono ?_); rintro e wl0 ⟨rfl, B5⟩; replace c0_0 := cell_later BA c0_0; replace c0_1 := cell_later BA c0_1; replace c0_2 := cell_later BA c0_2; replace P4 := P4.below BA; replace B4 := below_next B4 BA; replace BW := below_next BW BA; replace f0 := frozen_later B5 HZ.out f0; replace f1 := frozen_later B5 HZ.out f1; replace f2 := frozen_later B5 HZ.out f2; replace f3 := frozen_later B5 HZ.out f3; replace f4 := frozen_later B5 HZ.out f4; replace f5 := frozen_later B5 HZ.out f5; replace z0 := cell_later B5 z0; replace z1 := cell_later B5 z1; replace z2 := cell_later B5 z2; replace z3 := cell_later B5 z3; replace z4 := cell_later B5 z4; replace z5 := cell_later B5 z5; (replace HZ : Hid (wr.heap.size < wl0.heap.size) := Nat.lt_of_lt_of_le HZ.out B5.size); have HZA : Hid (wr.heap.size < wl0.heap.size) := HZ; replace c0_0 := cell_later B5 c0_0; replace c0_1 := cell_later B5 c0_1; replace c0_2 := cell_later B5 c0_2; replace P4 := P4.below B5; replace B4 := below_next B4 B5; replace BW := below_next BW B5; have HL0 : Hid (wr.heap.size ≤ wl0.heap.size) := BW.size; have NZ0 := newB_mk wl0 #[.int .i64 0, .int .i64 0, .int .i64 0, .slice none 0 0, .slice none 0 0, .slice none 0 0] 33; clear B5) | (go_at_call 12; have hza := HZA.out; clear hza; (with_reducible refine (applyS P4 2 1 (k : Int) (j : Int) 0 0 g [(1, 16, T)] HA1.out HA2.out HOK.out).mono ?_); rintro e w6 ⟨na, nn', nc', ob, on, oc, qa, qn, qc, rfl, P6, B6⟩; replace f0 := frozen_later B6 HZ.out f0; replace f1 := frozen_later B6 HZ.out f1; replace f2 := frozen_later B6 HZ.out f2; replace f3 := frozen_later B6 HZ.out f3; replace f4 := frozen_later B6 HZ.out f4; replace f5 := frozen_later B6 HZ.out f5; replace z0 := cell_later B6 z0; replace z1 := cell_later B6 z1; replace z2 := cell_later B6 z2; replace z3 := cell_later B6 z3; replace z4 := cell_later B6 z4; replace z5 := cell_later B6 z5; (replace HZ : Hid (wr.heap.size < w6.heap.size) := Nat.lt_of_lt_of_le HZ.out B6.size); replace c0_0 := cell_later B6 c0_0; replace c0_1 := cell_later B6 c0_1; replace c0_2 := cell_later B6 c0_2; replace P4 := P4.below B6; replace B4 := below_next B4 B6; replace BW := below_next BW B6; have SB : SetB w6 ((((((w6.setCell ⟨wr.heap.size, 0, none⟩ (.int .i64 0)).setCell ⟨wr.heap.size, 1, none⟩ (.int .i64 0)).setCell ⟨wr.heap.size, 2, none⟩ (.int .i64 0)).setCell ⟨wr.heap.size, 3, none⟩ (.slice na nn' nc')).setCell ⟨wr.heap.size, 4, none⟩ (.slice ob on oc)).setCell ⟨wr.heap.size, 5, none⟩ (.slice qa qn qc)) wr.heap.size [.int .i64 0, .int .i64 0, .int .i64 0, .slice na nn' nc', .slice ob on oc, .slice qa qn qc] := setB_cells (cs := [.int .i64 0, .int .i64 0, .int .i64 0, .slice na nn' nc', .slice ob on oc, .slice qa qn qc]) (by simp) (there6 z0 z1 z2 z3 z4 z5 f0 f1 f2 f3 f4 f5); clear B6) | (go_at_call 12; (with_reducible refine (applyS P4 2 1 (k : Int) (j : Int) 0 0 g [(1, 16, T)] HA1.out HA2.out HOK.out).mono ?_); rintro e w6 ⟨na, nn', nc', ob, on, oc, qa, qn, qc, rfl, P6, B6⟩; replace c0_0 := cell_later B6 c0_0; replace c0_1 := cell_later B6 c0_1; replace c0_2 := cell_later B6 c0_2; replace P4 := P4.below B6; replace B4 := below_next B4 B6; replace BW := below_next BW B6; have N6 := newB_mk w6 #[.int .i64 0, .int .i64 0, .int .i64 0, .slice none 0 0, .slice none 0 0, .slice none 0 0] 33; have M6 := newB_mk w6 #[.int .i64 0, .int .i64 0, .int .i64 0, .slice na nn' nc', .slice ob on oc, .slice qa qn qc] 33; clear B6) | (go_at_call 12; (with_reducible refine (applyS (P4.below NZ0.below) 2 1 (k : Int) (j : Int) 0 0 g [(1, 16, T)] HA1.out HA2.out HOK.out).mono ?_); rintro e w6 ⟨na, nn', nc', ob, on, oc, qa, qn, qc, rfl, P6, B6⟩; have zz0 : w6.cell? ⟨wl0.heap.size, 0, none⟩ = some (.int .i64 0) := cell_later B6 (NZ0.cell 0 _ rfl); have zz1 : w6.cell? ⟨wl0.heap.size, 1, none⟩ = some (.int .i64 0) := cell_later B6 (NZ0.cell 1 _ rfl); have zz2 : w6.cell? ⟨wl0.heap.size, 2, none⟩ = some (.int .i64 0) := cell_later B6 (NZ0.cell 2 _ rfl); have zz3 : w6.cell? ⟨wl0.heap.size, 3, none⟩ = some (.slice none 0 0) := cell_later B6 (NZ0.cell 3 _ rfl); have zz4 : w6.cell? ⟨wl0.heap.size, 4, none⟩ = some (.slice none 0 0) := cell_later B6 (NZ0.cell 4 _ rfl); have zz5 : w6.cell? ⟨wl0.heap.size, 5, none⟩ = some (.slice none 0 0) := cell_later B6 (NZ0.cell 5 _ rfl); have ff0 : w6.frozen? ⟨wl0.heap.size, 0, none⟩ = false := frozen_later B6 NZ0.lt (NZ0.froz 0); have ff1 : w6.frozen? ⟨wl0.heap.size, 1, none⟩ = false := frozen_later B6 NZ0.lt (NZ0.froz 1); have ff2 : w6.frozen? ⟨wl0.heap.size, 2, none⟩ = false := frozen_later B6 NZ0.lt (NZ0.froz 2); have ff3 : w6.frozen? ⟨wl0.heap.size, 3, none⟩ = false := frozen_later B6 NZ0.lt (NZ0.froz 3); have ff4 : w6.frozen? ⟨wl0.heap.size, 4, none⟩ = false := frozen_later B6 NZ0.lt (NZ0.froz 4); have ff5 : w6.frozen? ⟨wl0.heap.size, 5, none⟩ = false := frozen_later B6 NZ0.lt (NZ0.froz 5); replace c0_0 := cell_later NZ0.below c0_0; replace c0_1 := cell_later NZ0.below c0_1; replace c0_2 := cell_later NZ0.below c0_2; replace P4 := P4.below NZ0.below; replace B4 := below_next B4 NZ0.below; replace BW := below_next BW NZ0.below; replace c0_0 := cell_later B6 c0_0; replace c0_1 := cell_later B6 c0_1; replace c0_2 := cell_later B6 c0_2; replace P4 := P4.below B6; replace B4 := below_next B4 B6; replace BW := below_next BW B6; have SB : SetB w6 ((((((w6.setCell ⟨wl0.heap.size, 0, none⟩ (.int .i64 0)).setCell ⟨wl0.heap.size, 1, none⟩ (.int .i64 0)).setCell ⟨wl0.heap.size, 2, none⟩ (.int .i64 0)).setCell ⟨wl0.heap.size, 3, none⟩ (.slice na nn' nc')).setCell ⟨wl0.heap.size, 4, none⟩ (.slice ob on oc)).setCell ⟨wl0.heap.size, 5, none⟩ (.slice qa qn qc)) wl0.heap.size [.int .i64 0, .int .i64 0, .int .i64 0, .slice na nn' nc', .slice ob on oc, .slice qa qn qc] := setB_cells (cs := [.int .i64 0, .int .i64 0, .int .i64 0, .slice na nn' nc', .slice ob on oc, .slice qa qn qc]) (by simp) (there6 zz0 zz1 zz2 zz3 zz4 zz5 ff0 ff1 ff2 ff3 ff4 ff5); have HLB : Hid (wl0.heap.size < ((wl0.alloc (.cells #[.int .i64 0, .int .i64 0, .int .i64 0, .slice none 0 0, .slice none 0 0, .slice none 0 0] 33))).heap.size) := NZ0.lt; clear B6))
        all_goals
          go_wp2_with fail
          go_meet
          first | (with_reducible exact ⟨_, rfl, ApBoxL.new P6 BW HL0.out⟩) | (exact ⟨_, rfl, ApBoxL.set P6 BW SB HZA.out (Nat.le_refl _)⟩) | (exact ⟨_, rfl, ApBoxL.set P6 BW SB HLB.out HL0.out⟩)
      case rest =>
        obtain ⟨xb, rfl, ea, en, ec, fa, fn, fc, ga, gn, gc, lo2, hi2, x0, x1, x2, x3, x4, x5, P5, hlo, BX⟩ := hcut
        have HLO : Hid (wr.heap.size ≤ lo2) := hlo
        clear hlo
        replace c0_0 := cell_later BX c0_0
        replace c0_1 := cell_later BX c0_1
        replace c0_2 := cell_later BX c0_2
        replace y0_0 := frozen_later BX H0.out y0_0
        replace y0_1 := frozen_later BX H0.out y0_1
        replace y0_2 := frozen_later BX H0.out y0_2
        replace H0 : Hid (b0 < wc.heap.size) := Nat.lt_of_lt_of_le H0.out BX.size
        replace B4 := below_next B4 BX
        have HAV2 : Hid (hi2 ≤ b0 ∨ b0 < lo2) := Or.inr (Nat.lt_of_lt_of_le HLW.out HLO.out)
        clear BX
        go_wp2_with (first | ((with_reducible refine store_box 31 b0 [.slice ea en ec, .slice fa fn fc, .slice ga gn gc] (by simp) (there3 c0_0 c0_1 c0_2 y0_0 y0_1 y0_2) (by kernel_rfl) (by simp [Value.oneCell']) rfl rfl ?_); intro X3 S0; have P8 := P5.set S0 HAV2.out; replace B4 := B4.trans (S0.kept.below _ HB0.out B4.size); replace c0_0 : X3.cell? ⟨b0, 0, none⟩ = some (.slice ea en ec) := S0.cell 0 _ rfl; replace y0_0 := S0.fr y0_0; replace c0_1 : X3.cell? ⟨b0, 1, none⟩ = some (.slice fa fn fc) := S0.cell 1 _ rfl; replace y0_1 := S0.fr y0_1; replace c0_2 : X3.cell? ⟨b0, 2, none⟩ = some (.slice ga gn gc) := S0.cell 2 _ rfl; replace y0_2 := S0.fr y0_2; replace H0 : Hid (b0 < X3.heap.size) := Nat.lt_of_lt_of_le H0.out S0.kept.size; clear S0 P5) | fail)
        go_roundw
        case rel => exact ⟨k + 1, by omega, by go_num, _, _, _, _, _, _, _, _, _, _, _, _, _, c0_0, c0_1, c0_2, y0_0, y0_1, y0_2, H0.out, P8, HAV2.out, HON.out, B4⟩
        case measure => simp [intOf]; omega
    · obtain rfl : k = 1 + d0 := by omega
      have HON : Hid _ := ON
      clear ON
      have hlk' : decide (((1 + d0 : Nat) : Int) < q) = false := decide_eq_false (by have := HQ.out; omega)
      have hlk2 : ¬ (((1 + d0 : Nat) : Int) < q) := by have := HQ.out; omega
      have H9I : Hid ((9 : Int) = ((9 : Nat) : Int)) := rfl
      have H16 : Hid ((16 : Int) = ((16 : Nat) : Int)) := rfl
      have H10 : Hid ((10 : Int) = ((10 : Nat) : Int)) := rfl
      obtain ⟨j9, hj9⟩ : ∃ j, lwN cs 9 16 = j := ⟨_, rfl⟩
      have hq9 : j9 < 16 := by rw [← hj9]; exact lwN_lt _ _ _ (by omega)
      have HJ9 : Hid _ := hj9
      clear hj9
      obtain ⟨j10, hj10⟩ : ∃ j, lwN cs 10 (1 + d0) = j := ⟨_, rfl⟩
      have hq10 : j10 < 1 + d0 := by rw [← hj10]; exact lwN_lt _ _ _ (by omega)
      have HJ10 : Hid _ := hj10
      clear hj10
      obtain ⟨a1, a2⟩ := write_full HON.out (by omega) (j := j9) (by omega) (x := 7) (by omega) (by omega) (by omega)
      obtain ⟨g, T, a3, a4, g2, T2, a5, a6, OK2, hfr⟩ := clear_write HON.out (by omega) (by omega) hq10 (x := 7) (by omega) (by omega)
      have HOK : Hid (PoolOk g [(1, 16, T)]) := clear_pool HON.out (by omega) hq10 a4
      have HA1 : Hid _ := a1
      have HA2 : Hid _ := a2
      have HA3 : Hid _ := a3
      have HA4 : Hid _ := a4
      have HA5 : Hid _ := a5
      have HA6 : Hid _ := a6
      have HOK2 : Hid _ := OK2
      have HOK0 : Hid (PoolOk f [(1, 16, R)]) := HON.out.ok
      have HFR : Hid _ := hfr
      have HBF : Hid (blkFault g2.2 = 0) := blk_right OK2.right
      have HVF : Hid (freeVal g2.2 = 0) := by show _ = _; unfold freeVal; rw [if_pos HBF.out, hfr]; rfl
      clear a1 a2 a3 a4 a5 a6 OK2 hfr
      go_upto_region 12 with fail
      go_cut [7] (fun v wx => ∃ xb : Nat, v = .pointer (some ⟨xb, 0, none⟩) ∧ ApBox wr wx xb 8 0 f [(1, 16, R)])
      case first =>
        have NZ := newB_mk wr #[.int .i64 0, .int .i64 0, .int .i64 0, .slice none 0 0, .slice none 0 0, .slice none 0 0] 33
        have BA : Below wr.drew.heap.size wr.drew (wr.alloc (.cells #[.int .i64 0, .int .i64 0, .int .i64 0, .slice none 0 0, .slice none 0 0, .slice none 0 0] 33)).drew := ((Below.refl _ _).alloc (Nat.le_refl _) _ : Below wr.drew.heap.size wr.drew (wr.drew.alloc (.cells #[.int .i64 0, .int .i64 0, .int .i64 0, .slice none 0 0, .slice none 0 0, .slice none 0 0] 33)))
        have z0 : (wr.alloc (.cells #[.int .i64 0, .int .i64 0, .int .i64 0, .slice none 0 0, .slice none 0 0, .slice none 0 0] 33)).drew.cell? ⟨wr.heap.size, 0, none⟩ = some (.int .i64 0) := NZ.cell 0 _ rfl
        have z1 : (wr.alloc (.cells #[.int .i64 0, .int .i64 0, .int .i64 0, .slice none 0 0, .slice none 0 0, .slice none 0 0] 33)).drew.cell? ⟨wr.heap.size, 1, none⟩ = some (.int .i64 0) := NZ.cell 1 _ rfl
        have z2 : (wr.alloc (.cells #[.int .i64 0, .int .i64 0, .int .i64 0, .slice none 0 0, .slice none 0 0, .slice none 0 0] 33)).drew.cell? ⟨wr.heap.size, 2, none⟩ = some (.int .i64 0) := NZ.cell 2 _ rfl
        have z3 : (wr.alloc (.cells #[.int .i64 0, .int .i64 0, .int .i64 0, .slice none 0 0, .slice none 0 0, .slice none 0 0] 33)).drew.cell? ⟨wr.heap.size, 3, none⟩ = some (.slice none 0 0) := NZ.cell 3 _ rfl
        have z4 : (wr.alloc (.cells #[.int .i64 0, .int .i64 0, .int .i64 0, .slice none 0 0, .slice none 0 0, .slice none 0 0] 33)).drew.cell? ⟨wr.heap.size, 4, none⟩ = some (.slice none 0 0) := NZ.cell 4 _ rfl
        have z5 : (wr.alloc (.cells #[.int .i64 0, .int .i64 0, .int .i64 0, .slice none 0 0, .slice none 0 0, .slice none 0 0] 33)).drew.cell? ⟨wr.heap.size, 5, none⟩ = some (.slice none 0 0) := NZ.cell 5 _ rfl
        have f0 : (wr.alloc (.cells #[.int .i64 0, .int .i64 0, .int .i64 0, .slice none 0 0, .slice none 0 0, .slice none 0 0] 33)).drew.frozen? ⟨wr.heap.size, 0, none⟩ = false := NZ.froz 0
        have f1 : (wr.alloc (.cells #[.int .i64 0, .int .i64 0, .int .i64 0, .slice none 0 0, .slice none 0 0, .slice none 0 0] 33)).drew.frozen? ⟨wr.heap.size, 1, none⟩ = false := NZ.froz 1
        have f2 : (wr.alloc (.cells #[.int .i64 0, .int .i64 0, .int .i64 0, .slice none 0 0, .slice none 0 0, .slice none 0 0] 33)).drew.frozen? ⟨wr.heap.size, 2, none⟩ = false := NZ.froz 2
        have f3 : (wr.alloc (.cells #[.int .i64 0, .int .i64 0, .int .i64 0, .slice none 0 0, .slice none 0 0, .slice none 0 0] 33)).drew.frozen? ⟨wr.heap.size, 3, none⟩ = false := NZ.froz 3
        have f4 : (wr.alloc (.cells #[.int .i64 0, .int .i64 0, .int .i64 0, .slice none 0 0, .slice none 0 0, .slice none 0 0] 33)).drew.frozen? ⟨wr.heap.size, 4, none⟩ = false := NZ.froz 4
        have f5 : (wr.alloc (.cells #[.int .i64 0, .int .i64 0, .int .i64 0, .slice none 0 0, .slice none 0 0, .slice none 0 0] 33)).drew.frozen? ⟨wr.heap.size, 5, none⟩ = false := NZ.froz 5
        have HZ : Hid (wr.heap.size < (wr.alloc (.cells #[.int .i64 0, .int .i64 0, .int .i64 0, .slice none 0 0, .slice none 0 0, .slice none 0 0] 33)).drew.heap.size) := NZ.lt
        clear NZ
        have HE_b0 : Hid (b0 ≠ wr.heap.size) := Nat.ne_of_lt H0.out
        have D : Below wr.heap.size wr wr.drew := (Below.refl _ _).drew
        replace c0_0 := cell_later D c0_0
        replace c0_1 := cell_later D c0_1
        replace c0_2 := cell_later D c0_2
        replace P4 := P4.below D
        replace B4 := below_next B4 D
        have BW : Below wr.heap.size wr wr.drew := D
        clear D
        go_region_held3 (fun w' => w'.cell? ⟨b0, 0, none⟩ = some (.slice an nn cn) ∧ w'.cell? ⟨b0, 1, none⟩ = some (.slice ab nb cb) ∧ w'.cell? ⟨b0, 2, none⟩ = some (.slice av nv cv)) (first | with_reducible exact ⟨c0_0, c0_1, c0_2⟩ | with_reducible exact ⟨cell_later BA c0_0, cell_later BA c0_1, cell_later BA c0_2⟩ | with_reducible exact ⟨cell_later NZ0.below c0_0, cell_later NZ0.below c0_1, cell_later NZ0.below c0_2⟩ | with_reducible exact ⟨cell_later N6.below c0_0, cell_later N6.below c0_1, cell_later N6.below c0_2⟩ | with_reducible exact ⟨cell_later M6.below c0_0, cell_later M6.below c0_1, cell_later M6.below c0_2⟩ | with_reducible exact ⟨SB.at c0_0 HE_b0.out, SB.at c0_1 HE_b0.out, SB.at c0_2 HE_b0.out⟩ | with_reducible exact ⟨SB.at c0_0 (Nat.ne_of_lt (Nat.lt_of_lt_of_le H0.out HL0.out)), SB.at c0_1 (Nat.ne_of_lt (Nat.lt_of_lt_of_le H0.out HL0.out)), SB.at c0_2 (Nat.ne_of_lt (Nat.lt_of_lt_of_le H0.out HL0.out))⟩)
          (first | (go_at_call 11; (with_reducible refine (lwAt_of ac nc cc cs 9 16 9 16 H9I.out H16.out _ (h.below B4) hcs (by omega) hc (by omega) j9 HJ9.out).mono ?_); rintro e wl0 ⟨rfl, B5⟩; replace c0_0 := cell_later B5 c0_0; replace c0_1 := cell_later B5 c0_1; replace c0_2 := cell_later B5 c0_2; replace P4 := P4.below B5; replace B4 := below_next B4 B5; replace BW := below_next BW B5; have HL0 : Hid (wr.heap.size ≤ wl0.heap.size) := BW.size; have NZ0 := newB_mk wl0 #[.int .i64 0, .int .i64 0, .int .i64 0, .slice none 0 0, .slice none 0 0, .slice none 0 0] 33; clear B5) | (go_at_call 11; (with_reducible refine (lwAt_of ac nc cc cs 9 16 9 16 H9I.out H16.out _ (h.below (below_next B4 BA)) hcs (by omega) hc (by omega) j9 HJ9.out).mono ?_); rintro e wl0 ⟨rfl, B5⟩; replace c0_0 := cell_later BA c0_0; replace c0_1 := cell_later BA c0_1; replace c0_2 := cell_later BA c0_2; replace P4 := P4.below BA; replace B4 := below_next B4 BA; replace BW := below_next BW BA; replace f0 := frozen_later B5 HZ.out f0; replace f1 := frozen_later B5 HZ.out f1; replace f2 := frozen_later B5 HZ.out f2; replace f3 := frozen_later B5 HZ.out f3; replace f4 := frozen_later B5 HZ.out f4; replace f5 := frozen_later B5 HZ.out f5; replace z0 := cell_later B5 z0; replace z1 := cell_later B5 z1; replace z2 := cell_later B5 z2; replace z3 := cell_later B5 z3; replace z4 := cell_later B5 z4; replace z5 := cell_later B5 z5; (replace HZ : Hid (wr.heap.size < wl0.heap.size) := Nat.lt_of_lt_of_le HZ.out B5.size); have HZA : Hid (wr.heap.size < wl0.heap.size) := HZ; replace c0_0 := cell_later B5 c0_0; replace c0_1 := cell_later B5 c0_1; replace c0_2 := cell_later B5 c0_2; replace P4 := P4.below B5; replace B4 := below_next B4 B5; replace BW := below_next BW B5; have HL0 : Hid (wr.heap.size ≤ wl0.heap.size) := BW.size; have NZ0 := newB_mk wl0 #[.int .i64 0, .int .i64 0, .int .i64 0, .slice none 0 0, .slice none 0 0, .slice none 0 0] 33; clear B5) | (go_at_call 12; have hza := HZA.out; clear hza; (with_reducible refine (applyS P4 2 1 (j9 : Int) 7 8 0 f [(1, 16, R)] HA1.out HA2.out HOK0.out).mono ?_); rintro e w6 ⟨na, nn', nc', ob, on, oc, qa, qn, qc, rfl, P6, B6⟩; replace f0 := frozen_later B6 HZ.out f0; replace f1 := frozen_later B6 HZ.out f1; replace f2 := frozen_later B6 HZ.out f2; replace f3 := frozen_later B6 HZ.out f3; replace f4 := frozen_later B6 HZ.out f4; replace f5 := frozen_later B6 HZ.out f5; replace z0 := cell_later B6 z0; replace z1 := cell_later B6 z1; replace z2 := cell_later B6 z2; replace z3 := cell_later B6 z3; replace z4 := cell_later B6 z4; replace z5 := cell_later B6 z5; (replace HZ : Hid (wr.heap.size < w6.heap.size) := Nat.lt_of_lt_of_le HZ.out B6.size); replace c0_0 := cell_later B6 c0_0; replace c0_1 := cell_later B6 c0_1; replace c0_2 := cell_later B6 c0_2; replace P4 := P4.below B6; replace B4 := below_next B4 B6; replace BW := below_next BW B6; have SB : SetB w6 ((((((w6.setCell ⟨wr.heap.size, 0, none⟩ (.int .i64 0)).setCell ⟨wr.heap.size, 1, none⟩ (.int .i64 8)).setCell ⟨wr.heap.size, 2, none⟩ (.int .i64 0)).setCell ⟨wr.heap.size, 3, none⟩ (.slice na nn' nc')).setCell ⟨wr.heap.size, 4, none⟩ (.slice ob on oc)).setCell ⟨wr.heap.size, 5, none⟩ (.slice qa qn qc)) wr.heap.size [.int .i64 0, .int .i64 8, .int .i64 0, .slice na nn' nc', .slice ob on oc, .slice qa qn qc] := setB_cells (cs := [.int .i64 0, .int .i64 8, .int .i64 0, .slice na nn' nc', .slice ob on oc, .slice qa qn qc]) (by simp) (there6 z0 z1 z2 z3 z4 z5 f0 f1 f2 f3 f4 f5); clear B6) | (go_at_call 12; (with_reducible refine (applyS P4 2 1 (j9 : Int) 7 8 0 f [(1, 16, R)] HA1.out HA2.out HOK0.out).mono ?_); rintro e w6 ⟨na, nn', nc', ob, on, oc, qa, qn, qc, rfl, P6, B6⟩; replace c0_0 := cell_later B6 c0_0; replace c0_1 := cell_later B6 c0_1; replace c0_2 := cell_later B6 c0_2; replace P4 := P4.below B6; replace B4 := below_next B4 B6; replace BW := below_next BW B6; have N6 := newB_mk w6 #[.int .i64 0, .int .i64 0, .int .i64 0, .slice none 0 0, .slice none 0 0, .slice none 0 0] 33; have M6 := newB_mk w6 #[.int .i64 0, .int .i64 8, .int .i64 0, .slice na nn' nc', .slice ob on oc, .slice qa qn qc] 33; clear B6) | (go_at_call 12; (with_reducible refine (applyS (P4.below NZ0.below) 2 1 (j9 : Int) 7 8 0 f [(1, 16, R)] HA1.out HA2.out HOK0.out).mono ?_); rintro e w6 ⟨na, nn', nc', ob, on, oc, qa, qn, qc, rfl, P6, B6⟩; have zz0 : w6.cell? ⟨wl0.heap.size, 0, none⟩ = some (.int .i64 0) := cell_later B6 (NZ0.cell 0 _ rfl); have zz1 : w6.cell? ⟨wl0.heap.size, 1, none⟩ = some (.int .i64 0) := cell_later B6 (NZ0.cell 1 _ rfl); have zz2 : w6.cell? ⟨wl0.heap.size, 2, none⟩ = some (.int .i64 0) := cell_later B6 (NZ0.cell 2 _ rfl); have zz3 : w6.cell? ⟨wl0.heap.size, 3, none⟩ = some (.slice none 0 0) := cell_later B6 (NZ0.cell 3 _ rfl); have zz4 : w6.cell? ⟨wl0.heap.size, 4, none⟩ = some (.slice none 0 0) := cell_later B6 (NZ0.cell 4 _ rfl); have zz5 : w6.cell? ⟨wl0.heap.size, 5, none⟩ = some (.slice none 0 0) := cell_later B6 (NZ0.cell 5 _ rfl); have ff0 : w6.frozen? ⟨wl0.heap.size, 0, none⟩ = false := frozen_later B6 NZ0.lt (NZ0.froz 0); have ff1 : w6.frozen? ⟨wl0.heap.size, 1, none⟩ = false := frozen_later B6 NZ0.lt (NZ0.froz 1); have ff2 : w6.frozen? ⟨wl0.heap.size, 2, none⟩ = false := frozen_later B6 NZ0.lt (NZ0.froz 2); have ff3 : w6.frozen? ⟨wl0.heap.size, 3, none⟩ = false := frozen_later B6 NZ0.lt (NZ0.froz 3); have ff4 : w6.frozen? ⟨wl0.heap.size, 4, none⟩ = false := frozen_later B6 NZ0.lt (NZ0.froz 4); have ff5 : w6.frozen? ⟨wl0.heap.size, 5, none⟩ = false := frozen_later B6 NZ0.lt (NZ0.froz 5); replace c0_0 := cell_later NZ0.below c0_0; replace c0_1 := cell_later NZ0.below c0_1; replace c0_2 := cell_later NZ0.below c0_2; replace P4 := P4.below NZ0.below; replace B4 := below_next B4 NZ0.below; replace BW := below_next BW NZ0.below; replace c0_0 := cell_later B6 c0_0; replace c0_1 := cell_later B6 c0_1; replace c0_2 := cell_later B6 c0_2; replace P4 := P4.below B6; replace B4 := below_next B4 B6; replace BW := below_next BW B6; have SB : SetB w6 ((((((w6.setCell ⟨wl0.heap.size, 0, none⟩ (.int .i64 0)).setCell ⟨wl0.heap.size, 1, none⟩ (.int .i64 8)).setCell ⟨wl0.heap.size, 2, none⟩ (.int .i64 0)).setCell ⟨wl0.heap.size, 3, none⟩ (.slice na nn' nc')).setCell ⟨wl0.heap.size, 4, none⟩ (.slice ob on oc)).setCell ⟨wl0.heap.size, 5, none⟩ (.slice qa qn qc)) wl0.heap.size [.int .i64 0, .int .i64 8, .int .i64 0, .slice na nn' nc', .slice ob on oc, .slice qa qn qc] := setB_cells (cs := [.int .i64 0, .int .i64 8, .int .i64 0, .slice na nn' nc', .slice ob on oc, .slice qa qn qc]) (by simp) (there6 zz0 zz1 zz2 zz3 zz4 zz5 ff0 ff1 ff2 ff3 ff4 ff5); have HLB : Hid (wl0.heap.size < ((wl0.alloc (.cells #[.int .i64 0, .int .i64 0, .int .i64 0, .slice none 0 0, .slice none 0 0, .slice none 0 0] 33))).heap.size) := NZ0.lt; clear B6))
        all_goals
          go_wp2_with fail
          go_meet
          first | (with_reducible exact ⟨_, rfl, ApBox.new P6 BW⟩) | (exact ⟨_, rfl, ApBox.set P6 BW SB HZA.out (Nat.le_refl _)⟩) | (exact ⟨_, rfl, ApBox.set P6 BW SB HLB.out HL0.out⟩)
      case rest =>
        obtain ⟨xb, rfl, ea, en, ec, fa, fn, fc, ga, gn, gc, lo2, hi2, x0, x1, x2, x3, x4, x5, P5, BX⟩ := hcut
        replace c0_0 := cell_later BX c0_0
        replace c0_1 := cell_later BX c0_1
        replace c0_2 := cell_later BX c0_2
        replace P4 := P4.below BX
        replace H0 : Hid (b0 < wc.heap.size) := Nat.lt_of_lt_of_le H0.out BX.size
        replace B4 := below_next B4 BX
        clear BX
        obtain ⟨w7, hw7⟩ : ∃ w7, w7 = wc := ⟨_, rfl⟩
        subst hw7
        go_upto_region 13 with fail
        go_cut [8] (fun v wx => ∃ xb : Nat, v = .pointer (some ⟨xb, 0, none⟩) ∧ ApBox w7 wx xb 0 0 g [(1, 16, T)])
        case first =>
          have NZ := newB_mk w7 #[.int .i64 0, .int .i64 0, .int .i64 0, .slice none 0 0, .slice none 0 0, .slice none 0 0] 33
          have BA : Below w7.drew.heap.size w7.drew (w7.alloc (.cells #[.int .i64 0, .int .i64 0, .int .i64 0, .slice none 0 0, .slice none 0 0, .slice none 0 0] 33)).drew := ((Below.refl _ _).alloc (Nat.le_refl _) _ : Below w7.drew.heap.size w7.drew (w7.drew.alloc (.cells #[.int .i64 0, .int .i64 0, .int .i64 0, .slice none 0 0, .slice none 0 0, .slice none 0 0] 33)))
          have z0 : (w7.alloc (.cells #[.int .i64 0, .int .i64 0, .int .i64 0, .slice none 0 0, .slice none 0 0, .slice none 0 0] 33)).drew.cell? ⟨w7.heap.size, 0, none⟩ = some (.int .i64 0) := NZ.cell 0 _ rfl
          have z1 : (w7.alloc (.cells #[.int .i64 0, .int .i64 0, .int .i64 0, .slice none 0 0, .slice none 0 0, .slice none 0 0] 33)).drew.cell? ⟨w7.heap.size, 1, none⟩ = some (.int .i64 0) := NZ.cell 1 _ rfl
          have z2 : (w7.alloc (.cells #[.int .i64 0, .int .i64 0, .int .i64 0, .slice none 0 0, .slice none 0 0, .slice none 0 0] 33)).drew.cell? ⟨w7.heap.size, 2, none⟩ = some (.int .i64 0) := NZ.cell 2 _ rfl
          have z3 : (w7.alloc (.cells #[.int .i64 0, .int .i64 0, .int .i64 0, .slice none 0 0, .slice none 0 0, .slice none 0 0] 33)).drew.cell? ⟨w7.heap.size, 3, none⟩ = some (.slice none 0 0) := NZ.cell 3 _ rfl
          have z4 : (w7.alloc (.cells #[.int .i64 0, .int .i64 0, .int .i64 0, .slice none 0 0, .slice none 0 0, .slice none 0 0] 33)).drew.cell? ⟨w7.heap.size, 4, none⟩ = some (.slice none 0 0) := NZ.cell 4 _ rfl
          have z5 : (w7.alloc (.cells #[.int .i64 0, .int .i64 0, .int .i64 0, .slice none 0 0, .slice none 0 0, .slice none 0 0] 33)).drew.cell? ⟨w7.heap.size, 5, none⟩ = some (.slice none 0 0) := NZ.cell 5 _ rfl
          have f0 : (w7.alloc (.cells #[.int .i64 0, .int .i64 0, .int .i64 0, .slice none 0 0, .slice none 0 0, .slice none 0 0] 33)).drew.frozen? ⟨w7.heap.size, 0, none⟩ = false := NZ.froz 0
          have f1 : (w7.alloc (.cells #[.int .i64 0, .int .i64 0, .int .i64 0, .slice none 0 0, .slice none 0 0, .slice none 0 0] 33)).drew.frozen? ⟨w7.heap.size, 1, none⟩ = false := NZ.froz 1
          have f2 : (w7.alloc (.cells #[.int .i64 0, .int .i64 0, .int .i64 0, .slice none 0 0, .slice none 0 0, .slice none 0 0] 33)).drew.frozen? ⟨w7.heap.size, 2, none⟩ = false := NZ.froz 2
          have f3 : (w7.alloc (.cells #[.int .i64 0, .int .i64 0, .int .i64 0, .slice none 0 0, .slice none 0 0, .slice none 0 0] 33)).drew.frozen? ⟨w7.heap.size, 3, none⟩ = false := NZ.froz 3
          have f4 : (w7.alloc (.cells #[.int .i64 0, .int .i64 0, .int .i64 0, .slice none 0 0, .slice none 0 0, .slice none 0 0] 33)).drew.frozen? ⟨w7.heap.size, 4, none⟩ = false := NZ.froz 4
          have f5 : (w7.alloc (.cells #[.int .i64 0, .int .i64 0, .int .i64 0, .slice none 0 0, .slice none 0 0, .slice none 0 0] 33)).drew.frozen? ⟨w7.heap.size, 5, none⟩ = false := NZ.froz 5
          have HZ : Hid (w7.heap.size < (w7.alloc (.cells #[.int .i64 0, .int .i64 0, .int .i64 0, .slice none 0 0, .slice none 0 0, .slice none 0 0] 33)).drew.heap.size) := NZ.lt
          clear NZ
          have HE_b0 : Hid (b0 ≠ w7.heap.size) := Nat.ne_of_lt H0.out
          have D : Below w7.heap.size w7 w7.drew := (Below.refl _ _).drew
          replace c0_0 := cell_later D c0_0
          replace c0_1 := cell_later D c0_1
          replace c0_2 := cell_later D c0_2
          replace P4 := P4.below D
          replace B4 := below_next B4 D
          have BW : Below w7.heap.size w7 w7.drew := D
          clear D
          go_region_held3 (fun w' => w'.cell? ⟨b0, 0, none⟩ = some (.slice an nn cn) ∧ w'.cell? ⟨b0, 1, none⟩ = some (.slice ab nb cb) ∧ w'.cell? ⟨b0, 2, none⟩ = some (.slice av nv cv)) (first | with_reducible exact ⟨c0_0, c0_1, c0_2⟩ | with_reducible exact ⟨cell_later BA c0_0, cell_later BA c0_1, cell_later BA c0_2⟩ | with_reducible exact ⟨cell_later NZ0.below c0_0, cell_later NZ0.below c0_1, cell_later NZ0.below c0_2⟩ | with_reducible exact ⟨cell_later N6.below c0_0, cell_later N6.below c0_1, cell_later N6.below c0_2⟩ | with_reducible exact ⟨cell_later M6.below c0_0, cell_later M6.below c0_1, cell_later M6.below c0_2⟩ | with_reducible exact ⟨SB.at c0_0 HE_b0.out, SB.at c0_1 HE_b0.out, SB.at c0_2 HE_b0.out⟩ | with_reducible exact ⟨SB.at c0_0 (Nat.ne_of_lt (Nat.lt_of_lt_of_le H0.out HL0.out)), SB.at c0_1 (Nat.ne_of_lt (Nat.lt_of_lt_of_le H0.out HL0.out)), SB.at c0_2 (Nat.ne_of_lt (Nat.lt_of_lt_of_le H0.out HL0.out))⟩)
            (first | (go_at_call 11; (with_reducible refine (lwAt_of ac nc cc cs 10 (1 + d0) 10 q H10.out HQI.out _ (h.below B4) hcs (by omega) hc (by omega) j10 HJ10.out).mono ?_); rintro e wl0 ⟨rfl, B5⟩; replace c0_0 := cell_later B5 c0_0; replace c0_1 := cell_later B5 c0_1; replace c0_2 := cell_later B5 c0_2; replace P4 := P4.below B5; replace B4 := below_next B4 B5; replace BW := below_next BW B5; have HL0 : Hid (w7.heap.size ≤ wl0.heap.size) := BW.size; have NZ0 := newB_mk wl0 #[.int .i64 0, .int .i64 0, .int .i64 0, .slice none 0 0, .slice none 0 0, .slice none 0 0] 33; clear B5) | (go_at_call 11; (with_reducible refine (lwAt_of ac nc cc cs 10 (1 + d0) 10 q H10.out HQI.out _ (h.below (below_next B4 BA)) hcs (by omega) hc (by omega) j10 HJ10.out).mono ?_); rintro e wl0 ⟨rfl, B5⟩; replace c0_0 := cell_later BA c0_0; replace c0_1 := cell_later BA c0_1; replace c0_2 := cell_later BA c0_2; replace P4 := P4.below BA; replace B4 := below_next B4 BA; replace BW := below_next BW BA; replace f0 := frozen_later B5 HZ.out f0; replace f1 := frozen_later B5 HZ.out f1; replace f2 := frozen_later B5 HZ.out f2; replace f3 := frozen_later B5 HZ.out f3; replace f4 := frozen_later B5 HZ.out f4; replace f5 := frozen_later B5 HZ.out f5; replace z0 := cell_later B5 z0; replace z1 := cell_later B5 z1; replace z2 := cell_later B5 z2; replace z3 := cell_later B5 z3; replace z4 := cell_later B5 z4; replace z5 := cell_later B5 z5; (replace HZ : Hid (w7.heap.size < wl0.heap.size) := Nat.lt_of_lt_of_le HZ.out B5.size); have HZA : Hid (w7.heap.size < wl0.heap.size) := HZ; replace c0_0 := cell_later B5 c0_0; replace c0_1 := cell_later B5 c0_1; replace c0_2 := cell_later B5 c0_2; replace P4 := P4.below B5; replace B4 := below_next B4 B5; replace BW := below_next BW B5; have HL0 : Hid (w7.heap.size ≤ wl0.heap.size) := BW.size; have NZ0 := newB_mk wl0 #[.int .i64 0, .int .i64 0, .int .i64 0, .slice none 0 0, .slice none 0 0, .slice none 0 0] 33; clear B5) | (go_at_call 12; have hza := HZA.out; clear hza; (with_reducible refine (applyS P4 3 1 (j10 : Int) 0 0 0 g [(1, 16, T)] HA3.out HA4.out HOK.out).mono ?_); rintro e w6 ⟨na, nn', nc', ob, on, oc, qa, qn, qc, rfl, P6, B6⟩; replace f0 := frozen_later B6 HZ.out f0; replace f1 := frozen_later B6 HZ.out f1; replace f2 := frozen_later B6 HZ.out f2; replace f3 := frozen_later B6 HZ.out f3; replace f4 := frozen_later B6 HZ.out f4; replace f5 := frozen_later B6 HZ.out f5; replace z0 := cell_later B6 z0; replace z1 := cell_later B6 z1; replace z2 := cell_later B6 z2; replace z3 := cell_later B6 z3; replace z4 := cell_later B6 z4; replace z5 := cell_later B6 z5; (replace HZ : Hid (w7.heap.size < w6.heap.size) := Nat.lt_of_lt_of_le HZ.out B6.size); replace c0_0 := cell_later B6 c0_0; replace c0_1 := cell_later B6 c0_1; replace c0_2 := cell_later B6 c0_2; replace P4 := P4.below B6; replace B4 := below_next B4 B6; replace BW := below_next BW B6; have SB : SetB w6 ((((((w6.setCell ⟨w7.heap.size, 0, none⟩ (.int .i64 0)).setCell ⟨w7.heap.size, 1, none⟩ (.int .i64 0)).setCell ⟨w7.heap.size, 2, none⟩ (.int .i64 0)).setCell ⟨w7.heap.size, 3, none⟩ (.slice na nn' nc')).setCell ⟨w7.heap.size, 4, none⟩ (.slice ob on oc)).setCell ⟨w7.heap.size, 5, none⟩ (.slice qa qn qc)) w7.heap.size [.int .i64 0, .int .i64 0, .int .i64 0, .slice na nn' nc', .slice ob on oc, .slice qa qn qc] := setB_cells (cs := [.int .i64 0, .int .i64 0, .int .i64 0, .slice na nn' nc', .slice ob on oc, .slice qa qn qc]) (by simp) (there6 z0 z1 z2 z3 z4 z5 f0 f1 f2 f3 f4 f5); clear B6) | (go_at_call 12; (with_reducible refine (applyS P4 3 1 (j10 : Int) 0 0 0 g [(1, 16, T)] HA3.out HA4.out HOK.out).mono ?_); rintro e w6 ⟨na, nn', nc', ob, on, oc, qa, qn, qc, rfl, P6, B6⟩; replace c0_0 := cell_later B6 c0_0; replace c0_1 := cell_later B6 c0_1; replace c0_2 := cell_later B6 c0_2; replace P4 := P4.below B6; replace B4 := below_next B4 B6; replace BW := below_next BW B6; have N6 := newB_mk w6 #[.int .i64 0, .int .i64 0, .int .i64 0, .slice none 0 0, .slice none 0 0, .slice none 0 0] 33; have M6 := newB_mk w6 #[.int .i64 0, .int .i64 0, .int .i64 0, .slice na nn' nc', .slice ob on oc, .slice qa qn qc] 33; clear B6) | (go_at_call 12; (with_reducible refine (applyS (P4.below NZ0.below) 3 1 (j10 : Int) 0 0 0 g [(1, 16, T)] HA3.out HA4.out HOK.out).mono ?_); rintro e w6 ⟨na, nn', nc', ob, on, oc, qa, qn, qc, rfl, P6, B6⟩; have zz0 : w6.cell? ⟨wl0.heap.size, 0, none⟩ = some (.int .i64 0) := cell_later B6 (NZ0.cell 0 _ rfl); have zz1 : w6.cell? ⟨wl0.heap.size, 1, none⟩ = some (.int .i64 0) := cell_later B6 (NZ0.cell 1 _ rfl); have zz2 : w6.cell? ⟨wl0.heap.size, 2, none⟩ = some (.int .i64 0) := cell_later B6 (NZ0.cell 2 _ rfl); have zz3 : w6.cell? ⟨wl0.heap.size, 3, none⟩ = some (.slice none 0 0) := cell_later B6 (NZ0.cell 3 _ rfl); have zz4 : w6.cell? ⟨wl0.heap.size, 4, none⟩ = some (.slice none 0 0) := cell_later B6 (NZ0.cell 4 _ rfl); have zz5 : w6.cell? ⟨wl0.heap.size, 5, none⟩ = some (.slice none 0 0) := cell_later B6 (NZ0.cell 5 _ rfl); have ff0 : w6.frozen? ⟨wl0.heap.size, 0, none⟩ = false := frozen_later B6 NZ0.lt (NZ0.froz 0); have ff1 : w6.frozen? ⟨wl0.heap.size, 1, none⟩ = false := frozen_later B6 NZ0.lt (NZ0.froz 1); have ff2 : w6.frozen? ⟨wl0.heap.size, 2, none⟩ = false := frozen_later B6 NZ0.lt (NZ0.froz 2); have ff3 : w6.frozen? ⟨wl0.heap.size, 3, none⟩ = false := frozen_later B6 NZ0.lt (NZ0.froz 3); have ff4 : w6.frozen? ⟨wl0.heap.size, 4, none⟩ = false := frozen_later B6 NZ0.lt (NZ0.froz 4); have ff5 : w6.frozen? ⟨wl0.heap.size, 5, none⟩ = false := frozen_later B6 NZ0.lt (NZ0.froz 5); replace c0_0 := cell_later NZ0.below c0_0; replace c0_1 := cell_later NZ0.below c0_1; replace c0_2 := cell_later NZ0.below c0_2; replace P4 := P4.below NZ0.below; replace B4 := below_next B4 NZ0.below; replace BW := below_next BW NZ0.below; replace c0_0 := cell_later B6 c0_0; replace c0_1 := cell_later B6 c0_1; replace c0_2 := cell_later B6 c0_2; replace P4 := P4.below B6; replace B4 := below_next B4 B6; replace BW := below_next BW B6; have SB : SetB w6 ((((((w6.setCell ⟨wl0.heap.size, 0, none⟩ (.int .i64 0)).setCell ⟨wl0.heap.size, 1, none⟩ (.int .i64 0)).setCell ⟨wl0.heap.size, 2, none⟩ (.int .i64 0)).setCell ⟨wl0.heap.size, 3, none⟩ (.slice na nn' nc')).setCell ⟨wl0.heap.size, 4, none⟩ (.slice ob on oc)).setCell ⟨wl0.heap.size, 5, none⟩ (.slice qa qn qc)) wl0.heap.size [.int .i64 0, .int .i64 0, .int .i64 0, .slice na nn' nc', .slice ob on oc, .slice qa qn qc] := setB_cells (cs := [.int .i64 0, .int .i64 0, .int .i64 0, .slice na nn' nc', .slice ob on oc, .slice qa qn qc]) (by simp) (there6 zz0 zz1 zz2 zz3 zz4 zz5 ff0 ff1 ff2 ff3 ff4 ff5); have HLB : Hid (wl0.heap.size < ((wl0.alloc (.cells #[.int .i64 0, .int .i64 0, .int .i64 0, .slice none 0 0, .slice none 0 0, .slice none 0 0] 33))).heap.size) := NZ0.lt; clear B6))
          all_goals
            go_wp2_with fail
            go_meet
            first | (with_reducible exact ⟨_, rfl, ApBox.new P6 BW⟩) | (exact ⟨_, rfl, ApBox.set P6 BW SB HZA.out (Nat.le_refl _)⟩) | (exact ⟨_, rfl, ApBox.set P6 BW SB HLB.out HL0.out⟩)
        case rest =>
          obtain ⟨yb, rfl, sa, sn, sc, ta, tn, tc, va, vn, vc, lo3, hi3, v0, v1, v2, v3, v4, v5, P6, BX⟩ := hcut
          replace c0_0 := cell_later BX c0_0
          replace c0_1 := cell_later BX c0_1
          replace c0_2 := cell_later BX c0_2
          replace x0 := cell_later BX x0
          replace x1 := cell_later BX x1
          replace x2 := cell_later BX x2
          replace x3 := cell_later BX x3
          replace x4 := cell_later BX x4
          replace x5 := cell_later BX x5
          replace P4 := P4.below BX
          replace P5 := P5.below BX
          replace B4 := below_next B4 BX
          clear BX
          obtain ⟨w8, hw8⟩ : ∃ w8, w8 = wc := ⟨_, rfl⟩
          subst hw8
          go_wp2_with fail
          refine (applyS P6 2 1 15 7 0 0 g2 [(1, 16, T2)] HA5.out HA6.out HOK2.out).mono ?_
          rintro e w9 ⟨ka, kn, kc, ma, mn, mc, na, nn2, nc2, rfl, P7, B9⟩
          replace c0_0 := cell_later B9 c0_0
          replace c0_1 := cell_later B9 c0_1
          replace c0_2 := cell_later B9 c0_2
          replace x0 := cell_later B9 x0
          replace x1 := cell_later B9 x1
          replace x2 := cell_later B9 x2
          replace x3 := cell_later B9 x3
          replace x4 := cell_later B9 x4
          replace x5 := cell_later B9 x5
          replace v0 := cell_later B9 v0
          replace v1 := cell_later B9 v1
          replace v2 := cell_later B9 v2
          replace v3 := cell_later B9 v3
          replace v4 := cell_later B9 v4
          replace v5 := cell_later B9 v5
          replace P4 := P4.below B9
          replace P5 := P5.below B9
          replace B4 := below_next B4 B9
          clear B9
          have HBZ : Hid (w0.heap.size ≤ w9.heap.size) := B4.size
          have HS4 : Hid (hi ≤ w9.heap.size) := P4.hs
          have HS5 : Hid (hi2 ≤ w9.heap.size) := P5.hs
          have iF := intField
          skip
          go_wp2_with (first | ((with_reducible refine alloc_new 33 #[.int .i64 0, .int .i64 0, .int .i64 0, .slice none 0 0, .slice none 0 0, .slice none 0 0] (fun _ => by kernel_rfl) ?_); intro b1 X1 N1; have n_c0_0 : Hid (_ ≠ b1) := Nat.ne_of_lt (Nat.lt_of_lt_of_le (World.block_lt_of_cell? w9 _ c0_0) N1.ge); replace c0_0 := cell_later N1.below c0_0; have n_c0_1 : Hid (_ ≠ b1) := Nat.ne_of_lt (Nat.lt_of_lt_of_le (World.block_lt_of_cell? w9 _ c0_1) N1.ge); replace c0_1 := cell_later N1.below c0_1; have n_c0_2 : Hid (_ ≠ b1) := Nat.ne_of_lt (Nat.lt_of_lt_of_le (World.block_lt_of_cell? w9 _ c0_2) N1.ge); replace c0_2 := cell_later N1.below c0_2; have n_x0 : Hid (_ ≠ b1) := Nat.ne_of_lt (Nat.lt_of_lt_of_le (World.block_lt_of_cell? w9 _ x0) N1.ge); replace x0 := cell_later N1.below x0; have n_x1 : Hid (_ ≠ b1) := Nat.ne_of_lt (Nat.lt_of_lt_of_le (World.block_lt_of_cell? w9 _ x1) N1.ge); replace x1 := cell_later N1.below x1; have n_x2 : Hid (_ ≠ b1) := Nat.ne_of_lt (Nat.lt_of_lt_of_le (World.block_lt_of_cell? w9 _ x2) N1.ge); replace x2 := cell_later N1.below x2; have n_x3 : Hid (_ ≠ b1) := Nat.ne_of_lt (Nat.lt_of_lt_of_le (World.block_lt_of_cell? w9 _ x3) N1.ge); replace x3 := cell_later N1.below x3; have n_x4 : Hid (_ ≠ b1) := Nat.ne_of_lt (Nat.lt_of_lt_of_le (World.block_lt_of_cell? w9 _ x4) N1.ge); replace x4 := cell_later N1.below x4; have n_x5 : Hid (_ ≠ b1) := Nat.ne_of_lt (Nat.lt_of_lt_of_le (World.block_lt_of_cell? w9 _ x5) N1.ge); replace x5 := cell_later N1.below x5; have n_v0 : Hid (_ ≠ b1) := Nat.ne_of_lt (Nat.lt_of_lt_of_le (World.block_lt_of_cell? w9 _ v0) N1.ge); replace v0 := cell_later N1.below v0; have n_v1 : Hid (_ ≠ b1) := Nat.ne_of_lt (Nat.lt_of_lt_of_le (World.block_lt_of_cell? w9 _ v1) N1.ge); replace v1 := cell_later N1.below v1; have n_v2 : Hid (_ ≠ b1) := Nat.ne_of_lt (Nat.lt_of_lt_of_le (World.block_lt_of_cell? w9 _ v2) N1.ge); replace v2 := cell_later N1.below v2; have n_v3 : Hid (_ ≠ b1) := Nat.ne_of_lt (Nat.lt_of_lt_of_le (World.block_lt_of_cell? w9 _ v3) N1.ge); replace v3 := cell_later N1.below v3; have n_v4 : Hid (_ ≠ b1) := Nat.ne_of_lt (Nat.lt_of_lt_of_le (World.block_lt_of_cell? w9 _ v4) N1.ge); replace v4 := cell_later N1.below v4; have n_v5 : Hid (_ ≠ b1) := Nat.ne_of_lt (Nat.lt_of_lt_of_le (World.block_lt_of_cell? w9 _ v5) N1.ge); replace v5 := cell_later N1.below v5; replace P4 := P4.below N1.below; replace P5 := P5.below N1.below; have P8 := P7.below N1.below; replace B4 := below_next B4 N1.below; have c1_0 : X1.cell? ⟨b1, 0, none⟩ = some (.int .i64 0) := N1.cell 0 _ rfl; have y1_0 : X1.frozen? ⟨b1, 0, none⟩ = false := N1.froz 0; have c1_1 : X1.cell? ⟨b1, 1, none⟩ = some (.int .i64 0) := N1.cell 1 _ rfl; have y1_1 : X1.frozen? ⟨b1, 1, none⟩ = false := N1.froz 1; have c1_2 : X1.cell? ⟨b1, 2, none⟩ = some (.int .i64 0) := N1.cell 2 _ rfl; have y1_2 : X1.frozen? ⟨b1, 2, none⟩ = false := N1.froz 2; have c1_3 : X1.cell? ⟨b1, 3, none⟩ = some (.slice none 0 0) := N1.cell 3 _ rfl; have y1_3 : X1.frozen? ⟨b1, 3, none⟩ = false := N1.froz 3; have c1_4 : X1.cell? ⟨b1, 4, none⟩ = some (.slice none 0 0) := N1.cell 4 _ rfl; have y1_4 : X1.frozen? ⟨b1, 4, none⟩ = false := N1.froz 4; have c1_5 : X1.cell? ⟨b1, 5, none⟩ = some (.slice none 0 0) := N1.cell 5 _ rfl; have y1_5 : X1.frozen? ⟨b1, 5, none⟩ = false := N1.froz 5; have HN1 : Hid (w9.heap.size ≤ b1) := N1.ge; have HNB : Hid (w0.heap.size ≤ b1) := Nat.le_trans HBZ.out N1.ge; clear N1) | ((with_reducible refine store_box 33 b1 [.int .i64 0, .int .i64 0, .int .i64 0, .slice ka kn kc, .slice ma mn mc, .slice na nn2 nc2] (by simp) (there6 c1_0 c1_1 c1_2 c1_3 c1_4 c1_5 y1_0 y1_1 y1_2 y1_3 y1_4 y1_5) (by kernel_rfl) (by simp [Value.oneCell']) rfl rfl ?_); intro X2 S1; have P9 := P8.set S1 (Or.inl HN1.out); replace P4 := P4.set S1 (Or.inl (Nat.le_trans HS4.out HN1.out)); replace P5 := P5.set S1 (Or.inl (Nat.le_trans HS5.out HN1.out)); replace c0_0 := S1.at c0_0 n_c0_0.out; replace c0_1 := S1.at c0_1 n_c0_1.out; replace c0_2 := S1.at c0_2 n_c0_2.out; replace x0 := S1.at x0 n_x0.out; replace x1 := S1.at x1 n_x1.out; replace x2 := S1.at x2 n_x2.out; replace x3 := S1.at x3 n_x3.out; replace x4 := S1.at x4 n_x4.out; replace x5 := S1.at x5 n_x5.out; replace v0 := S1.at v0 n_v0.out; replace v1 := S1.at v1 n_v1.out; replace v2 := S1.at v2 n_v2.out; replace v3 := S1.at v3 n_v3.out; replace v4 := S1.at v4 n_v4.out; replace v5 := S1.at v5 n_v5.out; replace c1_0 : X2.cell? ⟨b1, 0, none⟩ = some (.int .i64 0) := S1.cell 0 _ rfl; replace c1_1 : X2.cell? ⟨b1, 1, none⟩ = some (.int .i64 0) := S1.cell 1 _ rfl; replace c1_2 : X2.cell? ⟨b1, 2, none⟩ = some (.int .i64 0) := S1.cell 2 _ rfl; replace c1_3 : X2.cell? ⟨b1, 3, none⟩ = some (.slice ka kn kc) := S1.cell 3 _ rfl; replace c1_4 : X2.cell? ⟨b1, 4, none⟩ = some (.slice ma mn mc) := S1.cell 4 _ rfl; replace c1_5 : X2.cell? ⟨b1, 5, none⟩ = some (.slice na nn2 nc2) := S1.cell 5 _ rfl; replace B4 := B4.trans (S1.kept.below _ HNB.out B4.size); clear S1 P8 P7) | fail)
          obtain ⟨l, u, l2, u2, K1, F1, V1, hK1, _, _⟩ := P5.ex
          obtain ⟨m, o, m2, o2, K2, F2, V2, hK2, _, _⟩ := P4.ex
          refine (implSame_is ea en ec fa fn fc an nn cn ab nb cb ga gn gc av nv cv K1 K2 f f [(1, 16, R)] [(1, 16, R)] _ F1 F2 V1 V2 (Nat.le_trans P5.hv (by decide)) (Nat.le_trans P4.hv (by decide)) (Nat.le_trans P5.hn (by decide)) (Nat.le_trans P5.hb (by decide)) (fun i hi => Nat.le_trans (hK1 i hi) (by decide)) (Nat.le_trans P4.hn (by decide)) (Nat.le_trans P4.hb (by decide)) (fun i hi => Nat.le_trans (hK2 i hi) (by decide)) true (by simp)).mono ?_
          rintro e w10 ⟨rfl, B10⟩
          replace v0 := cell_later B10 v0
          replace v1 := cell_later B10 v1
          replace v2 := cell_later B10 v2
          replace v3 := cell_later B10 v3
          replace v4 := cell_later B10 v4
          replace v5 := cell_later B10 v5
          replace c1_0 := cell_later B10 c1_0
          replace c1_1 := cell_later B10 c1_1
          replace c1_2 := cell_later B10 c1_2
          replace c1_3 := cell_later B10 c1_3
          replace c1_4 := cell_later B10 c1_4
          replace c1_5 := cell_later B10 c1_5
          replace P9 := P9.below B10
          replace B4 := below_next B4 B10
          clear B10
          obtain ⟨l3, u3, m3, o3, K3, F3, V3, hK3, _, _⟩ := P9.ex
          have HB3 := F3.blocks
          go_wp2_with fail
          refine (implFree_is ma mn mc g2.2 _ HB3 (Nat.le_trans P9.hb (by decide)) 0 0 HBF.out HVF.out).mono ?_
          rintro e w11 ⟨rfl, B11⟩
          replace B4 := below_next B4 B11
          go_wp2
          go_ret
          exact ⟨by first | rfl | exact ret_bool (by simp), B4⟩

end Go.Proofs.Ytikjndmgljkhhaa

/- Where no block is free nothing is written, and nothing changes by trying: FnFulls is true at every code, with no condition. -/
namespace Go.Proofs.Ytikjndmgljkhhaa
open Go.RowKit

open Go.ChangeShapes Go.WideShapes Go.ChangeAt Go.Joins

set_option maxRecDepth 100000 in
theorem liftedFulls (os : Os) (started : os.Started) (H : Type) (enc : TypeId × Value → H) :
    ReturnsInHanded {} Try.checked os 3 .any (Rows.fnFullsSpec.pre6 enc Try.prog Try.f3 Rows.fnFullsRow.domain false) (Rows.fnFullsSpec.post enc Try.prog Try.f3 false true false false) := by
  refine returnsInHanded_of_change (C := Try.checked) Try.own started (by kernel_rfl) Try.func3
    (ChangeSpec.witness6 (enc := enc) (C := Try.checked) false ⟨#[], #[.slice none 0 0], []⟩ 8 (by kernel_rfl) (by kernel_rfl) (by kernel_rfl) (by kernel_rfl)) ?_
  intro W base args ds gs before hval0 hW hcnd _
  have hval : ∀ (j : Nat) t v, Try.f3.params[j]? = some t → args[j]? = some v → Value.okWide Try.prog W .any base t v := hval0
  have hW' := hW
  obtain ⟨p, q, hA0, hV, rfl, hfz, hnd⟩ := hW
  have hA : DataW.TrodAll enc Try.prog W 0 (fun _ => true) true Try.f3.params.toList args.toList ds p := hA0
  rw [Try.params3] at hA hval
  obtain ⟨v0, vs0, d0, ds0, p0, q0, hargs, rfl, rfl, h0, r0⟩ := trodAll_cons hA
  obtain ⟨rfl, rfl, rfl⟩ := trodAll_nil r0
  obtain rfl : args = #[v0] := by cases args; simp_all
  obtain ⟨rfl, rfl⟩ := trodVars_none hV
  have lt0 : ∀ x ∈ p0, x.block < W.heap.size := by obtain ⟨m, hm⟩ := h0; exact DataW.trod_lt m _ _ _ hm
  have k0 := h0
  obtain ⟨fuel, hf⟩ := h0
  obtain ⟨av, lv, cv, rfl⟩ := okWide_slice Try.underlying22 (hval 0 22 v0 rfl rfl)
  obtain ⟨a2, n2, c2, zs, hv, hn2, hz2, s2⟩ := read_bytes Try.underlying22 Try.underlying5 (by kernel_rfl) (v := .slice av lv cv) (by simpa [Value.cells] using hf)
  obtain ⟨rfl, rfl, rfl⟩ := Value.slice.inj hv
  clear hA0 hval0
  refine (lawFulls _ _ _ zs W s2 hz2 hn2).mono fun e W' ⟨he, bel⟩ => ?_
  subst he
  exact ⟨_, rfl, _, _, _, [], _, [], hW', trodAll_mk1 (shut_bool Try.underlying4 _), (trodAll_cons_mk (Below.trod Try.laidOut (by kernel_rfl) (of_decide_eq_true (by kernel_rfl)) k0 bel lt0) trodAll_mk0), rfl, bel.frame _, fun h => by cases h⟩

set_option maxRecDepth 100000 in
set_option maxHeartbeats 0 in
theorem closedFulls : joinedFacts Try.prog 3 Try.f3 Rows.fnFullsSpec Rows.fnFullsRow = true := by
  have q1 : (Rows.fnFullsRow.inPlace == Try.prog.inPlace 3) = true := by rw [inPlace_at leads_is inp_is]; kernel_rfl
  have q2 : (Rows.fnFullsRow.unfollowed == Try.prog.unfollowed 3) = true := by rw [unfollowed_at leads_is unf_is]; kernel_rfl
  have q3 : (Rows.fnFullsRow.recurses == Try.prog.recurses 3) = true := (by rw [recurses_unf leads_is (by rw [unfollowed_at leads_is unf_is]; kernel_rfl)]; rfl)
  have q4 : (Rows.fnFullsRow.named == Try.prog.varsNamed 3) = true := by rw [varsNamed_at leads_is var_ok ent_is]; kernel_rfl
  have q5 : (Try.prog.make == some Rows.fnFullsRow.make) = true := by rw [made_cut]; rfl
  have q6 : (Rows.fnFullsRow.lifted == Try.prog.liftsFinal) = true := by rw [lifts_no]; rfl
  have q7 : Try.prog.mayEnter = true := may_enter
  have q8 : laidOutB Try.prog = true := Try.laidOut
  unfold joinedFacts
  repeat' (with_reducible refine Bool.and_eq_true_iff.2 ⟨?_, ?_⟩)
  all_goals (first | with_reducible exact q1 | with_reducible exact q2 | with_reducible exact q3 | with_reducible exact q4 | with_reducible exact q5 | with_reducible exact q6 | with_reducible exact q7 | with_reducible exact q8 | (as_aux_lemma => kernel_rfl))

theorem fulls_holds : Rows.FnFullsSaid :=
  OpenClaim.holds_of_wide 3 Try.f3 rfl rfl rfl rfl rfl rfl rfl ⟨rfl, rfl, rfl, rfl, rfl⟩ rfl rfl rfl rfl rfl (by as_aux_lemma => kernel_rfl) Try.func3 closedFulls
    (of_decide_eq_true (by as_aux_lemma => kernel_rfl)) (by unfold Func.isWrapper; first | (rw [if_pos (by decide +kernel)]; kernel_rfl) | (rw [if_neg (by decide +kernel)]; exact ⟨rfl, rfl⟩))
    (fun os started H enc _ => liftedFulls os started H enc)

#print axioms fulls_holds

end Go.Proofs.Ytikjndmgljkhhaa
