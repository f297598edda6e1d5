/- Chapter 12: sessions copied, compared and counted by the laws. -/
import Derived.Test.YtedgppggaceopaaMS0
import Derived.Test.YtedgppggaceopaaZM
namespace Go.Proofs.Ytedgppggaceopaa
open Go.RowKit

theorem toSession_any (p q k v : Int) (w : World) :
    Calls Try.prog 49 #[.agg #[.int .i64 p, .int .i64 q, .int .i64 k, .int .i64 v]] w fun e w' => e = .returned (.agg #[.int .i64 p, .int .i64 q, .int .i64 k, .int .i64 v]) ∧ Below w.heap.size w w' := by
  go_enter Try.func49, Try.ntmps49
  go_wp2
  refine bodyPost_ret (v := .agg #[.int .i64 p, .int .i64 q, .int .i64 k, .int .i64 v]) (by simp [results, Try.results49, go_sem]) rfl ⟨rfl, ?_⟩
  exact ((((Below.refl _ _).alloc (Nat.le_refl _) _).alloc (by simp) _).alloc (by simp; omega) _)
theorem Try.infoSession : (Try.prog.info? 54).map (fun i => (i.zero, i.size, i.bytes)) = some (some (.agg #[.int .i64 0, .int .i64 0, .int .i64 0, .int .i64 0]), 4, 32) := by kernel_rfl
theorem made4 (n : Nat) : (madeCells #[.int .i64 0, .int .i64 0, .int .i64 0, .int .i64 0] (n * 4)).toList = List.replicate (n * 4) (.int .i64 0) := by
  apply List.ext_getElem?
  intro j
  by_cases hj : j < n * 4
  · have : j % 4 = 0 ∨ j % 4 = 1 ∨ j % 4 = 2 ∨ j % 4 = 3 := by omega
    rcases this with e | e | e | e <;> simp [madeCells, hj, e]
  · simp [madeCells, hj]
theorem fours_getD0 (vs : List Se) (k : Nat) (h : k < vs.length) : (fours vs).getD (k * 4) default = .int .i64 (vs.getD k se0).1 := fours_get vs k 0 h (by omega)
theorem fours_getD1 (vs : List Se) (k : Nat) (h : k < vs.length) : (fours vs).getD (k * 4 + 1) default = .int .i64 (vs.getD k se0).2.1 := fours_get vs k 1 h (by omega)
theorem fours_getD2 (vs : List Se) (k : Nat) (h : k < vs.length) : (fours vs).getD (k * 4 + 2) default = .int .i64 (vs.getD k se0).2.2.1 := fours_get vs k 2 h (by omega)
theorem fours_getD3 (vs : List Se) (k : Nat) (h : k < vs.length) : (fours vs).getD (k * 4 + 3) default = .int .i64 (vs.getD k se0).2.2.2 := fours_get vs k 3 h (by omega)

set_option maxRecDepth 20000 in
set_option maxHeartbeats 1600000 in
theorem toSessions_any {own : Bool} {lo hi : Nat} (ao : Option Addr) (n cap : Nat) (xs : List Se) (w : World) (h : RowAt w own lo hi 4 ao n cap (fours xs)) (hn : n ≤ 1048576) :
    Calls Try.prog 26 #[.slice ao n cap] w fun e w' => e = .returned (.slice (some ⟨w.heap.size, 0, none⟩) n n) ∧ RowAt w' true w.heap.size w'.heap.size 4 (some ⟨w.heap.size, 0, none⟩) n n (fours xs) ∧ Below w.heap.size w w' := by
  have hx := h.nFours
  obtain ⟨i0, hi0, hz0, hz1, hz2⟩ := info_parts Try.infoSession
  go_enter Try.func26, Try.ntmps26
  go_wp2_with (first | (at_make; refine wpList_make_full _ rfl _ _ 41 rfl w.heap.size 54 i0 (.agg #[.int .i64 0, .int .i64 0, .int .i64 0, .int .i64 0]) 4 Try.underlying41 hi0 hz0 hz1 _ _ _ _ n rfl rfl rfl rfl ?b1 ?b2 ?b3 ?_))
  case b1 => rw [hz2]; omega
  case b2 => unfold maxLen; omega
  case b3 => exact Nat.le_refl _
  intro w1 hown hgrow
  have hb1 : Below w.heap.size w w1 := (Below.refl _ _).grown hgrow (Nat.le_refl _) (fun k hk => by cases hk)
  have hown0 : w1.ownsRow w.heap.size 54 4 (.slice (some ⟨w.heap.size, 0, none⟩) n n) n (cop (fours xs) (.int .i64 0) (0 * 4)) := by
    rw [Nat.zero_mul, cop_zero, fours_len, hx]; simpa [Value.cells, made4] using hown
  clear hown hgrow
  go_wp2
  go_loopw [4] (fun i wr => ∃ k : Nat, k ≤ n ∧ i = .int .i64 k ∧ wr.ownsRow w.heap.size 54 4 (.slice (some ⟨w.heap.size, 0, none⟩) n n) n (cop (fours xs) (.int .i64 0) (k * 4)) ∧ Below w.heap.size w wr) (fun i _ => n - (intOf i).toNat)
  case atStart => exact ⟨0, Nat.zero_le _, rfl, hown0, hb1⟩
  case round =>
    obtain ⟨k, hk, rfl, hown, hb⟩ := hrel
    clear hown0 hb1
    by_cases hlt : k < n
    · obtain ⟨b, off, rfl, _, _, hbs, hc0, hc1, hc2, hc3, _⟩ := h.four hlt
      have hcr0 := (hb.cell (p := ⟨b, off + k * 4, none⟩) hbs).trans hc0
      have hcr1 := (hb.cell (p := ⟨b, off + k * 4 + 1, none⟩) hbs).trans hc1
      have hcr2 := (hb.cell (p := ⟨b, off + k * 4 + 2, none⟩) hbs).trans hc2
      have hcr3 := (hb.cell (p := ⟨b, off + k * 4 + 3, none⟩) hbs).trans hc3
      have R : ∀ w1, Below wr.heap.size wr w1 → w1.cell? ⟨w.heap.size, k * 4, none⟩ = some (.int .i64 0) ∧ w1.cell? ⟨w.heap.size, k * 4 + 1, none⟩ = some (.int .i64 0) ∧ w1.cell? ⟨w.heap.size, k * 4 + 2, none⟩ = some (.int .i64 0) ∧ w1.cell? ⟨w.heap.size, k * 4 + 3, none⟩ = some (.int .i64 0) ∧ w1.frozen? ⟨w.heap.size, k * 4, none⟩ = false ∧ w1.frozen? ⟨w.heap.size, k * 4 + 1, none⟩ = false ∧ w1.frozen? ⟨w.heap.size, k * 4 + 2, none⟩ = false ∧ w1.frozen? ⟨w.heap.size, k * 4 + 3, none⟩ = false ∧
          ((((w1.setCell ⟨w.heap.size, k * 4, none⟩ (.int .i64 (xs.getD k se0).1)).setCell ⟨w.heap.size, k * 4 + 1, none⟩ (.int .i64 (xs.getD k se0).2.1)).setCell ⟨w.heap.size, k * 4 + 2, none⟩ (.int .i64 (xs.getD k se0).2.2.1)).setCell ⟨w.heap.size, k * 4 + 3, none⟩ (.int .i64 (xs.getD k se0).2.2.2)).ownsRow w.heap.size 54 4 (.slice (some ⟨w.heap.size, 0, none⟩) n n) n (cop (fours xs) (.int .i64 0) ((k + 1) * 4)) ∧
          Below w.heap.size w ((((w1.setCell ⟨w.heap.size, k * 4, none⟩ (.int .i64 (xs.getD k se0).1)).setCell ⟨w.heap.size, k * 4 + 1, none⟩ (.int .i64 (xs.getD k se0).2.1)).setCell ⟨w.heap.size, k * 4 + 2, none⟩ (.int .i64 (xs.getD k se0).2.2.1)).setCell ⟨w.heap.size, k * 4 + 3, none⟩ (.int .i64 (xs.getD k se0).2.2.2)) := by
        intro w1 hb1
        have ho := owns_below hown hb1
        have hl : (fours xs).length = n * 4 := by rw [fours_len, hx]
        refine ⟨?_, ?_, ?_, ?_, ho.frozenAt _, ho.frozenAt _, ho.frozenAt _, ho.frozenAt _, ?_, ?_⟩
        · rw [ho.cellAt _ (by omega), cop_get _ _ _ _ (by omega) (by omega)]
        · rw [ho.cellAt _ (by omega), cop_get _ _ _ _ (by omega) (by omega)]
        · rw [ho.cellAt _ (by omega), cop_get _ _ _ _ (by omega) (by omega)]
        · rw [ho.cellAt _ (by omega), cop_get _ _ _ _ (by omega) (by omega)]
        · have r := ((((ho.stored (k * 4) (.int .i64 (xs.getD k se0).1)).1.stored (k * 4 + 1) (.int .i64 (xs.getD k se0).2.1)).1.stored (k * 4 + 2) (.int .i64 (xs.getD k se0).2.2.1)).1.stored (k * 4 + 3) (.int .i64 (xs.getD k se0).2.2.2)).1
          rwa [cop_set _ _ _ (k * 4) (by omega) (fours_getD0 xs k (by omega)), cop_set _ _ _ (k * 4 + 1) (by omega) (fours_getD1 xs k (by omega)), cop_set _ _ _ (k * 4 + 2) (by omega) (fours_getD2 xs k (by omega)), cop_set _ _ _ (k * 4 + 3) (by omega) (fours_getD3 xs k (by omega)), show k * 4 + 3 + 1 = (k + 1) * 4 by omega] at r
        · exact (((((below_step hb hb.size hb1).setCell (p := ⟨w.heap.size, k * 4, none⟩) (Nat.le_refl _) _).setCell (p := ⟨w.heap.size, k * 4 + 1, none⟩) (Nat.le_refl _) _).setCell (p := ⟨w.heap.size, k * 4 + 2, none⟩) (Nat.le_refl _) _).setCell (p := ⟨w.heap.size, k * 4 + 3, none⟩) (Nat.le_refl _) _)
      clear hc0 hc1 hc2 hc3 hown hb
      generalize (xs.getD k se0).1 = x0 at *
      generalize (xs.getD k se0).2.1 = x1 at *
      generalize (xs.getD k se0).2.2.1 = x2 at *
      generalize (xs.getD k se0).2.2.2 = x3 at *
      have HR : Hid _ := R
      clear R
      go_wp2_with fail
      refine (toSession_any _ _ _ _ _).mono ?_
      rintro e w1 ⟨rfl, hb1⟩
      obtain ⟨a0, a1, a2, a3, z0, z1, z2, z3, a6, a7⟩ := HR.out w1 hb1
      clear HR hb1 hcr0 hcr1 hcr2 hcr3
      go_wp2
      go_roundw
      case rel => exact ⟨k + 1, by omega, by go_num, a6, a7⟩
      case measure => simp [intOf]; omega
    · go_wp2
      go_ret
      have hkn : k * 4 = (fours xs).length := by rw [fours_len]; omega
      rw [hkn, cop_all] at hown
      exact ⟨rfl, RowAt.of_owns hown (Nat.le_refl _), hb⟩

theorem eqSession_yes (p q k v : Int) (w : World) :
    Calls Try.prog 38 #[.agg #[.int .i64 p, .int .i64 q, .int .i64 k, .int .i64 v], .agg #[.int .i64 p, .int .i64 q, .int .i64 k, .int .i64 v]] w fun e w' => e = .returned (.bool true) ∧ Below w.heap.size w w' := by
  have e1 : (p != p) = false := by simp
  have e2 : (q != q) = false := by simp
  have e3 : (k != k) = false := by simp
  have e4 : (v != v) = false := by simp
  go_enter Try.func38, Try.ntmps38
  go_wp2
  go_ret
  exact ⟨rfl, (((Below.refl _ _).alloc (Nat.le_refl _) _).alloc (by simp) _)⟩

set_option maxRecDepth 20000 in
set_option maxHeartbeats 1600000 in
theorem eqSessions_yes {o1 o2 : Bool} {l1 u1 l2 u2 : Nat} (a1 a2 : Option Addr) (n c1 m c2 : Nat) (xs : List Se) (w : World) (h1 : RowAt w o1 l1 u1 4 a1 n c1 (fours xs)) (h2 : RowAt w o2 l2 u2 4 a2 m c2 (fours xs)) (hn : n ≤ 2097152) :
    Calls Try.prog 30 #[.slice a1 n c1, .slice a2 m c2] w fun e w' => e = .returned (.bool true) ∧ Below w.heap.size w w' := by
  obtain rfl : n = m := by rw [← h1.nFours, ← h2.nFours]
  have hb0 : ((n : Int) != (n : Int)) = false := by simp
  go_enter Try.func30, Try.ntmps30
  go_wp2
  go_loopw [5] (fun i wr => ∃ k : Nat, k ≤ n ∧ i = .int .i64 k ∧ Below w.heap.size w wr) (fun i _ => n - (intOf i).toNat)
  case atStart => exact ⟨0, Nat.zero_le _, rfl, Below.refl _ _⟩
  case round =>
    obtain ⟨k, hk, rfl, hb⟩ := hrel
    by_cases hlt : k < n
    · obtain ⟨b1, o1, rfl, _, _, hs1, e0, e1, e2, e3, _⟩ := h1.four hlt
      obtain ⟨b2, o2, rfl, _, _, hs2, f0, f1, f2, f3, _⟩ := h2.four hlt
      replace e0 := cell_later hb e0
      replace f0 := cell_later hb f0
      replace e1 := cell_later hb e1
      replace f1 := cell_later hb f1
      replace e2 := cell_later hb e2
      replace f2 := cell_later hb f2
      replace e3 := cell_later hb e3
      replace f3 := cell_later hb f3
      have hl : (k : Int) < (n : Int) := by omega
      generalize (xs.getD k se0).1 = x0 at *
      generalize (xs.getD k se0).2.1 = x1 at *
      generalize (xs.getD k se0).2.2.1 = x2 at *
      generalize (xs.getD k se0).2.2.2 = x3 at *
      go_wp2_with fail
      have D : Below wr.heap.size wr wr.drew := (Below.refl _ _).drew
      replace e0 := cell_later D e0
      replace f0 := cell_later D f0
      replace e1 := cell_later D e1
      replace f1 := cell_later D f1
      replace e2 := cell_later D e2
      replace f2 := cell_later D f2
      replace e3 := cell_later D e3
      replace f3 := cell_later D f3
      replace hb := below_step hb hb.size D
      clear D
      go_region_held3 (fun w' => w'.cell? ⟨b1, o1 + k * 4, none⟩ = some (.int .i64 x0) ∧ w'.cell? ⟨b1, o1 + k * 4 + 1, none⟩ = some (.int .i64 x1) ∧ w'.cell? ⟨b1, o1 + k * 4 + 2, none⟩ = some (.int .i64 x2) ∧ w'.cell? ⟨b1, o1 + k * 4 + 3, none⟩ = some (.int .i64 x3) ∧ w'.cell? ⟨b2, o2 + k * 4, none⟩ = some (.int .i64 x0) ∧ w'.cell? ⟨b2, o2 + k * 4 + 1, none⟩ = some (.int .i64 x1) ∧ w'.cell? ⟨b2, o2 + k * 4 + 2, none⟩ = some (.int .i64 x2) ∧ w'.cell? ⟨b2, o2 + k * 4 + 3, none⟩ = some (.int .i64 x3)) (exact ⟨e0, e1, e2, e3, f0, f1, f2, f3⟩) (first | (go_at_call 38; refine (eqSession_yes x0 x1 x2 x3 _).mono ?_; rintro e w1 ⟨rfl, B1⟩; replace e0 := cell_later B1 e0; replace e1 := cell_later B1 e1; replace e2 := cell_later B1 e2; replace e3 := cell_later B1 e3; replace f0 := cell_later B1 f0; replace f1 := cell_later B1 f1; replace f2 := cell_later B1 f2; replace f3 := cell_later B1 f3; replace hb := below_step hb hb.size B1; clear B1))
      clear e0 e1 e2 e3 f0 f1 f2 f3
      go_wp2
      go_roundw
      case rel => exact ⟨k + 1, by omega, by go_num, hb⟩
      case measure => simp [intOf]; omega
    · go_wp2
      go_ret
      exact ⟨rfl, hb⟩

theorem szSessions_left (ao : Option Addr) (n c : Nat) (lt : Int) (w : World) (hn : n ≤ maxLen) (h0 : 0 ≤ lt) (h1 : lt ≤ 1048576) :
    Calls Try.prog 23 #[.slice ao n c, .int .i64 lt] w fun e w' => e = .returned (.int .i64 (if lt < n then -1 else lt - n)) ∧ w' = w := by
  unfold maxLen at hn
  by_cases h : lt < n
  all_goals
    go_enter Try.func23, Try.ntmps23
    go_wp2
    go_ret
    exact ⟨by simp, rfl⟩

end Go.Proofs.Ytedgppggaceopaa
