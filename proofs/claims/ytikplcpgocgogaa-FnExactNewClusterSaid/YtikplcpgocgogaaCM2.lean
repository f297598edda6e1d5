/- Chapter 11: lists of nodes held by the laws. -/
import Derived.Test.YtikplcpgocgogaaCM0
namespace Go.Proofs.Ytikplcpgocgogaa
open Go.RowKit

set_option maxRecDepth 20000 in
set_option maxHeartbeats 8000000 in
theorem heldNods_any {o : Bool} {lo hi : Nat} (ao : Option Addr) (n cap : Nat) (xs : List Nod) (k : Int) (w : World) (x : LAt nodeK w o lo hi ao n cap (mkTo k xs n)) (hk0 : 0 ≤ k) (hk1 : k + 6 * (nsum xs : Int) ≤ 12000000) :
    Calls Try.prog 155 #[.slice ao n cap, .int .i64 k] w fun e w' => e = .returned (.int .i64 (qAt k xs n)) ∧ w' = w := by
  have hxl : xs.length = n := by rw [← mkTo_len xs k n]; exact x.len
  have hn : n ≤ 12000000 := by
    have : ∀ ys : List Nod, ys.length ≤ nsum ys := fun ys => by
      induction ys with
      | nil => simp [nsum]
      | cons a t ih => simp only [List.length_cons, nsum]; omega
    have := this xs
    omega
  have HXL : Hid _ := hxl
  clear hxl
  go_enter Try.func155, Try.ntmps155
  go_wp2
  go_loopw [1, 5] (fun v j wr => ∃ i : Nat, i ≤ n ∧ j = .int .i64 i ∧ v = .int .i64 (qAt k xs i) ∧ wr = w) (fun _ j _ => n - (intOf j).toNat)
  case atStart => exact ⟨0, Nat.zero_le _, rfl, by cases xs <;> rfl, rfl⟩
  case round =>
    obtain ⟨i, hi', rfl, rfl, rfl⟩ := hrel
    by_cases hlt : i < n
    · have hlk : (i : Int) < (n : Int) := by omega
      have hxi : i < xs.length := by rw [HXL.out]; exact hlt
      obtain ⟨⟨r, h⟩, ex⟩ : ∃ a, xs[i]? = some a := ⟨_, List.getElem?_eq_getElem hxi⟩
      have ey : (mkTo k xs n)[i]? = some (mkRep h (qAt k xs i), h) := mkTo_done xs k n i _ hlt ex
      obtain ⟨r0, h0, b, off, ez, rfl, _, _, X0, y0, _⟩ := x.node hlt
      rw [ey] at ez
      simp only [Option.some.injEq, Prod.mk.injEq] at ez
      obtain ⟨rfl, rfl⟩ := ez
      have q1 := qAt_le xs k i
      have q2 := qAt_more xs k i _ ex
      have q3 := rsum_sz h
      have q3L := q3.L
      have q3O := q3.O
      have q3A := q3.A
      have q3D := q3.D
      have q3K : Hid _ := q3.K
      simp only at q2
      clear q3
      have HNX : Hid (qAt k xs (i + 1) = qN h (qAt k xs i)) := qAt_next xs k i _ ex
      clear ex ey
      generalize hq : qAt k xs i = q at *
      have HQ : Hid _ := hq
      clear hq
      have q0 : 0 ≤ q := by omega
      have q4 : q + 6 * ((1 + rsum h : Nat) : Int) ≤ 12000000 := by omega
      have HQN := qN_le h q
      have HQ2 : Hid _ := HQN
      have HO0 : Hid (qO h q = q + 6 + 6 * (h.L.2.1 : Int)) := rfl
      clear q1 q2
      have n1 : ¬ (q + 5 + 6 * (h.L.2.1 : Int)) < 0 := by omega
      have n2 : ¬ qA h q < 0 := by omega
      have n3 : ¬ qD h q < 0 := by omega
      have n4 : ¬ qN h q < 0 := by omega
      clear HQN
      have HV : Hid (∀ j : Int, 0 ≤ j → j ≤ 20 → IntKind.i64.wrap (q + j) = q + j) := fun j _ _ => wrapI_same _ (by omega)
      have v1 : IntKind.i64.wrap (q + 1) = q + 1 := HV.out 1 (by decide) (by decide)
      have v2 : IntKind.i64.wrap (q + 2) = q + 2 := HV.out 2 (by decide) (by decide)
      have v3 : IntKind.i64.wrap (q + 3) = q + 3 := HV.out 3 (by decide) (by decide)
      have v4 : IntKind.i64.wrap (q + 4) = q + 4 := HV.out 4 (by decide) (by decide)
      have v5 : IntKind.i64.wrap (q + 5) = q + 5 := HV.out 5 (by decide) (by decide)
      have a2 : q + 1 + 1 = q + 2 := Int.add_assoc q 1 1
      have a3 : q + 2 + 1 = q + 3 := Int.add_assoc q 2 1
      have a4 : q + 3 + 1 = q + 4 := Int.add_assoc q 3 1
      have a5 : q + 4 + 1 = q + 5 := Int.add_assoc q 4 1
      have r3 : Int.tmod (q + 3) 3 = q % 3 := by (rw [Int.tmod_eq_emod_of_nonneg (by omega)]; omega)
      have y3 : IntKind.i64.wrap (q % 3) = q % 3 := wrapI_same _ (by omega)
      have HW6 : Hid (IntKind.i64.wrap (q + 5 + 6 * (h.L.2.1 : Int) + 1) = qO h q) := by show _ = _; rw [wrapI_same _ (by omega)]; unfold qO; omega
      have e0 : (q != q) = false := by simp
      have e1 : (q + 1 != q + 1) = false := by simp
      have e2 : (q + 2 != q + 2) = false := by simp
      have e4 : (q + 4 != q + 4) = false := by simp
      have e3 : ((q % 3 == 0) != (q % 3 == 0)) = false := by simp
      have X : Ro wr b (off + i * 10) [.int .i64 q, .int .i64 (q + 1), .int .i64 (q + 2), .bool (q % 3 == 0), .int .i64 (q + 4), .slice h.L.1 h.L.2.1 h.L.2.2, .int .i64 (q + 5 + 6 * (h.L.2.1 : Int)), .slice h.O.1 h.O.2.1 h.O.2.2, .slice h.A.1 h.A.2.1 h.A.2.2, .slice h.D.1 h.D.2.1 h.D.2.2] := X0
      have cX := X.cell
      clear X0
      have HY : Hid _ := y0
      clear y0
      go_wp2_with fail
      refine (heldEntries_any _ _ _ (q + 5) _ HY.out.log (by omega) (by omega) (by omega)).mono ?_
      rintro e W9 ⟨rfl, rfl⟩
      clear v1 v2 v3 v4 v5 a2 a3 a4 a5 r3 y3 e0 e1 e2 e3 e4
      have w6 := HW6.out
      have e6 : (q + 5 + 6 * (h.L.2.1 : Int) != q + 5 + 6 * (h.L.2.1 : Int)) = false := by simp
      go_wp2_with fail
      clear w6 e6
      refine (heldInts_any _ _ _ (qO h q) _ HY.out.oks (by omega) (by have := HQ2.out; omega) (by have := HQ2.out; omega)).mono ?_
      rintro e W9 ⟨rfl, rfl⟩
      rw [show qO h q + (h.O.2.1 : Int) = qA h q from rfl]
      go_wp2_with fail
      refine (heldBools_any _ _ _ (qA h q) _ HY.out.asks (by omega) (by have := HQ2.out; omega) (by have := HQ2.out; omega)).mono ?_
      rintro e W9 ⟨rfl, rfl⟩
      rw [show qA h q + (h.A.2.1 : Int) = qD h q from rfl]
      go_wp2_with fail
      refine (heldDoerS_any _ _ _ h.K (fun _ => []) (qD h q) _ (HY.out.doers.els.congr (fun i j hi hj => mkDrs_F _ _ _ _ _ hi hj) (fun i hi => mkDrs_L _ _ _ _ _ hi)) (by omega) (fun j hj => Nat.le_trans (q3K.out j hj) (by omega)) (by have := HQ2.out; omega) (by have := HQ2.out; omega)).mono ?_
      rintro e W9 ⟨rfl, rfl⟩
      rw [show kE 3 h.K (qD h q) h.D.2.1 = qN h q from rfl]
      have HN : Hid (qN h q = qAt k xs (i + 1)) := by
        show _ = _
        first | rw [HNX.out, HQ.out] | rw [HNX.out]
      clear HY HNX HQ
      go_wp2
      go_roundw
      case rel => exact ⟨i + 1, by omega, by go_num, by rw [HN.out], trivial⟩
      case measure => simp [intOf]; omega
    · obtain rfl : i = n := by omega
      go_wp2
      go_ret
      exact ⟨rfl, rfl⟩

end Go.Proofs.Ytikplcpgocgogaa
