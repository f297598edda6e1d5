/- Chapter 9: doers copied, compared and counted by the laws. -/
import Derived.Test.YtikplcpgocgogaaWA
import Derived.Test.YtikplcpgocgogaaXA
namespace Go.Proofs.Ytikplcpgocgogaa
open Go.RowKit

theorem RowAt.tightG {w : World} {own : Bool} {lo hi size g o n cap : Nat} {cs : List Value} (h : RowAt w own lo hi size (some ⟨g, o, none⟩) n cap cs) : RowAt w own g (g + 1) size (some ⟨g, o, none⟩) n cap cs := by
  refine ⟨h.len, h.le, fun hn => ?_⟩
  obtain ⟨b, off, e, h1, h2, h3, h4, h5⟩ := h.cells hn
  simp only [Option.some.injEq, Addr.mk.injEq, and_true] at e
  obtain ⟨rfl, rfl⟩ := e
  exact ⟨_, _, rfl, Nat.le_refl _, Nat.lt_succ_self _, h3, h4, h5⟩
set_option maxRecDepth 20000 in
set_option maxHeartbeats 2000000 in
theorem eqDoer_yes {o1 o2 : Bool} {l1 u1 l2 u2 : Nat} (kn : Bool) (la cm : Int) (a1 a2 : Option Addr) (n d1 m d2 : Nat) (xs : List En) (w : World) (h1 : RowAt w o1 l1 u1 6 a1 n d1 (sixs xs)) (h2 : RowAt w o2 l2 u2 6 a2 m d2 (sixs xs)) (hn : n ≤ 2097152) :
    Calls Try.prog 146 #[.agg #[.bool kn, .int .i64 la, .slice a1 n d1, .int .i64 cm], .agg #[.bool kn, .int .i64 la, .slice a2 m d2, .int .i64 cm]] w fun e w' => e = .returned (.bool true) ∧ Below w.heap.size w w' := by
  have e1 : (kn != kn) = false := by simp
  have e2 : (la != la) = false := by simp
  have e3 : (cm != cm) = false := by simp
  go_enter Try.func146, Try.ntmps146
  go_wp2_with (first | ((have g := ob0); clear g; (with_reducible refine box_newX 52 [.bool kn, .int .i64 la, .slice a2 m d2, .int .i64 cm] rfl ?_); intro b1 W1 N1; have ob1 : w.heap.size ≤ b1 := Nat.le_trans B.size N1.ge; have o0_b1 : b0 < b1 := Nat.lt_of_lt_of_le X0.lt N1.ge; replace X0 := X0.below N1.below; replace c0 := X0.cell; replace B := below_next B N1.below; have X1 := N1.bx; have c1 := X1.cell; clear N1) | ((with_reducible refine box_newX 52 [.bool kn, .int .i64 la, .slice a1 n d1, .int .i64 cm] rfl ?_); intro b0 W0 N0; have ob0 : w.heap.size ≤ b0 := N0.ge; have B := N0.below; have X0 := N0.bx; have c0 := X0.cell; clear N0) | fail)
  refine (eqEntries_yes a1 a2 n d1 m d2 xs _ (h1.below B) (h2.below B) hn).mono ?_
  rintro e w1 ⟨rfl, BB⟩
  replace X0 := X0.below BB
  replace c0 := X0.cell
  replace X1 := X1.below BB
  replace c1 := X1.cell
  replace B := below_next B BB
  clear BB
  go_wp2
  go_ret
  exact ⟨rfl, B⟩
set_option maxRecDepth 20000 in
set_option maxHeartbeats 2000000 in
theorem eqDoers_yes {o1 o2 : Bool} {l1 u1 l2 u2 : Nat} (a1 a2 : Option Addr) (n c1 m c2 : Nat) (K1 K2 : Nat → Hd) (ds : List Dr) (w : World) (h1 : DoersAt w o1 l1 u1 a1 n c1 K1 ds) (h2 : DoersAt w o2 l2 u2 a2 m c2 K2 ds) (hn : n ≤ 2097152) (hm : ∀ i, i < n → (K1 i).2.1 ≤ 2097152) :
    Calls Try.prog 92 #[.slice a1 n c1, .slice a2 m c2] w fun e w' => e = .returned (.bool true) ∧ Below w.heap.size w w' := by
  obtain rfl : n = m := by rw [← h1.len, ← h2.len]
  have hb0 : ((n : Int) != (n : Int)) = false := by simp
  have HM : Hid _ := hm
  clear hm
  go_enter Try.func92, Try.ntmps92
  go_wp2
  go_loopw [5] (fun i wr => ∃ k : Nat, k ≤ n ∧ i = .int .i64 k ∧ Below w.heap.size w wr) (fun i _ => n - (intOf i).toNat)
  case atStart => exact ⟨0, Nat.zero_le _, rfl, Below.refl _ _⟩
  case round =>
    obtain ⟨k, hk, rfl, hb⟩ := hrel
    by_cases hlt : k < n
    · have hlk : (k : Int) < (n : Int) := by omega
      have D : Below wr.heap.size wr wr.drew := (Below.refl _ _).drew
      replace hb := below_next hb D
      clear D
      obtain ⟨b1, f1, rfl, _, _, _, e0, e1, e2, e3, _⟩ := h1.doer hlt
      obtain ⟨b2, f2, rfl, _, _, _, d0, d1, d2, d3, _⟩ := h2.doer hlt
      have g1 := (h1.els.logs k hlt).below hb
      have g2 := (h2.els.logs k hlt).below hb
      have hmk := HM.out k hlt
      replace e0 := cell_later hb e0
      replace e1 := cell_later hb e1
      replace e2 := cell_later hb e2
      replace e3 := cell_later hb e3
      replace d0 := cell_later hb d0
      replace d1 := cell_later hb d1
      replace d2 := cell_later hb d2
      replace d3 := cell_later hb d3
      unfold drL at g1 g2
      generalize K1 k = q1 at *
      generalize K2 k = q2 at *
      generalize ds.getD k dr0 = d at *
      obtain ⟨p1, m1, t1⟩ := q1
      obtain ⟨p2, m2, t2⟩ := q2
      obtain ⟨kn, la, xs, cm⟩ := d
      simp only at e0 e1 e2 e3 d0 d1 d2 d3 g1 g2 hmk
      go_wp2_with fail
      go_region_held3 (fun w' => w'.cell? ⟨b1, f1 + k * 4, none⟩ = some (.bool kn) ∧ w'.cell? ⟨b1, f1 + k * 4 + 1, none⟩ = some (.int .i64 la) ∧ w'.cell? ⟨b1, f1 + k * 4 + 2, none⟩ = some (.slice p1 m1 t1) ∧ w'.cell? ⟨b1, f1 + k * 4 + 3, none⟩ = some (.int .i64 cm) ∧ w'.cell? ⟨b2, f2 + k * 4, none⟩ = some (.bool kn) ∧ w'.cell? ⟨b2, f2 + k * 4 + 1, none⟩ = some (.int .i64 la) ∧ w'.cell? ⟨b2, f2 + k * 4 + 2, none⟩ = some (.slice p2 m2 t2) ∧ w'.cell? ⟨b2, f2 + k * 4 + 3, none⟩ = some (.int .i64 cm)) (exact ⟨e0, e1, e2, e3, d0, d1, d2, d3⟩) (first | (go_at_call 146; refine (eqDoer_yes kn la cm _ _ _ _ _ _ xs _ g1 g2 hmk).mono ?_; rintro e w3 ⟨rfl, hb3⟩; replace e0 := cell_later hb3 e0; replace e1 := cell_later hb3 e1; replace e2 := cell_later hb3 e2; replace e3 := cell_later hb3 e3; replace d0 := cell_later hb3 d0; replace d1 := cell_later hb3 d1; replace d2 := cell_later hb3 d2; replace d3 := cell_later hb3 d3; replace hb := below_next hb hb3; clear hb3))
      clear e0 e1 e2 e3 d0 d1 d2 d3 g1 g2
      go_wp2
      go_roundw
      case rel => exact ⟨k + 1, by omega, by go_num, hb⟩
      case measure => simp [intOf]; omega
    · obtain rfl : k = n := by omega
      go_wp2
      go_ret
      exact ⟨rfl, hb⟩
end Go.Proofs.Ytikplcpgocgogaa

/- Chapter 9: replicas copied, compared and counted by the laws. -/
namespace Go.Proofs.Ytikplcpgocgogaa
open Go.RowKit

set_option maxRecDepth 20000 in
set_option maxHeartbeats 2000000 in
theorem eqReplica_yes {o1 o2 : Bool} {l1 u1 l2 u2 : Nat} (r : Rep) (h k : RH) (w : World) (x : RepAt w o1 l1 u1 h r) (y : RepAt w o2 l2 u2 k r) (hs : RSz h 2097152) :
    Calls Try.prog 28 #[.agg #[.int .i64 r.id, .int .i64 r.size, .int .i64 r.view, .bool r.normal, .int .i64 r.last, .slice h.L.1 h.L.2.1 h.L.2.2, .int .i64 r.commit, .slice h.O.1 h.O.2.1 h.O.2.2, .slice h.A.1 h.A.2.1 h.A.2.2, .slice h.D.1 h.D.2.1 h.D.2.2], .agg #[.int .i64 r.id, .int .i64 r.size, .int .i64 r.view, .bool r.normal, .int .i64 r.last, .slice k.L.1 k.L.2.1 k.L.2.2, .int .i64 r.commit, .slice k.O.1 k.O.2.1 k.O.2.2, .slice k.A.1 k.A.2.1 k.A.2.2, .slice k.D.1 k.D.2.1 k.D.2.2]] w fun e w' => e = .returned (.bool true) ∧ Below w.heap.size w w' := by
  have e0 : (r.id != r.id) = false := by simp
  have e1 : (r.size != r.size) = false := by simp
  have e2 : (r.view != r.view) = false := by simp
  have e3 : (r.normal != r.normal) = false := by simp
  have e4 : (r.last != r.last) = false := by simp
  have e5 : (r.commit != r.commit) = false := by simp
  have HS : Hid (∀ i, i < h.D.2.1 → (h.K i).2.1 ≤ 2097152) := hs.K
  have hk : k.O.2.1 ≤ 2097152 := by rw [← y.oks.nInts, x.oks.nInts]; exact hs.O
  go_enter Try.func28, Try.ntmps28
  go_wp2_with (first | ((have g := ob0); clear g; (with_reducible refine box_newX 29 [.int .i64 r.id, .int .i64 r.size, .int .i64 r.view, .bool r.normal, .int .i64 r.last, .slice k.L.1 k.L.2.1 k.L.2.2, .int .i64 r.commit, .slice k.O.1 k.O.2.1 k.O.2.2, .slice k.A.1 k.A.2.1 k.A.2.2, .slice k.D.1 k.D.2.1 k.D.2.2] rfl ?_); intro b1 W1 N1; have ob1 : w.heap.size ≤ b1 := Nat.le_trans B.size N1.ge; have o0_b1 : b0 < b1 := Nat.lt_of_lt_of_le X0.lt N1.ge; replace X0 := X0.below N1.below; replace c0 := X0.cell; replace B := below_next B N1.below; have X1 := N1.bx; have c1 := X1.cell; clear N1) | ((with_reducible refine box_newX 29 [.int .i64 r.id, .int .i64 r.size, .int .i64 r.view, .bool r.normal, .int .i64 r.last, .slice h.L.1 h.L.2.1 h.L.2.2, .int .i64 r.commit, .slice h.O.1 h.O.2.1 h.O.2.2, .slice h.A.1 h.A.2.1 h.A.2.2, .slice h.D.1 h.D.2.1 h.D.2.2] rfl ?_); intro b0 W0 N0; have ob0 : w.heap.size ≤ b0 := N0.ge; have B := N0.below; have X0 := N0.bx; have c0 := X0.cell; clear N0) | fail)
  refine (eqEntries_yes _ _ _ _ _ _ r.log _ (x.log.below B) (y.log.below B) hs.L).mono ?_
  rintro e w1 ⟨rfl, BB⟩
  replace X0 := X0.below BB
  replace c0 := X0.cell
  replace X1 := X1.below BB
  replace c1 := X1.cell
  replace B := below_next B BB
  clear BB
  go_wp2_with fail
  refine (eqInts_is _ _ _ _ _ _ r.oks r.oks _ (x.oks.below B) (y.oks.below B) hs.O hk true (by simp)).mono ?_
  rintro e w2 ⟨rfl, BB⟩
  replace X0 := X0.below BB
  replace c0 := X0.cell
  replace X1 := X1.below BB
  replace c1 := X1.cell
  replace B := below_next B BB
  clear BB
  go_wp2_with fail
  refine (eqBools_yes _ _ _ _ _ _ r.asks _ (x.asks.below B) (y.asks.below B) hs.A).mono ?_
  rintro e w3 ⟨rfl, BB⟩
  replace X0 := X0.below BB
  replace c0 := X0.cell
  replace X1 := X1.below BB
  replace c1 := X1.cell
  replace B := below_next B BB
  clear BB
  go_wp2_with fail
  refine (eqDoers_yes _ _ _ _ _ _ h.K k.K r.doers _ (x.doers.below B) (y.doers.below B) hs.D HS.out).mono ?_
  rintro e w4 ⟨rfl, BB⟩
  replace X0 := X0.below BB
  replace c0 := X0.cell
  replace X1 := X1.below BB
  replace c1 := X1.cell
  replace B := below_next B BB
  clear BB
  go_wp2
  go_ret
  exact ⟨rfl, B⟩

end Go.Proofs.Ytikplcpgocgogaa
