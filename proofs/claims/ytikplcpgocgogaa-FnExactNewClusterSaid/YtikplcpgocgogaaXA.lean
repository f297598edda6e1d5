/- Chapter 8: entries in memory: rows of six cells. -/
import Derived.Test.YtikplcpgocgogaaZM
import Derived.Test.YtikplcpgocgogaaYE
import Derived.Test.YtikplcpgocgogaaO1b
import Derived.Laws.Tables
import Derived.Deep.WholeRow
namespace Go.Proofs.Ytikplcpgocgogaa
open Go.RowKit

abbrev En := Int × Int × Int × Int × Int × Int
def en0 : En := (0, 0, 0, 0, 0, 0)
def enF (x : En) (j : Nat) : Int := if j = 0 then x.1 else if j = 1 then x.2.1 else if j = 2 then x.2.2.1 else if j = 3 then x.2.2.2.1 else if j = 4 then x.2.2.2.2.1 else x.2.2.2.2.2
def sixs (xs : List En) : List Value := (List.range (xs.length * 6)).map fun j => .int .i64 (enF (xs.getD (j / 6) en0) (j % 6))
theorem sixs_len (xs : List En) : (sixs xs).length = xs.length * 6 := by simp [sixs]
theorem sixs_get (xs : List En) (k j : Nat) (h : k < xs.length) (hj : j < 6) : (sixs xs).getD (k * 6 + j) default = .int .i64 (enF (xs.getD k en0) j) := by
  have h1 : k * 6 + j < xs.length * 6 := by omega
  have h2 : (k * 6 + j) / 6 = k := by omega
  have h3 : (k * 6 + j) % 6 = j := by omega
  have : (sixs xs).getD (k * 6 + j) default = .int .i64 (enF (xs.getD ((k * 6 + j) / 6) en0) ((k * 6 + j) % 6)) := by simp [sixs, List.getD, h1]
  rw [this, h2, h3]
theorem RowAt.nSixs {w : World} {own : Bool} {lo hi : Nat} {ao : Option Addr} {n cap : Nat} {vs : List En} (h : RowAt w own lo hi 6 ao n cap (sixs vs)) : vs.length = n := by
  have hl := h.len; rw [sixs_len] at hl; omega
theorem RowAt.six {w : World} {own : Bool} {lo hi : Nat} {ao : Option Addr} {n cap : Nat} {vs : List En} (h : RowAt w own lo hi 6 ao n cap (sixs vs)) {i : Nat} (hi' : i < n) :
    ∃ b off, ao = some ⟨b, off, none⟩ ∧ lo ≤ b ∧ b < hi ∧ b < w.heap.size ∧ w.cell? ⟨b, off + i * 6, none⟩ = some (.int .i64 (vs.getD i en0).1) ∧ w.cell? ⟨b, off + i * 6 + 1, none⟩ = some (.int .i64 (vs.getD i en0).2.1) ∧ w.cell? ⟨b, off + i * 6 + 2, none⟩ = some (.int .i64 (vs.getD i en0).2.2.1) ∧ w.cell? ⟨b, off + i * 6 + 3, none⟩ = some (.int .i64 (vs.getD i en0).2.2.2.1) ∧ w.cell? ⟨b, off + i * 6 + 4, none⟩ = some (.int .i64 (vs.getD i en0).2.2.2.2.1) ∧ w.cell? ⟨b, off + i * 6 + 5, none⟩ = some (.int .i64 (vs.getD i en0).2.2.2.2.2) ∧ (own = true → ∀ j, j < 6 → w.frozen? ⟨b, off + (i * 6 + j), none⟩ = false) := by
  obtain ⟨b, off, rfl, g1, g2, g3, g4, g5⟩ := h.cells (by omega)
  have hl := h.nSixs
  have G : ∀ j, j < 6 → w.cell? ⟨b, off + (i * 6 + j), none⟩ = some (.int .i64 (enF (vs.getD i en0) j)) := fun j hj => by
    rw [g4 (i * 6 + j) (by omega), sixs_get vs i j (by omega) hj]
  exact ⟨b, off, rfl, g1, g2, g3, G 0 (by omega), G 1 (by omega), G 2 (by omega), G 3 (by omega), G 4 (by omega), G 5 (by omega), fun ho j hj => g5 ho _ (by omega)⟩

end Go.Proofs.Ytikplcpgocgogaa

/- Chapter 8: entries copied and compared by the laws. -/
namespace Go.Proofs.Ytikplcpgocgogaa
open Go.RowKit

theorem eqOp8_yes (k v a x : Int) (w : World) :
    Calls Try.prog 147 #[.agg #[.int .i64 k, .int .i64 v, .int .i64 a, .int .i64 x], .agg #[.int .i64 k, .int .i64 v, .int .i64 a, .int .i64 x]] w fun e w' => e = .returned (.bool true) ∧ Below w.heap.size w w' := by
  have e1 : (k != k) = false := by simp
  have e2 : (v != v) = false := by simp
  have e3 : (a != a) = false := by simp
  have e4 : (x != x) = false := by simp
  go_enter Try.func147, Try.ntmps147
  go_wp2
  go_ret
  exact ⟨rfl, (((Below.refl _ _).alloc (Nat.le_refl _) _).alloc (by simp) _)⟩
theorem eqEntry_yes (p q k v a x : Int) (w : World) :
    Calls Try.prog 93 #[.agg #[.int .i64 p, .int .i64 q, .int .i64 k, .int .i64 v, .int .i64 a, .int .i64 x], .agg #[.int .i64 p, .int .i64 q, .int .i64 k, .int .i64 v, .int .i64 a, .int .i64 x]] w fun e w' => e = .returned (.bool true) ∧ Below w.heap.size w w' := by
  have e1 : (p != p) = false := by simp
  have e2 : (q != q) = false := by simp
  go_enter Try.func93, Try.ntmps93
  go_wp2_with fail
  refine (eqOp8_yes k v a x _).mono ?_
  rintro e w1 ⟨rfl, hb⟩
  have B : Below w.heap.size w w1 := below_next (((Below.refl _ _).alloc (Nat.le_refl _) _).alloc (by simp) _) hb
  clear hb
  go_wp2
  go_ret
  exact ⟨rfl, B⟩

set_option maxRecDepth 20000 in
set_option maxHeartbeats 1600000 in
theorem eqEntries_yes {o1 o2 : Bool} {l1 u1 l2 u2 : Nat} (a1 a2 : Option Addr) (n c1 m c2 : Nat) (xs : List En) (w : World) (h1 : RowAt w o1 l1 u1 6 a1 n c1 (sixs xs)) (h2 : RowAt w o2 l2 u2 6 a2 m c2 (sixs xs)) (hn : n ≤ 2097152) :
    Calls Try.prog 89 #[.slice a1 n c1, .slice a2 m c2] w fun e w' => e = .returned (.bool true) ∧ Below w.heap.size w w' := by
  obtain rfl : n = m := by rw [← h1.nSixs, ← h2.nSixs]
  have hb0 : ((n : Int) != (n : Int)) = false := by simp
  go_enter Try.func89, Try.ntmps89
  go_wp2
  go_loopw [5] (fun i wr => ∃ k : Nat, k ≤ n ∧ i = .int .i64 k ∧ Below w.heap.size w wr) (fun i _ => n - (intOf i).toNat)
  case atStart => exact ⟨0, Nat.zero_le _, rfl, Below.refl _ _⟩
  case round =>
    obtain ⟨k, hk, rfl, hb⟩ := hrel
    by_cases hlt : k < n
    · obtain ⟨b1, o1, rfl, _, _, hs1, e0, e1, e2, e3, e4, e5, _⟩ := h1.six hlt
      obtain ⟨b2, o2, rfl, _, _, hs2, f0, f1, f2, f3, f4, f5, _⟩ := h2.six hlt
      replace e0 := cell_later hb e0
      replace f0 := cell_later hb f0
      replace e1 := cell_later hb e1
      replace f1 := cell_later hb f1
      replace e2 := cell_later hb e2
      replace f2 := cell_later hb f2
      replace e3 := cell_later hb e3
      replace f3 := cell_later hb f3
      replace e4 := cell_later hb e4
      replace f4 := cell_later hb f4
      replace e5 := cell_later hb e5
      replace f5 := cell_later hb f5
      have hl : (k : Int) < (n : Int) := by omega
      generalize (xs.getD k en0).1 = x0 at *
      generalize (xs.getD k en0).2.1 = x1 at *
      generalize (xs.getD k en0).2.2.1 = x2 at *
      generalize (xs.getD k en0).2.2.2.1 = x3 at *
      generalize (xs.getD k en0).2.2.2.2.1 = x4 at *
      generalize (xs.getD k en0).2.2.2.2.2 = x5 at *
      go_wp2_with fail
      have D : Below wr.heap.size wr wr.drew := (Below.refl _ _).drew
      replace e0 := cell_later D e0
      replace f0 := cell_later D f0
      replace e1 := cell_later D e1
      replace f1 := cell_later D f1
      replace e2 := cell_later D e2
      replace f2 := cell_later D f2
      replace e3 := cell_later D e3
      replace f3 := cell_later D f3
      replace e4 := cell_later D e4
      replace f4 := cell_later D f4
      replace e5 := cell_later D e5
      replace f5 := cell_later D f5
      replace hb := below_step hb hb.size D
      clear D
      go_region_held3 (fun w' => w'.cell? ⟨b1, o1 + k * 6, none⟩ = some (.int .i64 x0) ∧ w'.cell? ⟨b1, o1 + k * 6 + 1, none⟩ = some (.int .i64 x1) ∧ w'.cell? ⟨b1, o1 + k * 6 + 2, none⟩ = some (.int .i64 x2) ∧ w'.cell? ⟨b1, o1 + k * 6 + 3, none⟩ = some (.int .i64 x3) ∧ w'.cell? ⟨b1, o1 + k * 6 + 4, none⟩ = some (.int .i64 x4) ∧ w'.cell? ⟨b1, o1 + k * 6 + 5, none⟩ = some (.int .i64 x5) ∧ w'.cell? ⟨b2, o2 + k * 6, none⟩ = some (.int .i64 x0) ∧ w'.cell? ⟨b2, o2 + k * 6 + 1, none⟩ = some (.int .i64 x1) ∧ w'.cell? ⟨b2, o2 + k * 6 + 2, none⟩ = some (.int .i64 x2) ∧ w'.cell? ⟨b2, o2 + k * 6 + 3, none⟩ = some (.int .i64 x3) ∧ w'.cell? ⟨b2, o2 + k * 6 + 4, none⟩ = some (.int .i64 x4) ∧ w'.cell? ⟨b2, o2 + k * 6 + 5, none⟩ = some (.int .i64 x5)) (exact ⟨e0, e1, e2, e3, e4, e5, f0, f1, f2, f3, f4, f5⟩) (first | (go_at_call 93; refine (eqEntry_yes x0 x1 x2 x3 x4 x5 _).mono ?_; rintro e w1 ⟨rfl, B1⟩; replace e0 := cell_later B1 e0; replace e1 := cell_later B1 e1; replace e2 := cell_later B1 e2; replace e3 := cell_later B1 e3; replace e4 := cell_later B1 e4; replace e5 := cell_later B1 e5; replace f0 := cell_later B1 f0; replace f1 := cell_later B1 f1; replace f2 := cell_later B1 f2; replace f3 := cell_later B1 f3; replace f4 := cell_later B1 f4; replace f5 := cell_later B1 f5; replace hb := below_step hb hb.size B1; clear B1))
      clear e0 e1 e2 e3 e4 e5 f0 f1 f2 f3 f4 f5
      go_wp2
      go_roundw
      case rel => exact ⟨k + 1, by omega, by go_num, hb⟩
      case measure => simp [intOf]; omega
    · go_wp2
      go_ret
      exact ⟨rfl, hb⟩

end Go.Proofs.Ytikplcpgocgogaa

/- Chapter 8: the fault of an entry, of the model and of the program. -/
namespace Go.Proofs.Ytikplcpgocgogaa
open Go.RowKit

theorem decide_eq_false_eq {q : Prop} [Decidable q] : (decide q = false) = ¬ q := by simp
end Go.Proofs.Ytikplcpgocgogaa
