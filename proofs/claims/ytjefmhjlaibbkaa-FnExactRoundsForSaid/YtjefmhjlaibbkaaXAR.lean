/- Chapter 8: entries in memory: rows of six cells. -/
import Derived.Test.YtjefmhjlaibbkaaQABR
import Derived.Test.YtjefmhjlaibbkaaQACR
import Derived.Test.YtjefmhjlaibbkaaZOR
set_option maxRecDepth 20000
set_option maxHeartbeats 16000000
namespace Go.Proofs.Ytjefmhjlaibbkaa
open Go.RowKit
abbrev En := Int × Int × Int × Int × Int × Int
def en0 : En := (0, 0, 0, 0, 0, 0)
def enF (x : En) (j : Nat) : Int := if j = 0 then x.1 else if j = 1 then x.2.1 else if j = 2 then x.2.2.1 else if j = 3 then x.2.2.2.1 else if j = 4 then x.2.2.2.2.1 else x.2.2.2.2.2
def sixs (xs : List En) : List Value := (List.range (xs.length * 6)).map fun j => .int .i64 (enF (xs.getD (j / 6) en0) (j % 6))
theorem sixs_len (xs : List En) : (sixs xs).length = xs.length * 6 := by simp [sixs]
theorem sixs_get (xs : List En) (k j : Nat) (h : k < xs.length) (hj : j < 6) : (sixs xs).getD (k * 6 + j) default = .int .i64 (enF (xs.getD k en0) j) := by
 have h1 : k * 6 + j < xs.length * 6 := by omega
 have h2 : (k * 6 + j) / 6 = k := by omega
 have h3 : (k * 6 + j) % 6 = j := by omega
 have : (sixs xs).getD (k * 6 + j) default = .int .i64 (enF (xs.getD ((k * 6 + j) / 6) en0) ((k * 6 + j) % 6)) := by simp [sixs, List.getD, h1]
 rw [this, h2, h3]
theorem RowAt.nSixs {w : World} {own : Bool} {lo hi : Nat} {ao : Option Addr} {n cap : Nat} {vs : List En} (h : RowAt w own lo hi 6 ao n cap (sixs vs)) : vs.length = n := by
 have hl := h.len; rw [sixs_len] at hl; omega
theorem RowAt.six {w : World} {own : Bool} {lo hi : Nat} {ao : Option Addr} {n cap : Nat} {vs : List En} (h : RowAt w own lo hi 6 ao n cap (sixs vs)) {i : Nat} (hi' : i < n) :
  ∃ b off, ao = some ⟨b, off, none⟩ ∧ lo ≤ b ∧ b < hi ∧ b < w.heap.size ∧ w.cell? ⟨b, off + i * 6, none⟩ = some (.int .i64 (vs.getD i en0).1) ∧ w.cell? ⟨b, off + i * 6 + 1, none⟩ = some (.int .i64 (vs.getD i en0).2.1) ∧ w.cell? ⟨b, off + i * 6 + 2, none⟩ = some (.int .i64 (vs.getD i en0).2.2.1) ∧ w.cell? ⟨b, off + i * 6 + 3, none⟩ = some (.int .i64 (vs.getD i en0).2.2.2.1) ∧ w.cell? ⟨b, off + i * 6 + 4, none⟩ = some (.int .i64 (vs.getD i en0).2.2.2.2.1) ∧ w.cell? ⟨b, off + i * 6 + 5, none⟩ = some (.int .i64 (vs.getD i en0).2.2.2.2.2) ∧ (own = true → ∀ j, j < 6 → w.frozen? ⟨b, off + (i * 6 + j), none⟩ = false) := by
 obtain ⟨b, off, rfl, g1, g2, g3, g4, g5⟩ := h.cells (by omega)
 have hl := h.nSixs
 have G : ∀ j, j < 6 → w.cell? ⟨b, off + (i * 6 + j), none⟩ = some (.int .i64 (enF (vs.getD i en0) j)) := fun j hj => by
  rw [g4 (i * 6 + j) (by omega), sixs_get vs i j (by omega) hj]
 exact ⟨b, off, rfl, g1, g2, g3, G 0 (by omega), G 1 (by omega), G 2 (by omega), G 3 (by omega), G 4 (by omega), G 5 (by omega), fun ho j hj => g5 ho _ (by omega)⟩
theorem toOp8_any (k v a x : Int) (w : World) :
  Calls Try.prog 101 #[.agg #[.int .i64 k, .int .i64 v, .int .i64 a, .int .i64 x]] w fun e w' => e = .returned (.agg #[.int .i64 k, .int .i64 v, .int .i64 a, .int .i64 x]) ∧ Below w.heap.size w w' := by
 go_enter Try.func101, Try.ntmps101
 go_wp2
 refine bodyPost_ret (v := .agg #[.int .i64 k, .int .i64 v, .int .i64 a, .int .i64 x]) (by simp [results, Try.results101, go_sem]) rfl ⟨rfl, ?_⟩
 exact ((((Below.refl _ _).alloc (Nat.le_refl _) _).alloc (by simp) _).alloc (by simp; omega) _)
theorem toEntry_any (p q k v a x : Int) (w : World) :
  Calls Try.prog 75 #[.agg #[.int .i64 p, .int .i64 q, .int .i64 k, .int .i64 v, .int .i64 a, .int .i64 x]] w fun e w' => e = .returned (.agg #[.int .i64 p, .int .i64 q, .int .i64 k, .int .i64 v, .int .i64 a, .int .i64 x]) ∧ Below w.heap.size w w' := by
 go_enter Try.func75, Try.ntmps75
 go_wp2_with fail
 have B : Below w.heap.size w (((w.alloc (.cells #[.int .i64 p, .int .i64 q, .int .i64 k, .int .i64 v, .int .i64 a, .int .i64 x] 111)).alloc (.cells #[.int .i64 0, .int .i64 0, .int .i64 0, .int .i64 0, .int .i64 0, .int .i64 0] 97)).alloc (.cells #[.int .i64 p, .int .i64 q, .int .i64 0, .int .i64 0, .int .i64 0, .int .i64 0] 97)) := ((Below.refl _ _).alloc (Nat.le_refl _) _ |>.alloc (by simp) _ |>.alloc (by simp; omega) _)
 have H2 : Hid (w.heap.size + 1 + 1 < (((w.alloc (.cells #[.int .i64 p, .int .i64 q, .int .i64 k, .int .i64 v, .int .i64 a, .int .i64 x] 111)).alloc (.cells #[.int .i64 0, .int .i64 0, .int .i64 0, .int .i64 0, .int .i64 0, .int .i64 0] 97)).alloc (.cells #[.int .i64 p, .int .i64 q, .int .i64 0, .int .i64 0, .int .i64 0, .int .i64 0] 97)).heap.size) := by show _ < _; simp
 have c0 : (((w.alloc (.cells #[.int .i64 p, .int .i64 q, .int .i64 k, .int .i64 v, .int .i64 a, .int .i64 x] 111)).alloc (.cells #[.int .i64 0, .int .i64 0, .int .i64 0, .int .i64 0, .int .i64 0, .int .i64 0] 97)).alloc (.cells #[.int .i64 p, .int .i64 q, .int .i64 0, .int .i64 0, .int .i64 0, .int .i64 0] 97)).cell? ⟨w.heap.size + 1, 0, none⟩ = some (.int .i64 0) := by simp [go_sem]
 have d0 : (((w.alloc (.cells #[.int .i64 p, .int .i64 q, .int .i64 k, .int .i64 v, .int .i64 a, .int .i64 x] 111)).alloc (.cells #[.int .i64 0, .int .i64 0, .int .i64 0, .int .i64 0, .int .i64 0, .int .i64 0] 97)).alloc (.cells #[.int .i64 p, .int .i64 q, .int .i64 0, .int .i64 0, .int .i64 0, .int .i64 0] 97)).cell? ⟨w.heap.size + 1 + 1, 0, none⟩ = some (.int .i64 p) := by simp [go_sem]
 have y0 : (((w.alloc (.cells #[.int .i64 p, .int .i64 q, .int .i64 k, .int .i64 v, .int .i64 a, .int .i64 x] 111)).alloc (.cells #[.int .i64 0, .int .i64 0, .int .i64 0, .int .i64 0, .int .i64 0, .int .i64 0] 97)).alloc (.cells #[.int .i64 p, .int .i64 q, .int .i64 0, .int .i64 0, .int .i64 0, .int .i64 0] 97)).frozen? ⟨w.heap.size + 1, 0, none⟩ = false := by simp [go_sem]
 have z0 : (((w.alloc (.cells #[.int .i64 p, .int .i64 q, .int .i64 k, .int .i64 v, .int .i64 a, .int .i64 x] 111)).alloc (.cells #[.int .i64 0, .int .i64 0, .int .i64 0, .int .i64 0, .int .i64 0, .int .i64 0] 97)).alloc (.cells #[.int .i64 p, .int .i64 q, .int .i64 0, .int .i64 0, .int .i64 0, .int .i64 0] 97)).frozen? ⟨w.heap.size + 1 + 1, 0, none⟩ = false := by simp [go_sem]
 have c1 : (((w.alloc (.cells #[.int .i64 p, .int .i64 q, .int .i64 k, .int .i64 v, .int .i64 a, .int .i64 x] 111)).alloc (.cells #[.int .i64 0, .int .i64 0, .int .i64 0, .int .i64 0, .int .i64 0, .int .i64 0] 97)).alloc (.cells #[.int .i64 p, .int .i64 q, .int .i64 0, .int .i64 0, .int .i64 0, .int .i64 0] 97)).cell? ⟨w.heap.size + 1, 1, none⟩ = some (.int .i64 0) := by simp [go_sem]
 have d1 : (((w.alloc (.cells #[.int .i64 p, .int .i64 q, .int .i64 k, .int .i64 v, .int .i64 a, .int .i64 x] 111)).alloc (.cells #[.int .i64 0, .int .i64 0, .int .i64 0, .int .i64 0, .int .i64 0, .int .i64 0] 97)).alloc (.cells #[.int .i64 p, .int .i64 q, .int .i64 0, .int .i64 0, .int .i64 0, .int .i64 0] 97)).cell? ⟨w.heap.size + 1 + 1, 1, none⟩ = some (.int .i64 q) := by simp [go_sem]
 have y1 : (((w.alloc (.cells #[.int .i64 p, .int .i64 q, .int .i64 k, .int .i64 v, .int .i64 a, .int .i64 x] 111)).alloc (.cells #[.int .i64 0, .int .i64 0, .int .i64 0, .int .i64 0, .int .i64 0, .int .i64 0] 97)).alloc (.cells #[.int .i64 p, .int .i64 q, .int .i64 0, .int .i64 0, .int .i64 0, .int .i64 0] 97)).frozen? ⟨w.heap.size + 1, 1, none⟩ = false := by simp [go_sem]
 have z1 : (((w.alloc (.cells #[.int .i64 p, .int .i64 q, .int .i64 k, .int .i64 v, .int .i64 a, .int .i64 x] 111)).alloc (.cells #[.int .i64 0, .int .i64 0, .int .i64 0, .int .i64 0, .int .i64 0, .int .i64 0] 97)).alloc (.cells #[.int .i64 p, .int .i64 q, .int .i64 0, .int .i64 0, .int .i64 0, .int .i64 0] 97)).frozen? ⟨w.heap.size + 1 + 1, 1, none⟩ = false := by simp [go_sem]
 have c2 : (((w.alloc (.cells #[.int .i64 p, .int .i64 q, .int .i64 k, .int .i64 v, .int .i64 a, .int .i64 x] 111)).alloc (.cells #[.int .i64 0, .int .i64 0, .int .i64 0, .int .i64 0, .int .i64 0, .int .i64 0] 97)).alloc (.cells #[.int .i64 p, .int .i64 q, .int .i64 0, .int .i64 0, .int .i64 0, .int .i64 0] 97)).cell? ⟨w.heap.size + 1, 2, none⟩ = some (.int .i64 0) := by simp [go_sem]
 have d2 : (((w.alloc (.cells #[.int .i64 p, .int .i64 q, .int .i64 k, .int .i64 v, .int .i64 a, .int .i64 x] 111)).alloc (.cells #[.int .i64 0, .int .i64 0, .int .i64 0, .int .i64 0, .int .i64 0, .int .i64 0] 97)).alloc (.cells #[.int .i64 p, .int .i64 q, .int .i64 0, .int .i64 0, .int .i64 0, .int .i64 0] 97)).cell? ⟨w.heap.size + 1 + 1, 2, none⟩ = some (.int .i64 0) := by simp [go_sem]
 have y2 : (((w.alloc (.cells #[.int .i64 p, .int .i64 q, .int .i64 k, .int .i64 v, .int .i64 a, .int .i64 x] 111)).alloc (.cells #[.int .i64 0, .int .i64 0, .int .i64 0, .int .i64 0, .int .i64 0, .int .i64 0] 97)).alloc (.cells #[.int .i64 p, .int .i64 q, .int .i64 0, .int .i64 0, .int .i64 0, .int .i64 0] 97)).frozen? ⟨w.heap.size + 1, 2, none⟩ = false := by simp [go_sem]
 have z2 : (((w.alloc (.cells #[.int .i64 p, .int .i64 q, .int .i64 k, .int .i64 v, .int .i64 a, .int .i64 x] 111)).alloc (.cells #[.int .i64 0, .int .i64 0, .int .i64 0, .int .i64 0, .int .i64 0, .int .i64 0] 97)).alloc (.cells #[.int .i64 p, .int .i64 q, .int .i64 0, .int .i64 0, .int .i64 0, .int .i64 0] 97)).frozen? ⟨w.heap.size + 1 + 1, 2, none⟩ = false := by simp [go_sem]
 have c3 : (((w.alloc (.cells #[.int .i64 p, .int .i64 q, .int .i64 k, .int .i64 v, .int .i64 a, .int .i64 x] 111)).alloc (.cells #[.int .i64 0, .int .i64 0, .int .i64 0, .int .i64 0, .int .i64 0, .int .i64 0] 97)).alloc (.cells #[.int .i64 p, .int .i64 q, .int .i64 0, .int .i64 0, .int .i64 0, .int .i64 0] 97)).cell? ⟨w.heap.size + 1, 3, none⟩ = some (.int .i64 0) := by simp [go_sem]
 have d3 : (((w.alloc (.cells #[.int .i64 p, .int .i64 q, .int .i64 k, .int .i64 v, .int .i64 a, .int .i64 x] 111)).alloc (.cells #[.int .i64 0, .int .i64 0, .int .i64 0, .int .i64 0, .int .i64 0, .int .i64 0] 97)).alloc (.cells #[.int .i64 p, .int .i64 q, .int .i64 0, .int .i64 0, .int .i64 0, .int .i64 0] 97)).cell? ⟨w.heap.size + 1 + 1, 3, none⟩ = some (.int .i64 0) := by simp [go_sem]
 have y3 : (((w.alloc (.cells #[.int .i64 p, .int .i64 q, .int .i64 k, .int .i64 v, .int .i64 a, .int .i64 x] 111)).alloc (.cells #[.int .i64 0, .int .i64 0, .int .i64 0, .int .i64 0, .int .i64 0, .int .i64 0] 97)).alloc (.cells #[.int .i64 p, .int .i64 q, .int .i64 0, .int .i64 0, .int .i64 0, .int .i64 0] 97)).frozen? ⟨w.heap.size + 1, 3, none⟩ = false := by simp [go_sem]
 have z3 : (((w.alloc (.cells #[.int .i64 p, .int .i64 q, .int .i64 k, .int .i64 v, .int .i64 a, .int .i64 x] 111)).alloc (.cells #[.int .i64 0, .int .i64 0, .int .i64 0, .int .i64 0, .int .i64 0, .int .i64 0] 97)).alloc (.cells #[.int .i64 p, .int .i64 q, .int .i64 0, .int .i64 0, .int .i64 0, .int .i64 0] 97)).frozen? ⟨w.heap.size + 1 + 1, 3, none⟩ = false := by simp [go_sem]
 have c4 : (((w.alloc (.cells #[.int .i64 p, .int .i64 q, .int .i64 k, .int .i64 v, .int .i64 a, .int .i64 x] 111)).alloc (.cells #[.int .i64 0, .int .i64 0, .int .i64 0, .int .i64 0, .int .i64 0, .int .i64 0] 97)).alloc (.cells #[.int .i64 p, .int .i64 q, .int .i64 0, .int .i64 0, .int .i64 0, .int .i64 0] 97)).cell? ⟨w.heap.size + 1, 4, none⟩ = some (.int .i64 0) := by simp [go_sem]
 have d4 : (((w.alloc (.cells #[.int .i64 p, .int .i64 q, .int .i64 k, .int .i64 v, .int .i64 a, .int .i64 x] 111)).alloc (.cells #[.int .i64 0, .int .i64 0, .int .i64 0, .int .i64 0, .int .i64 0, .int .i64 0] 97)).alloc (.cells #[.int .i64 p, .int .i64 q, .int .i64 0, .int .i64 0, .int .i64 0, .int .i64 0] 97)).cell? ⟨w.heap.size + 1 + 1, 4, none⟩ = some (.int .i64 0) := by simp [go_sem]
 have y4 : (((w.alloc (.cells #[.int .i64 p, .int .i64 q, .int .i64 k, .int .i64 v, .int .i64 a, .int .i64 x] 111)).alloc (.cells #[.int .i64 0, .int .i64 0, .int .i64 0, .int .i64 0, .int .i64 0, .int .i64 0] 97)).alloc (.cells #[.int .i64 p, .int .i64 q, .int .i64 0, .int .i64 0, .int .i64 0, .int .i64 0] 97)).frozen? ⟨w.heap.size + 1, 4, none⟩ = false := by simp [go_sem]
 have z4 : (((w.alloc (.cells #[.int .i64 p, .int .i64 q, .int .i64 k, .int .i64 v, .int .i64 a, .int .i64 x] 111)).alloc (.cells #[.int .i64 0, .int .i64 0, .int .i64 0, .int .i64 0, .int .i64 0, .int .i64 0] 97)).alloc (.cells #[.int .i64 p, .int .i64 q, .int .i64 0, .int .i64 0, .int .i64 0, .int .i64 0] 97)).frozen? ⟨w.heap.size + 1 + 1, 4, none⟩ = false := by simp [go_sem]
 have c5 : (((w.alloc (.cells #[.int .i64 p, .int .i64 q, .int .i64 k, .int .i64 v, .int .i64 a, .int .i64 x] 111)).alloc (.cells #[.int .i64 0, .int .i64 0, .int .i64 0, .int .i64 0, .int .i64 0, .int .i64 0] 97)).alloc (.cells #[.int .i64 p, .int .i64 q, .int .i64 0, .int .i64 0, .int .i64 0, .int .i64 0] 97)).cell? ⟨w.heap.size + 1, 5, none⟩ = some (.int .i64 0) := by simp [go_sem]
 have d5 : (((w.alloc (.cells #[.int .i64 p, .int .i64 q, .int .i64 k, .int .i64 v, .int .i64 a, .int .i64 x] 111)).alloc (.cells #[.int .i64 0, .int .i64 0, .int .i64 0, .int .i64 0, .int .i64 0, .int .i64 0] 97)).alloc (.cells #[.int .i64 p, .int .i64 q, .int .i64 0, .int .i64 0, .int .i64 0, .int .i64 0] 97)).cell? ⟨w.heap.size + 1 + 1, 5, none⟩ = some (.int .i64 0) := by simp [go_sem]
 have y5 : (((w.alloc (.cells #[.int .i64 p, .int .i64 q, .int .i64 k, .int .i64 v, .int .i64 a, .int .i64 x] 111)).alloc (.cells #[.int .i64 0, .int .i64 0, .int .i64 0, .int .i64 0, .int .i64 0, .int .i64 0] 97)).alloc (.cells #[.int .i64 p, .int .i64 q, .int .i64 0, .int .i64 0, .int .i64 0, .int .i64 0] 97)).frozen? ⟨w.heap.size + 1, 5, none⟩ = false := by simp [go_sem]
 have z5 : (((w.alloc (.cells #[.int .i64 p, .int .i64 q, .int .i64 k, .int .i64 v, .int .i64 a, .int .i64 x] 111)).alloc (.cells #[.int .i64 0, .int .i64 0, .int .i64 0, .int .i64 0, .int .i64 0, .int .i64 0] 97)).alloc (.cells #[.int .i64 p, .int .i64 q, .int .i64 0, .int .i64 0, .int .i64 0, .int .i64 0] 97)).frozen? ⟨w.heap.size + 1 + 1, 5, none⟩ = false := by simp [go_sem]
 generalize ((w.alloc (.cells #[.int .i64 p, .int .i64 q, .int .i64 k, .int .i64 v, .int .i64 a, .int .i64 x] 111)).alloc (.cells #[.int .i64 0, .int .i64 0, .int .i64 0, .int .i64 0, .int .i64 0, .int .i64 0] 97)).alloc (.cells #[.int .i64 p, .int .i64 q, .int .i64 0, .int .i64 0, .int .i64 0, .int .i64 0] 97) = W at *
 refine (toOp8_any k v a x _).mono ?_
 rintro e w1 ⟨rfl, hb⟩
 replace c0 := cell_later hb c0
 replace d0 := cell_later hb d0
 replace y0 := frozen_later hb (by have := H2.out; omega) y0
 replace z0 := frozen_later hb H2.out z0
 replace c1 := cell_later hb c1
 replace d1 := cell_later hb d1
 replace y1 := frozen_later hb (by have := H2.out; omega) y1
 replace z1 := frozen_later hb H2.out z1
 replace c2 := cell_later hb c2
 replace d2 := cell_later hb d2
 replace y2 := frozen_later hb (by have := H2.out; omega) y2
 replace z2 := frozen_later hb H2.out z2
 replace c3 := cell_later hb c3
 replace d3 := cell_later hb d3
 replace y3 := frozen_later hb (by have := H2.out; omega) y3
 replace z3 := frozen_later hb H2.out z3
 replace c4 := cell_later hb c4
 replace d4 := cell_later hb d4
 replace y4 := frozen_later hb (by have := H2.out; omega) y4
 replace z4 := frozen_later hb H2.out z4
 replace c5 := cell_later hb c5
 replace d5 := cell_later hb d5
 replace y5 := frozen_later hb (by have := H2.out; omega) y5
 replace z5 := frozen_later hb H2.out z5
 replace B := below_next B hb
 clear hb H2
 go_wp2
 refine bodyPost_ret (v := .agg #[.int .i64 p, .int .i64 q, .int .i64 k, .int .i64 v, .int .i64 a, .int .i64 x]) (by simp [results, Try.results75, go_sem, *]) rfl ⟨rfl, ?_⟩
 repeat (with_reducible refine Below.setCell ?_ (by simp <;> omega) _)
 exact B
theorem Try.infoEntry : (Try.prog.info? 97).map (fun i => (i.zero, i.size, i.bytes)) = some (some (.agg #[.int .i64 0, .int .i64 0, .int .i64 0, .int .i64 0, .int .i64 0, .int .i64 0]), 6, 48) := by kernel_rfl
theorem made6 (n : Nat) : (madeCells #[.int .i64 0, .int .i64 0, .int .i64 0, .int .i64 0, .int .i64 0, .int .i64 0] (n * 6)).toList = List.replicate (n * 6) (.int .i64 0) := by
 apply List.ext_getElem?
 intro j
 by_cases hj : j < n * 6
 ·have : j % 6 = 0 ∨ j % 6 = 1 ∨ j % 6 = 2 ∨ j % 6 = 3 ∨ j % 6 = 4 ∨ j % 6 = 5 := by omega
  rcases this with e | e | e | e | e | e <;> simp [madeCells, hj, e]
 ·simp [madeCells, hj]
theorem sixs_getD0 (vs : List En) (k : Nat) (h : k < vs.length) : (sixs vs).getD (k * 6) default = .int .i64 (vs.getD k en0).1 := sixs_get vs k 0 h (by omega)
theorem sixs_getD1 (vs : List En) (k : Nat) (h : k < vs.length) : (sixs vs).getD (k * 6 + 1) default = .int .i64 (vs.getD k en0).2.1 := sixs_get vs k 1 h (by omega)
theorem sixs_getD2 (vs : List En) (k : Nat) (h : k < vs.length) : (sixs vs).getD (k * 6 + 2) default = .int .i64 (vs.getD k en0).2.2.1 := sixs_get vs k 2 h (by omega)
theorem sixs_getD3 (vs : List En) (k : Nat) (h : k < vs.length) : (sixs vs).getD (k * 6 + 3) default = .int .i64 (vs.getD k en0).2.2.2.1 := sixs_get vs k 3 h (by omega)
theorem sixs_getD4 (vs : List En) (k : Nat) (h : k < vs.length) : (sixs vs).getD (k * 6 + 4) default = .int .i64 (vs.getD k en0).2.2.2.2.1 := sixs_get vs k 4 h (by omega)
theorem sixs_getD5 (vs : List En) (k : Nat) (h : k < vs.length) : (sixs vs).getD (k * 6 + 5) default = .int .i64 (vs.getD k en0).2.2.2.2.2 := sixs_get vs k 5 h (by omega)
theorem eqOp8_yes (k v a x : Int) (w : World) :
  Calls Try.prog 109 #[.agg #[.int .i64 k, .int .i64 v, .int .i64 a, .int .i64 x], .agg #[.int .i64 k, .int .i64 v, .int .i64 a, .int .i64 x]] w fun e w' => e = .returned (.bool true) ∧ Below w.heap.size w w' := by
 have e1 : (k != k) = false := by simp
 have e2 : (v != v) = false := by simp
 have e3 : (a != a) = false := by simp
 have e4 : (x != x) = false := by simp
 go_enter Try.func109, Try.ntmps109
 go_wp2
 go_ret
 exact ⟨rfl, (((Below.refl _ _).alloc (Nat.le_refl _) _).alloc (by simp) _)⟩
theorem eqEntry_yes (p q k v a x : Int) (w : World) :
  Calls Try.prog 81 #[.agg #[.int .i64 p, .int .i64 q, .int .i64 k, .int .i64 v, .int .i64 a, .int .i64 x], .agg #[.int .i64 p, .int .i64 q, .int .i64 k, .int .i64 v, .int .i64 a, .int .i64 x]] w fun e w' => e = .returned (.bool true) ∧ Below w.heap.size w w' := by
 have e1 : (p != p) = false := by simp
 have e2 : (q != q) = false := by simp
 go_enter Try.func81, Try.ntmps81
 go_wp2_with fail
 refine (eqOp8_yes k v a x _).mono ?_
 rintro e w1 ⟨rfl, hb⟩
 have B : Below w.heap.size w w1 := below_next (((Below.refl _ _).alloc (Nat.le_refl _) _).alloc (by simp) _) hb
 clear hb
 go_wp2
 go_ret
 exact ⟨rfl, B⟩
theorem eqEntries_yes {o1 o2 : Bool} {l1 u1 l2 u2 : Nat} (a1 a2 : Option Addr) (n c1 m c2 : Nat) (xs : List En) (w : World) (h1 : RowAt w o1 l1 u1 6 a1 n c1 (sixs xs)) (h2 : RowAt w o2 l2 u2 6 a2 m c2 (sixs xs)) (hn : n ≤ 2097152) :
  Calls Try.prog 43 #[.slice a1 n c1, .slice a2 m c2] w fun e w' => e = .returned (.bool true) ∧ Below w.heap.size w w' := by
 obtain rfl : n = m := by rw [← h1.nSixs, ← h2.nSixs]
 have hb0 : ((n : Int) != (n : Int)) = false := by simp
 go_enter Try.func43, Try.ntmps43
 go_wp2
 go_loopw [5] (fun i wr => ∃ k : Nat, k ≤ n ∧ i = .int .i64 k ∧ Below w.heap.size w wr) (fun i _ => n - (intOf i).toNat)
 case atStart => exact ⟨0, Nat.zero_le _, rfl, Below.refl _ _⟩
 case round =>
  obtain ⟨k, hk, rfl, hb⟩ := hrel
  by_cases hlt : k < n
  ·obtain ⟨b1, o1, rfl, _, _, hs1, e0, e1, e2, e3, e4, e5, _⟩ := h1.six hlt
   obtain ⟨b2, o2, rfl, _, _, hs2, f0, f1, f2, f3, f4, f5, _⟩ := h2.six hlt
   replace e0 := cell_later hb e0
   replace f0 := cell_later hb f0
   replace e1 := cell_later hb e1
   replace f1 := cell_later hb f1
   replace e2 := cell_later hb e2
   replace f2 := cell_later hb f2
   replace e3 := cell_later hb e3
   replace f3 := cell_later hb f3
   replace e4 := cell_later hb e4
   replace f4 := cell_later hb f4
   replace e5 := cell_later hb e5
   replace f5 := cell_later hb f5
   have hl : (k : Int) < (n : Int) := by omega
   generalize (xs.getD k en0).1 = x0 at *
   generalize (xs.getD k en0).2.1 = x1 at *
   generalize (xs.getD k en0).2.2.1 = x2 at *
   generalize (xs.getD k en0).2.2.2.1 = x3 at *
   generalize (xs.getD k en0).2.2.2.2.1 = x4 at *
   generalize (xs.getD k en0).2.2.2.2.2 = x5 at *
   go_wp2_with fail
   have D : Below wr.heap.size wr wr.drew := (Below.refl _ _).drew
   replace e0 := cell_later D e0
   replace f0 := cell_later D f0
   replace e1 := cell_later D e1
   replace f1 := cell_later D f1
   replace e2 := cell_later D e2
   replace f2 := cell_later D f2
   replace e3 := cell_later D e3
   replace f3 := cell_later D f3
   replace e4 := cell_later D e4
   replace f4 := cell_later D f4
   replace e5 := cell_later D e5
   replace f5 := cell_later D f5
   replace hb := below_step hb hb.size D
   clear D
   go_region_held3 (fun w' => w'.cell? ⟨b1, o1 + k * 6, none⟩ = some (.int .i64 x0) ∧ w'.cell? ⟨b1, o1 + k * 6 + 1, none⟩ = some (.int .i64 x1) ∧ w'.cell? ⟨b1, o1 + k * 6 + 2, none⟩ = some (.int .i64 x2) ∧ w'.cell? ⟨b1, o1 + k * 6 + 3, none⟩ = some (.int .i64 x3) ∧ w'.cell? ⟨b1, o1 + k * 6 + 4, none⟩ = some (.int .i64 x4) ∧ w'.cell? ⟨b1, o1 + k * 6 + 5, none⟩ = some (.int .i64 x5) ∧ w'.cell? ⟨b2, o2 + k * 6, none⟩ = some (.int .i64 x0) ∧ w'.cell? ⟨b2, o2 + k * 6 + 1, none⟩ = some (.int .i64 x1) ∧ w'.cell? ⟨b2, o2 + k * 6 + 2, none⟩ = some (.int .i64 x2) ∧ w'.cell? ⟨b2, o2 + k * 6 + 3, none⟩ = some (.int .i64 x3) ∧ w'.cell? ⟨b2, o2 + k * 6 + 4, none⟩ = some (.int .i64 x4) ∧ w'.cell? ⟨b2, o2 + k * 6 + 5, none⟩ = some (.int .i64 x5)) (exact ⟨e0, e1, e2, e3, e4, e5, f0, f1, f2, f3, f4, f5⟩) (first | (go_at_call 81; refine (eqEntry_yes x0 x1 x2 x3 x4 x5 _).mono ?_; rintro e w1 ⟨rfl, B1⟩; replace e0 := cell_later B1 e0; replace e1 := cell_later B1 e1; replace e2 := cell_later B1 e2; replace e3 := cell_later B1 e3; replace e4 := cell_later B1 e4; replace e5 := cell_later B1 e5; replace f0 := cell_later B1 f0; replace f1 := cell_later B1 f1; replace f2 := cell_later B1 f2; replace f3 := cell_later B1 f3; replace f4 := cell_later B1 f4; replace f5 := cell_later B1 f5; replace hb := below_step hb hb.size B1; clear B1))
   clear e0 e1 e2 e3 e4 e5 f0 f1 f2 f3 f4 f5
   go_wp2
   go_roundw
   case rel => exact ⟨k + 1, by omega, by go_num, hb⟩
   case measure => simp [intOf]; omega
  ·go_wp2
   go_ret
   exact ⟨rfl, hb⟩
theorem szEntries_left (ao : Option Addr) (n c : Nat) (lt : Int) (w : World) (hn : n ≤ maxLen) (h0 : 0 ≤ lt) (h1 : lt ≤ 1048576) :
  Calls Try.prog 33 #[.slice ao n c, .int .i64 lt] w fun e w' => e = .returned (.int .i64 (if lt < n then -1 else lt - n)) ∧ w' = w := by
 unfold maxLen at hn
 by_cases h : lt < n
 all_goals
  go_enter Try.func33, Try.ntmps33
  go_wp2
  go_ret
  exact ⟨by simp, rfl⟩
def enFault (x : En) : Int := if (1 ≤ x.1 ∧ x.1 ≤ 99) ∧ (1 ≤ x.2.1 ∧ x.2.1 ≤ 999) then opF x.2.2.1 x.2.2.2.1 x.2.2.2.2.1 x.2.2.2.2.2 else 3
theorem decide_eq_false_eq {q : Prop} [Decidable q] : (decide q = false) = ¬ q := by simp
theorem isClient_is (x : Int) (w : World) (d : Bool) (h : decide (1 ≤ x ∧ x ≤ 99) = d) : Calls Try.prog 122 #[.int .i64 x] w fun e w' => e = .returned (.bool d) ∧ w' = w := by
 by_cases h1 : 1 ≤ x
 ·by_cases h2 : x ≤ 99
  ·have e : d = true := by rw [← h]; exact decide_eq_true ⟨h1, h2⟩
   subst e
   clear h
   go_enter Try.func122, Try.ntmps122
   go_wp2
   go_ret
   exact ⟨rfl, rfl⟩
  ·have e : d = false := by rw [← h]; exact decide_eq_false (by omega)
   subst e
   clear h
   go_enter Try.func122, Try.ntmps122
   go_wp2
   go_ret
   exact ⟨rfl, rfl⟩
 ·have e : d = false := by rw [← h]; exact decide_eq_false (by omega)
  subst e
  clear h
  go_enter Try.func122, Try.ntmps122
  go_wp2
  go_ret
  exact ⟨rfl, rfl⟩
theorem isSeq_is (x : Int) (w : World) (d : Bool) (h : decide (1 ≤ x ∧ x ≤ 999) = d) : Calls Try.prog 123 #[.int .i64 x] w fun e w' => e = .returned (.bool d) ∧ w' = w := by
 by_cases h1 : 1 ≤ x
 ·by_cases h2 : x ≤ 999
  ·have e : d = true := by rw [← h]; exact decide_eq_true ⟨h1, h2⟩
   subst e
   clear h
   go_enter Try.func123, Try.ntmps123
   go_wp2
   go_ret
   exact ⟨rfl, rfl⟩
  ·have e : d = false := by rw [← h]; exact decide_eq_false (by omega)
   subst e
   clear h
   go_enter Try.func123, Try.ntmps123
   go_wp2
   go_ret
   exact ⟨rfl, rfl⟩
 ·have e : d = false := by rw [← h]; exact decide_eq_false (by omega)
  subst e
  clear h
  go_enter Try.func123, Try.ntmps123
  go_wp2
  go_ret
  exact ⟨rfl, rfl⟩
theorem specEF_is (p q k v a x : Int) (w : World) (d : Int) (hd : enFault (p, q, k, v, a, x) = d) : Calls Try.prog 92 #[.agg #[.int .i64 p, .int .i64 q, .int .i64 k, .int .i64 v, .int .i64 a, .int .i64 x]] w fun e w' => e = .returned (.int .i64 d) ∧ Below w.heap.size w w' := by
 have HD : Hid _ := hd
 clear hd
 have B : Below w.heap.size w (w.alloc (.cells #[.int .i64 p, .int .i64 q, .int .i64 k, .int .i64 v, .int .i64 a, .int .i64 x] 97)) := (Below.refl _ _).alloc (Nat.le_refl _) _
 have c0 : (w.alloc (.cells #[.int .i64 p, .int .i64 q, .int .i64 k, .int .i64 v, .int .i64 a, .int .i64 x] 97)).cell? ⟨w.heap.size, 0, none⟩ = some (.int .i64 p) := by simp
 have c1 : (w.alloc (.cells #[.int .i64 p, .int .i64 q, .int .i64 k, .int .i64 v, .int .i64 a, .int .i64 x] 97)).cell? ⟨w.heap.size, 1, none⟩ = some (.int .i64 q) := by simp
 have c2 : (w.alloc (.cells #[.int .i64 p, .int .i64 q, .int .i64 k, .int .i64 v, .int .i64 a, .int .i64 x] 97)).cell? ⟨w.heap.size, 2, none⟩ = some (.int .i64 k) := by simp
 have c3 : (w.alloc (.cells #[.int .i64 p, .int .i64 q, .int .i64 k, .int .i64 v, .int .i64 a, .int .i64 x] 97)).cell? ⟨w.heap.size, 3, none⟩ = some (.int .i64 v) := by simp
 have c4 : (w.alloc (.cells #[.int .i64 p, .int .i64 q, .int .i64 k, .int .i64 v, .int .i64 a, .int .i64 x] 97)).cell? ⟨w.heap.size, 4, none⟩ = some (.int .i64 a) := by simp
 have c5 : (w.alloc (.cells #[.int .i64 p, .int .i64 q, .int .i64 k, .int .i64 v, .int .i64 a, .int .i64 x] 97)).cell? ⟨w.heap.size, 5, none⟩ = some (.int .i64 x) := by simp
 go_enter Try.func92, Try.ntmps92
 by_cases h1 : 1 ≤ p ∧ p ≤ 99
 ·by_cases h2 : 1 ≤ q ∧ q ≤ 999
  ·have H : Hid (opF k v a x = d) := by show _ = _; rw [← HD.out]; unfold enFault; rw [if_pos ⟨h1, h2⟩]
   go_wp2_with fail
   refine (l1In_is' p 1 99 _ true (by simp only [decide_eq_true_eq]; omega)).mono ?_
   rintro e1 W ⟨rfl, rfl⟩
   go_wp2_with fail
   refine (l1In_is' q 1 999 _ true (by simp only [decide_eq_true_eq]; omega)).mono ?_
   rintro e1 W ⟨rfl, rfl⟩
   clear HD
   go_wp2_with fail
   refine (specOpF_is k v a x _ d H.out).mono ?_
   rintro e2 w2 ⟨rfl, hb⟩
   replace B := below_next B hb
   clear hb c0 c1 c2 c3 c4 c5
   go_wp2
   go_ret
   exact ⟨rfl, B⟩
  ·have H : d = 3 := by rw [← HD.out]; unfold enFault; rw [if_neg (fun h => h2 h.2)]
   subst H
   go_wp2_with fail
   refine (l1In_is' p 1 99 _ true (by simp only [decide_eq_true_eq]; omega)).mono ?_
   rintro e1 W ⟨rfl, rfl⟩
   go_wp2_with fail
   refine (l1In_is' q 1 999 _ false (by simp only [decide_eq_false_eq]; omega)).mono ?_
   rintro e1 W ⟨rfl, rfl⟩
   go_wp2
   go_ret
   exact ⟨rfl, B⟩
 ·have H : d = 3 := by rw [← HD.out]; unfold enFault; rw [if_neg (fun h => h1 h.1)]
  subst H
  go_wp2_with fail
  refine (l1In_is' p 1 99 _ false (by simp only [decide_eq_false_eq]; omega)).mono ?_
  rintro e1 W ⟨rfl, rfl⟩
  go_wp2
  go_ret
  exact ⟨rfl, B⟩
theorem implEF_is (p q k v a x : Int) (w : World) (d : Int) (hd : enFault (p, q, k, v, a, x) = d) : Calls Try.prog 105 #[.agg #[.int .i64 p, .int .i64 q, .int .i64 k, .int .i64 v, .int .i64 a, .int .i64 x]] w fun e w' => e = .returned (.int .i64 d) ∧ Below w.heap.size w w' := by
 have HD : Hid _ := hd
 clear hd
 have B : Below w.heap.size w (w.alloc (.cells #[.int .i64 p, .int .i64 q, .int .i64 k, .int .i64 v, .int .i64 a, .int .i64 x] 97)) := (Below.refl _ _).alloc (Nat.le_refl _) _
 have c0 : (w.alloc (.cells #[.int .i64 p, .int .i64 q, .int .i64 k, .int .i64 v, .int .i64 a, .int .i64 x] 97)).cell? ⟨w.heap.size, 0, none⟩ = some (.int .i64 p) := by simp
 have c1 : (w.alloc (.cells #[.int .i64 p, .int .i64 q, .int .i64 k, .int .i64 v, .int .i64 a, .int .i64 x] 97)).cell? ⟨w.heap.size, 1, none⟩ = some (.int .i64 q) := by simp
 have c2 : (w.alloc (.cells #[.int .i64 p, .int .i64 q, .int .i64 k, .int .i64 v, .int .i64 a, .int .i64 x] 97)).cell? ⟨w.heap.size, 2, none⟩ = some (.int .i64 k) := by simp
 have c3 : (w.alloc (.cells #[.int .i64 p, .int .i64 q, .int .i64 k, .int .i64 v, .int .i64 a, .int .i64 x] 97)).cell? ⟨w.heap.size, 3, none⟩ = some (.int .i64 v) := by simp
 have c4 : (w.alloc (.cells #[.int .i64 p, .int .i64 q, .int .i64 k, .int .i64 v, .int .i64 a, .int .i64 x] 97)).cell? ⟨w.heap.size, 4, none⟩ = some (.int .i64 a) := by simp
 have c5 : (w.alloc (.cells #[.int .i64 p, .int .i64 q, .int .i64 k, .int .i64 v, .int .i64 a, .int .i64 x] 97)).cell? ⟨w.heap.size, 5, none⟩ = some (.int .i64 x) := by simp
 go_enter Try.func105, Try.ntmps105
 by_cases h1 : 1 ≤ p ∧ p ≤ 99
 ·by_cases h2 : 1 ≤ q ∧ q ≤ 999
  ·have H : Hid (opF k v a x = d) := by show _ = _; rw [← HD.out]; unfold enFault; rw [if_pos ⟨h1, h2⟩]
   go_wp2_with fail
   refine (isClient_is p _ true (by simp only [decide_eq_true_eq]; omega)).mono ?_
   rintro e1 W ⟨rfl, rfl⟩
   go_wp2_with fail
   refine (isSeq_is q _ true (by simp only [decide_eq_true_eq]; omega)).mono ?_
   rintro e1 W ⟨rfl, rfl⟩
   clear HD
   go_wp2_with fail
   refine (implOpF_is k v a x _ d H.out).mono ?_
   rintro e2 w2 ⟨rfl, hb⟩
   replace B := below_next B hb
   clear hb c0 c1 c2 c3 c4 c5
   go_wp2
   go_ret
   exact ⟨rfl, B⟩
  ·have H : d = 3 := by rw [← HD.out]; unfold enFault; rw [if_neg (fun h => h2 h.2)]
   subst H
   go_wp2_with fail
   refine (isClient_is p _ true (by simp only [decide_eq_true_eq]; omega)).mono ?_
   rintro e1 W ⟨rfl, rfl⟩
   go_wp2_with fail
   refine (isSeq_is q _ false (by simp only [decide_eq_false_eq]; omega)).mono ?_
   rintro e1 W ⟨rfl, rfl⟩
   go_wp2
   go_ret
   exact ⟨rfl, B⟩
 ·have H : d = 3 := by rw [← HD.out]; unfold enFault; rw [if_neg (fun h => h1 h.1)]
  subst H
  go_wp2_with fail
  refine (isClient_is p _ false (by simp only [decide_eq_false_eq]; omega)).mono ?_
  rintro e1 W ⟨rfl, rfl⟩
  go_wp2
  go_ret
  exact ⟨rfl, B⟩
end Go.Proofs.Ytjefmhjlaibbkaa
